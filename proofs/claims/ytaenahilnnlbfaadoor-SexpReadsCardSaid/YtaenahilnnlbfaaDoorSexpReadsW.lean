/-
  The walk of the law SexpReads. Conditions: the library's table of powers of ten holds what its text lays.
-/
import Derived.Test.YtaenahilnnlbfaaDoorRefGet
import Derived.Deep.RegionHeld3
set_option linter.unusedVariables false
namespace Go.Proofs.YtaenahilnnlbfaaDoor
open Go Go.Proofs Go.RowKit Sx

theorem pGet_ok {b : List UInt8} {t : SX} {p : Nat} (h : pGet b = (t, p, 0)) : form t = b ∧ may t = true ∧ p = 0 :=
  pGet_sound h (fun r hr => by
    have := (pVal_kind _).1 _ _ _ _ _ hr (Nat.le_refl _) (by omega)
    omega)
theorem pGet_le {b : List UInt8} {t : SX} {p k : Nat} (h : pGet b = (t, p, k)) : k ≤ 5 := by
  unfold pGet at h
  split at h
  · injection h with _ h; injection h with _ h; omega
  · split at h
    · rename_i e r he
      injection h with _ h; injection h with _ h
      have := (pVal_kind _).1 _ _ _ _ _ he (Nat.le_refl _) (by omega)
      omega
    · split at h
      · injection h with _ h; injection h with _ h; omega
      · injection h with _ h; injection h with _ h; omega

set_option maxHeartbeats 4000000 in
set_option maxRecDepth 100000 in
theorem reads_walk (A : Option Addr) (n c : Nat) (b : List UInt8) (S : Nat → Prop) (w : World) (hr : RIn w S 1 A n (Lib.byteCells b)) (hc : n ≤ c) (ht : Tab w) :
    Calls Tryd.prog 4 #[.slice A n c] w fun e w' => e = .returned (.bool true) ∧ Below w.heap.size w w' := by
  have hbl : b.length = n := by have := hr.1; simpa [Lib.byteCells_length] using this
  have HT := Lib.hid (fun W hb => ht.old (w' := W) hb)
  have CA := Lib.hid (fun W hb => awake_any W (HT.out W hb))
  have HR := Lib.hid (fun W (hb : Below w.heap.size w W) => (hr.old (w' := W) (by omega) hb).reads (by omega))
  by_cases h5 : 5000 < n
  · have h5' : (5000 : Int) < n := by omega
    clear hr
    go_enter Tryd.func4, Tryd.ntmps4
    go_wp2_with ((with_reducible refine (CA.out _ (Below.refl _ _)).mono ?_); rintro e wA ⟨rfl, hbA⟩)
    go_ret
    exact ⟨rfl, hbA⟩
  have h5' : ¬ (5000 : Int) < n := by omega
  have C1 := Lib.hid (get_any A n c b w (HR.out w (Below.refl _ _)) hc)
  have C2 := Lib.hid (fun W hb => refGet_any A n c b W (HR.out W hb) hc (by omega))
  clear hr
  obtain ⟨x, hx⟩ : ∃ x, x = pGet b := ⟨_, rfl⟩
  rw [← hx] at C1 C2
  obtain ⟨t, p, k⟩ := x
  have hk5 := pGet_le hx.symm
  have HPG := Lib.hid hx
  clear hx
  go_enter Tryd.func4, Tryd.ntmps4
  go_wp2_with fail
  refine C1.out.mono ?_
  rintro e w1 ⟨v0, v1, v2, v3, v4, rfl, hin, hb1⟩
  obtain ⟨l', h', hi', da', ks', B1, m1, j1, B2, m2, j2, B3, m3, j3, eZ, eE⟩ := hin.form_
  injection eE with eE0 eE; injection eE with eE1 eE; injection eE with eE2 eE; injection eE with eE3 eE; injection eE with eE4 eE
  subst eE0 eE1 eE2 eE3 eE4
  clear eE eZ
  have X0 : Box (w1.alloc (.cells #[.bool false, .bool false, .slice none 0 0, .slice none 0 0, .slice none 0 0] 25)) w1.heap.size (.bool false) (.bool false) (.slice none 0 0) (.slice none 0 0) (.slice none 0 0) := heap_alloc_new w1 _
  obtain ⟨⟨d0, d1, d2, d3, d4⟩, dz⟩ := X0.all
  have dz0 := dz 0
  have dz1 := dz 1
  have dz2 := dz 2
  have dz3 := dz 3
  have dz4 := dz 4
  have hbx := below_new w1 (.cells #[.bool l', .bool h', .slice B1 m1 j1, .slice B2 m2 j2, .slice B3 m3 j3] 25)
  have hbF := hb1.trans (hbx.mono hb1.size)
  have HIN := Lib.hid (in_box hin (.cells #[.bool l', .bool h', .slice B1 m1 j1, .slice B2 m2 j2, .slice B3 m3 j3] 25))
  have XB : Box (w1.alloc (.cells #[.bool l', .bool h', .slice B1 m1 j1, .slice B2 m2 j2, .slice B3 m3 j3] 25)) w1.heap.size (.bool l') (.bool h') (.slice B1 m1 j1) (.slice B2 m2 j2) (.slice B3 m3 j3) := heap_alloc_new w1 _
  have HXB := Lib.hid XB
  clear dz X0 XB hin
  go_wp2_with fail
  generalize (w1.alloc (.cells #[.bool l', .bool h', .slice B1 m1 j1, .slice B2 m2 j2, .slice B3 m3 j3] 25)) = P at *
  refine (C2.out _ hbF).mono ?_
  rintro e w2 ⟨u0, u1, u2, u3, u4, rfl, hin, hb2⟩
  obtain ⟨l2, h2, hi2, da2, ks2, D1, o1, i1, D2, o2, i2, D3, o3, i3, eZ, eE⟩ := hin.form_
  injection eE with eE0 eE; injection eE with eE1 eE; injection eE with eE2 eE; injection eE with eE3 eE; injection eE with eE4 eE
  subst eE0 eE1 eE2 eE3 eE4
  clear eE eZ d0 d1 d2 d3 d4 dz0 dz1 dz2 dz3 dz4
  have X0 : Box (w2.alloc (.cells #[.bool false, .bool false, .slice none 0 0, .slice none 0 0, .slice none 0 0] 25)) w2.heap.size (.bool false) (.bool false) (.slice none 0 0) (.slice none 0 0) (.slice none 0 0) := heap_alloc_new w2 _
  obtain ⟨⟨d0, d1, d2, d3, d4⟩, dz⟩ := X0.all
  have dz0 := dz 0
  have dz1 := dz 1
  have dz2 := dz 2
  have dz3 := dz 3
  have dz4 := dz 4
  have hby := below_new w2 (.cells #[.bool l2, .bool h2, .slice D1 o1 i1, .slice D2 o2 i2, .slice D3 o3 i3] 25)
  have hb3 := hb2.trans (hby.mono hb2.size)
  have HIN2 := Lib.hid (in_box hin (.cells #[.bool l2, .bool h2, .slice D1 o1 i1, .slice D2 o2 i2, .slice D3 o3 i3] 25))
  have HIN1 := Lib.hid (HIN.out.old hb3)
  obtain ⟨e0, e1, e2, e3, e4⟩ := (HXB.out.old hb3).all.1
  have HXB1 := Lib.hid (HXB.out.old hb3)
  have hbG := hbF.trans (hb3.mono hbF.size)
  have C3 := Lib.hid (refSame_any t t _ _ _ _ _ HIN1.out HIN2.out)
  clear dz X0 hin
  go_wp2_with fail
  refine C3.out.mono ?_
  rintro e w3 ⟨rfl, hb4⟩
  clear e0 e1 e2 e3 e4 d0 d1 d2 d3 d4 dz0 dz1 dz2 dz3 dz4
  have hst : Hid (same t t = true) := same_refl t
  rw [hst.out]
  have hb4' := hb3.trans (hb4.mono hb3.size)
  have hbH := hbF.trans (hb4'.mono hbF.size)
  rcases Nat.eq_zero_or_pos k with hk0 | hk0
  · subst hk0
    obtain ⟨hf, hm, hp0⟩ := pGet_ok HPG.out.symm
    have HM := Lib.hid hm
    have HF := Lib.hid hf
    clear hm hf hp0
    obtain ⟨e0, e1, e2, e3, e4⟩ := (HXB1.out.old hb4).all.1
    have HXB4 := Lib.hid (HXB1.out.old hb4)
    have HIN4 := Lib.hid (HIN1.out.old hb4)
    have C4 := Lib.hid (put_any t w3 _ _ HIN4.out (HT.out _ hbH))
    go_wp2_with fail
    refine C4.out.mono ?_
    intro e w4 hE
    obtain ⟨_, A5, c5, rfl, hc5, hr5, hb5⟩ := hE.elim id (fun h => by have := HM.out; rw [h.1] at this; cases this)
    rw [HF.out] at hr5 hc5 ⊢
    have hb5' := hbH.trans (hb5.mono hbH.size)
    rw [hbl] at hr5
    have k5 := run_back hr5 (c := c5)
    have k6 := run_back (HR.out _ hb5') (c := c)
    have HIN5 := Lib.hid (HIN4.out.old hb5)
    have hok := may_ok HM.out
    have hnd : nodes t ≤ 1099511627776 := by have := hok.2.1; omega
    have hfl : (form t).length ≤ 1099511627776 := by have := hok.2.2.2; omega
    have C5 := Lib.hid (refMay_any t w4 _ _ HIN5.out hnd hfl)
    clear hr5 e0 e1 e2 e3 e4 hok hnd hfl
    obtain ⟨e0, e1, e2, e3, e4⟩ := (HXB4.out.old hb5).all.1
    go_wp2_with fail
    refine C5.out.mono ?_
    rintro e w5 ⟨rfl, hb6⟩
    have hb6' := hb5'.trans (hb6.mono hb5'.size)
    rw [HM.out]
    go_wp2_with ((with_reducible refine (CA.out _ hb6').mono ?_); rintro e wA ⟨rfl, hbA⟩)
    go_ret
    exact ⟨rfl, hb6'.trans (hbA.mono hb6'.size)⟩
  · have hk0' : ¬ ((k : Int) = 0) := by omega
    clear hk0
    go_wp2_with ((with_reducible refine (CA.out _ hbH).mono ?_); rintro e wA ⟨rfl, hbA⟩)
    go_ret
    exact ⟨rfl, hbH.trans (hbA.mono hbH.size)⟩
end Go.Proofs.YtaenahilnnlbfaaDoor
