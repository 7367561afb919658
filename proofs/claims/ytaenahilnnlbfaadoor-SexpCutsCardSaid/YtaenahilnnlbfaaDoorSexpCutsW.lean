/-
  The walk of the law SexpCuts. Conditions: the library's table of powers of ten holds what its text lays.
-/
import Derived.Test.YtaenahilnnlbfaaDoorSexpMath
import Derived.Deep.RegionHeld3
set_option linter.unusedVariables false
namespace Go.Proofs.YtaenahilnnlbfaaDoor
open Go Go.Proofs Go.RowKit Sx

set_option maxHeartbeats 4000000 in
set_option maxRecDepth 100000 in
theorem cuts_walk (t : SX) (a : Int) (w : World) (S : Nat → Prop) (cs : List Value) (hs : SIn w S t cs) (ht : Tab w) (ha : -9223372036854775808 ≤ a ∧ a ≤ 9223372036854775807) :
    Calls Tryd.prog 6 #[.agg cs.toArray, .int .i64 a] w fun e w' => e = .returned (.bool true) ∧ Below w.heap.size w w' := by
  obtain ⟨l, h, hi, da, ks, A1, n1, c1, A2, n2, c2, A3, n3, c3, eT, rfl⟩ := hs.form_
  have hb0 := below_new w (.cells #[Value.bool l, Value.bool h, Value.slice A1 n1 c1, Value.slice A2 n2 c2, Value.slice A3 n3 c3] 25)
  have HX := Lib.hid (heap_alloc_new w (.cells #[Value.bool l, Value.bool h, Value.slice A1 n1 c1, Value.slice A2 n2 c2, Value.slice A3 n3 c3] 25))
  have hs0 := hs.old hb0
  have ht0 := ht.old hb0
  have HS := Lib.hid (fun W hb => hs0.old (w' := W) hb)
  have HT := Lib.hid (fun W hb => ht0.old (w' := W) hb)
  have C1 := Lib.hid (great_any t _ S _ 0 hs0 (by omega) (by omega))
  have CA := Lib.hid (fun W hb => awake_any W (HT.out W hb))
  have hsz0 : (w.alloc (.cells #[Value.bool l, Value.bool h, Value.slice A1 n1 c1, Value.slice A2 n2 c2, Value.slice A3 n3 c3] 25)).heap.size = w.heap.size + 1 := by simp
  clear hs ht hs0 ht0 eT
  go_enter Tryd.func6, Tryd.ntmps6
  go_wp2_with fail
  generalize (w.alloc (.cells #[Value.bool l, Value.bool h, Value.slice A1 n1 c1, Value.slice A2 n2 c2, Value.slice A3 n3 c3] 25)) = W at *
  refine C1.out.mono ?_
  rintro e w1 ⟨b, rfl, hb1⟩
  cases b with
  | true =>
    go_wp2_with ((with_reducible refine (CA.out _ hb1).mono ?_); rintro e wA ⟨rfl, hbA⟩)
    go_ret
    exact ⟨rfl, hb0.trans ((hb1.trans (hbA.mono hb1.size)).mono (by omega))⟩
  | false =>
  obtain ⟨e0, e1, e2, e3, e4⟩ := box5b (below_at hb1 HX.out)
  go_wp2_with fail
  refine (put_any t w1 S _ (HS.out _ hb1) (HT.out _ hb1)).mono ?_
  intro e w2 hE
  clear e0 e1 e2 e3 e4
  cases hm : may t with
  | false =>
    obtain ⟨_, rfl, hb2⟩ := hE.elim (fun h => by have := h.1; rw [hm] at this; cases this) id
    have hb2' := hb1.trans (hb2.mono hb1.size)
    clear hm
    go_wp2_with ((with_reducible refine (CA.out _ hb2').mono ?_); rintro e wA ⟨rfl, hbA⟩)
    go_ret
    exact ⟨rfl, hb0.trans ((hb2'.trans (hbA.mono hb2'.size)).mono (by omega))⟩
  | true =>
  have HM := Lib.hid hm
  obtain ⟨_, A, c, rfl, hc, hr, hb2⟩ := hE.elim id (fun h => by have := h.1; rw [hm] at this; cases this)
  have hb2' := hb1.trans (hb2.mono hb1.size)
  have hf2 := form_two t
  have hf4 : (form t).length ≤ 4096 := (Sx.may_ok hm).2.2.2
  clear hm
  by_cases h1 : a < 0
  · generalize (form t).length = m at *
    clear hr
    go_wp2_with ((with_reducible refine (CA.out _ hb2').mono ?_); rintro e wA ⟨rfl, hbA⟩)
    go_ret
    exact ⟨rfl, hb0.trans ((hb2'.trans (hbA.mono hb2'.size)).mono (by omega))⟩
  by_cases h2 : ((form t).length : Int) ≤ a
  · generalize (form t).length = m at *
    clear hr
    go_wp2_with ((with_reducible refine (CA.out _ hb2').mono ?_); rintro e wA ⟨rfl, hbA⟩)
    go_ret
    exact ⟨rfl, hb0.trans ((hb2'.trans (hbA.mono hb2'.size)).mono (by omega))⟩
  obtain ⟨k, rfl⟩ : ∃ k : Nat, a = k := ⟨a.toNat, by omega⟩
  have hk : k < (form t).length := by omega
  have C2 := get_any A k c ((form t).take k) w2 (reads_front hr (by omega)) (by omega)
  have hpc := pGet_cut HM.out hk
  rw [hpc] at C2
  have C2 := Lib.hid C2
  have hkc : k ≤ c := by omega
  clear hr hpc
  generalize (form t).length = m at *
  go_wp2_with fail
  refine C2.out.mono ?_
  rintro e w3 ⟨v0, v1, v2, v3, v4, rfl, hin, hb3⟩
  have hb3' := hb2'.trans (hb3.mono hb2'.size)
  obtain ⟨l', h', hi', da', ks', B1, m1, j1, B2, m2, j2, B3, m3, j3, eZ, eE⟩ := hin.form_
  injection eE with eE0 eE; injection eE with eE1 eE; injection eE with eE2 eE; injection eE with eE3 eE; injection eE with eE4 eE
  subst eE0 eE1 eE2 eE3 eE4
  clear eE eZ
  have X0 : Box (w3.alloc (.cells #[.bool false, .bool false, .slice none 0 0, .slice none 0 0, .slice none 0 0] 25)) w3.heap.size (.bool false) (.bool false) (.slice none 0 0) (.slice none 0 0) (.slice none 0 0) := heap_alloc_new w3 _
  obtain ⟨⟨d0, d1, d2, d3, d4⟩, dz⟩ := X0.all
  have dz0 := dz 0
  have dz1 := dz 1
  have dz2 := dz 2
  have dz3 := dz 3
  have dz4 := dz 4
  have hbx := below_new w3 (.cells #[.bool l', .bool h', .slice B1 m1 j1, .slice B2 m2 j2, .slice B3 m3 j3] 25)
  have hbF := hb3'.trans (hbx.mono hb3'.size)
  have C5 := Lib.hid (refSame_any zeroS zeroS _ _ (fun _ => True) _ _ (in_box hin (.cells #[.bool l', .bool h', .slice B1 m1 j1, .slice B2 m2 j2, .slice B3 m3 j3] 25)) (sin_zero _ _))
  clear dz X0 hin
  go_wp2_with fail
  refine C5.out.mono ?_
  rintro e w5 ⟨rfl, hb5⟩
  have hw5 := hbF.trans (hb5.mono hbF.size)
  rw [same_zero]
  go_wp2_with ((with_reducible refine (CA.out _ hw5).mono ?_); rintro e wA ⟨rfl, hbA⟩)
  go_ret
  exact ⟨rfl, hb0.trans ((hw5.trans (hbA.mono hw5.size)).mono (by omega))⟩
end Go.Proofs.YtaenahilnnlbfaaDoor
