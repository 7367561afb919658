/-
  The walk of the law SexpMore. Conditions: the library's table of powers of ten holds what its text lays.
-/
import Derived.Test.YtaenahilnnlbfaaDoorSexpMath
import Derived.Deep.RegionHeld3
set_option linter.unusedVariables false
namespace Go.Proofs.YtaenahilnnlbfaaDoor
open Go Go.Proofs Go.RowKit Sx

set_option maxHeartbeats 4000000 in
set_option maxRecDepth 100000 in
theorem more_walk (t : SX) (w : World) (S : Nat → Prop) (cs : List Value) (hs : SIn w S t cs) (A : Option Addr) (n c : Nat) (b : List UInt8) (S' : Nat → Prop) (hr : RIn w S' 1 A n (Lib.byteCells b)) (hc : n ≤ c) (hn : n ≤ 140737488355328) (ht : Tab w) :
    Calls Tryd.prog 7 #[.agg cs.toArray, .slice A n c] w fun e w' => e = .returned (.bool true) ∧ Below w.heap.size w w' := by
  obtain ⟨l, h, hi, da, ks, A1, n1, c1, A2, n2, c2, A3, n3, c3, eT, rfl⟩ := hs.form_
  have hbl : b.length = n := by have := hr.1; simpa [Lib.byteCells_length] using this
  have hb0 := below_new w (.cells #[Value.bool l, Value.bool h, Value.slice A1 n1 c1, Value.slice A2 n2 c2, Value.slice A3 n3 c3] 25)
  have HX := Lib.hid (heap_alloc_new w (.cells #[Value.bool l, Value.bool h, Value.slice A1 n1 c1, Value.slice A2 n2 c2, Value.slice A3 n3 c3] 25))
  have hs0 := hs.old hb0
  have ht0 := ht.old hb0
  have hr0 := hr.old (by omega) hb0
  have HS := Lib.hid (fun W hb => hs0.old (w' := W) hb)
  have HT := Lib.hid (fun W hb => ht0.old (w' := W) hb)
  have HR := Lib.hid (fun W hb => hr0.old (w' := W) (by omega) hb)
  have HBL := Lib.hid hbl
  have C1 := Lib.hid (great_any t _ S _ 0 hs0 (by omega) (by omega))
  have CA := Lib.hid (fun W hb => awake_any W (HT.out W hb))
  have hsz0 : (w.alloc (.cells #[Value.bool l, Value.bool h, Value.slice A1 n1 c1, Value.slice A2 n2 c2, Value.slice A3 n3 c3] 25)).heap.size = w.heap.size + 1 := by simp
  clear hs ht hs0 ht0 eT hr hr0 hbl
  go_enter Tryd.func7, Tryd.ntmps7
  go_wp2_with fail
  generalize (w.alloc (.cells #[Value.bool l, Value.bool h, Value.slice A1 n1 c1, Value.slice A2 n2 c2, Value.slice A3 n3 c3] 25)) = W at *
  refine C1.out.mono ?_
  rintro e w1 ⟨b, rfl, hb1⟩
  cases b with
  | true =>
    go_wp2_with ((with_reducible refine (CA.out _ hb1).mono ?_); rintro e wA ⟨rfl, hbA⟩)
    go_ret
    exact ⟨rfl, hb0.trans ((hb1.trans (hbA.mono hb1.size)).mono (by omega))⟩
  | false =>
  by_cases hn0 : n = 0
  · subst hn0
    go_wp2_with ((with_reducible refine (CA.out _ hb1).mono ?_); rintro e wA ⟨rfl, hbA⟩)
    go_ret
    exact ⟨rfl, hb0.trans ((hb1.trans (hbA.mono hb1.size)).mono (by omega))⟩
  have hn0' : ¬ (n : Int) = 0 := by omega
  have hn0b : ((n : Int) == 0) = false := by simpa using hn0'
  by_cases hn1 : 100 < n
  · go_wp2_with ((with_reducible refine (CA.out _ hb1).mono ?_); rintro e wA ⟨rfl, hbA⟩)
    go_ret
    exact ⟨rfl, hb0.trans ((hb1.trans (hbA.mono hb1.size)).mono (by omega))⟩
  have hn1' : ¬ (100 : Int) < n := by omega
  obtain ⟨e0, e1, e2, e3, e4⟩ := box5b (below_at hb1 HX.out)
  go_wp2_with fail
  refine (put_any t w1 S _ (HS.out _ hb1) (HT.out _ hb1)).mono ?_
  intro e w2 hE
  clear e0 e1 e2 e3 e4
  cases hm : may t with
  | false =>
    obtain ⟨_, rfl, hb2⟩ := hE.elim (fun h => by have := h.1; rw [hm] at this; cases this) id
    have hb2' := hb1.trans (hb2.mono hb1.size)
    clear hm
    go_wp2_with ((with_reducible refine (CA.out _ hb2').mono ?_); rintro e wA ⟨rfl, hbA⟩)
    go_ret
    exact ⟨rfl, hb0.trans ((hb2'.trans (hbA.mono hb2'.size)).mono (by omega))⟩
  | true =>
  have HM := Lib.hid hm
  obtain ⟨_, A', c', rfl, hc', hr, hb2⟩ := hE.elim id (fun h => by have := h.1; rw [hm] at this; cases this)
  have hb2' := hb1.trans (hb2.mono hb1.size)
  have hf4 : (form t).length ≤ 4096 := (Sx.may_ok hm).2.2.2
  clear hm
  by_cases hs4 : 4096 < (form t).length + n
  · generalize (form t).length = m at *
    clear hr
    go_wp2_with ((with_reducible refine (CA.out _ hb2').mono ?_); rintro e wA ⟨rfl, hbA⟩)
    go_ret
    exact ⟨rfl, hb0.trans ((hb2'.trans (hbA.mono hb2'.size)).mono (by omega))⟩
  have hpm : ∃ x y, b = x :: y := by
    have := HBL.out
    cases b with
    | nil => simp at this; omega
    | cons x y => exact ⟨x, y, rfl⟩
  have HPM : Hid (pGet (form t ++ b) = (zeroS, (form t).length, 5)) := by
    obtain ⟨x, y, rfl⟩ := hpm
    exact pGet_more HM.out (by rw [HBL.out]; omega)
  clear hpm
  have HF2 := form_two t
  have hH0 := Held.empty (Below.refl w2.heap.size w2) (g := w2.heap.size) rfl
  have hrA := hr.below (below_new w2 (.cells #[] 5))
  clear hr
  generalize form t = ft at *
  go_wp2_with (at_builtin; refine wpList_append_held (w2.alloc (.cells #[] 5)) rfl (.tmp 40) (.tmp 41) rfl w2.heap.size w2 (.slice (some ⟨w2.heap.size, 0, none⟩) 0 0) [] hH0 rfl w2.heap.size A' ft.length c' ft rfl hrA (by simp only [List.length_nil]; omega) ?_)
  intro v1 w3 hH1 hO1
  have hb3 := hb2'.trans (hH1.1.mono hb2'.size)
  have hrB := (HR.out _ hb3).reads (by omega)
  clear hH0 hrA hO1
  go_wp2_with (at_builtin; refine wpList_append_held w3 rfl (.tmp 42) (.tmp 43) rfl w2.heap.size w2 _ _ hH1 rfl _ A n c b rfl hrB (by have : ([] ++ ft).length = ft.length := rfl; omega) ?_)
  intro v2 w4 hH2 hO2
  obtain ⟨A5, c5, rfl, hc5, hr5⟩ := hH2.reads
  have hb4 := hb2'.trans (hH2.1.mono hb2'.size)
  have C2 := get_any A5 _ c5 (ft ++ b) w4 hr5 hc5
  rw [HPM.out] at C2
  have C2 := Lib.hid C2
  clear hH1 hH2 hO2 hrB hr5 hc5 hb3
  generalize (ft ++ b).length = mm at *
  go_wp2_with fail
  refine C2.out.mono ?_
  rintro e w3' ⟨v0, v1, v2, v3, v4, rfl, hin, hb3⟩
  have hb3' := hb4.trans (hb3.mono hb4.size)
  obtain ⟨l', h', hi', da', ks', B1, m1, j1, B2, m2, j2, B3, m3, j3, eZ, eE⟩ := hin.form_
  injection eE with eE0 eE; injection eE with eE1 eE; injection eE with eE2 eE; injection eE with eE3 eE; injection eE with eE4 eE
  subst eE0 eE1 eE2 eE3 eE4
  clear eE eZ
  have X0 : Box (w3'.alloc (.cells #[.bool false, .bool false, .slice none 0 0, .slice none 0 0, .slice none 0 0] 25)) w3'.heap.size (.bool false) (.bool false) (.slice none 0 0) (.slice none 0 0) (.slice none 0 0) := heap_alloc_new w3' _
  obtain ⟨⟨d0, d1, d2, d3, d4⟩, dz⟩ := X0.all
  have dz0 := dz 0
  have dz1 := dz 1
  have dz2 := dz 2
  have dz3 := dz 3
  have dz4 := dz 4
  have hbx := below_new w3' (.cells #[.bool l', .bool h', .slice B1 m1 j1, .slice B2 m2 j2, .slice B3 m3 j3] 25)
  have hbF := hb3'.trans (hbx.mono hb3'.size)
  have C5 := Lib.hid (refSame_any zeroS zeroS _ _ (fun _ => True) _ _ (in_box hin (.cells #[.bool l', .bool h', .slice B1 m1 j1, .slice B2 m2 j2, .slice B3 m3 j3] 25)) (sin_zero _ _))
  clear dz X0 hin
  go_wp2_with fail
  refine C5.out.mono ?_
  rintro e w5 ⟨rfl, hb5⟩
  have hw5 := hbF.trans (hb5.mono hbF.size)
  rw [same_zero]
  go_wp2_with ((with_reducible refine (CA.out _ hw5).mono ?_); rintro e wA ⟨rfl, hbA⟩)
  go_ret
  exact ⟨rfl, hb0.trans ((hw5.trans (hbA.mono hw5.size)).mono (by omega))⟩
end Go.Proofs.YtaenahilnnlbfaaDoor
