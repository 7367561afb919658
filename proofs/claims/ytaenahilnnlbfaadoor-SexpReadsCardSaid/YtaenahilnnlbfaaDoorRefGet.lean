/-
  The contract of the document's answer Get (package greffierref02): the value, or the place and the error's number. Conditions: the bytes are at most 5000.
-/
import Derived.Test.YtaenahilnnlbfaaDoorRefRead6
import Derived.Test.YtaenahilnnlbfaaDoorSexpMath
set_option linter.unusedVariables false
namespace Go.Proofs.YtaenahilnnlbfaaDoor
open Go Go.Proofs Go.RowKit Sx Oct

def RGetEnd (w : World) (e : Ending) (w' : World) (x : SX × Nat × Nat) : Prop :=
  ∃ v0 v1 v2 v3 v4, e = .returned (.tuple #[.agg #[v0, v1, v2, v3, v4], .int .i64 x.2.1, .int .i64 x.2.2]) ∧ SIn w' (fun _ => True) x.1 [v0, v1, v2, v3, v4] ∧ Below w.heap.size w w'

set_option maxHeartbeats 4000000 in
set_option maxRecDepth 100000 in
theorem refGet_any (A : Option Addr) (n c : Nat) (b : List UInt8) (w : World) (hr : Reads w w.heap.size 1 A n (Lib.byteCells b)) (hc : n ≤ c) (hn : n ≤ 5000) :
    Calls Tryd.prog 17 #[.slice A n c] w fun e w' => RGetEnd w e w' (pGet b) := by
  have hl : b.length = n := by have := hr.1; simpa [Lib.byteCells_length] using this
  by_cases h4 : 4096 < n
  · have hpg : pGet b = (zeroS, 4096, 4) := by unfold pGet; rw [if_pos (by omega)]
    rw [hpg]
    have h4' : (4096 : Int) < n := by omega
    clear hr hl hpg
    go_enter Tryd.func17, Tryd.ntmps17
    have X0 : Box (w.alloc (.cells #[.bool false, .bool false, .slice none 0 0, .slice none 0 0, .slice none 0 0] 25)) w.heap.size (.bool false) (.bool false) (.slice none 0 0) (.slice none 0 0) (.slice none 0 0) := heap_alloc_new w _
    obtain ⟨⟨d0, d1, d2, d3, d4⟩, dz⟩ := X0.all
    have dz0 := dz 0
    have dz1 := dz 1
    have dz2 := dz 2
    have dz3 := dz 3
    have dz4 := dz 4
    clear dz X0
    go_wp2_with fail
    exact bodyPost_ret (v := .tuple #[.agg #[.bool false, .bool false, .slice none 0 0, .slice none 0 0, .slice none 0 0], .int .i64 4096, .int .i64 4]) (by simp [results, Tryd.results17, go_sem, d0, d1, d2, d3, d4]) rfl ⟨_, _, _, _, _, rfl, sin_zero _ _, below_new _ _⟩
  · have h4' : ¬ (4096 : Int) < n := by omega
    have C := refValue_all (2 * b.length + 1) A n c 0 0 0 b w.heap.size (w.alloc (.cells #[.bool false, .bool false, .slice none 0 0, .slice none 0 0, .slice none 0 0] 25)) (hr.keep fun q hq => (below_new w _).cell hq) (by simp) hn hc (by omega) (by omega) (by omega) (by omega)
    rw [List.drop_zero] at C
    have hpg : pGet b = match pVal (2 * b.length + 1) b 0 0 with
        | .err e r => (zeroS, b.length - r.length, e)
        | .ok (t, _) r => match r with
          | [] => (t, 0, 0)
          | _ :: _ => (zeroS, b.length - r.length, 5) := by
      unfold pGet; rw [if_neg (by omega)]; rfl
    rw [hpg]
    have hb0 := below_new w (.cells #[.bool false, .bool false, .slice none 0 0, .slice none 0 0, .slice none 0 0] 25)
    have hz0 : (w.alloc (.cells #[.bool false, .bool false, .slice none 0 0, .slice none 0 0, .slice none 0 0] 25)).heap.size = w.heap.size + 1 := by simp
    have HX := Lib.hid (show Box (w.alloc (.cells #[.bool false, .bool false, .slice none 0 0, .slice none 0 0, .slice none 0 0] 25)) w.heap.size (.bool false) (.bool false) (.slice none 0 0) (.slice none 0 0) (.slice none 0 0) from heap_alloc_new w _)
    clear hr hpg
    cases hv : pVal (2 * b.length + 1) b 0 0 with
    | err k r =>
      rw [hv] at C
      have C := Lib.hid C
      show Calls Tryd.prog _ _ _ (fun e w' => RGetEnd w e w' (zeroS, b.length - r.length, k))
      rw [hl]
      clear hv
      go_enter Tryd.func17, Tryd.ntmps17
      go_wp2_with fail
      refine C.out.mono ?_
      rintro e w3 ⟨hk1, hk2, rfl, hb3⟩
      have hk0 : ¬ ((k : Int) = 0) := by omega
      have X0 : Box8 (w3.alloc (.cells #[.bool false, .bool false, .slice none 0 0, .slice none 0 0, .slice none 0 0, .int .i64 0, .int .i64 0, .int .i64 0] 55)) w3.heap.size (.bool false) (.bool false) (.slice none 0 0) (.slice none 0 0) (.slice none 0 0) (.int .i64 0) (.int .i64 0) (.int .i64 0) := heap_alloc_new w3 _
      obtain ⟨⟨d0, d1, d2, d3, d4, d5, d6, d7⟩, dz⟩ := X0.all
      have dz0 := dz 0
      have dz1 := dz 1
      have dz2 := dz 2
      have dz3 := dz 3
      have dz4 := dz 4
      have dz5 := dz 5
      have dz6 := dz 6
      have dz7 := dz 7
      have hbx := below_new w3 (.cells #[.bool false, .bool false, .slice none 0 0, .slice none 0 0, .slice none 0 0, .int .i64 (n - r.length : Nat), .int .i64 0, .int .i64 k] 55)
      have hw3 := hb0.trans (hb3.mono hb0.size)
      have hw4 := hw3.trans (hbx.mono hw3.size)
      obtain ⟨⟨f0, f1, f2, f3, f4⟩, fz⟩ := ((HX.out.old hb3).old hbx).all
      have fz0 := fz 0
      have fz1 := fz 1
      have fz2 := fz 2
      have fz3 := fz 3
      have fz4 := fz 4
      obtain ⟨⟨g0, g1, g2, g3, g4, g5, g6, g7⟩, -⟩ := Box8.all (heap_alloc_new w3 (.cells #[.bool false, .bool false, .slice none 0 0, .slice none 0 0, .slice none 0 0, .int .i64 (n - r.length : Nat), .int .i64 0, .int .i64 k] 55))
      have HF := Lib.hid (put5_below hw4 (Nat.le_refl _) (.bool false) (.bool false) (.slice none 0 0) (.slice none 0 0) (.slice none 0 0)).drew
      clear dz fz X0 hw3 hw4
      go_wp2_with fail
      generalize (w3.alloc (.cells #[.bool false, .bool false, .slice none 0 0, .slice none 0 0, .slice none 0 0, .int .i64 (n - r.length : Nat), .int .i64 0, .int .i64 k] 55)) = G at *
      clear hbx d0 d1 d2 d3 d4 d5 d6 d7 dz0 dz1 dz2 dz3 dz4 dz5 dz6 dz7
      go_region
      all_goals
        go_wp2_with fail
        exact bodyPost_ret (v := .tuple #[.agg #[.bool false, .bool false, .slice none 0 0, .slice none 0 0, .slice none 0 0], .int .i64 (n - r.length : Nat), .int .i64 k]) (by simp [results, Tryd.results17, go_sem, f0, f1, f2, f3, f4]) rfl ⟨_, _, _, _, _, rfl, sin_zero _ _, HF.out⟩
    | ok y r =>
      obtain ⟨t, nd'⟩ := y
      rw [hv] at C
      have C := Lib.hid C
      cases r with
      | nil =>
        clear hv
        show Calls Tryd.prog _ _ _ (fun e w' => RGetEnd w e w' (t, 0, 0))
        have hn0 : ((n - ([] : List UInt8).length : Nat) : Int) = n := by simp
        have HN := Lib.hid hn0
        clear hn0
        go_enter Tryd.func17, Tryd.ntmps17
        go_wp2_with fail
        refine C.out.mono ?_
        rintro e w3 ⟨v0, v1, v2, v3, v4, rfl, hin, hb3⟩
        rw [HN.out]
        obtain ⟨l', h', hi', da', ks', B1, m1, j1, B2, m2, j2, B3, m3, j3, eZ, eE⟩ := hin.form_
        injection eE with eE0 eE; injection eE with eE1 eE; injection eE with eE2 eE; injection eE with eE3 eE; injection eE with eE4 eE
        subst eE0 eE1 eE2 eE3 eE4
        clear eE eZ
        have X0 : Box8 (w3.alloc (.cells #[.bool false, .bool false, .slice none 0 0, .slice none 0 0, .slice none 0 0, .int .i64 0, .int .i64 0, .int .i64 0] 55)) w3.heap.size (.bool false) (.bool false) (.slice none 0 0) (.slice none 0 0) (.slice none 0 0) (.int .i64 0) (.int .i64 0) (.int .i64 0) := heap_alloc_new w3 _
        obtain ⟨⟨d0, d1, d2, d3, d4, d5, d6, d7⟩, dz⟩ := X0.all
        have dz0 := dz 0
        have dz1 := dz 1
        have dz2 := dz 2
        have dz3 := dz 3
        have dz4 := dz 4
        have dz5 := dz 5
        have dz6 := dz 6
        have dz7 := dz 7
        have hbx := below_new w3 (.cells #[.bool l', .bool h', .slice B1 m1 j1, .slice B2 m2 j2, .slice B3 m3 j3, .int .i64 n, .int .i64 nd', .int .i64 0] 55)
        have hw3 := hb0.trans (hb3.mono hb0.size)
        have hw4 := hw3.trans (hbx.mono hw3.size)
        obtain ⟨⟨f0, f1, f2, f3, f4⟩, fz⟩ := ((HX.out.old hb3).old hbx).all
        have fz0 := fz 0
        have fz1 := fz 1
        have fz2 := fz 2
        have fz3 := fz 3
        have fz4 := fz 4
        have HF := Lib.hid (put5_below hw4 (Nat.le_refl _) (.bool l') (.bool h') (.slice B1 m1 j1) (.slice B2 m2 j2) (.slice B3 m3 j3))
        have HI := Lib.hid (((((hin.old hbx).keep fun q hq => put5_far (w := w3.alloc (.cells #[.bool l', .bool h', .slice B1 m1 j1, .slice B2 m2 j2, .slice B3 m3 j3, .int .i64 n, .int .i64 nd', .int .i64 0] 55)) (b := w.heap.size) (x0 := .bool l') (x1 := .bool h') (x2 := .slice B1 m1 j1) (x3 := .slice B2 m2 j2) (x4 := .slice B3 m3 j3) q (by omega))).more (S' := fun _ => True) fun k hk => trivial))
        clear dz fz X0 hw3 hw4
        go_wp2_with fail
        exact bodyPost_ret (v := .tuple #[.agg #[.bool l', .bool h', .slice B1 m1 j1, .slice B2 m2 j2, .slice B3 m3 j3], .int .i64 0, .int .i64 0]) (by simp [results, Tryd.results17, go_sem, f0, f1, f2, f3, f4]) rfl ⟨_, _, _, _, _, rfl, HI.out, HF.out⟩
      | cons c0 r0 =>
        obtain ⟨q, hq⟩ : ∃ q, q = n - (c0 :: r0).length := ⟨_, rfl⟩
        have hlr : (c0 :: r0).length = r0.length + 1 := by simp
        have hn0 : ((n - (c0 :: r0).length : Nat) : Int) = q := by rw [hq]
        have HN := Lib.hid hn0
        show Calls Tryd.prog _ _ _ (fun e w' => RGetEnd w e w' (zeroS, b.length - (c0 :: r0).length, 5))
        have hn0' : n ≠ 0 := by
          intro h0
          have hbn : b = [] := List.eq_nil_of_length_eq_zero (by omega)
          rw [hbn] at hv
          rw [pVal] at hv
          cases hv
        clear hv
        have hql : (q : Int) < n := by omega
        rw [hl, ← hq]
        clear hn0 hq
        go_enter Tryd.func17, Tryd.ntmps17
        go_wp2_with fail
        refine C.out.mono ?_
        rintro e w3 ⟨v0, v1, v2, v3, v4, rfl, hin, hb3⟩
        rw [HN.out]
        obtain ⟨l', h', hi', da', ks', B1, m1, j1, B2, m2, j2, B3, m3, j3, eZ, eE⟩ := hin.form_
        injection eE with eE0 eE; injection eE with eE1 eE; injection eE with eE2 eE; injection eE with eE3 eE; injection eE with eE4 eE
        subst eE0 eE1 eE2 eE3 eE4
        clear eE eZ
        have X0 : Box8 (w3.alloc (.cells #[.bool false, .bool false, .slice none 0 0, .slice none 0 0, .slice none 0 0, .int .i64 0, .int .i64 0, .int .i64 0] 55)) w3.heap.size (.bool false) (.bool false) (.slice none 0 0) (.slice none 0 0) (.slice none 0 0) (.int .i64 0) (.int .i64 0) (.int .i64 0) := heap_alloc_new w3 _
        obtain ⟨⟨d0, d1, d2, d3, d4, d5, d6, d7⟩, dz⟩ := X0.all
        have dz0 := dz 0
        have dz1 := dz 1
        have dz2 := dz 2
        have dz3 := dz 3
        have dz4 := dz 4
        have dz5 := dz 5
        have dz6 := dz 6
        have dz7 := dz 7
        have hbx := below_new w3 (.cells #[.bool l', .bool h', .slice B1 m1 j1, .slice B2 m2 j2, .slice B3 m3 j3, .int .i64 q, .int .i64 nd', .int .i64 0] 55)
        have hw3 := hb0.trans (hb3.mono hb0.size)
        have hw4 := hw3.trans (hbx.mono hw3.size)
        obtain ⟨⟨f0, f1, f2, f3, f4⟩, fz⟩ := ((HX.out.old hb3).old hbx).all
        have fz0 := fz 0
        have fz1 := fz 1
        have fz2 := fz 2
        have fz3 := fz 3
        have fz4 := fz 4
        obtain ⟨⟨g0, g1, g2, g3, g4, g5, g6, g7⟩, -⟩ := Box8.all (heap_alloc_new w3 (.cells #[.bool l', .bool h', .slice B1 m1 j1, .slice B2 m2 j2, .slice B3 m3 j3, .int .i64 q, .int .i64 nd', .int .i64 0] 55))
        have HF := Lib.hid (put5_below hw4 (Nat.le_refl _) (.bool false) (.bool false) (.slice none 0 0) (.slice none 0 0) (.slice none 0 0)).drew
        clear dz fz X0 hw3 hw4
        go_wp2_with fail
        generalize (w3.alloc (.cells #[.bool l', .bool h', .slice B1 m1 j1, .slice B2 m2 j2, .slice B3 m3 j3, .int .i64 q, .int .i64 nd', .int .i64 0] 55)) = G at *
        clear hbx d0 d1 d2 d3 d4 d5 d6 d7 dz0 dz1 dz2 dz3 dz4 dz5 dz6 dz7
        go_region
        all_goals
          go_wp2_with fail
          exact bodyPost_ret (v := .tuple #[.agg #[.bool false, .bool false, .slice none 0 0, .slice none 0 0, .slice none 0 0], .int .i64 q, .int .i64 5]) (by simp [results, Tryd.results17, go_sem, f0, f1, f2, f3, f4]) rfl ⟨_, _, _, _, _, rfl, sin_zero _ _, HF.out⟩
end Go.Proofs.YtaenahilnnlbfaaDoor
