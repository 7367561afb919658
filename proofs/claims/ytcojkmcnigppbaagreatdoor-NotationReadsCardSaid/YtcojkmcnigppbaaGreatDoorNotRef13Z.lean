/-
  The contract of the document's answer ended (package greffierref03): the value, if nothing but blanks stands behind it, and it may be. Conditions: at most 2^40 bytes; the value's canonical form too.
-/
import Derived.Test.YtcojkmcnigppbaaGreatDoorNotRef12Z
import Derived.Test.YtcojkmcnigppbaaGreatDoorM5
set_option linter.unusedVariables false
set_option linter.unusedSimpArgs false
open Go.Lib (hid)
open Go.Proofs.YtcojkmcnigppbaaGreatDoor (zA zB zC zD zE zF)
set_option maxRecDepth 100000
namespace Go.Proofs.YtcojkmcnigppbaaGreatDoor
open Go Go.Proofs Go.RowKit Sx Oct
set_option maxHeartbeats 4000000 in
theorem ended_err (s : ByteArray) (p k : Nat) (w : World) (S : Nat → Prop) (hk : 2 ≤ k) :
    Calls Tryz.prog 36 #[.string s, .agg #[.bool false, .bool false, .slice none 0 0, .slice none 0 0, .slice none 0 0, .int .i64 p, .int .i64 0, .int .i64 k]] w fun e w' => REnd S w e w' (zeroS, p, k) := by
  have hk0 : ¬ ((k : Int) = 0) := by omega
  have hb0 := below_new w (.cells #[.bool false, .bool false, .slice none 0 0, .slice none 0 0, .slice none 0 0, .int .i64 p, .int .i64 0, .int .i64 k] 55)
  have hb1 := hb0.trans ((below_new (w.alloc (.cells #[.bool false, .bool false, .slice none 0 0, .slice none 0 0, .slice none 0 0, .int .i64 p, .int .i64 0, .int .i64 k] 55)) (.cells #[.bool false, .bool false, .slice none 0 0, .slice none 0 0, .slice none 0 0] 25)).mono hb0.size)
  have hz0 : (w.alloc (.cells #[.bool false, .bool false, .slice none 0 0, .slice none 0 0, .slice none 0 0, .int .i64 p, .int .i64 0, .int .i64 k] 55)).heap.size = w.heap.size + 1 := by simp
  have hz1 : ((w.alloc (.cells #[.bool false, .bool false, .slice none 0 0, .slice none 0 0, .slice none 0 0, .int .i64 p, .int .i64 0, .int .i64 k] 55)).alloc (.cells #[.bool false, .bool false, .slice none 0 0, .slice none 0 0, .slice none 0 0] 25)).heap.size = w.heap.size + 2 := by simp
  have X8 : Box8 ((w.alloc (.cells #[.bool false, .bool false, .slice none 0 0, .slice none 0 0, .slice none 0 0, .int .i64 p, .int .i64 0, .int .i64 k] 55)).alloc (.cells #[.bool false, .bool false, .slice none 0 0, .slice none 0 0, .slice none 0 0] 25)) w.heap.size (.bool false) (.bool false) (.slice none 0 0) (.slice none 0 0) (.slice none 0 0) (.int .i64 p) (.int .i64 0) (.int .i64 k) := below_at (below_new _ _) (heap_alloc_new w _)
  have X5 : Box ((w.alloc (.cells #[.bool false, .bool false, .slice none 0 0, .slice none 0 0, .slice none 0 0, .int .i64 p, .int .i64 0, .int .i64 k] 55)).alloc (.cells #[.bool false, .bool false, .slice none 0 0, .slice none 0 0, .slice none 0 0] 25)) (w.heap.size + 1) (.bool false) (.bool false) (.slice none 0 0) (.slice none 0 0) (.slice none 0 0) := by rw [← hz0]; exact heap_alloc_new _ _
  obtain ⟨⟨d0, d1, d2, d3, d4, d5, d6, d7⟩, -⟩ := X8.all
  obtain ⟨⟨f0, f1, f2, f3, f4⟩, fz⟩ := X5.all
  have fz0 := fz 0
  have fz1 := fz 1
  have fz2 := fz 2
  have fz3 := fz 3
  have fz4 := fz 4
  have HF := hid (put5_below hb1 (show w.heap.size ≤ w.heap.size + 1 by omega) (.bool false) (.bool false) (.slice none 0 0) (.slice none 0 0) (.slice none 0 0)).drew
  clear fz X8 X5 hb0 hb1 hz0 hz1
  go_enter Tryz.func36, Tryz.ntmps36
  go_wp2_with fail
  generalize ((w.alloc (.cells #[.bool false, .bool false, .slice none 0 0, .slice none 0 0, .slice none 0 0, .int .i64 p, .int .i64 0, .int .i64 k] 55)).alloc (.cells #[.bool false, .bool false, .slice none 0 0, .slice none 0 0, .slice none 0 0] 25)) = G at *
  go_region
  all_goals
    go_wp2_with fail
    exact bodyPost_ret (v := .tuple #[.agg #[.bool false, .bool false, .slice none 0 0, .slice none 0 0, .slice none 0 0], .int .i64 p, .int .i64 k]) (by simp [results, Tryz.results36, go_sem, f0, f1, f2, f3, f4]) rfl ⟨_, _, _, _, _, rfl, sin_zero _ _, HF.out⟩
set_option maxHeartbeats 4000000 in
theorem ended_ok (s : ByteArray) (t : SX) (r : List UInt8) (nd : Int) (w : World) (S : Nat → Prop) (cs : List Value) (hin : SIn w S t cs) (hs : s.size ≤ 1099511627776) (P : Nat) (hP : P = s.size - r.length)
    (hr : s.data.toList.drop P = r) (hrl : r.length ≤ s.size) (hn : nodes t ≤ 1099511627776) (hf : (form t).length ≤ 1099511627776) :
    Calls Tryz.prog 36 #[.string s, .agg (cs ++ [Value.int .i64 P, Value.int .i64 nd, Value.int .i64 0]).toArray] w fun e w' => REnd S w e w' (aEnd s.size t r) := by
  obtain ⟨l, h, hi, da, ks, A1, n1, c1, A2, n2, c2, A3, n3, c3, e, rfl⟩ := hin.form_
  clear e
  have hin := hin.size_
  show Calls Tryz.prog _ #[.string s, .agg #[.bool l, .bool h, .slice A1 n1 c1, .slice A2 n2 c2, .slice A3 n3 c3, .int .i64 P, .int .i64 nd, .int .i64 0]] w _
  have hb0 := below_new w (.cells #[.bool l, .bool h, .slice A1 n1 c1, .slice A2 n2 c2, .slice A3 n3 c3, .int .i64 P, .int .i64 nd, .int .i64 0] 55)
  have hb1 := hb0.trans ((below_new (w.alloc (.cells #[.bool l, .bool h, .slice A1 n1 c1, .slice A2 n2 c2, .slice A3 n3 c3, .int .i64 P, .int .i64 nd, .int .i64 0] 55)) (.cells #[.bool false, .bool false, .slice none 0 0, .slice none 0 0, .slice none 0 0] 25)).mono hb0.size)
  have hz0 : (w.alloc (.cells #[.bool l, .bool h, .slice A1 n1 c1, .slice A2 n2 c2, .slice A3 n3 c3, .int .i64 P, .int .i64 nd, .int .i64 0] 55)).heap.size = w.heap.size + 1 := by simp
  have hz1 : ((w.alloc (.cells #[.bool l, .bool h, .slice A1 n1 c1, .slice A2 n2 c2, .slice A3 n3 c3, .int .i64 P, .int .i64 nd, .int .i64 0] 55)).alloc (.cells #[.bool false, .bool false, .slice none 0 0, .slice none 0 0, .slice none 0 0] 25)).heap.size = w.heap.size + 2 := by simp
  have X8 : Box8 ((w.alloc (.cells #[.bool l, .bool h, .slice A1 n1 c1, .slice A2 n2 c2, .slice A3 n3 c3, .int .i64 P, .int .i64 nd, .int .i64 0] 55)).alloc (.cells #[.bool false, .bool false, .slice none 0 0, .slice none 0 0, .slice none 0 0] 25)) w.heap.size (.bool l) (.bool h) (.slice A1 n1 c1) (.slice A2 n2 c2) (.slice A3 n3 c3) (.int .i64 P) (.int .i64 nd) (.int .i64 0) := below_at (below_new _ _) (heap_alloc_new w _)
  have X5 : Box ((w.alloc (.cells #[.bool l, .bool h, .slice A1 n1 c1, .slice A2 n2 c2, .slice A3 n3 c3, .int .i64 P, .int .i64 nd, .int .i64 0] 55)).alloc (.cells #[.bool false, .bool false, .slice none 0 0, .slice none 0 0, .slice none 0 0] 25)) (w.heap.size + 1) (.bool false) (.bool false) (.slice none 0 0) (.slice none 0 0) (.slice none 0 0) := by rw [← hz0]; exact heap_alloc_new _ _
  obtain ⟨⟨d0, d1, d2, d3, d4, d5, d6, d7⟩, -⟩ := X8.all
  obtain ⟨⟨f0, f1, f2, f3, f4⟩, fz⟩ := X5.all
  have fz0 := fz 0
  have fz1 := fz 1
  have fz2 := fz 2
  have fz3 := fz 3
  have fz4 := fz 4
  have hPs : P ≤ s.size := by omega
  have CS := refSkip_any s P ((w.alloc (.cells #[.bool l, .bool h, .slice A1 n1 c1, .slice A2 n2 c2, .slice A3 n3 c3, .int .i64 P, .int .i64 nd, .int .i64 0] 55)).alloc (.cells #[.bool false, .bool false, .slice none 0 0, .slice none 0 0, .slice none 0 0] 25)) hs hPs
  rw [hr] at CS
  have hin1 := hin.old hb1
  have HIN := hid hin1
  have HB1 := hid hb1
  have CM := hid (refMay_any t _ _ _ hin1 hn hf)
  have hsl := (Tail.skip r).le
  have HX8 := hid X8
  have HX5 := hid X5
  have hE : aEnd s.size t r = match skip r with
    | c :: q => (zeroS, s.size - (c :: q).length, 5)
    | [] => if may t then (t, 0, 0) else (zeroS, s.size, 4) := rfl
  rw [hE]
  clear hE
  cases hq : skip r with
  | cons c q =>
    rw [hq] at CS hsl
    have hcl : (c :: q).length = q.length + 1 := by simp
    obtain ⟨a, ha⟩ : ∃ a, a = s.size - (c :: q).length := ⟨_, rfl⟩
    rw [← ha] at CS
    show Calls Tryz.prog _ _ w fun e w' => REnd S w e w' (zeroS, s.size - (c :: q).length, 5)
    rw [← ha]
    have hlt : (a : Int) < s.size := by omega
    have HF := hid (put5_below hb1 (show w.heap.size ≤ w.heap.size + 1 by omega) (.bool false) (.bool false) (.slice none 0 0) (.slice none 0 0) (.slice none 0 0))
    have CS := hid CS
    clear fz X8 X5 hb0 hb1 hz0 hz1 hin1 hin ha hq hr hP
    go_enter Tryz.func36, Tryz.ntmps36
    go_wp2_with (first | ((with_reducible refine CS.out.mono ?_); rintro e w1 ⟨rfl, rfl⟩))
    exact bodyPost_ret (v := .tuple #[.agg #[.bool false, .bool false, .slice none 0 0, .slice none 0 0, .slice none 0 0], .int .i64 a, .int .i64 5]) (by simp [results, Tryz.results36, go_sem, f0, f1, f2, f3, f4]) rfl ⟨_, _, _, _, _, rfl, sin_zero _ _, HB1.out⟩
  | nil =>
    rw [hq] at CS
    have hn0 : ((s.size - ([] : List UInt8).length : Nat) : Int) = s.size := by simp
    rw [hn0] at CS
    have CS := hid CS
    show Calls Tryz.prog _ _ w fun e w' => REnd S w e w' (if may t then (t, 0, 0) else (zeroS, s.size, 4))
    clear fz X8 X5 hb0 hin1 hin hq hr hP hn0 hsl
    cases hm : may t with
    | false =>
      rw [hm] at CM
      simp only [Bool.false_eq_true, if_false]
      go_enter Tryz.func36, Tryz.ntmps36
      go_wp2_with (first | ((with_reducible refine CS.out.mono ?_); rintro e w1 ⟨rfl, rfl⟩))
      refine CM.out.mono ?_
      rintro e w3 ⟨rfl, hb3⟩
      clear f0 f1 f2 f3 f4 fz0 fz1 fz2 fz3 fz4 d0 d1 d2 d3 d4 d5 d6 d7
      obtain ⟨⟨f0, f1, f2, f3, f4⟩, fz⟩ := (HX5.out.old hb3).all
      have fz0 := fz 0
      have fz1 := fz 1
      have fz2 := fz 2
      have fz3 := fz 3
      have fz4 := fz 4
      have HF := hid (put5_below (hb1.trans (hb3.mono hb1.size)) (show w.heap.size ≤ w.heap.size + 1 by omega) (.bool false) (.bool false) (.slice none 0 0) (.slice none 0 0) (.slice none 0 0))
      clear fz hb1 hb3
      go_wp2_with fail
      exact bodyPost_ret (v := .tuple #[.agg #[.bool false, .bool false, .slice none 0 0, .slice none 0 0, .slice none 0 0], .int .i64 s.size, .int .i64 4]) (by simp [results, Tryz.results36, go_sem, f0, f1, f2, f3, f4]) rfl ⟨_, _, _, _, _, rfl, sin_zero _ _, HF.out⟩
    | true =>
      rw [hm] at CM
      simp only [if_true]
      go_enter Tryz.func36, Tryz.ntmps36
      go_wp2_with (first | ((with_reducible refine CS.out.mono ?_); rintro e w1 ⟨rfl, rfl⟩))
      refine CM.out.mono ?_
      rintro e w3 ⟨rfl, hb3⟩
      clear f0 f1 f2 f3 f4 fz0 fz1 fz2 fz3 fz4 d0 d1 d2 d3 d4 d5 d6 d7
      obtain ⟨⟨f0, f1, f2, f3, f4⟩, fz⟩ := (HX5.out.old hb3).all
      have fz0 := fz 0
      have fz1 := fz 1
      have fz2 := fz 2
      have fz3 := fz 3
      have fz4 := fz 4
      obtain ⟨⟨d0, d1, d2, d3, d4, d5, d6, d7⟩, -⟩ := (HX8.out.old hb3).all
      have HF := hid (put5_below (hb1.trans (hb3.mono hb1.size)) (show w.heap.size ≤ w.heap.size + 1 by omega) (.bool l) (.bool h) (.slice A1 n1 c1) (.slice A2 n2 c2) (.slice A3 n3 c3))
      have HI := hid (((HIN.out.old hb3).keep fun q hq => put5_far (w := w3) (b := w.heap.size + 1) (x0 := .bool l) (x1 := .bool h) (x2 := .slice A1 n1 c1) (x3 := .slice A2 n2 c2) (x4 := .slice A3 n3 c3) q (by have hq := hq.2; omega)).more (S' := S) fun k hk => hk.1)
      clear fz hb1 hb3
      go_wp2_with fail
      exact bodyPost_ret (v := .tuple #[.agg #[.bool l, .bool h, .slice A1 n1 c1, .slice A2 n2 c2, .slice A3 n3 c3], .int .i64 0, .int .i64 0]) (by simp [results, Tryz.results36, go_sem, f0, f1, f2, f3, f4]) rfl ⟨_, _, _, _, _, rfl, HI.out, HF.out⟩
end Go.Proofs.YtcojkmcnigppbaaGreatDoor
