/-
  Several texts in one: RefGet, NotM5, RowBytes, OpenSx. Conditions: those that each theorem states.
-/
import Derived.Test.YtcojkmcnigppbaaGreatDoorM5
import Derived.OpenShut
import Derived.ProofKit
import Derived.Deep.Slices
import Derived.Deep.Fields
import Derived.ChangeSame
set_option linter.unusedVariables false
set_option linter.unusedSimpArgs false
open Go.Lib (hid)
open Go.Proofs.YtcojkmcnigppbaaGreatDoor (zA zB zC zD zE zF)

section
namespace Go.Proofs.YtcojkmcnigppbaaGreatDoor
open Go Go.Proofs Go.RowKit Sx Oct
def RGetEnd (w : World) (e : Ending) (w' : World) (x : SX × Nat × Nat) : Prop :=
 ∃ v0 v1 v2 v3 v4, e = .returned (.tuple #[.agg #[v0, v1, v2, v3, v4], .int .i64 x.2.1, .int .i64 x.2.2]) ∧ SIn w' (fun _ => True) x.1 [v0, v1, v2, v3, v4] ∧ Below w.heap.size w w'
/-- The end of a reader: the value's cells, and where it lies. -/
def REnd (S : Nat → Prop) (w : World) (e : Ending) (w' : World) (x : SX × Nat × Nat) : Prop :=
 ∃ v0 v1 v2 v3 v4, e = .returned (.tuple #[.agg #[v0, v1, v2, v3, v4], .int .i64 x.2.1, .int .i64 x.2.2]) ∧ SIn w' S x.1 [v0, v1, v2, v3, v4] ∧ Below w.heap.size w w'
theorem REnd.all {S : Nat → Prop} {w w' : World} {e : Ending} {x : SX × Nat × Nat} (h : REnd S w e w' x) : RGetEnd w e w' x := by
 obtain ⟨v0, v1, v2, v3, v4, he, hs, hb⟩ := h
 exact ⟨v0, v1, v2, v3, v4, he, hs.more fun _ _ => trivial, hb⟩
set_option maxHeartbeats 4000000 in
set_option maxRecDepth 100000 in
theorem refGet_lo (A : Option Addr) (n c : Nat) (b : List UInt8) (L : Nat) (w : World) (hr : Reads w w.heap.size 1 A n (Lib.byteCells b)) (hLo : ∀ ad, A = some ad → L ≤ ad.block) (hc : n ≤ c) :
  Calls Tryz.prog 40 #[.slice A n c] w fun e w' => REnd (fun k => (L ≤ k ∧ k < w.heap.size) ∨ w.heap.size ≤ k) w e w' (pGet b) := by
 have hl : b.length = n := by have := hr.1; simpa [Lib.byteCells_length] using this
 by_cases h4 : 4096 < n
 ·have hpg : pGet b = (zeroS, 4096, 4) := by unfold pGet; rw [if_pos (by omega)]
  rw [hpg]
  have h4' : (4096 : Int) < n := by omega
  clear hr hl hpg
  go_enter Tryz.func40, Tryz.ntmps40
  have X0 : Box (w.alloc (.cells #[.bool false, .bool false, .slice none 0 0, .slice none 0 0, .slice none 0 0] 25)) w.heap.size (.bool false) (.bool false) (.slice none 0 0) (.slice none 0 0) (.slice none 0 0) := heap_alloc_new w _
  obtain ⟨⟨d0, d1, d2, d3, d4⟩, dz⟩ := X0.all
  have dz0 := dz 0
  have dz1 := dz 1
  have dz2 := dz 2
  have dz3 := dz 3
  have dz4 := dz 4
  clear dz X0
  go_wp2_with fail
  exact bodyPost_ret (v := .tuple #[.agg #[.bool false, .bool false, .slice none 0 0, .slice none 0 0, .slice none 0 0], .int .i64 4096, .int .i64 4]) (by simp [results, Tryz.results40, go_sem, d0, d1, d2, d3, d4]) rfl ⟨_, _, _, _, _, rfl, sin_zero _ _, below_new _ _⟩
 ·have h4' : ¬ (4096 : Int) < n := by omega
  have hn : n ≤ 5000 := by omega
  have C := refValue_all (2 * b.length + 1) A n c 0 0 0 b L w.heap.size (w.alloc (.cells #[.bool false, .bool false, .slice none 0 0, .slice none 0 0, .slice none 0 0] 25)) (hr.keep fun q hq => (below_new w _).cell hq) hLo (by simp) hn hc (by omega) (by omega) (by omega) (by omega)
  rw [List.drop_zero] at C
  have hpg : pGet b = match pVal (2 * b.length + 1) b 0 0 with
    | .err e r => (zeroS, b.length - r.length, e)
    | .ok (t, _) r => match r with
     | [] => (t, 0, 0)
     | _ :: _ => (zeroS, b.length - r.length, 5) := by
   unfold pGet; rw [if_neg (by omega)]; rfl
  rw [hpg]
  have hb0 := below_new w (.cells #[.bool false, .bool false, .slice none 0 0, .slice none 0 0, .slice none 0 0] 25)
  have hz0 : (w.alloc (.cells #[.bool false, .bool false, .slice none 0 0, .slice none 0 0, .slice none 0 0] 25)).heap.size = w.heap.size + 1 := by simp
  have HX := hid (show Box (w.alloc (.cells #[.bool false, .bool false, .slice none 0 0, .slice none 0 0, .slice none 0 0] 25)) w.heap.size (.bool false) (.bool false) (.slice none 0 0) (.slice none 0 0) (.slice none 0 0) from heap_alloc_new w _)
  clear hr hpg
  cases hv : pVal (2 * b.length + 1) b 0 0 with
  | err k r =>
   rw [hv] at C
   have C := hid C
   show Calls Tryz.prog _ _ _ (fun e w' => REnd (fun k => (L ≤ k ∧ k < w.heap.size) ∨ w.heap.size ≤ k) w e w' (zeroS, b.length - r.length, k))
   rw [hl]
   clear hv
   go_enter Tryz.func40, Tryz.ntmps40
   go_wp2_with fail
   refine C.out.mono ?_
   rintro e w3 ⟨hk1, hk2, rfl, hb3⟩
   have hk0 : ¬ ((k : Int) = 0) := by omega
   have X0 : Box8 (w3.alloc (.cells #[.bool false, .bool false, .slice none 0 0, .slice none 0 0, .slice none 0 0, .int .i64 0, .int .i64 0, .int .i64 0] 55)) w3.heap.size (.bool false) (.bool false) (.slice none 0 0) (.slice none 0 0) (.slice none 0 0) (.int .i64 0) (.int .i64 0) (.int .i64 0) := heap_alloc_new w3 _
   obtain ⟨⟨d0, d1, d2, d3, d4, d5, d6, d7⟩, dz⟩ := X0.all
   have dz0 := dz 0
   have dz1 := dz 1
   have dz2 := dz 2
   have dz3 := dz 3
   have dz4 := dz 4
   have dz5 := dz 5
   have dz6 := dz 6
   have dz7 := dz 7
   have hbx := below_new w3 (.cells #[.bool false, .bool false, .slice none 0 0, .slice none 0 0, .slice none 0 0, .int .i64 (n - r.length : Nat), .int .i64 0, .int .i64 k] 55)
   have hw3 := hb0.trans (hb3.mono hb0.size)
   have hw4 := hw3.trans (hbx.mono hw3.size)
   obtain ⟨⟨f0, f1, f2, f3, f4⟩, fz⟩ := ((HX.out.old hb3).old hbx).all
   have fz0 := fz 0
   have fz1 := fz 1
   have fz2 := fz 2
   have fz3 := fz 3
   have fz4 := fz 4
   obtain ⟨⟨g0, g1, g2, g3, g4, g5, g6, g7⟩, -⟩ := Box8.all (heap_alloc_new w3 (.cells #[.bool false, .bool false, .slice none 0 0, .slice none 0 0, .slice none 0 0, .int .i64 (n - r.length : Nat), .int .i64 0, .int .i64 k] 55))
   have HF := hid (put5_below hw4 (Nat.le_refl _) (.bool false) (.bool false) (.slice none 0 0) (.slice none 0 0) (.slice none 0 0)).drew
   clear dz fz X0 hw3 hw4
   go_wp2_with fail
   generalize (w3.alloc (.cells #[.bool false, .bool false, .slice none 0 0, .slice none 0 0, .slice none 0 0, .int .i64 (n - r.length : Nat), .int .i64 0, .int .i64 k] 55)) = G at *
   clear hbx d0 d1 d2 d3 d4 d5 d6 d7 dz0 dz1 dz2 dz3 dz4 dz5 dz6 dz7
   go_region
   all_goals
    go_wp2_with fail
    exact bodyPost_ret (v := .tuple #[.agg #[.bool false, .bool false, .slice none 0 0, .slice none 0 0, .slice none 0 0], .int .i64 (n - r.length : Nat), .int .i64 k]) (by simp [results, Tryz.results40, go_sem, f0, f1, f2, f3, f4]) rfl ⟨_, _, _, _, _, rfl, sin_zero _ _, HF.out⟩
  | ok y r =>
   obtain ⟨t, nd'⟩ := y
   rw [hv] at C
   have C := hid C
   cases r with
   | nil =>
    clear hv
    show Calls Tryz.prog _ _ _ (fun e w' => REnd (fun k => (L ≤ k ∧ k < w.heap.size) ∨ w.heap.size ≤ k) w e w' (t, 0, 0))
    have hn0 : ((n - ([] : List UInt8).length : Nat) : Int) = n := by simp
    have HN := hid hn0
    clear hn0
    go_enter Tryz.func40, Tryz.ntmps40
    go_wp2_with fail
    refine C.out.mono ?_
    rintro e w3 ⟨v0, v1, v2, v3, v4, rfl, hin, hb3⟩
    rw [HN.out]
    obtain ⟨l', h', hi', da', ks', B1, m1, j1, B2, m2, j2, B3, m3, j3, eZ, eE⟩ := hin.form_
    injection eE with eE0 eE; injection eE with eE1 eE; injection eE with eE2 eE; injection eE with eE3 eE; injection eE with eE4 eE
    subst eE0 eE1 eE2 eE3 eE4
    clear eE eZ
    have X0 : Box8 (w3.alloc (.cells #[.bool false, .bool false, .slice none 0 0, .slice none 0 0, .slice none 0 0, .int .i64 0, .int .i64 0, .int .i64 0] 55)) w3.heap.size (.bool false) (.bool false) (.slice none 0 0) (.slice none 0 0) (.slice none 0 0) (.int .i64 0) (.int .i64 0) (.int .i64 0) := heap_alloc_new w3 _
    obtain ⟨⟨d0, d1, d2, d3, d4, d5, d6, d7⟩, dz⟩ := X0.all
    have dz0 := dz 0
    have dz1 := dz 1
    have dz2 := dz 2
    have dz3 := dz 3
    have dz4 := dz 4
    have dz5 := dz 5
    have dz6 := dz 6
    have dz7 := dz 7
    have hbx := below_new w3 (.cells #[.bool l', .bool h', .slice B1 m1 j1, .slice B2 m2 j2, .slice B3 m3 j3, .int .i64 n, .int .i64 nd', .int .i64 0] 55)
    have hw3 := hb0.trans (hb3.mono hb0.size)
    have hw4 := hw3.trans (hbx.mono hw3.size)
    obtain ⟨⟨f0, f1, f2, f3, f4⟩, fz⟩ := ((HX.out.old hb3).old hbx).all
    have fz0 := fz 0
    have fz1 := fz 1
    have fz2 := fz 2
    have fz3 := fz 3
    have fz4 := fz 4
    have HF := hid (put5_below hw4 (Nat.le_refl _) (.bool l') (.bool h') (.slice B1 m1 j1) (.slice B2 m2 j2) (.slice B3 m3 j3))
    have HI := hid (((((hin.old hbx).keep fun q hq => put5_far (w := w3.alloc (.cells #[.bool l', .bool h', .slice B1 m1 j1, .slice B2 m2 j2, .slice B3 m3 j3, .int .i64 n, .int .i64 nd', .int .i64 0] 55)) (b := w.heap.size) (x0 := .bool l') (x1 := .bool h') (x2 := .slice B1 m1 j1) (x3 := .slice B2 m2 j2) (x4 := .slice B3 m3 j3) q (by omega))).more (S' := fun k => (L ≤ k ∧ k < w.heap.size) ∨ w.heap.size ≤ k) fun k hk => by omega))
    clear dz fz X0 hw3 hw4
    go_wp2_with fail
    exact bodyPost_ret (v := .tuple #[.agg #[.bool l', .bool h', .slice B1 m1 j1, .slice B2 m2 j2, .slice B3 m3 j3], .int .i64 0, .int .i64 0]) (by simp [results, Tryz.results40, go_sem, f0, f1, f2, f3, f4]) rfl ⟨_, _, _, _, _, rfl, HI.out, HF.out⟩
   | cons c0 r0 =>
    obtain ⟨q, hq⟩ : ∃ q, q = n - (c0 :: r0).length := ⟨_, rfl⟩
    have hlr : (c0 :: r0).length = r0.length + 1 := by simp
    have hn0 : ((n - (c0 :: r0).length : Nat) : Int) = q := by rw [hq]
    have HN := hid hn0
    show Calls Tryz.prog _ _ _ (fun e w' => REnd (fun k => (L ≤ k ∧ k < w.heap.size) ∨ w.heap.size ≤ k) w e w' (zeroS, b.length - (c0 :: r0).length, 5))
    have hn0' : n ≠ 0 := by
     intro h0
     have hbn : b = [] := List.eq_nil_of_length_eq_zero (by omega)
     rw [hbn] at hv
     rw [pVal] at hv
     cases hv
    clear hv
    have hql : (q : Int) < n := by omega
    rw [hl, ← hq]
    clear hn0 hq
    go_enter Tryz.func40, Tryz.ntmps40
    go_wp2_with fail
    refine C.out.mono ?_
    rintro e w3 ⟨v0, v1, v2, v3, v4, rfl, hin, hb3⟩
    rw [HN.out]
    obtain ⟨l', h', hi', da', ks', B1, m1, j1, B2, m2, j2, B3, m3, j3, eZ, eE⟩ := hin.form_
    injection eE with eE0 eE; injection eE with eE1 eE; injection eE with eE2 eE; injection eE with eE3 eE; injection eE with eE4 eE
    subst eE0 eE1 eE2 eE3 eE4
    clear eE eZ
    have X0 : Box8 (w3.alloc (.cells #[.bool false, .bool false, .slice none 0 0, .slice none 0 0, .slice none 0 0, .int .i64 0, .int .i64 0, .int .i64 0] 55)) w3.heap.size (.bool false) (.bool false) (.slice none 0 0) (.slice none 0 0) (.slice none 0 0) (.int .i64 0) (.int .i64 0) (.int .i64 0) := heap_alloc_new w3 _
    obtain ⟨⟨d0, d1, d2, d3, d4, d5, d6, d7⟩, dz⟩ := X0.all
    have dz0 := dz 0
    have dz1 := dz 1
    have dz2 := dz 2
    have dz3 := dz 3
    have dz4 := dz 4
    have dz5 := dz 5
    have dz6 := dz 6
    have dz7 := dz 7
    have hbx := below_new w3 (.cells #[.bool l', .bool h', .slice B1 m1 j1, .slice B2 m2 j2, .slice B3 m3 j3, .int .i64 q, .int .i64 nd', .int .i64 0] 55)
    have hw3 := hb0.trans (hb3.mono hb0.size)
    have hw4 := hw3.trans (hbx.mono hw3.size)
    obtain ⟨⟨f0, f1, f2, f3, f4⟩, fz⟩ := ((HX.out.old hb3).old hbx).all
    have fz0 := fz 0
    have fz1 := fz 1
    have fz2 := fz 2
    have fz3 := fz 3
    have fz4 := fz 4
    obtain ⟨⟨g0, g1, g2, g3, g4, g5, g6, g7⟩, -⟩ := Box8.all (heap_alloc_new w3 (.cells #[.bool l', .bool h', .slice B1 m1 j1, .slice B2 m2 j2, .slice B3 m3 j3, .int .i64 q, .int .i64 nd', .int .i64 0] 55))
    have HF := hid (put5_below hw4 (Nat.le_refl _) (.bool false) (.bool false) (.slice none 0 0) (.slice none 0 0) (.slice none 0 0)).drew
    clear dz fz X0 hw3 hw4
    go_wp2_with fail
    generalize (w3.alloc (.cells #[.bool l', .bool h', .slice B1 m1 j1, .slice B2 m2 j2, .slice B3 m3 j3, .int .i64 q, .int .i64 nd', .int .i64 0] 55)) = G at *
    clear hbx d0 d1 d2 d3 d4 d5 d6 d7 dz0 dz1 dz2 dz3 dz4 dz5 dz6 dz7
    go_region
    all_goals
     go_wp2_with fail
     exact bodyPost_ret (v := .tuple #[.agg #[.bool false, .bool false, .slice none 0 0, .slice none 0 0, .slice none 0 0], .int .i64 q, .int .i64 5]) (by simp [results, Tryz.results40, go_sem, f0, f1, f2, f3, f4]) rfl ⟨_, _, _, _, _, rfl, sin_zero _ _, HF.out⟩
theorem refGet_any (A : Option Addr) (n c : Nat) (b : List UInt8) (w : World) (hr : Reads w w.heap.size 1 A n (Lib.byteCells b)) (hc : n ≤ c) :
  Calls Tryz.prog 40 #[.slice A n c] w fun e w' => RGetEnd w e w' (pGet b) :=
 (refGet_lo A n c b 0 w hr (fun _ _ => Nat.zero_le _) hc).mono fun _ _ h => h.all
end Go.Proofs.YtcojkmcnigppbaaGreatDoor
end

section
namespace Go.Proofs.YtcojkmcnigppbaaGreatDoor
open Go Go.Proofs Go.RowKit Sx Oct
theorem text_le2 {b : List UInt8} {n : Nat} (h : b.length ≤ n) : (text b).length ≤ 2 * n + 2 := by
 have := text_le b
 omega
theorem aHint_le {s hi da r : List UInt8} (h : aHint s = .ok (hi, da) r) : hi.length ≤ s.length ∧ da.length ≤ s.length := by
 unfold aHint at h
 have t1 := (Tail.skip s).le
 cases hP : aPlain (skip s) with
 | err e q => rw [hP] at h; cases h
 | ok b q =>
  rw [hP] at h
  simp only at h
  have h1 := aPlain_le hP
  have h2 := aPlain_lt hP
  cases hq : skip q with
  | nil => rw [hq] at h; cases h
  | cons c q2 =>
   rw [hq] at h
   simp only at h
   have t2 := (Tail.skip q).le
   rw [hq, List.length_cons] at t2
   split at h
   ·cases h
   ·have t3 := (Tail.skip q2).le
    cases hP2 : aPlain (skip q2) with
    | err e q3 => rw [hP2] at h; cases h
    | ok b2 q3 =>
     rw [hP2] at h
     injection h with h3 h4
     injection h3 with h5 h6
     subst h5 h6
     have h7 := aPlain_le hP2
     exact ⟨by omega, by omega⟩
theorem mul_up {a m n : Nat} (h : m ≤ n) : a * (4 * m + 10) ≤ a * (4 * n + 10) := Nat.mul_le_mul_left _ (by omega)
theorem aVal_form (f : Nat) : (∀ s nd ar t nd' r, aVal f s nd ar = .ok (t, nd') r → (form t).length ≤ nodes t * (4 * s.length + 10) ∧ r.length ≤ s.length) ∧
  (∀ s nd ar ts nd' r, aKids f s nd ar = .ok (ts, nd') r → (formL ts).length ≤ nodesL ts * (4 * s.length + 10) ∧ r.length ≤ s.length) := by
 induction f with
 | zero => exact ⟨fun s nd ar t nd' r h => (by rw [aVal] at h; cases h), fun s nd ar ts nd' r h => (by rw [aKids] at h; cases h)⟩
 | succ f ih =>
  constructor
  ·intro s nd ar t nd' r h
   rw [aVal] at h
   have t1 := (Tail.skip s).le
   cases hs : skip s with
   | nil => rw [hs] at h; cases h
   | cons c q =>
    rw [hs] at h
    rw [hs, List.length_cons] at t1
    simp only at h
    split at h
    ·cases h
    ·split at h
     ·cases h
     ·split at h
      ·cases hk : aKids f q (nd + 1) (ar + 1) with
       | err e r' => rw [hk] at h; cases h
       | ok y r' =>
        obtain ⟨ks, n2⟩ := y
        rw [hk] at h
        injection h with h1 h2
        injection h1 with h3 h4
        subst h3 h2
        have hk2 := ih.2 _ _ _ _ _ _ hk
        have hm := mul_up (a := nodesL ks) (show q.length ≤ s.length by omega)
        rw [form, nodes, Nat.add_mul]
        simp
        omega
      ·split at h
       ·cases hH : aHint q with
        | err e r' => rw [hH] at h; cases h
        | ok y r' =>
         obtain ⟨hi, da⟩ := y
         rw [hH] at h
         injection h with h1 h2
         injection h1 with h3 h4
         subst h3 h2
         have hl := aHint_le hH
         have hf := aHint_fine q
         rw [hH] at hf
         have hr := Tail.le (show Tail r' q from hf)
         have x1 := text_le2 hl.1
         have x2 := text_le2 hl.2
         rw [form, nodes, nodesL]
         simp
         omega
       ·cases hP : aPlain (c :: q) with
        | err e r' => rw [hP] at h; cases h
        | ok da r' =>
         rw [hP] at h
         injection h with h1 h2
         injection h1 with h3 h4
         subst h3 h2
         have hl := aPlain_le hP
         have hr := aPlain_lt hP
         rw [List.length_cons] at hl hr
         have x2 := text_le2 hl
         rw [form, nodes, nodesL]
         simp
         omega
  ·intro s nd ar ts nd' r h
   rw [aKids] at h
   have t1 := (Tail.skip s).le
   cases hs : skip s with
   | nil => rw [hs] at h; cases h
   | cons c q =>
    rw [hs] at h
    rw [hs, List.length_cons] at t1
    simp only at h
    split at h
    ·injection h with h1 h2
     injection h1 with h3 h4
     subst h3 h2
     rw [formL]
     exact ⟨by simp, by omega⟩
    ·cases hv : aVal f (c :: q) nd ar with
     | err e r' => rw [hv] at h; cases h
     | ok y r' =>
      obtain ⟨u, n2⟩ := y
      rw [hv] at h
      simp only at h
      cases hk : aKids f r' n2 ar with
      | err e r2 => rw [hk] at h; cases h
      | ok z r2 =>
       obtain ⟨us, n3⟩ := z
       rw [hk] at h
       injection h with h1 h2
       injection h1 with h3 h4
       subst h3 h2
       have a1 := ih.1 _ _ _ _ _ _ hv
       have a2 := ih.2 _ _ _ _ _ _ hk
       rw [List.length_cons] at a1
       have m1 := mul_up (a := nodes u) (show q.length + 1 ≤ s.length by omega)
       have m2 := mul_up (a := nodesL us) (show r'.length ≤ s.length by omega)
       rw [formL, nodesL, Nat.add_mul, List.length_append]
       omega
theorem pGetOk {b : List UInt8} {t : SX} {p : Nat} (h : pGet b = (t, p, 0)) : form t = b ∧ may t = true ∧ p = 0 :=
 pGet_sound h (fun r hr => by
  have := (pVal_kind _).1 _ _ _ _ _ hr (Nat.le_refl _) (by omega)
  omega)
end Go.Proofs.YtcojkmcnigppbaaGreatDoor
end

section
namespace Go.Proofs.YtcojkmcnigppbaaGreatDoor
open Go Go.Proofs Go.RowKit
/-- WHAT THE WALK IS TOLD OF A SLICE OF INTEGERS THAT CAME IN: it is nil; or it leads to a row of 'cap' cells, the numbers 'zs' (the first 'len' are its elements, the rest its spare room), each fitting its kind. -/
def IsRow (k : IntKind) (w : World) (a : Option Addr) (len cap : Nat) (zs : List Int) : Prop :=
 (a = none ∧ len = 0 ∧ cap = 0 ∧ zs = []) ∨
 ∃ x, a = some x ∧ len ≤ cap ∧ cap ≤ maxLen ∧ zs.length = cap ∧ (∀ i, i < zs.length → w.cell? (x.add i) = some (.int k (zs.getD i 0))) ∧ ∀ n ∈ zs, (Lit.int k n).wf = true
def bytesOf (len : Nat) (zs : List Int) : List UInt8 := (zs.take len).map fun z => z.toNat.toUInt8
theorem reads_of_row {w : World} {a : Option Addr} {len cap : Nat} {zs : List Int} (h : IsRow .u8 w a len cap zs) : Reads w w.heap.size 1 a len (Lib.byteCells (bytesOf len zs)) ∧ len ≤ cap ∧ cap ≤ maxLen := by
 rcases h with ⟨rfl, rfl, rfl, rfl⟩ | ⟨x, rfl, hl, hm, hz, hc, hw⟩
 ·exact ⟨⟨by simp [bytesOf, Lib.byteCells], fun h => absurd h (by omega)⟩, Nat.le_refl _, by unfold maxLen; omega⟩
 ·refine ⟨⟨?_, fun hn => ⟨x, rfl, ?_, ?_⟩⟩, hl, hm⟩
  ·simp [bytesOf, Lib.byteCells_length]; omega
  ·have := hc 0 (by omega)
   rcases Nat.lt_or_ge x.block w.heap.size with h' | h'
   ·exact h'
   ·rw [World.cell?] at this
    have e : (x.add 0).block = x.block := block_of_add x 0
    rw [e, Array.getElem?_eq_none h'] at this
    simp at this
  ·intro j u hu
   have hj : j < (zs.take len).length := by
    have := (List.getElem?_eq_some_iff.1 hu).1
    simpa [bytesOf, Lib.byteCells] using this
   have hjz : j < zs.length := by simp at hj; omega
   rw [hc j hjz]
   simp only [bytesOf, Lib.byteCells, List.map_map, List.getElem?_map, List.getElem?_eq_getElem hj, Option.map_some, Option.some.injEq, Function.comp_apply] at hu
   rw [← hu, List.getElem_take]
   have hb := hw zs[j] (List.getElem_mem hjz)
   have hb2 := bounds_u8 hb
   have e1 : zs.getD j 0 = zs[j] := by simp [List.getD, List.getElem?_eq_getElem hjz]
   rw [e1]
   congr 2
   simp
   omega
end Go.Proofs.YtcojkmcnigppbaaGreatDoor
end

section
set_option maxRecDepth 100000
namespace Go.Proofs.YtcojkmcnigppbaaGreatDoor
open Go Go.Proofs Go.RowKit Sx
open Go.ChangeShapes Go.WideShapes Go.ChangeAt Go.Deep
section
variable {H : Type} {enc : TypeId × Value → H} {w : World} {held : Bool}
theorem bulk_lits (k : IntKind) (zs : List Int) : Rows.uptoBulkAll (lits (H := H) k zs) = zs.length := by
 induction zs with
 | nil => rfl
 | cons z r ih => show Rows.uptoBulk (.lit (.int k z)) + Rows.uptoBulkAll (lits k r) = _; rw [ih]; simp [Rows.uptoBulk]; omega
theorem open_bytes {fuel : Nat} {cs : List Value} {x : DataW H × List MemPlace} (h : DataW.trod enc Tryz.prog w 0 (fun _ => true) held fuel 22 cs = some x) :
  ∃ A n c l, cs = [.slice A n c] ∧ RIn w (fun _ => True) 1 A n (Lib.byteCells l) ∧ n ≤ c ∧ n + 1 ≤ Rows.uptoBulk x.1 ∧ (∀ R, (∀ y ∈ x.1.weights Tryz.prog 22, y ≤ R) → n ≤ R) := by
 rcases open_ints Tryz.underlying22 Tryz.underlying5 (by kernel_rfl) h with ⟨hcs, hx⟩ | ⟨a, len, cap, zs, hcs, _, hl, hm, hz, hx, hcell, hwz⟩
 ·subst hx
  exact ⟨none, 0, 0, [], hcs, RIn.none_, Nat.le_refl _, by simp [Rows.uptoBulk], fun R _ => Nat.zero_le _⟩
 ·simp at hz
  have hr := reads_of_row (w := w) (a := some a) (len := len) (cap := cap) (zs := zs) (.inr ⟨a, rfl, hl, hm, hz, hcell, hwz⟩)
  subst hx
  refine ⟨some a, len, cap, bytesOf len zs, hcs, (RIn.of_reads hr.1).more fun _ _ => trivial, hl, ?_, ?_⟩
  ·simp only [Rows.uptoBulk, bulk_lits, List.length_take, List.length_drop]
   omega
  ·intro R hR
   have h0 := hR (((lits (H := H) .u8 (zs.take len)).length + (lits (H := H) .u8 (zs.drop len)).length) * Tryz.prog.bytesOf 5) (by simp [DataW.weights, Tryz.underlying22])
   have hb : Tryz.prog.bytesOf 5 = 1 := by kernel_rfl
   rw [hb] at h0
   simp [lits] at h0
   omega
theorem structSexp : ∃ fs : Array Field, Tryz.prog.underlying 25 = some (.struct fs) ∧ oneCellFields Tryz.prog fs = true ∧ fs.toList.map (·.type) = [4, 4, 22, 22, 23] :=
 ⟨_, Tryz.underlying25, by kernel_rfl, by kernel_rfl⟩
theorem open_five {fuel : Nat} {cs : List Value} {x : DataW H × List MemPlace} (h : DataW.trod enc Tryz.prog w 0 (fun _ => true) held fuel 25 cs = some x) :
  ∃ (v0 v1 v2 v3 v4 : Value) (y0 y1 y2 y3 y4 : DataW H × List MemPlace) (n : Nat), n < fuel ∧ cs = [v0, v1, v2, v3, v4] ∧ x.1 = .agg [y0.1, y1.1, y2.1, y3.1, y4.1] ∧
   DataW.trod enc Tryz.prog w 0 (fun _ => true) held n 4 [v0] = some y0 ∧ DataW.trod enc Tryz.prog w 0 (fun _ => true) held n 4 [v1] = some y1 ∧ DataW.trod enc Tryz.prog w 0 (fun _ => true) held n 22 [v2] = some y2 ∧
   DataW.trod enc Tryz.prog w 0 (fun _ => true) held n 22 [v3] = some y3 ∧ DataW.trod enc Tryz.prog w 0 (fun _ => true) held n 23 [v4] = some y4 := by
 obtain ⟨fs, hfs, hone, htys⟩ := structSexp
 obtain ⟨xs, n, hn, hx, hl, hlen, hf⟩ := DataW.trod_struct hfs h
 have hc : Tryz.prog.cellsOf 25 = 5 := by kernel_rfl
 rw [hc] at hl
 obtain ⟨fl⟩ := fs
 match fl, htys with
 | [f0, f1, f2, f3, f4], htys =>
  simp only [List.map_cons, List.map_nil, List.cons.injEq, and_true] at htys
  obtain ⟨t0, t1, t2, t3, t4⟩ := htys
  match cs, hl with
  | [c0, c1, c2, c3, c4], _ =>
   match xs, hlen with
   | [y0, y1, y2, y3, y4], _ =>
    obtain ⟨o0, k0⟩ := hone_of hone 0 f0 rfl
    obtain ⟨o1, k1⟩ := hone_of hone 1 f1 rfl
    obtain ⟨o2, k2⟩ := hone_of hone 2 f2 rfl
    obtain ⟨o3, k3⟩ := hone_of hone 3 f3 rfl
    obtain ⟨o4, k4⟩ := hone_of hone 4 f4 rfl
    have g0 := hf 0 f0 rfl
    have g1 := hf 1 f1 rfl
    have g2 := hf 2 f2 rfl
    have g3 := hf 3 f3 rfl
    have g4 := hf 4 f4 rfl
    rw [o0, k0, t0] at g0
    rw [o1, k1, t1] at g1
    rw [o2, k2, t2] at g2
    rw [o3, k3, t3] at g3
    rw [o4, k4, t4] at g4
    refine ⟨c0, c1, c2, c3, c4, y0, y1, y2, y3, y4, n, by omega, rfl, by rw [hx]; rfl, g0, g1, g2, g3, g4⟩
theorem choose_kids {n : Nat} {p : Nat → SX → Prop} (h : ∀ i, i < n → ∃ t, p i t) : ∃ ks : List SX, ks.length = n ∧ ∀ i t, ks[i]? = some t → p i t := by
 induction n with
 | zero => exact ⟨[], rfl, fun i t h => by simp at h⟩
 | succ n ih =>
  obtain ⟨ks, hl, hk⟩ := ih (fun i hi => h i (by omega))
  obtain ⟨t, ht⟩ := h n (by omega)
  refine ⟨ks ++ [t], by simp [hl], fun i u hu => ?_⟩
  rcases Nat.lt_trichotomy i n with hi | hi | hi
  ·rw [List.getElem?_append_left (by omega)] at hu; exact hk i u hu
  ·subst hi
   rw [List.getElem?_append_right (by omega), hl, Nat.sub_self] at hu
   simp at hu
   subst hu; exact ht
  ·rw [List.getElem?_eq_none (by simp; omega)] at hu; cases hu
theorem bulk_kids : ∀ (ks : List SX) (ys : List (DataW H)), ks.length = ys.length → (∀ (i : Nat) (t : SX) (y : DataW H), ks[i]? = some t → ys[i]? = some y → nodes t ≤ Rows.uptoBulk y ∧ (form t).length ≤ 60 * Rows.uptoBulk y) →
  nodesL ks ≤ Rows.uptoBulkAll ys ∧ (formL ks).length ≤ 60 * Rows.uptoBulkAll ys
 | [], [], _, _ => ⟨Nat.le_refl _, Nat.zero_le _⟩
 | k :: ks, y :: ys, hl, h => by
  have h0 := h 0 k y rfl rfl
  have h1 := bulk_kids ks ys (by simpa using hl) (fun i t u ht hu => h (i + 1) t u ht hu)
  rw [nodesL, formL, Rows.uptoBulkAll, List.length_append]
  omega
theorem open_sexp : ∀ (fuel : Nat) (cs : List Value) (x : DataW H × List MemPlace), DataW.trod enc Tryz.prog w 0 (fun _ => true) held fuel 25 cs = some x →
  (∀ y ∈ x.1.weights Tryz.prog 25, y ≤ reachBytes) → ∃ t, SIn w (fun _ => True) t cs ∧ nodes t ≤ Rows.uptoBulk x.1 ∧ (form t).length ≤ 60 * Rows.uptoBulk x.1 := by
 intro fuel
 induction fuel using Nat.strongRecOn with
 | _ fuel ih =>
  intro cs x h hw
  obtain ⟨v0, v1, v2, v3, v4, y0, y1, y2, y3, y4, n, hn, rfl, hx, g0, g1, g2, g3, g4⟩ := open_five h
  obtain ⟨l, e0, _⟩ := DataW.trod_bool Tryz.underlying4 g0
  obtain ⟨hh, e1, _⟩ := DataW.trod_bool Tryz.underlying4 g1
  obtain ⟨A1, n1, c1, hi, e2, r1, b1, u1, q1⟩ := open_bytes g2
  obtain ⟨A2, n2, c2, da, e3, r2, b2, u2, q2⟩ := open_bytes g3
  injection e0 with e0; injection e1 with e1; injection e2 with e2; injection e3 with e3
  subst e0 e1 e2 e3
  have hW : x.1.weights Tryz.prog 25 = y0.1.weights Tryz.prog 4 ++ (y1.1.weights Tryz.prog 4 ++ (y2.1.weights Tryz.prog 22 ++ (y3.1.weights Tryz.prog 22 ++ (y4.1.weights Tryz.prog 23 ++ [])))) := by
   rw [hx]
   obtain ⟨fs, hfs, _, htys⟩ := structSexp
   simp only [DataW.weights, hfs, htys, DataW.weightsEach]
  have w1 := q1 reachBytes (fun y hy => hw y (by rw [hW]; simp [hy]))
  have w2 := q2 reachBytes (fun y hy => hw y (by rw [hW]; simp [hy]))
  have w4 : ∀ y ∈ y4.1.weights Tryz.prog 23, y ≤ reachBytes := fun y hy => hw y (by rw [hW]; simp [hy])
  have hl1 : hi.length = n1 := by simpa [Lib.byteCells_length] using r1.1
  have hl2 : da.length = n2 := by simpa [Lib.byteCells_length] using r2.1
  have hre : reachBytes ≤ 140737488355328 := by unfold reachBytes; omega
  have ho : own l hh hi da ≤ 50 + n1 + n2 := by
   have t1 : (text hi).length ≤ n1 + 20 := by rw [text_length, hl1]; have := Oct.dec_length 18 n1 (by omega); omega
   have t2 : (text da).length ≤ n2 + 20 := by rw [text_length, hl2]; have := Oct.dec_length 18 n2 (by omega); omega
   unfold own
   split
   ·omega
   ·split <;> omega
  have hform : ∀ ks, (form (.mk l hh hi da ks)).length ≤ own l hh hi da + (formL ks).length := by
   intro ks
   rw [form, own]
   cases l <;> cases hh <;> simp <;> omega
  have hbulk : Rows.uptoBulk x.1 = Rows.uptoBulk y0.1 + (Rows.uptoBulk y1.1 + (Rows.uptoBulk y2.1 + (Rows.uptoBulk y3.1 + (Rows.uptoBulk y4.1 + 0)))) + 1 := by rw [hx]; rfl
  rcases DataW.trod_slice Tryz.underlying23 g4 with ⟨hcs, hy4⟩ | ⟨a, len, cap, elems, rest, m, hm, hcs, hy4, _, hle, hcm, hel, hall, _, _⟩
  ·injection hcs with hcs
   subst hcs
   refine ⟨.mk l hh hi da [], .mk (xs := []) r1 ⟨b1, by omega⟩ r2 ⟨b2, by omega⟩ RIn.none_ ⟨Nat.le_refl _, by omega⟩ rfl (fun i t hit => by simp at hit), ?_, ?_⟩
   ·rw [nodes, nodesL]; omega
   ·have := hform []
    rw [formL] at this
    simp at this
    omega
  ·injection hcs with hcs
   subst hcs
   have hc5 : Tryz.prog.cellsOf 25 = 5 := by kernel_rfl
   rw [hc5] at hall
   have hwk : ∀ (i : Nat) (y : DataW H × List MemPlace), elems[i]? = some y → ∀ z ∈ y.1.weights Tryz.prog 25, z ≤ reachBytes := by
    intro i y hy z hz
    apply w4
    rw [hy4]
    simp only [DataW.weights, Tryz.underlying23]
    have : ∀ (es : List (DataW H)) (y : DataW H), y ∈ es → ∀ z ∈ y.weights Tryz.prog 25, z ∈ DataW.weightsAll Tryz.prog 25 es := by
     intro es
     induction es with
     | nil => intro y hy; cases hy
     | cons e r ihr =>
      intro y hy z hz
      rw [DataW.weightsAll]
      rcases List.mem_cons.1 hy with rfl | hy
      ·simp [hz]
      ·simp [ihr y hy z hz]
    have hmem : y.1 ∈ elems.map (·.1) := List.mem_map.2 ⟨y, List.mem_of_getElem? hy, rfl⟩
    simp [this _ _ hmem z hz]
   have hlen80 : len * 80 ≤ reachBytes := by
    have h0 := w4 ((elems.length + rest.length) * Tryz.prog.bytesOf 25) (by rw [hy4]; simp [DataW.weights, Tryz.underlying23])
    have hb : Tryz.prog.bytesOf 25 = 80 := by kernel_rfl
    rw [hb] at h0
    have : len * 80 ≤ (elems.length + rest.length) * 80 := Nat.mul_le_mul_right _ (by omega)
    omega
   have each : ∀ i, i < len → ∃ cs' y, elems[i]? = some y ∧ w.cells? 0 (a.add (i * 5)) 5 = some cs' ∧ DataW.trod enc Tryz.prog w 0 (fun _ => true) held m 25 cs' = some y := by
    intro i hi
    have h0 := hall i hi
    rw [List.getElem?_eq_getElem (by omega)] at h0
    obtain ⟨cs', h1, h2⟩ := Option.bind_eq_some_iff.1 h0
    exact ⟨cs', _, List.getElem?_eq_getElem (by omega), h1, h2⟩
   obtain ⟨xs, hxs⟩ : ∃ xs : List Value, xs = (List.range (len * 5)).map fun j => (w.cell? (a.add j)).getD (.bool false) := ⟨_, rfl⟩
   have hxl : xs.length = len * 5 := by rw [hxs]; simp
   have hcell : ∀ i r, i < len → r < 5 → ∃ u, w.cell? (a.add (i * 5 + r)) = some u := by
    intro i r hi hr
    obtain ⟨cs', y, _, h1, _⟩ := each i hi
    obtain ⟨_, hcl, hat⟩ := World.cells?_some h1
    have := hat r hr
    rw [add_of_add] at this
    exact ⟨cs'[r]'(by omega), by rw [this]; exact List.getElem?_eq_getElem _⟩
   have hxat : ∀ j u, xs[j]? = some u → w.cell? (a.add j) = some u := by
    intro j u hu
    have hj : j < len * 5 := by rw [← hxl]; exact (List.getElem?_eq_some_iff.1 hu).1
    obtain ⟨v, hv⟩ := hcell (j / 5) (j % 5) (by omega) (by omega)
    rw [show j / 5 * 5 + j % 5 = j by omega] at hv
    rw [hxs] at hu
    simp [hj, hv] at hu
    rw [hv, hu]
   have hchunk : ∀ i cs', i < len → w.cells? 0 (a.add (i * 5)) 5 = some cs' → (xs.drop (i * 5)).take 5 = cs' := by
    intro i cs' hi h1
    obtain ⟨_, hcl, hat⟩ := World.cells?_some h1
    apply List.ext_getElem?
    intro r
    rw [List.getElem?_take]
    split
    ·rename_i hr
     rw [List.getElem?_drop]
     have hj : i * 5 + r < xs.length := by rw [hxl]; omega
     have h2 := hxat (i * 5 + r) xs[i * 5 + r] (List.getElem?_eq_getElem hj)
     have h3 := hat r hr
     rw [add_of_add, h2] at h3
     rw [List.getElem?_eq_getElem hj]; exact h3
    ·rw [List.getElem?_eq_none (by omega)]
   obtain ⟨ks, hkl, hks⟩ := choose_kids (n := len) (p := fun i t => SIn w (fun _ => True) t ((xs.drop (i * 5)).take 5) ∧ ∀ y, elems[i]? = some y → nodes t ≤ Rows.uptoBulk y.1 ∧ (form t).length ≤ 60 * Rows.uptoBulk y.1) (by
    intro i hi
    obtain ⟨cs', y, he, h1, h2⟩ := each i hi
    obtain ⟨t, ht, h3, h4⟩ := ih m (by omega) cs' y h2 (hwk i y he)
    refine ⟨t, by rw [hchunk i cs' hi h1]; exact ht, fun y' hy' => ?_⟩
    rw [he] at hy'
    injection hy' with hy'
    subst hy'
    exact ⟨h3, h4⟩)
   have hsum := bulk_kids ks (elems.map (·.1)) (by simp; omega) (fun i t y ht hy => by
    rw [List.getElem?_map] at hy
    obtain ⟨y', hy', rfl⟩ := Option.map_eq_some_iff.1 hy
    exact (hks i t ht).2 y' hy')
   have hb4 : Rows.uptoBulkAll (elems.map (·.1)) + 1 ≤ Rows.uptoBulk y4.1 := by rw [hy4, Rows.uptoBulk]; omega
   refine ⟨.mk l hh hi da ks, .mk (xs := xs) r1 ⟨b1, by omega⟩ r2 ⟨b2, by omega⟩ ⟨hxl, fun _ => ⟨a, rfl, trivial, hxat⟩⟩ ⟨hle, by omega⟩ hkl (fun i t hit => (hks i t hit).1), ?_, ?_⟩
   ·rw [nodes]; omega
   ·have := hform ks
    omega
end
end Go.Proofs.YtcojkmcnigppbaaGreatDoor
end
