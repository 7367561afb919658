/-
  The contracts of sexp's beginsValue, (*reader).hinted, list and value: the value that is read, or what is thrown. Conditions: the bytes lie in other blocks than the reader; they are at most 5000.
-/
import Derived.Test.YtaenahilnnlbfaaDoorReader
import Derived.Lib.IndexAny
import Derived.Deep.RegionHeld3
set_option linter.unusedVariables false
namespace Go.Proofs.YtaenahilnnlbfaaDoor
open Go Go.Proofs Go.RowKit Sx Oct

theorem begins_contains (c : UInt8) : ([40, 91, 48, 49, 50, 51, 52, 53, 54, 55, 56, 57] : List UInt8).contains c = begins c := by
  rw [Bool.eq_iff_iff]
  simp only [List.contains_iff_mem, begins, Bool.or_eq_true, beq_iff_eq, isDig, decide_eq_true_eq]
  constructor
  · intro h
    simp only [List.mem_cons, List.not_mem_nil, or_false] at h
    rcases h with rfl | rfl | rfl | rfl | rfl | rfl | rfl | rfl | rfl | rfl | rfl | rfl <;> decide
  · rintro ((rfl | rfl) | ⟨h1, h2⟩)
    · simp
    · simp
    · have hc : c.toNat = 48 ∨ c.toNat = 49 ∨ c.toNat = 50 ∨ c.toNat = 51 ∨ c.toNat = 52 ∨ c.toNat = 53 ∨ c.toNat = 54 ∨ c.toNat = 55 ∨ c.toNat = 56 ∨ c.toNat = 57 := by omega
      have e : ∀ k : UInt8, c.toNat = k.toNat → c = k := fun k h => UInt8.toNat_inj.1 h
      rcases hc with h | h | h | h | h | h | h | h | h | h
      · rw [e 48 h]; simp
      · rw [e 49 h]; simp
      · rw [e 50 h]; simp
      · rw [e 51 h]; simp
      · rw [e 52 h]; simp
      · rw [e 53 h]; simp
      · rw [e 54 h]; simp
      · rw [e 55 h]; simp
      · rw [e 56 h]; simp
      · rw [e 57 h]; simp

set_option maxHeartbeats 1000000 in
set_option maxRecDepth 100000 in
theorem begins_any (c : UInt8) (w : World) : Calls Tryd.prog 46 #[.int .u8 c.toNat] w fun e w' => e = .returned (.bool (begins c)) ∧ w' = w := by
  have hI := Tryd.strings_IndexByte ⟨#[40, 91, 48, 49, 50, 51, 52, 53, 54, 55, 56, 57]⟩ (c.toNat : Int) w
  have e1 : ((c.toNat : Int)).toNat.toUInt8 = c := by simp
  rw [e1] at hI
  have hB : Hid (decide (0 ≤ Lib.indexByte [40, 91, 48, 49, 50, 51, 52, 53, 54, 55, 56, 57] c) = begins c) := by show _ = _; rw [← begins_contains, Lib.contains_iff_indexByte]
  have hge := Lib.indexByte_ge [40, 91, 48, 49, 50, 51, 52, 53, 54, 55, 56, 57] c
  have HI := Lib.hid hI
  have hI2 : Calls Tryd.prog 52 #[.string ⟨#[40, 91, 48, 49, 50, 51, 52, 53, 54, 55, 56, 57]⟩, .int .u8 c.toNat] w fun e w' => e = .returned (.int .i64 (Lib.indexByte [40, 91, 48, 49, 50, 51, 52, 53, 54, 55, 56, 57] c)) ∧ w' = w := hI
  have HI2 := Lib.hid hI2
  rw [← hB.out]
  clear hI hI2 HI e1 hB
  generalize Lib.indexByte [40, 91, 48, 49, 50, 51, 52, 53, 54, 55, 56, 57] c = j at *
  go_enter Tryd.func46, Tryd.ntmps46
  go_wp2_with ((with_reducible refine HI2.out.mono ?_); rintro e w2 ⟨rfl, rfl⟩)
  go_ret
  exact ⟨rfl, rfl⟩

/-- What reading a value comes to. -/
def ValEnd (w : World) (r : Nat) (A : Option Addr) (n c : Nat) (e : Ending) (w' : World) : Res (SX × Nat) → Prop
  | .err k rest => Thrown k (n - rest.length) e ∧ w.grownBy w' (some r)
  | .ok (t, nd') rest => ∃ v0 v1 v2 v3 v4, e = .returned (.agg #[v0, v1, v2, v3, v4]) ∧ SIn w' (fun k => w.heap.size ≤ k) t [v0, v1, v2, v3, v4] ∧ RdAt w' r A n c (n - rest.length : Nat) nd' ∧ w.grownBy w' (some r)

def hintRes (x : Res (List UInt8 × List UInt8)) (nd : Nat) : Res (SX × Nat) := match x with
  | .err e r' => .err e r'
  | .ok (hi, da) r' => .ok (.mk false true hi da [], nd) r'
theorem grown_own {w w1 : World} {row : Option Nat} (h : w.grownBy w1 row) {b i : Nat} (hb : w.heap.size ≤ b) (x : Value) : w.grownBy (w1.setCell ⟨b, i, none⟩ x) row :=
  ⟨h.os, h.tape, h.output, by have := h.size; simpa using this, fun k hk hr => (Below.heap_setCell w1 ⟨b, i, none⟩ x k (by show k ≠ b; omega)).trans (h.block k hk hr)⟩
theorem Box.grown {w w' : World} {b : Nat} {v0 v1 v2 v3 v4 : Value} {row : Option Nat} (h : Box w b v0 v1 v2 v3 v4) (hg : w.grownBy w' row) (hr : row ≠ some b) : Box w' b v0 v1 v2 v3 v4 :=
  (hg.block b (by
    rcases Nat.lt_or_ge b w.heap.size with h' | h'
    · exact h'
    · unfold Box at h; rw [Array.getElem?_eq_none h'] at h; cases h) (fun e => hr e.symm)).trans h
theorem RdAt.far {w : World} {r : Nat} {A : Option Addr} {n c : Nat} {p nd : Int} (h : RdAt w r A n c p nd) {q : Addr} (hq : r ≠ q.block) (x : Value) : RdAt (w.setCell q x) r A n c p nd := (Below.heap_setCell w q x r hq).trans h

theorem put5_block {w : World} {b k : Nat} (hk : k ≠ b) (x0 x1 x2 x3 x4 : Value) : (put5 w b x0 x1 x2 x3 x4).heap[k]? = w.heap[k]? := by
  unfold put5
  rw [Below.heap_setCell _ _ _ _ (by exact hk), Below.heap_setCell _ _ _ _ (by exact hk), Below.heap_setCell _ _ _ _ (by exact hk), Below.heap_setCell _ _ _ _ (by exact hk), Below.heap_setCell _ _ _ _ (by exact hk)]
theorem put5_grown {w w1 : World} {row : Option Nat} (h : w.grownBy w1 row) {b : Nat} (hb : w.heap.size ≤ b) (x0 x1 x2 x3 x4 : Value) : w.grownBy (put5 w1 b x0 x1 x2 x3 x4) row :=
  grown_own (grown_own (grown_own (grown_own (grown_own h hb x0) hb x1) hb x2) hb x3) hb x4

set_option maxHeartbeats 4000000 in
set_option maxRecDepth 100000 in
theorem hinted_any (r : Nat) (A : Option Addr) (n c : Nat) (p : Nat) (nd : Nat) (b : List UInt8) (B : Nat) (w : World) (h : RdAt w r A n c p nd) (hr : Reads w B 1 A n (Lib.byteCells b)) (hB : B ≤ r) (hn : n ≤ 5000) (hc : n ≤ c) (s : List UInt8) (hs : b.drop p = 91 :: s) :
    Calls Tryd.prog 48 #[.pointer (some ⟨r, 0, none⟩)] w fun e w' => ValEnd w r A n c e w' (hintRes (pHint s) nd) := by
  generalize hRR : hintRes (pHint s) nd = R
  have HRR := Lib.hid hRR
  clear hRR
  have hl : b.length = n := by have := hr.1; simpa [Lib.byteCells_length] using this
  have hsl : (91 :: s).length = n - p := by rw [← hs, List.length_drop, hl]
  have hsl' : s.length + 1 = n - p := by rw [← hsl]; simp
  have hrl := h.lt
  have hb0 := (below_new w (.cells #[.bool false, .bool false, .slice none 0 0, .slice none 0 0, .slice none 0 0] 25)).trans ((below_new (w.alloc (.cells #[.bool false, .bool false, .slice none 0 0, .slice none 0 0, .slice none 0 0] 25)) (.cells #[.bool false, .bool true, .slice none 0 0, .slice none 0 0, .slice none 0 0] 25)).mono (by simp))
  have X1 : Box ((w.alloc (.cells #[.bool false, .bool false, .slice none 0 0, .slice none 0 0, .slice none 0 0] 25)).alloc (.cells #[.bool false, .bool true, .slice none 0 0, .slice none 0 0, .slice none 0 0] 25)) w.heap.size (.bool false) (.bool false) (.slice none 0 0) (.slice none 0 0) (.slice none 0 0) :=
    below_at (below_new _ _) (heap_alloc_new w _)
  have X2 : Box ((w.alloc (.cells #[.bool false, .bool false, .slice none 0 0, .slice none 0 0, .slice none 0 0] 25)).alloc (.cells #[.bool false, .bool true, .slice none 0 0, .slice none 0 0, .slice none 0 0] 25)) (w.heap.size + 1) (.bool false) (.bool true) (.slice none 0 0) (.slice none 0 0) (.slice none 0 0) := by
    have := heap_alloc_new (w.alloc (.cells #[.bool false, .bool false, .slice none 0 0, .slice none 0 0, .slice none 0 0] 25)) (.cells #[.bool false, .bool true, .slice none 0 0, .slice none 0 0, .slice none 0 0] 25)
    have e : (w.alloc (.cells #[.bool false, .bool false, .slice none 0 0, .slice none 0 0, .slice none 0 0] 25)).heap.size = w.heap.size + 1 := by simp
    rw [e] at this
    exact this
  have hsz : ((w.alloc (.cells #[.bool false, .bool false, .slice none 0 0, .slice none 0 0, .slice none 0 0] 25)).alloc (.cells #[.bool false, .bool true, .slice none 0 0, .slice none 0 0, .slice none 0 0] 25)).heap.size = w.heap.size + 2 := by simp
  go_enter Tryd.func48, Tryd.ntmps48
  go_wp2_with fail
  generalize ((w.alloc (.cells #[.bool false, .bool false, .slice none 0 0, .slice none 0 0, .slice none 0 0] 25)).alloc (.cells #[.bool false, .bool true, .slice none 0 0, .slice none 0 0, .slice none 0 0] 25)) = W at *
  have hg0 := grown_below hb0 (some r)
  refine (expect_good r A n c p nd b B W (h.old hb0) (hr.keep fun q hq => hb0.cell (by omega)) (by omega) hn 91 s hs 91 rfl).mono ?_
  rintro e w1 ⟨rfl, hR1, hg1⟩
  have hg01 := hg0.trans hg1
  have hr1 := reads_grown hr hg01 hB
  have hd1 : b.drop (p + 1) = s := by rw [← List.drop_drop, hs]; rfl
  have C2 := bytes_any r A n c (p + 1) nd b B w1 hR1 hr1 hB (by omega) hn hc s hd1
  have X1 := X1.grown hg1 (fun e => by injection e with e; omega)
  have X2 := X2.grown hg1 (fun e => by injection e with e; omega)
  have hz1 := hg1.size
  clear hg0 hg1 hR1 h
  cases hp1 : pBytes s with
  | err k rest =>
    rw [hp1] at C2
    have HC := Lib.hid C2
    have hRe : Hid (R = .err k rest) := by show _ = _; rw [← HRR.out]; simp [hintRes, pHint, hp1]
    clear C2 hp1
    go_wp2_with ((with_reducible refine HC.out.mono ?_); rintro e w2 ⟨rfl, hg2⟩)
    refine ⟨rfl, ?_⟩
    rw [hRe.out]
    exact ⟨rfl, hg01.trans hg2⟩
  | ok hi rest =>
    rw [hp1] at C2
    obtain ⟨hs1, hhl⟩ := pBytes_sound hp1
    obtain ⟨hd2, hq1, hq2⟩ := drop_rest (by omega) hd1 hs1
    rw [hl] at hd2 hq1
    have HC := Lib.hid C2
    have HP1 := Lib.hid hp1
    clear C2 hp1
    go_wp2_with fail
    refine HC.out.mono ?_
    rintro e w2 ⟨A1, c1, rfl, hc1, q1, hR2, hg2⟩
    have hg02 := hg01.trans hg2
    have X1 := X1.grown hg2 (fun e => by injection e with e; omega)
    have X2 := X2.grown hg2 (fun e => by injection e with e; omega)
    have hz2 := hg2.size
    obtain ⟨⟨-, -, f2, -, -⟩, fz⟩ := X2.all
    have fz2 := fz 2
    have Y1 := X1.far (p := ⟨w.heap.size + 1, 2, none⟩) (by show w.heap.size ≠ w.heap.size + 1; omega) (.slice A1 hi.length c1)
    have Y2 := X2.set2 (.slice A1 hi.length c1)
    have hgY := grown_own hg02 (b := w.heap.size + 1) (i := 2) (by omega) (.slice A1 hi.length c1)
    have hRY := hR2.far (q := ⟨w.heap.size + 1, 2, none⟩) (by show r ≠ w.heap.size + 1; omega) (.slice A1 hi.length c1)
    have qY := (q1.more (S' := fun k => w.heap.size + 2 ≤ k) (fun k hk => by omega)).far (p := ⟨w.heap.size + 1, 2, none⟩) (fun k hk => by show k ≠ w.heap.size + 1; omega) (.slice A1 hi.length c1)
    have hzY : (w2.setCell ⟨w.heap.size + 1, 2, none⟩ (.slice A1 hi.length c1)).heap.size = w2.heap.size := by simp
    clear X1 X2 fz hg02 hR2 q1 hg2 hg01
    have hd2' := hd2
    have hr2 := reads_grown hr hgY hB
    clear HC
    cases rest with
    | nil =>
      have hRe : Hid (R = .err 2 []) := by show _ = _; rw [← HRR.out]; simp [hintRes, pHint, HP1.out]
      have C3 := Lib.hid (expect_end r A n c (n - ([] : List UInt8).length) nd 93 _ hRY (by simp) hn (by omega))
      go_wp2_with ((with_reducible refine C3.out.mono ?_); rintro e w3 ⟨rfl, hb3⟩)
      refine ⟨rfl, ?_⟩
      rw [hRe.out]
      exact ⟨rfl, hgY.trans (grown_below hb3 _)⟩
    | cons c0 r2 =>
      have hlr : (c0 :: r2).length = r2.length + 1 := by simp
      have hle : r2.length + 1 ≤ n := by have := congrArg List.length hs1; rw [List.length_append, hlr] at this; omega
      have hpn : n - (c0 :: r2).length < n := by rw [hlr]; omega
      by_cases hc0 : c0 ≠ 93
      · have hRe : Hid (R = .err 3 (c0 :: r2)) := by show _ = _; rw [← HRR.out]; simp [hintRes, pHint, HP1.out, hc0]
        have C3 := Lib.hid (expect_bad r A n c (n - (c0 :: r2).length) nd b B _ hRY hr2 hpn hn c0 r2 hd2 93 (fun e => hc0 (UInt8.toNat_inj.1 (by show c0.toNat = 93; omega))))
        go_wp2_with ((with_reducible refine C3.out.mono ?_); rintro e w3 ⟨rfl, hb3⟩)
        refine ⟨rfl, ?_⟩
        rw [hRe.out]
        exact ⟨rfl, hgY.trans (grown_below hb3 _)⟩
      · have hc0 : c0 = 93 := Classical.not_not.1 hc0
        subst hc0
        have C3 := Lib.hid (expect_good r A n c (n - (93 :: r2).length) nd b B _ hRY hr2 hpn hn 93 r2 hd2 93 rfl)
        have hp2 : n - (93 :: r2 : List UInt8).length + 1 = n - r2.length := by rw [hlr]; omega
        have hd3 : b.drop (n - r2.length) = r2 := by rw [← hp2, ← List.drop_drop, hd2]; rfl
        rw [hp2] at C3
        generalize hWY : w2.setCell ⟨w.heap.size + 1, 2, none⟩ (.slice A1 hi.length c1) = WY at *
        have C4 := fun W hW hrW => bytes_any r A n c (n - r2.length) nd b B W hW hrW hB (by omega) hn hc r2 hd3
        cases hp3 : pBytes r2 with
        | err k rest =>
          have hRe : Hid (R = .err k rest) := by show _ = _; rw [← HRR.out]; simp [hintRes, pHint, HP1.out, hp3]
          rw [hp3] at C4
          have HC4 := Lib.hid C4
          have HRG := Lib.hid (fun W (hg : WY.grownBy W (some r)) => reads_grown hr2 hg hB)
          clear C4 hp3
          go_wp2_with (first
            | ((with_reducible refine C3.out.mono ?_); rintro e w3 ⟨rfl, hR3, hg3⟩)
            | ((with_reducible refine (HC4.out w3 hR3 (HRG.out _ hg3)).mono ?_); rintro e w4 ⟨rfl, hg4⟩))
          refine ⟨rfl, ?_⟩
          rw [hRe.out]
          exact ⟨rfl, (hgY.trans hg3).trans hg4⟩
        | ok da rest =>
          have hRe : Hid (R = .ok (.mk false true hi da [], nd) rest) := by show _ = _; rw [← HRR.out]; simp [hintRes, pHint, HP1.out, hp3]
          rw [hp3] at C4
          have HC4 := Lib.hid C4
          have HRG := Lib.hid (fun W (hg : WY.grownBy W (some r)) => reads_grown hr2 hg hB)
          have hdl := (pBytes_sound hp3).2
          clear C4 hp3
          go_wp2_with ((with_reducible refine C3.out.mono ?_); rintro e w3 ⟨rfl, hR3, hg3⟩)
          refine (HC4.out w3 hR3 (HRG.out _ hg3)).mono ?_
          rintro e w4 ⟨A2, c2, rfl, hc2, q2, hR4, hg4⟩
          have hgZ := (hgY.trans hg3).trans hg4
          have hgYZ := hg3.trans hg4
          have Z1 := Y1.grown hgYZ (fun e => by injection e with e; omega)
          have Z2 := Y2.grown hgYZ (fun e => by injection e with e; omega)
          have qZ := qY.grown (by omega) hgYZ (fun k hk e => by injection e with e; omega)
          have hz4 := hgYZ.size
          have hz3 := hg3.size
          obtain ⟨⟨d0, d1, d2, d3, d4⟩, dz⟩ := Z1.all
          obtain ⟨⟨f0, f1, f2, f3, f4⟩, fz⟩ := Z2.all
          have fz3 := fz 3
          have dz0 := dz 0
          have dz1 := dz 1
          have dz2 := dz 2
          have dz3 := dz 3
          have dz4 := dz 4
          clear fz dz Z1 Z2 Y1 Y2 qY hRY
          go_wp2_with fail
          have F : ∀ q : Addr, w.heap.size + 2 ≤ q.block → (put5 (w4.setCell ⟨w.heap.size + 1, 3, none⟩ (.slice A2 da.length c2)) w.heap.size (.bool false) (.bool true) (.slice A1 hi.length c1) (.slice A2 da.length c2) (.slice none 0 0)).cell? q = w4.cell? q := by
            intro q hq
            rw [put5_far q (by omega)]
            exact World.cell?_setCell_other _ _ _ _ (fun e => by rw [← e] at hq; simp at hq)
          have hgF := put5_grown (grown_own hgZ (b := w.heap.size + 1) (i := 3) (by omega) (.slice A2 da.length c2)) (Nat.le_refl _) (.bool false) (.bool true) (.slice A1 hi.length c1) (.slice A2 da.length c2) (.slice none 0 0)
          have hRF : RdAt (put5 (w4.setCell ⟨w.heap.size + 1, 3, none⟩ (.slice A2 da.length c2)) w.heap.size (.bool false) (.bool true) (.slice A1 hi.length c1) (.slice A2 da.length c2) (.slice none 0 0)) r A n c (n - rest.length : Nat) nd :=
            (put5_block (by omega) _ _ _ _ _).trans (hR4.far (q := ⟨w.heap.size + 1, 3, none⟩) (by show r ≠ w.heap.size + 1; omega) _)
          refine bodyPost_ret (v := .agg #[.bool false, .bool true, .slice A1 hi.length c1, .slice A2 da.length c2, .slice none 0 0]) (by simp [results, Tryd.results48, go_sem, d0, d1, d2, d3, d4]) rfl ?_
          rw [hRe.out]
          refine ⟨_, _, _, _, _, rfl, ?_, hRF, hgF⟩
          exact .mk (xs := []) ((qZ.keep F).more fun k hk => by omega) ⟨hc1, by omega⟩ (((q2.more (S' := fun k => w.heap.size + 2 ≤ k) fun k hk => by omega).keep F).more fun k hk => by omega) ⟨hc2, by omega⟩ RIn.none_ ⟨Nat.le_refl _, by omega⟩ rfl (fun i t hit => by simp at hit)
end Go.Proofs.YtaenahilnnlbfaaDoor
