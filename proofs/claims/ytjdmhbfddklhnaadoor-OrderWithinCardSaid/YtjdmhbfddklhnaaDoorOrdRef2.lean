/-
  The contracts of the document's answers of layer 11 on ranges (package greffierref11). Conditions: ends of at most 2^40 bytes.
-/
import Derived.Test.YtjdmhbfddklhnaaDoorOrdRef1
import Derived.Test.YtjdmhbfddklhnaaDoorSchL
set_option linter.unusedSimpArgs false
set_option linter.unusedVariables false
set_option maxRecDepth 100000
namespace Go.Proofs.YtjdmhbfddklhnaaDoor
open Go Go.Proofs Go.RowKit _root_.Ord11 Go.Proofs.YtjdmhbfddklhnaaDoor.Ord11

/-- Bytes that lie below B, within bounds. -/
structure SlAt (w : World) (B : Nat) (A : Option Addr) (n c : Nat) (l : List UInt8) : Prop where
  rd : Reads w B 1 A n (Lib.byteCells l)
  fit : n ≤ 1099511627776
  cap : n ≤ c
theorem SlAt.below {w w' : World} {B : Nat} {A : Option Addr} {n c : Nat} {l : List UInt8} (h : SlAt w B A n c l) (hb : Below B w w') : SlAt w' B A n c l := ⟨h.rd.below hb, h.fit, h.cap⟩
theorem SlAt.more {w : World} {B B' : Nat} {A : Option Addr} {n c : Nat} {l : List UInt8} (h : SlAt w B A n c l) (hb : B ≤ B') : SlAt w B' A n c l := ⟨h.rd.more hb, h.fit, h.cap⟩
theorem SlAt.next {w w' : World} {A : Option Addr} {n c : Nat} {l : List UInt8} (h : SlAt w w.heap.size A n c l) (hb : Below w.heap.size w w') : SlAt w' w'.heap.size A n c l := (h.below hb).more hb.size
theorem SlAt.len {w : World} {B : Nat} {A : Option Addr} {n c : Nat} {l : List UInt8} (h : SlAt w B A n c l) : l.length = n := by have := h.rd.1; simpa [Lib.byteCells_length] using this

/-- A range's cells. -/
def rgC (r : Rg) (A1 : Option Addr) (n1 c1 : Nat) (A2 : Option Addr) (n2 c2 : Nat) : Array Value := #[.int .u8 r.o, .bool r.lo.is, .bool r.lo.op, .slice A1 n1 c1, .bool r.hi.is, .bool r.hi.op, .slice A2 n2 c2]
def bdC (x : Bd) (A : Option Addr) (n c : Nat) : Array Value := #[.bool x.is, .bool x.op, .slice A n c]

theorem isOk11 (o : Nat) (ho : o < 256) {A : Option Addr} {n c : Nat} {a : List UInt8} {w : World} (h : SlAt w w.heap.size A n c a) : Calls Tryd.prog 12 #[.int .u8 o, .slice A n c] w fun e w' => e = .returned (.bool (isV ordC o a)) ∧ Below w.heap.size w w' := refIs11 o ho A n c a w h.rd h.fit h.cap
theorem cmpOk11 (o : Nat) (ho : o < 256) {A A' : Option Addr} {n c n' c' : Nat} {a b : List UInt8} {w : World} (h : SlAt w w.heap.size A n c a) (h' : SlAt w w.heap.size A' n' c' b) : Calls Tryd.prog 10 #[.int .u8 o, .slice A n c, .slice A' n' c'] w fun e w' => CmpEnd o a b w e w' := refCompare11 o ho A A' n c n' c' a b w h.rd h'.rd h.fit h'.fit h.cap h'.cap

theorem next_below {w W w1 : World} (h : Below w.heap.size w W) (hb : Below W.heap.size W w1) : Below w.heap.size w w1 := h.trans (hb.mono h.size)
theorem cell_below {w W : World} (h : Below w.heap.size w W) {g k : Nat} {v : Value} (hc : w.cell? ⟨g, k, none⟩ = some v) (hg : g < w.heap.size) : W.cell? ⟨g, k, none⟩ = some v := (h.cell hg).trans hc
theorem mayB_val (o : Nat) (x : Bd) : mayB ordC o x = if x.is then isV ordC o x.at_ else (!x.op && x.at_.isEmpty) := by
  unfold mayB; cases x.is <;> simp

set_option maxHeartbeats 8000000 in
theorem refMay11 (r : Rg) (ho : r.o < 256) {A1 A2 : Option Addr} {n1 c1 n2 c2 : Nat} (w : World) (h1 : SlAt w w.heap.size A1 n1 c1 r.lo.at_) (h2 : SlAt w w.heap.size A2 n2 c2 r.hi.at_) :
    Calls Tryd.prog 15 #[.agg (rgC r A1 n1 c1 A2 n2 c2)] w fun e w' => e = .returned (.bool (mayR ordC r)) ∧ Below w.heap.size w w' := by
  obtain ⟨o, ⟨i1, p1, l1⟩, ⟨i2, p2, l2⟩⟩ := r
  have e1 := h1.len
  have e2 := h2.len
  dsimp only at e1 e2 ho
  have z1 : Hid (l1.isEmpty = decide (n1 = 0)) := by show _ = _; rw [← e1]; cases l1 <;> simp
  have z2 : Hid (l2.isEmpty = decide (n2 = 0)) := by show _ = _; rw [← e2]; cases l2 <;> simp
  obtain ⟨v1, hv1⟩ : ∃ v, v = isV ordC o l1 := ⟨_, rfl⟩
  obtain ⟨v2, hv2⟩ : ∃ v, v = isV ordC o l2 := ⟨_, rfl⟩
  obtain ⟨b1, hb1⟩ : ∃ b, b = mayB ordC o ⟨i1, p1, l1⟩ := ⟨_, rfl⟩
  obtain ⟨b2, hb2⟩ : ∃ b, b = mayB ordC o ⟨i2, p2, l2⟩ := ⟨_, rfl⟩
  obtain ⟨X, hX⟩ : ∃ X, X = mayR ordC ⟨o, ⟨i1, p1, l1⟩, ⟨i2, p2, l2⟩⟩ := ⟨_, rfl⟩
  have HM : Hid (X = (decide (1 ≤ o) && decide (o ≤ 5) && b1 && b2)) := by show _ = _; rw [hX, hb1, hb2]; rfl
  rw [mayB_val] at hb1 hb2
  dsimp only at hb1 hb2
  rw [← hv1, z1.out] at hb1
  rw [← hv2, z2.out] at hb2
  rw [← hX]
  have Y1 := Lib.hid hb1
  have Y2 := Lib.hid hb2
  clear hb1 hb2 hX z1 z2 e1 e2
  obtain ⟨w0, hw0⟩ : ∃ w0, w0 = (w.alloc (.cells #[.int .u8 o, .bool i1, .bool p1, .slice A1 n1 c1, .bool i2, .bool p2, .slice A2 n2 c2] 31)) := ⟨_, rfl⟩
  have HB0 : Hid (Below w.heap.size w w0) := by
    show Below _ _ _
    rw [hw0]
    exact (Below.refl w.heap.size w).alloc (Nat.le_refl _) _
  have B0 : Blk w0 w.heap.size 31 #[.int .u8 o, .bool i1, .bool p1, .slice A1 n1 c1, .bool i2, .bool p2, .slice A2 n2 c2] := by
    rw [hw0]
    exact Blk.new w 31 #[.int .u8 o, .bool i1, .bool p1, .slice A1 n1 c1, .bool i2, .bool p2, .slice A2 n2 c2]
  have X0 : Hid (∀ W, Below w0.heap.size w0 W → ∀ k u, (#[.int .u8 o, .bool i1, .bool p1, .slice A1 n1 c1, .bool i2, .bool p2, .slice A2 n2 c2] : Array Value)[k]? = some u → W.cell? ⟨w.heap.size, k, none⟩ = some u) := fun W hW k u hk => cell_below hW ((B0.cell k).trans hk) B0.lt
  have HR : Below w0.heap.size w0 w0 := Below.refl _ _
  clear B0
  have K1 : Hid (∀ W, Below w0.heap.size w0 W → Calls Tryd.prog 12 #[.int .u8 o, .slice A1 n1 c1] W fun e w' => e = .returned (.bool v1) ∧ Below W.heap.size W w') := by
    intro W hW; rw [hv1]; exact isOk11 o ho (h1.next (next_below HB0.out hW))
  have K2 : Hid (∀ W, Below w0.heap.size w0 W → Calls Tryd.prog 12 #[.int .u8 o, .slice A2 n2 c2] W fun e w' => e = .returned (.bool v2) ∧ Below W.heap.size W w') := by
    intro W hW; rw [hv2]; exact isOk11 o ho (h2.next (next_below HB0.out hW))
  clear hv1 hv2 h1 h2
  unfold rgC
  go_enter Tryd.func15, Tryd.ntmps15
  go_upto_region 1 with fail
  rw [← hw0]
  clear hw0
  have x0_0 := X0.out _ HR 0 _ rfl
  have x0_1 := X0.out _ HR 1 _ rfl
  have x0_2 := X0.out _ HR 2 _ rfl
  have x0_3 := X0.out _ HR 3 _ rfl
  have x0_4 := X0.out _ HR 4 _ rfl
  have x0_5 := X0.out _ HR 5 _ rfl
  have x0_6 := X0.out _ HR 6 _ rfl
  go_cut [3] (fun p3 wx => p3 = .bool b1 ∧ Below w0.heap.size w0 wx)
  case first =>
    cases i1 with
    | true =>
      go_wp2_with (go_at_call 12; (with_reducible refine (K1.out _ (by assumption)).mono ?_); rintro e w1 ⟨rfl, hb⟩; have hB := next_below (by assumption) hb; have x0_0 := X0.out _ hB 0 _ rfl; have x0_1 := X0.out _ hB 1 _ rfl; have x0_2 := X0.out _ hB 2 _ rfl; have x0_3 := X0.out _ hB 3 _ rfl; have x0_4 := X0.out _ hB 4 _ rfl; have x0_5 := X0.out _ hB 5 _ rfl; have x0_6 := X0.out _ hB 6 _ rfl; clear hb)
      all_goals go_meet
      all_goals exact ⟨by rw [Y1.out]; simp_all, hB⟩
    | false =>
      cases p1 with
      | true =>
        go_wp2_with fail
        all_goals go_meet
        all_goals exact ⟨by rw [Y1.out]; simp, HR⟩
      | false =>
        by_cases hn : n1 = 0
        · subst hn
          go_wp2_with fail
          all_goals go_meet
          all_goals exact ⟨by rw [Y1.out]; simp, HR⟩
        · have hnB : ((n1 : Int) == 0) = false := by rw [beq_eq_false_iff_ne]; omega
          have HN := Lib.hid hn
          clear hn
          go_wp2_with fail
          all_goals go_meet
          all_goals exact ⟨by rw [Y1.out]; simp [HN.out], HR⟩
  case rest =>
    obtain ⟨rfl, hb⟩ := hcut
    clear HR x0_0 x0_1 x0_2 x0_3 x0_4 x0_5 x0_6
    have hB := hb
    have x0_0 := X0.out _ hb 0 _ rfl
    have x0_1 := X0.out _ hb 1 _ rfl
    have x0_2 := X0.out _ hb 2 _ rfl
    have x0_3 := X0.out _ hb 3 _ rfl
    have x0_4 := X0.out _ hb 4 _ rfl
    have x0_5 := X0.out _ hb 5 _ rfl
    have x0_6 := X0.out _ hb 6 _ rfl
    go_upto_region 2 with fail
    go_cut [4] (fun p4 wx => p4 = .bool b2 ∧ Below w0.heap.size w0 wx)
    case first =>
      cases i2 with
      | true =>
        go_wp2_with (go_at_call 12; (with_reducible refine (K2.out _ (by assumption)).mono ?_); rintro e w1 ⟨rfl, hb⟩; have hB := next_below (by assumption) hb; have x0_0 := X0.out _ hB 0 _ rfl; have x0_1 := X0.out _ hB 1 _ rfl; have x0_2 := X0.out _ hB 2 _ rfl; have x0_3 := X0.out _ hB 3 _ rfl; have x0_4 := X0.out _ hB 4 _ rfl; have x0_5 := X0.out _ hB 5 _ rfl; have x0_6 := X0.out _ hB 6 _ rfl; clear hb)
        all_goals go_meet
        all_goals exact ⟨by rw [Y2.out]; simp_all, by assumption⟩
      | false =>
        cases p2 with
        | true =>
          go_wp2_with fail
          all_goals go_meet
          all_goals exact ⟨by rw [Y2.out]; simp, hB⟩
        | false =>
          by_cases hn : n2 = 0
          · subst hn
            go_wp2_with fail
            all_goals go_meet
            all_goals exact ⟨by rw [Y2.out]; simp, hB⟩
          · have hnB : ((n2 : Int) == 0) = false := by rw [beq_eq_false_iff_ne]; omega
            have HN := Lib.hid hn
            clear hn
            go_wp2_with fail
            all_goals go_meet
            all_goals exact ⟨by rw [Y2.out]; simp [HN.out], hB⟩
    case rest =>
      clear hb hB x0_0 x0_1 x0_2 x0_3 x0_4 x0_5 x0_6
      obtain ⟨rfl, hb⟩ := hcut
      have x0_0 := X0.out _ hb 0 _ rfl
      have x0_1 := X0.out _ hb 1 _ rfl
      have x0_2 := X0.out _ hb 2 _ rfl
      have x0_3 := X0.out _ hb 3 _ rfl
      have x0_4 := X0.out _ hb 4 _ rfl
      have x0_5 := X0.out _ hb 5 _ rfl
      have x0_6 := X0.out _ hb 6 _ rfl
      cases b1 <;> cases b2
      all_goals go_wp2_with fail
      all_goals go_ret
      all_goals exact ⟨by rw [HM.out]; simp_all <;> omega, next_below HB0.out hb⟩
end Go.Proofs.YtjdmhbfddklhnaaDoor
