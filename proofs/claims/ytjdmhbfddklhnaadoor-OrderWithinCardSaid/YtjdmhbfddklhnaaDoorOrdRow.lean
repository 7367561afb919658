/-
  A range that came in as an argument: its cells, and that its ends read as bytes. No conditions.
-/
import Derived.Test.YtjdmhbfddklhnaaDoorOrdOk
import Derived.Test.YtjdmhbfddklhnaaDoorRowBytes
import Derived.OpenShut
import Derived.ProofKit
set_option linter.unusedSimpArgs false
set_option linter.unusedVariables false
set_option maxRecDepth 100000
namespace Go.Proofs.YtjdmhbfddklhnaaDoor
open Go Go.Proofs Go.RowKit _root_.Ord11 Go.Proofs.YtjdmhbfddklhnaaDoor.Ord11
open Go.ChangeShapes Go.WideShapes Go.ChangeAt

/-- What the walk is told of a range that came in. -/
structure RgRow (w : World) (r : Rg) (A1 : Option Addr) (n1 c1 : Nat) (A2 : Option Addr) (n2 c2 : Nat) : Prop where
  ho : r.o < 256
  r1 : Reads w w.heap.size 1 A1 n1 (Lib.byteCells r.lo.at_)
  k1 : n1 ≤ c1
  r2 : Reads w w.heap.size 1 A2 n2 (Lib.byteCells r.hi.at_)
  k2 : n2 ≤ c2

section
variable {H : Type} {enc : TypeId × Value → H} {w : World} {held : Bool}

theorem open_bytes_plain {fuel : Nat} {cs : List Value} {x : DataW H × List MemPlace} (h : DataW.trod enc Tryd.prog w 0 (fun _ => true) held fuel 22 cs = some x) :
    ∃ A n c l, cs = [.slice A n c] ∧ Reads w w.heap.size 1 A n (Lib.byteCells l) ∧ n ≤ c := by
  rcases open_ints Tryd.underlying22 Tryd.underlying5 (by kernel_rfl) h with ⟨hcs, _⟩ | ⟨a, len, cap, zs, hcs, _, hl, hm, hz, _, hcell, hwz⟩
  · exact ⟨none, 0, 0, [], hcs, Reads.none_, Nat.le_refl _⟩
  · have hr := reads_of_row (w := w) (a := some a) (len := len) (cap := cap) (zs := zs) (.inr ⟨a, rfl, hl, hm, by simpa using hz, hcell, hwz⟩)
    exact ⟨some a, len, cap, bytesOf len zs, hcs, hr.1, hl⟩

theorem structBound : ∃ fs : Array Field, Tryd.prog.underlying 29 = some (.struct fs) ∧ fs.toList.map (fun f => (f.type, f.offset, Tryd.prog.cellsOf f.type)) = [(4, 0, 1), (4, 1, 1), (22, 2, 1)] :=
  ⟨_, Tryd.underlying29, by kernel_rfl⟩
theorem structRange : ∃ fs : Array Field, Tryd.prog.underlying 31 = some (.struct fs) ∧ fs.toList.map (fun f => (f.type, f.offset, Tryd.prog.cellsOf f.type)) = [(5, 0, 1), (29, 1, 3), (29, 4, 3)] :=
  ⟨_, Tryd.underlying31, by kernel_rfl⟩

theorem open_bound {fuel : Nat} {cs : List Value} {x : DataW H × List MemPlace} (h : DataW.trod enc Tryd.prog w 0 (fun _ => true) held fuel 29 cs = some x) :
    ∃ (i p : Bool) (A : Option Addr) (n c : Nat) (l : List UInt8), cs = [.bool i, .bool p, .slice A n c] ∧ Reads w w.heap.size 1 A n (Lib.byteCells l) ∧ n ≤ c := by
  obtain ⟨fs, hfs, hty⟩ := structBound
  obtain ⟨xs, n, hn, hx, hl, hlen, hf⟩ := DataW.trod_struct hfs h
  have hc : Tryd.prog.cellsOf 29 = 3 := by kernel_rfl
  rw [hc] at hl
  obtain ⟨fl⟩ := fs
  match fl, hty with
  | [f0, f1, f2], hty =>
    simp only [List.map_cons, List.map_nil, List.cons.injEq, Prod.mk.injEq, and_true] at hty
    obtain ⟨⟨t0, o0, s0⟩, ⟨t1, o1, s1⟩, t2, o2, s2⟩ := hty
    match cs, hl with
    | [c0, c1, c2], _ =>
      match xs, hlen with
      | [y0, y1, y2], _ =>
        have g0 := hf 0 f0 rfl
        have g1 := hf 1 f1 rfl
        have g2 := hf 2 f2 rfl
        rw [o0, s0, t0] at g0
        rw [o1, s1, t1] at g1
        rw [o2, s2, t2] at g2
        obtain ⟨i, e0, _⟩ := DataW.trod_bool Tryd.underlying4 g0
        obtain ⟨p, e1, _⟩ := DataW.trod_bool Tryd.underlying4 g1
        obtain ⟨A, n', c, l, e2, hr, hk⟩ := open_bytes_plain g2
        simp at e0 e1 e2
        subst e0 e1 e2
        exact ⟨i, p, A, n', c, l, rfl, hr, hk⟩

theorem open_range {fuel : Nat} {cs : List Value} {x : DataW H × List MemPlace} (h : DataW.trod enc Tryd.prog w 0 (fun _ => true) held fuel 31 cs = some x) :
    ∃ (r : Rg) (A1 : Option Addr) (n1 c1 : Nat) (A2 : Option Addr) (n2 c2 : Nat), cs = (rgC r A1 n1 c1 A2 n2 c2).toList ∧ RgRow w r A1 n1 c1 A2 n2 c2 := by
  obtain ⟨fs, hfs, hty⟩ := structRange
  obtain ⟨xs, n, hn, hx, hl, hlen, hf⟩ := DataW.trod_struct hfs h
  have hc : Tryd.prog.cellsOf 31 = 7 := by kernel_rfl
  rw [hc] at hl
  obtain ⟨fl⟩ := fs
  match fl, hty with
  | [f0, f1, f2], hty =>
    simp only [List.map_cons, List.map_nil, List.cons.injEq, Prod.mk.injEq, and_true] at hty
    obtain ⟨⟨t0, o0, s0⟩, ⟨t1, o1, s1⟩, t2, o2, s2⟩ := hty
    match cs, hl with
    | [c0, c1, c2, c3, c4, c5, c6], _ =>
      match xs, hlen with
      | [y0, y1, y2], _ =>
        have g0 := hf 0 f0 rfl
        have g1 := hf 1 f1 rfl
        have g2 := hf 2 f2 rfl
        rw [o0, s0, t0] at g0
        rw [o1, s1, t1] at g1
        rw [o2, s2, t2] at g2
        obtain ⟨o, e0, _, hw⟩ := DataW.trod_int Tryd.underlying5 g0
        obtain ⟨i1, p1, A1, n1, d1, l1, e1, hr1, hk1⟩ := open_bound g1
        obtain ⟨i2, p2, A2, n2, d2, l2, e2, hr2, hk2⟩ := open_bound g2
        simp at e0 e1 e2
        obtain ⟨q1, q2, q3⟩ := e1
        obtain ⟨q4, q5, q6⟩ := e2
        have hb := bounds_u8 hw
        obtain ⟨on, rfl⟩ : ∃ on : Nat, o = (on : Int) := ⟨o.toNat, by omega⟩
        subst e0 q1 q2 q3 q4 q5 q6
        exact ⟨⟨on, ⟨i1, p1, l1⟩, ⟨i2, p2, l2⟩⟩, A1, n1, d1, A2, n2, d2, rfl, by show on < 256; omega, hr1, hk1, hr2, hk2⟩
end
end Go.Proofs.YtjdmhbfddklhnaaDoor
