/-
  What the laws of layer 11 ask of the program's package order, over worlds that keep Q, and the law file's awake over it. Conditions: those contracts.
-/
import Derived.Test.YtjdmhbfddklhnaaDoorOrdRef7
import Derived.Test.YtjdmhbfddklhnaaDoorOrdRef3
import Derived.Test.YtjdmhbfddklhnaaDoorOrdRef4
import Derived.Test.YtjdmhbfddklhnaaDoorOrdRef5
set_option linter.unusedSimpArgs false
set_option linter.unusedVariables false
set_option maxRecDepth 100000
namespace Go.Proofs.YtjdmhbfddklhnaaDoor
open Go Go.Proofs Go.RowKit _root_.Ord11 Go.Proofs.YtjdmhbfddklhnaaDoor.Ord11

/-- A range that lies in memory: its cells. -/
def RgIs (w : World) (r : Rg) (z : Array Value) : Prop :=
  ∃ (A1 : Option Addr) (n1 c1 : Nat) (A2 : Option Addr) (n2 c2 : Nat), z = rgC r A1 n1 c1 A2 n2 c2 ∧ r.o < 256 ∧ SlAt w w.heap.size A1 n1 c1 r.lo.at_ ∧ SlAt w w.heap.size A2 n2 c2 r.hi.at_
theorem RgIs.next {w w' : World} {r : Rg} {z : Array Value} (h : RgIs w r z) (hb : Below w.heap.size w w') : RgIs w' r z := by
  obtain ⟨A1, n1, c1, A2, n2, c2, e, ho, h1, h2⟩ := h
  exact ⟨A1, n1, c1, A2, n2, c2, e, ho, h1.next hb, h2.next hb⟩

structure OrderOk (Q : World → Prop) : Prop where
  old : ∀ {w w'}, Q w → Below w.heap.size w w' → Q w'
  is : ∀ (o : Nat), o < 256 → ∀ {A : Option Addr} {n c : Nat} {a : List UInt8} {w : World}, Q w → SlAt w w.heap.size A n c a → Calls Tryd.prog 11 #[.int .u8 o, .slice A n c] w fun e w' => e = .returned (.bool (isV ordC o a)) ∧ Below w.heap.size w w'
  cmp : ∀ (o : Nat), o < 256 → ∀ {A A' : Option Addr} {n c n' c' : Nat} {a b : List UInt8} {w : World}, Q w → SlAt w w.heap.size A n c a → SlAt w w.heap.size A' n' c' b → Calls Tryd.prog 9 #[.int .u8 o, .slice A n c, .slice A' n' c'] w fun e w' => CmpEnd o a b w e w'
  may : ∀ {r : Rg} {z : Array Value} {w : World}, Q w → RgIs w r z → Calls Tryd.prog 14 #[.agg z] w fun e w' => e = .returned (.bool (mayR ordC r)) ∧ Below w.heap.size w w'
  in_ : ∀ {r : Rg} {z : Array Value} {A : Option Addr} {n c : Nat} {b : List UInt8} {w : World}, Q w → RgIs w r z → SlAt w w.heap.size A n c b → Calls Tryd.prog 16 #[.agg z, .slice A n c] w fun e w' => e = .returned (.bool (inR ordC r b)) ∧ Below w.heap.size w w'
  meet : ∀ {r s : Rg} {z y : Array Value} {w : World}, Q w → RgIs w r z → RgIs w s y → Calls Tryd.prog 20 #[.agg z, .agg y] w fun e w' => ∃ x, e = .returned (.tuple #[.agg x, .bool (meetR ordC r s).2]) ∧ RgIs w' (meetR ordC r s).1 x ∧ Below w.heap.size w w'
  empty : ∀ {r : Rg} {z : Array Value} {w : World}, Q w → RgIs w r z → Calls Tryd.prog 18 #[.agg z] w fun e w' => e = .returned (.bool (emptyR ordC r)) ∧ Below w.heap.size w w'
  within : ∀ {r s : Rg} {z y : Array Value} {w : World}, Q w → RgIs w r z → RgIs w s y → Calls Tryd.prog 23 #[.agg z, .agg y] w fun e w' => e = .returned (.bool (withinR ordC r s)) ∧ Below w.heap.size w w'

/-! The document's answers, in the same words. -/
theorem rMay {r : Rg} {z : Array Value} {w : World} (h : RgIs w r z) : Calls Tryd.prog 15 #[.agg z] w fun e w' => e = .returned (.bool (mayR ordC r)) ∧ Below w.heap.size w w' := by
  obtain ⟨A1, n1, c1, A2, n2, c2, rfl, ho, h1, h2⟩ := h
  exact refMay11 r ho w h1 h2
theorem rIn {r : Rg} {z : Array Value} {A : Option Addr} {n c : Nat} {b : List UInt8} {w : World} (h : RgIs w r z) (h3 : SlAt w w.heap.size A n c b) : Calls Tryd.prog 17 #[.agg z, .slice A n c] w fun e w' => e = .returned (.bool (inR ordC r b)) ∧ Below w.heap.size w w' := by
  obtain ⟨A1, n1, c1, A2, n2, c2, rfl, ho, h1, h2⟩ := h
  exact refIn11 r ho w h1 h2 h3
theorem rEmpty {r : Rg} {z : Array Value} {w : World} (h : RgIs w r z) : Calls Tryd.prog 19 #[.agg z] w fun e w' => e = .returned (.bool (emptyR ordC r)) ∧ Below w.heap.size w w' := by
  obtain ⟨A1, n1, c1, A2, n2, c2, rfl, ho, h1, h2⟩ := h
  exact refEmpty11 r ho w h1 h2
theorem rSame {r s : Rg} {z y : Array Value} {w : World} (h : RgIs w r z) (h' : RgIs w s y) : Calls Tryd.prog 22 #[.agg z, .agg y] w fun e w' => e = .returned (.bool (sameR r s)) ∧ Below w.heap.size w w' := by
  obtain ⟨A1, n1, c1, A2, n2, c2, rfl, ho, h1, h2⟩ := h
  obtain ⟨A3, n3, c3, A4, n4, c4, rfl, ho', h3, h4⟩ := h'
  exact refSame11 r s ho ho' w h1 h2 h3 h4
theorem rMeet {r s : Rg} {z y : Array Value} {w : World} (h : RgIs w r z) (h' : RgIs w s y) : Calls Tryd.prog 21 #[.agg z, .agg y] w fun e w' => ∃ x, e = .returned (.tuple #[.agg x, .bool (meetR ordC r s).2]) ∧ RgIs w' (meetR ordC r s).1 x ∧ Below w.heap.size w w' := by
  obtain ⟨A1, n1, c1, A2, n2, c2, rfl, ho, h1, h2⟩ := h
  obtain ⟨A3, n3, c3, A4, n4, c4, rfl, ho', h3, h4⟩ := h'
  refine (refMeet11 r s ho ho' w h1 h2 h3 h4).mono ?_
  rintro e w' ⟨rfl, hb⟩
  have hz : SlAt w' w'.heap.size none 0 0 [] := ⟨Reads.none_, by omega, by omega⟩
  cases hok : (meetR ordC r s).2 with
  | false =>
    refine ⟨_, rfl, ?_, hb⟩
    have e : (meetR ordC r s).1 = zeroR := by
      unfold meetR at hok ⊢
      split
      · rename_i h; rw [if_pos h] at hok; cases hok
      · rfl
    rw [e]
    exact ⟨none, 0, 0, none, 0, 0, rfl, by decide, hz, hz⟩
  | true =>
    refine ⟨_, rfl, ?_, hb⟩
    obtain ⟨_, _, _, e⟩ := meet_ok hok
    rw [e, endB_endP, endB_endP]
    have k1 := h1.next hb
    have k2 := h2.next hb
    have k3 := h3.next hb
    have k4 := h4.next hb
    cases endP r.o r.lo s.lo true <;> cases endP r.o r.hi s.hi false
    · exact ⟨A3, n3, c3, A4, n4, c4, rfl, ho, k3, k4⟩
    · exact ⟨A3, n3, c3, A2, n2, c2, rfl, ho, k3, k2⟩
    · exact ⟨A1, n1, c1, A4, n4, c4, rfl, ho, k1, k4⟩
    · exact ⟨A1, n1, c1, A2, n2, c2, rfl, ho, k1, k2⟩
theorem rg_ex : inR ordC ⟨2, ⟨true, false, [50]⟩, ⟨true, true, [49, 48]⟩⟩ [57, 46, 53] = true ∧ inR ordC ⟨2, ⟨true, false, [50]⟩, ⟨true, true, [49, 48]⟩⟩ [49, 48] = false ∧ inR ordC ⟨2, ⟨true, false, [50]⟩, ⟨true, true, [49, 48]⟩⟩ [50, 46, 48] = true := by
  decide +kernel
end Go.Proofs.YtjdmhbfddklhnaaDoor
