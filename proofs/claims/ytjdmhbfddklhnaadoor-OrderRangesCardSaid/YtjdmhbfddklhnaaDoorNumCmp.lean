/-
  The contracts of the document's answers of layer 9, Compare and Greatest (package greffierref09). Conditions: at most 2^40 values.
-/
import Derived.Test.YtjdmhbfddklhnaaDoorNumGet
import Derived.Deep.RegionHeld3
set_option linter.unusedSimpArgs false
set_option linter.unusedVariables false
namespace Go.Proofs.YtjdmhbfddklhnaaDoor
open Go Go.Proofs Go.RowKit Num9

namespace Num9
def cmpI : Option Ordering → Int
  | some .lt => -1
  | some .gt => 1
  | _ => 0
/-- A value that no NaN is, and above which no other one stands. -/
def isBest (xs : List Nat) (x : Nat) : Bool := (Ieee.double.order x x == some .eq) && xs.all fun y => !(Ieee.double.order y x == some .gt)
def greatR (xs : List Nat) : Nat × Bool :=
  match xs.find? (isBest xs) with
  | some x => (x, true)
  | none => (0, false)
def fCells (xs : List Nat) : List Value := xs.map (Value.float .f64)
end Num9

def CmpEnd9 (x y : Nat) (w : World) (e : Ending) (w' : World) : Prop :=
  e = .returned (.tuple #[.int .i64 (cmpI (Ieee.double.order x y)), .bool (Ieee.double.order x y).isSome]) ∧ Below w.heap.size w w'

set_option maxHeartbeats 1000000 in
set_option maxRecDepth 100000 in
theorem refCompare_any (x y : Nat) (w : World) : Calls Tryd.prog 27 #[.float .f64 x, .float .f64 y] w fun e w' => CmpEnd9 x y w e w' := by
  have h : Hid (Ieee.double.order x y = FloatKind.f64.format.order x y) := rfl
  unfold CmpEnd9
  rw [h.out]
  rcases ho : FloatKind.f64.format.order x y with _ | o
  · go_enter Tryd.func27, Tryd.ntmps27
    go_wp2
    go_ret2
    exact ⟨rfl, Below.refl _ _⟩
  · cases o
    · go_enter Tryd.func27, Tryd.ntmps27
      go_wp2
      go_ret2
      exact ⟨rfl, Below.refl _ _⟩
    · go_enter Tryd.func27, Tryd.ntmps27
      go_wp2
      go_ret2
      exact ⟨rfl, Below.refl _ _⟩
    · go_enter Tryd.func27, Tryd.ntmps27
      go_wp2
      go_ret2
      exact ⟨rfl, Below.refl _ _⟩

theorem reads_float {w : World} {B n j : Nat} {A : Option Addr} {xs : List Nat} (hr : Reads w B 1 A n (fCells xs)) (hj : j < n) : ∃ (ad : Addr) (y : Nat), A = some ad ∧ w.cell? (ad.add j) = some (.float .f64 y) ∧ xs.drop j = y :: xs.drop (j + 1) := by
  obtain ⟨ad, u, rfl, _, hu, hc⟩ := hr.at_ hj
  have hl : xs.length = n := by have := hr.1; simpa [fCells] using this
  have hjl : j < xs.length := by omega
  refine ⟨ad, xs[j], rfl, ?_, List.drop_eq_getElem_cons hjl⟩
  have hu' : u = .float .f64 xs[j] := by
    simp [fCells, List.getElem?_map, List.getElem?_eq_getElem hjl] at hu
    exact hu.symm
  rw [hc, hu']

theorem cell_float {w : World} {B n j y : Nat} {ad : Addr} {xs : List Nat} (hr : Reads w B 1 (some ad) n (fCells xs)) (hj : j < n) (h : xs.drop j = y :: xs.drop (j + 1)) : w.cell? (ad.add j) = some (.float .f64 y) := by
  obtain ⟨ad', y', e, hc, h'⟩ := reads_float hr hj
  injection e with e
  subst e
  rw [h'] at h
  injection h with h
  rw [hc, h]

def GreatEnd9 (xs : List Nat) (w : World) (e : Ending) (w' : World) : Prop :=
  e = .returned (.tuple #[.float .f64 (greatR xs).1, .bool (greatR xs).2]) ∧ Below w.heap.size w w'

end Go.Proofs.YtjdmhbfddklhnaaDoor
