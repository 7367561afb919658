/-
  The contracts of the document's answers of layer 9, Compare and Greatest (package greffierref09). Conditions: at most 2^40 values.
-/
import Derived.Test.YtgiamllemfolkaaNumGet
import Derived.Deep.RegionHeld3
set_option linter.unusedVariables false
namespace Go.Proofs.Ytgiamllemfolkaa
open Go Go.Proofs Go.RowKit Num9

namespace Num9
def cmpI : Option Ordering → Int
  | some .lt => -1
  | some .gt => 1
  | _ => 0
/-- A value that no NaN is, and above which no other one stands. -/
def isBest (xs : List Nat) (x : Nat) : Bool := (Ieee.double.order x x == some .eq) && xs.all fun y => !(Ieee.double.order y x == some .gt)
def greatR (xs : List Nat) : Nat × Bool :=
  match xs.find? (isBest xs) with
  | some x => (x, true)
  | none => (0, false)
def fCells (xs : List Nat) : List Value := xs.map (Value.float .f64)
end Num9

def CmpEnd9 (x y : Nat) (w : World) (e : Ending) (w' : World) : Prop :=
  e = .returned (.tuple #[.int .i64 (cmpI (Ieee.double.order x y)), .bool (Ieee.double.order x y).isSome]) ∧ Below w.heap.size w w'

set_option maxHeartbeats 1000000 in
set_option maxRecDepth 100000 in
theorem refCompare_any (x y : Nat) (w : World) : Calls Try.prog 13 #[.float .f64 x, .float .f64 y] w fun e w' => CmpEnd9 x y w e w' := by
  have h : Hid (Ieee.double.order x y = FloatKind.f64.format.order x y) := rfl
  unfold CmpEnd9
  rw [h.out]
  rcases ho : FloatKind.f64.format.order x y with _ | o
  · go_enter Try.func13, Try.ntmps13
    go_wp2
    go_ret2
    exact ⟨rfl, Below.refl _ _⟩
  · cases o
    · go_enter Try.func13, Try.ntmps13
      go_wp2
      go_ret2
      exact ⟨rfl, Below.refl _ _⟩
    · go_enter Try.func13, Try.ntmps13
      go_wp2
      go_ret2
      exact ⟨rfl, Below.refl _ _⟩
    · go_enter Try.func13, Try.ntmps13
      go_wp2
      go_ret2
      exact ⟨rfl, Below.refl _ _⟩

theorem reads_float {w : World} {B n j : Nat} {A : Option Addr} {xs : List Nat} (hr : Reads w B 1 A n (fCells xs)) (hj : j < n) : ∃ (ad : Addr) (y : Nat), A = some ad ∧ w.cell? (ad.add j) = some (.float .f64 y) ∧ xs.drop j = y :: xs.drop (j + 1) := by
  obtain ⟨ad, u, rfl, _, hu, hc⟩ := hr.at_ hj
  have hl : xs.length = n := by have := hr.1; simpa [fCells] using this
  have hjl : j < xs.length := by omega
  refine ⟨ad, xs[j], rfl, ?_, List.drop_eq_getElem_cons hjl⟩
  have hu' : u = .float .f64 xs[j] := by
    simp [fCells, List.getElem?_map, List.getElem?_eq_getElem hjl] at hu
    exact hu.symm
  rw [hc, hu']

theorem cell_float {w : World} {B n j y : Nat} {ad : Addr} {xs : List Nat} (hr : Reads w B 1 (some ad) n (fCells xs)) (hj : j < n) (h : xs.drop j = y :: xs.drop (j + 1)) : w.cell? (ad.add j) = some (.float .f64 y) := by
  obtain ⟨ad', y', e, hc, h'⟩ := reads_float hr hj
  injection e with e
  subst e
  rw [h'] at h
  injection h with h
  rw [hc, h]

def GreatEnd9 (xs : List Nat) (w : World) (e : Ending) (w' : World) : Prop :=
  e = .returned (.tuple #[.float .f64 (greatR xs).1, .bool (greatR xs).2]) ∧ Below w.heap.size w w'

set_option maxHeartbeats 8000000 in
set_option maxRecDepth 100000 in
theorem refGreatest_any (A : Option Addr) (n c : Nat) (xs : List Nat) (B : Nat) (w : World) (hr : Reads w B 1 A n (fCells xs)) (hn : n ≤ 1099511627776) :
    Calls Try.prog 15 #[.slice A n c] w fun e w' => GreatEnd9 xs w e w' := by
  have hl : Hid (xs.length = n) := by have := hr.1; show _ = _; simpa [fCells] using this
  obtain ⟨X, hX⟩ : ∃ X, X = greatR xs := ⟨_, rfl⟩
  have HX := Lib.hid hX
  unfold GreatEnd9
  rw [← hX]
  clear hX
  go_enter Try.func15, Try.ntmps15
  go_wp2_with fail
  have hbase : Below w.heap.size w w := Below.refl _ _
  go_loopw [9] (fun a wr => ∃ i : Nat, i ≤ n ∧ a = .int .i64 i ∧ Below w.heap.size w wr ∧ Reads wr B 1 A n (fCells xs) ∧ Hid (X = match (xs.drop i).find? (isBest xs) with | some x => (x, true) | none => (0, false))) (fun a _ => n - (intOf a).toNat)
  case atStart => exact ⟨0, Nat.zero_le _, rfl, Below.refl _ _, hr, by show _ = _; rw [HX.out, List.drop_zero]; rfl⟩
  case round =>
    obtain ⟨i, hin, rfl, hb, hrw, hXi⟩ := hrel
    by_cases hi : i < n
    · obtain ⟨ad, y, rfl, hc, hd⟩ := reads_float hrw hi
      have HD := Lib.hid hd
      clear hd
      obtain ⟨b0, hb0⟩ : ∃ b0, b0 = (FloatKind.f64.format.order y y == some .eq) := ⟨_, rfl⟩
      have HB0 := Lib.hid hb0
      have hb0' := hb0.symm
      clear hb0
      go_wp2_with fail
      go_region
      go_wp2_with fail
      go_loopw [5, 23] (fun b a wq => ∃ (k : Nat) (v : Bool), k ≤ n ∧ b = .bool v ∧ a = .int .i64 k ∧ Below w.heap.size w wq ∧ Reads wq B 1 (some ad) n (fCells xs) ∧ Hid (isBest xs y = (v && (xs.drop k).all fun z => !(Ieee.double.order z y == some .gt)))) (fun _ a _ => n - (intOf a).toNat)
      case atStart => exact ⟨0, b0, Nat.zero_le _, rfl, rfl, hb.drew, hrw, by show _ = _; rw [HB0.out, List.drop_zero]; rfl⟩
      case round =>
        obtain ⟨k, v, hkn, rfl, rfl, hb2, hr2, hY⟩ := hrel
        by_cases hk : k < n
        · cases v with
          | false =>
            go_wp2_with fail
            go_region
            go_wp2_with fail
            refine ⟨⟨k + 1, false, by omega, rfl, by simp, hb2.drew, hr2, ?_⟩, by simp [intOf]; omega⟩
            show _ = _
            rw [hY.out, Bool.false_and, Bool.false_and]
          | true =>
            obtain ⟨ad', z, e, hz, hdz⟩ := reads_float hr2 hk
            injection e with e
            subst e
            have HDZ := Lib.hid hdz
            have hy2 := cell_float hr2 hi HD.out
            clear hdz
            obtain ⟨b1, hb1⟩ : ∃ b1, (FloatKind.f64.format.order z y == some .gt) = b1 := ⟨_, rfl⟩
            have HB1 := Lib.hid hb1
            go_wp2_with fail
            go_region
            go_wp2_with fail
            refine ⟨⟨k + 1, !b1, by omega, rfl, by simp, hb2.drew, hr2, ?_⟩, by simp [intOf]; omega⟩
            show _ = _
            rw [hY.out, HDZ.out, List.all_cons, ← HB1.out, Bool.true_and]
            rfl
        · obtain rfl : k = n := by omega
          have hv : Hid (isBest xs y = v) := by
            show _ = _
            rw [hY.out, List.drop_of_length_le (by rw [hl.out]; exact Nat.le_refl _)]
            simp
          have hy2 := cell_float hr2 hi HD.out
          cases v with
          | true =>
            go_wp2_with fail
            go_ret2
            rw [hXi.out, HD.out, List.find?_cons, hv.out]
            exact ⟨rfl, hb2⟩
          | false =>
            go_wp2_with fail
            refine ⟨⟨i + 1, by omega, by simp, hb2, hr2, ?_⟩, by simp [intOf]; omega⟩
            show _ = _
            rw [hXi.out, HD.out, List.find?_cons, hv.out]
    · obtain rfl : i = n := by omega
      go_wp2_with fail
      go_ret2
      rw [hXi.out, List.drop_of_length_le (by rw [hl.out]; exact Nat.le_refl _)]
      exact ⟨rfl, hb⟩
end Go.Proofs.Ytgiamllemfolkaa
