/-
  Plain mathematics of numbers' texts: what a text is, and what its word is. No conditions.
-/
import Derived.Test.YtjdmhbfddklhnaaDoorNumDiv
set_option linter.unusedSimpArgs false
set_option linter.unusedVariables false
namespace Go.Proofs.YtjdmhbfddklhnaaDoor
open Go

namespace Num9
open Ieee

/-- The digits behind the sign: their number, how many stand behind the full stop, how many there are. -/
def scan : List UInt8 → Bool → Nat → Nat → Nat → Nat → Option (Nat × Nat × Nat)
  | [], _, n, sc, ct, _ => some (n, sc, ct)
  | c :: r, first, n, sc, ct, st =>
    if c.toNat = 46 then (if 0 < st ∨ first = true ∨ r = [] then none else scan r false n sc ct 1)
    else if c.toNat < 48 ∨ 57 < c.toNat ∨ ct = 15 then none
    else scan r false (10 * n + (c.toNat - 48)) (sc + st) (ct + 1) st

inductive NumR where
  | none | nan
  | inf (s : Bool)
  | val (s : Bool) (n sc : Nat)

def digitsR (s : Bool) (l : List UInt8) : NumR :=
  match scan l true 0 0 0 0 with
  | .none => .none
  | .some (n, sc, ct) => if ct = 0 then .none else .val s n sc

/-- What a text is. -/
def numR (l : List UInt8) : NumR :=
  if l = [105, 110, 102] then .inf false
  else if l = [45, 105, 110, 102] then .inf true
  else if l = [110, 97, 110] then .nan
  else match l with
    | c :: r => if c.toNat = 45 then digitsR true r else digitsR false (c :: r)
    | [] => .none

/-- The word of a quotient with a sign. -/
def sgn (s : Bool) (x : Nat) : Nat := if s then Op.negFloat .f64 x else x

/-- The words and flags that a call may answer. -/
def NumR.Is : NumR → Nat → Bool → Prop
  | .none, x, ok => x = 0 ∧ ok = false
  | .nan, x, ok => key x = .none ∧ ok = true
  | .inf s, x, ok => x = (if s then 0xfff0000000000000 else 0x7ff0000000000000) ∧ ok = true
  | .val s n sc, x, ok => (∃ q, double.div (conv n) (conv (10 ^ sc)) = .some q ∧ x = sgn s q) ∧ ok = true

theorem scan_bounds : ∀ (l : List UInt8) (f : Bool) (n sc ct st : Nat) (r : Nat × Nat × Nat), n < 10 ^ ct → sc ≤ ct → ct ≤ 15 → st ≤ 1 → scan l f n sc ct st = some r → r.1 < 10 ^ r.2.2 ∧ r.2.1 ≤ r.2.2 ∧ r.2.2 ≤ 15
  | [], f, n, sc, ct, st, r, h1, h2, h3, h4, h => by
    simp only [scan, Option.some.injEq] at h
    subst h
    exact ⟨h1, h2, h3⟩
  | c :: l, f, n, sc, ct, st, r, h1, h2, h3, h4, h => by
    unfold scan at h
    split at h
    · split at h
      · cases h
      · exact scan_bounds l _ _ _ _ _ r h1 h2 h3 (by omega) h
    · split at h
      · cases h
      · refine scan_bounds l _ _ _ _ _ r ?_ (by omega) (by omega) h4 h
        rw [Nat.pow_succ]; omega

theorem conv_fits {n : Nat} : floatOfInt .f64 (n : Int) = conv n := by
  unfold floatOfInt FloatKind.nearest FloatKind.encode conv
  have : decide ((n : Int) < 0) = false := by simp
  rw [this]
  rfl
end Num9
end Go.Proofs.YtjdmhbfddklhnaaDoor
