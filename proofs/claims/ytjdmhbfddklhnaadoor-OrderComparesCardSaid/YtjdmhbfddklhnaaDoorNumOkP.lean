/-
  The program's package number keeps its contracts. No conditions.
-/
import Derived.Test.YtjdmhbfddklhnaaDoorNumDec
import Derived.Test.YtjdmhbfddklhnaaDoorNumNoughtW
import Derived.Test.YtjdmhbfddklhnaaDoorNumRow
set_option linter.unusedSimpArgs false
set_option linter.unusedVariables false
namespace Go.Proofs.YtjdmhbfddklhnaaDoor
open Go Go.Proofs Go.RowKit Num9

namespace Num9
theorem numR_rest {l : List UInt8} (h1 : l ≠ [105, 110, 102]) (h2 : l ≠ [45, 105, 110, 102]) (h3 : l ≠ [110, 97, 110]) : numR l = digitsR (signOf l) (restOf l) := by
  cases l with
  | nil => rfl
  | cons y r =>
    rw [numR_first rfl h1 h2 h3]
    unfold restOf signOf
    by_cases hy : y.toNat = 45
    · have : y = 45 := by apply UInt8.toNat_inj.1; rw [hy]; rfl
      subst this
      rfl
    · have hne : (((y :: r).head?) == some (45 : UInt8)) = false := by
        rw [beq_eq_false_iff_ne]
        intro e
        injection e with e
        rw [e] at hy
        exact hy rfl
      rw [if_neg hy, hne]; rfl
end Num9

set_option maxHeartbeats 4000000 in
set_option maxRecDepth 100000 in
theorem get9_prog (A : Option Addr) (n c : Nat) (l : List UInt8) (w : World) (hr : Reads w w.heap.size 1 A n (Lib.byteCells l)) (hn : n ≤ 1099511627776) (hc : n ≤ c) :
    Calls Tryd.prog 53 #[.slice A n c] w fun e w' => GetEnd9 l w e w' := by
  have hb := run_back (c := c) hr
  have hs := bytes_list l
  generalize (⟨l.toArray⟩ : ByteArray) = S at hb hs
  by_cases h1 : l = [105, 110, 102]
  · have hs1 : (S.toList == [105, 110, 102]) = true := by rw [hs, h1]; rfl
    have H1 := Lib.hid h1
    clear hs h1
    go_enter Tryd.func53, Tryd.ntmps53
    go_wp2_with (go_at_call 64; refine (inf_pos _).mono ?_; rintro e w' ⟨rfl, rfl⟩)
    go_ret2
    refine ⟨_, _, rfl, ?_, Below.refl _ _⟩
    rw [H1.out]; exact ⟨rfl, rfl⟩
  have hs1 : (S.toList == [105, 110, 102]) = false := by rw [hs, beq_eq_false_iff_ne]; exact h1
  by_cases h2 : l = [45, 105, 110, 102]
  · have hs2 : (S.toList == [45, 105, 110, 102]) = true := by rw [hs, h2]; rfl
    have H1 := Lib.hid h2
    clear hs h1 h2
    go_enter Tryd.func53, Tryd.ntmps53
    go_wp2_with (go_at_call 64; refine (inf_neg _).mono ?_; rintro e w' ⟨rfl, rfl⟩)
    go_ret2
    refine ⟨_, _, rfl, ?_, Below.refl _ _⟩
    rw [H1.out]; exact ⟨rfl, rfl⟩
  have hs2 : (S.toList == [45, 105, 110, 102]) = false := by rw [hs, beq_eq_false_iff_ne]; exact h2
  by_cases h3 : l = [110, 97, 110]
  · have hs3 : (S.toList == [110, 97, 110]) = true := by rw [hs, h3]; rfl
    have H1 := Lib.hid h3
    clear hs h1 h2 h3
    go_enter Tryd.func53, Tryd.ntmps53
    go_wp2_with (go_at_call 65; refine (nan_any _).mono ?_; rintro e w' ⟨rfl, rfl⟩)
    go_ret2
    refine ⟨_, _, rfl, ?_, Below.refl _ _⟩
    rw [H1.out]; exact ⟨key_nan (by decide), rfl⟩
  have hs3 : (S.toList == [110, 97, 110]) = false := by rw [hs, beq_eq_false_iff_ne]; exact h3
  have HR := Lib.hid (numR_rest h1 h2 h3)
  clear hs h1 h2 h3
  go_enter Tryd.func53, Tryd.ntmps53
  go_wp2_with (go_at_call 66; refine (decimal_any A n c l _ hr hn hc).mono ?_; rintro e w' ⟨x, ok, rfl, hx, hb⟩; have HX := Lib.hid hx; clear hx)
  go_ret2
  refine ⟨x, ok, rfl, ?_, ‹_›⟩
  rw [HR.out]; exact HX.out

end Go.Proofs.YtjdmhbfddklhnaaDoor
