/-
  strings.Repeat of one nought at a few copies. No conditions.
-/
import Derived.Test.YtnbmgcjlgjcejaaDoorDatPr
import Derived.Test.YtnbmgcjlgjcejaaDoorStr
set_option linter.unusedVariables false
set_option maxRecDepth 100000
namespace Go.Proofs.YtnbmgcjlgjcejaaDoor
open Go Go.Proofs Go.RowKit Dat

set_option maxHeartbeats 1000000 in
theorem mul64_three (w : World) : Calls Tryd.prog 37 #[.int .u64 1, .int .u64 3] w fun e w' => e = .returned (.tuple #[.int .u64 0, .int .u64 3]) ∧ w' = w := by
  go_enter Tryd.func37, Tryd.ntmps37
  go_wp2
  go_ret2
  exact ⟨rfl, rfl⟩
set_option maxHeartbeats 1000000 in
theorem mul64_two (w : World) : Calls Tryd.prog 37 #[.int .u64 1, .int .u64 2] w fun e w' => e = .returned (.tuple #[.int .u64 0, .int .u64 2]) ∧ w' = w := by
  go_enter Tryd.func37, Tryd.ntmps37
  go_wp2
  go_ret2
  exact ⟨rfl, rfl⟩
set_option maxHeartbeats 1000000 in
theorem prefix_one (s : ByteArray) (x : UInt8) (hs : 1 ≤ s.size) (h9 : s.size ≤ 1000) (w : World) : Calls Tryd.prog 38 #[.string s, .string ⟨#[x]⟩] w fun e w' => e = .returned (.bool ((s.extract 0 1).toList == [x])) ∧ w' = w := by
  have hx : (⟨#[x]⟩ : ByteArray).toList = [x] := by rw [Lib.toList_data]
  have h1 : (⟨#[x]⟩ : ByteArray).size = 1 := rfl
  generalize (⟨#[x]⟩ : ByteArray) = P at *
  go_enter Tryd.func38, Tryd.ntmps38
  go_wp2
  go_ret
  exact ⟨rfl, rfl⟩
theorem prefix_b (s : ByteArray) (b : Bool) (hb : (decide (1 ≤ s.size) && decide (s.size ≤ 1000) && (((s.extract 0 1).toList == [48]) == b)) = true) (w : World) : Calls Tryd.prog 27 #[.string s, .string ⟨#[48]⟩] w fun e w' => e = .returned (.bool b) ∧ w' = w := by
  simp only [Bool.and_eq_true, decide_eq_true_eq, beq_iff_eq] at hb
  have K := fun w => prefix_one s 48 hb.1.1 hb.1.2 w
  rw [hb.2] at K
  go_enter Tryd.func27, Tryd.ntmps27
  go_wp2_with (go_at_call 38; refine (K _).mono ?_; rintro e w' ⟨rfl, rfl⟩)
  go_ret
  exact ⟨rfl, rfl⟩
theorem mul_two (w : World) : Calls Tryd.prog 26 #[.int .u64 1, .int .u64 2] w fun e w' => e = .returned (.tuple #[.int .u64 0, .int .u64 2]) ∧ w' = w := by
  go_enter Tryd.func26, Tryd.ntmps26
  go_wp2_with (go_at_call 37; refine (mul64_two _).mono ?_; rintro e w' ⟨rfl, rfl⟩)
  go_ret2
  exact ⟨rfl, rfl⟩
theorem mul_three (w : World) : Calls Tryd.prog 26 #[.int .u64 1, .int .u64 3] w fun e w' => e = .returned (.tuple #[.int .u64 0, .int .u64 3]) ∧ w' = w := by
  go_enter Tryd.func26, Tryd.ntmps26
  go_wp2_with (go_at_call 37; refine (mul64_three _).mono ?_; rintro e w' ⟨rfl, rfl⟩)
  go_ret2
  exact ⟨rfl, rfl⟩
theorem rep_zero (w : World) : Calls Tryd.prog 24 #[.string ⟨#[48]⟩, .int .i64 0] w fun e w' => e = .returned (.string ⟨#[]⟩) ∧ w' = w := by
  go_enter Tryd.func24, Tryd.ntmps24
  go_wp2
  go_ret
  exact ⟨rfl, rfl⟩
theorem rep_one (w : World) : Calls Tryd.prog 24 #[.string ⟨#[48]⟩, .int .i64 1] w fun e w' => e = .returned (.string ⟨#[48]⟩) ∧ w' = w := by
  go_enter Tryd.func24, Tryd.ntmps24
  go_wp2
  go_ret
  exact ⟨rfl, rfl⟩
set_option maxHeartbeats 2000000 in
theorem rep_two (w : World) : Calls Tryd.prog 24 #[.string ⟨#[48]⟩, .int .i64 2] w fun e w' => e = .returned (.string ⟨#[48, 48]⟩) ∧ w' = w := by
  go_enter Tryd.func24, Tryd.ntmps24
  go_wp2_with first | (go_at_call 26; refine (mul_two _).mono ?_; rintro e w' ⟨rfl, rfl⟩) | (go_at_call 27; first | (refine (prefix_b _ false (by decide +kernel) _).mono ?_; rintro e w' ⟨rfl, rfl⟩) | (refine (prefix_b _ true (by decide +kernel) _).mono ?_; rintro e w' ⟨rfl, rfl⟩))
  go_ret
  exact ⟨rfl, rfl⟩
set_option maxHeartbeats 2000000 in
theorem rep_three (w : World) : Calls Tryd.prog 24 #[.string ⟨#[48]⟩, .int .i64 3] w fun e w' => e = .returned (.string ⟨#[48, 48, 48]⟩) ∧ w' = w := by
  go_enter Tryd.func24, Tryd.ntmps24
  go_wp2_with first | (go_at_call 26; refine (mul_three _).mono ?_; rintro e w' ⟨rfl, rfl⟩) | (go_at_call 27; first | (refine (prefix_b _ false (by decide +kernel) _).mono ?_; rintro e w' ⟨rfl, rfl⟩) | (refine (prefix_b _ true (by decide +kernel) _).mono ?_; rintro e w' ⟨rfl, rfl⟩))
  go_ret
  exact ⟨rfl, rfl⟩
theorem rep_any (c : Nat) (hc : c ≤ 3) (w : World) : Calls Tryd.prog 24 #[.string ⟨#[48]⟩, .int .i64 c] w fun e w' => e = .returned (.string ⟨(List.replicate c 48).toArray⟩) ∧ w' = w := by
  have : c = 0 ∨ c = 1 ∨ c = 2 ∨ c = 3 := by omega
  rcases this with rfl | rfl | rfl | rfl
  · exact rep_zero w
  · exact rep_one w
  · exact rep_two w
  · exact rep_three w
end Go.Proofs.YtnbmgcjlgjcejaaDoor
