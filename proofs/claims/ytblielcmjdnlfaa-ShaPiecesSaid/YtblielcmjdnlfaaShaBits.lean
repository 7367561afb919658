/-
  The contracts of sha's small functions on words. Conditions: words below 2^64, counts from 1 to 63.
-/
import Derived.Test.YtblielcmjdnlfaaWords
import Derived.Test.YtblielcmjdnlfaaShelf
import Derived.Test.YtblielcmjdnlfaaShaMath
import Derived.Lib.Hide
import Derived.Laws.Bits64b
import Derived.WalkKit
import Derived.Deep.QuietTactic
import Derived.BigQuiet
import Derived.IntWalk
set_option linter.unusedVariables false
namespace Go.Proofs.Ytblielcmjdnlfaa
open Go Go.Proofs Go.RowKit Sha5

def Drew (w w' : World) : Prop := ∃ n, w' = w.drewN n

theorem and63 (n : Nat) (h0 : 0 < n) (h1 : n < 64) : bits .and .u64 (18446744073709551616 - (n : Int)) 63 = ((64 - n : Nat) : Int) := by
  have e : (18446744073709551616 - (n : Int)) = ((18446744073709551616 - n : Nat) : Int) := by omega
  rw [e, show (63 : Int) = ((63 : Nat) : Int) from rfl, bits_and_u64_nat _ _ (by omega) (by omega)]
  congr 1
  rw [show 63 = 2 ^ 6 - 1 from rfl, Nat.and_two_pow_sub_one_eq_mod]
  omega

theorem ret_int {k : IntKind} {a b : Int} (h : a = b) : Ending.returned (.int k a) = .returned (.int k b) := by rw [h]
theorem rot_val (x n : Nat) (hx : x < 18446744073709551616) (hn : n ≤ 64) :
    bits .or .u64 (IntKind.u64.wrap ((x : Int) * 2 ^ (64 - n))) ((x : Int) / 2 ^ (64 - (64 - n))) = (((x * 2 ^ (64 - n) % M) ||| (x / 2 ^ n) : Nat) : Int) := by
  have e1 : IntKind.u64.wrap ((x : Int) * 2 ^ (64 - n)) = ((x * 2 ^ (64 - n) % M : Nat) : Int) := by
    rw [IntKind.wrap_u64]; unfold M; simp
  have e2 : (x : Int) / 2 ^ (64 - (64 - n)) = ((x / 2 ^ n : Nat) : Int) := by
    rw [show 64 - (64 - n) = n by omega]; simp
  rw [e1, e2]
  exact bits_or_u64_nat _ _ (Nat.mod_lt _ (by decide)) (shr_lt n hx)

set_option maxHeartbeats 400000 in
theorem rotl_any (x n : Nat) (hx : x < M) (h0 : 0 < n) (h1 : n < 64) (w : World) :
    Calls Try.prog 40 #[.int .u64 (x : Int), .int .i64 (-(n : Int))] w fun e w' => e = .returned (.int .u64 (rot x n : Nat)) ∧ w = w' := by
  unfold M at hx
  have e1 : IntKind.u64.wrap (-(n : Int)) = 18446744073709551616 - (n : Int) := by rw [IntKind.wrap_u64]; omega
  have e2 := and63 n h0 h1
  go_enter Try.func40, Try.ntmps40
  go_wp2
  go_ret
  refine ⟨ret_int ?_, rfl⟩
  rw [← rot_or x n hx (by omega)]
  exact rot_val x n hx (by omega)

set_option maxHeartbeats 400000 in
theorem right_any (x n : Nat) (hx : x < M) (h0 : 0 < n) (h1 : n < 64) (w : World) :
    Calls Try.prog 38 #[.int .u64 (x : Int), .int .i64 (n : Int)] w fun e w' => e = .returned (.int .u64 (rot x n : Nat)) ∧ w = w' := by
  go_enter Try.func38, Try.ntmps38
  go_wp2_with (go_at_call 40; (with_reducible refine (rotl_any x n hx h0 h1 _).mono ?_); rintro e w' ⟨rfl, rfl⟩)
  go_ret
  exact ⟨rfl, rfl⟩

theorem right_same (x n : Nat) (hx : x < M) (h0 : 0 < n) (h1 : n < 64) (w : World) :
    Calls Try.prog 38 #[.int .u64 (x : Int), .int .i64 (n : Int)] w fun e w' => e = .returned (.int .u64 (rot x n : Nat)) ∧ w' = w :=
  (right_any x n hx h0 h1 w).mono fun _ _ ⟨h, h'⟩ => ⟨h, h'.symm⟩

set_option maxHeartbeats 400000 in
theorem turned_any (x i j k : Nat) (hx : x < M) (hi : 0 < i ∧ i < 64) (hj : 0 < j ∧ j < 64) (hk : 0 < k ∧ k < 64) (w : World) :
    Calls Try.prog 30 #[.int .u64 (x : Int), .int .i64 (i : Int), .int .i64 (j : Int), .int .i64 (k : Int)] w fun e w' => e = .returned (.int .u64 (rot x i ^^^ rot x j ^^^ rot x k : Nat)) ∧ w = w' := by
  have l1 := rot_lt (n := i) hx (by omega)
  have l2 := rot_lt (n := j) hx (by omega)
  have l3 := rot_lt (n := k) hx (by omega)
  go_enter Try.func30, Try.ntmps30
  go_wp2_with fail
  refine (right_any x i hx hi.1 hi.2 _).mono ?_
  rintro e w' ⟨rfl, rfl⟩
  go_wp2_with fail
  refine (right_any x j hx hj.1 hj.2 _).mono ?_
  rintro e w' ⟨rfl, rfl⟩
  go_wp2_with fail
  refine (right_any x k hx hk.1 hk.2 _).mono ?_
  rintro e w' ⟨rfl, rfl⟩
  go_wp2
  go_ret
  refine ⟨ret_int ?_, rfl⟩
  rw [bits_xor_u64_nat _ _ l1 l2, bits_xor_u64_nat _ _ (xor_lt l1 l2) l3]

theorem neg_nat (e : Nat) (he : e < 18446744073709551616) : bits .xor .u64 IntKind.u64.max (e : Int) = ((M - 1 - e : Nat) : Int) := by
  rw [show IntKind.u64.max = ((18446744073709551615 : Nat) : Int) from rfl, bits_xor_u64_nat _ _ (by omega) he, Nat.xor_comm]
  exact congrArg _ (xor_ones e he)

set_option maxHeartbeats 400000 in
theorem choice_any (e f g : Nat) (he : e < M) (hf : f < M) (hg : g < M) (w : World) :
    Calls Try.prog 31 #[.int .u64 (e : Int), .int .u64 (f : Int), .int .u64 (g : Int)] w fun e' w' => e' = .returned (.int .u64 (ch e f g : Nat)) ∧ w = w' := by
  have e1 := neg_nat e he
  have e2 := bits_and_u64_nat e f he hf
  have e3 := bits_and_u64_nat (M - 1 - e) g not_lt_ hg
  have e4 := bits_or_u64_nat (e &&& f) ((M - 1 - e) &&& g) (and_lt hf) (and_lt hg)
  go_enter Try.func31, Try.ntmps31
  go_wp2
  go_ret
  exact ⟨rfl, rfl⟩

set_option maxHeartbeats 400000 in
theorem majority_any (a b c : Nat) (ha : a < M) (hb : b < M) (hc : c < M) (w : World) :
    Calls Try.prog 32 #[.int .u64 (a : Int), .int .u64 (b : Int), .int .u64 (c : Int)] w fun e' w' => e' = .returned (.int .u64 (maj a b c : Nat)) ∧ w = w' := by
  have e1 := bits_and_u64_nat a b ha hb
  have e2 := bits_and_u64_nat a c ha hc
  have e3 := bits_and_u64_nat b c hb hc
  have e4 := bits_or_u64_nat (a &&& b) (a &&& c) (and_lt hb) (and_lt hc)
  have e5 := bits_or_u64_nat (a &&& b ||| a &&& c) (b &&& c) (or_lt (and_lt hb) (and_lt hc)) (and_lt hc)
  go_enter Try.func32, Try.ntmps32
  go_wp2
  go_ret
  exact ⟨rfl, rfl⟩

set_option maxHeartbeats 400000 in
theorem turn_any (x n : Nat) (hx : x < M) (h0 : 0 < n) (h1 : n < 64) (w : World) :
    Calls Try.prog 18 #[.int .u64 (x : Int), .int .u64 (n : Int)] w fun e w' => e = .returned (.int .u64 (rot x n : Nat)) ∧ w = w' := by
  have hl := rot_lt (n := n) hx (by omega)
  unfold M at hx hl
  have e1 : (64 : Int) - (n : Int) = ((64 - n : Nat) : Int) := by omega
  go_enter Try.func18, Try.ntmps18
  go_wp2
  go_ret
  refine ⟨ret_int ?_, rfl⟩
  have e2 : IntKind.u64.wrap ((x : Int) * 2 ^ (64 - n)) = ((x * 2 ^ (64 - n) % M : Nat) : Int) := by
    rw [IntKind.wrap_u64]; unfold M; simp
  have e3 : (x : Int) / 2 ^ n = ((x / 2 ^ n : Nat) : Int) := by simp
  have e4 := rot_add x n (by omega)
  rw [e2, e3, IntKind.wrap_u64]
  omega

set_option maxHeartbeats 400000 in
theorem moved_any (x i j k : Nat) (hx : x < M) (hi : 0 < i ∧ i < 64) (hj : 0 < j ∧ j < 64) (hk : 0 < k ∧ k < 64) (w : World) :
    Calls Try.prog 37 #[.int .u64 (x : Int), .int .i64 (i : Int), .int .i64 (j : Int), .int .i64 (k : Int)] w fun e w' => e = .returned (.int .u64 (rot x i ^^^ rot x j ^^^ x / 2 ^ k : Nat)) ∧ Drew w w' := by
  have l1 := rot_lt (n := i) hx (by omega)
  have l2 := rot_lt (n := j) hx (by omega)
  have l3 := shr_lt k hx
  go_enter Try.func37, Try.ntmps37
  go_wp2
  go_quiet ((go_at_call 38; exact Calls.quiet_of_same (right_same _ _ hx (by omega) (by omega) _)))
  go_wp2
  go_ret
  refine ⟨ret_int ?_, ⟨_, rfl⟩⟩
  have e3 : (x : Int) / 2 ^ k = ((x / 2 ^ k : Nat) : Int) := by simp
  rw [e3, bits_xor_u64_nat _ _ l1 l2, bits_xor_u64_nat _ _ (xor_lt l1 l2) l3]
end Go.Proofs.Ytblielcmjdnlfaa
