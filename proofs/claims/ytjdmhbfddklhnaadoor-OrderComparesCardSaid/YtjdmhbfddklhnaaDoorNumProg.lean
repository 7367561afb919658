/-
  The program's package number: the library's small functions on float64 that it calls, its digits, and Compare and Greatest. Conditions: those that each states.
-/
import Derived.Test.YtjdmhbfddklhnaaDoorNumExact
import Derived.Test.YtjdmhbfddklhnaaDoorNumRow
import Derived.Laws.Externs
set_option linter.unusedVariables false
namespace Go.Proofs.YtjdmhbfddklhnaaDoor
open Go Go.Proofs Go.RowKit Num9

theorem frombits_run (n : Nat) (w : World) : (callFunc 75 #[.int .u64 (n : Int)]).run Tryd.prog w = .ok (.value (.float .f64 n)) w := by
  rw [run_callFunc_extern Tryd.func75 (by kernel_rfl) (by kernel_rfl) (by kernel_rfl) (e := Extern.MathFloatBits.float64frombits) (by kernel_rfl)]
  rfl
theorem bits_run (n : Nat) (w : World) : (callFunc 86 #[.float .f64 n]).run Tryd.prog w = .ok (.value (.int .u64 (n : Int))) w := by
  rw [run_callFunc_extern Tryd.func86 (by kernel_rfl) (by kernel_rfl) (by kernel_rfl) (e := Extern.MathFloatBits.float64bits) (by kernel_rfl)]
  rfl

theorem nan_any (w : World) : Calls Tryd.prog 65 #[] w fun e w' => e = .returned (.float .f64 9221120237041090561) ∧ w' = w := by
  have h : (callFunc 75 #[.int .u64 9221120237041090561]).run Tryd.prog w = .ok (.value (.float .f64 9221120237041090561)) w := frombits_run 9221120237041090561 w
  go_enter Tryd.func65, Tryd.ntmps65
  go_wp2
  go_ret
  exact ⟨rfl, rfl⟩
theorem inf_pos (w : World) : Calls Tryd.prog 64 #[.int .i64 1] w fun e w' => e = .returned (.float .f64 0x7ff0000000000000) ∧ w' = w := by
  have h : (callFunc 75 #[.int .u64 9218868437227405312]).run Tryd.prog w = .ok (.value (.float .f64 9218868437227405312)) w := frombits_run 9218868437227405312 w
  go_enter Tryd.func64, Tryd.ntmps64
  go_wp2
  go_ret
  exact ⟨rfl, rfl⟩
theorem inf_neg (w : World) : Calls Tryd.prog 64 #[.int .i64 (-1)] w fun e w' => e = .returned (.float .f64 0xfff0000000000000) ∧ w' = w := by
  have h : (callFunc 75 #[.int .u64 18442240474082181120]).run Tryd.prog w = .ok (.value (.float .f64 18442240474082181120)) w := frombits_run 18442240474082181120 w
  go_enter Tryd.func64, Tryd.ntmps64
  go_wp2
  go_ret
  exact ⟨rfl, rfl⟩
theorem isNaN_any (x : Nat) (w : World) : Calls Tryd.prog 54 #[.float .f64 x] w fun e w' => e = .returned (.bool (key x).isNone) ∧ w' = w := by
  have h1 : FloatKind.f64.format.order x x = if (key x).isSome then some .eq else none := order_self x
  cases hk : key x with
  | none =>
    rw [hk] at h1
    have h1 : FloatKind.f64.format.order x x = none := h1
    go_enter Tryd.func54, Tryd.ntmps54
    go_wp2
    go_ret
    exact ⟨rfl, rfl⟩
  | some a =>
    rw [hk] at h1
    have h1 : FloatKind.f64.format.order x x = some .eq := h1
    go_enter Tryd.func54, Tryd.ntmps54
    go_wp2
    go_ret
    exact ⟨rfl, rfl⟩

theorem worth_any (c : UInt8) (h1 : 48 ≤ c.toNat) (h2 : c.toNat ≤ 57) (w : World) : Calls Tryd.prog 79 #[.int .u8 c.toNat] w fun e w' => e = .returned (.float .f64 (conv (c.toNat - 48))) ∧ w' = w := by
  obtain ⟨d, hd⟩ : ∃ d : Nat, d = c.toNat - 48 := ⟨_, rfl⟩
  have hw : IntKind.u8.wrap ((c.toNat : Int) - 48) = (d : Int) := by
    have : (c.toNat : Int) - 48 = (d : Int) := by omega
    rw [this]; exact IntWalk.u8_in _ (by omega)
  rw [← hd]
  go_enter Tryd.func79, Tryd.ntmps79
  go_wp2
  go_ret
  exact ⟨by rw [hd]; rfl, rfl⟩
theorem bits_sign (q : Nat) (hq : q < 2 ^ 63) : bits .or .u64 (bits .andNot .u64 (q : Int) 9223372036854775808) (bits .and .u64 13830554455654793216 9223372036854775808) = ((q + 2 ^ 63 : Nat) : Int) := by
  have e1 : bits .andNot .u64 (q : Int) 9223372036854775808 = (q : Int) := by
    have h := u64_andNot_nat q 9223372036854775808 (by omega) (by omega)
    have e : q &&& (18446744073709551615 - 9223372036854775808) = q := by
      show q &&& (2 ^ 63 - 1) = q
      exact Nat.and_two_pow_sub_one_of_lt_two_pow hq
    rw [e] at h
    exact h
  have e2 : bits .and .u64 13830554455654793216 9223372036854775808 = ((9223372036854775808 : Nat) : Int) := u64_and_nat 13830554455654793216 9223372036854775808 (by omega) (by omega)
  rw [e1, e2, u64_or_nat q 9223372036854775808 (by omega) (by omega)]
  have e : 2 ^ 63 * 1 + q = 2 ^ 63 * 1 ||| q := Nat.two_pow_add_eq_or_of_lt hq 1
  rw [Nat.mul_one] at e
  rw [Nat.or_comm]
  show ((2 ^ 63 ||| q : Nat) : Int) = _
  rw [← e, Nat.add_comm]
theorem copysign_any (q : Nat) (hq : q < 2 ^ 63) (w : World) : Calls Tryd.prog 80 #[.float .f64 q, .float .f64 13830554455654793216] w fun e w' => e = .returned (.float .f64 (Op.negFloat .f64 q)) ∧ w' = w := by
  have k1 := bits_run q w
  have k2 : (callFunc 86 #[.float .f64 13830554455654793216]).run Tryd.prog w = .ok (.value (.int .u64 13830554455654793216)) w := bits_run 13830554455654793216 w
  have k3 := frombits_run (q + 2 ^ 63) w
  rw [← bits_sign q hq] at k3
  rw [sign_on hq]
  go_enter Tryd.func80, Tryd.ntmps80
  go_wp2
  go_ret
  exact ⟨rfl, rfl⟩

namespace Num9
/-- One value more. -/
def moreG (s : Nat × Bool) (x : Nat) : Nat × Bool := if (key x).isNone then s else if s.2 = false ∨ (Ieee.double.order x s.1 == some .gt) = true then (x, true) else s
def InvG (xs : List Nat) (s : Nat × Bool) : Prop :=
  (s = (0, false) ∧ ∀ y ∈ xs, key y = none) ∨ ∃ pre post g k, s = (g, true) ∧ xs = pre ++ g :: post ∧ key g = some k ∧ (∀ y ∈ pre, ∀ b, key y = some b → b < k) ∧ (∀ y ∈ post, ∀ b, key y = some b → b ≤ k)
theorem gt_key {x g : Nat} : (Ieee.double.order x g == some .gt) = true ↔ ∃ a b, key x = some a ∧ key g = some b ∧ b < a := by
  rw [beq_iff_eq, order_key]
  cases hx : key x with
  | none => simp
  | some a =>
    cases hg : key g with
    | none => simp
    | some b =>
      simp only [Option.some.injEq]
      have : compare a b = .gt ↔ b < a := by
        show compareOfLessAndEq a b = _ ↔ _
        unfold compareOfLessAndEq
        by_cases h1 : a < b
        · rw [if_pos h1]; constructor
          · intro h; cases h
          · intro h; omega
        · by_cases h2 : a = b
          · rw [if_neg h1, if_pos h2]; constructor
            · intro h; cases h
            · intro h; omega
          · rw [if_neg h1, if_neg h2]; constructor
            · intro h; omega
            · intro h; rfl
      rw [this]
      constructor
      · intro h; exact ⟨a, b, rfl, rfl, h⟩
      · rintro ⟨a', b', e1, e2, h⟩
        subst e1 e2
        exact h
theorem inv_step {xs : List Nat} {s : Nat × Bool} (x : Nat) (h : InvG xs s) : InvG (xs ++ [x]) (moreG s x) := by
  unfold moreG
  cases hx : key x with
  | none =>
    rw [if_pos (by rfl)]
    rcases h with ⟨rfl, h⟩ | ⟨pre, post, g, k, rfl, rfl, hk, h1, h2⟩
    · refine .inl ⟨rfl, fun y hy => ?_⟩
      rcases List.mem_append.1 hy with hy | hy
      · exact h y hy
      · rw [List.mem_singleton.1 hy]; exact hx
    · refine .inr ⟨pre, post ++ [x], g, k, rfl, by simp, hk, h1, fun y hy b hb => ?_⟩
      rcases List.mem_append.1 hy with hy | hy
      · exact h2 y hy b hb
      · rw [List.mem_singleton.1 hy, hx] at hb; cases hb
  | some a =>
    rw [if_neg (by simp)]
    rcases h with ⟨rfl, h⟩ | ⟨pre, post, g, k, rfl, rfl, hk, h1, h2⟩
    · rw [if_pos (.inl rfl)]
      exact .inr ⟨xs, [], x, a, rfl, rfl, hx, (fun y hy b hb => by rw [h y hy] at hb; cases hb), (fun y hy => by cases hy)⟩
    · by_cases hg : (Ieee.double.order x g == some .gt) = true
      · rw [if_pos (.inr hg)]
        obtain ⟨a', b', e1, e2, hab⟩ := gt_key.1 hg
        rw [hx] at e1
        rw [hk] at e2
        injection e1 with e1
        injection e2 with e2
        subst e1 e2
        refine .inr ⟨pre ++ g :: post, [], x, a, rfl, rfl, hx, fun y hy b hb => ?_, (fun y hy => by cases hy)⟩
        rcases List.mem_append.1 hy with hy | hy
        · have := h1 y hy b hb; omega
        · rcases List.mem_cons.1 hy with rfl | hy
          · rw [hk] at hb; injection hb with hb; omega
          · have := h2 y hy b hb; omega
      · rw [if_neg (fun e => e.elim (fun e => by cases e) hg)]
        refine .inr ⟨pre, post ++ [x], g, k, rfl, by simp, hk, h1, fun y hy b hb => ?_⟩
        rcases List.mem_append.1 hy with hy | hy
        · exact h2 y hy b hb
        · rw [List.mem_singleton.1 hy, hx] at hb
          injection hb with hb
          subst hb
          rcases Int.lt_or_le k a with hlt | hle
          · exact absurd (gt_key.2 ⟨a, k, hx, hk, hlt⟩) hg
          · exact hle
theorem best_iff {xs : List Nat} {x : Nat} : isBest xs x = true ↔ ∃ a, key x = some a ∧ ∀ y ∈ xs, ∀ b, key y = some b → b ≤ a := by
  unfold isBest
  rw [Bool.and_eq_true, beq_iff_eq, order_self, List.all_eq_true]
  cases hx : key x with
  | none => simp
  | some a =>
    rw [if_pos (show (some a).isSome = true from rfl)]
    constructor
    · rintro ⟨_, h⟩
      refine ⟨a, rfl, fun y hy b hb => ?_⟩
      have := h y hy
      rcases Int.lt_or_le a b with hlt | hle
      · rw [gt_key.2 ⟨b, a, hb, hx, hlt⟩] at this; cases this
      · exact hle
    · rintro ⟨a', e, h⟩
      injection e with e
      subst e
      refine ⟨rfl, fun y hy => ?_⟩
      cases hg : (Ieee.double.order y x == some .gt) with
      | false => rfl
      | true =>
        obtain ⟨b, a', e1, e2, hlt⟩ := gt_key.1 hg
        rw [hx] at e2
        injection e2 with e2
        have := h y hy b e1
        omega
theorem inv_great {xs : List Nat} {s : Nat × Bool} (h : InvG xs s) : s = greatR xs := by
  unfold greatR
  rcases h with ⟨rfl, h⟩ | ⟨pre, post, g, k, rfl, rfl, hk, h1, h2⟩
  · have : xs.find? (isBest xs) = none := by
      rw [List.find?_eq_none]
      intro y hy hb
      obtain ⟨a, ha, _⟩ := best_iff.1 hb
      rw [h y hy] at ha; cases ha
    rw [this]
  · have : (pre ++ g :: post).find? (isBest (pre ++ g :: post)) = some g := by
      rw [List.find?_append]
      have hn : pre.find? (isBest (pre ++ g :: post)) = none := by
        rw [List.find?_eq_none]
        intro y hy hb
        obtain ⟨a, ha, hm⟩ := best_iff.1 hb
        have q1 := hm g (by simp) k hk
        have q2 := h1 y hy a ha
        omega
      have hg : isBest (pre ++ g :: post) g = true := by
        refine best_iff.2 ⟨k, hk, fun y hy b hb => ?_⟩
        rcases List.mem_append.1 hy with hy | hy
        · have := h1 y hy b hb; omega
        · rcases List.mem_cons.1 hy with rfl | hy
          · rw [hk] at hb; injection hb with hb; omega
          · exact h2 y hy b hb
      rw [hn, List.find?_cons, hg]
      rfl
    rw [this]
end Num9

end Go.Proofs.YtjdmhbfddklhnaaDoor
