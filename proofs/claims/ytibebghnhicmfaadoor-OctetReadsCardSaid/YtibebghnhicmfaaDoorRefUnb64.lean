/-
  The contracts of the document's answers sign and Unbase64 (package greffierref01). Conditions: at most 2^40 bytes.
-/
import Derived.Test.YtibebghnhicmfaaDoorRefUnhex
import Derived.Test.YtibebghnhicmfaaDoorRefB64
import Derived.Test.YtibebghnhicmfaaDoorCandMath
set_option linter.unusedVariables false
namespace Go.Proofs.YtibebghnhicmfaaDoor
open Go Go.Proofs Go.RowKit Oct

theorem val64_cases : ∀ n : Nat, n < 256 → val64 n.toUInt8 = if 65 ≤ n ∧ n ≤ 90 then (n : Int) - 65 else if 97 ≤ n ∧ n ≤ 122 then (n : Int) - 71 else if 48 ≤ n ∧ n ≤ 57 then (n : Int) + 4 else if n = 43 then 62 else if n = 47 then 63 else -1 := by decide +kernel
def signV (c : UInt8) : Int := if 0 ≤ val64 c then val64 c else 63

set_option maxHeartbeats 2000000 in
set_option maxRecDepth 100000 in
theorem sign_any (x : UInt8) (w : World) : Calls Tryd.prog 28 #[.int .u8 x.toNat] w fun e w' => e = .returned (.tuple #[.int .u8 (signV x), .bool (isSign x)]) ∧ w = w' := by
  have hx := x.toNat_lt
  have hv := val64_cases x.toNat (by omega)
  rw [show x.toNat.toUInt8 = x from by simp] at hv
  by_cases h1 : 65 ≤ x.toNat ∧ x.toNat ≤ 90
  · rw [if_pos h1] at hv
    have hs : Hid (signV x = (x.toNat : Int) - 65 ∧ isSign x = true) := ⟨by unfold signV; rw [if_pos (by omega), hv], by unfold isSign; rw [hv]; simp; omega⟩
    clear hv
    obtain ⟨h2, h3⟩ := h1
    go_enter Tryd.func28, Tryd.ntmps28
    go_wp2
    go_ret2
    exact ⟨by rw [hs.out.1, hs.out.2]; exact ret_two (show (_ : Int) = _ by omega) rfl, rfl⟩
  · rw [if_neg h1] at hv
    by_cases h2 : 97 ≤ x.toNat ∧ x.toNat ≤ 122
    · rw [if_pos h2] at hv
      have hs : Hid (signV x = (x.toNat : Int) - 71 ∧ isSign x = true) := ⟨by unfold signV; rw [if_pos (by omega), hv], by unfold isSign; rw [hv]; simp; omega⟩
      clear hv
      obtain ⟨h3, h4⟩ := h2
      go_enter Tryd.func28, Tryd.ntmps28
      go_wp2
      go_ret2
      exact ⟨by rw [hs.out.1, hs.out.2]; exact ret_two (show (_ : Int) = _ by omega) rfl, rfl⟩
    · rw [if_neg h2] at hv
      by_cases h3 : 48 ≤ x.toNat ∧ x.toNat ≤ 57
      · rw [if_pos h3] at hv
        have hs : Hid (signV x = (x.toNat : Int) + 4 ∧ isSign x = true) := ⟨by unfold signV; rw [if_pos (by omega), hv], by unfold isSign; rw [hv]; simp; omega⟩
        clear hv
        obtain ⟨h4, h5⟩ := h3
        go_enter Tryd.func28, Tryd.ntmps28
        go_wp2
        go_ret2
        exact ⟨by rw [hs.out.1, hs.out.2]; exact ret_two (show (_ : Int) = _ by omega) rfl, rfl⟩
      · rw [if_neg h3] at hv
        by_cases h4 : x.toNat = 43
        · rw [if_pos h4] at hv
          have hs : Hid (signV x = 62 ∧ isSign x = true) := ⟨by unfold signV; rw [if_pos (by omega), hv], by unfold isSign; rw [hv]; simp⟩
          clear hv h1 h2 h3
          obtain rfl : x = 43 := UInt8.toNat_inj.1 h4
          clear h4
          go_enter Tryd.func28, Tryd.ntmps28
          go_wp2
          go_ret2
          exact ⟨by rw [hs.out.1, hs.out.2]; rfl, rfl⟩
        · rw [if_neg h4] at hv
          have hb1 : ((x.toNat : Int) == 43) = false := by rw [beq_eq_false_iff_ne]; omega
          by_cases h5 : x.toNat = 47
          · rw [if_pos h5] at hv
            have hs : Hid (signV x = 63 ∧ isSign x = true) := ⟨by unfold signV; rw [if_pos (by omega), hv], by unfold isSign; rw [hv]; simp⟩
            clear hv h1 h2 h3 h4 hb1
            obtain rfl : x = 47 := UInt8.toNat_inj.1 h5
            clear h5
            go_enter Tryd.func28, Tryd.ntmps28
            go_wp2
            go_ret2
            exact ⟨by rw [hs.out.1, hs.out.2]; rfl, rfl⟩
          · rw [if_neg h5] at hv
            have hb2 : ((x.toNat : Int) == 47) = false := by rw [beq_eq_false_iff_ne]; omega
            have hs : Hid (signV x = 63 ∧ isSign x = false) := ⟨by unfold signV; rw [if_neg (by omega)], by unfold isSign; rw [hv]; simp⟩
            clear hv h4 h5
            go_enter Tryd.func28, Tryd.ntmps28
            go_wp2
            all_goals
              go_ret2
              exact ⟨by rw [hs.out.1, hs.out.2]; rfl, rfl⟩
end Go.Proofs.YtibebghnhicmfaaDoor
