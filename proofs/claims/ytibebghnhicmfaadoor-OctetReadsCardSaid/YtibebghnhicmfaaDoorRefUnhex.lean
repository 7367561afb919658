/-
  The contracts of the document's answers Value and Unhex (package greffierref01). Conditions: at most 2^40 bytes.
-/
import Derived.Test.YtibebghnhicmfaaDoorRefHex
import Derived.Test.YtibebghnhicmfaaDoorUnb64
set_option linter.unusedVariables false
namespace Go.Proofs.YtibebghnhicmfaaDoor
open Go Go.Proofs Go.RowKit Oct

theorem ret_two {a a' : Int} {b b' : Bool} (h1 : a = a') (h2 : b = b') : Ending.returned (.tuple #[.int .u8 a, .bool b]) = .returned (.tuple #[.int .u8 a', .bool b']) := by rw [h1, h2]

set_option maxHeartbeats 1000000 in
set_option maxRecDepth 100000 in
theorem value_any (x : UInt8) (w : World) : Calls Tryd.prog 27 #[.int .u8 x.toNat] w fun e w' => e = .returned (.tuple #[.int .u8 (max (hexV x) 0), .bool (decide (0 ≤ hexV x))]) ∧ w = w' := by
  have hx := x.toNat_lt
  by_cases h1 : 48 ≤ x.toNat ∧ x.toNat ≤ 57
  · have hv : Hid (hexV x = (x.toNat : Int) - 48) := by show _ = _; unfold hexV; rw [if_pos h1]
    obtain ⟨h2, h3⟩ := h1
    go_enter Tryd.func27, Tryd.ntmps27
    go_wp2
    go_ret2
    exact ⟨by rw [hv.out]; exact ret_two (show (_ : Int) = _ by omega) (show true = _ by simp; omega), rfl⟩
  · by_cases h2 : 97 ≤ x.toNat ∧ x.toNat ≤ 102
    · have hv : Hid (hexV x = (x.toNat : Int) - 87) := by show _ = _; unfold hexV; rw [if_neg h1, if_pos h2]
      obtain ⟨h3, h4⟩ := h2
      go_enter Tryd.func27, Tryd.ntmps27
      go_wp2
      go_ret2
      exact ⟨by rw [hv.out]; exact ret_two (show (_ : Int) = _ by omega) (show true = _ by simp; omega), rfl⟩
    · by_cases h3 : 65 ≤ x.toNat ∧ x.toNat ≤ 70
      · have hv : Hid (hexV x = (x.toNat : Int) - 55) := by show _ = _; unfold hexV; rw [if_neg h1, if_neg h2, if_pos h3]
        obtain ⟨h4, h5⟩ := h3
        go_enter Tryd.func27, Tryd.ntmps27
        go_wp2
        go_ret2
        exact ⟨by rw [hv.out]; exact ret_two (show (_ : Int) = _ by omega) (show true = _ by simp; omega), rfl⟩
      · have hv : Hid (hexV x = -1) := by show _ = _; unfold hexV; rw [if_neg h1, if_neg h2, if_neg h3]
        go_enter Tryd.func27, Tryd.ntmps27
        go_wp2
        all_goals
          go_ret2
          exact ⟨by rw [hv.out]; exact ret_two (show (_ : Int) = _ by omega) (show false = _ by simp), rfl⟩

/-- How the document's readers end: the bytes, and whether they are. -/
def RefEnd (r : Option (List UInt8)) (w : World) (e : Ending) (w' : World) : Prop :=
  (r = none ∧ ∃ v, e = .returned (.tuple #[v, .bool false]) ∧ w'.ownsRow w.heap.size 5 1 v 0 [] ∧ Below w.heap.size w w') ∨
    ∃ out v, r = some out ∧ e = .returned (.tuple #[v, .bool true]) ∧ w'.ownsRow w.heap.size 5 1 v out.length (Lib.byteCells out) ∧ Below w.heap.size w w'

theorem owns_more {w : World} {B B' : Nat} {v : Value} {n : Nat} {xs : List Value} (h : w.ownsRow B 5 1 v n xs) (hB : B' ≤ B) : w.ownsRow B' 5 1 v n xs :=
  ⟨h.1, h.2.elim Or.inl (fun ⟨g, cap, cur, hv, hg, r⟩ => Or.inr ⟨g, cap, cur, hv, Nat.le_trans hB hg, r⟩)⟩

set_option maxHeartbeats 2000000 in
set_option maxRecDepth 100000 in
theorem refUnhex_any (s : ByteArray) (w : World) (hs : s.size ≤ 1099511627776) :
    Calls Tryd.prog 14 #[.string s] w fun e w' => RefEnd (unhex s.data.toList) w e w' := by
  obtain ⟨i0, hi, hz0, hz1, hz2⟩ := info_parts infoByte
  have hsl : s.data.toList.length = s.size := by simp
  have hoe := owns_empty w
  by_cases ho : s.size % 2 = 0
  · have hob : (((s.size : Int) % 2) == 1) = false := by rw [beq_eq_false_iff_ne]; omega
    go_enter Tryd.func14, Tryd.ntmps14
    go_wp2
    go_loopw [4, 5] (fun v i wr => ∃ (j : Nat) (out : List UInt8), j ≤ s.size ∧ j % 2 ≤ 0 ∧ i = .int .i64 j ∧ out.length ≤ j ∧ wr.ownsRow w.heap.size 5 1 v out.length (Lib.byteCells out) ∧ unhex s.data.toList = (unhex (s.data.toList.drop j)).map (out ++ ·) ∧ Below w.heap.size w wr) (fun _ i _ => s.size - (intOf i).toNat)
    case atStart => exact ⟨0, [], Nat.zero_le _, by simp, rfl, Nat.zero_le _, hoe, by simp, (Below.refl _ _).alloc (Nat.le_refl _) _⟩
    case round =>
      obtain ⟨j, out, hj, hj2, rfl, hol, hown, hun, hbel⟩ := hrel
      clear hoe
      have hszr := hbel.size
      by_cases hlt : j < s.size
      · have h1 : j + 1 < s.size := by omega
        have hj1 : j + 1 < s.data.toList.length := by omega
        have HS := fun p => Lib.hid (unhex_stop s.data.toList j hj1 p out hun)
        have HT := fun p p' => Lib.hid (unhex_step s.data.toList j hj1 p p' out hun)
        have hx' : s.data.toList[j]'(by omega) = s[j] := rfl
        have hy' : s.data.toList[j + 1]'(by omega) = s[j + 1] := rfl
        rw [hx', hy'] at HS HT
        clear hx' hy' hun
        have q1 : IntKind.i64.wrap ((j : Int) + 1) = (j : Int) + 1 := IntWalk.i64_in _ (by omega)
        go_wp2_with fail
        generalize hx : s[j] = x at *
        refine (value_any x wr).mono ?_
        rintro e w' ⟨rfl, rfl⟩
        clear hx
        go_wp2_with fail
        generalize hy : s[j + 1] = y at *
        refine (value_any y wr).mono ?_
        rintro e w' ⟨rfl, rfl⟩
        clear hy q1
        have hb0 := hexV_bound x
        have hb1 := hexV_bound y
        generalize hexV x = a at *
        generalize hexV y = b at *
        by_cases hv : a < 0 ∨ b < 0
        · have hno := HS hv
          clear HS HT
          by_cases ha : a < 0
          · have d1 : decide (0 ≤ a) = false := by simp; omega
            go_wp2
            go_ret2
            exact .inl ⟨hno.out, _, rfl, owns_more (owns_empty wr) hszr, hbel.alloc hszr _⟩
          · have d1 : decide (0 ≤ a) = true := by simp; omega
            have d2 : decide (0 ≤ b) = false := by simp; omega
            go_wp2
            go_ret2
            exact .inl ⟨hno.out, _, rfl, owns_more (owns_empty wr) hszr, hbel.alloc hszr _⟩
        · have h0 : 0 ≤ a := by omega
          have h2 : 0 ≤ b := by omega
          have d1 : decide (0 ≤ a) = true := by simp; omega
          have d2 : decide (0 ≤ b) = true := by simp; omega
          have m1 : max a 0 = a := by omega
          have m2 : max b 0 = b := by omega
          have hnext := HT h0 h2
          clear HS HT hv
          have hrd := reads_const wr (16 * a + b) (16 * a + b).toNat.toUInt8 (by simp; omega)
          go_wp2_with (at_builtin; refine wpList_append_any _ rfl (.tmp 44) (.tmp 49) 22 rfl w.heap.size 5 i0 (.int .u8 0) 1 1 Tryd.underlying22 hi hz0 hz1 hz2 rfl (by decide) _ _ _ rfl (hown.alloc _) (wr.heap.size + 1) _ 1 1 (Lib.byteCells [(16 * a + b).toNat.toUInt8]) rfl hrd (Lib.byteCells_one _) ?c3 ?c4 ?c5 ?_)
          case c3 => unfold maxLen; omega
          case c4 => omega
          case c5 => first | omega | (simp; done) | (simp; omega)
          intro v' w2 hown' hgrow _
          have hbel2 : Below w.heap.size w w2 := (hbel.alloc hszr _).grown hgrow (by simp; omega) (fun k hk => (hown.lt k hk).1)
          have hown2 : w2.ownsRow w.heap.size 5 1 v' (out ++ [(16 * a + b).toNat.toUInt8]).length (Lib.byteCells (out ++ [(16 * a + b).toNat.toUInt8])) := by
            rw [Lib.byteCells_append, List.length_append]
            exact hown'
          clear hown' hgrow hown hbel m1 m2 d1 d2 hrd
          go_wp2
          go_roundw
          case rel => exact ⟨j + 2, _, by omega, by omega, by go_num, by simp; omega, hown2, hnext.out, hbel2⟩
          case measure => simp [intOf]; omega
      · obtain rfl : j = s.size := by omega
        have hun' : Hid (unhex s.data.toList = some out) := by
          rw [hun, List.drop_of_length_le (by omega)]
          show Option.map _ (unhex []) = _
          simp [unhex]
        clear hun hsl
        go_wp2
        go_ret2
        exact .inr ⟨out, _, hun'.out, rfl, hown, hbel⟩
  · have hno : Hid (unhex s.data.toList = none) := unhex_odd (s.size / 2) s.data.toList (by omega)
    clear hsl
    have hob : (((s.size : Int) % 2) == 1) = true := by rw [beq_iff_eq]; omega
    go_enter Tryd.func14, Tryd.ntmps14
    go_wp2
    go_ret2
    exact .inl ⟨hno.out, _, rfl, hoe, (Below.refl _ _).alloc (Nat.le_refl _) _⟩
end Go.Proofs.YtibebghnhicmfaaDoor
