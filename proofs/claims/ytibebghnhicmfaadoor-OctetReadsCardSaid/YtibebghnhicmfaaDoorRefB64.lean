/-
  The contracts of the document's answers bit and Base64 (package greffierref01). Conditions: at most 2^40 bytes.
-/
import Derived.Test.YtibebghnhicmfaaDoorRefHex
import Derived.Test.YtibebghnhicmfaaDoorUnb64
set_option linter.unusedVariables false
namespace Go.Proofs.YtibebghnhicmfaaDoor
open Go Go.Proofs Go.RowKit Oct

theorem int_eq' {k : IntKind} {a b : Int} (h : a = b) : Value.int k a = Value.int k b := by rw [h]

set_option maxHeartbeats 1000000 in
set_option maxRecDepth 100000 in
theorem bit_any (A : Option Addr) (n c : Nat) (l : List UInt8) (B i : Nat) (w : World) (hr : Reads w B 1 A n (Lib.byteCells l)) (hn : n ≤ 1099511627776) (hi : i ≤ 17592186044416) :
    Calls Tryd.prog 26 #[.slice A n c, .int .i64 (i : Int)] w fun e w' => e = .returned (.int .u8 (bitAt l i)) ∧ w = w' := by
  have hl : l.length = n := by have := hr.1; simpa [Lib.byteCells_length] using this
  by_cases h1 : n ≤ i / 8
  · have hb : Hid (bitAt l i = 0) := by
      show _ = _
      unfold bitAt
      simp [List.getD, List.getElem?_eq_none (show l.length ≤ i / 8 by omega)]
    clear hl
    have h1' : (n : Int) ≤ (i : Int) / 8 := by omega
    go_enter Tryd.func26, Tryd.ntmps26
    go_wp2
    go_ret
    exact ⟨by rw [hb.out]; rfl, rfl⟩
  · obtain ⟨q, hq⟩ : ∃ q, q = i / 8 := ⟨_, rfl⟩
    obtain ⟨s, hs⟩ : ∃ s, s = 7 - i % 8 := ⟨_, rfl⟩
    have hk : q < n := by omega
    obtain ⟨ad, u, rfl, hab, hu, hc⟩ := hr.at_ hk
    have hkl : q < l.length := by omega
    obtain ⟨x, hx⟩ : ∃ x : UInt8, x = l[q] := ⟨_, rfl⟩
    have hu' : u = .int .u8 x.toNat := by
      simp [Lib.byteCells, List.getElem?_map, List.getElem?_eq_getElem hkl] at hu
      rw [hx]; exact hu.symm
    subst hu'
    have hb : Hid (bitAt l i = x.toNat / 2 ^ s % 2) := by
      show _ = _
      unfold bitAt
      rw [← hq, ← hs]
      simp [List.getD, List.getElem?_eq_getElem hkl, hx]
    have hx1 := x.toNat_lt
    have e1 : (i : Int) / 8 = (q : Int) := by omega
    have e2 : (7 : Int) - (i : Int) % 8 = (s : Int) := by omega
    have hs7 : s ≤ 7 := by omega
    have E2 := Lib.hid e2
    clear hl hx hu hkl h1 e2 hs hq
    go_enter Tryd.func26, Tryd.ntmps26
    go_wp2_with fail
    go_loop [5, 6] (fun a b => ∃ (k y : Nat), k ≤ s ∧ b = .int .i64 k ∧ a = .int .u8 y ∧ y = x.toNat / 2 ^ k) (fun _ b => s - (intOf b).toNat)
    case atStart => exact ⟨0, x.toNat, Nat.zero_le _, rfl, rfl, by simp⟩
    case round =>
      obtain ⟨k, y, hks, rfl, rfl, hy⟩ := hrel
      have hy1 : y ≤ 255 := by rw [hy]; exact Nat.le_trans (Nat.div_le_self _ _) (by omega)
      have HY := Lib.hid hy
      clear hy
      have e2 := E2.out
      by_cases hlt : k < s
      · have hy2 : Hid (y / 2 = x.toNat / 2 ^ (k + 1)) := by
          show _ = _
          rw [HY.out, Nat.div_div_eq_div_mul, Nat.pow_succ]
        go_wp2
        go_round
        case rel => exact ⟨k + 1, y / 2, by omega, by go_num, int_eq' (by omega), hy2.out⟩
        case measure => simp [intOf]; omega
      · obtain rfl : k = s := by omega
        have hf : Hid ((y : Int) % 2 = ((bitAt l i : Nat) : Int)) := by
          show _ = _
          rw [hb.out, ← HY.out]; omega
        go_wp2
        go_ret
        exact ⟨by rw [← hf.out]; rfl, rfl⟩

set_option maxHeartbeats 2000000 in
set_option maxRecDepth 100000 in
theorem refBase64_any (A : Option Addr) (n c : Nat) (l : List UInt8) (w : World) (hr : Reads w w.heap.size 1 A n (Lib.byteCells l)) (hn : n ≤ 1099511627776) :
    Calls Tryd.prog 13 #[.slice A n c] w fun e w' => e = .returned (.string ⟨(b64 l).toArray⟩) ∧ Below w.heap.size w w' := by
  have hl : l.length = n := by have := hr.1; simpa [Lib.byteCells_length] using this
  have hG := b64_groups l
  rw [hl] at hG
  have H := Lib.hid hl; have HG := Lib.hid hG
  clear hl hG
  obtain ⟨i0, hi, hz0, hz1, hz2⟩ := info_parts infoByte
  have hoe := owns_empty w
  go_enter Tryd.func13, Tryd.ntmps13
  go_wp2
  go_loopw [4, 5] (fun v i wr => ∃ j i' : Nat, 6 * j ≤ 8 * n + 5 ∧ i' ≤ 6 * j ∧ 6 * j ≤ i' ∧ i = .int .i64 i' ∧ wr.ownsRow w.heap.size 5 1 v ((List.range j).map (grp l)).length (Lib.byteCells ((List.range j).map (grp l))) ∧ Below w.heap.size w wr) (fun _ i _ => 8 * n + 6 - (intOf i).toNat)
  case atStart => exact ⟨0, 0, by omega, by omega, by omega, rfl, hoe, (Below.refl _ _).alloc (Nat.le_refl _) _⟩
  case round =>
    obtain ⟨j, i', hj, hi1, hi2, rfl, hown, hbel⟩ := hrel
    clear hoe
    have hsz := hbel.size
    have hml : ((List.range j).map (grp l)).length = j := by simp
    rw [hml] at hown
    by_cases hlt : 6 * j < 8 * n
    · have hrr := (hr.below hbel).more hsz
      have hdec : decide ((i' : Int) < 8 * (n : Int)) = true := by simp; omega
      clear hml
      go_wp2_with fail
      go_loop [6, 7] (fun a b => ∃ k : Nat, k ≤ 6 ∧ b = .int .i64 k ∧ a = .int .u8 (acc l (6 * j) k)) (fun _ b => 6 - (intOf b).toNat)
      case atStart => exact ⟨0, by omega, rfl, rfl⟩
      case round =>
        obtain ⟨k, hk, rfl, rfl⟩ := hrel
        have hal := acc_lt l (6 * j) k
        by_cases hk6 : k < 6
        · have hal2 : acc l (6 * j) k < 32 := Nat.lt_of_lt_of_le hal (by
            have : 2 ^ k ≤ 2 ^ 5 := Nat.pow_le_pow_right (by omega) (by omega)
            omega)
          have hacc : acc l (6 * j) (k + 1) = 2 * acc l (6 * j) k + bitAt l (6 * j + k) := rfl
          have hbt := bitAt_lt l (6 * j + k)
          generalize acc l (6 * j) k = y at *
          have HA := Lib.hid hacc
          clear hacc hal
          have hbit := bit_any A n c l _ (6 * j + k) wr hrr hn (by omega)
          generalize bitAt l (6 * j + k) = t at *
          go_wp2_with fail
          rw [show ((i' : Int) + (k : Int)) = ((6 * j + k : Nat) : Int) from by omega]
          refine hbit.mono ?_
          rintro e w' ⟨rfl, rfl⟩
          go_wp2
          go_round
          case rel => exact ⟨k + 1, by omega, by go_num, by rw [HA.out]; exact int_eq' (by omega)⟩
          case measure => simp [intOf]; omega
        · obtain rfl : k = 6 := by omega
          have hg : b64Sign (acc l (6 * j) 6) = grp l j := rfl
          have ha64 : acc l (6 * j) 6 < 64 := hal
          have hrange : Hid ((List.range (j + 1)).map (grp l) = (List.range j).map (grp l) ++ [grp l j]) := range_snoc_map (grp l) j
          generalize acc l (6 * j) 6 = y at *
          have hsgn := b64SignAt y ha64
          rw [hg] at hsgn
          generalize grp l j = z at *
          clear hal hg
          have hrd := reads_one wr z (0, 0)
          go_wp2_with (at_builtin; refine wpList_append_any _ rfl (.tmp 28) (.tmp 32) 22 rfl w.heap.size 5 i0 (.int .u8 0) 1 1 Tryd.underlying22 hi hz0 hz1 hz2 rfl (by decide) _ _ _ rfl (hown.alloc _) (wr.heap.size + 1) _ 1 1 (Lib.byteCells [z]) rfl hrd (Lib.byteCells_one _) ?c3 ?c4 ?c5 ?_)
          case c3 => unfold maxLen; omega
          case c4 => omega
          case c5 => omega
          intro v' w2 hown' hgrow _
          have hbel2 : Below w.heap.size w w2 := (hbel.alloc hsz _).grown hgrow (by simp; omega) (fun k hk => (hown.lt k hk).1)
          have hown2 : w2.ownsRow w.heap.size 5 1 v' ((List.range (j + 1)).map (grp l)).length (Lib.byteCells ((List.range (j + 1)).map (grp l))) := by
            rw [hrange.out, Lib.byteCells_append, List.length_append, List.length_map, List.length_range]
            exact hown'
          clear hown hown' hgrow hrd hsgn hbel
          go_wp2
          go_roundw
          case rel => exact ⟨j + 1, i' + 6, by omega, by omega, by omega, by go_num, hown2, hbel2⟩
          case measure => simp [intOf]; omega
    · have hj2 : (4 * n + 2) / 3 = j := by omega
      have hGG : Hid (b64 l = (List.range j).map (grp l) ++ List.replicate ((4 - j % 4) % 4) 61) := by rw [HG.out, hj2]; rfl
      obtain ⟨P, hP⟩ : ∃ P, P = (4 - j % 4) % 4 := ⟨_, rfl⟩
      have hP1 : P ≤ 3 := by omega
      rw [← hP] at hGG
      have HP := Lib.hid hP
      clear hP hj2
      generalize (List.range j).map (grp l) = base at *
      have HML := Lib.hid hml
      clear hml
      go_wp2_with fail
      go_loopw [4] (fun v wz => ∃ (p m : Nat) (A2 : Option Addr) (c2 : Nat), p ≤ P ∧ m ≤ j + p ∧ j + p ≤ m ∧ v = .slice A2 m c2 ∧ wz.ownsRow w.heap.size 5 1 (.slice A2 m c2) m (Lib.byteCells (base ++ List.replicate p 61)) ∧ Below w.heap.size w wz) (fun v _ => j + P - sliceLen v)
      case atStart =>
        obtain ⟨A2, c2, rfl, _⟩ := own_form_cap hown
        exact ⟨0, j, A2, c2, by omega, by omega, by omega, rfl, by simpa using hown, hbel⟩
      case round =>
        obtain ⟨p, m, A2, c2, hp, hm1, hm2, rfl, hown2, hbel2⟩ := hrel
        clear hown hbel
        have hsz2 := hbel2.size
        by_cases hpP : p < P
        · have hb : (((m : Int) % 4) != 0) = true := by
            have := HP.out
            simp; omega
          have hrd := reads_const wr 61 61 rfl
          go_wp2_with (at_builtin; refine wpList_append_any _ rfl (.tmp 38) (.tmp 39) 22 rfl w.heap.size 5 i0 (.int .u8 0) 1 1 Tryd.underlying22 hi hz0 hz1 hz2 rfl (by decide) _ _ _ rfl (hown2.alloc _) (wr.heap.size + 1) _ 1 1 (Lib.byteCells [61]) rfl hrd (Lib.byteCells_one _) ?d3 ?d4 ?d5 ?_)
          case d3 => unfold maxLen; omega
          case d4 => omega
          case d5 => first | omega | (simp; done) | (simp; omega)
          intro v' w2 hown' hgrow _
          have hbel3 : Below w.heap.size w w2 := (hbel2.alloc hsz2 _).grown hgrow (by simp; omega) (fun k hk => (hown2.lt k hk).1)
          obtain ⟨A3, c3, rfl, _⟩ := own_form_cap hown'
          have hown3 : w2.ownsRow w.heap.size 5 1 (.slice A3 (m + 1) c3) (m + 1) (Lib.byteCells (base ++ List.replicate (p + 1) 61)) := by
            rw [List.replicate_succ', ← List.append_assoc, Lib.byteCells_append]
            exact hown'
          clear hown' hown2 hgrow hrd hbel2
          go_wp2
          go_roundw
          case rel => exact ⟨p + 1, m + 1, A3, c3, by omega, by omega, by omega, rfl, hown3, hbel3⟩
          case measure => simp [sliceLen]; omega
        · obtain rfl : p = P := by omega
          have hb : (((m : Int) % 4) != 0) = false := by
            have := HP.out
            simp; omega
          have hr2 := Reads.of_own hown2
          rw [← hGG.out] at hr2
          clear hown2
          go_wp2_with fail
          rw [run_back hr2]
          simp only [Result.andThen]
          rw [Oper.upon_value]
          go_wp2
          go_ret
          exact ⟨rfl, hbel2⟩
end Go.Proofs.YtibebghnhicmfaaDoor
