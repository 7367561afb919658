/-
  Several texts in one: RefUnhex, RefB64, CandMath, RefUnb64, RefUnb64b, NotRef1, NotRef2, NotRef3, NotRef4, NotRef5, NotRef6, NotRef7, RefLen, RefRead, NotRef8, NotRef9, ReadAll, RefRead2, RefRead3, RefRead4, RefRead5. Conditions: those that each theorem states.
-/
import Derived.Test.YtcojkmcnigppbaaGreatDoorM3
set_option linter.unusedVariables false
set_option linter.unusedSimpArgs false
open Go.Lib (hid)
open Go.Proofs.YtcojkmcnigppbaaGreatDoor (zA zB zC zD zE zF)

section
namespace Go.Proofs.YtcojkmcnigppbaaGreatDoor
open Go Go.Proofs Go.RowKit Oct
theorem ret_two {a a' : Int} {b b' : Bool} (h1 : a = a') (h2 : b = b') : Ending.returned (.tuple #[.int .u8 a, .bool b]) = .returned (.tuple #[.int .u8 a', .bool b']) := by rw [h1, h2]
set_option maxHeartbeats 1000000 in
set_option maxRecDepth 100000 in
theorem value_any (x : UInt8) (w : World) : Calls Tryz.prog 94 #[.int .u8 x.toNat] w fun e w' => e = .returned (.tuple #[.int .u8 (max (hexV x) 0), .bool (decide (0 ≤ hexV x))]) ∧ w = w' := by
  have hx := x.toNat_lt
  by_cases h1 : 48 ≤ x.toNat ∧ x.toNat ≤ 57
  · have hv : Hid (hexV x = (x.toNat : Int) - 48) := by show _ = _; unfold hexV; rw [if_pos h1]
    obtain ⟨h2, h3⟩ := h1
    go_enter Tryz.func94, Tryz.ntmps94
    go_wp2
    go_ret2
    exact ⟨by rw [hv.out]; exact ret_two (show (_ : Int) = _ by omega) (show true = _ by simp; omega), rfl⟩
  · by_cases h2 : 97 ≤ x.toNat ∧ x.toNat ≤ 102
    · have hv : Hid (hexV x = (x.toNat : Int) - 87) := by show _ = _; unfold hexV; rw [if_neg h1, if_pos h2]
      obtain ⟨h3, h4⟩ := h2
      go_enter Tryz.func94, Tryz.ntmps94
      go_wp2
      go_ret2
      exact ⟨by rw [hv.out]; exact ret_two (show (_ : Int) = _ by omega) (show true = _ by simp; omega), rfl⟩
    · by_cases h3 : 65 ≤ x.toNat ∧ x.toNat ≤ 70
      · have hv : Hid (hexV x = (x.toNat : Int) - 55) := by show _ = _; unfold hexV; rw [if_neg h1, if_neg h2, if_pos h3]
        obtain ⟨h4, h5⟩ := h3
        go_enter Tryz.func94, Tryz.ntmps94
        go_wp2
        go_ret2
        exact ⟨by rw [hv.out]; exact ret_two (show (_ : Int) = _ by omega) (show true = _ by simp; omega), rfl⟩
      · have hv : Hid (hexV x = -1) := by show _ = _; unfold hexV; rw [if_neg h1, if_neg h2, if_neg h3]
        go_enter Tryz.func94, Tryz.ntmps94
        go_wp2
        all_goals
          go_ret2
          exact ⟨by rw [hv.out]; exact ret_two (show (_ : Int) = _ by omega) (show false = _ by simp), rfl⟩
def RefEnd (r : Option (List UInt8)) (w : World) (e : Ending) (w' : World) : Prop :=
  (r = none ∧ ∃ v, e = .returned (.tuple #[v, .bool false]) ∧ w'.ownsRow w.heap.size 5 1 v 0 [] ∧ Below w.heap.size w w') ∨
    ∃ out v, r = some out ∧ e = .returned (.tuple #[v, .bool true]) ∧ w'.ownsRow w.heap.size 5 1 v out.length (Lib.byteCells out) ∧ Below w.heap.size w w'
set_option maxHeartbeats 2000000 in
set_option maxRecDepth 100000 in
theorem refUnhex_any (s : ByteArray) (w : World) (hs : s.size ≤ 1099511627776) :
    Calls Tryz.prog 117 #[.string s] w fun e w' => RefEnd (unhex s.data.toList) w e w' := by
  obtain ⟨i0, hi, hz0, hz1, hz2⟩ := info_parts infoByte
  have hsl : s.data.toList.length = s.size := by simp
  have hoe := owns_empty w
  by_cases ho : s.size % 2 = 0
  · have hob : (((s.size : Int) % 2) == 1) = false := by rw [beq_eq_false_iff_ne]; omega
    go_enter Tryz.func117, Tryz.ntmps117
    go_wp2
    go_loopw [4, 5] (fun v i wr => ∃ (j : Nat) (out : List UInt8), j ≤ s.size ∧ j % 2 ≤ 0 ∧ i = .int .i64 j ∧ out.length ≤ j ∧ wr.ownsRow w.heap.size 5 1 v out.length (Lib.byteCells out) ∧ unhex s.data.toList = (unhex (s.data.toList.drop j)).map (out ++ ·) ∧ Below w.heap.size w wr) (fun _ i _ => s.size - (intOf i).toNat)
    case atStart => exact ⟨0, [], Nat.zero_le _, by simp, rfl, Nat.zero_le _, hoe, by simp, (Below.refl _ _).alloc (Nat.le_refl _) _⟩
    case round =>
      obtain ⟨j, out, hj, hj2, rfl, hol, hown, hun, hbel⟩ := hrel
      clear hoe
      have hszr := hbel.size
      by_cases hlt : j < s.size
      · have h1 : j + 1 < s.size := by omega
        have hj1 : j + 1 < s.data.toList.length := by omega
        have HS := fun p => hid (unhex_stop s.data.toList j hj1 p out hun)
        have HT := fun p p' => hid (unhex_step s.data.toList j hj1 p p' out hun)
        have hx' : s.data.toList[j]'(by omega) = s[j] := rfl
        have hy' : s.data.toList[j + 1]'(by omega) = s[j + 1] := rfl
        rw [hx', hy'] at HS HT
        clear hx' hy' hun
        have q1 : IntKind.i64.wrap ((j : Int) + 1) = (j : Int) + 1 := IntWalk.i64_in _ (by omega)
        go_wp2_with fail
        generalize hx : s[j] = x at *
        refine (value_any x wr).mono ?_
        rintro e w' ⟨rfl, rfl⟩
        clear hx
        go_wp2_with fail
        generalize hy : s[j + 1] = y at *
        refine (value_any y wr).mono ?_
        rintro e w' ⟨rfl, rfl⟩
        clear hy q1
        have hb0 := hexV_bound x
        have hb1 := hexV_bound y
        generalize hexV x = a at *
        generalize hexV y = b at *
        by_cases hv : a < 0 ∨ b < 0
        · have hno := HS hv
          clear HS HT
          by_cases ha : a < 0
          · have d1 : decide (0 ≤ a) = false := by simp; omega
            go_wp2
            go_ret2
            exact .inl ⟨hno.out, _, rfl, owns_more (owns_empty wr) hszr, hbel.alloc hszr _⟩
          · have d1 : decide (0 ≤ a) = true := by simp; omega
            have d2 : decide (0 ≤ b) = false := by simp; omega
            go_wp2
            go_ret2
            exact .inl ⟨hno.out, _, rfl, owns_more (owns_empty wr) hszr, hbel.alloc hszr _⟩
        · have h0 : 0 ≤ a := by omega
          have h2 : 0 ≤ b := by omega
          have d1 : decide (0 ≤ a) = true := by simp; omega
          have d2 : decide (0 ≤ b) = true := by simp; omega
          have m1 : max a 0 = a := by omega
          have m2 : max b 0 = b := by omega
          have hnext := HT h0 h2
          clear HS HT hv
          have hrd := reads_const wr (16 * a + b) (16 * a + b).toNat.toUInt8 (by simp; omega)
          go_wp2_with (at_builtin; refine wpList_append_any _ rfl (.tmp 44) (.tmp 49) 22 rfl w.heap.size 5 i0 (.int .u8 0) 1 1 Tryz.underlying22 hi hz0 hz1 hz2 rfl (by decide) _ _ _ rfl (hown.alloc _) (wr.heap.size + 1) _ 1 1 (Lib.byteCells [(16 * a + b).toNat.toUInt8]) rfl hrd (Lib.byteCells_one _) ?c3 ?c4 ?c5 ?_)
          case c3 => unfold maxLen; omega
          case c4 => omega
          case c5 => first | omega | (simp; done) | (simp; omega)
          intro v' w2 hown' hgrow _
          have hbel2 : Below w.heap.size w w2 := (hbel.alloc hszr _).grown hgrow (by simp; omega) (fun k hk => (hown.lt k hk).1)
          have hown2 : w2.ownsRow w.heap.size 5 1 v' (out ++ [(16 * a + b).toNat.toUInt8]).length (Lib.byteCells (out ++ [(16 * a + b).toNat.toUInt8])) := by
            rw [Lib.byteCells_append, List.length_append]
            exact hown'
          clear hown' hgrow hown hbel m1 m2 d1 d2 hrd
          go_wp2
          go_roundw
          case rel => exact ⟨j + 2, _, by omega, by omega, by go_num, by simp; omega, hown2, hnext.out, hbel2⟩
          case measure => simp [intOf]; omega
      · obtain rfl : j = s.size := by omega
        have hun' : Hid (unhex s.data.toList = some out) := by
          rw [hun, List.drop_of_length_le (by omega)]
          show Option.map _ (unhex []) = _
          simp [unhex]
        clear hun hsl
        go_wp2
        go_ret2
        exact .inr ⟨out, _, hun'.out, rfl, hown, hbel⟩
  · have hno : Hid (unhex s.data.toList = none) := unhex_odd (s.size / 2) s.data.toList (by omega)
    clear hsl
    have hob : (((s.size : Int) % 2) == 1) = true := by rw [beq_iff_eq]; omega
    go_enter Tryz.func117, Tryz.ntmps117
    go_wp2
    go_ret2
    exact .inl ⟨hno.out, _, rfl, hoe, (Below.refl _ _).alloc (Nat.le_refl _) _⟩
end Go.Proofs.YtcojkmcnigppbaaGreatDoor
end
section
namespace Go.Proofs.YtcojkmcnigppbaaGreatDoor
open Go Go.Proofs Go.RowKit Oct
theorem int_eq' {k : IntKind} {a b : Int} (h : a = b) : Value.int k a = Value.int k b := by rw [h]
set_option maxHeartbeats 1000000 in
set_option maxRecDepth 100000 in
theorem bit_any (A : Option Addr) (n c : Nat) (l : List UInt8) (B i : Nat) (w : World) (hr : Reads w B 1 A n (Lib.byteCells l)) (hn : n ≤ 1099511627776) (hi : i ≤ 17592186044416) :
    Calls Tryz.prog 34 #[.slice A n c, .int .i64 (i : Int)] w fun e w' => e = .returned (.int .u8 (bitAt l i)) ∧ w = w' := by
  have hl : l.length = n := by have := hr.1; simpa [Lib.byteCells_length] using this
  by_cases h1 : n ≤ i / 8
  · have hb : Hid (bitAt l i = 0) := by
      show _ = _
      unfold bitAt
      simp [List.getD, List.getElem?_eq_none (show l.length ≤ i / 8 by omega)]
    clear hl
    have h1' : (n : Int) ≤ (i : Int) / 8 := by omega
    go_enter Tryz.func34, Tryz.ntmps34
    go_wp2
    go_ret
    exact ⟨by rw [hb.out]; rfl, rfl⟩
  · obtain ⟨q, hq⟩ : ∃ q, q = i / 8 := ⟨_, rfl⟩
    obtain ⟨s, hs⟩ : ∃ s, s = 7 - i % 8 := ⟨_, rfl⟩
    have hk : q < n := by omega
    obtain ⟨ad, u, rfl, hab, hu, hc⟩ := hr.at_ hk
    have hkl : q < l.length := by omega
    obtain ⟨x, hx⟩ : ∃ x : UInt8, x = l[q] := ⟨_, rfl⟩
    have hu' : u = .int .u8 x.toNat := by
      simp [Lib.byteCells, List.getElem?_map, List.getElem?_eq_getElem hkl] at hu
      rw [hx]; exact hu.symm
    subst hu'
    have hb : Hid (bitAt l i = x.toNat / 2 ^ s % 2) := by
      show _ = _
      unfold bitAt
      rw [← hq, ← hs]
      simp [List.getD, List.getElem?_eq_getElem hkl, hx]
    have hx1 := x.toNat_lt
    have e1 : (i : Int) / 8 = (q : Int) := by omega
    have e2 : (7 : Int) - (i : Int) % 8 = (s : Int) := by omega
    have hs7 : s ≤ 7 := by omega
    have E2 := hid e2
    clear hl hx hu hkl h1 e2 hs hq
    go_enter Tryz.func34, Tryz.ntmps34
    go_wp2_with fail
    go_loop [5, 6] (fun a b => ∃ (k y : Nat), k ≤ s ∧ b = .int .i64 k ∧ a = .int .u8 y ∧ y = x.toNat / 2 ^ k) (fun _ b => s - (intOf b).toNat)
    case atStart => exact ⟨0, x.toNat, Nat.zero_le _, rfl, rfl, by simp⟩
    case round =>
      obtain ⟨k, y, hks, rfl, rfl, hy⟩ := hrel
      have hy1 : y ≤ 255 := by rw [hy]; exact Nat.le_trans (Nat.div_le_self _ _) (by omega)
      have HY := hid hy
      clear hy
      have e2 := E2.out
      by_cases hlt : k < s
      · have hy2 : Hid (y / 2 = x.toNat / 2 ^ (k + 1)) := by
          show _ = _
          rw [HY.out, Nat.div_div_eq_div_mul, Nat.pow_succ]
        go_wp2
        go_round
        case rel => exact ⟨k + 1, y / 2, by omega, by go_num, int_eq' (by omega), hy2.out⟩
        case measure => simp [intOf]; omega
      · obtain rfl : k = s := by omega
        have hf : Hid ((y : Int) % 2 = ((bitAt l i : Nat) : Int)) := by
          show _ = _
          rw [hb.out, ← HY.out]; omega
        go_wp2
        go_ret
        exact ⟨by rw [← hf.out]; rfl, rfl⟩
set_option maxHeartbeats 2000000 in
set_option maxRecDepth 100000 in
theorem refBase64_any (A : Option Addr) (n c : Nat) (l : List UInt8) (w : World) (hr : Reads w w.heap.size 1 A n (Lib.byteCells l)) (hn : n ≤ 1099511627776) :
    Calls Tryz.prog 17 #[.slice A n c] w fun e w' => e = .returned (.string ⟨(b64 l).toArray⟩) ∧ Below w.heap.size w w' := by
  have hl : l.length = n := by have := hr.1; simpa [Lib.byteCells_length] using this
  have hG := b64_groups l
  rw [hl] at hG
  have H := hid hl; have HG := hid hG
  clear hl hG
  obtain ⟨i0, hi, hz0, hz1, hz2⟩ := info_parts infoByte
  have hoe := owns_empty w
  go_enter Tryz.func17, Tryz.ntmps17
  go_wp2
  go_loopw [4, 5] (fun v i wr => ∃ j i' : Nat, 6 * j ≤ 8 * n + 5 ∧ i' ≤ 6 * j ∧ 6 * j ≤ i' ∧ i = .int .i64 i' ∧ wr.ownsRow w.heap.size 5 1 v ((List.range j).map (grp l)).length (Lib.byteCells ((List.range j).map (grp l))) ∧ Below w.heap.size w wr) (fun _ i _ => 8 * n + 6 - (intOf i).toNat)
  case atStart => exact ⟨0, 0, by omega, by omega, by omega, rfl, hoe, (Below.refl _ _).alloc (Nat.le_refl _) _⟩
  case round =>
    obtain ⟨j, i', hj, hi1, hi2, rfl, hown, hbel⟩ := hrel
    clear hoe
    have hsz := hbel.size
    have hml : ((List.range j).map (grp l)).length = j := by simp
    rw [hml] at hown
    by_cases hlt : 6 * j < 8 * n
    · have hrr := (hr.below hbel).more hsz
      have hdec : decide ((i' : Int) < 8 * (n : Int)) = true := by simp; omega
      clear hml
      go_wp2_with fail
      go_loop [6, 7] (fun a b => ∃ k : Nat, k ≤ 6 ∧ b = .int .i64 k ∧ a = .int .u8 (acc l (6 * j) k)) (fun _ b => 6 - (intOf b).toNat)
      case atStart => exact ⟨0, by omega, rfl, rfl⟩
      case round =>
        obtain ⟨k, hk, rfl, rfl⟩ := hrel
        have hal := acc_lt l (6 * j) k
        by_cases hk6 : k < 6
        · have hal2 : acc l (6 * j) k < 32 := Nat.lt_of_lt_of_le hal (by
            have : 2 ^ k ≤ 2 ^ 5 := Nat.pow_le_pow_right (by omega) (by omega)
            omega)
          have hacc : acc l (6 * j) (k + 1) = 2 * acc l (6 * j) k + bitAt l (6 * j + k) := rfl
          have hbt := bitAt_lt l (6 * j + k)
          generalize acc l (6 * j) k = y at *
          have HA := hid hacc
          clear hacc hal
          have hbit := bit_any A n c l _ (6 * j + k) wr hrr hn (by omega)
          generalize bitAt l (6 * j + k) = t at *
          go_wp2_with fail
          rw [show ((i' : Int) + (k : Int)) = ((6 * j + k : Nat) : Int) from by omega]
          refine hbit.mono ?_
          rintro e w' ⟨rfl, rfl⟩
          go_wp2
          go_round
          case rel => exact ⟨k + 1, by omega, by go_num, by rw [HA.out]; exact int_eq' (by omega)⟩
          case measure => simp [intOf]; omega
        · obtain rfl : k = 6 := by omega
          have hg : b64Sign (acc l (6 * j) 6) = grp l j := rfl
          have ha64 : acc l (6 * j) 6 < 64 := hal
          have hrange : Hid ((List.range (j + 1)).map (grp l) = (List.range j).map (grp l) ++ [grp l j]) := range_snoc_map (grp l) j
          generalize acc l (6 * j) 6 = y at *
          have hsgn := b64SignAt y ha64
          rw [hg] at hsgn
          generalize grp l j = z at *
          clear hal hg
          have hrd := reads_one wr z (0, 0)
          go_wp2_with (at_builtin; refine wpList_append_any _ rfl (.tmp 28) (.tmp 32) 22 rfl w.heap.size 5 i0 (.int .u8 0) 1 1 Tryz.underlying22 hi hz0 hz1 hz2 rfl (by decide) _ _ _ rfl (hown.alloc _) (wr.heap.size + 1) _ 1 1 (Lib.byteCells [z]) rfl hrd (Lib.byteCells_one _) ?c3 ?c4 ?c5 ?_)
          case c3 => unfold maxLen; omega
          case c4 => omega
          case c5 => omega
          intro v' w2 hown' hgrow _
          have hbel2 : Below w.heap.size w w2 := (hbel.alloc hsz _).grown hgrow (by simp; omega) (fun k hk => (hown.lt k hk).1)
          have hown2 : w2.ownsRow w.heap.size 5 1 v' ((List.range (j + 1)).map (grp l)).length (Lib.byteCells ((List.range (j + 1)).map (grp l))) := by
            rw [hrange.out, Lib.byteCells_append, List.length_append, List.length_map, List.length_range]
            exact hown'
          clear hown hown' hgrow hrd hsgn hbel
          go_wp2
          go_roundw
          case rel => exact ⟨j + 1, i' + 6, by omega, by omega, by omega, by go_num, hown2, hbel2⟩
          case measure => simp [intOf]; omega
    · have hj2 : (4 * n + 2) / 3 = j := by omega
      have hGG : Hid (b64 l = (List.range j).map (grp l) ++ List.replicate ((4 - j % 4) % 4) 61) := by rw [HG.out, hj2]; rfl
      obtain ⟨P, hP⟩ : ∃ P, P = (4 - j % 4) % 4 := ⟨_, rfl⟩
      have hP1 : P ≤ 3 := by omega
      rw [← hP] at hGG
      have HP := hid hP
      clear hP hj2
      generalize (List.range j).map (grp l) = base at *
      have HML := hid hml
      clear hml
      go_wp2_with fail
      go_loopw [4] (fun v wz => ∃ (p m : Nat) (A2 : Option Addr) (c2 : Nat), p ≤ P ∧ m ≤ j + p ∧ j + p ≤ m ∧ v = .slice A2 m c2 ∧ wz.ownsRow w.heap.size 5 1 (.slice A2 m c2) m (Lib.byteCells (base ++ List.replicate p 61)) ∧ Below w.heap.size w wz) (fun v _ => j + P - sliceLen v)
      case atStart =>
        obtain ⟨A2, c2, rfl, _⟩ := own_form_cap hown
        exact ⟨0, j, A2, c2, by omega, by omega, by omega, rfl, by simpa using hown, hbel⟩
      case round =>
        obtain ⟨p, m, A2, c2, hp, hm1, hm2, rfl, hown2, hbel2⟩ := hrel
        clear hown hbel
        have hsz2 := hbel2.size
        by_cases hpP : p < P
        · have hb : (((m : Int) % 4) != 0) = true := by
            have := HP.out
            simp; omega
          have hrd := reads_const wr 61 61 rfl
          go_wp2_with (at_builtin; refine wpList_append_any _ rfl (.tmp 38) (.tmp 39) 22 rfl w.heap.size 5 i0 (.int .u8 0) 1 1 Tryz.underlying22 hi hz0 hz1 hz2 rfl (by decide) _ _ _ rfl (hown2.alloc _) (wr.heap.size + 1) _ 1 1 (Lib.byteCells [61]) rfl hrd (Lib.byteCells_one _) ?d3 ?d4 ?d5 ?_)
          case d3 => unfold maxLen; omega
          case d4 => omega
          case d5 => first | omega | (simp; done) | (simp; omega)
          intro v' w2 hown' hgrow _
          have hbel3 : Below w.heap.size w w2 := (hbel2.alloc hsz2 _).grown hgrow (by simp; omega) (fun k hk => (hown2.lt k hk).1)
          obtain ⟨A3, c3, rfl, _⟩ := own_form_cap hown'
          have hown3 : w2.ownsRow w.heap.size 5 1 (.slice A3 (m + 1) c3) (m + 1) (Lib.byteCells (base ++ List.replicate (p + 1) 61)) := by
            rw [List.replicate_succ', ← List.append_assoc, Lib.byteCells_append]
            exact hown'
          clear hown' hown2 hgrow hrd hbel2
          go_wp2
          go_roundw
          case rel => exact ⟨p + 1, m + 1, A3, c3, by omega, by omega, by omega, rfl, hown3, hbel3⟩
          case measure => simp [sliceLen]; omega
        · obtain rfl : p = P := by omega
          have hb : (((m : Int) % 4) != 0) = false := by
            have := HP.out
            simp; omega
          have hr2 := Reads.of_own hown2
          rw [← hGG.out] at hr2
          clear hown2
          go_wp2_with fail
          rw [run_back hr2]
          simp only [Result.andThen]
          rw [Oper.upon_value]
          go_wp2
          go_ret
          exact ⟨rfl, hbel2⟩
end Go.Proofs.YtcojkmcnigppbaaGreatDoor
end
section
namespace Oct
open Go
def six (n : Nat) : List UInt8 := [(n / 32 % 2).toUInt8, (n / 16 % 2).toUInt8, (n / 8 % 2).toUInt8, (n / 4 % 2).toUInt8, (n / 2 % 2).toUInt8, (n / 1 % 2).toUInt8]
def isSign (c : UInt8) : Bool := decide (0 ≤ val64 c)
def bitsOf (l : List UInt8) : List UInt8 := l.flatMap fun c => six (val64 c).toNat
def accB (b : List UInt8) (i : Nat) : Nat → Nat
  | 0 => 0
  | k + 1 => 2 * accB b i k + (b.getD (i + k) 0).toNat
def cand (s : List UInt8) : List UInt8 := (List.range ((bitsOf (s.takeWhile isSign)).length / 8)).map fun j => (accB (bitsOf (s.takeWhile isSign)) (8 * j) 8).toUInt8
theorem six_bits (y : List UInt8) (j : Nat) : six (acc y (6 * j) 6) = [(bitAt y (6 * j)).toUInt8, (bitAt y (6 * j + 1)).toUInt8, (bitAt y (6 * j + 2)).toUInt8, (bitAt y (6 * j + 3)).toUInt8, (bitAt y (6 * j + 4)).toUInt8, (bitAt y (6 * j + 5)).toUInt8] := by
  have h0 := bitAt_lt y (6 * j)
  have h1 := bitAt_lt y (6 * j + 1)
  have h2 := bitAt_lt y (6 * j + 2)
  have h3 := bitAt_lt y (6 * j + 3)
  have h4 := bitAt_lt y (6 * j + 4)
  have h5 := bitAt_lt y (6 * j + 5)
  simp only [six, acc, Nat.add_zero]
  generalize bitAt y (6 * j) = a0 at *
  generalize bitAt y (6 * j + 1) = a1 at *
  generalize bitAt y (6 * j + 2) = a2 at *
  generalize bitAt y (6 * j + 3) = a3 at *
  generalize bitAt y (6 * j + 4) = a4 at *
  generalize bitAt y (6 * j + 5) = a5 at *
  rw [show (2 * (2 * (2 * (2 * (2 * (2 * 0 + a0) + a1) + a2) + a3) + a4) + a5) / 32 % 2 = a0 from by omega,
    show (2 * (2 * (2 * (2 * (2 * (2 * 0 + a0) + a1) + a2) + a3) + a4) + a5) / 16 % 2 = a1 from by omega,
    show (2 * (2 * (2 * (2 * (2 * (2 * 0 + a0) + a1) + a2) + a3) + a4) + a5) / 8 % 2 = a2 from by omega,
    show (2 * (2 * (2 * (2 * (2 * (2 * 0 + a0) + a1) + a2) + a3) + a4) + a5) / 4 % 2 = a3 from by omega,
    show (2 * (2 * (2 * (2 * (2 * (2 * 0 + a0) + a1) + a2) + a3) + a4) + a5) / 2 % 2 = a4 from by omega,
    show (2 * (2 * (2 * (2 * (2 * (2 * 0 + a0) + a1) + a2) + a3) + a4) + a5) / 1 % 2 = a5 from by omega]
theorem bits_range (y : List UInt8) : ∀ J, bitsOf ((List.range J).map (grp y)) = (List.range (6 * J)).map fun t => (bitAt y t).toUInt8
  | 0 => rfl
  | J + 1 => by
    have ih := bits_range y J
    have hv : val64 (grp y J) = (acc y (6 * J) 6 : Nat) := val64_sign _ (acc_lt y (6 * J) 6)
    rw [List.range_succ, List.map_append]
    unfold bitsOf at ih ⊢
    rw [List.flatMap_append, ih]
    simp only [List.map_cons, List.map_nil, List.flatMap_cons, List.flatMap_nil, List.append_nil, hv, Int.toNat_natCast]
    rw [six_bits, show 6 * (J + 1) = 6 * J + 1 + 1 + 1 + 1 + 1 + 1 from by omega]
    simp only [List.range_succ, List.map_append, List.map_cons, List.map_nil, List.append_assoc, List.cons_append, List.nil_append]
theorem grp_isSign (y : List UInt8) (j : Nat) : isSign (grp y j) = true := by
  have hv : val64 (grp y j) = (acc y (6 * j) 6 : Nat) := val64_sign _ (acc_lt y (6 * j) 6)
  unfold isSign
  rw [hv]
  simp
theorem pad_not : isSign 61 = false := by decide +kernel
theorem take_b64 (y : List UInt8) : (b64 y).takeWhile isSign = (List.range ((4 * y.length + 2) / 3)).map (grp y) := by
  rw [b64_groups]
  have h : ∀ (l : List UInt8) (p : Nat), (∀ c ∈ l, isSign c = true) → (l ++ List.replicate p 61).takeWhile isSign = l := by
    intro l p hl
    rw [List.takeWhile_append_of_pos hl]
    cases p with
    | zero => simp
    | succ p => rw [List.replicate_succ, List.takeWhile_cons_of_neg (by rw [pad_not]; simp), List.append_nil]
  refine h _ _ ?_
  intro c hc
  rw [List.mem_map] at hc
  obtain ⟨j, _, rfl⟩ := hc
  exact grp_isSign y j
theorem accB_acc (y : List UInt8) (N i : Nat) : ∀ k, i + k ≤ N → accB ((List.range N).map fun t => (bitAt y t).toUInt8) i k = acc y i k
  | 0, _ => rfl
  | k + 1, h => by
    have hb := bitAt_lt y (i + k)
    rw [accB, acc, accB_acc y N i k (by omega)]
    have e : ((List.range N).map fun t => (bitAt y t).toUInt8).getD (i + k) 0 = (bitAt y (i + k)).toUInt8 := by
      simp [List.getD, List.getElem?_map, List.getElem?_range (show i + k < N by omega)]
    rw [e, nat_byte _ (by omega)]
set_option maxHeartbeats 1000000 in
theorem acc_byte (y : List UInt8) (j : Nat) : acc y (8 * j) 8 = (y.getD j 0).toNat := by
  have hx := getD_toNat y j
  have hb : ∀ k, k < 8 → bitAt y (8 * j + k) = (y.getD j 0).toNat / 2 ^ (7 - k) % 2 := by
    intro k hk
    unfold bitAt
    rw [show (8 * j + k) / 8 = j from by omega, show (8 * j + k) % 8 = k from by omega]
  generalize (y.getD j 0).toNat = x at *
  have b0 : bitAt y (8 * j + 0) = x / 128 % 2 := hb 0 (by omega)
  have b1 : bitAt y (8 * j + 1) = x / 64 % 2 := hb 1 (by omega)
  have b2 : bitAt y (8 * j + 2) = x / 32 % 2 := hb 2 (by omega)
  have b3 : bitAt y (8 * j + 3) = x / 16 % 2 := hb 3 (by omega)
  have b4 : bitAt y (8 * j + 4) = x / 8 % 2 := hb 4 (by omega)
  have b5 : bitAt y (8 * j + 5) = x / 4 % 2 := hb 5 (by omega)
  have b6 : bitAt y (8 * j + 6) = x / 2 % 2 := hb 6 (by omega)
  have b7 : bitAt y (8 * j + 7) = x / 1 % 2 := hb 7 (by omega)
  simp only [acc, b0, b1, b2, b3, b4, b5, b6, b7]
  clear b0 b1 b2 b3 b4 b5 b6 b7 hb
  omega
theorem cand_b64 (y : List UInt8) : cand (b64 y) = y := by
  unfold cand
  rw [take_b64, bits_range, List.length_map, List.length_range]
  have hN : 6 * ((4 * y.length + 2) / 3) / 8 = y.length := by omega
  rw [hN]
  apply List.ext_getElem?
  intro i
  by_cases hi : i < y.length
  · rw [List.getElem?_map, List.getElem?_range hi, List.getElem?_eq_getElem hi, Option.map_some, accB_acc y _ _ 8 (by omega), acc_byte]
    simp [List.getD, List.getElem?_eq_getElem hi]
  · rw [List.getElem?_eq_none (by simp; omega), List.getElem?_eq_none (by omega)]
theorem cand_yes (s : List UInt8) (h : b64 (cand s) = s) : ub64 s = some (cand s) := by
  have := ub64_b64 (cand s)
  rwa [h] at this
theorem cand_no (s : List UInt8) (h : b64 (cand s) ≠ s) : ub64 s = none := by
  cases hu : ub64 s with
  | none => rfl
  | some y =>
    have hy := b64_ub64 s y hu
    exact absurd (by rw [← hy, cand_b64]) h
end Oct
end
section
namespace Go.Proofs.YtcojkmcnigppbaaGreatDoor
open Go Go.Proofs Go.RowKit Oct
theorem val64_cases : ∀ n : Nat, n < 256 → val64 n.toUInt8 = if 65 ≤ n ∧ n ≤ 90 then (n : Int) - 65 else if 97 ≤ n ∧ n ≤ 122 then (n : Int) - 71 else if 48 ≤ n ∧ n ≤ 57 then (n : Int) + 4 else if n = 43 then 62 else if n = 47 then 63 else -1 := by decide +kernel
def signV (c : UInt8) : Int := if 0 ≤ val64 c then val64 c else 63
set_option maxHeartbeats 2000000 in
set_option maxRecDepth 100000 in
theorem sign_any (x : UInt8) (w : World) : Calls Tryz.prog 95 #[.int .u8 x.toNat] w fun e w' => e = .returned (.tuple #[.int .u8 (signV x), .bool (isSign x)]) ∧ w = w' := by
  have hx := x.toNat_lt
  have hv := val64_cases x.toNat (by omega)
  rw [show x.toNat.toUInt8 = x from by simp] at hv
  by_cases h1 : 65 ≤ x.toNat ∧ x.toNat ≤ 90
  · rw [if_pos h1] at hv
    have hs : Hid (signV x = (x.toNat : Int) - 65 ∧ isSign x = true) := ⟨by unfold signV; rw [if_pos (by omega), hv], by unfold isSign; rw [hv]; simp; omega⟩
    clear hv
    obtain ⟨h2, h3⟩ := h1
    go_enter Tryz.func95, Tryz.ntmps95
    go_wp2
    go_ret2
    exact ⟨by rw [hs.out.1, hs.out.2]; exact ret_two (show (_ : Int) = _ by omega) rfl, rfl⟩
  · rw [if_neg h1] at hv
    by_cases h2 : 97 ≤ x.toNat ∧ x.toNat ≤ 122
    · rw [if_pos h2] at hv
      have hs : Hid (signV x = (x.toNat : Int) - 71 ∧ isSign x = true) := ⟨by unfold signV; rw [if_pos (by omega), hv], by unfold isSign; rw [hv]; simp; omega⟩
      clear hv
      obtain ⟨h3, h4⟩ := h2
      go_enter Tryz.func95, Tryz.ntmps95
      go_wp2
      go_ret2
      exact ⟨by rw [hs.out.1, hs.out.2]; exact ret_two (show (_ : Int) = _ by omega) rfl, rfl⟩
    · rw [if_neg h2] at hv
      by_cases h3 : 48 ≤ x.toNat ∧ x.toNat ≤ 57
      · rw [if_pos h3] at hv
        have hs : Hid (signV x = (x.toNat : Int) + 4 ∧ isSign x = true) := ⟨by unfold signV; rw [if_pos (by omega), hv], by unfold isSign; rw [hv]; simp; omega⟩
        clear hv
        obtain ⟨h4, h5⟩ := h3
        go_enter Tryz.func95, Tryz.ntmps95
        go_wp2
        go_ret2
        exact ⟨by rw [hs.out.1, hs.out.2]; exact ret_two (show (_ : Int) = _ by omega) rfl, rfl⟩
      · rw [if_neg h3] at hv
        by_cases h4 : x.toNat = 43
        · rw [if_pos h4] at hv
          have hs : Hid (signV x = 62 ∧ isSign x = true) := ⟨by unfold signV; rw [if_pos (by omega), hv], by unfold isSign; rw [hv]; simp⟩
          clear hv h1 h2 h3
          obtain rfl : x = 43 := UInt8.toNat_inj.1 h4
          clear h4
          go_enter Tryz.func95, Tryz.ntmps95
          go_wp2
          go_ret2
          exact ⟨by rw [hs.out.1, hs.out.2]; rfl, rfl⟩
        · rw [if_neg h4] at hv
          have hb1 : ((x.toNat : Int) == 43) = false := by rw [beq_eq_false_iff_ne]; omega
          by_cases h5 : x.toNat = 47
          · rw [if_pos h5] at hv
            have hs : Hid (signV x = 63 ∧ isSign x = true) := ⟨by unfold signV; rw [if_pos (by omega), hv], by unfold isSign; rw [hv]; simp⟩
            clear hv h1 h2 h3 h4 hb1
            obtain rfl : x = 47 := UInt8.toNat_inj.1 h5
            clear h5
            go_enter Tryz.func95, Tryz.ntmps95
            go_wp2
            go_ret2
            exact ⟨by rw [hs.out.1, hs.out.2]; rfl, rfl⟩
          · rw [if_neg h5] at hv
            have hb2 : ((x.toNat : Int) == 47) = false := by rw [beq_eq_false_iff_ne]; omega
            have hs : Hid (signV x = 63 ∧ isSign x = false) := ⟨by unfold signV; rw [if_neg (by omega)], by unfold isSign; rw [hv]; simp⟩
            clear hv h4 h5
            go_enter Tryz.func95, Tryz.ntmps95
            go_wp2
            all_goals
              go_ret2
              exact ⟨by rw [hs.out.1, hs.out.2]; rfl, rfl⟩
end Go.Proofs.YtcojkmcnigppbaaGreatDoor
end
section
namespace Go.Proofs.YtcojkmcnigppbaaGreatDoor
open Go Go.Proofs Go.RowKit Oct
theorem six_len (n : Nat) : (six n).length = 6 := rfl
theorem six_step (d t : Nat) (ht : t < 6) : (six d).take (t + 1) = (six d).take t ++ [(d / (32 / 2 ^ t) % 2).toUInt8] := by
  have h : t = 0 ∨ t = 1 ∨ t = 2 ∨ t = 3 ∨ t = 4 ∨ t = 5 := by omega
  rcases h with rfl | rfl | rfl | rfl | rfl | rfl <;> rfl
theorem pow_facts (t : Nat) (ht : t ≤ 6) : 32 / 2 ^ (t + 1) = 32 / 2 ^ t / 2 ∧ (t < 6 → 1 ≤ 32 / 2 ^ t) ∧ 32 / 2 ^ t ≤ 32 ∧ (t = 6 → 32 / 2 ^ t = 0) := by
  have h : t = 0 ∨ t = 1 ∨ t = 2 ∨ t = 3 ∨ t = 4 ∨ t = 5 ∨ t = 6 := by omega
  rcases h with rfl | rfl | rfl | rfl | rfl | rfl | rfl <;> decide
theorem bitsOf_len (l : List UInt8) : (bitsOf l).length = 6 * l.length := by
  induction l with
  | nil => rfl
  | cons c r ih => simp [bitsOf, six_len] at ih ⊢; omega
theorem bitsOf_snoc (l : List UInt8) (c : UInt8) : bitsOf (l ++ [c]) = bitsOf l ++ six (val64 c).toNat := by simp [bitsOf]
theorem accB_lt (b : List UInt8) (hb : ∀ x ∈ b, x.toNat < 2) (i : Nat) : ∀ k, accB b i k < 2 ^ k
  | 0 => by simp [accB]
  | k + 1 => by
    have h1 := accB_lt b hb i k
    have h2 : (b.getD (i + k) 0).toNat < 2 := by
      by_cases h : i + k < b.length
      · have e : b.getD (i + k) 0 = b[i + k] := by simp [List.getD, List.getElem?_eq_getElem h]
        rw [e]
        exact hb _ (List.getElem_mem h)
      · have e : b.getD (i + k) 0 = 0 := by simp [List.getD, List.getElem?_eq_none (show b.length ≤ i + k by omega)]
        rw [e]; decide
    rw [accB, Nat.pow_succ]
    omega
theorem bitsOf_bit (l : List UInt8) : ∀ x ∈ bitsOf l, x.toNat < 2 := by
  intro x hx
  simp only [bitsOf, List.mem_flatMap, six, List.mem_cons, List.mem_nil_iff, or_false] at hx
  obtain ⟨c, _, h⟩ := hx
  have hm : ∀ n : Nat, (n % 2).toUInt8.toNat < 2 := fun n => by rw [nat_byte _ (by omega)]; omega
  rcases h with rfl | rfl | rfl | rfl | rfl | rfl <;> exact hm _
theorem own_below {w w' : World} {B : Nat} {v : Value} {n : Nat} {xs : List Value} (h : w.ownsRow B 5 1 v n xs) (hb : Below w.heap.size w w') : w'.ownsRow B 5 1 v n xs := by
  refine ⟨h.1, ?_⟩
  rcases h.2 with h2 | ⟨g, cap, cur, hv, hg, hh, r⟩
  · exact Or.inl h2
  · exact Or.inr ⟨g, cap, cur, hv, hg, by rw [hb.block g (Array.getElem?_eq_some_iff.1 hh).1]; exact hh, r⟩
theorem owns_cast {w : World} {B : Nat} {v : Value} {n : Nat} {xs ys : List Value} (h : w.ownsRow B 5 1 v n xs) (e : ys = xs) : w.ownsRow B 5 1 v n ys := e ▸ h
set_option maxHeartbeats 4000000 in
set_option maxRecDepth 100000 in
theorem refUnbase64_any (s : ByteArray) (w : World) (hs : s.size ≤ 1099511627776) :
    Calls Tryz.prog 65 #[.string s] w fun e w' => RefEnd (ub64 s.data.toList) w e w' := by
  obtain ⟨i0, hi, hz0, hz1, hz2⟩ := info_parts infoByte
  have hsl : s.data.toList.length = s.size := by simp
  have hoe := owns_empty w
  have hR : Hid (ub64 s.data.toList = if b64 (cand s.data.toList) = s.data.toList then some (cand s.data.toList) else none) := by
    show _ = _
    by_cases h : b64 (cand s.data.toList) = s.data.toList
    · rw [if_pos h, cand_yes _ h]
    · rw [if_neg h, cand_no _ h]
  generalize ub64 s.data.toList = R at *
  obtain ⟨X, hX⟩ : ∃ X, X = cand s.data.toList := ⟨_, rfl⟩
  rw [← hX] at hR
  obtain ⟨L, hL⟩ : ∃ L, L = s.data.toList := ⟨_, rfl⟩
  have hsL := hsl
  rw [← hL] at hR hX hsL
  obtain ⟨V, hV⟩ : ∃ V, V = L.takeWhile isSign := ⟨_, rfl⟩
  have hXV : Hid (X = (List.range ((bitsOf V).length / 8)).map fun j => (accB (bitsOf V) (8 * j) 8).toUInt8) := by
    show _ = _
    rw [hX, cand, hV]
  have HV := hid hV; have HL := hid hL; have HSL := hid hsL
  clear hV hX hL hsl hsL
  go_enter Tryz.func65, Tryz.ntmps65
  go_wp2
  go_loopw [4, 5] (fun v i wr => ∃ (k : Nat), k ≤ s.size ∧ i = .int .i64 k ∧ wr.ownsRow w.heap.size 5 1 v (bitsOf (L.take k)).length (Lib.byteCells (bitsOf (L.take k))) ∧ V = L.take k ++ (L.drop k).takeWhile isSign ∧ Below w.heap.size w wr) (fun _ i _ => s.size - (intOf i).toNat)
  case atStart => exact ⟨0, Nat.zero_le _, rfl, hoe, by rw [HV.out]; rfl, (Below.refl _ _).alloc (Nat.le_refl _) _⟩
  case round =>
    obtain ⟨k, hk, rfl, hown, hVk, hbel⟩ := hrel
    clear hoe
    have hszr := hbel.size
    have HVK := hid hVk
    clear hVk
    by_cases hlt : k < s.size
    · have hkL : k < L.length := by rw [HSL.out]; exact hlt
      obtain ⟨c, hc⟩ : ∃ c, c = L[k] := ⟨_, rfl⟩
      have hdr : Hid (L.drop k = c :: L.drop (k + 1)) := by show _ = _; rw [hc]; exact List.drop_eq_getElem_cons hkL
      have htk : Hid (L.take (k + 1) = L.take k ++ [c]) := by show _ = _; rw [hc]; exact List.take_succ_eq_append_getElem hkL
      have hbl : (bitsOf (L.take k)).length = 6 * k := by rw [bitsOf_len, List.length_take]; omega
      have hsc : ∀ h : k < s.size, s[k] = c := by
        intro h
        rw [hc]
        have := HL.out
        subst this
        rfl
      have HC := hid hsc
      clear hsc hc hkL
      go_wp2_with fail
      rw [HC.out hlt]
      refine (sign_any c wr).mono ?_
      rintro e w' ⟨rfl, rfl⟩
      by_cases hgood : isSign c = true
      · have hv0 : 0 ≤ val64 c := by simpa [isSign] using hgood
        have hvb := val64_bound c
        have hsv : signV c = val64 c := by unfold signV; rw [if_pos hv0]
        obtain ⟨d, hd⟩ : ∃ d, d = (val64 c).toNat := ⟨_, rfl⟩
        have hdv : val64 c = (d : Int) := by omega
        have hd64 : d < 64 := by omega
        have hVn : Hid (V = L.take (k + 1) ++ (L.drop (k + 1)).takeWhile isSign) := by
          show _ = _
          rw [HVK.out, hdr.out, List.takeWhile_cons_of_pos hgood, htk.out]; simp
        have hbn : Hid (bitsOf (L.take (k + 1)) = bitsOf (L.take k) ++ six d) := by show _ = _; rw [htk.out, bitsOf_snoc, ← hd]
        rw [hsv, hdv, hgood]
        generalize bitsOf (L.take k) = bs at *
        rw [hbl] at hown
        clear hv0 hvb hsv hd hdv hgood HVK
        have HBL := hid hbl
        clear hbl
        go_wp2
        go_loopw [4, 8] (fun v b wz => ∃ (t kk : Nat), t ≤ 6 ∧ b = .int .i64 kk ∧ kk = 32 / 2 ^ t ∧ wz.ownsRow w.heap.size 5 1 v (6 * k + t) (Lib.byteCells (bs ++ (six d).take t)) ∧ Below w.heap.size w wz) (fun _ b _ => (intOf b).toNat)
        case atStart => exact ⟨0, 32, by omega, rfl, rfl, by simpa using hown, hbel⟩
        case round =>
          obtain ⟨t, kk, ht, rfl, hkk, hown2, hbel2⟩ := hrel
          obtain ⟨p1, p2, p3, p4⟩ := pow_facts t ht
          rw [← hkk] at p1 p2 p3 p4
          clear hown hbel
          have hsz2 := hbel2.size
          have HKK := hid hkk
          by_cases ht6 : t < 6
          · have hk1 := p2 ht6
            have hst : Hid ((six d).take (t + 1) = (six d).take t ++ [(d / kk % 2).toUInt8]) := by show _ = _; rw [six_step d t ht6, ← hkk]
            obtain ⟨bt, hbt⟩ : ∃ bt, bt = d / kk % 2 := ⟨_, rfl⟩
            have hbt2 : bt < 2 := by omega
            have hdk : (d : Int) / (kk : Int) % 2 = (bt : Int) := by rw [hbt]; simp
            rw [← hbt] at hst
            have HP1 := hid p1
            clear p1 p2 p4 hkk hbt
            have hrd := reads_const wr (bt : Int) bt.toUInt8 (by rw [nat_byte bt (by omega)])
            go_wp2_with (at_builtin; refine wpList_append_any _ rfl (.tmp 33) (.tmp 39) 22 rfl w.heap.size 5 i0 (.int .u8 0) 1 1 Tryz.underlying22 hi hz0 hz1 hz2 rfl (by decide) _ _ _ rfl (hown2.alloc _) (wr.heap.size + 1) _ 1 1 (Lib.byteCells [bt.toUInt8]) rfl hrd (Lib.byteCells_one _) ?c3 ?c4 ?c5 ?_)
            case c3 => unfold maxLen; omega
            case c4 => omega
            case c5 => first | omega | (simp; done) | (simp; omega)
            intro v' w2 hown' hgrow _
            have hbel3 : Below w.heap.size w w2 := (hbel2.alloc hsz2 _).grown hgrow (by simp; omega) (fun k hk => (hown2.lt k hk).1)
            have hown3 : w2.ownsRow w.heap.size 5 1 v' (6 * k + (t + 1)) (Lib.byteCells (bs ++ (six d).take (t + 1))) := by
              rw [hst.out, ← List.append_assoc, Lib.byteCells_append]
              exact hown'
            clear hown' hown2 hgrow hrd hbel2 hdk
            go_wp2
            go_roundw
            case rel => exact ⟨t + 1, kk / 2, by omega, by go_num, by rw [HP1.out], hown3, hbel3⟩
            case measure => simp [intOf]; omega
          · obtain rfl : t = 6 := by omega
            have hkk0 : kk ≤ 0 := by rw [p4 rfl]; exact Nat.le_refl _
            have hown3 : wr.ownsRow w.heap.size 5 1 u4 (bitsOf (L.take (k + 1))).length (Lib.byteCells (bitsOf (L.take (k + 1)))) := by
              have h6 : (six d).take 6 = six d := rfl
              rw [h6] at hown2
              rw [hbn.out, List.length_append, HBL.out]
              exact hown2
            clear hown2 p1 p2 p3 p4 hkk
            go_wp2
            go_roundw
            case rel => exact ⟨k + 1, by omega, by go_num, hown3, hVn.out, hbel2⟩
            case measure => simp [intOf]; omega
      · have hbad : isSign c = false := by simpa using hgood
        have hVe : Hid (V = L.take k) := by
          show _ = _
          rw [HVK.out, hdr.out, List.takeWhile_cons_of_neg (by rw [hbad]; simp), List.append_nil]
        rw [← hVe.out] at hown
        rw [hbad]
        clear hgood hbl hdr htk HVK
        obtain ⟨A4, c4, rfl, _⟩ := own_form_cap hown
        have hrb := Reads.of_own hown
        have hbit := bitsOf_bit V
        have hNb : (bitsOf V).length ≤ 6 * s.size := by
          rw [bitsOf_len, hVe.out, List.length_take]; omega
        have hacl := fun i k => accB_lt (bitsOf V) hbit i k
        generalize bitsOf V = bs at *
        have HACL : Hid (∀ i k, accB bs i k < 2 ^ k) := hacl
        have HBIT : Hid (∀ x ∈ bs, x.toNat < 2) := hbit
        clear hacl hbit
        have hoe2 := owns_empty wr
        clear hown
        go_wp2_with fail
        go_loopw [9, 10] (fun v i wz => ∃ (j i' : Nat), 8 * j ≤ bs.length ∧ i' ≤ 8 * j ∧ 8 * j ≤ i' ∧ i = .int .i64 i' ∧ wz.ownsRow wr.heap.size 5 1 v j (Lib.byteCells ((List.range j).map fun j => (accB bs (8 * j) 8).toUInt8)) ∧ Below wr.heap.size wr wz) (fun _ i _ => bs.length + 8 - (intOf i).toNat)
        case atStart => exact ⟨0, 0, by omega, by omega, by omega, rfl, hoe2, (Below.refl _ _).alloc (Nat.le_refl _) _⟩
        case round =>
          obtain ⟨j, i', hj, hi1, hi2, rfl, hown5, hbel5⟩ := hrel
          clear hoe2
          have hsz5 := hbel5.size
          have hrb5 := hrb.below hbel5
          by_cases hlt2 : i' + 8 ≤ bs.length
          · have hdec : decide ((i' : Int) + 8 ≤ (bs.length : Int)) = true := by simp; omega
            go_wp2_with fail
            clear hdec
            go_loop [11, 12] (fun a b => ∃ k2 : Nat, k2 ≤ 8 ∧ b = .int .i64 k2 ∧ a = .int .u8 (accB bs (8 * j) k2)) (fun _ b => 8 - (intOf b).toNat)
            case atStart => exact ⟨0, by omega, rfl, rfl⟩
            case round =>
              obtain ⟨k2, hk2, rfl, rfl⟩ := hrel
              have hal := HACL.out (8 * j) k2
              by_cases hk8 : k2 < 8
              · have hal2 : accB bs (8 * j) k2 < 128 := Nat.lt_of_lt_of_le hal (by
                  have : 2 ^ k2 ≤ 2 ^ 7 := Nat.pow_le_pow_right (by omega) (by omega)
                  omega)
                have hacc : accB bs (8 * j) (k2 + 1) = 2 * accB bs (8 * j) k2 + (bs.getD (8 * j + k2) 0).toNat := rfl
                have hkx : i' + k2 < bs.length := by omega
                obtain ⟨x, hx⟩ : ∃ x : UInt8, x = bs[i' + k2] := ⟨_, rfl⟩
                have hx2 : x.toNat < 2 := by rw [hx]; exact HBIT.out _ (List.getElem_mem hkx)
                have hgd : bs.getD (8 * j + k2) 0 = x := by
                  rw [show 8 * j + k2 = i' + k2 from by omega]
                  simp [List.getD, List.getElem?_eq_getElem hkx, hx]
                rw [hgd] at hacc
                obtain ⟨ad, u, rfl, hab, hu, hc⟩ := hrb5.at_ hkx
                have hu' : u = .int .u8 x.toNat := by
                  simp [Lib.byteCells, List.getElem?_map, List.getElem?_eq_getElem hkx] at hu
                  rw [hx]; exact hu.symm
                subst hu'
                generalize accB bs (8 * j) k2 = y at *
                have HA := hid hacc
                clear hacc hal hgd hu hx
                go_wp2_with fail
                go_round
                case rel => exact ⟨k2 + 1, by omega, by go_num, by rw [HA.out]; exact int_eq'' (by omega)⟩
                case measure => simp [intOf]; omega
              · obtain rfl : k2 = 8 := by omega
                have hal2 : accB bs (8 * j) 8 < 256 := hal
                have hrange : Hid (((List.range (j + 1)).map fun j => (accB bs (8 * j) 8).toUInt8) = ((List.range j).map fun j => (accB bs (8 * j) 8).toUInt8) ++ [(accB bs (8 * j) 8).toUInt8]) := range_snoc_map _ j
                generalize ((List.range j).map fun j => (accB bs (8 * j) 8).toUInt8) = base at *
                generalize accB bs (8 * j) 8 = y at *
                clear hal
                have hrd := reads_const wr (y : Int) y.toUInt8 (by rw [nat_byte y (by omega)])
                go_wp2_with (at_builtin; refine wpList_append_any _ rfl (.tmp 62) (.tmp 64) 22 rfl _ 5 i0 (.int .u8 0) 1 1 Tryz.underlying22 hi hz0 hz1 hz2 rfl (by decide) _ _ _ rfl (hown5.alloc _) (wr.heap.size + 1) _ 1 1 (Lib.byteCells [y.toUInt8]) rfl hrd (Lib.byteCells_one _) ?c3 ?c4 ?c5 ?_)
                case c3 => unfold maxLen; omega
                case c4 => omega
                case c5 => first | omega | (simp; done) | (simp; omega)
                intro v' w2 hown' hgrow _
                have hbel6 := (hbel5.alloc hsz5 _).grown hgrow (by simp; omega) (fun k hk => (hown5.lt k hk).1)
                have hown6 := owns_cast (ys := Lib.byteCells ((List.range (j + 1)).map fun j => (accB bs (8 * j) 8).toUInt8)) hown' (by rw [hrange.out, Lib.byteCells_append])
                clear hown' hown5 hgrow hrd hbel5
                go_wp2
                go_roundw
                case rel => exact ⟨j + 1, i' + 8, by omega, by omega, by omega, by go_num, hown6, hbel6⟩
                case measure => simp [intOf]; omega
          · have hdec : decide ((i' : Int) + 8 ≤ (bs.length : Int)) = false := by simp; omega
            have hj8 : bs.length / 8 = j := by omega
            have hXX := hXV.out
            rw [hj8] at hXX
            rw [← hXX] at hown5
            have hXl : X.length = j := by rw [hXX]; simp
            have hXb : X.length ≤ 1099511627776 := by omega
            clear hXX hXV HACL HBIT hj8
            obtain ⟨A6, c6, rfl, _⟩ := own_form_cap hown5
            have hr6 := Reads.of_own hown5
            clear hrb hrb5
            go_wp2_with fail
            refine (refBase64_any _ _ _ X wr hr6 (by omega)).mono ?_
            rintro e w' ⟨rfl, hb6⟩
            have hz6 := hb6.size
            have hbel7 := hbel.trans ((hbel5.trans (hb6.mono hsz5)).mono hszr)
            by_cases hc : b64 X = L
            · have hT : (!b64 X == s.toList) = false := by
                rw [Lib.toList_data, ← HL.out]
                simp [hc]
              have hRX := hR.out
              rw [if_pos hc] at hRX
              have HR := hid hRX
              clear hRX hc
              go_wp2
              go_ret2
              exact .inr ⟨X, _, HR.out, rfl, by rw [hXl]; exact owns_more (own_below hown5 hb6) hszr, hbel7⟩
            · have hT : (!b64 X == s.toList) = true := by
                rw [Lib.toList_data, ← HL.out]
                simp [hc]
              have hRX := hR.out
              rw [if_neg hc] at hRX
              have HR := hid hRX
              clear hRX hc
              go_wp2
              go_ret2
              exact .inl ⟨HR.out, _, rfl, owns_more (owns_empty w') hbel7.size, hbel7.alloc hbel7.size _⟩
    · have hVe : Hid (V = L.take k) := by
        show _ = _
        rw [HVK.out, List.drop_of_length_le (by rw [HSL.out]; omega)]; simp
      rw [← hVe.out] at hown
      clear HVK
      obtain ⟨A4, c4, rfl, _⟩ := own_form_cap hown
      have hrb := Reads.of_own hown
      have hbit := bitsOf_bit V
      have hNb : (bitsOf V).length ≤ 6 * s.size := by
        rw [bitsOf_len, hVe.out, List.length_take]; omega
      have hacl := fun i k => accB_lt (bitsOf V) hbit i k
      generalize bitsOf V = bs at *
      have HACL : Hid (∀ i k, accB bs i k < 2 ^ k) := hacl
      have HBIT : Hid (∀ x ∈ bs, x.toNat < 2) := hbit
      clear hacl hbit
      have hoe2 := owns_empty wr
      clear hown
      go_wp2_with fail
      go_loopw [9, 10] (fun v i wz => ∃ (j i' : Nat), 8 * j ≤ bs.length ∧ i' ≤ 8 * j ∧ 8 * j ≤ i' ∧ i = .int .i64 i' ∧ wz.ownsRow wr.heap.size 5 1 v j (Lib.byteCells ((List.range j).map fun j => (accB bs (8 * j) 8).toUInt8)) ∧ Below wr.heap.size wr wz) (fun _ i _ => bs.length + 8 - (intOf i).toNat)
      case atStart => exact ⟨0, 0, by omega, by omega, by omega, rfl, hoe2, (Below.refl _ _).alloc (Nat.le_refl _) _⟩
      case round =>
        obtain ⟨j, i', hj, hi1, hi2, rfl, hown5, hbel5⟩ := hrel
        clear hoe2
        have hsz5 := hbel5.size
        have hrb5 := hrb.below hbel5
        by_cases hlt2 : i' + 8 ≤ bs.length
        · have hdec : decide ((i' : Int) + 8 ≤ (bs.length : Int)) = true := by simp; omega
          go_wp2_with fail
          clear hdec
          go_loop [11, 12] (fun a b => ∃ k2 : Nat, k2 ≤ 8 ∧ b = .int .i64 k2 ∧ a = .int .u8 (accB bs (8 * j) k2)) (fun _ b => 8 - (intOf b).toNat)
          case atStart => exact ⟨0, by omega, rfl, rfl⟩
          case round =>
            obtain ⟨k2, hk2, rfl, rfl⟩ := hrel
            have hal := HACL.out (8 * j) k2
            by_cases hk8 : k2 < 8
            · have hal2 : accB bs (8 * j) k2 < 128 := Nat.lt_of_lt_of_le hal (by
                have : 2 ^ k2 ≤ 2 ^ 7 := Nat.pow_le_pow_right (by omega) (by omega)
                omega)
              have hacc : accB bs (8 * j) (k2 + 1) = 2 * accB bs (8 * j) k2 + (bs.getD (8 * j + k2) 0).toNat := rfl
              have hkx : i' + k2 < bs.length := by omega
              obtain ⟨x, hx⟩ : ∃ x : UInt8, x = bs[i' + k2] := ⟨_, rfl⟩
              have hx2 : x.toNat < 2 := by rw [hx]; exact HBIT.out _ (List.getElem_mem hkx)
              have hgd : bs.getD (8 * j + k2) 0 = x := by
                rw [show 8 * j + k2 = i' + k2 from by omega]
                simp [List.getD, List.getElem?_eq_getElem hkx, hx]
              rw [hgd] at hacc
              obtain ⟨ad, u, rfl, hab, hu, hc⟩ := hrb5.at_ hkx
              have hu' : u = .int .u8 x.toNat := by
                simp [Lib.byteCells, List.getElem?_map, List.getElem?_eq_getElem hkx] at hu
                rw [hx]; exact hu.symm
              subst hu'
              generalize accB bs (8 * j) k2 = y at *
              have HA := hid hacc
              clear hacc hal hgd hu hx
              go_wp2_with fail
              go_round
              case rel => exact ⟨k2 + 1, by omega, by go_num, by rw [HA.out]; exact int_eq'' (by omega)⟩
              case measure => simp [intOf]; omega
            · obtain rfl : k2 = 8 := by omega
              have hal2 : accB bs (8 * j) 8 < 256 := hal
              have hrange : Hid (((List.range (j + 1)).map fun j => (accB bs (8 * j) 8).toUInt8) = ((List.range j).map fun j => (accB bs (8 * j) 8).toUInt8) ++ [(accB bs (8 * j) 8).toUInt8]) := range_snoc_map _ j
              generalize ((List.range j).map fun j => (accB bs (8 * j) 8).toUInt8) = base at *
              generalize accB bs (8 * j) 8 = y at *
              clear hal
              have hrd := reads_const wr (y : Int) y.toUInt8 (by rw [nat_byte y (by omega)])
              go_wp2_with (at_builtin; refine wpList_append_any _ rfl (.tmp 62) (.tmp 64) 22 rfl _ 5 i0 (.int .u8 0) 1 1 Tryz.underlying22 hi hz0 hz1 hz2 rfl (by decide) _ _ _ rfl (hown5.alloc _) (wr.heap.size + 1) _ 1 1 (Lib.byteCells [y.toUInt8]) rfl hrd (Lib.byteCells_one _) ?c3 ?c4 ?c5 ?_)
              case c3 => unfold maxLen; omega
              case c4 => omega
              case c5 => first | omega | (simp; done) | (simp; omega)
              intro v' w2 hown' hgrow _
              have hbel6 := (hbel5.alloc hsz5 _).grown hgrow (by simp; omega) (fun k hk => (hown5.lt k hk).1)
              have hown6 := owns_cast (ys := Lib.byteCells ((List.range (j + 1)).map fun j => (accB bs (8 * j) 8).toUInt8)) hown' (by rw [hrange.out, Lib.byteCells_append])
              clear hown' hown5 hgrow hrd hbel5
              go_wp2
              go_roundw
              case rel => exact ⟨j + 1, i' + 8, by omega, by omega, by omega, by go_num, hown6, hbel6⟩
              case measure => simp [intOf]; omega
        · have hdec : decide ((i' : Int) + 8 ≤ (bs.length : Int)) = false := by simp; omega
          have hj8 : bs.length / 8 = j := by omega
          have hXX := hXV.out
          rw [hj8] at hXX
          rw [← hXX] at hown5
          have hXl : X.length = j := by rw [hXX]; simp
          have hXb : X.length ≤ 1099511627776 := by omega
          clear hXX hXV HACL HBIT hj8
          obtain ⟨A6, c6, rfl, _⟩ := own_form_cap hown5
          have hr6 := Reads.of_own hown5
          clear hrb hrb5
          go_wp2_with fail
          refine (refBase64_any _ _ _ X wr hr6 (by omega)).mono ?_
          rintro e w' ⟨rfl, hb6⟩
          have hz6 := hb6.size
          have hbel7 := hbel.trans ((hbel5.trans (hb6.mono hsz5)).mono hszr)
          by_cases hc : b64 X = L
          · have hT : (!b64 X == s.toList) = false := by
              rw [Lib.toList_data, ← HL.out]
              simp [hc]
            have hRX := hR.out
            rw [if_pos hc] at hRX
            have HR := hid hRX
            clear hRX hc
            go_wp2
            go_ret2
            exact .inr ⟨X, _, HR.out, rfl, by rw [hXl]; exact owns_more (own_below hown5 hb6) hszr, hbel7⟩
          · have hT : (!b64 X == s.toList) = true := by
              rw [Lib.toList_data, ← HL.out]
              simp [hc]
            have hRX := hR.out
            rw [if_neg hc] at hRX
            have HR := hid hRX
            clear hRX hc
            go_wp2
            go_ret2
            exact .inl ⟨HR.out, _, rfl, owns_more (owns_empty w') hbel7.size, hbel7.alloc hbel7.size _⟩
end Go.Proofs.YtcojkmcnigppbaaGreatDoor
end
section
namespace Go.Proofs.YtcojkmcnigppbaaGreatDoor
open Go Go.Proofs Go.RowKit Sx Oct
theorem ret_b {b b' : Bool} (h : b = b') : Ending.returned (.bool b) = .returned (.bool b') := by rw [h]
set_option maxHeartbeats 1000000 in
set_option maxRecDepth 100000 in
theorem blank_any (x : UInt8) (w : World) : Calls Tryz.prog 63 #[.int .u8 x.toNat] w fun e w' => e = .returned (.bool (isBlank x)) ∧ w = w' := by
  have hx := x.toNat_lt
  have e32 : (x == 32) = decide (x.toNat = 32) := by
    rw [Bool.eq_iff_iff, beq_iff_eq, decide_eq_true_eq]
    exact ⟨fun h => by rw [h]; rfl, fun h => UInt8.toNat_inj.1 h⟩
  have hv : Hid (isBlank x = (decide (x.toNat = 32) || (decide (9 ≤ x.toNat) && decide (x.toNat ≤ 13)))) := by show _ = _; unfold isBlank; rw [e32]
  clear e32
  by_cases h1 : x.toNat = 32
  · have h1' : ((x.toNat : Int) == 32) = true := by simpa using (by omega : (x.toNat : Int) = 32)
    go_enter Tryz.func63, Tryz.ntmps63
    go_wp2
    all_goals
      go_ret
      exact ⟨ret_b (by rw [hv.out]; simp [h1] <;> omega), rfl⟩
  · have h1' : ((x.toNat : Int) == 32) = false := by rw [beq_eq_false_iff_ne]; omega
    have h1b : ¬ (x.toNat : Int) = 32 := by omega
    by_cases h2 : 9 ≤ x.toNat
    · by_cases h3 : x.toNat ≤ 13
      · go_enter Tryz.func63, Tryz.ntmps63
        go_wp2
        all_goals
          go_ret
          exact ⟨ret_b (by rw [hv.out]; simp [h1, h2, h3] <;> omega), rfl⟩
      · go_enter Tryz.func63, Tryz.ntmps63
        go_wp2
        all_goals
          go_ret
          exact ⟨ret_b (by rw [hv.out]; simp [h1, h2, h3] <;> omega), rfl⟩
    · go_enter Tryz.func63, Tryz.ntmps63
      go_wp2
      all_goals
        go_ret
        exact ⟨ret_b (by rw [hv.out]; simp [h1, h2] <;> omega), rfl⟩
set_option maxHeartbeats 1000000 in
set_option maxRecDepth 100000 in
theorem number_any (x : UInt8) (w : World) : Calls Tryz.prog 57 #[.int .u8 x.toNat] w fun e w' => e = .returned (.bool (isDig x)) ∧ w = w' := by
  have hx := x.toNat_lt
  have hv : Hid (isDig x = (decide (48 ≤ x.toNat) && decide (x.toNat ≤ 57))) := by show _ = _; unfold isDig; simp
  by_cases h2 : 48 ≤ x.toNat
  · by_cases h3 : x.toNat ≤ 57
    · go_enter Tryz.func57, Tryz.ntmps57
      go_wp2
      all_goals
        go_ret
        exact ⟨ret_b (by rw [hv.out]; simp [h2, h3] <;> omega), rfl⟩
    · go_enter Tryz.func57, Tryz.ntmps57
      go_wp2
      all_goals
        go_ret
        exact ⟨ret_b (by rw [hv.out]; simp [h2, h3] <;> omega), rfl⟩
  · go_enter Tryz.func57, Tryz.ntmps57
    go_wp2
    all_goals
      go_ret
      exact ⟨ret_b (by rw [hv.out]; simp [h2] <;> omega), rfl⟩
set_option maxHeartbeats 1000000 in
set_option maxRecDepth 100000 in
theorem letter_any (x : UInt8) (w : World) : Calls Tryz.prog 90 #[.int .u8 x.toNat] w fun e w' => e = .returned (.bool (isLetter x)) ∧ w = w' := by
  have hx := x.toNat_lt
  have hv : Hid (isLetter x = ((decide (97 ≤ x.toNat) && decide (x.toNat ≤ 122)) || (decide (65 ≤ x.toNat) && decide (x.toNat ≤ 90)))) := by show _ = _; unfold isLetter; rfl
  by_cases h1 : 97 ≤ x.toNat
  · by_cases h2 : x.toNat ≤ 122
    · go_enter Tryz.func90, Tryz.ntmps90
      go_wp2
      all_goals
        go_ret
        exact ⟨ret_b (by rw [hv.out]; simp [h1, h2] <;> omega), rfl⟩
    · have h3 : 65 ≤ x.toNat := by omega
      have h4 : ¬ x.toNat ≤ 90 := by omega
      go_enter Tryz.func90, Tryz.ntmps90
      go_wp2
      all_goals
        go_ret
        exact ⟨ret_b (by rw [hv.out]; simp [h1, h2, h3, h4] <;> omega), rfl⟩
  · by_cases h3 : 65 ≤ x.toNat
    · by_cases h4 : x.toNat ≤ 90
      · go_enter Tryz.func90, Tryz.ntmps90
        go_wp2
        all_goals
          go_ret
          exact ⟨ret_b (by rw [hv.out]; simp [h1, h3, h4] <;> omega), rfl⟩
      · go_enter Tryz.func90, Tryz.ntmps90
        go_wp2
        all_goals
          go_ret
          exact ⟨ret_b (by rw [hv.out]; simp [h1, h3, h4] <;> omega), rfl⟩
    · go_enter Tryz.func90, Tryz.ntmps90
      go_wp2
      all_goals
        go_ret
        exact ⟨ret_b (by rw [hv.out]; simp [h1, h3] <;> omega), rfl⟩
theorem byte_eq (x : UInt8) (k : Nat) (hk : k < 256) : (x == UInt8.ofNat k) = decide (x.toNat = k) := by
  rw [Bool.eq_iff_iff, beq_iff_eq, decide_eq_true_eq]
  constructor
  · intro h
    rw [h]
    simp
    omega
  · intro h
    apply UInt8.toNat_inj.1
    simp
    omega
theorem isTok_nat (x : UInt8) : isTok x = (isLetter x || isDig x || decide (x.toNat = 46) || decide (x.toNat = 47) || decide (x.toNat = 95) || decide (x.toNat = 58) || decide (x.toNat = 42) || decide (x.toNat = 43) || decide (x.toNat = 61) || decide (x.toNat = 45)) := by
  unfold isTok
  rw [show (x == 46) = decide (x.toNat = 46) from byte_eq x 46 (by omega), show (x == 47) = decide (x.toNat = 47) from byte_eq x 47 (by omega), show (x == 95) = decide (x.toNat = 95) from byte_eq x 95 (by omega), show (x == 58) = decide (x.toNat = 58) from byte_eq x 58 (by omega), show (x == 42) = decide (x.toNat = 42) from byte_eq x 42 (by omega), show (x == 43) = decide (x.toNat = 43) from byte_eq x 43 (by omega), show (x == 61) = decide (x.toNat = 61) from byte_eq x 61 (by omega), show (x == 45) = decide (x.toNat = 45) from byte_eq x 45 (by omega)]
set_option maxHeartbeats 2000000 in
set_option maxRecDepth 100000 in
theorem tokSign_any (x : UInt8) (w : World) : Calls Tryz.prog 58 #[.int .u8 x.toNat] w fun e w' => e = .returned (.bool (isTok x)) ∧ w = w' := by
  have hx := x.toNat_lt
  have hv := hid (isTok_nat x)
  have HA := hid (letter_any x w)
  have HB := hid (number_any x w)
  cases hL : isLetter x with
  | true =>
    rw [hL] at HA
    have HL := hid hL
    clear hL
    go_enter Tryz.func58, Tryz.ntmps58
    go_wp2_with ((with_reducible refine HA.out.mono ?_); rintro e w1 ⟨rfl, rfl⟩)
    go_ret
    exact ⟨ret_b (by rw [hv.out, HL.out]; simp), rfl⟩
  | false =>
  rw [hL] at HA
  have HL := hid hL
  clear hL
  cases hD : isDig x with
  | true =>
    rw [hD] at HB
    have HD := hid hD
    clear hD
    go_enter Tryz.func58, Tryz.ntmps58
    go_wp2_with (first
      | ((with_reducible refine HA.out.mono ?_); rintro e w1 ⟨rfl, rfl⟩)
      | ((with_reducible refine HB.out.mono ?_); rintro e w2 ⟨rfl, rfl⟩))
    go_ret
    exact ⟨ret_b (by rw [hv.out, HL.out, HD.out]; simp), rfl⟩
  | false =>
  rw [hD] at HB
  have HD := hid hD
  clear hD
  by_cases q46 : x.toNat = 46
  · have e46 : ((x.toNat : Int) == 46) = true := by simpa using (by omega : (x.toNat : Int) = 46)
    have Q46 := hid q46
    clear q46
    go_enter Tryz.func58, Tryz.ntmps58
    go_wp2_with (first
      | ((with_reducible refine HA.out.mono ?_); rintro e w1 ⟨rfl, rfl⟩)
      | ((with_reducible refine HB.out.mono ?_); rintro e w2 ⟨rfl, rfl⟩))
    go_ret
    exact ⟨ret_b (by rw [hv.out, HL.out, HD.out]; simp [Q46.out]), rfl⟩
  have e46 : ((x.toNat : Int) == 46) = false := by rw [beq_eq_false_iff_ne]; omega
  have i46 : ¬ (x.toNat : Int) = 46 := by omega
  by_cases q47 : x.toNat = 47
  · have e47 : ((x.toNat : Int) == 47) = true := by simpa using (by omega : (x.toNat : Int) = 47)
    have Q47 := hid q47
    clear q47
    go_enter Tryz.func58, Tryz.ntmps58
    go_wp2_with (first
      | ((with_reducible refine HA.out.mono ?_); rintro e w1 ⟨rfl, rfl⟩)
      | ((with_reducible refine HB.out.mono ?_); rintro e w2 ⟨rfl, rfl⟩))
    go_ret
    exact ⟨ret_b (by rw [hv.out, HL.out, HD.out]; simp [q46, Q47.out]), rfl⟩
  have e47 : ((x.toNat : Int) == 47) = false := by rw [beq_eq_false_iff_ne]; omega
  have i47 : ¬ (x.toNat : Int) = 47 := by omega
  by_cases q95 : x.toNat = 95
  · have e95 : ((x.toNat : Int) == 95) = true := by simpa using (by omega : (x.toNat : Int) = 95)
    have Q95 := hid q95
    clear q95
    go_enter Tryz.func58, Tryz.ntmps58
    go_wp2_with (first
      | ((with_reducible refine HA.out.mono ?_); rintro e w1 ⟨rfl, rfl⟩)
      | ((with_reducible refine HB.out.mono ?_); rintro e w2 ⟨rfl, rfl⟩))
    go_ret
    exact ⟨ret_b (by rw [hv.out, HL.out, HD.out]; simp [q46, q47, Q95.out]), rfl⟩
  have e95 : ((x.toNat : Int) == 95) = false := by rw [beq_eq_false_iff_ne]; omega
  have i95 : ¬ (x.toNat : Int) = 95 := by omega
  by_cases q58 : x.toNat = 58
  · have e58 : ((x.toNat : Int) == 58) = true := by simpa using (by omega : (x.toNat : Int) = 58)
    have Q58 := hid q58
    clear q58
    go_enter Tryz.func58, Tryz.ntmps58
    go_wp2_with (first
      | ((with_reducible refine HA.out.mono ?_); rintro e w1 ⟨rfl, rfl⟩)
      | ((with_reducible refine HB.out.mono ?_); rintro e w2 ⟨rfl, rfl⟩))
    go_ret
    exact ⟨ret_b (by rw [hv.out, HL.out, HD.out]; simp [q46, q47, q95, Q58.out]), rfl⟩
  have e58 : ((x.toNat : Int) == 58) = false := by rw [beq_eq_false_iff_ne]; omega
  have i58 : ¬ (x.toNat : Int) = 58 := by omega
  by_cases q42 : x.toNat = 42
  · have e42 : ((x.toNat : Int) == 42) = true := by simpa using (by omega : (x.toNat : Int) = 42)
    have Q42 := hid q42
    clear q42
    go_enter Tryz.func58, Tryz.ntmps58
    go_wp2_with (first
      | ((with_reducible refine HA.out.mono ?_); rintro e w1 ⟨rfl, rfl⟩)
      | ((with_reducible refine HB.out.mono ?_); rintro e w2 ⟨rfl, rfl⟩))
    go_ret
    exact ⟨ret_b (by rw [hv.out, HL.out, HD.out]; simp [q46, q47, q95, q58, Q42.out]), rfl⟩
  have e42 : ((x.toNat : Int) == 42) = false := by rw [beq_eq_false_iff_ne]; omega
  have i42 : ¬ (x.toNat : Int) = 42 := by omega
  by_cases q43 : x.toNat = 43
  · have e43 : ((x.toNat : Int) == 43) = true := by simpa using (by omega : (x.toNat : Int) = 43)
    have Q43 := hid q43
    clear q43
    go_enter Tryz.func58, Tryz.ntmps58
    go_wp2_with (first
      | ((with_reducible refine HA.out.mono ?_); rintro e w1 ⟨rfl, rfl⟩)
      | ((with_reducible refine HB.out.mono ?_); rintro e w2 ⟨rfl, rfl⟩))
    go_ret
    exact ⟨ret_b (by rw [hv.out, HL.out, HD.out]; simp [q46, q47, q95, q58, q42, Q43.out]), rfl⟩
  have e43 : ((x.toNat : Int) == 43) = false := by rw [beq_eq_false_iff_ne]; omega
  have i43 : ¬ (x.toNat : Int) = 43 := by omega
  by_cases q61 : x.toNat = 61
  · have e61 : ((x.toNat : Int) == 61) = true := by simpa using (by omega : (x.toNat : Int) = 61)
    have Q61 := hid q61
    clear q61
    go_enter Tryz.func58, Tryz.ntmps58
    go_wp2_with (first
      | ((with_reducible refine HA.out.mono ?_); rintro e w1 ⟨rfl, rfl⟩)
      | ((with_reducible refine HB.out.mono ?_); rintro e w2 ⟨rfl, rfl⟩))
    go_ret
    exact ⟨ret_b (by rw [hv.out, HL.out, HD.out]; simp [q46, q47, q95, q58, q42, q43, Q61.out]), rfl⟩
  have e61 : ((x.toNat : Int) == 61) = false := by rw [beq_eq_false_iff_ne]; omega
  have i61 : ¬ (x.toNat : Int) = 61 := by omega
  by_cases q45 : x.toNat = 45
  · have e45 : ((x.toNat : Int) == 45) = true := by simpa using (by omega : (x.toNat : Int) = 45)
    have Q45 := hid q45
    clear q45
    go_enter Tryz.func58, Tryz.ntmps58
    go_wp2_with (first
      | ((with_reducible refine HA.out.mono ?_); rintro e w1 ⟨rfl, rfl⟩)
      | ((with_reducible refine HB.out.mono ?_); rintro e w2 ⟨rfl, rfl⟩))
    go_ret
    exact ⟨ret_b (by rw [hv.out, HL.out, HD.out]; simp [q46, q47, q95, q58, q42, q43, q61, Q45.out]), rfl⟩
  have e45 : ((x.toNat : Int) == 45) = false := by rw [beq_eq_false_iff_ne]; omega
  have i45 : ¬ (x.toNat : Int) = 45 := by omega
  go_enter Tryz.func58, Tryz.ntmps58
  go_wp2_with (first
    | ((with_reducible refine HA.out.mono ?_); rintro e w1 ⟨rfl, rfl⟩)
    | ((with_reducible refine HB.out.mono ?_); rintro e w2 ⟨rfl, rfl⟩))
  go_ret
  exact ⟨ret_b (by rw [hv.out, HL.out, HD.out]; simp [q46, q47, q95, q58, q42, q43, q61, q45]), rfl⟩
set_option maxHeartbeats 1000000 in
set_option maxRecDepth 100000 in
theorem refSkip_any (s : ByteArray) (p : Nat) (w : World) (hs : s.size ≤ 1099511627776) (hp : p ≤ s.size) :
    Calls Tryz.prog 38 #[.string s, .int .i64 p] w fun e w' => e = .returned (.int .i64 (s.size - (skip (s.data.toList.drop p)).length : Nat)) ∧ w = w' := by
  have hsl : s.data.toList.length = s.size := by simp
  have HL := hid hsl
  clear hsl
  generalize hg : skip (s.data.toList.drop p) = q
  have HG := hid hg
  clear hg
  go_enter Tryz.func38, Tryz.ntmps38
  go_wp2_with fail
  go_loopw [1] (fun i wr => ∃ j : Nat, j ≤ s.size ∧ i = .int .i64 j ∧ Hid (skip (s.data.toList.drop j) = q) ∧ w = wr) (fun i _ => s.size - (intOf i).toNat)
  case atStart => exact ⟨p, hp, rfl, HG.out, rfl⟩
  case round =>
    obtain ⟨j, hj, rfl, hq, rfl⟩ := hrel
    by_cases hlt : j < s.size
    · have hlt' : (j : Int) < s.size := by omega
      have hdc : s.data.toList.drop j = s[j] :: s.data.toList.drop (j + 1) := List.drop_eq_getElem_cons (by rw [HL.out]; exact hlt)
      have hq' := hq.out
      rw [hdc] at hq'
      have HQ := hid hq'
      have HDL := hid (congrArg List.length hdc)
      clear hq' hdc
      go_wp2_with fail
      generalize hx : s[j] = x at *
      refine (blank_any x w).mono ?_
      rintro e w' ⟨rfl, rfl⟩
      cases hb : isBlank x with
      | true =>
        have HN : Hid (skip (s.data.toList.drop (j + 1)) = q) := by
          show _ = _
          have := HQ.out
          unfold skip at this ⊢
          rw [List.dropWhile_cons, if_pos hb] at this
          exact this
        clear hb
        go_wp2_with fail
        exact ⟨⟨j + 1, by omega, by go_num, HN.out, trivial⟩, by simp [intOf]; omega⟩
      | false =>
        have HN : Hid ((s.size - q.length : Nat) = j) := by
          show _ = _
          have h1 := HQ.out
          unfold skip at h1
          rw [List.dropWhile_cons, if_neg (by rw [hb]; simp)] at h1
          have h2 := HDL.out
          rw [h1, List.length_drop, HL.out] at h2
          omega
        clear hb
        go_wp2_with fail
        go_ret
        exact ⟨by rw [HN.out]; rfl, rfl⟩
    · obtain rfl : j = s.size := by omega
      have HN : Hid ((s.size - q.length : Nat) = s.size) := by
        show _ = _
        have h1 := hq.out
        rw [List.drop_eq_nil_of_le (by rw [HL.out]; exact Nat.le_refl _)] at h1
        rw [← h1]
        simp [skip]
      go_wp2_with fail
      go_ret
      exact ⟨by rw [HN.out]; rfl, rfl⟩
end Go.Proofs.YtcojkmcnigppbaaGreatDoor
end
section
namespace Sx
open Go Oct
def addS (L : List UInt8) (x : Res (List UInt8)) : Res (List UInt8) := match x with
  | .err e q => .err e q
  | .ok l q => .ok (L ++ l) q
theorem addS_nil (x : Res (List UInt8)) : addS [] x = x := by cases x <;> rfl
theorem blank_range {c : UInt8} (h : isBlank c = true) : c.toNat ≤ 32 := by
  unfold isBlank at h
  rw [Bool.or_eq_true, beq_iff_eq, Bool.and_eq_true, decide_eq_true_eq, decide_eq_true_eq] at h
  rcases h with h | h
  · rw [h]; decide
  · omega
theorem blank_hex {c : UInt8} (h : isBlank c = true) : isHexS c = false := by
  have := blank_range h
  unfold isHexS hexV
  rw [if_neg (by omega), if_neg (by omega), if_neg (by omega)]
  rfl
theorem aSome_add_good {may : UInt8 → Bool} {stop c : UInt8} {r L : List UInt8} {X : Res (List UInt8)} (h : X = addS L (aSome may stop (c :: r))) (h1 : c ≠ stop) (h2 : isBlank c = false) (h3 : may c = true) : X = addS (L ++ [c]) (aSome may stop r) := by
  rw [h, aSome, if_neg h1, if_neg (by rw [h2]; simp), if_neg (by rw [h3]; simp)]
  cases aSome may stop r with
  | err e q => rfl
  | ok l q => simp [addS]
theorem aSome_add_blank {may : UInt8 → Bool} {stop c : UInt8} {r L : List UInt8} {X : Res (List UInt8)} (h : X = addS L (aSome may stop (c :: r))) (h1 : c ≠ stop) (h2 : isBlank c = true) : X = addS L (aSome may stop r) := by
  rw [h, aSome, if_neg h1, if_pos h2]
theorem aSome_add_bad {may : UInt8 → Bool} {stop c : UInt8} {r L : List UInt8} {X : Res (List UInt8)} (h : X = addS L (aSome may stop (c :: r))) (h1 : c ≠ stop) (h2 : isBlank c = false) (h3 : may c = false) : X = .err 3 (c :: r) := by
  rw [h, aSome, if_neg h1, if_neg (by rw [h2]; simp), if_pos h3]
  rfl
theorem aSome_add_stop {may : UInt8 → Bool} {stop : UInt8} {r L : List UInt8} {X : Res (List UInt8)} (h : X = addS L (aSome may stop (stop :: r))) : X = .ok L (stop :: r) := by
  rw [h, aSome, if_pos rfl]
  simp [addS]
theorem aSome_add_end {may : UInt8 → Bool} {stop : UInt8} {L : List UInt8} {X : Res (List UInt8)} (h : X = addS L (aSome may stop [])) : X = .err 2 [] := h
end Sx
namespace Go.Proofs.YtcojkmcnigppbaaGreatDoor
open Go Go.Proofs Go.RowKit Sx Oct
def SomeEnd (n : Nat) (w : World) (e : Ending) (w' : World) (x : Res (List UInt8)) : Prop :=
  Below w.heap.size w w' ∧ match x with
  | .err k q => e = .returned (.tuple #[.string ⟨#[]⟩, .agg #[.slice none 0 0, .int .i64 (n - q.length : Nat), .int .i64 k]])
  | .ok l q => e = .returned (.tuple #[.string ⟨l.toArray⟩, .agg #[.slice none 0 0, .int .i64 (n - q.length : Nat), .int .i64 0]])
theorem box3b {w : World} {b : Nat} {v0 v1 v2 : Value} {T : TypeId} (h : w.heap[b]? = some (Obj.cells #[v0, v1, v2] T (0, 0))) :
    (w.cell? ⟨b, 0, none⟩ = some v0 ∧ w.cell? ⟨b, 1, none⟩ = some v1 ∧ w.cell? ⟨b, 2, none⟩ = some v2) ∧ ∀ i, w.frozen? ⟨b, i, none⟩ = false :=
  ⟨by refine ⟨?_, ?_, ?_⟩ <;> (rw [Lib.cell_of_heap h]; rfl), fun i => by simp [World.frozen?, h]⟩
def put3 (w : World) (b : Nat) (x0 x1 x2 : Value) : World := ((w.setCell ⟨b, 0, none⟩ x0).setCell ⟨b, 1, none⟩ x1).setCell ⟨b, 2, none⟩ x2
theorem put3_below {w w' : World} {b B : Nat} (h : Below B w w') (hb : B ≤ b) (x0 x1 x2 : Value) : Below B w (put3 w' b x0 x1 x2) :=
  ((h.setCell (p := ⟨b, 0, none⟩) hb x0).setCell (p := ⟨b, 1, none⟩) hb x1).setCell (p := ⟨b, 2, none⟩) hb x2
set_option maxHeartbeats 2000000 in
set_option maxRecDepth 100000 in
theorem someHex_any (s : ByteArray) (p : Nat) (w : World) (hs : s.size ≤ 1099511627776) (hp : p ≤ s.size) :
    Calls Tryz.prog 64 #[.string s, .int .i64 p, .int .i64 16, .int .u8 35] w fun e w' => SomeEnd s.size w e w' (aSome isHexS 35 (s.data.toList.drop p)) := by
  obtain ⟨i0, hi, hz0, hz1, hz2⟩ := info_parts infoByte
  have hsl : s.data.toList.length = s.size := by simp
  have HL := hid hsl
  clear hsl
  generalize hg : aSome isHexS 35 (s.data.toList.drop p) = X
  have HG : Hid (X = addS [] (aSome isHexS 35 (s.data.toList.drop p))) := by
    show _ = _
    rw [addS_nil, hg]
  clear hg
  go_enter Tryz.func64, Tryz.ntmps64
  have hb1 := below_new w (.cells #[.slice none 0 0, .int .i64 0, .int .i64 0] 59)
  have hb2 := below_new (w.alloc (.cells #[.slice none 0 0, .int .i64 0, .int .i64 0] 59)) (.cells #[] 5)
  have hb0 := hb1.trans (hb2.mono hb1.size)
  have hB0 := hid (below_at hb2 (heap_alloc_new w (.cells #[.slice none 0 0, .int .i64 0, .int .i64 0] 59)))
  have hz1' : (w.alloc (.cells #[.slice none 0 0, .int .i64 0, .int .i64 0] 59)).heap.size = w.heap.size + 1 := by simp
  have hoe := owns_empty (w.alloc (.cells #[.slice none 0 0, .int .i64 0, .int .i64 0] 59))
  rw [hz1'] at hoe
  have hsz0 : w.heap.size + 1 ≤ ((w.alloc (.cells #[.slice none 0 0, .int .i64 0, .int .i64 0] 59)).alloc (.cells #[] 5)).heap.size := by simp
  clear hb1 hb2 hz1'
  go_wp2_with fail
  generalize ((w.alloc (.cells #[.slice none 0 0, .int .i64 0, .int .i64 0] 59)).alloc (.cells #[] 5)) = W at *
  go_loopw [1, 10] (fun i v wr => ∃ (j : Nat) (L : List UInt8), j ≤ s.size ∧ i = .int .i64 j ∧ L.length ≤ j ∧ wr.ownsRow (w.heap.size + 1) 5 1 v L.length (Lib.byteCells L) ∧ Below w.heap.size w wr ∧
    Hid (wr.heap[w.heap.size]? = some (Obj.cells #[.slice none 0 0, .int .i64 0, .int .i64 0] 59 (0, 0))) ∧ w.heap.size + 1 ≤ wr.heap.size ∧ Hid (X = addS L (aSome isHexS 35 (s.data.toList.drop j)))) (fun i _ _ => s.size - (intOf i).toNat)
  case atStart => exact ⟨p, [], hp, rfl, Nat.zero_le _, hoe, hb0, hB0.out, hsz0, HG.out⟩
  case round =>
    obtain ⟨j, L, hj, rfl, hLj, hown, hbel, hB, hszr, hX⟩ := hrel
    clear hoe hb0 hB0 HG hsz0
    by_cases hlt : j < s.size
    · have hlt' : (j : Int) < s.size := by omega
      have hdc : s.data.toList.drop j = s[j] :: s.data.toList.drop (j + 1) := List.drop_eq_getElem_cons (by rw [HL.out]; exact hlt)
      obtain ⟨x, hsx⟩ : ∃ x, s[j] = x := ⟨_, rfl⟩
      rw [hsx] at hdc
      have hX' := hX.out
      rw [hdc] at hX'
      have HX' := hid hX'
      have HDL := hid (congrArg List.length hdc)
      have hpl : ((s.size - (x :: s.data.toList.drop (j + 1)).length : Nat) : Int) = j := by
        rw [← HDL.out, List.length_drop, HL.out]
        omega
      have HP := hid hpl
      clear hX' hdc hX hpl
      by_cases h35 : x = 35
      · subst h35
        have HXX := hid (aSome_add_stop HX'.out)
        obtain ⟨A3, c3, hv, hc3, hri⟩ := RIn.of_own hown
        subst hv
        have kb := run_back (hri.reads (by omega)) (c := c3)
        clear hri hown HDL
        obtain ⟨⟨d0, d1, d2⟩, dz⟩ := box3b hB.out
        have dz0 := dz 0
        have dz1 := dz 1
        have dz2 := dz 2
        have HF := hid (put3_below hbel (Nat.le_refl _) (.slice none 0 0) (.int .i64 j) (.int .i64 0))
        clear dz
        go_wp2_with fail
        refine bodyPost_ret (v := .tuple #[.string ⟨L.toArray⟩, .agg #[.slice none 0 0, .int .i64 j, .int .i64 0]]) (by simp [results, Tryz.results64, go_sem, d0, d1, d2]) rfl ?_
        rw [HXX.out]
        exact ⟨HF.out, by show Ending.returned _ = Ending.returned _; rw [HP.out]; first | done | rfl⟩
      · have h35' : ¬ (x.toNat : Int) = 35 := fun e => h35 (UInt8.toNat_inj.1 (by show x.toNat = 35; omega))
        have e35 : ((x.toNat : Int) == 35) = false := by
          rw [beq_eq_false_iff_ne]
          intro e
          exact h35 (UInt8.toNat_inj.1 (by show x.toNat = 35; omega))
        have CV := hid (value_any x wr)
        have CB := hid (blank_any x wr)
        cases hh : isHexS x with
        | true =>
          have hv0 : decide (0 ≤ hexV x) = true := hh
          rw [hv0] at CV
          have hnb : isBlank x = false := by
            cases hbk : isBlank x with
            | false => rfl
            | true => rw [blank_hex hbk] at hh; cases hh
          have HN := hid (aSome_add_good HX'.out h35 hnb hh)
          have hrd := reads_one wr x (0, 0)
          clear hv0 hh hnb HDL
          go_wp2_with (first
            | ((with_reducible refine CV.out.mono ?_); rintro e w1 ⟨rfl, rfl⟩)
            | (at_builtin; refine wpList_append_any _ rfl (.tmp 74) (.tmp 76) 22 rfl (w.heap.size + 1) 5 i0 (.int .u8 0) 1 1 Tryz.underlying22 hi hz0 hz1 hz2 rfl (by decide) _ _ _ rfl (hown.alloc _) (wr.heap.size + 1) _ 1 1 (Lib.byteCells [x]) rfl hrd (Lib.byteCells_one _) (by unfold maxLen; omega) (by omega) (by simp; omega) ?_))
          intro v' w2 hown' hgrow _
          have hbx := below_new wr (.cells #[.int .u8 x.toNat] 5)
          have hbel2 : Below w.heap.size w w2 := (hbel.trans (hbx.mono hbel.size)).grown hgrow (by have := hbel.size; simp; omega) (fun k hk => by have := (hown.lt k hk).1; omega)
          have hB2 := hid ((hgrow.block w.heap.size (by simp; omega) (fun e => by have := (hown.lt _ e.symm).1; omega)).trans (below_at hbx hB.out))
          have hown2 : w2.ownsRow (w.heap.size + 1) 5 1 v' (L ++ [x]).length (Lib.byteCells (L ++ [x])) := by
            rw [Lib.byteCells_append, List.length_append]
            exact hown'
          have hz2' := hgrow.size
          simp at hz2'
          clear hown' hgrow hown hbel hB hbx hrd
          go_wp2_with fail
          exact ⟨⟨j + 1, L ++ [x], by omega, by go_num, by simp; omega, hown2, hbel2, hB2.out, by omega, HN.out⟩, by simp [intOf]; omega⟩
        | false =>
          have hv0 : decide (0 ≤ hexV x) = false := hh
          rw [hv0] at CV
          have HV0 := hid hh
          clear hv0 hh
          cases hbk : isBlank x with
          | true =>
            rw [hbk] at CB
            have HN := hid (aSome_add_blank HX'.out h35 hbk)
            clear hbk
            go_wp2_with (first
              | ((with_reducible refine CV.out.mono ?_); rintro e w1 ⟨rfl, rfl⟩)
              | ((with_reducible refine CB.out.mono ?_); rintro e w2 ⟨rfl, rfl⟩))
            exact ⟨⟨j + 1, L, by omega, by go_num, by omega, hown, hbel, hB.out, hszr, HN.out⟩, by simp [intOf]; omega⟩
          | false =>
            rw [hbk] at CB
            have HXX := hid (aSome_add_bad HX'.out h35 hbk HV0.out)
            clear hbk hown HDL
            obtain ⟨⟨d0, d1, d2⟩, dz⟩ := box3b hB.out
            have dz0 := dz 0
            have dz1 := dz 1
            have dz2 := dz 2
            have HF := hid (put3_below hbel (Nat.le_refl _) (.slice none 0 0) (.int .i64 j) (.int .i64 3))
            clear dz
            go_wp2_with (first
              | ((with_reducible refine CV.out.mono ?_); rintro e w1 ⟨rfl, rfl⟩)
              | ((with_reducible refine CB.out.mono ?_); rintro e w2 ⟨rfl, rfl⟩))
            refine bodyPost_ret (v := .tuple #[.string ⟨#[]⟩, .agg #[.slice none 0 0, .int .i64 j, .int .i64 3]]) (by simp [results, Tryz.results64, go_sem, d0, d1, d2]) rfl ?_
            rw [HXX.out]
            exact ⟨HF.out, by show Ending.returned _ = Ending.returned _; rw [HP.out]; first | done | rfl⟩
    · obtain rfl : j = s.size := by omega
      have hX' := hX.out
      rw [List.drop_eq_nil_of_le (by rw [HL.out]; exact Nat.le_refl _)] at hX'
      have HXX := hid (aSome_add_end hX')
      have HP : Hid (((s.size - ([] : List UInt8).length : Nat) : Int) = s.size) := by show _ = _; simp
      clear hX hX' hown
      obtain ⟨⟨d0, d1, d2⟩, dz⟩ := box3b hB.out
      have dz0 := dz 0
      have dz1 := dz 1
      have dz2 := dz 2
      have HF := hid (put3_below hbel (Nat.le_refl _) (.slice none 0 0) (.int .i64 s.size) (.int .i64 2))
      clear dz
      go_wp2_with fail
      refine bodyPost_ret (v := .tuple #[.string ⟨#[]⟩, .agg #[.slice none 0 0, .int .i64 s.size, .int .i64 2]]) (by simp [results, Tryz.results64, go_sem, d0, d1, d2]) rfl ?_
      rw [HXX.out]
      exact ⟨HF.out, by show Ending.returned _ = Ending.returned _; rw [HP.out]; first | done | rfl⟩
end Go.Proofs.YtcojkmcnigppbaaGreatDoor
end
section
namespace Go.Proofs.YtcojkmcnigppbaaGreatDoor
open Go Go.Proofs Go.RowKit Sx Oct
theorem isB64S_nat (x : UInt8) : isB64S x = (isLetter x || isDig x || decide (x.toNat = 43) || decide (x.toNat = 47) || decide (x.toNat = 61)) := by
  unfold isB64S
  rw [show (x == 43) = decide (x.toNat = 43) from byte_eq x 43 (by omega), show (x == 47) = decide (x.toNat = 47) from byte_eq x 47 (by omega), show (x == 61) = decide (x.toNat = 61) from byte_eq x 61 (by omega)]
theorem blank_b64 {c : UInt8} (h : isBlank c = true) : isB64S c = false := by
  have := blank_range h
  rw [isB64S_nat]
  unfold isLetter isDig
  simp
  omega
set_option maxHeartbeats 4000000 in
set_option maxRecDepth 100000 in
theorem some64_any (s : ByteArray) (stop : UInt8) (p : Nat) (w : World) (hs : s.size ≤ 1099511627776) (hp : p ≤ s.size) :
    Calls Tryz.prog 64 #[.string s, .int .i64 p, .int .i64 64, .int .u8 stop.toNat] w fun e w' => SomeEnd s.size w e w' (aSome isB64S stop (s.data.toList.drop p)) := by
  obtain ⟨i0, hi, hz0, hz1, hz2⟩ := info_parts infoByte
  have hsl : s.data.toList.length = s.size := by simp
  have HL := hid hsl
  clear hsl
  generalize hg : aSome isB64S stop (s.data.toList.drop p) = X
  have HG : Hid (X = addS [] (aSome isB64S stop (s.data.toList.drop p))) := by
    show _ = _
    rw [addS_nil, hg]
  clear hg
  go_enter Tryz.func64, Tryz.ntmps64
  have hb1 := below_new w (.cells #[.slice none 0 0, .int .i64 0, .int .i64 0] 59)
  have hb2 := below_new (w.alloc (.cells #[.slice none 0 0, .int .i64 0, .int .i64 0] 59)) (.cells #[] 5)
  have hb0 := hb1.trans (hb2.mono hb1.size)
  have hB0 := hid (below_at hb2 (heap_alloc_new w (.cells #[.slice none 0 0, .int .i64 0, .int .i64 0] 59)))
  have hz1' : (w.alloc (.cells #[.slice none 0 0, .int .i64 0, .int .i64 0] 59)).heap.size = w.heap.size + 1 := by simp
  have hoe := owns_empty (w.alloc (.cells #[.slice none 0 0, .int .i64 0, .int .i64 0] 59))
  rw [hz1'] at hoe
  have hsz0 : w.heap.size + 1 ≤ ((w.alloc (.cells #[.slice none 0 0, .int .i64 0, .int .i64 0] 59)).alloc (.cells #[] 5)).heap.size := by simp
  clear hb1 hb2 hz1'
  go_wp2_with fail
  generalize ((w.alloc (.cells #[.slice none 0 0, .int .i64 0, .int .i64 0] 59)).alloc (.cells #[] 5)) = W at *
  go_loopw [1, 10] (fun i v wr => ∃ (j : Nat) (L : List UInt8), j ≤ s.size ∧ i = .int .i64 j ∧ L.length ≤ j ∧ wr.ownsRow (w.heap.size + 1) 5 1 v L.length (Lib.byteCells L) ∧ Below w.heap.size w wr ∧
    Hid (wr.heap[w.heap.size]? = some (Obj.cells #[.slice none 0 0, .int .i64 0, .int .i64 0] 59 (0, 0))) ∧ w.heap.size + 1 ≤ wr.heap.size ∧ Hid (X = addS L (aSome isB64S stop (s.data.toList.drop j)))) (fun i _ _ => s.size - (intOf i).toNat)
  case atStart => exact ⟨p, [], hp, rfl, Nat.zero_le _, hoe, hb0, hB0.out, hsz0, HG.out⟩
  case round =>
    obtain ⟨j, L, hj, rfl, hLj, hown, hbel, hB, hszr, hX⟩ := hrel
    clear hoe hb0 hB0 HG hsz0
    by_cases hlt : j < s.size
    · have hlt' : (j : Int) < s.size := by omega
      have hdc : s.data.toList.drop j = s[j] :: s.data.toList.drop (j + 1) := List.drop_eq_getElem_cons (by rw [HL.out]; exact hlt)
      obtain ⟨x, hsx⟩ : ∃ x, s[j] = x := ⟨_, rfl⟩
      rw [hsx] at hdc
      have hX' := hX.out
      rw [hdc] at hX'
      have HX' := hid hX'
      have HDL := hid (congrArg List.length hdc)
      have hpl : ((s.size - (x :: s.data.toList.drop (j + 1)).length : Nat) : Int) = j := by
        rw [← HDL.out, List.length_drop, HL.out]
        omega
      have HP := hid hpl
      clear hX' hdc hX hpl
      by_cases h35 : x = stop
      · have e35 : ((x.toNat : Int) == (stop.toNat : Int)) = true := by rw [h35]; simp
        rw [h35] at HX' HP
        have HXX := hid (aSome_add_stop HX'.out)
        obtain ⟨A3, c3, hv, hc3, hri⟩ := RIn.of_own hown
        subst hv
        have kb := run_back (hri.reads (by omega)) (c := c3)
        clear hri hown HDL
        obtain ⟨⟨d0, d1, d2⟩, dz⟩ := box3b hB.out
        have dz0 := dz 0
        have dz1 := dz 1
        have dz2 := dz 2
        have HF := hid (put3_below hbel (Nat.le_refl _) (.slice none 0 0) (.int .i64 j) (.int .i64 0))
        clear dz
        go_wp2_with fail
        refine bodyPost_ret (v := .tuple #[.string ⟨L.toArray⟩, .agg #[.slice none 0 0, .int .i64 j, .int .i64 0]]) (by simp [results, Tryz.results64, go_sem, d0, d1, d2]) rfl ?_
        rw [HXX.out]
        exact ⟨HF.out, by show Ending.returned _ = Ending.returned _; rw [HP.out]; first | done | rfl⟩
      · have h35' : ¬ (x.toNat : Int) = (stop.toNat : Int) := fun e => h35 (UInt8.toNat_inj.1 (by omega))
        have e35 : ((x.toNat : Int) == (stop.toNat : Int)) = false := by
          rw [beq_eq_false_iff_ne]
          exact h35'
        have H35 := hid h35
        clear h35
        have CV := hid (value_any x wr)
        have CB := hid (blank_any x wr)
        have CL := hid (letter_any x wr)
        have CN := hid (number_any x wr)
        generalize decide (0 ≤ hexV x) = hexb at CV
        have hbs := hid (isB64S_nat x)
        cases hL : isLetter x with
        | true =>
          have hh : isB64S x = true := by rw [hbs.out, hL]; simp
          rw [hL] at CL
          clear hL
          have hnb : isBlank x = false := by
            cases hbk : isBlank x with
            | false => rfl
            | true => rw [blank_b64 hbk] at hh; cases hh
          have HN := hid (aSome_add_good HX'.out H35.out hnb hh)
          have hrd := reads_one wr x (0, 0)
          clear hh hnb HDL
          go_wp2_with (first
            | ((with_reducible refine CV.out.mono ?_); rintro e w1 ⟨rfl, rfl⟩)
            | ((with_reducible refine CL.out.mono ?_); rintro e w3 ⟨rfl, rfl⟩)
            | (at_builtin; refine wpList_append_any _ rfl (.tmp 74) (.tmp 76) 22 rfl (w.heap.size + 1) 5 i0 (.int .u8 0) 1 1 Tryz.underlying22 hi hz0 hz1 hz2 rfl (by decide) _ _ _ rfl (hown.alloc _) (wr.heap.size + 1) _ 1 1 (Lib.byteCells [x]) rfl hrd (Lib.byteCells_one _) (by unfold maxLen; omega) (by omega) (by simp; omega) ?_))
          intro v' w2 hown' hgrow _
          have hbx := below_new wr (.cells #[.int .u8 x.toNat] 5)
          have hbel2 : Below w.heap.size w w2 := (hbel.trans (hbx.mono hbel.size)).grown hgrow (by have := hbel.size; simp; omega) (fun k hk => by have := (hown.lt k hk).1; omega)
          have hB2 := hid ((hgrow.block w.heap.size (by simp; omega) (fun e => by have := (hown.lt _ e.symm).1; omega)).trans (below_at hbx hB.out))
          have hown2 : w2.ownsRow (w.heap.size + 1) 5 1 v' (L ++ [x]).length (Lib.byteCells (L ++ [x])) := by
            rw [Lib.byteCells_append, List.length_append]
            exact hown'
          have hz2' := hgrow.size
          simp at hz2'
          clear hown' hgrow hown hbel hB hbx hrd
          go_wp2_with fail
          exact ⟨⟨j + 1, L ++ [x], by omega, by go_num, by simp; omega, hown2, hbel2, hB2.out, by omega, HN.out⟩, by simp [intOf]; omega⟩
        | false =>
        rw [hL] at CL
        have HLL := hid hL
        clear hL
        cases hD : isDig x with
        | true =>
          have hh : isB64S x = true := by rw [hbs.out, hD]; simp
          rw [hD] at CN
          clear hD
          have hnb : isBlank x = false := by
            cases hbk : isBlank x with
            | false => rfl
            | true => rw [blank_b64 hbk] at hh; cases hh
          have HN := hid (aSome_add_good HX'.out H35.out hnb hh)
          have hrd := reads_one wr x (0, 0)
          clear hh hnb HDL
          go_wp2_with (first
            | ((with_reducible refine CV.out.mono ?_); rintro e w1 ⟨rfl, rfl⟩)
            | ((with_reducible refine CL.out.mono ?_); rintro e w3 ⟨rfl, rfl⟩)
            | ((with_reducible refine CN.out.mono ?_); rintro e w4 ⟨rfl, rfl⟩)
            | (at_builtin; refine wpList_append_any _ rfl (.tmp 74) (.tmp 76) 22 rfl (w.heap.size + 1) 5 i0 (.int .u8 0) 1 1 Tryz.underlying22 hi hz0 hz1 hz2 rfl (by decide) _ _ _ rfl (hown.alloc _) (wr.heap.size + 1) _ 1 1 (Lib.byteCells [x]) rfl hrd (Lib.byteCells_one _) (by unfold maxLen; omega) (by omega) (by simp; omega) ?_))
          intro v' w2 hown' hgrow _
          have hbx := below_new wr (.cells #[.int .u8 x.toNat] 5)
          have hbel2 : Below w.heap.size w w2 := (hbel.trans (hbx.mono hbel.size)).grown hgrow (by have := hbel.size; simp; omega) (fun k hk => by have := (hown.lt k hk).1; omega)
          have hB2 := hid ((hgrow.block w.heap.size (by simp; omega) (fun e => by have := (hown.lt _ e.symm).1; omega)).trans (below_at hbx hB.out))
          have hown2 : w2.ownsRow (w.heap.size + 1) 5 1 v' (L ++ [x]).length (Lib.byteCells (L ++ [x])) := by
            rw [Lib.byteCells_append, List.length_append]
            exact hown'
          have hz2' := hgrow.size
          simp at hz2'
          clear hown' hgrow hown hbel hB hbx hrd
          go_wp2_with fail
          exact ⟨⟨j + 1, L ++ [x], by omega, by go_num, by simp; omega, hown2, hbel2, hB2.out, by omega, HN.out⟩, by simp [intOf]; omega⟩
        | false =>
        rw [hD] at CN
        have HDD := hid hD
        clear hD
        by_cases q43 : x.toNat = 43
        · have hh : isB64S x = true := by rw [hbs.out, q43]; simp
          have e43 : ((x.toNat : Int) == 43) = true := by simpa using (by omega : (x.toNat : Int) = 43)
          have Q43 := hid q43
          clear q43
          have hnb : isBlank x = false := by
            cases hbk : isBlank x with
            | false => rfl
            | true => rw [blank_b64 hbk] at hh; cases hh
          have HN := hid (aSome_add_good HX'.out H35.out hnb hh)
          have hrd := reads_one wr x (0, 0)
          clear hh hnb HDL
          go_wp2_with (first
            | ((with_reducible refine CV.out.mono ?_); rintro e w1 ⟨rfl, rfl⟩)
            | ((with_reducible refine CL.out.mono ?_); rintro e w3 ⟨rfl, rfl⟩)
            | ((with_reducible refine CN.out.mono ?_); rintro e w4 ⟨rfl, rfl⟩)
            | (at_builtin; refine wpList_append_any _ rfl (.tmp 74) (.tmp 76) 22 rfl (w.heap.size + 1) 5 i0 (.int .u8 0) 1 1 Tryz.underlying22 hi hz0 hz1 hz2 rfl (by decide) _ _ _ rfl (hown.alloc _) (wr.heap.size + 1) _ 1 1 (Lib.byteCells [x]) rfl hrd (Lib.byteCells_one _) (by unfold maxLen; omega) (by omega) (by simp; omega) ?_))
          intro v' w2 hown' hgrow _
          have hbx := below_new wr (.cells #[.int .u8 x.toNat] 5)
          have hbel2 : Below w.heap.size w w2 := (hbel.trans (hbx.mono hbel.size)).grown hgrow (by have := hbel.size; simp; omega) (fun k hk => by have := (hown.lt k hk).1; omega)
          have hB2 := hid ((hgrow.block w.heap.size (by simp; omega) (fun e => by have := (hown.lt _ e.symm).1; omega)).trans (below_at hbx hB.out))
          have hown2 : w2.ownsRow (w.heap.size + 1) 5 1 v' (L ++ [x]).length (Lib.byteCells (L ++ [x])) := by
            rw [Lib.byteCells_append, List.length_append]
            exact hown'
          have hz2' := hgrow.size
          simp at hz2'
          clear hown' hgrow hown hbel hB hbx hrd
          go_wp2_with fail
          exact ⟨⟨j + 1, L ++ [x], by omega, by go_num, by simp; omega, hown2, hbel2, hB2.out, by omega, HN.out⟩, by simp [intOf]; omega⟩
        have e43 : ((x.toNat : Int) == 43) = false := by rw [beq_eq_false_iff_ne]; omega
        have i43 : ¬ (x.toNat : Int) = 43 := by omega
        by_cases q47 : x.toNat = 47
        · have hh : isB64S x = true := by rw [hbs.out, q47]; simp
          have e47 : ((x.toNat : Int) == 47) = true := by simpa using (by omega : (x.toNat : Int) = 47)
          have Q47 := hid q47
          clear q47
          have hnb : isBlank x = false := by
            cases hbk : isBlank x with
            | false => rfl
            | true => rw [blank_b64 hbk] at hh; cases hh
          have HN := hid (aSome_add_good HX'.out H35.out hnb hh)
          have hrd := reads_one wr x (0, 0)
          clear hh hnb HDL
          go_wp2_with (first
            | ((with_reducible refine CV.out.mono ?_); rintro e w1 ⟨rfl, rfl⟩)
            | ((with_reducible refine CL.out.mono ?_); rintro e w3 ⟨rfl, rfl⟩)
            | ((with_reducible refine CN.out.mono ?_); rintro e w4 ⟨rfl, rfl⟩)
            | (at_builtin; refine wpList_append_any _ rfl (.tmp 74) (.tmp 76) 22 rfl (w.heap.size + 1) 5 i0 (.int .u8 0) 1 1 Tryz.underlying22 hi hz0 hz1 hz2 rfl (by decide) _ _ _ rfl (hown.alloc _) (wr.heap.size + 1) _ 1 1 (Lib.byteCells [x]) rfl hrd (Lib.byteCells_one _) (by unfold maxLen; omega) (by omega) (by simp; omega) ?_))
          intro v' w2 hown' hgrow _
          have hbx := below_new wr (.cells #[.int .u8 x.toNat] 5)
          have hbel2 : Below w.heap.size w w2 := (hbel.trans (hbx.mono hbel.size)).grown hgrow (by have := hbel.size; simp; omega) (fun k hk => by have := (hown.lt k hk).1; omega)
          have hB2 := hid ((hgrow.block w.heap.size (by simp; omega) (fun e => by have := (hown.lt _ e.symm).1; omega)).trans (below_at hbx hB.out))
          have hown2 : w2.ownsRow (w.heap.size + 1) 5 1 v' (L ++ [x]).length (Lib.byteCells (L ++ [x])) := by
            rw [Lib.byteCells_append, List.length_append]
            exact hown'
          have hz2' := hgrow.size
          simp at hz2'
          clear hown' hgrow hown hbel hB hbx hrd
          go_wp2_with fail
          exact ⟨⟨j + 1, L ++ [x], by omega, by go_num, by simp; omega, hown2, hbel2, hB2.out, by omega, HN.out⟩, by simp [intOf]; omega⟩
        have e47 : ((x.toNat : Int) == 47) = false := by rw [beq_eq_false_iff_ne]; omega
        have i47 : ¬ (x.toNat : Int) = 47 := by omega
        by_cases q61 : x.toNat = 61
        · have hh : isB64S x = true := by rw [hbs.out, q61]; simp
          have e61 : ((x.toNat : Int) == 61) = true := by simpa using (by omega : (x.toNat : Int) = 61)
          have Q61 := hid q61
          clear q61
          have hnb : isBlank x = false := by
            cases hbk : isBlank x with
            | false => rfl
            | true => rw [blank_b64 hbk] at hh; cases hh
          have HN := hid (aSome_add_good HX'.out H35.out hnb hh)
          have hrd := reads_one wr x (0, 0)
          clear hh hnb HDL
          go_wp2_with (first
            | ((with_reducible refine CV.out.mono ?_); rintro e w1 ⟨rfl, rfl⟩)
            | ((with_reducible refine CL.out.mono ?_); rintro e w3 ⟨rfl, rfl⟩)
            | ((with_reducible refine CN.out.mono ?_); rintro e w4 ⟨rfl, rfl⟩)
            | (at_builtin; refine wpList_append_any _ rfl (.tmp 74) (.tmp 76) 22 rfl (w.heap.size + 1) 5 i0 (.int .u8 0) 1 1 Tryz.underlying22 hi hz0 hz1 hz2 rfl (by decide) _ _ _ rfl (hown.alloc _) (wr.heap.size + 1) _ 1 1 (Lib.byteCells [x]) rfl hrd (Lib.byteCells_one _) (by unfold maxLen; omega) (by omega) (by simp; omega) ?_))
          intro v' w2 hown' hgrow _
          have hbx := below_new wr (.cells #[.int .u8 x.toNat] 5)
          have hbel2 : Below w.heap.size w w2 := (hbel.trans (hbx.mono hbel.size)).grown hgrow (by have := hbel.size; simp; omega) (fun k hk => by have := (hown.lt k hk).1; omega)
          have hB2 := hid ((hgrow.block w.heap.size (by simp; omega) (fun e => by have := (hown.lt _ e.symm).1; omega)).trans (below_at hbx hB.out))
          have hown2 : w2.ownsRow (w.heap.size + 1) 5 1 v' (L ++ [x]).length (Lib.byteCells (L ++ [x])) := by
            rw [Lib.byteCells_append, List.length_append]
            exact hown'
          have hz2' := hgrow.size
          simp at hz2'
          clear hown' hgrow hown hbel hB hbx hrd
          go_wp2_with fail
          exact ⟨⟨j + 1, L ++ [x], by omega, by go_num, by simp; omega, hown2, hbel2, hB2.out, by omega, HN.out⟩, by simp [intOf]; omega⟩
        have e61 : ((x.toNat : Int) == 61) = false := by rw [beq_eq_false_iff_ne]; omega
        have i61 : ¬ (x.toNat : Int) = 61 := by omega
        have hh : isB64S x = false := by rw [hbs.out, HLL.out, HDD.out]; simp [q43, q47, q61]
        have HH := hid hh
        clear hh
        cases hbk : isBlank x with
        | true =>
          rw [hbk] at CB
          have HN := hid (aSome_add_blank HX'.out H35.out hbk)
          clear hbk
          go_wp2_with (first
            | ((with_reducible refine CV.out.mono ?_); rintro e w1 ⟨rfl, rfl⟩)
            | ((with_reducible refine CL.out.mono ?_); rintro e w3 ⟨rfl, rfl⟩)
            | ((with_reducible refine CN.out.mono ?_); rintro e w4 ⟨rfl, rfl⟩)
            | ((with_reducible refine CB.out.mono ?_); rintro e w2 ⟨rfl, rfl⟩))
          exact ⟨⟨j + 1, L, by omega, by go_num, by omega, hown, hbel, hB.out, hszr, HN.out⟩, by simp [intOf]; omega⟩
        | false =>
          rw [hbk] at CB
          have HXX := hid (aSome_add_bad HX'.out H35.out hbk HH.out)
          clear hbk hown HDL
          obtain ⟨⟨d0, d1, d2⟩, dz⟩ := box3b hB.out
          have dz0 := dz 0
          have dz1 := dz 1
          have dz2 := dz 2
          have HF := hid (put3_below hbel (Nat.le_refl _) (.slice none 0 0) (.int .i64 j) (.int .i64 3))
          clear dz
          go_wp2_with (first
            | ((with_reducible refine CV.out.mono ?_); rintro e w1 ⟨rfl, rfl⟩)
            | ((with_reducible refine CL.out.mono ?_); rintro e w3 ⟨rfl, rfl⟩)
            | ((with_reducible refine CN.out.mono ?_); rintro e w4 ⟨rfl, rfl⟩)
            | ((with_reducible refine CB.out.mono ?_); rintro e w2 ⟨rfl, rfl⟩))
          refine bodyPost_ret (v := .tuple #[.string ⟨#[]⟩, .agg #[.slice none 0 0, .int .i64 j, .int .i64 3]]) (by simp [results, Tryz.results64, go_sem, d0, d1, d2]) rfl ?_
          rw [HXX.out]
          exact ⟨HF.out, by show Ending.returned _ = Ending.returned _; rw [HP.out]; first | done | rfl⟩
    · obtain rfl : j = s.size := by omega
      have hX' := hX.out
      rw [List.drop_eq_nil_of_le (by rw [HL.out]; exact Nat.le_refl _)] at hX'
      have HXX := hid (aSome_add_end hX')
      have HP : Hid (((s.size - ([] : List UInt8).length : Nat) : Int) = s.size) := by show _ = _; simp
      clear hX hX' hown
      obtain ⟨⟨d0, d1, d2⟩, dz⟩ := box3b hB.out
      have dz0 := dz 0
      have dz1 := dz 1
      have dz2 := dz 2
      have HF := hid (put3_below hbel (Nat.le_refl _) (.slice none 0 0) (.int .i64 s.size) (.int .i64 2))
      clear dz
      go_wp2_with fail
      refine bodyPost_ret (v := .tuple #[.string ⟨#[]⟩, .agg #[.slice none 0 0, .int .i64 s.size, .int .i64 2]]) (by simp [results, Tryz.results64, go_sem, d0, d1, d2]) rfl ?_
      rw [HXX.out]
      exact ⟨HF.out, by show Ending.returned _ = Ending.returned _; rw [HP.out]; first | done | rfl⟩
end Go.Proofs.YtcojkmcnigppbaaGreatDoor
end
section
namespace Sx
open Go Oct
theorem aSome_len {may : UInt8 → Bool} {stop : UInt8} : ∀ {s l q : List UInt8}, aSome may stop s = .ok l q → l.length ≤ s.length ∧ ∃ r, q = stop :: r
  | [], l, q, h => by cases h
  | c :: r, l, q, h => by
    rw [aSome] at h
    split at h
    · rename_i hc
      injection h with h1 h2
      subst h1 h2
      exact ⟨Nat.zero_le _, r, by rw [hc]⟩
    · split at h
      · obtain ⟨h1, h2⟩ := aSome_len h
        exact ⟨by simp; omega, h2⟩
      · split at h
        · cases h
        · cases hx : aSome may stop r with
          | err e q' => rw [hx] at h; cases h
          | ok l' q' =>
            rw [hx] at h
            injection h with h1 h2
            subst h1 h2
            obtain ⟨h3, h4⟩ := aSome_len hx
            exact ⟨by simp; omega, h4⟩
theorem aSome_err {may : UInt8 → Bool} {stop : UInt8} {s q : List UInt8} {k : Nat} (h : aSome may stop s = .err k q) : 2 ≤ k ∧ k ≤ 4 ∧ q.length ≤ s.length := by
  have := aSome_fine may stop s
  rw [h] at this
  exact ⟨this.1, this.2.1, this.2.2.le⟩
end Sx
namespace Go.Proofs.YtcojkmcnigppbaaGreatDoor
open Go Go.Proofs Go.RowKit Sx Oct
def BEnd (n : Nat) (w : World) (e : Ending) (w' : World) (x : Res (List UInt8)) : Prop :=
  match x with
  | .err k q => 2 ≤ k ∧ k ≤ 4 ∧ e = .returned (.agg #[.slice none 0 0, .int .i64 (n - q.length : Nat), .int .i64 k]) ∧ Below w.heap.size w w'
  | .ok l q => ∃ A c, e = .returned (.agg #[.slice A l.length c, .int .i64 (n - q.length : Nat), .int .i64 0]) ∧ l.length ≤ c ∧ RIn w' (fun k => w.heap.size ≤ k) 1 A l.length (Lib.byteCells l) ∧ Below w.heap.size w w'
theorem put3_far {w : World} {b : Nat} {x0 x1 x2 : Value} (p : Addr) (hp : p.block ≠ b) : (put3 w b x0 x1 x2).cell? p = w.cell? p := by
  have h2 : ∀ i, (⟨b, i, none⟩ : Addr) ≠ p := fun i e => hp (by rw [← e])
  unfold put3
  rw [World.cell?_setCell_other _ _ _ _ (h2 2), World.cell?_setCell_other _ _ _ _ (h2 1), World.cell?_setCell_other _ _ _ _ (h2 0)]
set_option maxHeartbeats 4000000 in
set_option maxRecDepth 100000 in
theorem hex3_any (s : ByteArray) (p : Nat) (w : World) (hs : s.size ≤ 1099511627776) (hp : p ≤ s.size) :
    Calls Tryz.prog 93 #[.string s, .int .i64 p] w fun e w' => BEnd s.size w e w' (aMean unhex (aSome isHexS 35 (s.data.toList.drop p))) := by
  have hsl : s.data.toList.length = s.size := by simp
  have hb1 := below_new w (.cells #[.slice none 0 0, .int .i64 0, .int .i64 0] 59)
  have HX := hid (heap_alloc_new w (.cells #[.slice none 0 0, .int .i64 0, .int .i64 0] 59))
  have hz1 : (w.alloc (.cells #[.slice none 0 0, .int .i64 0, .int .i64 0] 59)).heap.size = w.heap.size + 1 := by simp
  have CS := someHex_any s p (w.alloc (.cells #[.slice none 0 0, .int .i64 0, .int .i64 0] 59)) hs hp
  have hdl : (s.data.toList.drop p).length ≤ s.size := by rw [List.length_drop]; omega
  generalize hX : aSome isHexS 35 (s.data.toList.drop p) = X at *
  have CS := hid CS
  cases X with
  | err k q =>
    obtain ⟨hk1, hk2, hk3⟩ := aSome_err hX
    have hk0 : ¬ ((k : Int) = 0) := by omega
    clear hX
    go_enter Tryz.func93, Tryz.ntmps93
    go_wp2_with fail
    refine CS.out.mono ?_
    rintro e w1 ⟨hb2, rfl⟩
    have hw1 := hb1.trans (hb2.mono hb1.size)
    obtain ⟨⟨d0, d1, d2⟩, dz⟩ := box3b (below_at hb2 HX.out)
    have dz0 := dz 0
    have dz1 := dz 1
    have dz2 := dz 2
    have X0 := heap_alloc_new w1 (.cells #[.slice none 0 0, .int .i64 0, .int .i64 0] 59)
    obtain ⟨⟨f0, f1, f2⟩, fz⟩ := box3b X0
    have fz0 := fz 0
    have fz1 := fz 1
    have fz2 := fz 2
    have hbx := below_new w1 (.cells #[.slice none 0 0, .int .i64 (s.size - q.length : Nat), .int .i64 k] 59)
    obtain ⟨⟨g0, g1, g2⟩, gz⟩ := box3b (below_at hbx (below_at hb2 HX.out))
    have gz0 := gz 0
    have gz1 := gz 1
    have gz2 := gz 2
    have hw2 := hw1.trans (hbx.mono hw1.size)
    have HF := hid (put3_below hw2 (Nat.le_refl _) (.slice none 0 0) (.int .i64 (s.size - q.length : Nat)) (.int .i64 k))
    clear dz fz gz X0 hbx hb2
    go_wp2_with fail
    exact bodyPost_ret (v := .agg #[.slice none 0 0, .int .i64 (s.size - q.length : Nat), .int .i64 k]) (by simp [results, Tryz.results93, go_sem, g0, g1, g2]) rfl ⟨hk1, hk2, rfl, HF.out⟩
  | ok l q =>
    obtain ⟨hll, r, hqr⟩ := aSome_len hX
    have htl := aSome_fine isHexS 35 (s.data.toList.drop p)
    rw [hX, hqr] at htl
    have hql := Tail.le (show Tail (35 :: r) (s.data.toList.drop p) from htl)
    simp only [List.length_cons] at hql
    subst hqr
    obtain ⟨a, ha⟩ : ∃ a : Nat, a + (r.length + 1) = s.size := ⟨s.size - (r.length + 1), by omega⟩
    have hpa : ((s.size - (35 :: r).length : Nat) : Int) = a := by simp only [List.length_cons]; omega
    have hpb : ((s.size - r.length : Nat) : Int) = (a : Int) + 1 := by omega
    have HPA := hid hpa
    have HPB := hid hpb
    have hwa : IntKind.i64.wrap ((a : Int) + 1) = (a : Int) + 1 := IntWalk.i64_in _ (by omega)
    have hls : (⟨l.toArray⟩ : ByteArray).size = l.length := by simp [ByteArray.size]
    have hld : (⟨l.toArray⟩ : ByteArray).data.toList = l := by simp
    have CU := fun W => refUnhex_any ⟨l.toArray⟩ W (by rw [hls]; omega)
    rw [hld] at CU
    have CU := hid CU
    clear hX htl hpa hpb hls hld
    go_enter Tryz.func93, Tryz.ntmps93
    go_wp2_with fail
    refine CS.out.mono ?_
    rintro e w1 ⟨hb2, rfl⟩
    rw [HPA.out]
    have hw1 := hb1.trans (hb2.mono hb1.size)
    have X0 := heap_alloc_new w1 (.cells #[.slice none 0 0, .int .i64 0, .int .i64 0] 59)
    obtain ⟨⟨f0, f1, f2⟩, fz⟩ := box3b X0
    have fz0 := fz 0
    have fz1 := fz 1
    have fz2 := fz 2
    have hbx := below_new w1 (.cells #[.slice none 0 0, .int .i64 a, .int .i64 0] 59)
    have HXX := hid (heap_alloc_new w1 (.cells #[.slice none 0 0, .int .i64 a, .int .i64 0] 59))
    have HXR := hid (below_at hbx (below_at hb2 HX.out))
    have hw2 := hw1.trans (hbx.mono hw1.size)
    have hgt : w.heap.size + 1 ≤ (w1.alloc (.cells #[.slice none 0 0, .int .i64 a, .int .i64 0] 59)).heap.size := by have := hb2.size; simp; omega
    have CU2 := hid (CU.out (w1.alloc (.cells #[.slice none 0 0, .int .i64 a, .int .i64 0] 59)))
    clear fz X0 hbx hb2 hw1
    go_wp2_with fail
    generalize (w1.alloc (.cells #[.slice none 0 0, .int .i64 a, .int .i64 0] 59)) = W at *
    clear f0 f1 f2 fz0 fz1 fz2
    refine CU2.out.mono ?_
    intro e w3 hE
    rcases hE with ⟨hu, v, rfl, hown, hb3⟩ | ⟨out, v, hu, rfl, hown, hb3⟩
    · have HU := hid hu
      have hw3 := hw2.trans (hb3.mono hw2.size)
      obtain ⟨⟨g0, g1, g2⟩, gz⟩ := box3b (below_at hb3 HXR.out)
      have gz0 := gz 0
      have gz1 := gz 1
      have gz2 := gz 2
      obtain ⟨⟨f0, f1, f2⟩, -⟩ := box3b (below_at hb3 HXX.out)
      have HF := hid (put3_below hw3 (Nat.le_refl _) (.slice none 0 0) (.int .i64 a) (.int .i64 3))
      clear gz hu hown hb3
      go_wp2_with fail
      refine bodyPost_ret (v := .agg #[.slice none 0 0, .int .i64 a, .int .i64 3]) (by simp [results, Tryz.results93, go_sem, g0, g1, g2]) rfl ?_
      unfold aMean
      simp only [HU.out]
      exact ⟨by omega, by omega, by rw [HPA.out]; rfl, HF.out⟩
    · have HU := hid hu
      obtain ⟨A3, c3, rfl, hc3, hri⟩ := RIn.of_own hown
      have hw3 := hw2.trans (hb3.mono hw2.size)
      obtain ⟨⟨g0, g1, g2⟩, gz⟩ := box3b (below_at hb3 HXR.out)
      have gz0 := gz 0
      have gz1 := gz 1
      have gz2 := gz 2
      obtain ⟨⟨f0, f1, f2⟩, -⟩ := box3b (below_at hb3 HXX.out)
      have HF := hid (put3_below hw3 (Nat.le_refl _) (.slice A3 out.length c3) (.int .i64 ((a : Int) + 1)) (.int .i64 0))
      have HR := hid ((hri.keep (fun q hq => put3_far (w := w3) (b := w.heap.size) (x0 := .slice A3 out.length c3) (x1 := .int .i64 ((a : Int) + 1)) (x2 := .int .i64 0) q (by omega))).more (S' := fun k => w.heap.size ≤ k) fun k hk => by omega)
      clear gz hu hown hb3 hri
      go_wp2_with fail
      refine bodyPost_ret (v := .agg #[.slice A3 out.length c3, .int .i64 ((a : Int) + 1), .int .i64 0]) (by simp [results, Tryz.results93, go_sem, g0, g1, g2]) rfl ?_
      unfold aMean
      simp only [HU.out, List.drop_succ_cons, List.drop_zero]
      exact ⟨A3, c3, by rw [HPB.out], hc3, HR.out, HF.out⟩
set_option maxHeartbeats 4000000 in
set_option maxRecDepth 100000 in
theorem b643_any (s : ByteArray) (stop : UInt8) (p : Nat) (w : World) (hs : s.size ≤ 1099511627776) (hp : p ≤ s.size) :
    Calls Tryz.prog 39 #[.string s, .int .i64 p, .int .u8 stop.toNat] w fun e w' => BEnd s.size w e w' (aMean ub64 (aSome isB64S stop (s.data.toList.drop p))) := by
  have hsl : s.data.toList.length = s.size := by simp
  have hb1 := below_new w (.cells #[.slice none 0 0, .int .i64 0, .int .i64 0] 59)
  have HX := hid (heap_alloc_new w (.cells #[.slice none 0 0, .int .i64 0, .int .i64 0] 59))
  have hz1 : (w.alloc (.cells #[.slice none 0 0, .int .i64 0, .int .i64 0] 59)).heap.size = w.heap.size + 1 := by simp
  have CS := some64_any s stop p (w.alloc (.cells #[.slice none 0 0, .int .i64 0, .int .i64 0] 59)) hs hp
  have hdl : (s.data.toList.drop p).length ≤ s.size := by rw [List.length_drop]; omega
  generalize hX : aSome isB64S stop (s.data.toList.drop p) = X at *
  have CS := hid CS
  cases X with
  | err k q =>
    obtain ⟨hk1, hk2, hk3⟩ := aSome_err hX
    have hk0 : ¬ ((k : Int) = 0) := by omega
    clear hX
    go_enter Tryz.func39, Tryz.ntmps39
    go_wp2_with fail
    refine CS.out.mono ?_
    rintro e w1 ⟨hb2, rfl⟩
    have hw1 := hb1.trans (hb2.mono hb1.size)
    obtain ⟨⟨d0, d1, d2⟩, dz⟩ := box3b (below_at hb2 HX.out)
    have dz0 := dz 0
    have dz1 := dz 1
    have dz2 := dz 2
    have X0 := heap_alloc_new w1 (.cells #[.slice none 0 0, .int .i64 0, .int .i64 0] 59)
    obtain ⟨⟨f0, f1, f2⟩, fz⟩ := box3b X0
    have fz0 := fz 0
    have fz1 := fz 1
    have fz2 := fz 2
    have hbx := below_new w1 (.cells #[.slice none 0 0, .int .i64 (s.size - q.length : Nat), .int .i64 k] 59)
    obtain ⟨⟨g0, g1, g2⟩, gz⟩ := box3b (below_at hbx (below_at hb2 HX.out))
    have gz0 := gz 0
    have gz1 := gz 1
    have gz2 := gz 2
    have hw2 := hw1.trans (hbx.mono hw1.size)
    have HF := hid (put3_below hw2 (Nat.le_refl _) (.slice none 0 0) (.int .i64 (s.size - q.length : Nat)) (.int .i64 k))
    clear dz fz gz X0 hbx hb2
    go_wp2_with fail
    exact bodyPost_ret (v := .agg #[.slice none 0 0, .int .i64 (s.size - q.length : Nat), .int .i64 k]) (by simp [results, Tryz.results39, go_sem, g0, g1, g2]) rfl ⟨hk1, hk2, rfl, HF.out⟩
  | ok l q =>
    obtain ⟨hll, r, hqr⟩ := aSome_len hX
    have htl := aSome_fine isB64S stop (s.data.toList.drop p)
    rw [hX, hqr] at htl
    have hql := Tail.le (show Tail (stop :: r) (s.data.toList.drop p) from htl)
    simp only [List.length_cons] at hql
    subst hqr
    obtain ⟨a, ha⟩ : ∃ a : Nat, a + (r.length + 1) = s.size := ⟨s.size - (r.length + 1), by omega⟩
    have hpa : ((s.size - (stop :: r).length : Nat) : Int) = a := by simp only [List.length_cons]; omega
    have hpb : ((s.size - r.length : Nat) : Int) = (a : Int) + 1 := by omega
    have HPA := hid hpa
    have HPB := hid hpb
    have hwa : IntKind.i64.wrap ((a : Int) + 1) = (a : Int) + 1 := IntWalk.i64_in _ (by omega)
    have hls : (⟨l.toArray⟩ : ByteArray).size = l.length := by simp [ByteArray.size]
    have hld : (⟨l.toArray⟩ : ByteArray).data.toList = l := by simp
    have CU := fun W => refUnbase64_any ⟨l.toArray⟩ W (by rw [hls]; omega)
    rw [hld] at CU
    have CU := hid CU
    clear hX htl hpa hpb hls hld
    go_enter Tryz.func39, Tryz.ntmps39
    go_wp2_with fail
    refine CS.out.mono ?_
    rintro e w1 ⟨hb2, rfl⟩
    rw [HPA.out]
    have hw1 := hb1.trans (hb2.mono hb1.size)
    have X0 := heap_alloc_new w1 (.cells #[.slice none 0 0, .int .i64 0, .int .i64 0] 59)
    obtain ⟨⟨f0, f1, f2⟩, fz⟩ := box3b X0
    have fz0 := fz 0
    have fz1 := fz 1
    have fz2 := fz 2
    have hbx := below_new w1 (.cells #[.slice none 0 0, .int .i64 a, .int .i64 0] 59)
    have HXX := hid (heap_alloc_new w1 (.cells #[.slice none 0 0, .int .i64 a, .int .i64 0] 59))
    have HXR := hid (below_at hbx (below_at hb2 HX.out))
    have hw2 := hw1.trans (hbx.mono hw1.size)
    have hgt : w.heap.size + 1 ≤ (w1.alloc (.cells #[.slice none 0 0, .int .i64 a, .int .i64 0] 59)).heap.size := by have := hb2.size; simp; omega
    have CU2 := hid (CU.out (w1.alloc (.cells #[.slice none 0 0, .int .i64 a, .int .i64 0] 59)))
    clear fz X0 hbx hb2 hw1
    go_wp2_with fail
    generalize (w1.alloc (.cells #[.slice none 0 0, .int .i64 a, .int .i64 0] 59)) = W at *
    clear f0 f1 f2 fz0 fz1 fz2
    refine CU2.out.mono ?_
    intro e w3 hE
    rcases hE with ⟨hu, v, rfl, hown, hb3⟩ | ⟨out, v, hu, rfl, hown, hb3⟩
    · have HU := hid hu
      have hw3 := hw2.trans (hb3.mono hw2.size)
      obtain ⟨⟨g0, g1, g2⟩, gz⟩ := box3b (below_at hb3 HXR.out)
      have gz0 := gz 0
      have gz1 := gz 1
      have gz2 := gz 2
      obtain ⟨⟨f0, f1, f2⟩, -⟩ := box3b (below_at hb3 HXX.out)
      have HF := hid (put3_below hw3 (Nat.le_refl _) (.slice none 0 0) (.int .i64 a) (.int .i64 3))
      clear gz hu hown hb3
      go_wp2_with fail
      refine bodyPost_ret (v := .agg #[.slice none 0 0, .int .i64 a, .int .i64 3]) (by simp [results, Tryz.results39, go_sem, g0, g1, g2]) rfl ?_
      unfold aMean
      simp only [HU.out]
      exact ⟨by omega, by omega, by rw [HPA.out]; rfl, HF.out⟩
    · have HU := hid hu
      obtain ⟨A3, c3, rfl, hc3, hri⟩ := RIn.of_own hown
      have hw3 := hw2.trans (hb3.mono hw2.size)
      obtain ⟨⟨g0, g1, g2⟩, gz⟩ := box3b (below_at hb3 HXR.out)
      have gz0 := gz 0
      have gz1 := gz 1
      have gz2 := gz 2
      obtain ⟨⟨f0, f1, f2⟩, -⟩ := box3b (below_at hb3 HXX.out)
      have HF := hid (put3_below hw3 (Nat.le_refl _) (.slice A3 out.length c3) (.int .i64 ((a : Int) + 1)) (.int .i64 0))
      have HR := hid ((hri.keep (fun q hq => put3_far (w := w3) (b := w.heap.size) (x0 := .slice A3 out.length c3) (x1 := .int .i64 ((a : Int) + 1)) (x2 := .int .i64 0) q (by omega))).more (S' := fun k => w.heap.size ≤ k) fun k hk => by omega)
      clear gz hu hown hb3 hri
      go_wp2_with fail
      refine bodyPost_ret (v := .agg #[.slice A3 out.length c3, .int .i64 ((a : Int) + 1), .int .i64 0]) (by simp [results, Tryz.results39, go_sem, g0, g1, g2]) rfl ?_
      unfold aMean
      simp only [HU.out, List.drop_succ_cons, List.drop_zero]
      exact ⟨A3, c3, by rw [HPB.out], hc3, HR.out, HF.out⟩
end Go.Proofs.YtcojkmcnigppbaaGreatDoor
end
section
namespace Sx
open Go Oct
def aOctK : Nat → Nat → Nat → List UInt8 → Res UInt8
  | 0, _, n, r => .ok n.toUInt8 r
  | _ + 1, _, _, [] => .err 2 []
  | m + 1, k, n, c :: r => if isOct (if k = 0 then 4 else 8) c = false then .err 3 (c :: r) else aOctK m (k + 1) (8 * n + (c.toNat - 48)) r
theorem aOctal_K (s : List UInt8) : aOctal s = aOctK 3 0 0 s := by
  match s with
  | [] => rfl
  | [a] => simp only [aOctal, aOctK]; rfl
  | [a, b] => simp only [aOctal, aOctK]; rfl
  | a :: b :: c :: r =>
    simp only [aOctal, aOctK]
    rw [show 8 * (8 * (8 * 0 + (a.toNat - 48)) + (b.toNat - 48)) + (c.toNat - 48) = 64 * (a.toNat - 48) + 8 * (b.toNat - 48) + (c.toNat - 48) by omega]
    rfl
def one (x : Res UInt8) : Res (List UInt8) := match x with
  | .err e q => .err e q
  | .ok b q => .ok [b] q
end Sx
namespace Go.Proofs.YtcojkmcnigppbaaGreatDoor
open Go Go.Proofs Go.RowKit Sx Oct
set_option maxHeartbeats 4000000 in
set_option maxRecDepth 100000 in
theorem octal_any (s : ByteArray) (p : Nat) (w : World) (hs : s.size ≤ 1099511627776) (hp : p ≤ s.size) :
    Calls Tryz.prog 134 #[.string s, .int .i64 p] w fun e w' => BEnd s.size w e w' (one (aOctal (s.data.toList.drop p))) := by
  have hsl : s.data.toList.length = s.size := by simp
  have HL := hid hsl
  clear hsl
  generalize hX : aOctal (s.data.toList.drop p) = X
  have HG : Hid (X = aOctK (3 - 0) 0 0 (s.data.toList.drop (p + 0))) := by
    show _ = _
    rw [← hX, aOctal_K]; rfl
  clear hX
  have hb1 := below_new w (.cells #[.slice none 0 0, .int .i64 0, .int .i64 0] 59)
  have HX := hid (heap_alloc_new w (.cells #[.slice none 0 0, .int .i64 0, .int .i64 0] 59))
  have hWz : (w.alloc (.cells #[.slice none 0 0, .int .i64 0, .int .i64 0] 59)).heap.size = w.heap.size + 1 := by simp
  go_enter Tryz.func134, Tryz.ntmps134
  go_wp2_with fail
  generalize (w.alloc (.cells #[.slice none 0 0, .int .i64 0, .int .i64 0] 59)) = W at *
  go_loopw [5, 6] (fun nn i wr => ∃ (k n : Nat), k ≤ 3 ∧ i = .int .i64 k ∧ nn = .int .i64 n ∧ n < 8 ^ k ∧ W = wr ∧ p + k ≤ s.size ∧ Hid (X = aOctK (3 - k) k n (s.data.toList.drop (p + k)))) (fun _ i _ => 3 - (intOf i).toNat)
  case atStart => exact ⟨0, 0, by omega, rfl, rfl, by omega, rfl, by omega, HG.out⟩
  case round =>
    obtain ⟨k, n, hk3, rfl, rfl, hn8, rfl, hpk, hX⟩ := hrel
    clear HG
    have hw1 : IntKind.i64.wrap ((p : Int) + k) = (p : Int) + k := IntWalk.i64_in _ (by omega)
    by_cases hk : k < 3
    · have hk' : (k : Int) < 3 := by omega
      have hn63 : n ≤ 63 := by
        have : k = 0 ∨ k = 1 ∨ k = 2 := by omega
        rcases this with rfl | rfl | rfl <;> simp at hn8 <;> omega
      obtain ⟨m, hm⟩ : ∃ m, 3 - k = m + 1 := ⟨2 - k, by omega⟩
      have hX' := hX.out
      rw [hm] at hX'
      by_cases hlt : p + k < s.size
      · have hlt' : (p : Int) + k < s.size := by omega
        have hge' : ¬ (s.size : Int) ≤ (p : Int) + k := by omega
        have h0p : (0 : Int) ≤ (p : Int) + k := by omega
        have htn : ((p : Int) + k).toNat = p + k := by omega
        obtain ⟨x, hsx⟩ : ∃ x, s[p + k] = x := ⟨_, rfl⟩
        have hdc : s.data.toList.drop (p + k) = s[p + k] :: s.data.toList.drop (p + k + 1) := List.drop_eq_getElem_cons (by rw [HL.out]; exact hlt)
        rw [hsx] at hdc
        rw [hdc, aOctK] at hX'
        have hK := hX'
        have hpl : ((s.size - (x :: s.data.toList.drop (p + k + 1)).length : Nat) : Int) = (p : Int) + k := by
          rw [← hdc, List.length_drop, HL.out]
          omega
        have HPL := hid hpl
        have hx := x.toNat_lt
        clear hX' hdc hpl hX
        by_cases c1 : x.toNat < 48
        · have c1' : (x.toNat : Int) < 48 := by omega
          have hbad : isOct (if k = 0 then 4 else 8) x = false := by
            unfold isOct
            split <;> simp <;> omega
          rw [if_pos hbad] at hK
          have HK := hid hK
          clear hK hbad
          obtain ⟨⟨d0, d1, d2⟩, dz⟩ := box3b HX.out
          have dz0 := dz 0
          have dz1 := dz 1
          have dz2 := dz 2
          have HF := hid (put3_below hb1 (Nat.le_refl _) (.slice none 0 0) (.int .i64 ((p : Int) + k)) (.int .i64 3))
          clear dz
          go_wp2_with fail
          refine bodyPost_ret (v := .agg #[.slice none 0 0, .int .i64 ((p : Int) + k), .int .i64 3]) (by simp [results, Tryz.results134, go_sem, d0, d1, d2]) rfl ?_
          rw [HK.out]
          exact ⟨by omega, by omega, by rw [HPL.out]; rfl, HF.out⟩
        by_cases c2 : 55 < x.toNat
        · have c1' : ¬ (x.toNat : Int) < 48 := by omega
          have c2' : (55 : Int) < x.toNat := by omega
          have hbad : isOct (if k = 0 then 4 else 8) x = false := by
            unfold isOct
            split <;> simp <;> omega
          rw [if_pos hbad] at hK
          have HK := hid hK
          clear hK hbad
          obtain ⟨⟨d0, d1, d2⟩, dz⟩ := box3b HX.out
          have dz0 := dz 0
          have dz1 := dz 1
          have dz2 := dz 2
          have HF := hid (put3_below hb1 (Nat.le_refl _) (.slice none 0 0) (.int .i64 ((p : Int) + k)) (.int .i64 3))
          clear dz
          go_wp2_with fail
          refine bodyPost_ret (v := .agg #[.slice none 0 0, .int .i64 ((p : Int) + k), .int .i64 3]) (by simp [results, Tryz.results134, go_sem, d0, d1, d2]) rfl ?_
          rw [HK.out]
          exact ⟨by omega, by omega, by rw [HPL.out]; rfl, HF.out⟩
        have c1' : ¬ (x.toNat : Int) < 48 := by omega
        have c2' : ¬ (55 : Int) < x.toNat := by omega
        by_cases c3 : k = 0 ∧ 51 < x.toNat
        · obtain ⟨rfl, c3⟩ := c3
          have c3' : (51 : Int) < x.toNat := by omega
          have hbad : isOct (if (0 : Nat) = 0 then 4 else 8) x = false := by
            unfold isOct
            simp
            omega
          rw [if_pos hbad] at hK
          have HK := hid hK
          have HP0 : Hid (((s.size - (x :: s.data.toList.drop (p + 0 + 1)).length : Nat) : Int) = p) := by
            show _ = _
            rw [HPL.out]
            simp
          have hlt0 : (p : Int) < s.size := by omega
          have hge0 : ¬ (s.size : Int) ≤ p := by omega
          have hsx0 : s[p] = x := hsx
          clear hK hbad hlt' hge' htn h0p hw1
          obtain ⟨⟨d0, d1, d2⟩, dz⟩ := box3b HX.out
          have dz0 := dz 0
          have dz1 := dz 1
          have dz2 := dz 2
          have HF := hid (put3_below hb1 (Nat.le_refl _) (.slice none 0 0) (.int .i64 p) (.int .i64 3))
          clear dz
          go_wp2_with fail
          refine bodyPost_ret (v := .agg #[.slice none 0 0, .int .i64 p, .int .i64 3]) (by simp [results, Tryz.results134, go_sem, d0, d1, d2]) rfl ?_
          rw [HK.out]
          exact ⟨by omega, by omega, by rw [HP0.out]; rfl, HF.out⟩
        have hgood : isOct (if k = 0 then 4 else 8) x = true := by
          unfold isOct
          split <;> simp <;> omega
        rw [if_neg (by rw [hgood]; simp)] at hK
        have hwx : IntKind.u8.wrap ((x.toNat : Int) - 48) = (x.toNat : Int) - 48 := IntWalk.u8_in _ (by omega)
        have HN : Hid (X = aOctK (3 - (k + 1)) (k + 1) (8 * n + (x.toNat - 48)) (s.data.toList.drop (p + (k + 1)))) := by
          show _ = _
          rw [hK, show 3 - (k + 1) = m by omega, show p + (k + 1) = p + k + 1 by omega]
        have hn8' : 8 * n + (x.toNat - 48) < 8 ^ (k + 1) := by rw [Nat.pow_succ]; omega
        have hcast : (8 : Int) * n + ((x.toNat : Int) - 48) = ((8 * n + (x.toNat - 48) : Nat) : Int) := by omega
        have HC := hid hcast
        have HN8 := hid hn8'
        clear hK hgood hcast hn8' hn8
        by_cases hk0 : k = 0
        · subst hk0
          have hlt0 : (p : Int) < s.size := by omega
          have hge0 : ¬ (s.size : Int) ≤ p := by omega
          have hsx0 : s[p] = x := hsx
          have c3' : ¬ (51 : Int) < x.toNat := by omega
          clear hlt' hge' htn h0p hw1
          go_wp2_with fail
          exact ⟨⟨0 + 1, 8 * n + (x.toNat - 48), by omega, by first | rfl | go_num, by rw [← HC.out], HN8.out, trivial, by omega, HN.out⟩, by simp [intOf]⟩
        · have hk0' : ((k : Int) == 0) = false := by rw [beq_eq_false_iff_ne]; omega
          have hk0b : ¬ (k : Int) = 0 := by omega
          go_wp2_with fail
          exact ⟨⟨k + 1, 8 * n + (x.toNat - 48), by omega, by go_num, by rw [← HC.out], HN8.out, trivial, by omega, HN.out⟩, by simp [intOf]; omega⟩
      · have hge : (s.size : Int) ≤ (p : Int) + k := by omega
        rw [List.drop_eq_nil_of_le (by rw [HL.out]; omega), aOctK] at hX'
        have HK := hid hX'
        have HPL : Hid (((s.size - ([] : List UInt8).length : Nat) : Int) = s.size) := by show _ = _; simp
        clear hX' hX
        obtain ⟨⟨d0, d1, d2⟩, dz⟩ := box3b HX.out
        have dz0 := dz 0
        have dz1 := dz 1
        have dz2 := dz 2
        have HF := hid (put3_below hb1 (Nat.le_refl _) (.slice none 0 0) (.int .i64 (s.size)) (.int .i64 2))
        clear dz
        go_wp2_with fail
        refine bodyPost_ret (v := .agg #[.slice none 0 0, .int .i64 (s.size), .int .i64 2]) (by simp [results, Tryz.results134, go_sem, d0, d1, d2]) rfl ?_
        rw [HK.out]
        exact ⟨by omega, by omega, by rw [HPL.out]; rfl, HF.out⟩
    · obtain rfl : k = 3 := by omega
      have hX' := hX.out
      rw [show 3 - 3 = 0 by omega, aOctK] at hX'
      have HK := hid hX'
      clear hX' hX
      have hwp : IntKind.i64.wrap ((p : Int) + 3) = (p : Int) + 3 := IntWalk.i64_in _ (by omega)
      have hbx := below_new W (.cells #[.int .u8 ((n : Int) % 256)] 5)
      obtain ⟨⟨d0, d1, d2⟩, dz⟩ := box3b (below_at hbx HX.out)
      have dz0 := dz 0
      have dz1 := dz 1
      have dz2 := dz 2
      have hrc := reads_const W ((n : Int) % 256) n.toUInt8 (by simp)
      have hri : RIn (W.alloc (.cells #[.int .u8 ((n : Int) % 256)] 5)) (fun k => w.heap.size + 1 ≤ k) 1 (some ⟨W.heap.size, 0, none⟩) 1 (Lib.byteCells [n.toUInt8]) :=
        ⟨hrc.1, fun h => by
          obtain ⟨ad, e, _, hc⟩ := hrc.2 h
          injection e with e
          subst e
          exact ⟨_, rfl, by show w.heap.size + 1 ≤ W.heap.size; omega, hc⟩⟩
      have HF := hid (put3_below (hb1.trans (hbx.mono hb1.size)) (Nat.le_refl _) (.slice (some ⟨W.heap.size, 0, none⟩) 1 1) (.int .i64 ((p : Int) + 3)) (.int .i64 0))
      have HR := hid ((hri.keep (fun q hq => put3_far (w := (W.alloc (.cells #[.int .u8 ((n : Int) % 256)] 5))) (b := w.heap.size) (x0 := .slice (some ⟨W.heap.size, 0, none⟩) 1 1) (x1 := .int .i64 ((p : Int) + 3)) (x2 := .int .i64 0) q (by omega))).more (S' := fun k => w.heap.size ≤ k) fun k hk => by omega)
      have HPL : Hid (((s.size - (s.data.toList.drop (p + 3)).length : Nat) : Int) = (p : Int) + 3) := by
        show _ = _
        rw [List.length_drop, HL.out]
        omega
      have HWZ := hid hWz
      clear dz hbx hrc hri hWz
      go_wp2_with fail
      refine bodyPost_ret (v := .agg #[.slice (some ⟨W.heap.size, 0, none⟩) 1 1, .int .i64 ((p : Int) + 3), .int .i64 0]) (by simp [results, Tryz.results134, go_sem, d0, d1, d2]) rfl ?_
      rw [HK.out]
      exact ⟨_, _, by rw [HPL.out]; rfl, Nat.le_refl _, HR.out, HF.out⟩
end Go.Proofs.YtcojkmcnigppbaaGreatDoor
end
section
namespace Sx
open Go Oct
def aName (o : Option UInt8) (x : UInt8) (r : List UInt8) : Res UInt8 := match o with | some b => .ok b r | none => .err 3 (x :: r)
def escFrom : List UInt8 := [98, 116, 118, 110, 102, 114, 34, 39, 92]
def escTo : List UInt8 := [8, 9, 11, 10, 12, 13, 34, 39, 92]
theorem named_at : ∀ k : Nat, k < 9 → named (escFrom.getD k 0) = some (escTo.getD k 0) := by decide
theorem named_none {x : UInt8} (h : ∀ k : Nat, k < 9 → escFrom.getD k 0 ≠ x) : named x = none := by
  have h0 := h 0 (by omega)
  have h1 := h 1 (by omega)
  have h2 := h 2 (by omega)
  have h3 := h 3 (by omega)
  have h4 := h 4 (by omega)
  have h5 := h 5 (by omega)
  have h6 := h 6 (by omega)
  have h7 := h 7 (by omega)
  have h8 := h 8 (by omega)
  simp only [escFrom, List.getD_cons_zero, List.getD_cons_succ] at h0 h1 h2 h3 h4 h5 h6 h7 h8
  unfold named
  rw [if_neg (fun e => h0 e.symm), if_neg (fun e => h1 e.symm), if_neg (fun e => h2 e.symm), if_neg (fun e => h3 e.symm), if_neg (fun e => h4 e.symm), if_neg (fun e => h5 e.symm), if_neg (fun e => h6 e.symm), if_neg (fun e => h7 e.symm), if_neg (fun e => h8 e.symm)]
theorem named_digit {x : UInt8} (h : 48 ≤ x.toNat ∧ x.toNat ≤ 55 ∨ x.toNat = 120) : named x = none := by
  apply named_none
  intro k hk e
  have : k = 0 ∨ k = 1 ∨ k = 2 ∨ k = 3 ∨ k = 4 ∨ k = 5 ∨ k = 6 ∨ k = 7 ∨ k = 8 := by omega
  rcases this with rfl | rfl | rfl | rfl | rfl | rfl | rfl | rfl | rfl <;> simp [escFrom] at e <;> subst e <;> (try simp at h)
def aHexK : Nat → Int → List UInt8 → Res UInt8
  | 0, n, r => .ok n.toNat.toUInt8 r
  | _ + 1, _, [] => .err 2 []
  | m + 1, n, c :: r => if isHexS c = false then .err 3 (c :: r) else aHexK m (16 * n + hexV c) r
theorem aHexa_K (s : List UInt8) : aHexa s = aHexK 2 0 s := by
  match s with
  | [] => rfl
  | [a] => simp only [aHexa, aHexK]
  | a :: b :: r =>
    simp only [aHexa, aHexK]
    rw [show 16 * (16 * 0 + hexV a) + hexV b = 16 * hexV a + hexV b by omega]
end Sx
namespace Go.Proofs.YtcojkmcnigppbaaGreatDoor
open Go Go.Proofs Go.RowKit Sx Oct
theorem BEnd.up {n : Nat} {W w2 : World} {e : Ending} {x : Res (List UInt8)} (h : BEnd n W e w2 x) : ∃ v0 a b, e = .returned (.agg #[v0, .int .i64 a, .int .i64 b]) ∧ (∃ A l c, v0 = .slice A l c) := by
  cases x with
  | err k q => exact ⟨_, _, _, h.2.2.1, _, _, _, rfl⟩
  | ok l q =>
    obtain ⟨A, c, h1, _⟩ := h
    exact ⟨_, _, _, h1, _, _, _, rfl⟩
theorem BEnd.put {n : Nat} {w W w2 : World} {v0 : Value} {a b : Int} {x : Res (List UInt8)} (h : BEnd n W (.returned (.agg #[v0, .int .i64 a, .int .i64 b])) w2 x) (hb : Below w.heap.size w W) (hz : W.heap.size = w.heap.size + 1) :
    BEnd n w (.returned (.agg #[v0, .int .i64 a, .int .i64 b])) (put3 w2 w.heap.size v0 (.int .i64 a) (.int .i64 b)) x := by
  cases x with
  | err k q => exact ⟨h.1, h.2.1, h.2.2.1, put3_below (hb.trans (h.2.2.2.mono hb.size)) (Nat.le_refl _) _ _ _⟩
  | ok l q =>
    obtain ⟨A, c, h1, h2, h3, h4⟩ := h
    exact ⟨A, c, h1, h2, (h3.keep (fun q hq => put3_far q (by omega))).more fun k hk => by omega, put3_below (hb.trans (h4.mono hb.size)) (Nat.le_refl _) _ _ _⟩
theorem to_cells (W : World) : ∀ k : Nat, k < 9 → (W.alloc (.cells #[.int .u8 8, .int .u8 9, .int .u8 11, .int .u8 10, .int .u8 12, .int .u8 13, .int .u8 34, .int .u8 39, .int .u8 92] 5)).cell? ((⟨W.heap.size, 0, none⟩ : Addr).add k) = some (.int .u8 (escTo.getD k 0).toNat) := by
  intro k hk
  have h := heap_alloc_new W (.cells #[.int .u8 8, .int .u8 9, .int .u8 11, .int .u8 10, .int .u8 12, .int .u8 13, .int .u8 34, .int .u8 39, .int .u8 92] 5)
  have : k = 0 ∨ k = 1 ∨ k = 2 ∨ k = 3 ∨ k = 4 ∨ k = 5 ∨ k = 6 ∨ k = 7 ∨ k = 8 := by omega
  rcases this with rfl | rfl | rfl | rfl | rfl | rfl | rfl | rfl | rfl <;>
    (refine Eq.trans (b := World.cell? _ ⟨W.heap.size, _, none⟩) rfl ?_; rw [Lib.cell_of_heap h]; rfl)
set_option maxHeartbeats 4000000 in
set_option maxRecDepth 100000 in
theorem escaped_any (s : ByteArray) (p : Nat) (w : World) (hs : s.size ≤ 1099511627776) (hp : p ≤ s.size) :
    Calls Tryz.prog 116 #[.string s, .int .i64 p] w fun e w' => BEnd s.size w e w' (one (aEsc (s.data.toList.drop p))) := by
  have hsl : s.data.toList.length = s.size := by simp
  have HL := hid hsl
  clear hsl
  have hb1 := below_new w (.cells #[.slice none 0 0, .int .i64 0, .int .i64 0] 59)
  have HX := hid (heap_alloc_new w (.cells #[.slice none 0 0, .int .i64 0, .int .i64 0] 59))
  have hWz : (w.alloc (.cells #[.slice none 0 0, .int .i64 0, .int .i64 0] 59)).heap.size = w.heap.size + 1 := by simp
  by_cases hlt : p < s.size
  · obtain ⟨x, hsx⟩ : ∃ x, s[p] = x := ⟨_, rfl⟩
    have hdc : s.data.toList.drop p = s[p] :: s.data.toList.drop (p + 1) := List.drop_eq_getElem_cons (by rw [HL.out]; exact hlt)
    rw [hsx] at hdc
    have hlt' : (p : Int) < s.size := by omega
    have hge' : ¬ (s.size : Int) ≤ p := by omega
    have hx := x.toNat_lt
    by_cases hoc : 48 ≤ x.toNat ∧ x.toNat ≤ 55
    · have hX : aEsc (s.data.toList.drop p) = aOctal (s.data.toList.drop p) := by
        rw [hdc, aEsc]
        simp only [named_digit (.inl hoc)]
        rw [if_neg (fun e => by rw [e] at hoc; simp at hoc)]
      rw [hX]
      have CO := hid (octal_any s p (w.alloc (.cells #[.slice none 0 0, .int .i64 0, .int .i64 0] 59)) hs hp)
      obtain ⟨c1, c2⟩ := hoc
      have c1' : (48 : Int) ≤ x.toNat := by omega
      have c2' : (x.toNat : Int) ≤ 55 := by omega
      clear hX hdc
      go_enter Tryz.func116, Tryz.ntmps116
      go_wp2_with fail
      refine CO.out.mono ?_
      intro e w2 hE
      obtain ⟨v0, a, b, rfl, A0, l0, c0, rfl⟩ := hE.up
      have hb2 : Below (w.alloc (.cells #[.slice none 0 0, .int .i64 0, .int .i64 0] 59)).heap.size (w.alloc (.cells #[.slice none 0 0, .int .i64 0, .int .i64 0] 59)) w2 := by
        cases hq : one (aOctal (s.data.toList.drop p)) with
        | err k q => rw [hq] at hE; exact hE.2.2.2
        | ok l q => rw [hq] at hE; obtain ⟨A, c, _, _, _, h4⟩ := hE; exact h4
      obtain ⟨⟨d0, d1, d2⟩, dz⟩ := box3b (below_at hb2 HX.out)
      have dz0 := dz 0
      have dz1 := dz 1
      have dz2 := dz 2
      have HF := hid (hE.put hb1 hWz)
      clear dz hb2 hE
      go_wp2_with fail
      exact bodyPost_ret (v := .agg #[.slice A0 l0 c0, .int .i64 a, .int .i64 b]) (by simp [results, Tryz.results116, go_sem, d0, d1, d2]) rfl HF.out
    · by_cases h120 : x = 120
      · have e120 : ((x.toNat : Int) == 120) = true := by rw [h120]; rfl
        have hX : aEsc (s.data.toList.drop p) = aHexK (3 - 1) 0 (s.data.toList.drop (p + 1)) := by
          rw [hdc, aEsc]
          simp only [named_digit (.inr (show x.toNat = 120 by rw [h120]; rfl))]
          rw [if_pos h120, aHexa_K]
        rw [hX]
        have c1' : (48 : Int) ≤ x.toNat := by rw [h120]; decide
        have c2' : ¬ (x.toNat : Int) ≤ 55 := by rw [h120]; decide
        generalize hG : aHexK (3 - 1) 0 (s.data.toList.drop (p + 1)) = X
        have HG := hid hG.symm
        clear hX hdc h120 hoc hG
        go_enter Tryz.func116, Tryz.ntmps116
        go_wp2_with fail
        generalize (w.alloc (.cells #[.slice none 0 0, .int .i64 0, .int .i64 0] 59)) = W at *
        clear hsx c1' c2' e120 hx hge' hlt'
        go_loopw [6, 7] (fun nn i wr => ∃ (j n : Nat), 1 ≤ j ∧ j ≤ 3 ∧ i = .int .i64 j ∧ nn = .int .u8 n ∧ n < 16 ^ (j - 1) ∧ W = wr ∧ p + j ≤ s.size ∧ Hid (X = aHexK (3 - j) n (s.data.toList.drop (p + j)))) (fun _ i _ => 3 - (intOf i).toNat)
        case atStart => exact ⟨1, 0, by omega, by omega, rfl, rfl, by omega, rfl, by omega, HG.out⟩
        case round =>
          obtain ⟨k, n, hk1, hk3, rfl, rfl, hn, rfl, hpk, hX⟩ := hrel
          clear HG
          have hw1 : IntKind.i64.wrap ((p : Int) + k) = (p : Int) + k := IntWalk.i64_in _ (by omega)
          have HN := hid hn
          clear hn
          by_cases hk : k < 3
          · have hk' : (k : Int) < 3 := by omega
            have hn15 : n ≤ 15 := by
              have := HN.out
              have : k = 1 ∨ k = 2 := by omega
              rcases this with rfl | rfl <;> simp at * <;> omega
            obtain ⟨m, hm⟩ : ∃ m, 3 - k = m + 1 := ⟨2 - k, by omega⟩
            have hX' := hX.out
            rw [hm] at hX'
            by_cases hlt : p + k < s.size
            · have hlt' : (p : Int) + k < s.size := by omega
              have hge' : ¬ (s.size : Int) ≤ (p : Int) + k := by omega
              have h0p : (0 : Int) ≤ (p : Int) + k := by omega
              have htn : ((p : Int) + k).toNat = p + k := by omega
              obtain ⟨x, hsx⟩ : ∃ x, s[p + k] = x := ⟨_, rfl⟩
              have hdc : s.data.toList.drop (p + k) = s[p + k] :: s.data.toList.drop (p + k + 1) := List.drop_eq_getElem_cons (by rw [HL.out]; exact hlt)
              rw [hsx] at hdc
              rw [hdc, aHexK] at hX'
              have hpl : ((s.size - (x :: s.data.toList.drop (p + k + 1)).length : Nat) : Int) = (p : Int) + k := by
                rw [← hdc, List.length_drop, HL.out]
                omega
              have HPL := hid hpl
              have CV := value_any x W
              clear hdc hpl hX
              by_cases hv : 0 ≤ hexV x
              · have hg : isHexS x = true := by unfold isHexS; exact decide_eq_true hv
                rw [if_neg (by rw [hg]; simp)] at hX'
                obtain ⟨d, hd⟩ : ∃ d : Nat, hexV x = d := ⟨(hexV x).toNat, by omega⟩
                have hd15 : d ≤ 15 := by
                  have := hexV_bound x
                  omega
                rw [hd] at CV hX'
                have CV : Calls Tryz.prog 94 #[.int .u8 x.toNat] W fun e w' => e = .returned (.tuple #[.int .u8 d, .bool true]) ∧ W = w' := by
                  have e1 : max (d : Int) 0 = d := by omega
                  rw [e1, show decide ((0 : Int) ≤ d) = true from decide_eq_true (by omega)] at CV
                  exact CV
                have CV := hid CV
                have hwa : IntKind.u8.wrap (16 * (n : Int)) = 16 * (n : Int) := IntWalk.u8_in _ (by omega)
                have hwb : IntKind.u8.wrap (16 * (n : Int) + d) = 16 * (n : Int) + d := IntWalk.u8_in _ (by omega)
                have HC := hid (show (16 : Int) * n + d = ((16 * n + d : Nat) : Int) by omega)
                have HX2 := hid hX'
                clear hd hg hv hX'
                go_wp2_with ((with_reducible refine CV.out.mono ?_); rintro e w1 ⟨rfl, rfl⟩)
                refine ⟨⟨k + 1, 16 * n + d, by omega, by omega, by go_num, by rw [← HC.out], ?_, trivial, by omega, ?_⟩, by simp [intOf]; omega⟩
                · have := HN.out
                  have : k = 1 ∨ k = 2 := by omega
                  rcases this with rfl | rfl <;> simp at * <;> omega
                · show _ = _
                  rw [HX2.out, show 3 - (k + 1) = m by omega, show p + (k + 1) = p + k + 1 by omega, HC.out]
              · have hg : isHexS x = false := by unfold isHexS; exact decide_eq_false hv
                rw [if_pos hg] at hX'
                have CV : Calls Tryz.prog 94 #[.int .u8 x.toNat] W fun e w' => e = .returned (.tuple #[.int .u8 (max (hexV x) 0), .bool false]) ∧ W = w' := by
                  rw [decide_eq_false hv] at CV
                  exact CV
                have CV := hid CV
                have HK := hid hX'
                clear hg hv hX'
                obtain ⟨⟨d0, d1, d2⟩, dz⟩ := box3b HX.out
                have dz0 := dz 0
                have dz1 := dz 1
                have dz2 := dz 2
                have HF := hid (put3_below hb1 (Nat.le_refl _) (.slice none 0 0) (.int .i64 ((p : Int) + k)) (.int .i64 3))
                clear dz
                go_wp2_with ((with_reducible refine CV.out.mono ?_); rintro e w1 ⟨rfl, rfl⟩)
                refine bodyPost_ret (v := .agg #[.slice none 0 0, .int .i64 ((p : Int) + k), .int .i64 3]) (by simp [results, Tryz.results116, go_sem, d0, d1, d2]) rfl ?_
                rw [HK.out]
                exact ⟨by omega, by omega, by rw [HPL.out]; rfl, HF.out⟩
            · have hge : (s.size : Int) ≤ (p : Int) + k := by omega
              rw [List.drop_eq_nil_of_le (by rw [HL.out]; omega), aHexK] at hX'
              have HK := hid hX'
              have HPL : Hid (((s.size - ([] : List UInt8).length : Nat) : Int) = s.size) := by show _ = _; simp
              clear hX' hX
              obtain ⟨⟨d0, d1, d2⟩, dz⟩ := box3b HX.out
              have dz0 := dz 0
              have dz1 := dz 1
              have dz2 := dz 2
              have HF := hid (put3_below hb1 (Nat.le_refl _) (.slice none 0 0) (.int .i64 (s.size)) (.int .i64 2))
              clear dz
              go_wp2_with fail
              refine bodyPost_ret (v := .agg #[.slice none 0 0, .int .i64 (s.size), .int .i64 2]) (by simp [results, Tryz.results116, go_sem, d0, d1, d2]) rfl ?_
              rw [HK.out]
              exact ⟨by omega, by omega, by rw [HPL.out]; rfl, HF.out⟩
          · obtain rfl : k = 3 := by omega
            have hX' := hX.out
            rw [show 3 - 3 = 0 by omega, aHexK] at hX'
            have HK := hid hX'
            have hn256 : n < 256 := by have := HN.out; simpa using this
            clear hX' hX
            have hwp : IntKind.i64.wrap ((p : Int) + 3) = (p : Int) + 3 := IntWalk.i64_in _ (by omega)
            have hbx := below_new W (.cells #[.int .u8 (n : Int)] 5)
            obtain ⟨⟨d0, d1, d2⟩, dz⟩ := box3b (below_at hbx HX.out)
            have dz0 := dz 0
            have dz1 := dz 1
            have dz2 := dz 2
            have hrc := reads_const W (n : Int) n.toUInt8 (by simp; omega)
            have hri : RIn (W.alloc (.cells #[.int .u8 (n : Int)] 5)) (fun k => w.heap.size + 1 ≤ k) 1 (some ⟨W.heap.size, 0, none⟩) 1 (Lib.byteCells [n.toUInt8]) :=
              ⟨hrc.1, fun h => by
                obtain ⟨ad, e, _, hc⟩ := hrc.2 h
                injection e with e
                subst e
                exact ⟨_, rfl, by show w.heap.size + 1 ≤ W.heap.size; omega, hc⟩⟩
            have HF := hid (put3_below (hb1.trans (hbx.mono hb1.size)) (Nat.le_refl _) (.slice (some ⟨W.heap.size, 0, none⟩) 1 1) (.int .i64 ((p : Int) + 3)) (.int .i64 0))
            have HR := hid ((hri.keep (fun q hq => put3_far (w := (W.alloc (.cells #[.int .u8 (n : Int)] 5))) (b := w.heap.size) (x0 := .slice (some ⟨W.heap.size, 0, none⟩) 1 1) (x1 := .int .i64 ((p : Int) + 3)) (x2 := .int .i64 0) q (by omega))).more (S' := fun k => w.heap.size ≤ k) fun k hk => by omega)
            have HPL : Hid (((s.size - (s.data.toList.drop (p + 3)).length : Nat) : Int) = (p : Int) + 3) := by
              show _ = _
              rw [List.length_drop, HL.out]
              omega
            have HWZ := hid hWz
            clear dz hbx hrc hri hWz
            go_wp2_with fail
            refine bodyPost_ret (v := .agg #[.slice (some ⟨W.heap.size, 0, none⟩) 1 1, .int .i64 ((p : Int) + 3), .int .i64 0]) (by simp [results, Tryz.results116, go_sem, d0, d1, d2]) rfl ?_
            rw [HK.out]
            exact ⟨_, _, by rw [HPL.out]; rfl, Nat.le_refl _, HR.out, HF.out⟩
      · have e120 : ((x.toNat : Int) == 120) = false := by
          rw [beq_eq_false_iff_ne]
          exact fun e => h120 (UInt8.toNat_inj.1 (show x.toNat = 120 by omega))
        have hX : aEsc (s.data.toList.drop p) = aName (named x) x (s.data.toList.drop (p + 1)) := by
          rw [hdc, aEsc]
          cases hnm : named x with
          | some b => rfl
          | none =>
            simp only [aName]
            rw [if_neg h120, aOctal.eq_def]
            simp only
            rw [if_pos]
            unfold isOct
            simp
            omega
        rw [hX]
        have HPA : Hid (((s.size - (x :: s.data.toList.drop (p + 1)).length : Nat) : Int) = p) := by
          show _ = _
          rw [← hdc, List.length_drop, HL.out]
          omega
        have HPB : Hid (((s.size - (s.data.toList.drop (p + 1)).length : Nat) : Int) = (p : Int) + 1) := by
          show _ = _
          rw [List.length_drop, HL.out]
          omega
        have HSX := hid hsx
        have hb2 := below_new (w.alloc (.cells #[.slice none 0 0, .int .i64 0, .int .i64 0] 59)) (.cells #[.int .u8 8, .int .u8 9, .int .u8 11, .int .u8 10, .int .u8 12, .int .u8 13, .int .u8 34, .int .u8 39, .int .u8 92] 5)
        have HX2 := hid (below_at hb2 HX.out)
        have HB2 := hid (hb1.trans (hb2.mono hb1.size))
        have hWz2 : ((w.alloc (.cells #[.slice none 0 0, .int .i64 0, .int .i64 0] 59)).alloc (.cells #[.int .u8 8, .int .u8 9, .int .u8 11, .int .u8 10, .int .u8 12, .int .u8 13, .int .u8 34, .int .u8 39, .int .u8 92] 5)).heap.size = w.heap.size + 2 := by simp
        have HTO := hid (to_cells (w.alloc (.cells #[.slice none 0 0, .int .i64 0, .int .i64 0] 59)))
        rw [hWz] at HTO
        clear h120 hX hdc hb1 hb2 HX
        by_cases c1 : 48 ≤ x.toNat
        · have c1' : (48 : Int) ≤ x.toNat := by omega
          have c2' : ¬ (x.toNat : Int) ≤ 55 := by omega
          clear hoc
          go_enter Tryz.func116, Tryz.ntmps116
          go_wp2_with fail
          generalize ((w.alloc (.cells #[.slice none 0 0, .int .i64 0, .int .i64 0] 59)).alloc (.cells #[.int .u8 8, .int .u8 9, .int .u8 11, .int .u8 10, .int .u8 12, .int .u8 13, .int .u8 34, .int .u8 39, .int .u8 92] 5)) = W at *
          generalize (⟨w.heap.size + 1, 0, none⟩ : Addr) = ad at *
          obtain ⟨fr, hfr⟩ : ∃ fr, (⟨#[98, 116, 118, 110, 102, 114, 34, 39, 92]⟩ : ByteArray) = fr := ⟨_, rfl⟩
          have hfs : fr.size = 9 := by rw [← hfr]; rfl
          have HFR : Hid (∀ k : Nat, ∀ h : k < fr.size, fr[k] = escFrom.getD k 0) := by
            show ∀ k : Nat, ∀ h : k < fr.size, fr[k] = escFrom.getD k 0
            subst hfr
            intro k h
            have h : k < 9 := h
            have : k = 0 ∨ k = 1 ∨ k = 2 ∨ k = 3 ∨ k = 4 ∨ k = 5 ∨ k = 6 ∨ k = 7 ∨ k = 8 := by omega
            rcases this with rfl | rfl | rfl | rfl | rfl | rfl | rfl | rfl | rfl <;> rfl
          rw [hfr]
          clear hfr
          go_loopw [74] (fun i wr => ∃ (k : Nat), k ≤ 9 ∧ i = .int .i64 k ∧ W = wr ∧ Hid (∀ j : Nat, j < k → escFrom.getD j 0 ≠ x)) (fun i _ => 9 - (intOf i).toNat)
          case atStart => exact ⟨0, by omega, rfl, rfl, fun j hj => absurd hj (by omega)⟩
          case round =>
            obtain ⟨k, hk9, rfl, rfl, hN⟩ := hrel
            by_cases hk : k < 9
            · have hk' : (k : Int) < 9 := by omega
              have hkf : k < fr.size := by omega
              have hkf' : (k : Int) < fr.size := by omega
              obtain ⟨y, hy⟩ : ∃ y, fr[k] = y := ⟨_, rfl⟩
              have hY := hid ((HFR.out k hkf).symm.trans hy)
              by_cases hyx : y = x
              · subst hyx
                obtain ⟨b, hb⟩ : ∃ b, escTo.getD k 0 = b := ⟨_, rfl⟩
                have hnm : named y = some b := by
                  rw [← hY.out, named_at k hk, hb]
                have hcell := HTO.out k hk
                rw [hb] at hcell
                have HNM := hid hnm
                have hwp : IntKind.i64.wrap ((p : Int) + 1) = (p : Int) + 1 := IntWalk.i64_in _ (by omega)
                have hbx := below_new W (.cells #[.int .u8 (b.toNat : Int)] 5)
                obtain ⟨⟨d0, d1, d2⟩, dz⟩ := box3b (below_at hbx HX2.out)
                have dz0 := dz 0
                have dz1 := dz 1
                have dz2 := dz 2
                have hrc := reads_const W (b.toNat : Int) b rfl
                have hri : RIn (W.alloc (.cells #[.int .u8 (b.toNat : Int)] 5)) (fun k => w.heap.size + 1 ≤ k) 1 (some ⟨W.heap.size, 0, none⟩) 1 (Lib.byteCells [b]) :=
                  ⟨hrc.1, fun h => by
                    obtain ⟨ad, e, _, hc⟩ := hrc.2 h
                    injection e with e
                    subst e
                    exact ⟨_, rfl, by show w.heap.size + 1 ≤ W.heap.size; omega, hc⟩⟩
                have HF := hid (put3_below (HB2.out.trans (hbx.mono HB2.out.size)) (Nat.le_refl _) (.slice (some ⟨W.heap.size, 0, none⟩) 1 1) (.int .i64 ((p : Int) + 1)) (.int .i64 0))
                have HR := hid ((hri.keep (fun q hq => put3_far (w := (W.alloc (.cells #[.int .u8 (b.toNat : Int)] 5))) (b := w.heap.size) (x0 := .slice (some ⟨W.heap.size, 0, none⟩) 1 1) (x1 := .int .i64 ((p : Int) + 1)) (x2 := .int .i64 0) q (by omega))).more (S' := fun k => w.heap.size ≤ k) fun k hk => by omega)
                have HWZ := hid hWz2
                clear dz hbx hrc hri hWz2 hb hnm
                go_wp2_with fail
                refine bodyPost_ret (v := .agg #[.slice (some ⟨W.heap.size, 0, none⟩) 1 1, .int .i64 ((p : Int) + 1), .int .i64 0]) (by simp [results, Tryz.results116, go_sem, d0, d1, d2]) rfl ?_
                rw [HNM.out]
                exact ⟨_, _, by rw [HPB.out]; rfl, Nat.le_refl _, HR.out, HF.out⟩
              · have hne : ¬ (y.toNat : Int) = x.toNat := fun e => hyx (UInt8.toNat_inj.1 (by omega))
                have hneb : ((y.toNat : Int) == x.toNat) = false := by rw [beq_eq_false_iff_ne]; exact hne
                have HYX := hid hyx
                clear hyx
                go_wp2_with fail
                refine ⟨⟨k + 1, by omega, by go_num, trivial, fun j hj => ?_⟩, by simp [intOf]; omega⟩
                by_cases hjk : j < k
                · exact hN.out j hjk
                · obtain rfl : j = k := by omega
                  rw [hY.out]
                  exact HYX.out
            · obtain rfl : k = 9 := by omega
              have hnm : named x = none := named_none hN.out
              have HNM := hid hnm
              clear hnm
              obtain ⟨⟨d0, d1, d2⟩, dz⟩ := box3b HX2.out
              have dz0 := dz 0
              have dz1 := dz 1
              have dz2 := dz 2
              have HF := hid (put3_below HB2.out (Nat.le_refl _) (.slice none 0 0) (.int .i64 p) (.int .i64 3))
              clear dz
              go_wp2_with fail
              refine bodyPost_ret (v := .agg #[.slice none 0 0, .int .i64 p, .int .i64 3]) (by simp [results, Tryz.results116, go_sem, d0, d1, d2]) rfl ?_
              rw [HNM.out]
              exact ⟨by omega, by omega, by rw [HPA.out]; rfl, HF.out⟩
        · have c1' : ¬ (48 : Int) ≤ x.toNat := by omega
          clear hoc
          go_enter Tryz.func116, Tryz.ntmps116
          go_wp2_with fail
          generalize ((w.alloc (.cells #[.slice none 0 0, .int .i64 0, .int .i64 0] 59)).alloc (.cells #[.int .u8 8, .int .u8 9, .int .u8 11, .int .u8 10, .int .u8 12, .int .u8 13, .int .u8 34, .int .u8 39, .int .u8 92] 5)) = W at *
          generalize (⟨w.heap.size + 1, 0, none⟩ : Addr) = ad at *
          obtain ⟨fr, hfr⟩ : ∃ fr, (⟨#[98, 116, 118, 110, 102, 114, 34, 39, 92]⟩ : ByteArray) = fr := ⟨_, rfl⟩
          have hfs : fr.size = 9 := by rw [← hfr]; rfl
          have HFR : Hid (∀ k : Nat, ∀ h : k < fr.size, fr[k] = escFrom.getD k 0) := by
            show ∀ k : Nat, ∀ h : k < fr.size, fr[k] = escFrom.getD k 0
            subst hfr
            intro k h
            have h : k < 9 := h
            have : k = 0 ∨ k = 1 ∨ k = 2 ∨ k = 3 ∨ k = 4 ∨ k = 5 ∨ k = 6 ∨ k = 7 ∨ k = 8 := by omega
            rcases this with rfl | rfl | rfl | rfl | rfl | rfl | rfl | rfl | rfl <;> rfl
          rw [hfr]
          clear hfr
          go_loopw [74] (fun i wr => ∃ (k : Nat), k ≤ 9 ∧ i = .int .i64 k ∧ W = wr ∧ Hid (∀ j : Nat, j < k → escFrom.getD j 0 ≠ x)) (fun i _ => 9 - (intOf i).toNat)
          case atStart => exact ⟨0, by omega, rfl, rfl, fun j hj => absurd hj (by omega)⟩
          case round =>
            obtain ⟨k, hk9, rfl, rfl, hN⟩ := hrel
            by_cases hk : k < 9
            · have hk' : (k : Int) < 9 := by omega
              have hkf : k < fr.size := by omega
              have hkf' : (k : Int) < fr.size := by omega
              obtain ⟨y, hy⟩ : ∃ y, fr[k] = y := ⟨_, rfl⟩
              have hY := hid ((HFR.out k hkf).symm.trans hy)
              by_cases hyx : y = x
              · subst hyx
                obtain ⟨b, hb⟩ : ∃ b, escTo.getD k 0 = b := ⟨_, rfl⟩
                have hnm : named y = some b := by
                  rw [← hY.out, named_at k hk, hb]
                have hcell := HTO.out k hk
                rw [hb] at hcell
                have HNM := hid hnm
                have hwp : IntKind.i64.wrap ((p : Int) + 1) = (p : Int) + 1 := IntWalk.i64_in _ (by omega)
                have hbx := below_new W (.cells #[.int .u8 (b.toNat : Int)] 5)
                obtain ⟨⟨d0, d1, d2⟩, dz⟩ := box3b (below_at hbx HX2.out)
                have dz0 := dz 0
                have dz1 := dz 1
                have dz2 := dz 2
                have hrc := reads_const W (b.toNat : Int) b rfl
                have hri : RIn (W.alloc (.cells #[.int .u8 (b.toNat : Int)] 5)) (fun k => w.heap.size + 1 ≤ k) 1 (some ⟨W.heap.size, 0, none⟩) 1 (Lib.byteCells [b]) :=
                  ⟨hrc.1, fun h => by
                    obtain ⟨ad, e, _, hc⟩ := hrc.2 h
                    injection e with e
                    subst e
                    exact ⟨_, rfl, by show w.heap.size + 1 ≤ W.heap.size; omega, hc⟩⟩
                have HF := hid (put3_below (HB2.out.trans (hbx.mono HB2.out.size)) (Nat.le_refl _) (.slice (some ⟨W.heap.size, 0, none⟩) 1 1) (.int .i64 ((p : Int) + 1)) (.int .i64 0))
                have HR := hid ((hri.keep (fun q hq => put3_far (w := (W.alloc (.cells #[.int .u8 (b.toNat : Int)] 5))) (b := w.heap.size) (x0 := .slice (some ⟨W.heap.size, 0, none⟩) 1 1) (x1 := .int .i64 ((p : Int) + 1)) (x2 := .int .i64 0) q (by omega))).more (S' := fun k => w.heap.size ≤ k) fun k hk => by omega)
                have HWZ := hid hWz2
                clear dz hbx hrc hri hWz2 hb hnm
                go_wp2_with fail
                refine bodyPost_ret (v := .agg #[.slice (some ⟨W.heap.size, 0, none⟩) 1 1, .int .i64 ((p : Int) + 1), .int .i64 0]) (by simp [results, Tryz.results116, go_sem, d0, d1, d2]) rfl ?_
                rw [HNM.out]
                exact ⟨_, _, by rw [HPB.out]; rfl, Nat.le_refl _, HR.out, HF.out⟩
              · have hne : ¬ (y.toNat : Int) = x.toNat := fun e => hyx (UInt8.toNat_inj.1 (by omega))
                have hneb : ((y.toNat : Int) == x.toNat) = false := by rw [beq_eq_false_iff_ne]; exact hne
                have HYX := hid hyx
                clear hyx
                go_wp2_with fail
                refine ⟨⟨k + 1, by omega, by go_num, trivial, fun j hj => ?_⟩, by simp [intOf]; omega⟩
                by_cases hjk : j < k
                · exact hN.out j hjk
                · obtain rfl : j = k := by omega
                  rw [hY.out]
                  exact HYX.out
            · obtain rfl : k = 9 := by omega
              have hnm : named x = none := named_none hN.out
              have HNM := hid hnm
              clear hnm
              obtain ⟨⟨d0, d1, d2⟩, dz⟩ := box3b HX2.out
              have dz0 := dz 0
              have dz1 := dz 1
              have dz2 := dz 2
              have HF := hid (put3_below HB2.out (Nat.le_refl _) (.slice none 0 0) (.int .i64 p) (.int .i64 3))
              clear dz
              go_wp2_with fail
              refine bodyPost_ret (v := .agg #[.slice none 0 0, .int .i64 p, .int .i64 3]) (by simp [results, Tryz.results116, go_sem, d0, d1, d2]) rfl ?_
              rw [HNM.out]
              exact ⟨by omega, by omega, by rw [HPA.out]; rfl, HF.out⟩
  · have hge : (s.size : Int) ≤ p := by omega
    rw [List.drop_eq_nil_of_le (by rw [HL.out]; omega)]
    have HPL : Hid (((s.size - ([] : List UInt8).length : Nat) : Int) = s.size) := by show _ = _; simp
    obtain ⟨⟨d0, d1, d2⟩, dz⟩ := box3b HX.out
    have dz0 := dz 0
    have dz1 := dz 1
    have dz2 := dz 2
    have HF := hid (below_new w (.cells #[.slice none 0 0, .int .i64 s.size, .int .i64 2] 59))
    clear dz
    go_enter Tryz.func116, Tryz.ntmps116
    go_wp2_with fail
    refine bodyPost_ret (v := .agg #[.slice none 0 0, .int .i64 s.size, .int .i64 2]) (by simp [results, Tryz.results116, go_sem, d0, d1, d2]) rfl ?_
    exact ⟨by omega, by omega, by rw [HPL.out]; rfl, HF.out⟩
end Go.Proofs.YtcojkmcnigppbaaGreatDoor
end
section
namespace Sx
open Go Oct
def Quo (n : Nat) (X : Res (List UInt8)) (L r : List UInt8) : Prop := ∃ f, r.length < f ∧ X = addS L (aQuoted f r)
theorem Quo.end_ {n : Nat} {X : Res (List UInt8)} {L : List UInt8} (h : Quo n X L []) : X = .err 2 [] := by
  obtain ⟨f, hf, rfl⟩ := h
  cases f with
  | zero => simp at hf
  | succ f => rfl
theorem Quo.stop {n : Nat} {X : Res (List UInt8)} {L r : List UInt8} (h : Quo n X L (34 :: r)) : X = .ok L r := by
  obtain ⟨f, hf, rfl⟩ := h
  cases f with
  | zero => simp at hf
  | succ f => rw [aQuoted, if_pos rfl]; simp [addS]
theorem Quo.sign {n : Nat} {X : Res (List UInt8)} {L r : List UInt8} {c : UInt8} (h : Quo n X L (c :: r)) (h1 : c ≠ 34) (h2 : c ≠ 92) : Quo n X (L ++ [c]) r := by
  obtain ⟨f, hf, rfl⟩ := h
  cases f with
  | zero => simp at hf
  | succ f =>
    refine ⟨f, by simp at hf; omega, ?_⟩
    rw [aQuoted, if_neg h1, if_neg h2]
    cases aQuoted f r with
    | err e q => rfl
    | ok l q => simp [addS]
theorem Quo.bad {n : Nat} {X : Res (List UInt8)} {L r q : List UInt8} {k : Nat} (h : Quo n X L (92 :: r)) (h1 : aEsc r = .err k q) : X = .err k q := by
  obtain ⟨f, hf, rfl⟩ := h
  cases f with
  | zero => simp at hf
  | succ f =>
    rw [aQuoted, if_neg (by decide), if_pos rfl, h1]
    rfl
theorem aEsc_tail {r q : List UInt8} {b : UInt8} (h : aEsc r = .ok b q) : Tail q r := by
  have := aEsc_fine r
  rw [h] at this
  exact this
theorem Quo.good {n : Nat} {X : Res (List UInt8)} {L r q : List UInt8} {b : UInt8} (h : Quo n X L (92 :: r)) (h1 : aEsc r = .ok b q) : Quo n X (L ++ [b]) q := by
  obtain ⟨f, hf, rfl⟩ := h
  cases f with
  | zero => simp at hf
  | succ f =>
    have := (aEsc_tail h1).le
    refine ⟨f, by simp at hf; omega, ?_⟩
    rw [aQuoted, if_neg (by decide), if_pos rfl, h1]
    simp only
    cases aQuoted f q with
    | err e q => rfl
    | ok l q => simp [addS]
end Sx
namespace Go.Proofs.YtcojkmcnigppbaaGreatDoor
open Go Go.Proofs Go.RowKit Sx Oct
set_option maxHeartbeats 4000000 in
set_option maxRecDepth 100000 in
theorem quoted_any (s : ByteArray) (p : Nat) (w : World) (hs : s.size ≤ 1099511627776) (hp : p ≤ s.size) :
    Calls Tryz.prog 92 #[.string s, .int .i64 p] w fun e w' => BEnd s.size w e w' (aQuoted ((s.data.toList.drop p).length + 1) (s.data.toList.drop p)) := by
  obtain ⟨i0, hi, hz0, hz1, hz2⟩ := info_parts infoByte
  have hsl : s.data.toList.length = s.size := by simp
  have HL := hid hsl
  clear hsl
  generalize hg : aQuoted ((s.data.toList.drop p).length + 1) (s.data.toList.drop p) = X
  have HG : Hid (Quo 0 X [] (s.data.toList.drop p)) := ⟨_, Nat.lt_succ_self _, by rw [addS_nil, hg]⟩
  clear hg
  go_enter Tryz.func92, Tryz.ntmps92
  have hb1 := below_new w (.cells #[.slice none 0 0, .int .i64 0, .int .i64 0] 59)
  have hb2 := below_new (w.alloc (.cells #[.slice none 0 0, .int .i64 0, .int .i64 0] 59)) (.cells #[] 5)
  have hb0 := hb1.trans (hb2.mono hb1.size)
  have hB0 := hid (below_at hb2 (heap_alloc_new w (.cells #[.slice none 0 0, .int .i64 0, .int .i64 0] 59)))
  have hz1' : (w.alloc (.cells #[.slice none 0 0, .int .i64 0, .int .i64 0] 59)).heap.size = w.heap.size + 1 := by simp
  have hoe := owns_empty (w.alloc (.cells #[.slice none 0 0, .int .i64 0, .int .i64 0] 59))
  rw [hz1'] at hoe
  have hsz0 : w.heap.size + 1 ≤ ((w.alloc (.cells #[.slice none 0 0, .int .i64 0, .int .i64 0] 59)).alloc (.cells #[] 5)).heap.size := by simp
  clear hb1 hb2 hz1'
  go_wp2_with fail
  generalize ((w.alloc (.cells #[.slice none 0 0, .int .i64 0, .int .i64 0] 59)).alloc (.cells #[] 5)) = W at *
  go_loopw [1, 5] (fun i v wr => ∃ (j : Nat) (L : List UInt8), j ≤ s.size ∧ i = .int .i64 j ∧ L.length ≤ j ∧ wr.ownsRow (w.heap.size + 1) 5 1 v L.length (Lib.byteCells L) ∧ Below w.heap.size w wr ∧
    Hid (wr.heap[w.heap.size]? = some (Obj.cells #[.slice none 0 0, .int .i64 0, .int .i64 0] 59 (0, 0))) ∧ w.heap.size + 1 ≤ wr.heap.size ∧ Hid (Quo 0 X L (s.data.toList.drop j))) (fun i _ _ => s.size - (intOf i).toNat)
  case atStart => exact ⟨p, [], hp, rfl, Nat.zero_le _, hoe, hb0, hB0.out, hsz0, HG.out⟩
  case round =>
    obtain ⟨j, L, hj, rfl, hLj, hown, hbel, hB, hszr, hX⟩ := hrel
    clear hoe hb0 hB0 HG hsz0
    by_cases hlt : j < s.size
    · have hlt' : (j : Int) < s.size := by omega
      have hdc : s.data.toList.drop j = s[j] :: s.data.toList.drop (j + 1) := List.drop_eq_getElem_cons (by rw [HL.out]; exact hlt)
      obtain ⟨x, hsx⟩ : ∃ x, s[j] = x := ⟨_, rfl⟩
      rw [hsx] at hdc
      have hX' := hX.out
      rw [hdc] at hX'
      have HX' := hid hX'
      have hwj : IntKind.i64.wrap ((j : Int) + 1) = (j : Int) + 1 := IntWalk.i64_in _ (by omega)
      clear hX' hdc hX
      by_cases h34 : x = 34
      · have e34 : ((x.toNat : Int) == 34) = true := by rw [h34]; rfl
        rw [h34] at HX'
        have HXX := hid HX'.out.stop
        have HPB : Hid (((s.size - (s.data.toList.drop (j + 1)).length : Nat) : Int) = (j : Int) + 1) := by
          show _ = _
          rw [List.length_drop, HL.out]
          omega
        obtain ⟨A3, c3, hv, hc3, hri⟩ := RIn.of_own hown
        subst hv
        obtain ⟨⟨d0, d1, d2⟩, dz⟩ := box3b hB.out
        have dz0 := dz 0
        have dz1 := dz 1
        have dz2 := dz 2
        have HF := hid (put3_below hbel (Nat.le_refl _) (.slice A3 L.length c3) (.int .i64 ((j : Int) + 1)) (.int .i64 0))
        have HR := hid ((hri.keep (fun q hq => put3_far (w := wr) (b := w.heap.size) (x0 := .slice A3 L.length c3) (x1 := .int .i64 ((j : Int) + 1)) (x2 := .int .i64 0) q (by omega))).more (S' := fun k => w.heap.size ≤ k) fun k hk => by omega)
        clear dz hri hown HX' h34
        go_wp2_with fail
        refine bodyPost_ret (v := .agg #[.slice A3 L.length c3, .int .i64 ((j : Int) + 1), .int .i64 0]) (by simp [results, Tryz.results92, go_sem, d0, d1, d2]) rfl ?_
        rw [HXX.out]
        exact ⟨A3, c3, by rw [HPB.out], hc3, HR.out, HF.out⟩
      · have h34' : ¬ (x.toNat : Int) = 34 := fun e => h34 (UInt8.toNat_inj.1 (show x.toNat = 34 by omega))
        have e34 : ((x.toNat : Int) == 34) = false := by rw [beq_eq_false_iff_ne]; exact h34'
        by_cases h92 : x = 92
        · have e92 : ((x.toNat : Int) == 92) = true := by rw [h92]; rfl
          have e92' : ((x.toNat : Int) != 92) = false := by rw [h92]; rfl
          rw [h92] at HX'
          have CE := escaped_any s (j + 1) wr hs (by omega)
          have ec : ((j + 1 : Nat) : Int) = (j : Int) + 1 := by omega
          rw [ec] at CE
          have CE := hid CE
          clear h34 h92 ec
          cases hE : aEsc (s.data.toList.drop (j + 1)) with
          | err k q =>
            have HXX := hid (HX'.out.bad hE)
            rw [hE] at CE
            have hkk : 2 ≤ k ∧ k ≤ 4 := by
              have := aEsc_fine (s.data.toList.drop (j + 1))
              rw [hE] at this
              exact ⟨this.1, this.2.1⟩
            obtain ⟨hk1, hk2⟩ := hkk
            have hk0 : ¬ ((k : Int) = 0) := by omega
            clear hE HX' hown
            go_wp2_with fail
            refine CE.out.mono ?_
            rintro e w2 ⟨-, -, rfl, hb2⟩
            have hw2 := hbel.trans (hb2.mono hbel.size)
            have hbx := below_new w2 (.cells #[.slice none 0 0, .int .i64 (s.size - q.length : Nat), .int .i64 k] 59)
            have X0 := heap_alloc_new w2 (.cells #[.slice none 0 0, .int .i64 0, .int .i64 0] 59)
            obtain ⟨⟨f0, f1, f2⟩, fz⟩ := box3b X0
            have fz0 := fz 0
            have fz1 := fz 1
            have fz2 := fz 2
            obtain ⟨⟨g0, g1, g2⟩, gz⟩ := box3b (below_at hbx (below_at hb2 hB.out))
            have gz0 := gz 0
            have gz1 := gz 1
            have gz2 := gz 2
            have HF := hid (put3_below (hw2.trans (hbx.mono hw2.size)) (Nat.le_refl _) (.slice none 0 0) (.int .i64 (s.size - q.length : Nat)) (.int .i64 k))
            clear fz gz X0 hbx hb2
            go_wp2_with fail
            refine bodyPost_ret (v := .agg #[.slice none 0 0, .int .i64 (s.size - q.length : Nat), .int .i64 k]) (by simp [results, Tryz.results92, go_sem, g0, g1, g2]) rfl ?_
            rw [HXX.out]
            exact ⟨hk1, hk2, rfl, HF.out⟩
          | ok b q =>
            have HN := hid (HX'.out.good hE)
            rw [hE] at CE
            have htl := aEsc_tail hE
            have hql := htl.le
            rw [List.length_drop, HL.out] at hql
            have hqd : s.data.toList.drop (s.size - q.length) = q := by
              have := (htl.trans (Tail.drop s.data.toList (j + 1))).at_
              rw [HL.out] at this
              exact this
            have HQD := hid hqd
            obtain ⟨a, ha⟩ : ∃ a : Nat, s.size - q.length = a := ⟨_, rfl⟩
            have hja : j + 1 ≤ a := by omega
            have has : a ≤ s.size := by omega
            rw [ha] at HQD
            have HA := hid (congrArg (fun n : Nat => (n : Int)) ha)
            clear hE HX' htl hqd ha
            go_wp2_with fail
            refine CE.out.mono ?_
            rintro e w2 ⟨A2, c2, rfl, hc2, hri, hb2⟩
            have hri : RIn w2 (fun k => wr.heap.size ≤ k) 1 A2 1 (Lib.byteCells [b]) := hri
            have HAa : ((s.size - q.length : Nat) : Int) = a := HA.out
            rw [HAa]
            clear HAa
            have hw2 := hbel.trans (hb2.mono hbel.size)
            have hbx := below_new w2 (.cells #[.slice A2 1 c2, .int .i64 a, .int .i64 0] 59)
            have hBx := hid (below_at hbx (below_at hb2 hB.out))
            have hw3 := hw2.trans (hbx.mono hw2.size)
            have hownA := own_below hown hb2
            have hown3 := hownA.alloc (.cells #[.slice A2 1 c2, .int .i64 a, .int .i64 0] 59)
            have hrd := (hri.reads (by omega)).alloc (Nat.le_refl _) (.cells #[.slice A2 1 c2, .int .i64 a, .int .i64 0] 59)
            have X0 := heap_alloc_new w2 (.cells #[.slice A2 1 c2, .int .i64 a, .int .i64 0] 59)
            obtain ⟨⟨f0, f1, f2⟩, fz⟩ := box3b X0
            have hz3 : (w2.alloc (.cells #[.slice A2 1 c2, .int .i64 a, .int .i64 0] 59)).heap.size = w2.heap.size + 1 := by simp
            have hzb := hb2.size
            clear X0 hri hown hbx hb2 hw2
            go_wp2_with (at_builtin; refine wpList_append_any _ rfl (.tmp 38) (.tmp 40) 22 rfl (w.heap.size + 1) 5 i0 (.int .u8 0) 1 1 Tryz.underlying22 hi hz0 hz1 hz2 rfl (by decide) _ _ _ rfl hown3 w2.heap.size _ 1 c2 (Lib.byteCells [b]) rfl hrd (Lib.byteCells_one _) (by unfold maxLen; omega) (by omega) (by omega) ?_)
            intro v' w4 hown' hgrow _
            have hz4 := hgrow.size
            have hbel4 : Below w.heap.size w w4 := hw3.grown hgrow (by omega) (fun k hk => by have := (hown3.lt k hk).1; omega)
            have hB4 := hid ((hgrow.block w.heap.size (by omega) (fun e => by have := (hown3.lt _ e.symm).1; omega)).trans hBx.out)
            have g1 : w4.cell? ⟨w2.heap.size, 1, none⟩ = some (.int .i64 a) := by
              rw [World.cell?_of_block (hgrow.block w2.heap.size (by omega) (fun e => by have := (hownA.lt _ e.symm).2; omega))]
              exact f1
            have hown4 : w4.ownsRow (w.heap.size + 1) 5 1 v' (L ++ [b]).length (Lib.byteCells (L ++ [b])) := by
              rw [Lib.byteCells_append, List.length_append]
              exact hown'
            clear hown' hgrow hown3 hbel hB hrd f0 f1 f2 fz hBx
            go_wp2_with fail
            exact ⟨⟨a, L ++ [b], has, rfl, by simp; omega, hown4, hbel4, hB4.out, by omega, by rw [HQD.out]; exact HN.out⟩, by simp [intOf]; omega⟩
        · have e92 : ((x.toNat : Int) == 92) = false := by
            rw [beq_eq_false_iff_ne]
            exact fun e => h92 (UInt8.toNat_inj.1 (show x.toNat = 92 by omega))
          have e92' : ((x.toNat : Int) != 92) = true := by rw [bne, e92]; rfl
          have h92' : ¬ (x.toNat : Int) = 92 := fun e => h92 (UInt8.toNat_inj.1 (show x.toNat = 92 by omega))
          have HN := hid (HX'.out.sign h34 h92)
          have hrd := reads_one wr x (0, 0)
          clear h34 h92 HX'
          go_wp2_with (at_builtin; refine wpList_append_any _ rfl (.tmp 24) (.tmp 26) 22 rfl (w.heap.size + 1) 5 i0 (.int .u8 0) 1 1 Tryz.underlying22 hi hz0 hz1 hz2 rfl (by decide) _ _ _ rfl (hown.alloc _) (wr.heap.size + 1) _ 1 1 (Lib.byteCells [x]) rfl hrd (Lib.byteCells_one _) (by unfold maxLen; omega) (by omega) (by simp; omega) ?_)
          intro v' w2 hown' hgrow _
          have hbx := below_new wr (.cells #[.int .u8 x.toNat] 5)
          have hbel2 : Below w.heap.size w w2 := (hbel.trans (hbx.mono hbel.size)).grown hgrow (by have := hbel.size; simp; omega) (fun k hk => by have := (hown.lt k hk).1; omega)
          have hB2 := hid ((hgrow.block w.heap.size (by simp; omega) (fun e => by have := (hown.lt _ e.symm).1; omega)).trans (below_at hbx hB.out))
          have hown2 : w2.ownsRow (w.heap.size + 1) 5 1 v' (L ++ [x]).length (Lib.byteCells (L ++ [x])) := by
            rw [Lib.byteCells_append, List.length_append]
            exact hown'
          have hz2' := hgrow.size
          simp at hz2'
          clear hown' hgrow hown hbel hB hbx hrd
          go_wp2_with fail
          exact ⟨⟨j + 1, L ++ [x], by omega, by go_num, by simp; omega, hown2, hbel2, hB2.out, by omega, HN.out⟩, by simp [intOf]; omega⟩
    · obtain rfl : j = s.size := by omega
      have hX' := hX.out
      rw [List.drop_eq_nil_of_le (by rw [HL.out]; exact Nat.le_refl _)] at hX'
      have HXX := hid hX'.end_
      have HPL : Hid (((s.size - ([] : List UInt8).length : Nat) : Int) = s.size) := by show _ = _; simp
      obtain ⟨⟨d0, d1, d2⟩, dz⟩ := box3b hB.out
      have dz0 := dz 0
      have dz1 := dz 1
      have dz2 := dz 2
      have HF := hid (put3_below hbel (Nat.le_refl _) (.slice none 0 0) (.int .i64 s.size) (.int .i64 2))
      clear dz hown hX hX'
      go_wp2_with fail
      refine bodyPost_ret (v := .agg #[.slice none 0 0, .int .i64 s.size, .int .i64 2]) (by simp [results, Tryz.results92, go_sem, d0, d1, d2]) rfl ?_
      rw [HXX.out]
      exact ⟨by omega, by omega, by rw [HPL.out]; rfl, HF.out⟩
end Go.Proofs.YtcojkmcnigppbaaGreatDoor
end
section
namespace Go.Proofs.YtcojkmcnigppbaaGreatDoor
open Go Go.Proofs Go.RowKit Oct
set_option maxHeartbeats 1000000 in
set_option maxRecDepth 100000 in
theorem refLen_any (A : Option Addr) (n c : Nat) (l : List UInt8) (B : Nat) (a m : Int) (w : World) (hr : Reads w B 1 A n (Lib.byteCells l)) (hn : n ≤ maxLen) (ha : -9223372036854775808 ≤ a ∧ a ≤ 9223372036854775807) (hm : -9223372036854775808 ≤ m ∧ m ≤ 1000000000000000) :
    Calls Tryz.prog 115 #[.slice A n c, .int .i64 a, .int .i64 m] w (GetLenEnd (getLen l a m) w) := by
  have hl : l.length = n := by have := hr.1; simpa [Lib.byteCells_length] using this
  unfold maxLen at hn
  by_cases h0 : a < 0
  · have HG : Hid (getLen l a m = (0, a, 1)) := by show _ = _; simp [getLen, h0]
    go_enter Tryz.func115, Tryz.ntmps115
    go_wp2
    go_ret3
    exact ⟨by rw [HG.out]; rfl, rfl⟩
  · obtain ⟨k, rfl⟩ := Int.eq_ofNat_of_zero_le (show 0 ≤ a by omega)
    by_cases h1 : n ≤ k
    · have HG : Hid (getLen l (k : Int) m = (0, (k : Int), 2)) := by show _ = _; simp [getLen, List.drop_of_length_le (show l.length ≤ k by omega)]
      go_enter Tryz.func115, Tryz.ntmps115
      go_wp2
      go_ret3
      exact ⟨by rw [HG.out]; rfl, rfl⟩
    · have hk : k < n := by omega
      obtain ⟨ad, u, rfl, hab, hu, hc⟩ := hr.at_ hk
      have hkl : k < l.length := by omega
      obtain ⟨x, hx⟩ : ∃ x : UInt8, x = l[k] := ⟨_, rfl⟩
      have hu' : u = .int .u8 x.toNat := by
        simp [Lib.byteCells, List.getElem?_map, List.getElem?_eq_getElem hkl] at hu
        rw [hx]; exact hu.symm
      subst hu'
      have hdrop : l.drop k = x :: l.drop (k + 1) := by rw [hx]; exact List.drop_eq_getElem_cons hkl
      have HD := hid hdrop; have HX := hid hx; have HL := hid hl
      clear hdrop hx hu hl
      by_cases h2 : isDig x = false
      · have HG : Hid (getLen l (k : Int) m = (0, (k : Int), 3)) := by show _ = _; simp [getLen, HD.out, h2]
        have hx2 : x.toNat < 48 ∨ 57 < x.toNat := by
          have : ¬ (48 ≤ x.toNat ∧ x.toNat ≤ 57) := by simpa [isDig] using h2
          omega
        clear h2
        by_cases hx4 : x.toNat < 48
        all_goals
          go_enter Tryz.func115, Tryz.ntmps115
          go_wp2
          go_ret3
          exact ⟨by rw [HG.out]; rfl, rfl⟩
      · have h2 : isDig x = true := by simpa using h2
        by_cases h3 : x = 48
        · subst h3
          have HG : Hid (getLen l (k : Int) m = (0, (k : Int) + 1, 0)) := by
            show getLen l (k : Int) m = _
            unfold getLen
            rw [if_neg h0, Int.toNat_natCast, HD.out]
            rfl
          go_enter Tryz.func115, Tryz.ntmps115
          go_wp2
          go_ret3
          exact ⟨by rw [HG.out]; rfl, rfl⟩
        · obtain ⟨M, hM⟩ : ∃ M, M = (max m 0).toNat := ⟨_, rfl⟩
          have hM' : max m 0 = (M : Int) := by omega
          have hM2 : M ≤ 9223372036854775807 := by omega
          have hx0 : x.toNat ≠ 48 := fun h => h3 (UInt8.toNat_inj.1 h)
          have HG : ∀ r, Hid (digs M (l.drop k) 0 = r) → Hid (getLen l (k : Int) m = match r with | none => (0, (k : Int), 4) | some (v, q) => ((v : Int), (k : Int) + q, 0)) := by
            intro r hrr
            show getLen l (k : Int) m = _
            unfold getLen
            rw [if_neg h0, Int.toNat_natCast, HD.out]
            show (if isDig x = false then _ else if x = 48 then _ else _) = _
            rw [if_neg (by rw [h2]; simp), if_neg h3, ← hM, ← HD.out, hrr.out]
            try rfl
          have HG := hid HG
          have HM := hid hM'
          have hbd : 48 ≤ x.toNat ∧ x.toNat ≤ 57 := by simpa [isDig] using h2
          have hxB : ((x.toNat : Int) == 48) = false := by
            rw [beq_eq_false_iff_ne]; omega
          have hxB : ((x.toNat : Int) == 48) = false := by
            rw [beq_eq_false_iff_ne]; omega
          have hM3 : M ≤ 1000000000000000 := by omega
          clear hM hM' h3
          go_enter Tryz.func115, Tryz.ntmps115
          go_wp2
          clear hxB
          go_loop [9, 10] (fun a b => ∃ (v j : Nat), k ≤ j ∧ j ≤ n ∧ v ≤ M ∧ a = .int .i64 v ∧ b = .int .i64 j ∧ digs M (l.drop k) 0 = (digs M (l.drop j) v).map fun p => (p.1, p.2 + (j - k))) (fun _ b => n - (intOf b).toNat)
          case atStart => exact ⟨0, k, Nat.le_refl _, by omega, Nat.zero_le _, rfl, rfl, by simp⟩
          case round =>
            obtain ⟨v, j, hkj, hjn, hvM, rfl, rfl, hdg⟩ := hrel
            have HDG := hid hdg
            clear hdg hc
            have hMx := HM.out
            by_cases hj : j < n
            · obtain ⟨ad', u, had, _, hu, hc⟩ := hr.at_ hj
              injection had with had
              subst had
              have hll : l.length = n := HL.out
              have hjl : j < l.length := by omega
              obtain ⟨y, hy⟩ : ∃ y : UInt8, y = l[j] := ⟨_, rfl⟩
              have hu' : u = .int .u8 y.toNat := by
                simp [Lib.byteCells, List.getElem?_map, List.getElem?_eq_getElem hjl] at hu
                rw [hy]; exact hu.symm
              subst hu'
              have hdr : l.drop j = y :: l.drop (j + 1) := by rw [hy]; exact List.drop_eq_getElem_cons hjl
              have HDR := hid hdr
              clear hdr hy hu hll
              by_cases hd : isDig y = true
              · have hyb : 48 ≤ y.toNat ∧ y.toNat ≤ 57 := by simpa [isDig] using hd
                by_cases hbad : 10 * v + (y.toNat - 48) > M
                · have hf := HG.out none (show _ = _ by rw [HDG.out, HDR.out, digs, if_pos hd, if_pos hbad]; rfl)
                  have HF := hid hf
                  clear hf
                  go_wp2
                  go_ret3
                  exact ⟨by rw [HF.out]; rfl, rfl⟩
                · have hstep : Hid (digs M (l.drop k) 0 = (digs M (l.drop (j + 1)) (10 * v + (y.toNat - 48))).map fun p => (p.1, p.2 + (j + 1 - k))) := by
                    show _ = _
                    rw [HDG.out, HDR.out, digs, if_pos hd, if_neg hbad, Option.map_map]
                    refine congrFun (congrArg Option.map (funext fun p => ?_)) _
                    show (p.1, p.2 + 1 + (j - k)) = (p.1, p.2 + (j + 1 - k))
                    congr 1; omega
                  go_wp2
                  exact ⟨⟨10 * v + (y.toNat - 48), j + 1, by omega, by omega, by omega, int_eq (by omega), int_eq (by omega), hstep.out⟩, by simp [intOf]; omega⟩
              · have hd : isDig y = false := by simpa using hd
                have hyb : ¬ (48 ≤ y.toNat ∧ y.toNat ≤ 57) := by simpa [isDig] using hd
                have hf := HG.out (some (v, j - k)) (show _ = _ by rw [HDG.out, HDR.out, digs, if_neg (by rw [hd]; simp)]; simp)
                have HF := hid hf
                clear hf
                by_cases hy4 : 48 ≤ y.toNat
                all_goals
                  go_wp2
                  go_ret3
                  exact ⟨by rw [HF.out]; exact ret3_int rfl (show (_ : Int) = (k : Int) + ((j - k : Nat) : Int) by omega) rfl, rfl⟩
            · obtain rfl : j = n := by omega
              have hf := HG.out (some (v, j - k)) (show _ = _ by rw [HDG.out, List.drop_of_length_le (by rw [HL.out]; exact Nat.le_refl _), digs]; simp)
              have HF := hid hf
              clear hf
              go_wp2
              go_ret3
              exact ⟨by rw [HF.out]; exact ret3_int rfl (show (_ : Int) = (k : Int) + ((j - k : Nat) : Int) by omega) rfl, rfl⟩
end Go.Proofs.YtcojkmcnigppbaaGreatDoor
end
section
namespace Go.Proofs.YtcojkmcnigppbaaGreatDoor
open Go Go.Proofs Go.RowKit Sx Oct
theorem at_drop {w : World} {B n : Nat} {A : Option Addr} {b : List UInt8} (hr : Reads w B 1 A n (Lib.byteCells b)) {p : Nat} (hp : p < n) {x : UInt8} {s : List UInt8} (hs : b.drop p = x :: s) :
    ∃ ad, A = some ad ∧ ad.block < B ∧ w.cell? (ad.add p) = some (.int .u8 x.toNat) := by
  obtain ⟨ad, u, rfl, hB, hu, hc⟩ := hr.at_ hp
  have hb : b[p]? = some x := by
    have := congrArg List.head? hs
    rw [List.head?_drop] at this
    simpa using this
  simp [Lib.byteCells, List.getElem?_map, hb] at hu
  exact ⟨ad, rfl, hB, by rw [hc, ← hu]⟩
theorem RIn.lo {w : World} {B L m : Nat} {A : Option Addr} {xs : List Value} (h : RIn w (fun k => k < B) 1 A m xs) (hL : 0 < m → ∀ ad, A = some ad → L ≤ ad.block) : RIn w (fun k => L ≤ k ∧ k < B) 1 A m xs :=
  ⟨h.1, fun hm => by obtain ⟨ad, e, hB, hx⟩ := h.2 hm; exact ⟨ad, e, ⟨hL hm ad e, hB⟩, hx⟩⟩
def RBytesEnd (w : World) (L B n : Nat) (e : Ending) (w' : World) : Res (List UInt8) → Prop
  | .err k rest => ∃ A c, e = .returned (.tuple #[.slice A 0 c, .int .i64 (n - rest.length : Nat), .int .i64 k]) ∧ Below w.heap.size w w'
  | .ok l rest => ∃ A' c', e = .returned (.tuple #[.slice A' l.length c', .int .i64 (n - rest.length : Nat), .int .i64 0]) ∧ l.length ≤ c' ∧ RIn w' (fun k => L ≤ k ∧ k < B) 1 A' l.length (Lib.byteCells l) ∧ Below w.heap.size w w'
set_option maxHeartbeats 4000000 in
set_option maxRecDepth 100000 in
theorem refBytes_any (A : Option Addr) (n c : Nat) (p : Nat) (b : List UInt8) (L B : Nat) (w : World) (hr : Reads w B 1 A n (Lib.byteCells b)) (hLo : ∀ ad, A = some ad → L ≤ ad.block) (hBw : B ≤ w.heap.size) (hp : p ≤ n) (hn : n ≤ 5000) (hc : n ≤ c) (s : List UInt8) (hs : b.drop p = s) :
    Calls Tryz.prog 118 #[.slice A n c, .int .i64 p] w fun e w' => RBytesEnd w L B n e w' (pBytes s) := by
  have hl : b.length = n := by have := hr.1; simpa [Lib.byteCells_length] using this
  have hsl : s.length = n - p := by rw [← hs, List.length_drop, hl]
  have hG := getLen_pLen b s p (by omega) hs
  have C : Calls Tryz.prog 115 #[.slice A n c, .int .i64 p, .int .i64 4096] w fun e w' => e = .returned (.tuple #[.int .i64 (getLen b p 4096).1, .int .i64 (getLen b p 4096).2.1, .int .i64 (getLen b p 4096).2.2]) ∧ w' = w :=
    refLen_any A n c b B p 4096 w hr (by unfold maxLen; omega) (by omega) (by omega)
  unfold pBytes
  cases hpl : pLen s with
  | err k rest =>
    rw [hpl] at hG
    simp only at hG
    rw [hG] at C
    obtain ⟨rfl, hk⟩ := pLen_err hpl
    simp only
    have HC := hid C
    have hpp : n - rest.length = p := by omega
    rcases hk with ⟨rfl, hnil⟩ | ⟨rfl, hnil⟩ | ⟨rfl, hnil⟩
    · subst hnil
      have hpn : ((n - ([] : List UInt8).length : Nat) : Int) = n := by simp
      clear C hr hs hpl hG hpp
      go_enter Tryz.func118, Tryz.ntmps118
      go_wp2_with ((with_reducible refine HC.out.mono ?_); rintro e w2 ⟨rfl, rfl⟩)
      go_ret3
      exact ⟨_, _, rfl, below_new _ _⟩
    all_goals
      clear C hr hs hpl hG
      go_enter Tryz.func118, Tryz.ntmps118
      go_wp2_with ((with_reducible refine HC.out.mono ?_); rintro e w2 ⟨rfl, rfl⟩)
      go_ret3
      exact ⟨_, _, by rw [hpp]; rfl, below_new _ _⟩
  | ok m rest =>
    rw [hpl] at hG
    simp only at hG
    rw [hG] at C
    obtain ⟨hs1, hm⟩ := pLen_sound hpl
    obtain ⟨hd1, hq1, hq2⟩ := drop_rest (by omega) hs hs1
    rw [hl] at hd1 hq1 C
    simp only
    cases rest with
    | nil =>
      simp only
      have hpn : ((n - ([] : List UInt8).length : Nat) : Int) = n := by simp
      rw [hpn] at C
      have HC := hid C
      have HP := hid hpn
      clear C hpl hr hs hs1 hd1 hq1 hq2 hsl hl hG hpn
      go_enter Tryz.func118, Tryz.ntmps118
      go_wp2_with ((with_reducible refine HC.out.mono ?_); rintro e w2 ⟨rfl, rfl⟩)
      go_ret3
      exact ⟨_, _, by rw [HP.out]; rfl, below_new _ _⟩
    | cons c0 r2 =>
      simp only
      have hlr : (c0 :: r2).length = r2.length + 1 := by simp
      have hle : r2.length + 1 ≤ n := by have := congrArg List.length hs1; rw [List.length_append, hlr] at this; omega
      obtain ⟨q, hq⟩ : ∃ q, q = n - (c0 :: r2).length := ⟨_, rfl⟩
      have hqn : q + r2.length + 1 = n := by omega
      rw [← hq] at C hd1
      obtain ⟨ad, rfl, hadB, hcell⟩ := at_drop hr (p := q) (by omega) hd1
      have hq0 : (0 : Int) ≤ q := by omega
      have hqlt : (q : Int) < n := by omega
      have hqge : ¬ (n : Int) ≤ q := by omega
      have HC := hid C
      have HQ := hid hq
      have HR := hid hr
      have hd2 : b.drop (q + 1) = r2 := by rw [← List.drop_drop, hd1]; rfl
      have HD := hid hd2
      clear C hpl hr hs hs1 hd1 hq1 hq2 hsl hl hG hq hd2
      by_cases hc0 : c0 ≠ 58
      · rw [if_pos hc0]
        have hne : ((c0.toNat : Int) == 58) = false := by
          rw [beq_eq_false_iff_ne]
          intro e
          exact hc0 (UInt8.toNat_inj.1 (by show c0.toNat = 58; omega))
        go_enter Tryz.func118, Tryz.ntmps118
        go_wp2_with ((with_reducible refine HC.out.mono ?_); rintro e w2 ⟨rfl, rfl⟩)
        go_ret3
        exact ⟨_, _, by rw [HQ.out]; rfl, below_new _ _⟩
      · rw [if_neg hc0]
        have hc0 : c0 = 58 := Classical.not_not.1 hc0
        subst hc0
        by_cases hlt : r2.length < m
        · rw [if_pos hlt]
          have hbig : (n : Int) - q - 1 < m := by omega
          have hpn : ((n - ([] : List UInt8).length : Nat) : Int) = n := by simp
          have HP := hid hpn
          clear hpn
          go_enter Tryz.func118, Tryz.ntmps118
          go_wp2_with ((with_reducible refine HC.out.mono ?_); rintro e w2 ⟨rfl, rfl⟩)
          go_ret3
          exact ⟨_, _, by rw [HP.out]; rfl, below_new _ _⟩
        · rw [if_neg hlt]
          have hsm : ¬ (n : Int) - q - 1 < m := by omega
          have hmle : q + 1 + m ≤ n := by omega
          have hdr : n - (r2.drop m).length = q + 1 + m := by rw [List.length_drop]; omega
          have htl : (r2.take m).length = m := by rw [List.length_take]; omega
          have HDR := hid hdr
          have HTL := hid htl
          have hsub := sub_reads (q := q + 1) HR.out HD.out hmle hc
          have i1 : (q : Int) + 1 ≤ (q : Int) + 1 + m := by omega
          have i2 : (q : Int) + 1 + m ≤ c := by omega
          have i3 : (0 : Int) ≤ (q : Int) + 1 + m := by omega
          have i4 : ((q : Int) + 1 + m).toNat = q + 1 + m := by omega
          have i4' : ((q : Int) + 1).toNat = q + 1 := by omega
          have i5 : IntKind.i64.wrap ((q : Int) + 1 + m) = (q : Int) + 1 + m := IntWalk.i64_in _ (by omega)
          have i5' : IntKind.i64.wrap ((q : Int) + 1) = (q : Int) + 1 := IntWalk.i64_in _ (by omega)
          have i6 : q + 1 ≤ q + 1 + m := by omega
          have i7 : q + 1 + m ≤ c := by omega
          have i8 : q + 1 + m - (q + 1) = m := by omega
          have i9 : ((q + 1 + m : Nat) : Int) = (q : Int) + 1 + m := by omega
          clear hdr htl hlt
          by_cases hcq : c = q + 1
          · rw [if_pos hcq] at hsub
            subst hcq
            have HSU := hid hsub
            clear hsub
            go_enter Tryz.func118, Tryz.ntmps118
            go_wp2_with ((with_reducible refine HC.out.mono ?_); rintro e w2 ⟨rfl, rfl⟩)
            go_ret3
            exact ⟨_, _, by rw [HTL.out, HDR.out, i9]; rfl, by rw [HTL.out]; omega, by rw [HTL.out]; exact HSU.out.lo (fun h0 => by omega), Below.refl _ _⟩
          · rw [if_neg hcq, Option.map_some] at hsub
            have e10 : ad.add (q + 1) = ⟨ad.block, ad.off + (q + 1), none⟩ := by unfold Addr.add; rw [if_neg (by omega)]
            rw [e10] at hsub
            have HSU := hid hsub
            clear hsub e10
            go_enter Tryz.func118, Tryz.ntmps118
            go_wp2_with ((with_reducible refine HC.out.mono ?_); rintro e w2 ⟨rfl, rfl⟩)
            go_ret3
            exact ⟨_, _, by rw [HTL.out, HDR.out, i9]; rfl, by rw [HTL.out]; omega, by rw [HTL.out]; exact HSU.out.lo (fun _ ad2 e2 => by injection e2 with e2; subst e2; exact hLo ad rfl), Below.refl _ _⟩
end Go.Proofs.YtcojkmcnigppbaaGreatDoor
end
section
namespace Go.Proofs.YtcojkmcnigppbaaGreatDoor
open Go Go.Proofs Go.RowKit Sx Oct
set_option maxHeartbeats 4000000 in
set_option maxRecDepth 100000 in
theorem length3_any (s : ByteArray) (p : Nat) (w : World) (hs : s.size ≤ 1099511627776) (hp : p ≤ s.size) :
    Calls Tryz.prog 91 #[.string s, .int .i64 p] w fun e w' => BEnd s.size w e w' (pBytes (s.data.toList.drop p)) := by
  have hsl : s.data.toList.length = s.size := by simp
  have HL := hid hsl
  have hb1 := below_new w (.cells #[.slice none 0 0, .int .i64 0, .int .i64 0] 59)
  have HX := hid (heap_alloc_new w (.cells #[.slice none 0 0, .int .i64 0, .int .i64 0] 59))
  have hWz : (w.alloc (.cells #[.slice none 0 0, .int .i64 0, .int .i64 0] 59)).heap.size = w.heap.size + 1 := by simp
  have hG := getLen_pLen s.data.toList _ p (by omega) rfl
  have hdl : (s.data.toList.drop p).length = s.size - p := by rw [List.length_drop, hsl]
  clear hsl
  unfold pBytes
  have HNP : Hid (((s.size - ([] : List UInt8).length : Nat) : Int) = s.size) := by show _ = _; simp
  cases hpl : pLen (s.data.toList.drop p) with
  | err k rest =>
    rw [hpl] at hG
    simp only at hG ⊢
    obtain ⟨rfl, hk⟩ := pLen_err hpl
    have HPL : Hid (((s.size - (s.data.toList.drop p).length : Nat) : Int) = p) := by
      show _ = _
      rw [hdl]
      omega
    have HGG := hid hG
    have hk1 : 2 ≤ k ∧ k ≤ 4 := by omega
    have hk0 : ¬ ((k : Int) = 0) := by omega
    clear hk hG hpl hdl
    go_enter Tryz.func91, Tryz.ntmps91
    go_wp2_with fail
    generalize (w.alloc (.cells #[.slice none 0 0, .int .i64 0, .int .i64 0] 59)) = W at *
    rw [Lib.run_convert_string_bytes W 9 22 5 _ Tryz.underlying9 Tryz.underlying22 Tryz.underlying5]
    simp only [Result.andThen]
    rw [Oper.upon_value]
    have hr := (HoldsBytes.new W s).reads
    rw [HL.out, hWz] at hr
    have hb3 := bytesWorld_below W s
    have hcap := grownCap_ge W s.size 0 5
    generalize Lib.bytesWorld W 5 s = w3 at *
    generalize grownCap W s.size 0 5 = cap at *
    have CL := refLen_any _ s.size cap s.data.toList _ p 4096 w3 hr (by unfold maxLen; omega) (by omega) (by omega)
    unfold GetLenEnd at CL
    rw [HGG.out] at CL
    have CL := hid CL
    have hw3 := hb1.trans (hb3.mono hb1.size)
    have HX3 := hid (below_at hb3 HX.out)
    obtain ⟨⟨d0, d1, d2⟩, dz⟩ := box3b HX3.out
    have dz0 := dz 0
    have dz1 := dz 1
    have dz2 := dz 2
    clear dz hr hb3
    have HF := hid (put3_below hw3 (Nat.le_refl _) (.slice none 0 0) (.int .i64 p) (.int .i64 k))
    go_wp2_with ((with_reducible refine CL.out.mono ?_); rintro e w9 ⟨rfl, rfl⟩)
    refine bodyPost_ret (v := .agg #[.slice none 0 0, .int .i64 p, .int .i64 k]) (by simp [results, Tryz.results91, go_sem, d0, d1, d2]) rfl ?_
    exact ⟨by omega, by omega, by rw [HPL.out]; first | done | rfl, HF.out⟩
  | ok m rest =>
    rw [hpl] at hG
    simp only at hG ⊢
    obtain ⟨hs1, hm⟩ := pLen_sound hpl
    obtain ⟨hd1, hq1, hq2⟩ := drop_rest (by rw [HL.out]; omega) rfl hs1
    rw [HL.out] at hd1 hq1 hG
    cases rest with
    | nil =>
      simp only
      rw [HNP.out] at hG
      have HGG := hid hG
      have HPL := HNP
      clear hG hpl hdl hs1 hd1 hq1 hq2
      go_enter Tryz.func91, Tryz.ntmps91
      go_wp2_with fail
      generalize (w.alloc (.cells #[.slice none 0 0, .int .i64 0, .int .i64 0] 59)) = W at *
      rw [Lib.run_convert_string_bytes W 9 22 5 _ Tryz.underlying9 Tryz.underlying22 Tryz.underlying5]
      simp only [Result.andThen]
      rw [Oper.upon_value]
      have hr := (HoldsBytes.new W s).reads
      rw [HL.out, hWz] at hr
      have hb3 := bytesWorld_below W s
      have hcap := grownCap_ge W s.size 0 5
      generalize Lib.bytesWorld W 5 s = w3 at *
      generalize grownCap W s.size 0 5 = cap at *
      have CL := refLen_any _ s.size cap s.data.toList _ p 4096 w3 hr (by unfold maxLen; omega) (by omega) (by omega)
      unfold GetLenEnd at CL
      rw [HGG.out] at CL
      have CL := hid CL
      have hw3 := hb1.trans (hb3.mono hb1.size)
      have HX3 := hid (below_at hb3 HX.out)
      obtain ⟨⟨d0, d1, d2⟩, dz⟩ := box3b HX3.out
      have dz0 := dz 0
      have dz1 := dz 1
      have dz2 := dz 2
      clear dz hr hb3
      have HF := hid (put3_below hw3 (Nat.le_refl _) (.slice none 0 0) (.int .i64 s.size) (.int .i64 2))
      go_wp2_with ((with_reducible refine CL.out.mono ?_); rintro e w9 ⟨rfl, rfl⟩)
      refine bodyPost_ret (v := .agg #[.slice none 0 0, .int .i64 s.size, .int .i64 2]) (by simp [results, Tryz.results91, go_sem, d0, d1, d2]) rfl ?_
      exact ⟨by omega, by omega, by rw [HPL.out]; first | done | rfl, HF.out⟩
    | cons c0 r2 =>
      simp only
      have hlr : (c0 :: r2).length = r2.length + 1 := by simp
      have hle : r2.length + 1 ≤ s.size := by have := congrArg List.length hs1; rw [List.length_append, hlr] at this; omega
      obtain ⟨q, hq⟩ : ∃ q, q = s.size - (c0 :: r2).length := ⟨_, rfl⟩
      have hqn : q + r2.length + 1 = s.size := by omega
      rw [← hq] at hG hd1
      have hqlt : q < s.size := by omega
      have hsx : s[q] = c0 := by
        have := List.drop_eq_getElem_cons (l := s.data.toList) (i := q) (by rw [HL.out]; exact hqlt)
        rw [hd1] at this
        injection this with h1 h2
        exact h1.symm
      have hqlt' : (q : Int) < s.size := by omega
      have hqge : ¬ (s.size : Int) ≤ q := by omega
      have HGG := hid hG
      have HQ := hid hq
      have hd2 : s.data.toList.drop (q + 1) = r2 := by rw [← List.drop_drop, hd1]; rfl
      have HD := hid hd2
      clear hG hpl hdl hs1 hd1 hq1 hq2 hq hd2
      by_cases hc0 : c0 ≠ 58
      · rw [if_pos hc0]
        have hne : ((c0.toNat : Int) == 58) = false := by
          rw [beq_eq_false_iff_ne]
          intro e
          exact hc0 (UInt8.toNat_inj.1 (by show c0.toNat = 58; omega))
        have hne' : ((c0.toNat : Int) != 58) = true := by rw [bne, hne]; rfl
        have HPL : Hid (((s.size - (c0 :: r2).length : Nat) : Int) = q) := by show _ = _; rw [← HQ.out]
        clear hc0
        go_enter Tryz.func91, Tryz.ntmps91
        go_wp2_with fail
        generalize (w.alloc (.cells #[.slice none 0 0, .int .i64 0, .int .i64 0] 59)) = W at *
        rw [Lib.run_convert_string_bytes W 9 22 5 _ Tryz.underlying9 Tryz.underlying22 Tryz.underlying5]
        simp only [Result.andThen]
        rw [Oper.upon_value]
        have hr := (HoldsBytes.new W s).reads
        rw [HL.out, hWz] at hr
        have hb3 := bytesWorld_below W s
        have hcap := grownCap_ge W s.size 0 5
        generalize Lib.bytesWorld W 5 s = w3 at *
        generalize grownCap W s.size 0 5 = cap at *
        have CL := refLen_any _ s.size cap s.data.toList _ p 4096 w3 hr (by unfold maxLen; omega) (by omega) (by omega)
        unfold GetLenEnd at CL
        rw [HGG.out] at CL
        have CL := hid CL
        have hw3 := hb1.trans (hb3.mono hb1.size)
        have HX3 := hid (below_at hb3 HX.out)
        obtain ⟨⟨d0, d1, d2⟩, dz⟩ := box3b HX3.out
        have dz0 := dz 0
        have dz1 := dz 1
        have dz2 := dz 2
        clear dz hr hb3
        have HF := hid (put3_below hw3 (Nat.le_refl _) (.slice none 0 0) (.int .i64 q) (.int .i64 3))
        go_wp2_with ((with_reducible refine CL.out.mono ?_); rintro e w9 ⟨rfl, rfl⟩)
        refine bodyPost_ret (v := .agg #[.slice none 0 0, .int .i64 q, .int .i64 3]) (by simp [results, Tryz.results91, go_sem, d0, d1, d2]) rfl ?_
        exact ⟨by omega, by omega, by rw [HPL.out]; first | done | rfl, HF.out⟩
      · rw [if_neg hc0]
        have hc0 : c0 = 58 := Classical.not_not.1 hc0
        subst hc0
        by_cases hlt : r2.length < m
        · rw [if_pos hlt]
          have hbig : (s.size : Int) - q - 1 < m := by omega
          have HPL := HNP
          go_enter Tryz.func91, Tryz.ntmps91
          go_wp2_with fail
          generalize (w.alloc (.cells #[.slice none 0 0, .int .i64 0, .int .i64 0] 59)) = W at *
          rw [Lib.run_convert_string_bytes W 9 22 5 _ Tryz.underlying9 Tryz.underlying22 Tryz.underlying5]
          simp only [Result.andThen]
          rw [Oper.upon_value]
          have hr := (HoldsBytes.new W s).reads
          rw [HL.out, hWz] at hr
          have hb3 := bytesWorld_below W s
          have hcap := grownCap_ge W s.size 0 5
          generalize Lib.bytesWorld W 5 s = w3 at *
          generalize grownCap W s.size 0 5 = cap at *
          have CL := refLen_any _ s.size cap s.data.toList _ p 4096 w3 hr (by unfold maxLen; omega) (by omega) (by omega)
          unfold GetLenEnd at CL
          rw [HGG.out] at CL
          have CL := hid CL
          have hw3 := hb1.trans (hb3.mono hb1.size)
          have HX3 := hid (below_at hb3 HX.out)
          obtain ⟨⟨d0, d1, d2⟩, dz⟩ := box3b HX3.out
          have dz0 := dz 0
          have dz1 := dz 1
          have dz2 := dz 2
          clear dz hr hb3
          have HF := hid (put3_below hw3 (Nat.le_refl _) (.slice none 0 0) (.int .i64 s.size) (.int .i64 2))
          go_wp2_with ((with_reducible refine CL.out.mono ?_); rintro e w9 ⟨rfl, rfl⟩)
          refine bodyPost_ret (v := .agg #[.slice none 0 0, .int .i64 s.size, .int .i64 2]) (by simp [results, Tryz.results91, go_sem, d0, d1, d2]) rfl ?_
          exact ⟨by omega, by omega, by rw [HPL.out]; first | done | rfl, HF.out⟩
        · rw [if_neg hlt]
          have hsm : ¬ (s.size : Int) - q - 1 < m := by omega
          have hmle : q + 1 + m ≤ s.size := by omega
          have i0 : (0 : Int) ≤ (q : Int) + 1 := by omega
          have htl : (r2.take m).length = m := by rw [List.length_take]; omega
          obtain ⟨sub, hsub⟩ : ∃ sub, s.extract (q + 1) (q + 1 + m) = sub := ⟨_, rfl⟩
          have hsd : sub.data.toList = r2.take m := by
            rw [← hsub, ← HD.out]
            have e : s = ⟨s.data.toList.toArray⟩ := by cases s; simp
            conv => lhs; rw [e]
            rw [ByteArray.extract_mk]
            simp
          have hsz : sub.size = m := by
            have h1 : sub.data.toList.length = sub.size := by simp
            rw [← h1, hsd, htl]
          have HPL : Hid (((s.size - (r2.drop m).length : Nat) : Int) = (q : Int) + 1 + m) := by
            show _ = _
            rw [List.length_drop]
            omega
          have i1 : (q : Int) + 1 ≤ (q : Int) + 1 + m := by omega
          have i2 : (q : Int) + 1 + m ≤ s.size := by omega
          have i3 : (0 : Int) ≤ (q : Int) + 1 + m := by omega
          have i4 : ((q : Int) + 1 + m).toNat = q + 1 + m := by omega
          have i4' : ((q : Int) + 1).toNat = q + 1 := by omega
          have i5 : IntKind.i64.wrap ((q : Int) + 1 + m) = (q : Int) + 1 + m := IntWalk.i64_in _ (by omega)
          have i5' : IntKind.i64.wrap ((q : Int) + 1) = (q : Int) + 1 := IntWalk.i64_in _ (by omega)
          go_enter Tryz.func91, Tryz.ntmps91
          go_wp2_with fail
          generalize (w.alloc (.cells #[.slice none 0 0, .int .i64 0, .int .i64 0] 59)) = W at *
          rw [Lib.run_convert_string_bytes W 9 22 5 _ Tryz.underlying9 Tryz.underlying22 Tryz.underlying5]
          simp only [Result.andThen]
          rw [Oper.upon_value]
          have hr := (HoldsBytes.new W s).reads
          rw [HL.out, hWz] at hr
          have hb3 := bytesWorld_below W s
          have hz3 := hb3.size
          rw [hWz] at hz3
          have hcap := grownCap_ge W s.size 0 5
          generalize Lib.bytesWorld W 5 s = w3 at *
          generalize grownCap W s.size 0 5 = cap at *
          have CL := refLen_any _ s.size cap s.data.toList _ p 4096 w3 hr (by unfold maxLen; omega) (by omega) (by omega)
          unfold GetLenEnd at CL
          rw [HGG.out] at CL
          have CL := hid CL
          have hw3 := hb1.trans (hb3.mono hb1.size)
          have HX3 := hid (below_at hb3 HX.out)
          obtain ⟨⟨d0, d1, d2⟩, dz⟩ := box3b HX3.out
          have dz0 := dz 0
          have dz1 := dz 1
          have dz2 := dz 2
          clear dz hr hb3
          go_wp2_with ((with_reducible refine CL.out.mono ?_); rintro e w9 ⟨rfl, rfl⟩)
          try rw [hsub]
          rw [Lib.run_convert_string_bytes w9 9 22 5 _ Tryz.underlying9 Tryz.underlying22 Tryz.underlying5]
          simp only [Result.andThen]
          rw [Oper.upon_value]
          have hr2 := (HoldsBytes.new w9 sub).reads
          rw [hsd, htl] at hr2
          have hb4 := bytesWorld_below w9 sub
          have hcap4 := grownCap_ge w9 sub.size 0 5
          rw [hsz] at hcap4 ⊢
          generalize Lib.bytesWorld w9 5 sub = w4 at *
          generalize grownCap w9 m 0 5 = cap4 at *
          have hw4 := hw3.trans (hb4.mono hw3.size)
          have HX4 := hid (below_at hb4 HX3.out)
          clear d0 d1 d2 dz0 dz1 dz2
          obtain ⟨⟨d0, d1, d2⟩, dz⟩ := box3b HX4.out
          have dz0 := dz 0
          have dz1 := dz 1
          have dz2 := dz 2
          have hri : RIn w4 (fun k => w.heap.size + 1 ≤ k) 1 (some ⟨w9.heap.size, 0, none⟩) m (Lib.byteCells (r2.take m)) := ⟨hr2.1, fun hn => by
            obtain ⟨ad, e, _, hc⟩ := hr2.2 hn
            injection e with e
            subst e
            exact ⟨_, rfl, by show w.heap.size + 1 ≤ w9.heap.size; omega, hc⟩⟩
          have HF := hid (put3_below hw4 (Nat.le_refl _) (.slice (some ⟨w9.heap.size, 0, none⟩) m cap4) (.int .i64 ((q : Int) + 1 + m)) (.int .i64 0))
          have HR := hid ((hri.keep (fun p hp => put3_far (w := w4) (b := w.heap.size) (x0 := .slice (some ⟨w9.heap.size, 0, none⟩) m cap4) (x1 := .int .i64 ((q : Int) + 1 + m)) (x2 := .int .i64 0) p (by omega))).more (S' := fun k => w.heap.size ≤ k) fun k hk => by omega)
          have HTL := hid htl
          clear dz hr2 hri hb4 hsub hsd hsz htl
          go_wp2_with fail
          refine bodyPost_ret (v := .agg #[.slice (some ⟨w9.heap.size, 0, none⟩) m cap4, .int .i64 ((q : Int) + 1 + m), .int .i64 0]) (by simp [results, Tryz.results91, go_sem, d0, d1, d2]) rfl ?_
          exact ⟨_, _, by rw [HPL.out, HTL.out], by rw [HTL.out]; exact hcap4, by rw [HTL.out]; exact HR.out, HF.out⟩
end Go.Proofs.YtcojkmcnigppbaaGreatDoor
end
section
namespace Go.Proofs.YtcojkmcnigppbaaGreatDoor
open Go Go.Proofs Go.RowKit Sx Oct
theorem BEnd.below {n : Nat} {w W : World} {e : Ending} {x : Res (List UInt8)} (h : BEnd n w e W x) : Below w.heap.size w W := by
  cases x with
  | err k q => exact h.2.2.2
  | ok l q =>
    obtain ⟨A, c, _, _, _, h4⟩ := h
    exact h4
theorem tok_not {x : UInt8} (h : isTok x = true) : x ≠ 34 ∧ x ≠ 35 ∧ x ≠ 124 := by
  refine ⟨?_, ?_, ?_⟩ <;> (rintro rfl; revert h; decide)
set_option maxHeartbeats 4000000 in
set_option maxRecDepth 100000 in
theorem plain3_any (s : ByteArray) (p : Nat) (w : World) (hs : s.size ≤ 1099511627776) (hp : p ≤ s.size) :
    Calls Tryz.prog 62 #[.string s, .int .i64 p] w fun e w' => BEnd s.size w e w' (aPlain (s.data.toList.drop p)) := by
  have hsl : s.data.toList.length = s.size := by simp
  have HL := hid hsl
  clear hsl
  have hb1 := below_new w (.cells #[.slice none 0 0, .int .i64 0, .int .i64 0] 59)
  have HX := hid (heap_alloc_new w (.cells #[.slice none 0 0, .int .i64 0, .int .i64 0] 59))
  have hWz : (w.alloc (.cells #[.slice none 0 0, .int .i64 0, .int .i64 0] 59)).heap.size = w.heap.size + 1 := by simp
  by_cases hlt : p < s.size
  · obtain ⟨x, hsx⟩ : ∃ x, s[p] = x := ⟨_, rfl⟩
    have hdc : s.data.toList.drop p = s[p] :: s.data.toList.drop (p + 1) := List.drop_eq_getElem_cons (by rw [HL.out]; exact hlt)
    rw [hsx] at hdc
    have hlt' : (p : Int) < s.size := by omega
    have hge' : ¬ (s.size : Int) ≤ p := by omega
    have CN := number_any x (w.alloc (.cells #[.slice none 0 0, .int .i64 0, .int .i64 0] 59))
    cases hD : isDig x with
    | true =>
      have hX : aPlain (s.data.toList.drop p) = pBytes (s.data.toList.drop p) := by
        rw [hdc, aPlain, if_pos hD]
      rw [hX]
      have CO := hid (length3_any s p (w.alloc (.cells #[.slice none 0 0, .int .i64 0, .int .i64 0] 59)) hs hp)
      rw [hD] at CN
      have CN := hid CN
      clear hX hdc hD
      go_enter Tryz.func62, Tryz.ntmps62
      go_wp2_with ((with_reducible refine CN.out.mono ?_); rintro e w1 ⟨rfl, rfl⟩)
      refine CO.out.mono ?_
      intro e w2 hE
      obtain ⟨v0, a, b, rfl, A0, l0, c0, rfl⟩ := hE.up
      have hb2 := hE.below
      obtain ⟨⟨d0, d1, d2⟩, dz⟩ := box3b (below_at hb2 HX.out)
      have dz0 := dz 0
      have dz1 := dz 1
      have dz2 := dz 2
      have HF := hid (hE.put hb1 hWz)
      clear dz hb2 hE
      go_wp2_with fail
      exact bodyPost_ret (v := .agg #[.slice A0 l0 c0, .int .i64 a, .int .i64 b]) (by simp [results, Tryz.results62, go_sem, d0, d1, d2]) rfl HF.out
    | false =>
      rw [hD] at CN
      have CN := hid CN
      have hwp : IntKind.i64.wrap ((p : Int) + 1) = (p : Int) + 1 := IntWalk.i64_in _ (by omega)
      have ec : ((p + 1 : Nat) : Int) = (p : Int) + 1 := by omega
      cases hT : isTok x with
      | true =>
        have hX : aPlain (s.data.toList.drop p) = .ok ((s.data.toList.drop p).takeWhile isTok) ((s.data.toList.drop p).dropWhile isTok) := by
          rw [hdc, aPlain, if_neg (by rw [hD]; simp), if_pos hT]
        rw [hX]
        obtain ⟨n34, n35, n124⟩ := tok_not hT
        have e34 : ((x.toNat : Int) == 34) = false := by rw [beq_eq_false_iff_ne]; exact fun e => n34 (UInt8.toNat_inj.1 (show x.toNat = 34 by omega))
        have e35 : ((x.toNat : Int) == 35) = false := by rw [beq_eq_false_iff_ne]; exact fun e => n35 (UInt8.toNat_inj.1 (show x.toNat = 35 by omega))
        have e124 : ((x.toNat : Int) == 124) = false := by rw [beq_eq_false_iff_ne]; exact fun e => n124 (UInt8.toNat_inj.1 (show x.toNat = 124 by omega))
        have m34 : ¬ (x.toNat : Int) = 34 := fun e => n34 (UInt8.toNat_inj.1 (show x.toNat = 34 by omega))
        have m35 : ¬ (x.toNat : Int) = 35 := fun e => n35 (UInt8.toNat_inj.1 (show x.toNat = 35 by omega))
        have m124 : ¬ (x.toNat : Int) = 124 := fun e => n124 (UInt8.toNat_inj.1 (show x.toNat = 124 by omega))
        have CT := tokSign_any x (w.alloc (.cells #[.slice none 0 0, .int .i64 0, .int .i64 0] 59))
        rw [hT] at CT
        have CT := hid CT
        obtain ⟨D, hDD⟩ : ∃ D, (s.data.toList.drop p).dropWhile isTok = D := ⟨_, rfl⟩
        obtain ⟨T, hTT⟩ : ∃ T, (s.data.toList.drop p).takeWhile isTok = T := ⟨_, rfl⟩
        have hTD : s.data.toList.drop p = T ++ D := by rw [← hTT, ← hDD]; exact List.takeWhile_append_dropWhile.symm
        have HDP := hid hTD
        have HTD : Hid ((s.data.toList.drop p).length = s.size - p) := by show _ = _; rw [List.length_drop, HL.out]
        rw [hDD, hTT]
        have HG := hid hDD
        clear hX hdc hD hT n34 n35 n124 hTD hDD hTT
        go_enter Tryz.func62, Tryz.ntmps62
        go_wp2_with (first
          | ((with_reducible refine CN.out.mono ?_); rintro e w1 ⟨rfl, rfl⟩)
          | ((with_reducible refine CT.out.mono ?_); rintro e w1 ⟨rfl, rfl⟩))
        generalize (w.alloc (.cells #[.slice none 0 0, .int .i64 0, .int .i64 0] 59)) = W at *
        clear hsx CN CT e34 e35 e124 m34 m35 m124 hlt' hge'
        go_loopw [6] (fun i wr => ∃ j : Nat, p ≤ j ∧ j ≤ s.size ∧ i = .int .i64 j ∧ Hid ((s.data.toList.drop j).dropWhile isTok = D) ∧ W = wr) (fun i _ => s.size - (intOf i).toNat)
        case atStart => exact ⟨p, Nat.le_refl _, hp, rfl, HG.out, rfl⟩
        case round =>
          obtain ⟨j, hpj, hj, rfl, hq, rfl⟩ := hrel
          clear HG
          by_cases hjl : j < s.size
          · have hjl' : (j : Int) < s.size := by omega
            have hjc : s.data.toList.drop j = s[j] :: s.data.toList.drop (j + 1) := List.drop_eq_getElem_cons (by rw [HL.out]; exact hjl)
            obtain ⟨y, hsy⟩ : ∃ y, s[j] = y := ⟨_, rfl⟩
            rw [hsy] at hjc
            have hq' := hq.out
            rw [hjc] at hq'
            have HDL := hid (congrArg List.length hjc)
            have CT := tokSign_any y W
            cases hT : isTok y with
            | true =>
              rw [hT] at CT
              have CT := hid CT
              have HN : Hid ((s.data.toList.drop (j + 1)).dropWhile isTok = D) := by
                show _ = _
                rw [List.dropWhile_cons, if_pos hT] at hq'
                exact hq'
              have hwj : IntKind.i64.wrap ((j : Int) + 1) = (j : Int) + 1 := IntWalk.i64_in _ (by omega)
              clear hT hq' hjc hq
              go_wp2_with ((with_reducible refine CT.out.mono ?_); rintro e w1 ⟨rfl, rfl⟩)
              exact ⟨⟨j + 1, by omega, by omega, by go_num, HN.out, trivial⟩, by simp [intOf]; omega⟩
            | false =>
              rw [hT] at CT
              have CT := hid CT
              have HN : Hid ((s.size - D.length : Nat) = j) := by
                show _ = _
                rw [List.dropWhile_cons, if_neg (by rw [hT]; simp)] at hq'
                have h2 := HDL.out
                rw [hq', List.length_drop, HL.out] at h2
                omega
              clear hT hq' hjc hq
              have hsz : s.size - D.length = j := HN.out
              have htl : T.length = j - p := by have := HTD.out; rw [HDP.out, List.length_append] at this; omega
              obtain ⟨sub, hsub⟩ : ∃ sub, s.extract p j = sub := ⟨_, rfl⟩
              have hsd : sub.data.toList = T := by
                rw [← hsub]
                have e : s = ⟨s.data.toList.toArray⟩ := by cases s; simp
                conv => lhs; rw [e]
                rw [ByteArray.extract_mk, HDP.out, ← htl]
                simp
              have hss : sub.size = T.length := by
                have h1 : sub.data.toList.length = sub.size := by simp
                rw [← h1, hsd]
              have i0 : (0 : Int) ≤ p := by omega
              have i1 : (p : Int) ≤ j := by omega
              have i2 : (j : Int) ≤ s.size := by omega
              go_wp2_with ((with_reducible refine CT.out.mono ?_); rintro e w1 ⟨rfl, rfl⟩)
              try rw [hsub]
              rw [Lib.run_convert_string_bytes W 9 22 5 _ Tryz.underlying9 Tryz.underlying22 Tryz.underlying5]
              simp only [Result.andThen]
              rw [Oper.upon_value]
              have hr2 := (HoldsBytes.new W sub).reads
              rw [hsd] at hr2
              have hb4 := bytesWorld_below W sub
              have hcap4 := grownCap_ge W sub.size 0 5
              rw [hss] at hcap4 ⊢
              generalize Lib.bytesWorld W 5 sub = w4 at *
              generalize grownCap W T.length 0 5 = cap4 at *
              have hw4 := hb1.trans (hb4.mono hb1.size)
              have HX4 := hid (below_at hb4 HX.out)
              obtain ⟨⟨d0, d1, d2⟩, dz⟩ := box3b HX4.out
              have dz0 := dz 0
              have dz1 := dz 1
              have dz2 := dz 2
              have hri : RIn w4 (fun k => w.heap.size + 1 ≤ k) 1 (some ⟨W.heap.size, 0, none⟩) T.length (Lib.byteCells T) := ⟨hr2.1, fun hn => by
                obtain ⟨ad, e, _, hc⟩ := hr2.2 hn
                injection e with e
                subst e
                exact ⟨_, rfl, by show w.heap.size + 1 ≤ W.heap.size; omega, hc⟩⟩
              have HF := hid (put3_below hw4 (Nat.le_refl _) (.slice (some ⟨W.heap.size, 0, none⟩) T.length cap4) (.int .i64 j) (.int .i64 0))
              have HR := hid ((hri.keep (fun p hp => put3_far (w := w4) (b := w.heap.size) (x0 := .slice (some ⟨W.heap.size, 0, none⟩) T.length cap4) (x1 := .int .i64 j) (x2 := .int .i64 0) p (by omega))).more (S' := fun k => w.heap.size ≤ k) fun k hk => by omega)
              have HJ := hid hsz
              have HWZ := hid hWz
              clear dz hr2 hri hb4 hsub hsd hss htl hsz hWz
              rw [HWZ.out] at HF HR ⊢
              go_wp2_with fail
              refine bodyPost_ret (v := .agg #[.slice (some ⟨w.heap.size + 1, 0, none⟩) T.length cap4, .int .i64 j, .int .i64 0]) (by simp [results, Tryz.results62, go_sem, d0, d1, d2]) rfl ?_
              exact ⟨_, _, by rw [HJ.out], hcap4, HR.out, HF.out⟩
          · obtain rfl : j = s.size := by omega
            have HN : Hid ((s.size - D.length : Nat) = s.size) := by
              show _ = _
              have h1 := hq.out
              rw [List.drop_eq_nil_of_le (by rw [HL.out]; exact Nat.le_refl _)] at h1
              rw [← h1]
              simp
            have hsz : s.size - D.length = s.size := HN.out
            have htl : T.length = s.size - p := by have := HTD.out; rw [HDP.out, List.length_append] at this; omega
            obtain ⟨sub, hsub⟩ : ∃ sub, s.extract p s.size = sub := ⟨_, rfl⟩
            have hsd : sub.data.toList = T := by
              rw [← hsub]
              have e : s = ⟨s.data.toList.toArray⟩ := by cases s; simp
              conv => lhs; rw [e]
              rw [ByteArray.extract_mk, HDP.out, ← htl]
              simp
            have hss : sub.size = T.length := by
              have h1 : sub.data.toList.length = sub.size := by simp
              rw [← h1, hsd]
            have i0 : (0 : Int) ≤ p := by omega
            have i1 : (p : Int) ≤ s.size := by omega
            have i2 : (s.size : Int) ≤ s.size := by omega
            go_wp2_with fail
            try rw [hsub]
            rw [Lib.run_convert_string_bytes W 9 22 5 _ Tryz.underlying9 Tryz.underlying22 Tryz.underlying5]
            simp only [Result.andThen]
            rw [Oper.upon_value]
            have hr2 := (HoldsBytes.new W sub).reads
            rw [hsd] at hr2
            have hb4 := bytesWorld_below W sub
            have hcap4 := grownCap_ge W sub.size 0 5
            rw [hss] at hcap4 ⊢
            generalize Lib.bytesWorld W 5 sub = w4 at *
            generalize grownCap W T.length 0 5 = cap4 at *
            have hw4 := hb1.trans (hb4.mono hb1.size)
            have HX4 := hid (below_at hb4 HX.out)
            obtain ⟨⟨d0, d1, d2⟩, dz⟩ := box3b HX4.out
            have dz0 := dz 0
            have dz1 := dz 1
            have dz2 := dz 2
            have hri : RIn w4 (fun k => w.heap.size + 1 ≤ k) 1 (some ⟨W.heap.size, 0, none⟩) T.length (Lib.byteCells T) := ⟨hr2.1, fun hn => by
              obtain ⟨ad, e, _, hc⟩ := hr2.2 hn
              injection e with e
              subst e
              exact ⟨_, rfl, by show w.heap.size + 1 ≤ W.heap.size; omega, hc⟩⟩
            have HF := hid (put3_below hw4 (Nat.le_refl _) (.slice (some ⟨W.heap.size, 0, none⟩) T.length cap4) (.int .i64 s.size) (.int .i64 0))
            have HR := hid ((hri.keep (fun p hp => put3_far (w := w4) (b := w.heap.size) (x0 := .slice (some ⟨W.heap.size, 0, none⟩) T.length cap4) (x1 := .int .i64 s.size) (x2 := .int .i64 0) p (by omega))).more (S' := fun k => w.heap.size ≤ k) fun k hk => by omega)
            have HJ := hid hsz
            have HWZ := hid hWz
            clear dz hr2 hri hb4 hsub hsd hss htl hsz hWz
            rw [HWZ.out] at HF HR ⊢
            go_wp2_with fail
            refine bodyPost_ret (v := .agg #[.slice (some ⟨w.heap.size + 1, 0, none⟩) T.length cap4, .int .i64 s.size, .int .i64 0]) (by simp [results, Tryz.results62, go_sem, d0, d1, d2]) rfl ?_
            exact ⟨_, _, by rw [HJ.out], hcap4, HR.out, HF.out⟩
      | false =>
        have CT := tokSign_any x (w.alloc (.cells #[.slice none 0 0, .int .i64 0, .int .i64 0] 59))
        rw [hT] at CT
        have CT := hid CT
        by_cases h34 : x = 34
        · have hX : aPlain (s.data.toList.drop p) = aQuoted ((s.data.toList.drop (p + 1)).length + 1) (s.data.toList.drop (p + 1)) := by
            rw [hdc, aPlain, if_neg (by rw [hD]; simp), if_neg (by rw [hT]; simp), if_pos h34]
          rw [hX]
          have e34 : ((x.toNat : Int) == 34) = true := by rw [h34]; rfl
          have CO := quoted_any s (p + 1) (w.alloc (.cells #[.slice none 0 0, .int .i64 0, .int .i64 0] 59)) hs (by omega)
          rw [ec] at CO
          have CO := hid CO
          clear hX hdc hD hT h34 ec
          go_enter Tryz.func62, Tryz.ntmps62
          go_wp2_with ((with_reducible refine CN.out.mono ?_); rintro e w1 ⟨rfl, rfl⟩)
          refine CO.out.mono ?_
          intro e w2 hE
          obtain ⟨v0, a, b, rfl, A0, l0, c0, rfl⟩ := hE.up
          have hb2 := hE.below
          obtain ⟨⟨d0, d1, d2⟩, dz⟩ := box3b (below_at hb2 HX.out)
          have dz0 := dz 0
          have dz1 := dz 1
          have dz2 := dz 2
          have HF := hid (hE.put hb1 hWz)
          clear dz hb2 hE
          go_wp2_with fail
          exact bodyPost_ret (v := .agg #[.slice A0 l0 c0, .int .i64 a, .int .i64 b]) (by simp [results, Tryz.results62, go_sem, d0, d1, d2]) rfl HF.out
        have m34 : ¬ (x.toNat : Int) = 34 := fun e => h34 (UInt8.toNat_inj.1 (show x.toNat = 34 by omega))
        have e34 : ((x.toNat : Int) == 34) = false := by rw [beq_eq_false_iff_ne]; exact m34
        by_cases h35 : x = 35
        · have hX : aPlain (s.data.toList.drop p) = aMean unhex (aSome isHexS 35 (s.data.toList.drop (p + 1))) := by
            rw [hdc, aPlain, if_neg (by rw [hD]; simp), if_neg (by rw [hT]; simp), if_neg h34, if_pos h35]
          rw [hX]
          have e35 : ((x.toNat : Int) == 35) = true := by rw [h35]; rfl
          have CO := hex3_any s (p + 1) (w.alloc (.cells #[.slice none 0 0, .int .i64 0, .int .i64 0] 59)) hs (by omega)
          rw [ec] at CO
          have CO := hid CO
          clear hX hdc hD hT h34 h35 ec
          go_enter Tryz.func62, Tryz.ntmps62
          go_wp2_with ((with_reducible refine CN.out.mono ?_); rintro e w1 ⟨rfl, rfl⟩)
          refine CO.out.mono ?_
          intro e w2 hE
          obtain ⟨v0, a, b, rfl, A0, l0, c0, rfl⟩ := hE.up
          have hb2 := hE.below
          obtain ⟨⟨d0, d1, d2⟩, dz⟩ := box3b (below_at hb2 HX.out)
          have dz0 := dz 0
          have dz1 := dz 1
          have dz2 := dz 2
          have HF := hid (hE.put hb1 hWz)
          clear dz hb2 hE
          go_wp2_with fail
          exact bodyPost_ret (v := .agg #[.slice A0 l0 c0, .int .i64 a, .int .i64 b]) (by simp [results, Tryz.results62, go_sem, d0, d1, d2]) rfl HF.out
        have m35 : ¬ (x.toNat : Int) = 35 := fun e => h35 (UInt8.toNat_inj.1 (show x.toNat = 35 by omega))
        have e35 : ((x.toNat : Int) == 35) = false := by rw [beq_eq_false_iff_ne]; exact m35
        by_cases h124 : x = 124
        · have hX : aPlain (s.data.toList.drop p) = aMean ub64 (aSome isB64S 124 (s.data.toList.drop (p + 1))) := by
            rw [hdc, aPlain, if_neg (by rw [hD]; simp), if_neg (by rw [hT]; simp), if_neg h34, if_neg h35, if_pos h124]
          rw [hX]
          have e124 : ((x.toNat : Int) == 124) = true := by rw [h124]; rfl
          have CO := b643_any s 124 (p + 1) (w.alloc (.cells #[.slice none 0 0, .int .i64 0, .int .i64 0] 59)) hs (by omega)
          rw [ec] at CO
          have CO : Calls Tryz.prog 39 #[.string s, .int .i64 ((p : Int) + 1), .int .u8 124] (w.alloc (.cells #[.slice none 0 0, .int .i64 0, .int .i64 0] 59)) fun e w' => BEnd s.size (w.alloc (.cells #[.slice none 0 0, .int .i64 0, .int .i64 0] 59)) e w' (aMean ub64 (aSome isB64S 124 (s.data.toList.drop (p + 1)))) := CO
          have CO := hid CO
          clear hX hdc hD hT h34 h35 h124 ec
          go_enter Tryz.func62, Tryz.ntmps62
          go_wp2_with ((with_reducible refine CN.out.mono ?_); rintro e w1 ⟨rfl, rfl⟩)
          refine CO.out.mono ?_
          intro e w2 hE
          obtain ⟨v0, a, b, rfl, A0, l0, c0, rfl⟩ := hE.up
          have hb2 := hE.below
          obtain ⟨⟨d0, d1, d2⟩, dz⟩ := box3b (below_at hb2 HX.out)
          have dz0 := dz 0
          have dz1 := dz 1
          have dz2 := dz 2
          have HF := hid (hE.put hb1 hWz)
          clear dz hb2 hE
          go_wp2_with fail
          exact bodyPost_ret (v := .agg #[.slice A0 l0 c0, .int .i64 a, .int .i64 b]) (by simp [results, Tryz.results62, go_sem, d0, d1, d2]) rfl HF.out
        have m124 : ¬ (x.toNat : Int) = 124 := fun e => h124 (UInt8.toNat_inj.1 (show x.toNat = 124 by omega))
        have e124 : ((x.toNat : Int) == 124) = false := by rw [beq_eq_false_iff_ne]; exact m124
        have hX : aPlain (s.data.toList.drop p) = .err 3 (x :: s.data.toList.drop (p + 1)) := by
          rw [hdc, aPlain, if_neg (by rw [hD]; simp), if_neg (by rw [hT]; simp), if_neg h34, if_neg h35, if_neg h124]
        rw [hX]
        have HPA : Hid (((s.size - (x :: s.data.toList.drop (p + 1)).length : Nat) : Int) = p) := by
          show _ = _
          rw [← hdc, List.length_drop, HL.out]
          omega
        have HF := hid (below_new w (.cells #[.slice none 0 0, .int .i64 p, .int .i64 3] 59))
        obtain ⟨⟨d0, d1, d2⟩, dz⟩ := box3b HX.out
        have dz0 := dz 0
        have dz1 := dz 1
        have dz2 := dz 2
        clear dz hX hdc hD hT h34 h35 h124
        go_enter Tryz.func62, Tryz.ntmps62
        go_wp2_with (first
          | ((with_reducible refine CN.out.mono ?_); rintro e w1 ⟨rfl, rfl⟩)
          | ((with_reducible refine CT.out.mono ?_); rintro e w1 ⟨rfl, rfl⟩))
        refine bodyPost_ret (v := .agg #[.slice none 0 0, .int .i64 p, .int .i64 3]) (by simp [results, Tryz.results62, go_sem, d0, d1, d2]) rfl ?_
        exact ⟨by omega, by omega, by rw [HPA.out]; rfl, HF.out⟩
  · have hge : (s.size : Int) ≤ p := by omega
    rw [List.drop_eq_nil_of_le (by rw [HL.out]; omega)]
    have HPL : Hid (((s.size - ([] : List UInt8).length : Nat) : Int) = s.size) := by show _ = _; simp
    obtain ⟨⟨d0, d1, d2⟩, dz⟩ := box3b HX.out
    have dz0 := dz 0
    have dz1 := dz 1
    have dz2 := dz 2
    have HF := hid (below_new w (.cells #[.slice none 0 0, .int .i64 s.size, .int .i64 2] 59))
    clear dz
    go_enter Tryz.func62, Tryz.ntmps62
    go_wp2_with fail
    refine bodyPost_ret (v := .agg #[.slice none 0 0, .int .i64 s.size, .int .i64 2]) (by simp [results, Tryz.results62, go_sem, d0, d1, d2]) rfl ?_
    exact ⟨by omega, by omega, by rw [HPL.out]; rfl, HF.out⟩
end Go.Proofs.YtcojkmcnigppbaaGreatDoor
end
section
namespace Sx
open Go Oct
theorem pLen_kind {s : List UInt8} {k : Nat} {r : List UInt8} (h : pLen s = .err k r) : 2 ≤ k ∧ k ≤ 4 ∧ r.length ≤ s.length := by
  obtain ⟨rfl, h⟩ := pLen_err h
  rcases h with ⟨rfl, _⟩ | ⟨rfl, _⟩ | ⟨rfl, _⟩ <;> exact ⟨by omega, by omega, Nat.le_refl _⟩
theorem pBytes_kind {s : List UInt8} {k : Nat} {r : List UInt8} (h : pBytes s = .err k r) : 2 ≤ k ∧ k ≤ 4 ∧ r.length ≤ s.length := by
  unfold pBytes at h
  split at h
  · rename_i e r0 he
    injection h with h1 h2
    subst h1 h2
    exact pLen_kind he
  · rename_i n r0 he
    have hl := congrArg List.length (pLen_sound he).1
    rw [List.length_append] at hl
    split at h
    · injection h with h1 h2
      subst h1 h2
      exact ⟨by omega, by omega, by simp⟩
    · rename_i c r1
      split at h
      · injection h with h1 h2
        subst h1 h2
        exact ⟨by omega, by omega, by omega⟩
      · split at h
        · injection h with h1 h2
          subst h1 h2
          exact ⟨by omega, by omega, by simp⟩
        · cases h
theorem pHint_kind {s : List UInt8} {k : Nat} {r : List UInt8} (h : pHint s = .err k r) : 2 ≤ k ∧ k ≤ 4 ∧ r.length ≤ s.length := by
  unfold pHint at h
  split at h
  · rename_i e r0 he
    injection h with h1 h2
    subst h1 h2
    exact pBytes_kind he
  · rename_i hi r0 he
    have hl := congrArg List.length (pBytes_sound he).1
    rw [List.length_append] at hl
    split at h
    · injection h with h1 h2
      subst h1 h2
      exact ⟨by omega, by omega, by simp⟩
    · rename_i c r1
      simp only [List.length_cons] at hl
      split at h
      · injection h with h1 h2
        subst h1 h2
        exact ⟨by omega, by omega, by simp; omega⟩
      · split at h
        · rename_i e r2 he2
          injection h with h1 h2
          subst h1 h2
          have := pBytes_kind he2
          exact ⟨this.1, this.2.1, by omega⟩
        · cases h
theorem pVal_kind (f : Nat) : (∀ s nd ar k r, pVal f s nd ar = .err k r → 2 * s.length + 1 ≤ f → ar ≤ 16 → 2 ≤ k ∧ k ≤ 4 ∧ r.length ≤ s.length) ∧
    (∀ s nd ar k r, pKids f s nd ar = .err k r → 2 * s.length + 2 ≤ f → ar ≤ 16 → 2 ≤ k ∧ k ≤ 4 ∧ r.length ≤ s.length) := by
  induction f with
  | zero => exact ⟨fun s nd ar k r h hf => by omega, fun s nd ar k r h hf => by omega⟩
  | succ f ih =>
    constructor
    · intro s nd ar k r h hf har
      rw [pVal.eq_def] at h
      simp only at h
      split at h
      · injection h with h1 h2
        subst h1 h2
        exact ⟨by omega, by omega, by simp⟩
      · rename_i c s0
        simp only [List.length_cons] at hf
        split at h
        · injection h with h1 h2
          subst h1 h2
          exact ⟨by omega, by omega, Nat.le_refl _⟩
        · split at h
          · injection h with h1 h2
            subst h1 h2
            exact ⟨by omega, by omega, Nat.le_refl _⟩
          · rename_i hlim
            split at h
            · rename_i h40
              split at h
              · rename_i e r' he
                injection h with h1 h2
                subst h1 h2
                have := ih.2 _ _ _ _ _ he (by omega) (by
                  have : ¬ 16 ≤ ar := fun h => hlim (.inr ⟨h40, h⟩)
                  omega)
                exact ⟨this.1, this.2.1, by simp; omega⟩
              · cases h
            · split at h
              · split at h
                · rename_i e r' he
                  injection h with h1 h2
                  subst h1 h2
                  have := pHint_kind he
                  exact ⟨this.1, this.2.1, by simp; omega⟩
                · cases h
              · split at h
                · rename_i e r' he
                  injection h with h1 h2
                  subst h1 h2
                  exact pBytes_kind he
                · cases h
    · intro s nd ar k r h hf har
      rw [pKids.eq_def] at h
      simp only at h
      split at h
      · injection h with h1 h2
        subst h1 h2
        exact ⟨by omega, by omega, by simp⟩
      · rename_i c s0
        split at h
        · cases h
        · split at h
          · rename_i e r' he
            injection h with h1 h2
            subst h1 h2
            exact ih.1 _ _ _ _ _ he (by omega) har
          · rename_i t nd' r' he
            have hs := (sound f).1 _ _ _ _ _ _ he har
            have hl := congrArg List.length hs.1
            rw [List.length_append] at hl
            have hfl : 1 ≤ (form t).length := by
              obtain ⟨c1, q1, hq, -⟩ := form_head t
              rw [hq]; simp
            split at h
            · rename_i e r'' he2
              injection h with h1 h2
              subst h1 h2
              have := ih.2 _ _ _ _ _ he2 (by omega) har
              exact ⟨this.1, this.2.1, by omega⟩
            · cases h
end Sx
namespace Go.Proofs.YtcojkmcnigppbaaGreatDoor
open Go Go.Proofs Go.RowKit Sx Oct
def AllEnd (w : World) (e : Ending) (w' : World) : SX × Nat × Nat → Prop
  | (t, p, 0) => p = 0 ∧ ∃ v0 v1 v2 v3 v4, e = .returned (.agg #[v0, v1, v2, v3, v4]) ∧ SIn w' (fun k => w.heap.size ≤ k) t [v0, v1, v2, v3, v4] ∧ Below w.heap.size w w'
  | (t, p, k + 1) => t = zeroS ∧ 2 ≤ k + 1 ∧ k + 1 ≤ 5 ∧ p ≤ 4096 ∧ Thrown (k + 1) p e ∧ Below w.heap.size w w'
set_option maxHeartbeats 4000000 in
set_option maxRecDepth 100000 in
theorem readAll_any (A : Option Addr) (n c : Nat) (b : List UInt8) (w : World) (hr : Reads w w.heap.size 1 A n (Lib.byteCells b)) (hc : n ≤ c) :
    Calls Tryz.prog 42 #[.slice A n c] w fun e w' => AllEnd w e w' (pGet b) := by
  have hl : b.length = n := by have := hr.1; simpa [Lib.byteCells_length] using this
  have hb0 := below_new w (.cells #[.bool false, .bool false, .slice none 0 0, .slice none 0 0, .slice none 0 0] 25)
  generalize hPG : pGet b = PG
  by_cases h4 : 4096 < n
  · have hPG : PG = (zeroS, 4096, 4) := by rw [← hPG, pGet, if_pos (by omega)]
    subst hPG
    have h4' : (4096 : Int) < n := by omega
    go_enter Tryz.func42, Tryz.ntmps42
    go_wp2_with fail
    exact ⟨rfl, rfl, by decide, by decide, Nat.le_refl _, rfl, hb0⟩
  · have hn' : ¬ (4096 : Int) < n := by omega
    rw [pGet, if_neg (by omega)] at hPG
    have hsz : (w.alloc (.cells #[.bool false, .bool false, .slice none 0 0, .slice none 0 0, .slice none 0 0] 25)).heap.size = w.heap.size + 1 := by simp
    have hb1 := hb0.trans ((below_new (w.alloc (.cells #[.bool false, .bool false, .slice none 0 0, .slice none 0 0, .slice none 0 0] 25)) (.cells #[.slice A n c, .int .i64 0, .int .i64 0] 108)).mono (by simp))
    have X1 : Box ((w.alloc (.cells #[.bool false, .bool false, .slice none 0 0, .slice none 0 0, .slice none 0 0] 25)).alloc (.cells #[.slice A n c, .int .i64 0, .int .i64 0] 108)) w.heap.size (.bool false) (.bool false) (.slice none 0 0) (.slice none 0 0) (.slice none 0 0) :=
      below_at (below_new _ _) (heap_alloc_new w _)
    have hR : RdAt ((w.alloc (.cells #[.bool false, .bool false, .slice none 0 0, .slice none 0 0, .slice none 0 0] 25)).alloc (.cells #[.slice A n c, .int .i64 0, .int .i64 0] 108)) (w.heap.size + 1) A n c (0 : Nat) (0 : Nat) := by
      have := heap_alloc_new (w.alloc (.cells #[.bool false, .bool false, .slice none 0 0, .slice none 0 0, .slice none 0 0] 25)) (.cells #[.slice A n c, .int .i64 0, .int .i64 0] 108)
      rw [hsz] at this
      exact this
    have hsz2 : ((w.alloc (.cells #[.bool false, .bool false, .slice none 0 0, .slice none 0 0, .slice none 0 0] 25)).alloc (.cells #[.slice A n c, .int .i64 0, .int .i64 0] 108)).heap.size = w.heap.size + 2 := by simp
    have hr1 := hr.keep (w' := (w.alloc (.cells #[.bool false, .bool false, .slice none 0 0, .slice none 0 0, .slice none 0 0] 25)).alloc (.cells #[.slice A n c, .int .i64 0, .int .i64 0] 108)) fun q hq => hb1.cell hq
    have C := value_all (2 * n + 1) (w.heap.size + 1) A n c 0 0 0 b w.heap.size _ hR hr1 (by omega) (by omega) hc (by omega) (by omega) (by omega) (by omega)
    rw [List.drop_zero] at C
    rw [hl] at hPG
    go_enter Tryz.func42, Tryz.ntmps42
    go_wp2_with fail
    generalize (w.alloc (.cells #[.bool false, .bool false, .slice none 0 0, .slice none 0 0, .slice none 0 0] 25)).alloc (.cells #[.slice A n c, .int .i64 0, .int .i64 0] 108) = W at *
    cases hpv : pVal (2 * n + 1) b 0 0 with
    | err k r =>
      rw [hpv] at C hPG
      obtain ⟨hk1, hk2, hrl⟩ := (pVal_kind (2 * n + 1)).1 b 0 0 k r hpv (by omega) (by omega)
      have hPG : PG = (zeroS, n - r.length, k) := hPG.symm
      subst hPG
      obtain ⟨k, rfl⟩ : ∃ k', k = k' + 1 := ⟨k - 1, by omega⟩
      refine C.mono ?_
      rintro e w3 ⟨rfl, hg⟩
      go_wp2_with fail
      exact ⟨rfl, rfl, by omega, by omega, by omega, rfl, hb1.grown hg (by omega) (fun k e => by injection e with e; omega)⟩
    | ok y r =>
      obtain ⟨t, nd'⟩ := y
      rw [hpv] at C hPG
      refine C.mono ?_
      rintro e w3 ⟨v0, v1, v2, v3, v4, rfl, hin, hR3, hg⟩
      obtain ⟨l', h', hi', da', ks', B1, m1, j1, B2, m2, j2, B3, m3, j3, _, eE⟩ := hin.form_
      injection eE with eE0 eE; injection eE with eE1 eE; injection eE with eE2 eE; injection eE with eE3 eE; injection eE with eE4 eE
      subst eE0 eE1 eE2 eE3 eE4
      have hz3 := hg.size
      have X1 := X1.grown hg (fun e => by injection e with e; omega)
      have hbn := below_new w3 (.cells #[.bool l', .bool h', .slice B1 m1 j1, .slice B2 m2 j2, .slice B3 m3 j3] 25)
      have X1 := X1.old hbn
      have hR4 := hR3.old hbn
      have X4 : Box (w3.alloc (.cells #[.bool l', .bool h', .slice B1 m1 j1, .slice B2 m2 j2, .slice B3 m3 j3] 25)) w3.heap.size (.bool l') (.bool h') (.slice B1 m1 j1) (.slice B2 m2 j2) (.slice B3 m3 j3) := heap_alloc_new w3 _
      have hb3 := hb1.grown hg (by omega) (fun k e => by injection e with e; omega)
      have hb4 := hb3.trans (hbn.mono (by omega))
      have hin4 := hin.old hbn
      have hz4 : (w3.alloc (.cells #[.bool l', .bool h', .slice B1 m1 j1, .slice B2 m2 j2, .slice B3 m3 j3] 25)).heap.size = w3.heap.size + 1 := by simp
      have hwalk : Hid (w3.alloc (.cells #[.bool l', .bool h', .slice B1 m1 j1, .slice B2 m2 j2, .slice B3 m3 j3] 25) = w3.alloc (.cells #[.bool l', .bool h', .slice B1 m1 j1, .slice B2 m2 j2, .slice B3 m3 j3] 25)) := rfl
      obtain ⟨g0, g1, g2, -, -⟩ := hR4.all
      obtain ⟨⟨d0, d1, d2, d3, d4⟩, dz⟩ := X1.all
      have dz0 := dz 0
      have dz1 := dz 1
      have dz2 := dz 2
      have dz3 := dz 3
      have dz4 := dz 4
      obtain ⟨⟨f0, f1, f2, f3, f4⟩, -⟩ := X4.all
      clear dz X1 X4
      cases r with
      | nil =>
        have hPG : PG = (t, 0, 0) := hPG.symm
        subst hPG
        have hlt : ¬ ((n - ([] : List UInt8).length : Nat) : Int) < n := by simp
        have hF := put5_below (w' := w3.alloc (.cells #[.bool l', .bool h', .slice B1 m1 j1, .slice B2 m2 j2, .slice B3 m3 j3] 25)) hb4 (Nat.le_refl _) (.bool l') (.bool h') (.slice B1 m1 j1) (.slice B2 m2 j2) (.slice B3 m3 j3)
        have hiF : SIn (put5 (w3.alloc (.cells #[.bool l', .bool h', .slice B1 m1 j1, .slice B2 m2 j2, .slice B3 m3 j3] 25)) w.heap.size (.bool l') (.bool h') (.slice B1 m1 j1) (.slice B2 m2 j2) (.slice B3 m3 j3)) (fun k => w.heap.size ≤ k) t [.bool l', .bool h', .slice B1 m1 j1, .slice B2 m2 j2, .slice B3 m3 j3] :=
          ((hin4.more (S' := fun k => w.heap.size + 2 ≤ k) fun k hk => by omega).keep fun q hq => put5_far q (by omega)).more fun k hk => by omega
        have HF := hid (And.intro hiF hF)
        clear hF hiF hin hin4 hR hR3 hR4 hb4 hb3
        go_wp2_with fail
        exact bodyPost_ret (v := .agg #[.bool l', .bool h', .slice B1 m1 j1, .slice B2 m2 j2, .slice B3 m3 j3]) (by simp [results, Tryz.results42, go_sem, d0, d1, d2, d3, d4]) rfl ⟨rfl, _, _, _, _, _, rfl, HF.out⟩
      | cons x r =>
        have hPG : PG = (zeroS, n - (x :: r).length, 5) := hPG.symm
        subst hPG
        have hrl : (x :: r).length ≤ n := by
          have hs := ((sound (2 * n + 1)).1 _ _ _ _ _ _ hpv (by omega)).1
          have := congrArg List.length hs
          rw [List.length_append, hl] at this
          omega
        have hrl1 : 1 ≤ (x :: r).length := by simp
        have hlt : ((n - (x :: r).length : Nat) : Int) < n := by omega
        go_wp2_with fail
        exact ⟨rfl, rfl, by decide, by decide, by omega, rfl, hb4⟩
end Go.Proofs.YtcojkmcnigppbaaGreatDoor
end
section
namespace Go.Proofs.YtcojkmcnigppbaaGreatDoor
open Go Go.Proofs Go.RowKit Sx Oct
def RVal (w : World) (L B n : Nat) (e : Ending) (w' : World) : Res (SX × Nat) → Prop
  | .err k rest => 2 ≤ k ∧ k ≤ 4 ∧ e = .returned (.agg #[.bool false, .bool false, .slice none 0 0, .slice none 0 0, .slice none 0 0, .int .i64 (n - rest.length : Nat), .int .i64 0, .int .i64 k]) ∧ Below w.heap.size w w'
  | .ok (t, nd') rest => ∃ v0 v1 v2 v3 v4, e = .returned (.agg #[v0, v1, v2, v3, v4, .int .i64 (n - rest.length : Nat), .int .i64 nd', .int .i64 0]) ∧ SIn w' (fun k => (L ≤ k ∧ k < B) ∨ w.heap.size ≤ k) t [v0, v1, v2, v3, v4] ∧ Below w.heap.size w w'
def Box8 (w : World) (b : Nat) (v0 v1 v2 v3 v4 v5 v6 v7 : Value) : Prop := w.heap[b]? = some (Obj.cells #[v0, v1, v2, v3, v4, v5, v6, v7] 55 (0, 0))
theorem Box8.all {w : World} {b : Nat} {v0 v1 v2 v3 v4 v5 v6 v7 : Value} (h : Box8 w b v0 v1 v2 v3 v4 v5 v6 v7) :
    (w.cell? ⟨b, 0, none⟩ = some v0 ∧ w.cell? ⟨b, 1, none⟩ = some v1 ∧ w.cell? ⟨b, 2, none⟩ = some v2 ∧ w.cell? ⟨b, 3, none⟩ = some v3 ∧ w.cell? ⟨b, 4, none⟩ = some v4 ∧ w.cell? ⟨b, 5, none⟩ = some v5 ∧ w.cell? ⟨b, 6, none⟩ = some v6 ∧ w.cell? ⟨b, 7, none⟩ = some v7) ∧ ∀ i, w.frozen? ⟨b, i, none⟩ = false :=
  ⟨by refine ⟨?_, ?_, ?_, ?_, ?_, ?_, ?_, ?_⟩ <;> (rw [Lib.cell_of_heap h]; rfl), fun i => by unfold Box8 at h; simp [World.frozen?, h]⟩
theorem Box8.old {w w' : World} {b : Nat} {v0 v1 v2 v3 v4 v5 v6 v7 : Value} (h : Box8 w b v0 v1 v2 v3 v4 v5 v6 v7) (hb : Below w.heap.size w w') : Box8 w' b v0 v1 v2 v3 v4 v5 v6 v7 := below_at hb h
def put8 (w : World) (b : Nat) (x0 x1 x2 x3 x4 x5 x6 x7 : Value) : World := (((put5 w b x0 x1 x2 x3 x4).setCell ⟨b, 5, none⟩ x5).setCell ⟨b, 6, none⟩ x6).setCell ⟨b, 7, none⟩ x7
theorem put8_far {w : World} {b : Nat} {x0 x1 x2 x3 x4 x5 x6 x7 : Value} (p : Addr) (hp : p.block ≠ b) : (put8 w b x0 x1 x2 x3 x4 x5 x6 x7).cell? p = w.cell? p := by
  unfold put8
  rw [World.cell?_setCell_other _ _ _ _ (fun e => hp (by rw [← e])), World.cell?_setCell_other _ _ _ _ (fun e => hp (by rw [← e])), World.cell?_setCell_other _ _ _ _ (fun e => hp (by rw [← e]))]
  exact put5_far p hp
theorem put8_below {w w' : World} {b B : Nat} (h : Below B w w') (hb : B ≤ b) (x0 x1 x2 x3 x4 x5 x6 x7 : Value) : Below B w (put8 w' b x0 x1 x2 x3 x4 x5 x6 x7) :=
  (((put5_below h hb x0 x1 x2 x3 x4).setCell (p := ⟨b, 5, none⟩) hb x5).setCell (p := ⟨b, 6, none⟩) hb x6).setCell (p := ⟨b, 7, none⟩) hb x7
def bytesRes (x : Res (List UInt8)) (nd : Nat) : Res (SX × Nat) := match x with
  | .err e r' => .err e r'
  | .ok da r' => .ok (.mk false false [] da [], nd) r'
set_option maxHeartbeats 4000000 in
set_option maxRecDepth 100000 in
theorem refAtom_plain (A : Option Addr) (n c : Nat) (p : Nat) (nd : Nat) (b : List UInt8) (L B : Nat) (w : World) (hr : Reads w B 1 A n (Lib.byteCells b)) (hLo : ∀ ad, A = some ad → L ≤ ad.block) (hBw : B ≤ w.heap.size) (hn : n ≤ 5000) (hc : n ≤ c) (x : UInt8) (s : List UInt8) (hs : b.drop p = x :: s) (hx : x ≠ 91) :
    Calls Tryz.prog 96 #[.slice A n c, .int .i64 p, .int .i64 nd] w fun e w' => RVal w L B n e w' (bytesRes (pBytes (x :: s)) nd) := by
  have hl : b.length = n := by have := hr.1; simpa [Lib.byteCells_length] using this
  have hsl : (x :: s).length = n - p := by rw [← hs, List.length_drop, hl]
  have hpn : p < n := by have : 0 < (x :: s).length := by simp
                         omega
  have hz1 : (w.alloc (.cells #[.bool false, .bool false, .slice none 0 0, .slice none 0 0, .slice none 0 0, .int .i64 0, .int .i64 0, .int .i64 0] 55)).heap.size = w.heap.size + 1 := by simp
  have hz2 : ((w.alloc (.cells #[.bool false, .bool false, .slice none 0 0, .slice none 0 0, .slice none 0 0, .int .i64 0, .int .i64 0, .int .i64 0] 55)).alloc (.cells #[.bool false, .bool false, .slice none 0 0, .slice none 0 0, .slice none 0 0] 25)).heap.size = w.heap.size + 1 + 1 := by simp
  have b1 := below_new w (.cells #[.bool false, .bool false, .slice none 0 0, .slice none 0 0, .slice none 0 0, .int .i64 0, .int .i64 0, .int .i64 0] 55)
  have b2 := below_new (w.alloc (.cells #[.bool false, .bool false, .slice none 0 0, .slice none 0 0, .slice none 0 0, .int .i64 0, .int .i64 0, .int .i64 0] 55)) (.cells #[.bool false, .bool false, .slice none 0 0, .slice none 0 0, .slice none 0 0] 25)
  have hb0 := b1.trans (b2.mono (by omega))
  have X1 : Box8 ((w.alloc (.cells #[.bool false, .bool false, .slice none 0 0, .slice none 0 0, .slice none 0 0, .int .i64 0, .int .i64 0, .int .i64 0] 55)).alloc (.cells #[.bool false, .bool false, .slice none 0 0, .slice none 0 0, .slice none 0 0] 25)) w.heap.size (.bool false) (.bool false) (.slice none 0 0) (.slice none 0 0) (.slice none 0 0) (.int .i64 0) (.int .i64 0) (.int .i64 0) := below_at b2 (heap_alloc_new w _)
  have X2 : Box ((w.alloc (.cells #[.bool false, .bool false, .slice none 0 0, .slice none 0 0, .slice none 0 0, .int .i64 0, .int .i64 0, .int .i64 0] 55)).alloc (.cells #[.bool false, .bool false, .slice none 0 0, .slice none 0 0, .slice none 0 0] 25)) (w.heap.size + 1) (.bool false) (.bool false) (.slice none 0 0) (.slice none 0 0) (.slice none 0 0) := by
    have := heap_alloc_new (w.alloc (.cells #[.bool false, .bool false, .slice none 0 0, .slice none 0 0, .slice none 0 0, .int .i64 0, .int .i64 0, .int .i64 0] 55)) (.cells #[.bool false, .bool false, .slice none 0 0, .slice none 0 0, .slice none 0 0] 25)
    rw [hz1] at this
    exact this
  have hr2 := hr.keep (w' := ((w.alloc (.cells #[.bool false, .bool false, .slice none 0 0, .slice none 0 0, .slice none 0 0, .int .i64 0, .int .i64 0, .int .i64 0] 55)).alloc (.cells #[.bool false, .bool false, .slice none 0 0, .slice none 0 0, .slice none 0 0] 25))) fun q hq => hb0.cell (by omega)
  obtain ⟨ad, hA, hadB, hcell⟩ := at_drop hr2 hpn hs
  have C := refBytes_any A n c p b L B ((w.alloc (.cells #[.bool false, .bool false, .slice none 0 0, .slice none 0 0, .slice none 0 0, .int .i64 0, .int .i64 0, .int .i64 0] 55)).alloc (.cells #[.bool false, .bool false, .slice none 0 0, .slice none 0 0, .slice none 0 0] 25)) hr2 hLo (by omega) (by omega) hn hc (x :: s) hs
  have hp0 : (0 : Int) ≤ p := by omega
  have hpl : (p : Int) < n := by omega
  have hne : ((x.toNat : Int) == 91) = false := by
    rw [beq_eq_false_iff_ne]
    intro e
    exact hx (UInt8.toNat_inj.1 (by show x.toNat = 91; omega))
  subst hA
  have HC := hid C
  have HB := hid hb0
  have HX := hid (And.intro X1 X2)
  clear b1 b2 hs hl hr hr2 C hb0 X1 X2
  generalize hPB : pBytes (x :: s) = PB at *
  cases PB with
  | err k rest =>
    obtain ⟨hk1, hk2, -⟩ := pBytes_kind hPB
    clear hPB
    have hk0 : ¬ ((k : Int) = 0) := by omega
    go_enter Tryz.func96, Tryz.ntmps96
    go_wp2_with fail
    refine HC.out.mono ?_
    rintro e w3 ⟨A3, c3, rfl, hb3⟩
    obtain ⟨⟨d0, d1, d2, d3, d4, d5, d6, d7⟩, dz⟩ := (HX.out.1.old hb3).all
    have dz0 := dz 0
    have dz1 := dz 1
    have dz2 := dz 2
    have dz3 := dz 3
    have dz4 := dz 4
    have dz5 := dz 5
    have dz6 := dz 6
    have dz7 := dz 7
    have HF := hid (put8_below (HB.out.trans (hb3.mono HB.out.size)) (Nat.le_refl _) (.bool false) (.bool false) (.slice none 0 0) (.slice none 0 0) (.slice none 0 0) (.int .i64 (n - rest.length : Nat)) (.int .i64 0) (.int .i64 k))
    clear dz hb3
    go_wp2_with fail
    exact bodyPost_ret (v := .agg #[.bool false, .bool false, .slice none 0 0, .slice none 0 0, .slice none 0 0, .int .i64 (n - rest.length : Nat), .int .i64 0, .int .i64 k]) (by simp [results, Tryz.results96, go_sem, d0, d1, d2, d3, d4, d5, d6, d7]) rfl ⟨hk1, hk2, rfl, HF.out⟩
  | ok da rest =>
    obtain ⟨hs1, hda⟩ := pBytes_sound hPB
    clear hPB hs1
    go_enter Tryz.func96, Tryz.ntmps96
    go_wp2_with fail
    refine HC.out.mono ?_
    rintro e w3 ⟨A3, c3, rfl, hc3, hda3, hb3⟩
    obtain ⟨⟨d0, d1, d2, d3, d4, d5, d6, d7⟩, dz⟩ := (HX.out.1.old hb3).all
    have dz0 := dz 0
    have dz1 := dz 1
    have dz2 := dz 2
    have dz3 := dz 3
    have dz4 := dz 4
    have dz5 := dz 5
    have dz6 := dz 6
    have dz7 := dz 7
    obtain ⟨⟨f0, f1, f2, f3, f4⟩, fz⟩ := (HX.out.2.old hb3).all
    have fz3 := fz 3
    have hfar : ∀ q : Addr, q.block < B → (put8 (w3.setCell ⟨w.heap.size + 1, 3, none⟩ (.slice A3 da.length c3)) w.heap.size (.bool false) (.bool false) (.slice none 0 0) (.slice A3 da.length c3) (.slice none 0 0) (.int .i64 (n - rest.length : Nat)) (.int .i64 nd) (.int .i64 0)).cell? q = w3.cell? q := fun q hq => by
      rw [put8_far q (by omega), World.cell?_setCell_other _ _ _ _ (fun e => by have h := congrArg Addr.block e; simp at h; omega)]
    have hiF : SIn (put8 (w3.setCell ⟨w.heap.size + 1, 3, none⟩ (.slice A3 da.length c3)) w.heap.size (.bool false) (.bool false) (.slice none 0 0) (.slice A3 da.length c3) (.slice none 0 0) (.int .i64 (n - rest.length : Nat)) (.int .i64 nd) (.int .i64 0)) (fun k => (L ≤ k ∧ k < B) ∨ w.heap.size ≤ k) (.mk false false [] da []) [.bool false, .bool false, .slice none 0 0, .slice A3 da.length c3, .slice none 0 0] :=
      .mk (xs := []) RIn.none_ ⟨Nat.le_refl _, by omega⟩ ((hda3.keep fun q hq => hfar q hq.2).more fun k hk => .inl hk) ⟨hc3, by omega⟩ RIn.none_ ⟨Nat.le_refl _, by omega⟩ rfl (fun i t hit => by simp at hit)
    have hbF := put8_below (((HB.out.trans (hb3.mono HB.out.size)).setCell (p := ⟨w.heap.size + 1, 3, none⟩) (by show w.heap.size ≤ w.heap.size + 1; omega) (.slice A3 da.length c3))) (Nat.le_refl _) (.bool false) (.bool false) (.slice none 0 0) (.slice A3 da.length c3) (.slice none 0 0) (.int .i64 (n - rest.length : Nat)) (.int .i64 nd) (.int .i64 0)
    have HF := hid (And.intro hiF hbF)
    clear dz fz hb3 hda3 hfar hiF hbF
    go_wp2_with fail
    exact bodyPost_ret (v := .agg #[.bool false, .bool false, .slice none 0 0, .slice A3 da.length c3, .slice none 0 0, .int .i64 (n - rest.length : Nat), .int .i64 nd, .int .i64 0]) (by simp [results, Tryz.results96, go_sem, d0, d1, d2, d3, d4, d5, d6, d7]) rfl ⟨_, _, _, _, _, rfl, HF.out⟩
end Go.Proofs.YtcojkmcnigppbaaGreatDoor
end
section
namespace Go.Proofs.YtcojkmcnigppbaaGreatDoor
open Go Go.Proofs Go.RowKit Sx Oct
theorem Box.set1 {w : World} {b : Nat} {v0 v1 v2 v3 v4 : Value} (h : Box w b v0 v1 v2 v3 v4) (x : Value) : Box (w.setCell ⟨b, 1, none⟩ x) b v0 x v2 v3 v4 := (Joins.block_setCell h x)
set_option maxHeartbeats 4000000 in
set_option maxRecDepth 100000 in
theorem refAtom_hint (A : Option Addr) (n c : Nat) (p : Nat) (nd : Nat) (b : List UInt8) (L B : Nat) (w : World) (hr : Reads w B 1 A n (Lib.byteCells b)) (hLo : ∀ ad, A = some ad → L ≤ ad.block) (hBw : B ≤ w.heap.size) (hn : n ≤ 5000) (hc : n ≤ c) (s : List UInt8) (hs : b.drop p = 91 :: s) :
    Calls Tryz.prog 96 #[.slice A n c, .int .i64 p, .int .i64 nd] w fun e w' => RVal w L B n e w' (hintRes (pHint s) nd) := by
  have hl : b.length = n := by have := hr.1; simpa [Lib.byteCells_length] using this
  have hsl : (91 :: s : List UInt8).length = n - p := by rw [← hs, List.length_drop, hl]
  have hsl' : s.length + 1 = n - p := by rw [← hsl]; simp
  have hpn : p < n := by omega
  have hz1 : (w.alloc (.cells #[.bool false, .bool false, .slice none 0 0, .slice none 0 0, .slice none 0 0, .int .i64 0, .int .i64 0, .int .i64 0] 55)).heap.size = w.heap.size + 1 := by simp
  have hz2 : ((w.alloc (.cells #[.bool false, .bool false, .slice none 0 0, .slice none 0 0, .slice none 0 0, .int .i64 0, .int .i64 0, .int .i64 0] 55)).alloc (.cells #[.bool false, .bool false, .slice none 0 0, .slice none 0 0, .slice none 0 0] 25)).heap.size = w.heap.size + 1 + 1 := by simp
  have b1 := below_new w (.cells #[.bool false, .bool false, .slice none 0 0, .slice none 0 0, .slice none 0 0, .int .i64 0, .int .i64 0, .int .i64 0] 55)
  have b2 := below_new (w.alloc (.cells #[.bool false, .bool false, .slice none 0 0, .slice none 0 0, .slice none 0 0, .int .i64 0, .int .i64 0, .int .i64 0] 55)) (.cells #[.bool false, .bool false, .slice none 0 0, .slice none 0 0, .slice none 0 0] 25)
  have hb0 := b1.trans (b2.mono (by omega))
  have X1 : Box8 ((w.alloc (.cells #[.bool false, .bool false, .slice none 0 0, .slice none 0 0, .slice none 0 0, .int .i64 0, .int .i64 0, .int .i64 0] 55)).alloc (.cells #[.bool false, .bool false, .slice none 0 0, .slice none 0 0, .slice none 0 0] 25)) w.heap.size (.bool false) (.bool false) (.slice none 0 0) (.slice none 0 0) (.slice none 0 0) (.int .i64 0) (.int .i64 0) (.int .i64 0) := below_at b2 (heap_alloc_new w _)
  have X2 : Box ((w.alloc (.cells #[.bool false, .bool false, .slice none 0 0, .slice none 0 0, .slice none 0 0, .int .i64 0, .int .i64 0, .int .i64 0] 55)).alloc (.cells #[.bool false, .bool false, .slice none 0 0, .slice none 0 0, .slice none 0 0] 25)) (w.heap.size + 1) (.bool false) (.bool false) (.slice none 0 0) (.slice none 0 0) (.slice none 0 0) := by
    have := heap_alloc_new (w.alloc (.cells #[.bool false, .bool false, .slice none 0 0, .slice none 0 0, .slice none 0 0, .int .i64 0, .int .i64 0, .int .i64 0] 55)) (.cells #[.bool false, .bool false, .slice none 0 0, .slice none 0 0, .slice none 0 0] 25)
    rw [hz1] at this
    exact this
  have hr2 := hr.keep (w' := ((w.alloc (.cells #[.bool false, .bool false, .slice none 0 0, .slice none 0 0, .slice none 0 0, .int .i64 0, .int .i64 0, .int .i64 0] 55)).alloc (.cells #[.bool false, .bool false, .slice none 0 0, .slice none 0 0, .slice none 0 0] 25))) fun q hq => hb0.cell (by omega)
  obtain ⟨ad, hA, hadB, hcell⟩ := at_drop hr2 hpn hs
  have hd1 : b.drop (p + 1) = s := by rw [← List.drop_drop, hs]; rfl
  have C := refBytes_any A n c (p + 1) b L B ((w.alloc (.cells #[.bool false, .bool false, .slice none 0 0, .slice none 0 0, .slice none 0 0, .int .i64 0, .int .i64 0, .int .i64 0] 55)).alloc (.cells #[.bool false, .bool false, .slice none 0 0, .slice none 0 0, .slice none 0 0] 25)) hr2 hLo (by omega) (by omega) hn hc s hd1
  have hp0 : (0 : Int) ≤ p := by omega
  have hpl : (p : Int) < n := by omega
  have hpc : ((p + 1 : Nat) : Int) = (p : Int) + 1 := by omega
  rw [hpc] at C
  subst hA
  have HC := hid C
  have HB := hid hb0
  have HX := hid (And.intro X1 X2)
  have HR := hid hr2
  have HR0 := hid hr
  have HL := hid hl
  have HD1 := hid hd1
  clear b1 b2 hs hl hr hr2 C hb0 X1 X2 hd1 hpc
  generalize hRR : hintRes (pHint s) nd = RR
  generalize hPB : pBytes s = PB at *
  cases PB with
  | err k rest =>
    obtain ⟨hk1, hk2, -⟩ := pBytes_kind hPB
    have hRR : RR = .err k rest := by rw [← hRR]; simp [hintRes, pHint, hPB]
    subst hRR
    clear hPB
    have hk0 : ¬ ((k : Int) = 0) := by omega
    go_enter Tryz.func96, Tryz.ntmps96
    go_wp2_with fail
    refine HC.out.mono ?_
    rintro e w3 ⟨A3, c3, rfl, hb3⟩
    obtain ⟨⟨d0, d1, d2, d3, d4, d5, d6, d7⟩, dz⟩ := (HX.out.1.old hb3).all
    have dz0 := dz 0
    have dz1 := dz 1
    have dz2 := dz 2
    have dz3 := dz 3
    have dz4 := dz 4
    have dz5 := dz 5
    have dz6 := dz 6
    have dz7 := dz 7
    have HF := hid (put8_below (HB.out.trans (hb3.mono HB.out.size)) (Nat.le_refl _) (.bool false) (.bool false) (.slice none 0 0) (.slice none 0 0) (.slice none 0 0) (.int .i64 (n - rest.length : Nat)) (.int .i64 0) (.int .i64 k))
    clear dz
    go_wp2_with fail
    exact bodyPost_ret (v := .agg #[.bool false, .bool false, .slice none 0 0, .slice none 0 0, .slice none 0 0, .int .i64 (n - rest.length : Nat), .int .i64 0, .int .i64 k]) (by simp [results, Tryz.results96, go_sem, d0, d1, d2, d3, d4, d5, d6, d7]) rfl ⟨hk1, hk2, rfl, HF.out⟩
  | ok hi rest =>
    obtain ⟨hs1, hhl⟩ := pBytes_sound hPB
    obtain ⟨hd2, hq1, hq2⟩ := drop_rest (by rw [HL.out]; omega) HD1.out hs1
    rw [HL.out] at hd2 hq1 hq2
    cases rest with
    | nil =>
      have hRR : RR = .err 2 [] := by rw [← hRR]; simp [hintRes, pHint, hPB]
      subst hRR
      have hpn0 : ((n - ([] : List UInt8).length : Nat) : Int) = n := by simp
      have HP := hid hpn0
      clear hPB hpn0 hd2 hq1 hq2 hs1
      go_enter Tryz.func96, Tryz.ntmps96
      go_wp2_with fail
      refine HC.out.mono ?_
      rintro e w3 ⟨A3, c3, rfl, hc3, hhi, hb3⟩
      rw [HP.out]
      obtain ⟨⟨d0, d1, d2, d3, d4, d5, d6, d7⟩, dz⟩ := (HX.out.1.old hb3).all
      have dz0 := dz 0
      have dz1 := dz 1
      have dz2 := dz 2
      have dz3 := dz 3
      have dz4 := dz 4
      have dz5 := dz 5
      have dz6 := dz 6
      have dz7 := dz 7
      have HF := hid (put8_below (HB.out.trans (hb3.mono HB.out.size)) (Nat.le_refl _) (.bool false) (.bool false) (.slice none 0 0) (.slice none 0 0) (.slice none 0 0) (.int .i64 n) (.int .i64 0) (.int .i64 2))
      clear dz
      go_wp2_with fail
      exact bodyPost_ret (v := .agg #[.bool false, .bool false, .slice none 0 0, .slice none 0 0, .slice none 0 0, .int .i64 n, .int .i64 0, .int .i64 2]) (by simp [results, Tryz.results96, go_sem, d0, d1, d2, d3, d4, d5, d6, d7]) rfl ⟨by omega, by omega, rfl, HF.out⟩
    | cons c0 r2 =>
      have hlr : (c0 :: r2).length = r2.length + 1 := by simp
      have hle : r2.length + 1 ≤ n := by have := congrArg List.length hs1; rw [List.length_append, hlr] at this; omega
      obtain ⟨q, hq⟩ : ∃ q, q = n - (c0 :: r2).length := ⟨_, rfl⟩
      have hqn : q + r2.length + 1 = n := by omega
      rw [← hq] at hd2
      have HQ := hid hq
      have hq0 : (0 : Int) ≤ q := by omega
      have hqlt : (q : Int) < n := by omega
      have hqge : ¬ (n : Int) ≤ q := by omega
      have HD2 := hid hd2
      clear hq hd2 hq1 hq2 hs1
      by_cases hc0 : c0 = 93
      · subst hc0
        have hd3 : b.drop (q + 1) = r2 := by rw [← List.drop_drop, HD2.out]; rfl
        generalize hPB2 : pBytes r2 = PB2
        have hhi4 := hhl
        have hqc : ((q + 1 : Nat) : Int) = (q : Int) + 1 := by omega
        have C2 := hid (fun W hW hBW => refBytes_any (some ad) n c (q + 1) b L B W hW hLo hBW (by omega) hn hc r2 hd3)
        rw [hPB2, hqc] at C2
        have HST := hid (fun (w3 : World) (A3 : Option Addr) (c3 : Nat) (hb3 : Below ((w.alloc (.cells #[.bool false, .bool false, .slice none 0 0, .slice none 0 0, .slice none 0 0, .int .i64 0, .int .i64 0, .int .i64 0] 55)).alloc (.cells #[.bool false, .bool false, .slice none 0 0, .slice none 0 0, .slice none 0 0] 25)).heap.size ((w.alloc (.cells #[.bool false, .bool false, .slice none 0 0, .slice none 0 0, .slice none 0 0, .int .i64 0, .int .i64 0, .int .i64 0] 55)).alloc (.cells #[.bool false, .bool false, .slice none 0 0, .slice none 0 0, .slice none 0 0] 25)) w3) => (by
          have hX1 := (HX.out.1.old hb3)
          have hX2 := (HX.out.2.old hb3)
          have hbw := HB.out.trans (hb3.mono HB.out.size)
          have hX1' : Box8 ((w3.setCell ⟨w.heap.size + 1, 1, none⟩ (.bool true)).setCell ⟨w.heap.size + 1, 2, none⟩ (.slice A3 hi.length c3)) w.heap.size (.bool false) (.bool false) (.slice none 0 0) (.slice none 0 0) (.slice none 0 0) (.int .i64 0) (.int .i64 0) (.int .i64 0) :=
            (Below.heap_setCell _ ⟨w.heap.size + 1, 2, none⟩ _ w.heap.size (by show w.heap.size ≠ w.heap.size + 1; omega)).trans ((Below.heap_setCell _ ⟨w.heap.size + 1, 1, none⟩ _ w.heap.size (by show w.heap.size ≠ w.heap.size + 1; omega)).trans hX1)
          have hX2' : Box ((w3.setCell ⟨w.heap.size + 1, 1, none⟩ (.bool true)).setCell ⟨w.heap.size + 1, 2, none⟩ (.slice A3 hi.length c3)) (w.heap.size + 1) (.bool false) (.bool true) (.slice A3 hi.length c3) (.slice none 0 0) (.slice none 0 0) := Box.set2 (Box.set1 hX2 _) _
          have hbw' := (hbw.setCell (p := ⟨w.heap.size + 1, 1, none⟩) (by show w.heap.size ≤ w.heap.size + 1; omega) (.bool true)).setCell (p := ⟨w.heap.size + 1, 2, none⟩) (by show w.heap.size ≤ w.heap.size + 1; omega) (.slice A3 hi.length c3)
          have hr3 := HR0.out.keep (w' := ((w3.setCell ⟨w.heap.size + 1, 1, none⟩ (.bool true)).setCell ⟨w.heap.size + 1, 2, none⟩ (.slice A3 hi.length c3))) fun q hq => hbw'.cell (by omega)
          exact And.intro hX1' (And.intro hX2' (And.intro hbw' hr3)) :
          Box8 ((w3.setCell ⟨w.heap.size + 1, 1, none⟩ (.bool true)).setCell ⟨w.heap.size + 1, 2, none⟩ (.slice A3 hi.length c3)) w.heap.size (.bool false) (.bool false) (.slice none 0 0) (.slice none 0 0) (.slice none 0 0) (.int .i64 0) (.int .i64 0) (.int .i64 0) ∧ Box ((w3.setCell ⟨w.heap.size + 1, 1, none⟩ (.bool true)).setCell ⟨w.heap.size + 1, 2, none⟩ (.slice A3 hi.length c3)) (w.heap.size + 1) (.bool false) (.bool true) (.slice A3 hi.length c3) (.slice none 0 0) (.slice none 0 0) ∧
          Below w.heap.size w ((w3.setCell ⟨w.heap.size + 1, 1, none⟩ (.bool true)).setCell ⟨w.heap.size + 1, 2, none⟩ (.slice A3 hi.length c3)) ∧ Reads ((w3.setCell ⟨w.heap.size + 1, 1, none⟩ (.bool true)).setCell ⟨w.heap.size + 1, 2, none⟩ (.slice A3 hi.length c3)) B 1 (some ad) n (Lib.byteCells b)))
        cases PB2 with
        | err k rest =>
          obtain ⟨hk1, hk2, -⟩ := pBytes_kind hPB2
          have hRR : RR = .err k rest := by rw [← hRR]; simp [hintRes, pHint, hPB, hPB2]
          subst hRR
          clear hPB hPB2 hd3
          have hk0 : ¬ ((k : Int) = 0) := by omega
          go_enter Tryz.func96, Tryz.ntmps96
          go_wp2_with fail
          refine HC.out.mono ?_
          rintro e w3 ⟨A3, c3, rfl, hc3, hhi, hb3⟩
          rw [← HQ.out]
          obtain ⟨ad', hA', -, hcell2⟩ := at_drop (HR.out.keep fun q' hq' => hb3.cell (by omega)) (p := q) (by omega) HD2.out
          injection hA' with hA'
          subst hA'
          obtain ⟨⟨f0, f1, f2, f3, f4⟩, fz⟩ := (HX.out.2.old hb3).all
          have fz1 := fz 1
          have fz2 := fz 2
          obtain ⟨Y1, Y2, Y3, Y4⟩ := HST.out w3 A3 c3 hb3
          have hzz : B ≤ ((w3.setCell ⟨w.heap.size + 1, 1, none⟩ (.bool true)).setCell ⟨w.heap.size + 1, 2, none⟩ (.slice A3 hi.length c3)).heap.size := by have := Y3.size; omega
          have C3 := hid (C2.out _ Y4 hzz)
          have HY := hid (And.intro Y1 (And.intro Y2 Y3))
          clear fz hhi hb3 Y1 Y2 Y3 Y4 hzz
          go_wp2_with fail
          refine C3.out.mono ?_
          rintro e w5 ⟨A5, c5, rfl, hb5⟩
          clear f0 f1 f2 f3 f4 fz1 fz2 hcell2
          obtain ⟨⟨d0, d1, d2, d3, d4, d5, d6, d7⟩, dz⟩ := (HY.out.1.old hb5).all
          have dz0 := dz 0
          have dz1 := dz 1
          have dz2 := dz 2
          have dz3 := dz 3
          have dz4 := dz 4
          have dz5 := dz 5
          have dz6 := dz 6
          have dz7 := dz 7
          have HF := hid (put8_below (HY.out.2.2.trans (hb5.mono HY.out.2.2.size)) (Nat.le_refl _) (.bool false) (.bool false) (.slice none 0 0) (.slice none 0 0) (.slice none 0 0) (.int .i64 (n - rest.length : Nat)) (.int .i64 0) (.int .i64 k))
          clear dz hb5
          go_wp2_with fail
          exact bodyPost_ret (v := .agg #[.bool false, .bool false, .slice none 0 0, .slice none 0 0, .slice none 0 0, .int .i64 (n - rest.length : Nat), .int .i64 0, .int .i64 k]) (by simp [results, Tryz.results96, go_sem, d0, d1, d2, d3, d4, d5, d6, d7]) rfl ⟨hk1, hk2, rfl, HF.out⟩
        | ok da rest =>
          obtain ⟨-, hda⟩ := pBytes_sound hPB2
          have hRR : RR = .ok (.mk false true hi da [], nd) rest := by rw [← hRR]; simp [hintRes, pHint, hPB, hPB2]
          subst hRR
          clear hPB hPB2 hd3
          go_enter Tryz.func96, Tryz.ntmps96
          go_wp2_with fail
          refine HC.out.mono ?_
          rintro e w3 ⟨A3, c3, rfl, hc3, hhi, hb3⟩
          rw [← HQ.out]
          obtain ⟨ad', hA', -, hcell2⟩ := at_drop (HR.out.keep fun q' hq' => hb3.cell (by omega)) (p := q) (by omega) HD2.out
          injection hA' with hA'
          subst hA'
          obtain ⟨⟨f0, f1, f2, f3, f4⟩, fz⟩ := (HX.out.2.old hb3).all
          have fz1 := fz 1
          have fz2 := fz 2
          obtain ⟨Y1, Y2, Y3, Y4⟩ := HST.out w3 A3 c3 hb3
          have hzz : B ≤ ((w3.setCell ⟨w.heap.size + 1, 1, none⟩ (.bool true)).setCell ⟨w.heap.size + 1, 2, none⟩ (.slice A3 hi.length c3)).heap.size := by have := Y3.size; omega
          have hhi2 := (hhi.far (p := ⟨w.heap.size + 1, 1, none⟩) (fun k hk => by show k ≠ w.heap.size + 1; omega) (.bool true)).far (p := ⟨w.heap.size + 1, 2, none⟩) (fun k hk => by show k ≠ w.heap.size + 1; omega) (.slice A3 hi.length c3)
          have C3 := hid (C2.out _ Y4 hzz)
          have HY := hid (And.intro Y1 (And.intro Y2 Y3))
          have HHI := hid hhi2
          clear fz hhi hhi2 hb3 Y1 Y2 Y3 Y4
          go_wp2_with fail
          refine C3.out.mono ?_
          rintro e w5 ⟨A5, c5, rfl, hc5, hda5, hb5⟩
          clear f0 f1 f2 f3 f4 fz1 fz2 hcell2
          obtain ⟨⟨d0, d1, d2, d3, d4, d5, d6, d7⟩, dz⟩ := (HY.out.1.old hb5).all
          have dz0 := dz 0
          have dz1 := dz 1
          have dz2 := dz 2
          have dz3 := dz 3
          have dz4 := dz 4
          have dz5 := dz 5
          have dz6 := dz 6
          have dz7 := dz 7
          obtain ⟨⟨f0, f1, f2, f3, f4⟩, fz⟩ := (HY.out.2.1.old hb5).all
          have fz3 := fz 3
          have hhi5 := RIn.keep HHI.out (fun q hq => hb5.cell (Nat.lt_of_lt_of_le hq.2 hzz))
          have hfar : ∀ q : Addr, q.block < B → (put8 (w5.setCell ⟨w.heap.size + 1, 3, none⟩ (.slice A5 da.length c5)) w.heap.size (.bool false) (.bool true) (.slice A3 hi.length c3) (.slice A5 da.length c5) (.slice none 0 0) (.int .i64 (n - rest.length : Nat)) (.int .i64 nd) (.int .i64 0)).cell? q = w5.cell? q := fun q hq => by
            rw [put8_far q (by omega), World.cell?_setCell_other _ _ _ _ (fun e => by have h := congrArg Addr.block e; simp at h; omega)]
          have hiF : SIn (put8 (w5.setCell ⟨w.heap.size + 1, 3, none⟩ (.slice A5 da.length c5)) w.heap.size (.bool false) (.bool true) (.slice A3 hi.length c3) (.slice A5 da.length c5) (.slice none 0 0) (.int .i64 (n - rest.length : Nat)) (.int .i64 nd) (.int .i64 0)) (fun k => (L ≤ k ∧ k < B) ∨ w.heap.size ≤ k) (.mk false true hi da []) [.bool false, .bool true, .slice A3 hi.length c3, .slice A5 da.length c5, .slice none 0 0] :=
            .mk (xs := []) ((hhi5.keep fun q hq => hfar q hq.2).more fun k hk => .inl hk) ⟨hc3, by omega⟩ ((hda5.keep fun q hq => hfar q hq.2).more fun k hk => .inl hk) ⟨hc5, by omega⟩ RIn.none_ ⟨Nat.le_refl _, by omega⟩ rfl (fun i t hit => by simp at hit)
          have hbF := put8_below (((HY.out.2.2.trans (hb5.mono HY.out.2.2.size)).setCell (p := ⟨w.heap.size + 1, 3, none⟩) (by show w.heap.size ≤ w.heap.size + 1; omega) (.slice A5 da.length c5))) (Nat.le_refl _) (.bool false) (.bool true) (.slice A3 hi.length c3) (.slice A5 da.length c5) (.slice none 0 0) (.int .i64 (n - rest.length : Nat)) (.int .i64 nd) (.int .i64 0)
          have HF := hid (And.intro hiF hbF)
          clear dz fz hb5 hda5 hfar hiF hbF hhi5
          go_wp2_with fail
          exact bodyPost_ret (v := .agg #[.bool false, .bool true, .slice A3 hi.length c3, .slice A5 da.length c5, .slice none 0 0, .int .i64 (n - rest.length : Nat), .int .i64 nd, .int .i64 0]) (by simp [results, Tryz.results96, go_sem, d0, d1, d2, d3, d4, d5, d6, d7]) rfl ⟨_, _, _, _, _, rfl, HF.out⟩
      · have hRR : RR = .err 3 (c0 :: r2) := by rw [← hRR]; simp [hintRes, pHint, hPB, hc0]
        subst hRR
        clear hPB
        have hne : ((c0.toNat : Int) == 93) = false := by
          rw [beq_eq_false_iff_ne]
          intro e
          exact hc0 (UInt8.toNat_inj.1 (by show c0.toNat = 93; omega))
        go_enter Tryz.func96, Tryz.ntmps96
        go_wp2_with fail
        refine HC.out.mono ?_
        rintro e w3 ⟨A3, c3, rfl, hc3, hhi, hb3⟩
        rw [← HQ.out]
        obtain ⟨ad', hA', -, hcell2⟩ := at_drop (HR.out.keep fun q' hq' => hb3.cell (by omega)) (p := q) (by omega) HD2.out
        injection hA' with hA'
        subst hA'
        obtain ⟨⟨d0, d1, d2, d3, d4, d5, d6, d7⟩, dz⟩ := (HX.out.1.old hb3).all
        have dz0 := dz 0
        have dz1 := dz 1
        have dz2 := dz 2
        have dz3 := dz 3
        have dz4 := dz 4
        have dz5 := dz 5
        have dz6 := dz 6
        have dz7 := dz 7
        have HF := hid (put8_below (HB.out.trans (hb3.mono HB.out.size)) (Nat.le_refl _) (.bool false) (.bool false) (.slice none 0 0) (.slice none 0 0) (.slice none 0 0) (.int .i64 (q : Nat)) (.int .i64 0) (.int .i64 3))
        clear dz
        go_wp2_with fail
        exact bodyPost_ret (v := .agg #[.bool false, .bool false, .slice none 0 0, .slice none 0 0, .slice none 0 0, .int .i64 (q : Nat), .int .i64 0, .int .i64 3]) (by simp [results, Tryz.results96, go_sem, d0, d1, d2, d3, d4, d5, d6, d7]) rfl ⟨by omega, by omega, by rw [← HQ.out]; rfl, HF.out⟩
end Go.Proofs.YtcojkmcnigppbaaGreatDoor
end
section
namespace Go.Proofs.YtcojkmcnigppbaaGreatDoor
open Go Go.Proofs Go.RowKit Sx Oct
def RHas (w wr : World) (L B : Nat) (acc : List SX) (v : Value) (ys : List Value) : Prop :=
  Box8 wr w.heap.size (.bool false) (.bool false) (.slice none 0 0) (.slice none 0 0) (.slice none 0 0) (.int .i64 0) (.int .i64 0) (.int .i64 0) ∧ Box wr (w.heap.size + 1) (.bool true) (.bool false) (.slice none 0 0) (.slice none 0 0) v ∧
  wr.ownsRow (w.heap.size + 2) 25 5 v acc.length ys ∧ Kids wr (fun k => ((L ≤ k ∧ k < B) ∨ w.heap.size + 2 ≤ k) ∧ some k ≠ v.ownBlock) acc ys ∧ Below w.heap.size w wr ∧ w.heap.size + 2 ≤ wr.heap.size
theorem RHas.keep {w wr w1 : World} {L B : Nat} {acc : List SX} {v : Value} {ys : List Value} (h : RHas w wr L B acc v ys) (hg : Below wr.heap.size wr w1) : RHas w w1 L B acc v ys := by
  obtain ⟨h1, h2, h3, h4, h5, h6⟩ := h
  have hz := hg.size
  exact ⟨h1.old hg, h2.old hg, own_old h3 hg, fun i t hit => (h4 i t hit).old hg, h5.trans (hg.mono (by omega)), by omega⟩
theorem RHas.step {w w1 w5 : World} {L B : Nat} {acc : List SX} {v v' : Value} {ys cs : List Value} {t : SX} {o : Obj} {K : Nat} (h : RHas w w1 L B acc v ys) (hB : B ≤ w.heap.size)
    (hin : SIn w1 (fun k => (L ≤ k ∧ k < B) ∨ K ≤ k) t cs) (hK : ∀ k, v.ownBlock = some k → k < K) (hK2 : w.heap.size + 2 ≤ K)
    (ho : w5.ownsRow (w.heap.size + 2) 25 5 v' (acc.length + 1) (ys ++ cs)) (hg : (w1.alloc o).grownBy w5 v.ownBlock) (hv : v'.ownBlock = v.ownBlock ∨ v'.ownBlock = some (w1.alloc o).heap.size) :
    RHas w (w5.setCell ⟨w.heap.size + 1, 4, none⟩ v') L B (acc ++ [t]) v' (ys ++ cs) := by
  obtain ⟨h1, h2, h3, h4, h5, h6⟩ := h
  have hba := below_new w1 o
  have hsz : (w1.alloc o).heap.size = w1.heap.size + 1 := by simp
  have hz := hg.size
  have hne : ∀ k, k < w.heap.size + 2 → v.ownBlock ≠ some k := fun k hk e => by have := (own_lt h3 e).1; omega
  have hyl := h3.1
  have hcl : cs.length = 5 := by
    obtain ⟨_, _, _, _, _, A1, n1, c1, A2, n2, c2, A3, n3, c3, _, e⟩ := hin.form_
    rw [e]; rfl
  have hfar : ∀ k, k < w1.heap.size → v.ownBlock ≠ some k → v'.ownBlock ≠ some k := fun k hk hn e => by
    rcases hv with hv | hv
    · exact hn (hv ▸ e)
    · rw [hv] at e; injection e with e; omega
  have hb5 : Below w.heap.size w1 w5 := (hba.mono (by omega)).grown hg (by omega) (fun k e => by have := (own_lt h3 e).1; omega)
  refine ⟨?_, ?_, ?_, ?_, ?_, ?_⟩
  · have e1 : (w5.setCell ⟨w.heap.size + 1, 4, none⟩ v').heap[w.heap.size]? = w5.heap[w.heap.size]? := Below.heap_setCell _ _ _ _ (by show w.heap.size ≠ w.heap.size + 1; omega)
    have e2 := hg.block w.heap.size (by omega) (fun e => hne _ (by omega) e.symm)
    exact e1.trans (e2.trans (below_at hba h1))
  · exact ((h2.old hba).grown hg (hne _ (by omega))).set4 _
  · have := own_set ho (p := ⟨w.heap.size + 1, 4, none⟩) (by show w.heap.size + 1 < w.heap.size + 2; omega) v'
    simpa using this
  · intro i s hs
    rcases Nat.lt_or_ge i acc.length with hi | hi
    · rw [List.getElem?_append_left hi] at hs
      have hd : ((ys ++ cs).drop (i * 5)).take 5 = (ys.drop (i * 5)).take 5 := by
        rw [List.drop_append_of_le_length (by omega), List.take_append_of_le_length (by rw [List.length_drop]; omega)]
      rw [hd]
      have q := ((h4 i s hs).size_).old hba
      have q2 := q.grown hg (fun b hb => hb.1.2)
      exact (q2.more (S' := fun k => ((L ≤ k ∧ k < B) ∨ w.heap.size + 2 ≤ k) ∧ some k ≠ v'.ownBlock) (fun k hk => ⟨hk.1.1, fun e => hfar k hk.2 (fun e' => hk.1.2 e'.symm) e.symm⟩)).far (p := ⟨w.heap.size + 1, 4, none⟩) (fun k hk => by show k ≠ w.heap.size + 1; omega) _
    · have hi2 : i = acc.length := by
        have := (List.getElem?_eq_some_iff.1 hs).1
        simp at this
        omega
      subst hi2
      rw [List.getElem?_append_right (Nat.le_refl _)] at hs
      simp at hs
      subst hs
      have hd : ((ys ++ cs).drop (acc.length * 5)).take 5 = cs := by
        rw [List.drop_append, List.drop_eq_nil_of_le (by omega), show acc.length * 5 - ys.length = 0 by omega, List.drop_zero, List.nil_append]
        exact List.take_of_length_le (by omega)
      rw [hd]
      have hnk : ∀ k, (L ≤ k ∧ k < B) ∨ K ≤ k → v.ownBlock ≠ some k := fun k hk e => by
        have := hK k e
        have := (own_lt h3 e).1
        omega
      have q := (hin.size_).old hba
      have q2 := q.grown hg (fun b hb e => hnk b hb.1 e.symm)
      exact (q2.more (S' := fun k => ((L ≤ k ∧ k < B) ∨ w.heap.size + 2 ≤ k) ∧ some k ≠ v'.ownBlock) (fun k hk => ⟨by have := hk.1; omega, fun e => hfar k hk.2 (hnk k hk.1) e.symm⟩)).far (p := ⟨w.heap.size + 1, 4, none⟩) (fun k hk => by show k ≠ w.heap.size + 1; omega) _
  · exact (h5.trans hb5).setCell (p := ⟨w.heap.size + 1, 4, none⟩) (by show w.heap.size ≤ w.heap.size + 1; omega) v'
  · simp; omega
def RRel (w : World) (A : Option Addr) (n ar f : Nat) (b : List UInt8) (L B : Nat) (R : Res (List SX × Nat)) (i1 i3 : Value) (wr : World) : Prop :=
  ∃ (acc : List SX) (g : Nat) (sk : List UInt8) (ndk : Nat) (v : Value) (ys : List Value), RHas w wr L B acc v ys ∧ i1 = .int .i64 (n - sk.length : Nat) ∧ i3 = .int .i64 ndk ∧ sk.length ≤ n ∧ b.drop (n - sk.length) = sk ∧
    g ≤ f ∧ 2 * sk.length + 2 ≤ g ∧ R = addK acc (pKids g sk ndk ar) ∧ ndk ≤ 512 ∧ acc.length ≤ ndk
def RValSpec (f : Nat) : Prop := ∀ (A : Option Addr) (n c p nd ar : Nat) (b : List UInt8) (L B : Nat) (w : World), Reads w B 1 A n (Lib.byteCells b) → (∀ ad, A = some ad → L ≤ ad.block) → B ≤ w.heap.size → n ≤ 5000 → n ≤ c → p ≤ n → nd ≤ 512 → ar ≤ 16 → 2 * (n - p) + 1 ≤ f →
    Calls Tryz.prog 66 #[.slice A n c, .int .i64 p, .int .i64 ((ar : Int) + 1), .int .i64 nd] w fun e w' => RVal w L B n e w' (pVal f (b.drop p) nd ar)
end Go.Proofs.YtcojkmcnigppbaaGreatDoor
end
section
namespace Go.Proofs.YtcojkmcnigppbaaGreatDoor
open Go Go.Proofs Go.RowKit Sx Oct
theorem RVal.up {w W w2 : World} {L B n : Nat} {e : Ending} {R : Res (SX × Nat)} (h : RVal W L B n e w2 R) (hb : Below w.heap.size w W) : RVal w L B n e w2 R := by
  have hz := hb.size
  cases R with
  | err k rest => exact ⟨h.1, h.2.1, h.2.2.1, hb.trans (h.2.2.2.mono hz)⟩
  | ok y rest =>
    obtain ⟨t, nd'⟩ := y
    obtain ⟨v0, v1, v2, v3, v4, h1, h2, h3⟩ := h
    exact ⟨v0, v1, v2, v3, v4, h1, h2.more fun k hk => by omega, hb.trans (h3.mono hz)⟩
theorem sin_put8 {w W w2 : World} {L B : Nat} {t : SX} {v0 v1 v2 v3 v4 : Value} (hin : SIn w2 (fun k => (L ≤ k ∧ k < B) ∨ W.heap.size ≤ k) t [v0, v1, v2, v3, v4]) (hb2 : Below W.heap.size W w2) (hb : Below w.heap.size w W) (hB : B ≤ w.heap.size) (hz : W.heap.size = w.heap.size + 1) (x5 x6 x7 : Value) :
    SIn (put8 w2 w.heap.size v0 v1 v2 v3 v4 x5 x6 x7) (fun k => (L ≤ k ∧ k < B) ∨ w.heap.size ≤ k) t [v0, v1, v2, v3, v4] ∧ Below w.heap.size w (put8 w2 w.heap.size v0 v1 v2 v3 v4 x5 x6 x7) :=
  ⟨(hin.keep fun q hq => put8_far q (by omega)).more fun k hk => by omega, put8_below (hb.trans (hb2.mono hb.size)) (Nat.le_refl _) _ _ _ _ _ _ _ _⟩
set_option maxHeartbeats 1000000 in
set_option maxRecDepth 100000 in
theorem refValue_small (f : Nat) (A : Option Addr) (n c p nd ar : Nat) (b : List UInt8) (L B : Nat) (w : World) (hr : Reads w B 1 A n (Lib.byteCells b)) (hLo : ∀ ad, A = some ad → L ≤ ad.block) (hBw : B ≤ w.heap.size) (hn : n ≤ 5000) (hc : n ≤ c) (hp : p ≤ n) (hnd : nd ≤ 512) (har : ar ≤ 16)
    (hnl : ∀ s, b.drop p = 40 :: s → 512 ≤ nd ∨ 16 ≤ ar) :
    Calls Tryz.prog 66 #[.slice A n c, .int .i64 p, .int .i64 ((ar : Int) + 1), .int .i64 nd] w fun e w' => RVal w L B n e w' (pVal (f + 1) (b.drop p) nd ar) := by
  generalize hRR : pVal (f + 1) (b.drop p) nd ar = R
  have hl : b.length = n := by have := hr.1; simpa [Lib.byteCells_length] using this
  have hz1 : (w.alloc (.cells #[.bool false, .bool false, .slice none 0 0, .slice none 0 0, .slice none 0 0, .int .i64 0, .int .i64 0, .int .i64 0] 55)).heap.size = w.heap.size + 1 := by simp
  have hb0 := below_new w (.cells #[.bool false, .bool false, .slice none 0 0, .slice none 0 0, .slice none 0 0, .int .i64 0, .int .i64 0, .int .i64 0] 55)
  have X1 : Box8 (w.alloc (.cells #[.bool false, .bool false, .slice none 0 0, .slice none 0 0, .slice none 0 0, .int .i64 0, .int .i64 0, .int .i64 0] 55)) w.heap.size (.bool false) (.bool false) (.slice none 0 0) (.slice none 0 0) (.slice none 0 0) (.int .i64 0) (.int .i64 0) (.int .i64 0) := heap_alloc_new w _
  have hr1 := hr.keep (w' := (w.alloc (.cells #[.bool false, .bool false, .slice none 0 0, .slice none 0 0, .slice none 0 0, .int .i64 0, .int .i64 0, .int .i64 0] 55))) fun q hq => hb0.cell (by omega)
  have HB := hid hb0
  have HX := hid X1
  have HR := hid hr
  clear X1 hr
  cases hs : b.drop p with
  | nil =>
    have hpn : n ≤ p := by have := congrArg List.length hs; rw [List.length_drop, hl] at this; simp at this; omega
    rw [hs, pVal] at hRR
    subst hRR
    have hpn' : (n : Int) ≤ p := by omega
    have hn0 : ((n - ([] : List UInt8).length : Nat) : Int) = n := by simp
    have HN := hid hn0
    clear hn0 hr1 hs
    obtain ⟨⟨d0, d1, d2, d3, d4, d5, d6, d7⟩, dz⟩ := HX.out.all
    have dz0 := dz 0
    have dz1 := dz 1
    have dz2 := dz 2
    have dz3 := dz 3
    have dz4 := dz 4
    have dz5 := dz 5
    have dz6 := dz 6
    have dz7 := dz 7
    have HF := hid (put8_below HB.out (Nat.le_refl _) (.bool false) (.bool false) (.slice none 0 0) (.slice none 0 0) (.slice none 0 0) (.int .i64 n) (.int .i64 0) (.int .i64 2))
    clear dz
    go_enter Tryz.func66, Tryz.ntmps66
    go_wp2_with fail
    exact bodyPost_ret (v := .agg #[.bool false, .bool false, .slice none 0 0, .slice none 0 0, .slice none 0 0, .int .i64 n, .int .i64 0, .int .i64 2]) (by simp [results, Tryz.results66, go_sem, d0, d1, d2, d3, d4, d5, d6, d7]) rfl ⟨by omega, by omega, by rw [HN.out]; rfl, below_new _ _⟩
  | cons x s =>
    have hlen : (x :: s).length = n - p := by rw [← hs, List.length_drop, hl]
    have hlen' : s.length + 1 = n - p := by rw [← hlen]; simp
    have hplace : n - (x :: s).length = p := by omega
    obtain ⟨ad, rfl, hadB, hcell⟩ := at_drop hr1 (p := p) (by omega) hs
    have hp0 : (0 : Int) ≤ p := by omega
    have hplt : (p : Int) < n := by omega
    have hpge : ¬ (n : Int) ≤ p := by omega
    have hxl := x.toNat_lt
    have HP := hid hplace
    have HS := hid hs
    rw [hs, pVal] at hRR
    try simp only at hRR
    clear hs hplace hlen
    by_cases hbg : begins x = false
    · rw [if_pos hbg] at hRR
      subst hRR
      have hbg' : ¬ x = 40 ∧ ¬ x = 91 ∧ ¬ (48 ≤ x.toNat ∧ x.toNat ≤ 57) := by
        simp [begins, isDig] at hbg
        refine ⟨hbg.1.1, hbg.1.2, fun h => ?_⟩
        have := hbg.2 h.1
        omega
      obtain ⟨n1, n2, n3⟩ := hbg'
      have e1 : ((x.toNat : Int) == 40) = false := by
        rw [beq_eq_false_iff_ne]
        intro e
        exact n1 (UInt8.toNat_inj.1 (by show x.toNat = 40; omega))
      have e2 : ((x.toNat : Int) == 91) = false := by
        rw [beq_eq_false_iff_ne]
        intro e
        exact n2 (UInt8.toNat_inj.1 (by show x.toNat = 91; omega))
      have e1' : ¬ ((x.toNat : Int) = 40) := by simpa using e1
      have e2' : ¬ ((x.toNat : Int) = 91) := by simpa using e2
      have e1b : ((x.toNat : Int) != 40) = true := by simpa using e1'
      have e2b : ((x.toNat : Int) != 91) = true := by simpa using e2'
      by_cases hlo : x.toNat < 48
      · have hlo' : (x.toNat : Int) < 48 := by omega
        clear n1 n2 n3 hbg
        obtain ⟨⟨d0, d1, d2, d3, d4, d5, d6, d7⟩, dz⟩ := HX.out.all
        have dz0 := dz 0
        have dz1 := dz 1
        have dz2 := dz 2
        have dz3 := dz 3
        have dz4 := dz 4
        have dz5 := dz 5
        have dz6 := dz 6
        have dz7 := dz 7
        have HF := hid (put8_below HB.out (Nat.le_refl _) (.bool false) (.bool false) (.slice none 0 0) (.slice none 0 0) (.slice none 0 0) (.int .i64 p) (.int .i64 0) (.int .i64 3))
        clear dz
        go_enter Tryz.func66, Tryz.ntmps66
        go_wp2_with fail
        exact bodyPost_ret (v := .agg #[.bool false, .bool false, .slice none 0 0, .slice none 0 0, .slice none 0 0, .int .i64 p, .int .i64 0, .int .i64 3]) (by simp [results, Tryz.results66, go_sem, d0, d1, d2, d3, d4, d5, d6, d7]) rfl ⟨by omega, by omega, by rw [HP.out]; rfl, below_new _ _⟩
      · have hlo' : ¬ (x.toNat : Int) < 48 := by omega
        have hhi' : (57 : Int) < (x.toNat : Int) := by omega
        clear n1 n2 n3 hbg
        obtain ⟨⟨d0, d1, d2, d3, d4, d5, d6, d7⟩, dz⟩ := HX.out.all
        have dz0 := dz 0
        have dz1 := dz 1
        have dz2 := dz 2
        have dz3 := dz 3
        have dz4 := dz 4
        have dz5 := dz 5
        have dz6 := dz 6
        have dz7 := dz 7
        have HF := hid (put8_below HB.out (Nat.le_refl _) (.bool false) (.bool false) (.slice none 0 0) (.slice none 0 0) (.slice none 0 0) (.int .i64 p) (.int .i64 0) (.int .i64 3))
        clear dz
        go_enter Tryz.func66, Tryz.ntmps66
        go_wp2_with fail
        exact bodyPost_ret (v := .agg #[.bool false, .bool false, .slice none 0 0, .slice none 0 0, .slice none 0 0, .int .i64 p, .int .i64 0, .int .i64 3]) (by simp [results, Tryz.results66, go_sem, d0, d1, d2, d3, d4, d5, d6, d7]) rfl ⟨by omega, by omega, by rw [HP.out]; rfl, below_new _ _⟩
    · rw [if_neg hbg] at hRR
      have hw1 : IntKind.i64.wrap ((nd : Int) + 1) = (nd : Int) + 1 := IntWalk.i64_in _ (by omega)
      by_cases h40 : x = 40
      · subst h40
        have hlim := hnl _ HS.out
        rw [if_pos (by rcases hlim with h | h; exact .inl h; exact .inr ⟨rfl, h⟩)] at hRR
        subst hRR
        clear hnl
        by_cases h512 : 512 ≤ nd
        · have hgt : (512 : Int) < (nd : Int) + 1 := by omega
          clear hlim
          obtain ⟨⟨d0, d1, d2, d3, d4, d5, d6, d7⟩, dz⟩ := HX.out.all
          have dz0 := dz 0
          have dz1 := dz 1
          have dz2 := dz 2
          have dz3 := dz 3
          have dz4 := dz 4
          have dz5 := dz 5
          have dz6 := dz 6
          have dz7 := dz 7
          clear dz
          go_enter Tryz.func66, Tryz.ntmps66
          go_wp2_with fail
          exact bodyPost_ret (v := .agg #[.bool false, .bool false, .slice none 0 0, .slice none 0 0, .slice none 0 0, .int .i64 p, .int .i64 0, .int .i64 4]) (by simp [results, Tryz.results66, go_sem, d0, d1, d2, d3, d4, d5, d6, d7]) rfl ⟨by omega, by omega, by rw [HP.out]; rfl, below_new _ _⟩
        · have hgt : ¬ (512 : Int) < (nd : Int) + 1 := by omega
          have har2 : (16 : Int) < (ar : Int) + 1 := by omega
          clear hlim
          obtain ⟨⟨d0, d1, d2, d3, d4, d5, d6, d7⟩, dz⟩ := HX.out.all
          have dz0 := dz 0
          have dz1 := dz 1
          have dz2 := dz 2
          have dz3 := dz 3
          have dz4 := dz 4
          have dz5 := dz 5
          have dz6 := dz 6
          have dz7 := dz 7
          clear dz
          go_enter Tryz.func66, Tryz.ntmps66
          go_wp2_with fail
          exact bodyPost_ret (v := .agg #[.bool false, .bool false, .slice none 0 0, .slice none 0 0, .slice none 0 0, .int .i64 p, .int .i64 0, .int .i64 4]) (by simp [results, Tryz.results66, go_sem, d0, d1, d2, d3, d4, d5, d6, d7]) rfl ⟨by omega, by omega, by rw [HP.out]; rfl, below_new _ _⟩
      have e1 : ((x.toNat : Int) == 40) = false := by
        rw [beq_eq_false_iff_ne]
        intro e
        exact h40 (UInt8.toNat_inj.1 (by show x.toNat = 40; omega))
      have e1' : ¬ ((x.toNat : Int) = 40) := by simpa using e1
      have e1b : ((x.toNat : Int) != 40) = true := by simpa using e1'
      clear hnl
      by_cases h91 : x = 91
      · subst h91
        by_cases h512 : 512 ≤ nd
        · rw [if_pos (.inl h512)] at hRR
          subst hRR
          have hgt : (512 : Int) < (nd : Int) + 1 := by omega
          obtain ⟨⟨d0, d1, d2, d3, d4, d5, d6, d7⟩, dz⟩ := HX.out.all
          have dz0 := dz 0
          have dz1 := dz 1
          have dz2 := dz 2
          have dz3 := dz 3
          have dz4 := dz 4
          have dz5 := dz 5
          have dz6 := dz 6
          have dz7 := dz 7
          clear dz
          go_enter Tryz.func66, Tryz.ntmps66
          go_wp2_with fail
          exact bodyPost_ret (v := .agg #[.bool false, .bool false, .slice none 0 0, .slice none 0 0, .slice none 0 0, .int .i64 p, .int .i64 0, .int .i64 4]) (by simp [results, Tryz.results66, go_sem, d0, d1, d2, d3, d4, d5, d6, d7]) rfl ⟨by omega, by omega, by rw [HP.out]; rfl, below_new _ _⟩
        · rw [if_neg (by intro h; rcases h with h | h; exact h512 h; exact h40 h.1), if_neg h40, if_pos rfl] at hRR
          have hgt : ¬ (512 : Int) < (nd : Int) + 1 := by omega
          have C := refAtom_hint (some ad) n c p (nd + 1) b L B _ hr1 hLo (by omega) hn hc s HS.out
          rw [show ((nd + 1 : Nat) : Int) = (nd : Int) + 1 by omega] at C
          have C := hid C
          have HRR : Hid (hintRes (pHint s) (nd + 1) = R) := by
            show _ = _
            rw [← hRR]
            unfold hintRes
            rfl
          clear hRR hr1
          go_enter Tryz.func66, Tryz.ntmps66
          go_wp2_with fail
          refine C.out.mono ?_
          intro e w2 hE
          rw [HRR.out] at hE
          cases R with
          | err k rest =>
            obtain ⟨hk1, hk2, rfl, hb2⟩ := hE
            obtain ⟨⟨d0, d1, d2, d3, d4, d5, d6, d7⟩, dz⟩ := (HX.out.old hb2).all
            have dz0 := dz 0
            have dz1 := dz 1
            have dz2 := dz 2
            have dz3 := dz 3
            have dz4 := dz 4
            have dz5 := dz 5
            have dz6 := dz 6
            have dz7 := dz 7
            have HF := hid (put8_below (hb0.trans (hb2.mono hb0.size)) (Nat.le_refl _) (.bool false) (.bool false) (.slice none 0 0) (.slice none 0 0) (.slice none 0 0) (.int .i64 (n - rest.length : Nat)) (.int .i64 0) (.int .i64 k))
            clear dz hb2
            go_wp2_with fail
            exact bodyPost_ret (v := .agg #[.bool false, .bool false, .slice none 0 0, .slice none 0 0, .slice none 0 0, .int .i64 (n - rest.length : Nat), .int .i64 0, .int .i64 k]) (by simp [results, Tryz.results66, go_sem, d0, d1, d2, d3, d4, d5, d6, d7]) rfl ⟨hk1, hk2, rfl, HF.out⟩
          | ok y rest =>
            obtain ⟨t, nd'⟩ := y
            obtain ⟨v0, v1, v2, v3, v4, rfl, hin, hb2⟩ := hE
            obtain ⟨l', h', hi', da', ks', B1, m1, j1, B2, m2, j2, B3, m3, j3, eZ, eE⟩ := hin.form_
            injection eE with eE0 eE; injection eE with eE1 eE; injection eE with eE2 eE; injection eE with eE3 eE; injection eE with eE4 eE
            subst eE0 eE1 eE2 eE3 eE4
            clear eE eZ
            obtain ⟨⟨d0, d1, d2, d3, d4, d5, d6, d7⟩, dz⟩ := (HX.out.old hb2).all
            have dz0 := dz 0
            have dz1 := dz 1
            have dz2 := dz 2
            have dz3 := dz 3
            have dz4 := dz 4
            have dz5 := dz 5
            have dz6 := dz 6
            have dz7 := dz 7
            have HF := hid (sin_put8 hin hb2 hb0 hBw hz1 (.int .i64 (n - rest.length : Nat)) (.int .i64 nd') (.int .i64 0))
            clear dz hb2 hin
            go_wp2_with fail
            exact bodyPost_ret (v := .agg #[.bool l', .bool h', .slice B1 m1 j1, .slice B2 m2 j2, .slice B3 m3 j3, .int .i64 (n - rest.length : Nat), .int .i64 nd', .int .i64 0]) (by simp [results, Tryz.results66, go_sem, d0, d1, d2, d3, d4, d5, d6, d7]) rfl ⟨_, _, _, _, _, rfl, HF.out⟩
      · obtain ⟨hx1, hx2⟩ : 48 ≤ x.toNat ∧ x.toNat ≤ 57 := by
          have hbt : begins x = true := by simpa using hbg
          simp [begins, isDig, h40, h91] at hbt
          omega
        have e2 : ((x.toNat : Int) == 91) = false := by
          rw [beq_eq_false_iff_ne]
          intro e
          exact h91 (UInt8.toNat_inj.1 (by show x.toNat = 91; omega))
        have e2' : ¬ ((x.toNat : Int) = 91) := by simpa using e2
        have e2b : ((x.toNat : Int) != 91) = true := by simpa using e2'
        have hlo' : ¬ (x.toNat : Int) < 48 := by omega
        have hhi' : ¬ (57 : Int) < (x.toNat : Int) := by omega
        have HBG := hid hbg
        clear hbg hx1 hx2
        by_cases h512 : 512 ≤ nd
        · rw [if_pos (.inl h512)] at hRR
          subst hRR
          have hgt : (512 : Int) < (nd : Int) + 1 := by omega
          clear h40 h91
          obtain ⟨⟨d0, d1, d2, d3, d4, d5, d6, d7⟩, dz⟩ := HX.out.all
          have dz0 := dz 0
          have dz1 := dz 1
          have dz2 := dz 2
          have dz3 := dz 3
          have dz4 := dz 4
          have dz5 := dz 5
          have dz6 := dz 6
          have dz7 := dz 7
          clear dz
          go_enter Tryz.func66, Tryz.ntmps66
          go_wp2_with fail
          exact bodyPost_ret (v := .agg #[.bool false, .bool false, .slice none 0 0, .slice none 0 0, .slice none 0 0, .int .i64 p, .int .i64 0, .int .i64 4]) (by simp [results, Tryz.results66, go_sem, d0, d1, d2, d3, d4, d5, d6, d7]) rfl ⟨by omega, by omega, by rw [HP.out]; rfl, below_new _ _⟩
        · rw [if_neg (by intro h; rcases h with h | h; exact h512 h; exact h40 h.1), if_neg h40, if_neg h91] at hRR
          have hgt : ¬ (512 : Int) < (nd : Int) + 1 := by omega
          have C := refAtom_plain (some ad) n c p (nd + 1) b L B _ hr1 hLo (by omega) hn hc x s HS.out h91
          rw [show ((nd + 1 : Nat) : Int) = (nd : Int) + 1 by omega] at C
          have C := hid C
          have HRR : Hid (bytesRes (pBytes (x :: s)) (nd + 1) = R) := by
            show _ = _
            rw [← hRR]
            unfold bytesRes
            rfl
          clear hRR hr1 h40 h91
          go_enter Tryz.func66, Tryz.ntmps66
          go_wp2_with fail
          refine C.out.mono ?_
          intro e w2 hE
          rw [HRR.out] at hE
          cases R with
          | err k rest =>
            obtain ⟨hk1, hk2, rfl, hb2⟩ := hE
            obtain ⟨⟨d0, d1, d2, d3, d4, d5, d6, d7⟩, dz⟩ := (HX.out.old hb2).all
            have dz0 := dz 0
            have dz1 := dz 1
            have dz2 := dz 2
            have dz3 := dz 3
            have dz4 := dz 4
            have dz5 := dz 5
            have dz6 := dz 6
            have dz7 := dz 7
            have HF := hid (put8_below (hb0.trans (hb2.mono hb0.size)) (Nat.le_refl _) (.bool false) (.bool false) (.slice none 0 0) (.slice none 0 0) (.slice none 0 0) (.int .i64 (n - rest.length : Nat)) (.int .i64 0) (.int .i64 k))
            clear dz hb2
            go_wp2_with fail
            exact bodyPost_ret (v := .agg #[.bool false, .bool false, .slice none 0 0, .slice none 0 0, .slice none 0 0, .int .i64 (n - rest.length : Nat), .int .i64 0, .int .i64 k]) (by simp [results, Tryz.results66, go_sem, d0, d1, d2, d3, d4, d5, d6, d7]) rfl ⟨hk1, hk2, rfl, HF.out⟩
          | ok y rest =>
            obtain ⟨t, nd'⟩ := y
            obtain ⟨v0, v1, v2, v3, v4, rfl, hin, hb2⟩ := hE
            obtain ⟨l', h', hi', da', ks', B1, m1, j1, B2, m2, j2, B3, m3, j3, eZ, eE⟩ := hin.form_
            injection eE with eE0 eE; injection eE with eE1 eE; injection eE with eE2 eE; injection eE with eE3 eE; injection eE with eE4 eE
            subst eE0 eE1 eE2 eE3 eE4
            clear eE eZ
            obtain ⟨⟨d0, d1, d2, d3, d4, d5, d6, d7⟩, dz⟩ := (HX.out.old hb2).all
            have dz0 := dz 0
            have dz1 := dz 1
            have dz2 := dz 2
            have dz3 := dz 3
            have dz4 := dz 4
            have dz5 := dz 5
            have dz6 := dz 6
            have dz7 := dz 7
            have HF := hid (sin_put8 hin hb2 hb0 hBw hz1 (.int .i64 (n - rest.length : Nat)) (.int .i64 nd') (.int .i64 0))
            clear dz hb2 hin
            go_wp2_with fail
            exact bodyPost_ret (v := .agg #[.bool l', .bool h', .slice B1 m1 j1, .slice B2 m2 j2, .slice B3 m3 j3, .int .i64 (n - rest.length : Nat), .int .i64 nd', .int .i64 0]) (by simp [results, Tryz.results66, go_sem, d0, d1, d2, d3, d4, d5, d6, d7]) rfl ⟨_, _, _, _, _, rfl, HF.out⟩
end Go.Proofs.YtcojkmcnigppbaaGreatDoor
end
