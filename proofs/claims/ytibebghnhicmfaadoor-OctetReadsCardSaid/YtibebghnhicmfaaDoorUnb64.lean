/-
  The contract of octet.Unbase64: the bytes of which a text is the Base64, or the error. Conditions: at most 2^40 bytes.
-/
import Derived.Test.YtibebghnhicmfaaDoorAwake
import Derived.Test.YtibebghnhicmfaaDoorUb64Math
set_option linter.unusedVariables false
namespace Go.Proofs.YtibebghnhicmfaaDoor
open Go Go.Proofs Go.RowKit Oct

theorem int_eq'' {k : IntKind} {a b : Int} (h : a = b) : Value.int k a = Value.int k b := by rw [h]
theorem reads_const (w : World) (x : Int) (c : UInt8) (h : x = (c.toNat : Int)) : Reads (w.alloc (.cells #[.int .u8 x] 5)) (w.heap.size + 1) 1 (some ⟨w.heap.size, 0, none⟩) 1 (Lib.byteCells [c]) := by
  subst h
  exact reads_one w c (0, 0)

theorem i64_join6 (a d : Nat) (ha : a < 64) (hd : d < 64) : bits .or .i64 ((a : Int) * 64) (d : Int) = ((a * 64 + d : Nat) : Int) := by
  have := i64_or_nat (a * 64) d (by omega) (by omega)
  rw [nat_join 6 (a * 64) d (by omega) (by omega)] at this
  rw [show ((a : Int) * 64) = ((a * 64 : Nat) : Int) from by omega, this]

theorem i64_and_nat (a b : Nat) (ha : a < 9223372036854775808) (hb : b < 9223372036854775808) : bits .and .i64 (a : Int) (b : Int) = ((a &&& b : Nat) : Int) := by
  have hx : a &&& b < 2 ^ 63 := Nat.and_lt_two_pow _ (by omega)
  show IntKind.i64.wrap ((BitVec.ofInt 64 (a : Int) &&& BitVec.ofInt 64 (b : Int)).toNat : Int) = _
  rw [BitVec.toNat_and, ofInt_i64 a ha, ofInt_i64 b hb, IntKind.wrap_i64]
  omega
theorem and_mask (B : Nat) (h : B < 4096) : bits .and .i64 (B : Int) 0 = 0 ∧ bits .and .i64 (B : Int) 3 = ((B % 4 : Nat) : Int) ∧ bits .and .i64 (B : Int) 15 = ((B % 16 : Nat) : Int) := by
  refine ⟨?_, ?_, ?_⟩
  · have := i64_and_nat B 0 (by omega) (by omega)
    simpa using this
  · have := i64_and_nat B 3 (by omega) (by omega)
    rw [nat_mask2] at this
    simpa using this
  · have := i64_and_nat B 15 (by omega) (by omega)
    rw [nat_mask4] at this
    simpa using this

theorem index64_any (c : UInt8) (w : World) : Calls Tryd.prog 25 #[.string ⟨#[65, 66, 67, 68, 69, 70, 71, 72, 73, 74, 75, 76, 77, 78, 79, 80, 81, 82, 83, 84, 85, 86, 87, 88, 89, 90, 97, 98, 99, 100, 101, 102, 103, 104, 105, 106, 107, 108, 109, 110, 111, 112, 113, 114, 115, 116, 117, 118, 119, 120, 121, 122, 48, 49, 50, 51, 52, 53, 54, 55, 56, 57, 43, 47]⟩, .int .u8 c.toNat] w fun e w' => e = .returned (.int .i64 (val64 c)) ∧ w = w' := by
  refine (Tryd.strings_IndexByte _ (c.toNat : Int) w).mono ?_
  rintro e w' ⟨rfl, rfl⟩
  refine ⟨?_, rfl⟩
  have hc : (c.toNat : Int).toNat.toUInt8 = c := by simp
  rw [hc]
  rfl

theorem trim_le (l : List UInt8) : (Lib.trimRightB l 61).length ≤ l.length := by
  have := congrArg List.length (trim_split l)
  rw [List.length_append] at this
  omega

set_option maxHeartbeats 2000000 in
set_option maxRecDepth 100000 in
theorem unbase64_any (s : ByteArray) (w : World) (hs : s.size ≤ 1099511627776) :
    Calls Tryd.prog 11 #[.string s] w fun e w' => UnhexEnd (ub64 s.data.toList) w e w' := by
  obtain ⟨i0, hi, hz0, hz1, hz2⟩ := info_parts infoByte
  have hsl : s.data.toList.length = s.size := by simp
  have hub : ub64 s.data.toList = ub64 s.data.toList := rfl
  have htl := trim_le s.data.toList
  obtain ⟨T, hT⟩ : ∃ T, T = Lib.trimRightB s.data.toList 61 := ⟨_, rfl⟩
  have hdef : ub64 s.data.toList = if s.size % 4 ≠ 0 ∨ s.size - T.length > 2 then none else match urun T ⟨0, 0, []⟩ with | none => none | some u => if u.bits ≠ 0 then none else some u.out := by
    rw [hT, ← hsl]; rfl
  rw [← hT] at htl
  have hTl : T.length ≤ s.size := by omega
  have htr := Tryd.strings_TrimRight_one s 61 (by decide) w (by omega)
  rw [← hT] at htr
  generalize ub64 s.data.toList = R at *
  have HR := Lib.hid hdef
  clear hdef hub hT hsl htl
  have hsz : (⟨T.toArray⟩ : ByteArray).size = T.length := by show T.toArray.size = _; simp
  have hsz' := Lib.hid hsz
  clear hsz
  by_cases h4 : s.size % 4 = 0
  · by_cases h2 : s.size - T.length > 2
    · have hno : Hid (R = none) := by show _ = _; rw [HR.out, if_pos (Or.inr h2)]
      go_enter Tryd.func11, Tryd.ntmps11
      go_wp2_with fail
      refine htr.mono ?_
      rintro e w1 ⟨rfl, rfl⟩
      go_wp2
      go_ret2
      exact .inl ⟨hno.out, rfl, Below.refl _ _⟩
    · have hyes : Hid (R = match urun T ⟨0, 0, []⟩ with | none => none | some u => if u.bits ≠ 0 then none else some u.out) := by show _ = _; rw [HR.out, if_neg (by omega)]
      have hdec : decide (2 < (s.size : Int) - (T.length : Int)) = false := by simp; omega
      go_enter Tryd.func11, Tryd.ntmps11
      go_wp2_with fail
      refine htr.mono ?_
      rintro e w1 ⟨rfl, hw⟩
      subst hw
      clear htr
      go_wp2_with (at_make; refine wpList_make_own _ rfl _ _ 22 rfl w1.heap.size 5 i0 (.int .u8 0) 1 Tryd.underlying22 hi hz0 hz1 _ _ _ (s.size / 4 * 3) rfl rfl (by omega) ?b2 ?b3 (Nat.le_refl _) ?_)
      case b2 => rw [hz2]; omega
      case b3 => unfold maxLen; omega
      intro w0 hown0 hgrow0
      have hbel0 : Below w1.heap.size w1 w0 := (Below.refl _ _).grown hgrow0 (Nat.le_refl _) (fun k hk => by cases hk)
      clear hgrow0
      go_wp2
      go_loopw [5, 6, 7, 31] (fun v a b i wr => ∃ (k : Nat) (u : U), k ≤ T.length ∧ i = .int .i64 k ∧ a = .int .i64 u.bits ∧ b = .int .i64 u.count ∧ (u.count = 0 ∨ u.count = 2 ∨ u.count = 4 ∨ u.count = 6) ∧ u.bits < 2 ^ u.count ∧ u.out.length ≤ k ∧ wr.ownsRow w1.heap.size 5 1 v u.out.length (Lib.byteCells u.out) ∧ urun T ⟨0, 0, []⟩ = urun (T.drop k) u ∧ Below w1.heap.size w1 wr) (fun _ _ _ i _ => T.length - (intOf i).toNat)
      case atStart => exact ⟨0, ⟨0, 0, []⟩, Nat.zero_le _, rfl, rfl, rfl, .inl rfl, by decide, Nat.zero_le _, hown0, rfl, hbel0⟩
      case round =>
        obtain ⟨k, ⟨ub, uc, uo⟩, hk, rfl, rfl, rfl, hcnt, hbits, hol, hown, hrun, hbel⟩ := hrel
        dsimp only at hcnt hbits hol hown hrun
        clear hown0 hbel0
        have HRUN := Lib.hid hrun
        clear hrun
        have hszr := hbel.size
        by_cases hlt : k < T.length
        · have hdr : T.drop k = T[k] :: T.drop (k + 1) := List.drop_eq_getElem_cons hlt
          have HDR := Lib.hid hdr
          clear hdr
          go_wp2_with fail
          generalize hx : (⟨T.toArray⟩ : ByteArray)[k] = c
          have hxT : T[k] = c := by rw [← hx]; rfl
          rw [hxT] at HDR
          clear hx hxT
          refine (index64_any c wr).mono ?_
          rintro e w' ⟨rfl, rfl⟩
          have hvb := val64_bound c
          by_cases hv : val64 c < 0
          · have hno : Hid (R = none) := by
              show _ = _
              rw [hyes.out, HRUN.out, HDR.out, urun, if_pos hv]
            go_wp2
            go_ret2
            exact .inl ⟨hno.out, rfl, hbel⟩
          · obtain ⟨d, hd⟩ : ∃ d, d = (val64 c).toNat := ⟨_, rfl⟩
            have hdv : val64 c = (d : Int) := by omega
            have hd64 : d < 64 := by omega
            have hnext : Hid (urun T ⟨0, 0, []⟩ = urun (T.drop (k + 1)) (ustep ⟨ub, uc, uo⟩ d)) := by
              show _ = _
              rw [HRUN.out, HDR.out, urun, if_neg hv, hd]
            rw [hdv]
            clear hv hvb hdv hd HRUN HDR
            have hub : ub < 64 := Nat.lt_of_lt_of_le hbits (by
              rcases hcnt with rfl | rfl | rfl | rfl <;> decide)
            have hor := i64_join6 ub d hub hd64
            obtain ⟨B, hB⟩ : ∃ B, B = ub * 64 + d := ⟨_, rfl⟩
            rw [← hB] at hor
            have hm := and_mask B (by omega)
            obtain ⟨m0, m3, m15⟩ := hm
            rcases hcnt with rfl | rfl | rfl | rfl
            · have hub0 : ub < 1 := hbits
              rw [step0] at hnext
              rw [← hB] at hnext
              have HB := Lib.hid hB
              clear hB m0 m3 m15
              go_wp2
              exact ⟨⟨k + 1, ⟨B, 6, uo⟩, by omega, by go_num, rfl, rfl, by simp, show B < 64 by have := HB.out; omega, show uo.length ≤ k + 1 by omega, hown, hnext.out, hbel⟩, by simp [intOf]; omega⟩
            · have hub0 : ub < 4 := hbits
              rw [step2] at hnext
              rw [← hB] at hnext
              have hB1 : B < 256 := by omega
              clear hB hbits
              have hby := nat_byte B (by omega)
              have hrd := reads_const wr (B : Int) B.toUInt8 (by rw [hby])
              have hcat : Hid (Lib.byteCells uo ++ Lib.byteCells [B.toUInt8] = Lib.byteCells (uo ++ [B.toUInt8])) := (Lib.byteCells_append _ _).symm
              clear hby
              go_wp2_with (at_builtin; refine wpList_append_any _ rfl (.tmp 50) (.tmp 55) 22 rfl w1.heap.size 5 i0 (.int .u8 0) 1 1 Tryd.underlying22 hi hz0 hz1 hz2 rfl (by decide) _ _ _ rfl (hown.alloc _) (wr.heap.size + 1) _ 1 1 (Lib.byteCells [B.toUInt8]) rfl hrd (Lib.byteCells_one _) ?a1 ?a2 ?a3 ?_)
              case a1 => unfold maxLen; omega
              case a2 => omega
              case a3 => first | omega | (simp; done) | (simp; omega)
              intro v' w2 hown' hgrow _
              have hbel2 : Below w1.heap.size w1 w2 := (hbel.alloc hszr _).grown hgrow (by simp; omega) (fun k hk => (hown.lt k hk).1)
              rw [hcat.out] at hown'
              clear hown hgrow hrd hbel
              go_wp2
              exact ⟨⟨k + 1, ⟨0, 0, uo ++ [B.toUInt8]⟩, by omega, by go_num, by first | rfl | exact int_eq'' (by omega), rfl, by simp, by show _ < _; first | omega | (simp; done) | (simp; omega), by show (uo ++ [_]).length ≤ k + 1; simp; omega, by show World.ownsRow _ _ _ _ _ (uo ++ [_]).length _; rw [List.length_append]; exact hown', hnext.out, hbel2⟩, by simp [intOf]; omega⟩
            · have hub0 : ub < 16 := hbits
              rw [step4] at hnext
              rw [← hB] at hnext
              have hB1 : B < 1024 := by omega
              clear hB hbits
              have hby := nat_byte (B / 4) (by omega)
              have hrd := reads_const wr ((B : Int) / 4) (B / 4).toUInt8 (by rw [hby]; omega)
              have hcat : Hid (Lib.byteCells uo ++ Lib.byteCells [(B / 4).toUInt8] = Lib.byteCells (uo ++ [(B / 4).toUInt8])) := (Lib.byteCells_append _ _).symm
              clear hby
              go_wp2_with (at_builtin; refine wpList_append_any _ rfl (.tmp 50) (.tmp 55) 22 rfl w1.heap.size 5 i0 (.int .u8 0) 1 1 Tryd.underlying22 hi hz0 hz1 hz2 rfl (by decide) _ _ _ rfl (hown.alloc _) (wr.heap.size + 1) _ 1 1 (Lib.byteCells [(B / 4).toUInt8]) rfl hrd (Lib.byteCells_one _) ?b1 ?b2 ?b3 ?_)
              case b1 => unfold maxLen; omega
              case b2 => omega
              case b3 => first | omega | (simp; done) | (simp; omega)
              intro v' w2 hown' hgrow _
              have hbel2 : Below w1.heap.size w1 w2 := (hbel.alloc hszr _).grown hgrow (by simp; omega) (fun k hk => (hown.lt k hk).1)
              rw [hcat.out] at hown'
              clear hown hgrow hrd hbel
              go_wp2
              exact ⟨⟨k + 1, ⟨B % 4, 2, uo ++ [(B / 4).toUInt8]⟩, by omega, by go_num, by first | rfl | exact int_eq'' (by omega), rfl, by simp, by show _ < _; first | omega | (simp; done) | (simp; omega), by show (uo ++ [_]).length ≤ k + 1; simp; omega, by show World.ownsRow _ _ _ _ _ (uo ++ [_]).length _; rw [List.length_append]; exact hown', hnext.out, hbel2⟩, by simp [intOf]; omega⟩
            · have hub0 : ub < 64 := hbits
              rw [step6] at hnext
              rw [← hB] at hnext
              have hB1 : B < 4096 := by omega
              clear hB hbits
              have hby := nat_byte (B / 16) (by omega)
              have hrd := reads_const wr ((B : Int) / 16) (B / 16).toUInt8 (by rw [hby]; omega)
              have hcat : Hid (Lib.byteCells uo ++ Lib.byteCells [(B / 16).toUInt8] = Lib.byteCells (uo ++ [(B / 16).toUInt8])) := (Lib.byteCells_append _ _).symm
              clear hby
              go_wp2_with (at_builtin; refine wpList_append_any _ rfl (.tmp 50) (.tmp 55) 22 rfl w1.heap.size 5 i0 (.int .u8 0) 1 1 Tryd.underlying22 hi hz0 hz1 hz2 rfl (by decide) _ _ _ rfl (hown.alloc _) (wr.heap.size + 1) _ 1 1 (Lib.byteCells [(B / 16).toUInt8]) rfl hrd (Lib.byteCells_one _) ?c1 ?c2 ?c3 ?_)
              case c1 => unfold maxLen; omega
              case c2 => omega
              case c3 => first | omega | (simp; done) | (simp; omega)
              intro v' w2 hown' hgrow _
              have hbel2 : Below w1.heap.size w1 w2 := (hbel.alloc hszr _).grown hgrow (by simp; omega) (fun k hk => (hown.lt k hk).1)
              rw [hcat.out] at hown'
              clear hown hgrow hrd hbel
              go_wp2
              exact ⟨⟨k + 1, ⟨B % 16, 4, uo ++ [(B / 16).toUInt8]⟩, by omega, by go_num, by first | rfl | exact int_eq'' (by omega), rfl, by simp, by show _ < _; first | omega | (simp; done) | (simp; omega), by show (uo ++ [_]).length ≤ k + 1; simp; omega, by show World.ownsRow _ _ _ _ _ (uo ++ [_]).length _; rw [List.length_append]; exact hown', hnext.out, hbel2⟩, by simp [intOf]; omega⟩
        · obtain rfl : k = T.length := by omega
          have hend : Hid (R = if ub ≠ 0 then none else some uo) := by
            show _ = _
            rw [hyes.out, HRUN.out, List.drop_of_length_le (Nat.le_refl _), urun]
          by_cases hz : ub = 0
          · have hR : Hid (R = some uo) := by show _ = _; rw [hend.out, if_neg (by simpa using hz)]
            subst hz
            go_wp2
            go_ret2
            exact .inr ⟨uo, _, hR.out, rfl, hown, hbel⟩
          · have hR : Hid (R = none) := by show _ = _; rw [hend.out, if_pos hz]
            have hzb : ((ub : Int) != 0) = true := by simpa using hz
            go_wp2
            go_ret2
            exact .inl ⟨hR.out, rfl, hbel⟩
  · have hno : Hid (R = none) := by show _ = _; rw [HR.out, if_pos (Or.inl h4)]
    go_enter Tryd.func11, Tryd.ntmps11
    go_wp2_with fail
    refine htr.mono ?_
    rintro e w1 ⟨rfl, rfl⟩
    go_wp2
    go_ret2
    exact .inl ⟨hno.out, rfl, Below.refl _ _⟩
end Go.Proofs.YtibebghnhicmfaaDoor
