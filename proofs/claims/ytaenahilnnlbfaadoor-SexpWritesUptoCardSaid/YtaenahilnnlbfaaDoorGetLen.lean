/-
  The contract of octet.isDigit and octet.GetLen: the length that stands at a place of bytes that read as a list. Conditions: none beyond that.
-/
import Derived.Test.YtaenahilnnlbfaaDoorHold
import Derived.Test.YtaenahilnnlbfaaDoorNumMath
import Derived.Shelf.Strings.BuilderK
set_option linter.unusedVariables false
namespace Go.Proofs.YtaenahilnnlbfaaDoor
open Go Go.Proofs Go.RowKit Oct

set_option maxHeartbeats 1000000 in
set_option maxRecDepth 100000 in
theorem isDigit_any (x : UInt8) (w : World) : Calls Tryd.prog 61 #[.int .u8 x.toNat] w fun e w' => e = .returned (.bool (isDig x)) ∧ w' = w := by
  have hx := x.toNat_lt
  by_cases h1 : 48 ≤ x.toNat
  · by_cases h2 : x.toNat ≤ 57
    · have hd : Hid (isDig x = true) := by show _ = _; simp [isDig, h1, h2]
      go_enter Tryd.func61, Tryd.ntmps61
      go_wp2
      go_ret
      exact ⟨by rw [hd.out]; first | done | (simp; omega) | rfl, rfl⟩
    · have hd : Hid (isDig x = false) := by show _ = _; simp [isDig, h2]
      go_enter Tryd.func61, Tryd.ntmps61
      go_wp2
      go_ret
      exact ⟨by rw [hd.out]; first | done | (simp; omega) | rfl, rfl⟩
  · have hd : Hid (isDig x = false) := by show _ = _; simp [isDig, h1]
    go_enter Tryd.func61, Tryd.ntmps61
    go_wp2
    go_ret
    exact ⟨by rw [hd.out]; first | done | (simp; omega) | rfl, rfl⟩

theorem int_eq {k : IntKind} {a b : Int} (h : a = b) : Value.int k a = Value.int k b := by rw [h]
theorem ret3_int {a b c a' b' c' : Int} (h1 : a = a') (h2 : b = b') (h3 : c = c') : Ending.returned (.tuple #[.int .i64 a, .int .i64 b, .int .i64 c]) = .returned (.tuple #[.int .i64 a', .int .i64 b', .int .i64 c']) := by rw [h1, h2, h3]

def GetLenEnd (r : Int × Int × Int) (w : World) (e : Ending) (w' : World) : Prop := e = .returned (.tuple #[.int .i64 r.1, .int .i64 r.2.1, .int .i64 r.2.2]) ∧ w' = w

set_option maxHeartbeats 1000000 in
set_option maxRecDepth 100000 in
theorem getLen_any (A : Option Addr) (n c : Nat) (l : List UInt8) (B : Nat) (a m : Int) (w : World) (hr : Reads w B 1 A n (Lib.byteCells l)) (hn : n ≤ maxLen) (ha : -9223372036854775808 ≤ a ∧ a ≤ 9223372036854775807) (hm : -9223372036854775808 ≤ m ∧ m ≤ 9223372036854775807) :
    Calls Tryd.prog 58 #[.slice A n c, .int .i64 a, .int .i64 m] w (GetLenEnd (getLen l a m) w) := by
  have hl : l.length = n := by have := hr.1; simpa [Lib.byteCells_length] using this
  unfold maxLen at hn
  by_cases h0 : a < 0
  · have HG : Hid (getLen l a m = (0, a, 1)) := by show _ = _; simp [getLen, h0]
    go_enter Tryd.func58, Tryd.ntmps58
    go_wp2
    go_ret3
    exact ⟨by rw [HG.out]; rfl, rfl⟩
  · obtain ⟨k, rfl⟩ := Int.eq_ofNat_of_zero_le (show 0 ≤ a by omega)
    by_cases h1 : n ≤ k
    · have HG : Hid (getLen l (k : Int) m = (0, (k : Int), 2)) := by show _ = _; simp [getLen, List.drop_of_length_le (show l.length ≤ k by omega)]
      go_enter Tryd.func58, Tryd.ntmps58
      go_wp2
      go_ret3
      exact ⟨by rw [HG.out]; rfl, rfl⟩
    · have hk : k < n := by omega
      obtain ⟨ad, u, rfl, hab, hu, hc⟩ := hr.at_ hk
      have hkl : k < l.length := by omega
      obtain ⟨x, hx⟩ : ∃ x : UInt8, x = l[k] := ⟨_, rfl⟩
      have hu' : u = .int .u8 x.toNat := by
        simp [Lib.byteCells, List.getElem?_map, List.getElem?_eq_getElem hkl] at hu
        rw [hx]; exact hu.symm
      subst hu'
      have hdrop : l.drop k = x :: l.drop (k + 1) := by rw [hx]; exact List.drop_eq_getElem_cons hkl
      have HD := Lib.hid hdrop; have HX := Lib.hid hx; have HL := Lib.hid hl
      clear hdrop hx hu hl
      by_cases h2 : isDig x = false
      · have HG : Hid (getLen l (k : Int) m = (0, (k : Int), 3)) := by show _ = _; simp [getLen, HD.out, h2]
        go_enter Tryd.func58, Tryd.ntmps58
        go_wp2_with (go_at_call 61; refine (isDigit_any x _).mono ?_; rintro e w' ⟨rfl, rfl⟩)
        go_ret3
        exact ⟨by rw [HG.out]; rfl, rfl⟩
      · have h2 : isDig x = true := by simpa using h2
        by_cases h3 : x = 48
        · subst h3
          have HG : Hid (getLen l (k : Int) m = (0, (k : Int) + 1, 0)) := by
            show getLen l (k : Int) m = _
            unfold getLen
            rw [if_neg h0, Int.toNat_natCast, HD.out]
            rfl
          go_enter Tryd.func58, Tryd.ntmps58
          go_wp2_with (go_at_call 61; refine (isDigit_any 48 _).mono ?_; rintro e w' ⟨rfl, rfl⟩)
          go_ret3
          exact ⟨by rw [HG.out]; rfl, rfl⟩
        · obtain ⟨M, hM⟩ : ∃ M, M = (max m 0).toNat := ⟨_, rfl⟩
          have hM' : max m 0 = (M : Int) := by omega
          have hM2 : M ≤ 9223372036854775807 := by omega
          have hx0 : x.toNat ≠ 48 := fun h => h3 (UInt8.toNat_inj.1 h)
          have HG : ∀ r, Hid (digs M (l.drop k) 0 = r) → Hid (getLen l (k : Int) m = match r with | none => (0, (k : Int), 4) | some (v, q) => ((v : Int), (k : Int) + q, 0)) := by
            intro r hrr
            show getLen l (k : Int) m = _
            unfold getLen
            rw [if_neg h0, Int.toNat_natCast, HD.out]
            show (if isDig x = false then _ else if x = 48 then _ else _) = _
            rw [if_neg (by rw [h2]; simp), if_neg h3, ← hM, ← HD.out, hrr.out]
            rfl
          have HG := Lib.hid HG
          have HM := Lib.hid hM'
          have hbd : 48 ≤ x.toNat ∧ x.toNat ≤ 57 := by simpa [isDig] using h2
          have hxB : ((x.toNat : Int) == 48) = false := by
            rw [beq_eq_false_iff_ne]; omega
          clear hM hM' h3
          go_enter Tryd.func58, Tryd.ntmps58
          go_wp2_with (go_at_call 61; refine (isDigit_any x _).mono ?_; rintro e w' ⟨rfl, rfl⟩)
          rw [HM.out]
          clear hxB
          go_loop [9, 10] (fun a b => ∃ (v j : Nat), k ≤ j ∧ j ≤ n ∧ v ≤ M ∧ a = .int .i64 v ∧ b = .int .i64 j ∧ digs M (l.drop k) 0 = (digs M (l.drop j) v).map fun p => (p.1, p.2 + (j - k))) (fun _ b => n - (intOf b).toNat)
          case atStart => exact ⟨0, k, Nat.le_refl _, by omega, Nat.zero_le _, rfl, rfl, by simp⟩
          case round =>
            obtain ⟨v, j, hkj, hjn, hvM, rfl, rfl, hdg⟩ := hrel
            have HDG := Lib.hid hdg
            clear hdg hc
            by_cases hj : j < n
            · obtain ⟨ad', u, had, _, hu, hc⟩ := hr.at_ hj
              injection had with had
              subst had
              have hll : l.length = n := HL.out
              have hjl : j < l.length := by omega
              obtain ⟨y, hy⟩ : ∃ y : UInt8, y = l[j] := ⟨_, rfl⟩
              have hu' : u = .int .u8 y.toNat := by
                simp [Lib.byteCells, List.getElem?_map, List.getElem?_eq_getElem hjl] at hu
                rw [hy]; exact hu.symm
              subst hu'
              have hdr : l.drop j = y :: l.drop (j + 1) := by rw [hy]; exact List.drop_eq_getElem_cons hjl
              have HDR := Lib.hid hdr
              clear hdr hy hu hll
              by_cases hd : isDig y = true
              · have hyb : 48 ≤ y.toNat ∧ y.toNat ≤ 57 := by simpa [isDig] using hd
                go_wp2_with (go_at_call 61; refine (isDigit_any y _).mono ?_; rintro e w' ⟨rfl, rfl⟩)
                all_goals first
                  | (go_ret3
                     have hbad : 10 * v + (y.toNat - 48) > M := by omega
                     have hf := HG.out none (show _ = _ by rw [HDG.out, HDR.out, digs, if_pos hd, if_pos hbad]; rfl)
                     exact ⟨by rw [hf.out]; rfl, rfl⟩)
                  | (have hok : ¬ 10 * v + (y.toNat - 48) > M := by omega
                     refine ⟨⟨10 * v + (y.toNat - 48), j + 1, by omega, by omega, by omega, int_eq (by omega), int_eq (by omega), ?_⟩, by simp [intOf]; omega⟩
                     rw [HDG.out, HDR.out, digs, if_pos hd, if_neg hok, Option.map_map]
                     refine congrFun (congrArg Option.map (funext fun p => ?_)) _
                     show (p.1, p.2 + 1 + (j - k)) = (p.1, p.2 + (j + 1 - k))
                     congr 1; omega)
              · have hd : isDig y = false := by simpa using hd
                go_wp2_with (go_at_call 61; refine (isDigit_any y _).mono ?_; rintro e w' ⟨rfl, rfl⟩)
                go_ret3
                have hf := HG.out (some (v, j - k)) (show _ = _ by rw [HDG.out, HDR.out, digs, if_neg (by rw [hd]; simp)]; simp)
                exact ⟨by rw [hf.out]; exact ret3_int rfl (show (_ : Int) = (k : Int) + ((j - k : Nat) : Int) by omega) rfl, rfl⟩
            · obtain rfl : j = n := by omega
              go_wp2_with fail
              go_ret3
              have hf := HG.out (some (v, j - k)) (show _ = _ by rw [HDG.out, List.drop_of_length_le (by rw [HL.out]; exact Nat.le_refl _), digs]; simp)
              exact ⟨by rw [hf.out]; exact ret3_int rfl (show (_ : Int) = (k : Int) + ((j - k : Nat) : Int) by omega) rfl, rfl⟩
end Go.Proofs.YtaenahilnnlbfaaDoor
