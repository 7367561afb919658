/-
  The contract of the document's answer of layer 9, Get (package greffierref09). Conditions: at most 2^40 bytes.
-/
import Derived.Test.YtjdmhbfddklhnaaDoorNumRef
import Derived.Lib.Hide
import Derived.Deep.DeepCutAuto
import Derived.Deep.CutBlock
set_option linter.unusedSimpArgs false
set_option linter.unusedVariables false
namespace Go.Proofs.YtjdmhbfddklhnaaDoor
open Go Go.Proofs Go.RowKit Num9

/-- How Get ends. -/
def GetEnd9 (l : List UInt8) (w : World) (e : Ending) (w' : World) : Prop :=
  ∃ x ok, e = .returned (.tuple #[.float .f64 x, .bool ok]) ∧ (numR l).Is x ok ∧ Below w.heap.size w w'

theorem reads_byteN {w : World} {B n j : Nat} {A : Option Addr} {l : List UInt8} (hr : Reads w B 1 A n (Lib.byteCells l)) (hj : j < n) : ∃ (ad : Addr) (y : UInt8), A = some ad ∧ w.cell? (ad.add j) = some (.int .u8 y.toNat) ∧ l.drop j = y :: l.drop (j + 1) ∧ l[j]? = some y := by
  obtain ⟨ad, u, rfl, _, hu, hc⟩ := hr.at_ hj
  have hl : l.length = n := by have := hr.1; simpa [Lib.byteCells_length] using this
  have hjl : j < l.length := by omega
  refine ⟨ad, l[j], rfl, ?_, List.drop_eq_getElem_cons hjl, List.getElem?_eq_getElem hjl⟩
  have hu' : u = .int .u8 (l[j]).toNat := by
    simp [Lib.byteCells, List.getElem?_map, List.getElem?_eq_getElem hjl] at hu
    exact hu.symm
  rw [hc, hu']

theorem bytes_list (l : List UInt8) : (⟨l.toArray⟩ : ByteArray).toList = l := by rw [ByteArray.toList_eq]
set_option maxHeartbeats 4000000 in
set_option maxRecDepth 100000 in
theorem get9_words (A : Option Addr) (n c : Nat) (l : List UInt8) (B : Nat) (w : World) (hr : Reads w B 1 A n (Lib.byteCells l)) (hl : l = [105, 110, 102] ∨ l = [45, 105, 110, 102] ∨ l = [110, 97, 110]) :
    Calls Tryd.prog 26 #[.slice A n c] w fun e w' => GetEnd9 l w e w' := by
  have hb := run_back (c := c) hr
  rcases hl with h | h | h
  · have hs := bytes_list l
    generalize (⟨l.toArray⟩ : ByteArray) = S at hb hs
    have hs1 : (S.toList == [105, 110, 102]) = true := by rw [hs, h]; rfl
    clear hs
    have hq : floatBits .quo .f64 4607182418800017408 0 = some 0x7ff0000000000000 := by decide
    have hop : ∀ t w, (binOp .quo t (.float .f64 4607182418800017408) (.float .f64 0)).run Tryd.prog w = .ok (.float .f64 0x7ff0000000000000) w := fun t w => run_float_arith w .quo t .f64 _ _ _ hq
    go_enter Tryd.func26, Tryd.ntmps26
    go_wp2_with first | (go_at_call 45; refine (zero9_any _).mono ?_; rintro e w' ⟨rfl, rfl⟩) | (simp only [hop])
    go_ret2
    refine ⟨_, _, rfl, ?_, Below.refl _ _⟩
    rw [h]; exact ⟨rfl, rfl⟩
  · have hs := bytes_list l
    generalize (⟨l.toArray⟩ : ByteArray) = S at hb hs
    have hs1 : (S.toList == [105, 110, 102]) = false := by rw [hs, h]; rfl
    have hs2 : (S.toList == [45, 105, 110, 102]) = true := by rw [hs, h]; rfl
    clear hs
    have hq : floatBits .quo .f64 13830554455654793216 0 = some 0xfff0000000000000 := by decide
    have hop : ∀ t w, (binOp .quo t (.float .f64 13830554455654793216) (.float .f64 0)).run Tryd.prog w = .ok (.float .f64 0xfff0000000000000) w := fun t w => run_float_arith w .quo t .f64 _ _ _ hq
    go_enter Tryd.func26, Tryd.ntmps26
    go_wp2_with first | (go_at_call 45; refine (zero9_any _).mono ?_; rintro e w' ⟨rfl, rfl⟩) | (simp only [hop])
    go_ret2
    refine ⟨_, _, rfl, ?_, Below.refl _ _⟩
    rw [h]; exact ⟨rfl, rfl⟩
  · have hs := bytes_list l
    generalize (⟨l.toArray⟩ : ByteArray) = S at hb hs
    have hs1 : (S.toList == [105, 110, 102]) = false := by rw [hs, h]; rfl
    have hs2 : (S.toList == [45, 105, 110, 102]) = false := by rw [hs, h]; rfl
    have hs3 : (S.toList == [110, 97, 110]) = true := by rw [hs, h]; rfl
    clear hs
    obtain ⟨r, hk, hop⟩ := run_nan 43 w
    have HK := Lib.hid hk
    clear hk
    go_enter Tryd.func26, Tryd.ntmps26
    go_wp2_with first | (go_at_call 45; refine (zero9_any _).mono ?_; rintro e w' ⟨rfl, rfl⟩) | (simp only [hop])
    go_ret2
    refine ⟨_, _, rfl, ?_, (Below.refl _ _).drew⟩
    rw [h]; exact ⟨HK.out, rfl⟩

theorem numR_first {l : List UInt8} {y : UInt8} {r : List UInt8} (h : l = y :: r) (h1 : l ≠ [105, 110, 102]) (h2 : l ≠ [45, 105, 110, 102]) (h3 : l ≠ [110, 97, 110]) : numR l = if y.toNat = 45 then digitsR true r else digitsR false l := by
  unfold numR
  rw [if_neg h1, if_neg h2, if_neg h3, h]

namespace Num9
theorem scan_stop_bad {y : UInt8} {r : List UInt8} {f : Bool} {n sc ct st : Nat} (h : y.toNat = 46) (hb : 0 < st ∨ f = true ∨ r = []) : scan (y :: r) f n sc ct st = none := by
  rw [scan, if_pos h, if_pos hb]
theorem scan_stop {y : UInt8} {r : List UInt8} {f : Bool} {n sc ct st : Nat} (h : y.toNat = 46) (hb : ¬ (0 < st ∨ f = true ∨ r = [])) : scan (y :: r) f n sc ct st = scan r false n sc ct 1 := by
  rw [scan, if_pos h, if_neg hb]
theorem scan_bad {y : UInt8} {r : List UInt8} {f : Bool} {n sc ct st : Nat} (h : y.toNat ≠ 46) (hb : y.toNat < 48 ∨ 57 < y.toNat ∨ ct = 15) : scan (y :: r) f n sc ct st = none := by
  rw [scan, if_neg h, if_pos hb]
theorem scan_dig {y : UInt8} {r : List UInt8} {f : Bool} {n sc ct st : Nat} (h : y.toNat ≠ 46) (hb : ¬ (y.toNat < 48 ∨ 57 < y.toNat ∨ ct = 15)) : scan (y :: r) f n sc ct st = scan r false (10 * n + (y.toNat - 48)) (sc + st) (ct + 1) st := by
  rw [scan, if_neg h, if_neg hb]
theorem quo_some {n t : Nat} (hn : n < 2 ^ 53) (h0 : 0 < t) (ht : t < 2 ^ 53) : ∃ q, Ieee.double.div (conv n) (conv t) = some q := by
  rcases Nat.eq_zero_or_pos n with rfl | h
  · exact ⟨_, quo_zero h0 ht⟩
  · exact ⟨_, quo_eq h hn h0 ht⟩
theorem pow15 {k : Nat} (h : k ≤ 15) : 10 ^ k ≤ 1000000000000000 := Nat.pow_le_pow_right (n := 10) (by decide) h
theorem pow_pos10 (k : Nat) : 0 < 10 ^ k := Nat.pow_pos (by decide)
end Num9

theorem add_zero (ad : Addr) : ad.add 0 = ad := by simp [Addr.add]

set_option maxHeartbeats 8000000 in
set_option maxRecDepth 100000 in
/-- The walk of a text that is no word: 'at' is 0 or 1. -/
theorem get9_rest (A : Option Addr) (n c : Nat) (l : List UInt8) (B : Nat) (w : World) (hr : Reads w B 1 A n (Lib.byteCells l)) (hn : n ≤ 1099511627776) (h1 : l ≠ [105, 110, 102]) (h2 : l ≠ [45, 105, 110, 102]) (h3 : l ≠ [110, 97, 110]) (a0 : Nat) (s0 : Bool) (ha0 : a0 ≤ n) (ha1 : a0 ≤ 1) (hR : numR l = digitsR s0 (l.drop a0)) (hs0 : s0 = decide (a0 = 1))
    (hat : a0 = 1 → ∃ ad, A = some ad ∧ 0 < n ∧ w.cell? ad = some (.int .u8 45)) (hno : a0 = 0 → n = 0 ∨ ∃ ad, ∃ y : UInt8, A = some ad ∧ 0 < n ∧ w.cell? ad = some (.int .u8 y.toNat) ∧ ((y.toNat : Int) == 45) = false) :
    Calls Tryd.prog 26 #[.slice A n c] w fun e w' => GetEnd9 l w e w' := by
  have hb := run_back (c := c) hr
  have hs := bytes_list l
  generalize (⟨l.toArray⟩ : ByteArray) = S at hb hs
  have hs1 : (S.toList == [105, 110, 102]) = false := by rw [hs, beq_eq_false_iff_ne]; exact h1
  have hs2 : (S.toList == [45, 105, 110, 102]) = false := by rw [hs, beq_eq_false_iff_ne]; exact h2
  have hs3 : (S.toList == [110, 97, 110]) = false := by rw [hs, beq_eq_false_iff_ne]; exact h3
  clear hs h1 h2 h3
  have hl : Hid (l.length = n) := by have := hr.1; show _ = _; simpa [Lib.byteCells_length] using this
  have HR := Lib.hid hR
  have HS := Lib.hid hs0
  obtain ⟨X, hX⟩ : ∃ X, X = scan (l.drop a0) true 0 0 0 0 := ⟨_, rfl⟩
  have HX := Lib.hid hX
  clear hX hR hs0
  have hfin : ∀ r, X = r → Hid (numR l = match r with | none => .none | some (n, sc, ct) => if ct = 0 then .none else .val s0 n sc) := by
    intro r e
    show _ = _
    rw [HR.out, ← e, HX.out]
    rfl
  have HF := Lib.hid hfin
  clear hfin
  go_enter Tryd.func26, Tryd.ntmps26
  go_upto_region 9 with fail
  go_cut [38] (fun p38 wx => p38 = .bool (decide (a0 = 1)) ∧ wx = w)
  case first =>
    rcases Nat.eq_zero_or_pos a0 with h0 | h0
    · rcases hno h0 with rfl | ⟨ad, y, rfl, hn0, hc, hy⟩
      · go_wp2_with fail
        all_goals (go_meet; exact ⟨by rw [h0]; rfl, rfl⟩)
      · go_wp2_with fail
        all_goals (go_meet; exact ⟨by rw [h0]; rfl, rfl⟩)
    · obtain ⟨ad, rfl, hn0, hc⟩ := hat (by omega)
      go_wp2_with fail
      all_goals (go_meet; exact ⟨by rw [show a0 = 1 by omega]; rfl, rfl⟩)
  case rest =>
  obtain ⟨rfl, rfl⟩ := hcut
  clear hat hno
  go_upto_if 38 with fail
  go_cut [5] (fun p5 wx => p5 = .int .i64 a0 ∧ wx = wc)
  case first =>
    by_cases h0 : a0 = 1
    · have hd : decide (a0 = 1) = true := decide_eq_true h0
      go_wp2_with fail
      all_goals (go_meet; exact ⟨by rw [h0]; rfl, rfl⟩)
    · have hd : decide (a0 = 1) = false := decide_eq_false h0
      go_wp2_with fail
      all_goals (go_meet; exact ⟨by rw [show a0 = 0 by omega]; rfl, rfl⟩)
  case rest =>
    obtain ⟨rfl, rfl⟩ := hcut
    go_wp2_with fail
    go_loop [6, 7, 8, 9, 10] (fun a b d e f => ∃ (m sc ct st i : Nat), a0 ≤ i ∧ i ≤ n ∧ m < 10 ^ ct ∧ sc ≤ ct ∧ ct ≤ 15 ∧ st ≤ 1 ∧ a = .int .i64 m ∧ b = .int .i64 sc ∧ d = .int .i64 ct ∧ e = .int .i64 st ∧ f = .int .i64 i ∧ X = scan (l.drop i) (decide (i = a0)) m sc ct st) (fun _ _ _ _ f => n - (intOf f).toNat)
    case atStart => exact ⟨0, 0, 0, 0, a0, Nat.le_refl _, ha0, by decide, Nat.le_refl _, by omega, by omega, rfl, rfl, rfl, rfl, rfl, by rw [HX.out, decide_eq_true rfl]⟩
    case round =>
      obtain ⟨m, sc, ct, st, i, hi0, hin, hm, hsc, hct, hst, rfl, rfl, rfl, rfl, rfl, hXi⟩ := hrel
      have HM := Lib.hid hm
      have hm15 : m < 1000000000000000 := Nat.lt_of_lt_of_le hm (pow15 hct)
      have HXI := Lib.hid hXi
      clear hm hXi
      by_cases hi : i < n
      · obtain ⟨ad, y, rfl, hc, hd, _⟩ := reads_byteN hr hi
        have HD := Lib.hid hd
        have hlr : Hid (l.drop (i + 1) = [] ↔ i = n - 1) := by
          show _ ↔ _
          rw [List.drop_eq_nil_iff, hl.out]
          omega
        clear hd
        have hbad : Hid (X = none) → GetEnd9 l wc (.returned (.tuple #[.float .f64 0, .bool false])) wc := by
          intro e
          refine ⟨_, _, rfl, ?_, Below.refl _ _⟩
          rw [(HF.out none e.out).out]
          exact ⟨rfl, rfl⟩
        have HBAD := Lib.hid hbad
        clear hbad
        have hy256 := y.toNat_lt
        by_cases hy : y.toNat = 46
        · have HY := Lib.hid hy
          have hyB : ((y.toNat : Int) == 46) = true := by rw [beq_iff_eq]; omega
          clear hy
          by_cases h1 : 0 < st
          · go_wp2_with fail
            go_ret2
            exact HBAD.out (show _ = _ by rw [HXI.out, HD.out, scan_stop_bad HY.out (.inl h1)])
          · have h1' : st = 0 := by omega
            subst h1'
            by_cases h2 : i = a0
            · have h2B : ((i : Int) == (a0 : Int)) = true := by rw [beq_iff_eq, h2]
              have H2 := Lib.hid h2
              clear h2
              go_wp2_with fail
              go_ret2
              exact HBAD.out (show _ = _ by rw [HXI.out, HD.out, scan_stop_bad HY.out (.inr (.inl (decide_eq_true H2.out)))])
            · have h2B : ((i : Int) == (a0 : Int)) = false := by rw [beq_eq_false_iff_ne]; omega
              have H2 := Lib.hid h2
              clear h2
              by_cases h3 : i = n - 1
              · have h3B : ((i : Int) == (n : Int) - 1) = true := by rw [beq_iff_eq]; omega
                have H3 := Lib.hid h3
                clear h3
                go_wp2_with fail
                go_ret2
                exact HBAD.out (show _ = _ by rw [HXI.out, HD.out, scan_stop_bad HY.out (.inr (.inr (hlr.out.2 H3.out)))])
              · have h3B : ((i : Int) == (n : Int) - 1) = false := by rw [beq_eq_false_iff_ne]; omega
                have H3 := Lib.hid h3
                clear h3
                go_wp2_with fail
                refine ⟨⟨m, sc, ct, 1, i + 1, by omega, by omega, HM.out, hsc, hct, by omega, rfl, rfl, rfl, rfl, by simp, ?_⟩, by simp [intOf]; omega⟩
                rw [HXI.out, HD.out, scan_stop HY.out (by
                  rintro (h | h | h)
                  · omega
                  · exact H2.out (of_decide_eq_true h)
                  · exact H3.out (hlr.out.1 h)), decide_eq_false (show ¬ i + 1 = a0 by omega)]
        · have HY := Lib.hid hy
          have hyB : ((y.toNat : Int) == 46) = false := by rw [beq_eq_false_iff_ne]; omega
          clear hy
          by_cases h1 : y.toNat < 48
          · go_wp2_with fail
            go_ret2
            exact HBAD.out (show _ = _ by rw [HXI.out, HD.out, scan_bad HY.out (.inl h1)])
          · by_cases h2 : 57 < y.toNat
            · go_wp2_with fail
              go_ret2
              exact HBAD.out (show _ = _ by rw [HXI.out, HD.out, scan_bad HY.out (.inr (.inl h2))])
            · by_cases h3 : ct = 15
              · subst h3
                go_wp2_with fail
                go_ret2
                exact HBAD.out (show _ = _ by rw [HXI.out, HD.out, scan_bad HY.out (.inr (.inr rfl))])
              · have h3B : ((ct : Int) == 15) = false := by rw [beq_eq_false_iff_ne]; omega
                have H3 := Lib.hid h3
                have hct' : ct + 1 ≤ 15 := by omega
                clear h3
                go_wp2_with fail
                refine ⟨⟨10 * m + (y.toNat - 48), sc + st, ct + 1, st, i + 1, by omega, by omega, ?_, by omega, by omega, hst, ?_, by simp, by simp, rfl, by simp, ?_⟩, by simp [intOf]; omega⟩
                · have := HM.out
                  rw [Nat.pow_succ]; omega
                · congr 1; omega
                · rw [HXI.out, HD.out, scan_dig HY.out (by
                    rintro (h | h | h)
                    · omega
                    · omega
                    · exact H3.out h), decide_eq_false (show ¬ i + 1 = a0 by omega)]
      · obtain rfl : i = n := by omega
        have hX : X = some (m, sc, ct) := by
          rw [HXI.out, List.drop_of_length_le (by rw [hl.out]; exact Nat.le_refl _), scan]
        have HV := HF.out _ hX
        clear hX
        by_cases h0 : ct = 0
        · subst h0
          go_wp2_with fail
          go_ret2
          refine ⟨_, _, rfl, ?_, Below.refl _ _⟩
          rw [HV.out]
          exact ⟨rfl, rfl⟩
        · have h0B : ((ct : Int) == 0) = false := by rw [beq_eq_false_iff_ne]; omega
          have H0 := Lib.hid h0
          have hsc15 : sc ≤ 15 := by omega
          clear h0
          go_wp2_with fail
          go_loop [12, 13] (fun a b => ∃ (j T : Nat), j ≤ sc ∧ Hid (T = 10 ^ j) ∧ T ≤ 1000000000000000 ∧ a = .int .i64 T ∧ b = .int .i64 j) (fun _ b => sc - (intOf b).toNat)
          case atStart => exact ⟨0, 1, by omega, rfl, by omega, rfl, rfl⟩
          case round =>
            obtain ⟨j, T, hj, hT, hT15, rfl, rfl⟩ := hrel
            by_cases hjs : j < sc
            · have hT14 : T ≤ 100000000000000 := by
                rw [hT.out]
                exact Nat.pow_le_pow_right (n := 10) (by decide) (show j ≤ 14 by omega)
              go_wp2_with fail
              refine ⟨⟨j + 1, 10 * T, by omega, ?_, by omega, by simp, by simp⟩, by simp [intOf]; omega⟩
              show _ = _
              rw [hT.out, Nat.pow_succ]; omega
            · obtain rfl : j = sc := by omega
              obtain ⟨q, hq⟩ := quo_some (n := m) (t := T) (by omega) (by rw [hT.out]; exact pow_pos10 _) (by omega)
              have hop : ∀ t w, (binOp .quo t (.float .f64 (floatOfInt .f64 (m : Int))) (.float .f64 (floatOfInt .f64 (T : Int)))).run Tryd.prog w = .ok (.float .f64 q) w := fun t w => run_float_arith w .quo t .f64 _ _ _ (by rw [conv_fits, conv_fits]; exact hq)
              have HQ : Hid (Ieee.double.div (conv m) (conv (10 ^ j)) = some q) := by
                show _ = _
                rw [← hT.out]; exact hq
              clear hq
              by_cases ha : a0 = 1
              · have haB : ((a0 : Int) == 1) = true := by rw [beq_iff_eq]; omega
                have HA := Lib.hid ha
                clear ha
                have hng : ∀ b, Op.unary .neg (.float .f64 b) = pure (.float .f64 (Op.negFloat .f64 b)) := fun _ => rfl
                go_wp2_with first | (simp only [hop]) | (simp only [hng])
                go_ret2
                refine ⟨_, _, rfl, ?_, Below.refl _ _⟩
                rw [HV.out]
                (try dsimp only)
                rw [if_neg H0.out]
                refine ⟨⟨q, HQ.out, ?_⟩, rfl⟩
                rw [HS.out, decide_eq_true HA.out]; rfl
              · have haB : ((a0 : Int) == 1) = false := by rw [beq_eq_false_iff_ne]; omega
                have HA := Lib.hid ha
                clear ha
                go_wp2_with (simp only [hop])
                go_ret2
                refine ⟨_, _, rfl, ?_, Below.refl _ _⟩
                rw [HV.out]
                (try dsimp only)
                rw [if_neg H0.out]
                refine ⟨⟨q, HQ.out, ?_⟩, rfl⟩
                rw [HS.out, decide_eq_false HA.out]; rfl

theorem refGet9_any (A : Option Addr) (n c : Nat) (l : List UInt8) (B : Nat) (w : World) (hr : Reads w B 1 A n (Lib.byteCells l)) (hn : n ≤ 1099511627776) :
    Calls Tryd.prog 26 #[.slice A n c] w fun e w' => GetEnd9 l w e w' := by
  by_cases h1 : l = [105, 110, 102]
  · exact get9_words A n c l B w hr (.inl h1)
  by_cases h2 : l = [45, 105, 110, 102]
  · exact get9_words A n c l B w hr (.inr (.inl h2))
  by_cases h3 : l = [110, 97, 110]
  · exact get9_words A n c l B w hr (.inr (.inr h3))
  have hl : l.length = n := by have := hr.1; simpa [Lib.byteCells_length] using this
  rcases Nat.eq_zero_or_pos n with h0 | h0
  · refine get9_rest A n c l B w hr hn h1 h2 h3 0 false (by omega) (by omega) ?_ rfl (fun h => by omega) (fun _ => .inl h0)
    have : l = [] := List.eq_nil_of_length_eq_zero (by rw [hl, h0])
    rw [this]; rfl
  · obtain ⟨ad, y, e1, e2, e3, _⟩ := reads_byteN hr h0
    rw [add_zero] at e2
    rw [List.drop_zero] at e3
    by_cases hy : y.toNat = 45
    · refine get9_rest A n c l B w hr hn h1 h2 h3 1 true (by omega) (by omega) ?_ rfl (fun h => ⟨ad, e1, h0, by rw [e2, hy]; rfl⟩) (fun h => by omega)
      rw [numR_first e3 h1 h2 h3, if_pos hy]
    · refine get9_rest A n c l B w hr hn h1 h2 h3 0 false (by omega) (by omega) ?_ rfl (fun h => by omega) (fun _ => .inr ⟨ad, y, e1, h0, e2, by rw [beq_eq_false_iff_ne]; omega⟩)
      rw [numR_first e3 h1 h2 h3, if_neg hy, List.drop_zero]
end Go.Proofs.YtjdmhbfddklhnaaDoor
