/-
  The contracts of the document's answers of layer 11, three, bare, Compare, Is (package greffierref11). Conditions: at most 2^40 bytes.
-/
import Derived.Test.YtjdmhbfddklhnaaDoorOrdC
import Derived.Test.YtjdmhbfddklhnaaDoorNumCmp
import Derived.Test.YtjdmhbfddklhnaaDoorDatGet2
set_option linter.unusedSimpArgs false
set_option linter.unusedVariables false
set_option maxRecDepth 100000
namespace Go.Proofs.YtjdmhbfddklhnaaDoor
open Go Go.Proofs Go.RowKit _root_.Ord11 Go.Proofs.YtjdmhbfddklhnaaDoor.Ord11 Num9 Dat

theorem three_any (l m : Bool) (w : World) : Calls Tryd.prog 25 #[.bool l, .bool m] w fun e w' => e = .returned (.int .i64 (Go.Proofs.YtjdmhbfddklhnaaDoor.Ord11.three l m)) ∧ w' = w := by
  cases l <;> cases m
  all_goals go_enter Tryd.func25, Tryd.ntmps25
  all_goals go_wp2
  all_goals go_ret
  all_goals exact ⟨rfl, rfl⟩

theorem drop_bare : ∀ (l : List UInt8), ∃ k, k ≤ l.length ∧ l.drop k = Go.Proofs.YtjdmhbfddklhnaaDoor.Ord11.bare l
  | [] => ⟨0, Nat.le_refl _, rfl⟩
  | c :: r => by
    by_cases h : (c == 0) = true
    · obtain ⟨k, hk, e⟩ := drop_bare r
      refine ⟨k + 1, by simpa using hk, ?_⟩
      rw [List.drop_succ_cons, e]
      unfold Go.Proofs.YtjdmhbfddklhnaaDoor.Ord11.bare
      rw [List.dropWhile_cons, if_pos h]
    · refine ⟨0, Nat.zero_le _, ?_⟩
      rw [List.drop_zero]
      unfold Go.Proofs.YtjdmhbfddklhnaaDoor.Ord11.bare
      rw [List.dropWhile_cons, if_neg h]

set_option maxHeartbeats 4000000 in
theorem bare_any (A : Option Addr) (n c B : Nat) (l : List UInt8) (w : World) (hr : Reads w B 1 A n (Lib.byteCells l)) (hn : n ≤ 1099511627776) (hc : n ≤ c) :
    Calls Tryd.prog 29 #[.slice A n c] w fun e w' => e = .returned (.string ⟨(Go.Proofs.YtjdmhbfddklhnaaDoor.Ord11.bare l).toArray⟩) ∧ w' = w := by
  have hl : Hid (l.length = n) := by have := hr.1; show _ = _; simpa [Lib.byteCells_length] using this
  obtain ⟨X, hX⟩ : ∃ X, X = Go.Proofs.YtjdmhbfddklhnaaDoor.Ord11.bare l := ⟨_, rfl⟩
  rw [← hX]
  have HX := Lib.hid hX
  clear hX
  go_enter Tryd.func29, Tryd.ntmps29
  go_wp2_with fail
  go_loop [3] (fun a => ∃ i : Nat, i ≤ n ∧ a = .int .i64 i ∧ Hid (X = Go.Proofs.YtjdmhbfddklhnaaDoor.Ord11.bare (l.drop i))) (fun a => n - (intOf a).toNat)
  case atStart => exact ⟨0, Nat.zero_le _, rfl, by show _ = _; rw [HX.out, List.drop_zero]⟩
  case round =>
    obtain ⟨i, hin, rfl, hI⟩ := hrel
    have hend : ∀ (h : Hid (X = l.drop i)), (convert 22 9 (.slice (if c = i then A else A.map (·.add i)) (n - i) (c - i))).run Tryd.prog w = .ok (.string ⟨X.toArray⟩) w := by
      intro h
      have hcut := hr.cut (k := i) (cap := c) hin hc
      rw [Nat.mul_one] at hcut
      have e1 : (Lib.byteCells l).drop i = Lib.byteCells X := by rw [h.out]; simp [Lib.byteCells, List.map_drop]
      rw [e1] at hcut
      exact run_back hcut
    have HEND := Lib.hid hend
    clear hend
    by_cases hi : i < n
    · obtain ⟨ad, y, rfl, hcell, hd, _⟩ := dbyte hr hi
      by_cases hy : y.toNat = 0
      · have hyB : ((y.toNat : Int) == 0) = true := by rw [beq_iff_eq]; omega
        have HN : Hid (X = Go.Proofs.YtjdmhbfddklhnaaDoor.Ord11.bare (l.drop (i + 1))) := by
          show _ = _
          have hy0 : y = 0 := UInt8.toNat_inj.1 hy
          rw [hI.out, hd]
          conv => lhs; unfold Go.Proofs.YtjdmhbfddklhnaaDoor.Ord11.bare
          rw [List.dropWhile_cons, if_pos (by rw [hy0]; rfl)]
          rfl
        clear hd
        go_wp2_with fail
        exact ⟨⟨i + 1, by omega, by simp, HN⟩, by simp [intOf]; omega⟩
      · have hyB : ((y.toNat : Int) == 0) = false := by rw [beq_eq_false_iff_ne]; omega
        have HN : Hid (X = l.drop i) := by
          show _ = _
          rw [hI.out, hd]
          unfold Go.Proofs.YtjdmhbfddklhnaaDoor.Ord11.bare
          rw [List.dropWhile_cons, if_neg (by rw [beq_iff_eq]; intro e; rw [e] at hy; exact hy rfl)]
        have kb := HEND.out HN
        clear hd
        by_cases hci : c = i
        · omega
        · rw [if_neg hci, Option.map_some] at kb
          have HC := Lib.hid hci
          clear hci
          go_wp2_with fail
          go_ret
          exact ⟨rfl, rfl⟩
    · obtain rfl : i = n := by omega
      have HN : Hid (X = l.drop i) := by
        show _ = _
        rw [hI.out, List.drop_of_length_le (by rw [hl.out]; exact Nat.le_refl _)]; rfl
      have kb := HEND.out HN
      by_cases hci : c = i
      · subst hci
        rw [if_pos rfl, Nat.sub_self] at kb
        go_wp2_with fail
        go_ret
        exact ⟨rfl, rfl⟩
      · rw [if_neg hci, Nat.sub_self] at kb
        go_wp2_with fail
        go_ret
        exact ⟨rfl, rfl⟩

/-- How Compare ends. -/
def CmpEnd (o : Nat) (a b : List UInt8) (w : World) (e : Ending) (w' : World) : Prop :=
  e = .returned (.tuple #[.int .i64 (ordC o a b).1, .bool (ordC o a b).2]) ∧ Below w.heap.size w w'

namespace Num9
/-- A number's place by what Get answers. -/
theorem is_key {l : List UInt8} {x : Nat} {ok : Bool} (h : (numR l).Is x ok) : (ok = false → numK l = none) ∧ (ok = true → numK l = key x) := by
  unfold numK
  cases hR : numR l with
  | none =>
    rw [hR] at h
    obtain ⟨rfl, rfl⟩ := h
    exact ⟨fun _ => rfl, fun e => by cases e⟩
  | nan =>
    rw [hR] at h
    obtain ⟨a, rfl⟩ := h
    exact ⟨fun e => (by cases e), fun _ => a.symm⟩
  | inf s =>
    rw [hR] at h
    obtain ⟨rfl, rfl⟩ := h
    exact ⟨fun e => (by cases e), fun _ => rfl⟩
  | val s n sc =>
    rw [hR] at h
    obtain ⟨⟨q, hq, rfl⟩, rfl⟩ := h
    refine ⟨fun e => (by cases e), fun _ => ?_⟩
    simp only [hq]
theorem cmp_key (x y : Nat) (a b : List UInt8) (ha : numK a = key x) (hb : numK b = key y) : (cmpI (Ieee.double.order x y), (Ieee.double.order x y).isSome) = keyed numK a b := by
  unfold keyed
  rw [ha, hb, order_key]
  cases key x with
  | none => rfl
  | some u =>
    cases key y with
    | none => rfl
    | some v =>
      show (cmpI (some (compareOfLessAndEq u v)), true) = _
      unfold compareOfLessAndEq Go.Proofs.YtjdmhbfddklhnaaDoor.Ord11.three
      by_cases h1 : u < v
      · simp [h1, cmpI]
      · by_cases h2 : u = v
        · subst h2; simp [cmpI]
        · have h3 : v < u := by omega
          simp [h1, h2, h3, cmpI]
end Num9

theorem gtr_str (t : TypeId) (S S' : ByteArray) (w : World) : (binOp .gtr t (.string S) (.string S')).run Tryd.prog w = .ok (.bool (Op.bytesLess S'.toList S.toList)) w := by
  have h : (!(Op.bytesLess S.toList S'.toList || S.toList == S'.toList)) = Op.bytesLess S'.toList S.toList := by
    generalize S.toList = a
    generalize S'.toList = b
    rcases less_total a b with h | h | h
    · rw [h, less_asymm h]; rfl
    · subst h; rw [less_irrefl]; simp
    · rw [h, less_asymm h]
      have : (a == b) = false := by
        rw [beq_eq_false_iff_ne]
        rintro rfl
        rw [less_irrefl] at h; cases h
      rw [this]; rfl
  rw [← h]
  simp [binOp, Op.stringOp]

set_option maxHeartbeats 8000000 in
theorem refCompare11 (o : Nat) (ho : o < 256) (A A' : Option Addr) (n c n' c' : Nat) (a b : List UInt8) (w : World) (hr : Reads w w.heap.size 1 A n (Lib.byteCells a)) (hr' : Reads w w.heap.size 1 A' n' (Lib.byteCells b)) (hn : n ≤ 1099511627776) (hn' : n' ≤ 1099511627776) (hc : n ≤ c) (hc' : n' ≤ c') :
    Calls Tryd.prog 10 #[.int .u8 o, .slice A n c, .slice A' n' c'] w fun e w' => CmpEnd o a b w e w' := by
  by_cases h1 : o = 1
  · subst h1
    have k1 := run_back (c := c) hr
    have k2 := run_back (c := c') hr'
    have s1 : (⟨a.toArray⟩ : ByteArray).toList = a := by rw [ByteArray.toList_eq]
    have s2 : (⟨b.toArray⟩ : ByteArray).toList = b := by rw [ByteArray.toList_eq]
    generalize (⟨a.toArray⟩ : ByteArray) = S at k1 s1
    generalize (⟨b.toArray⟩ : ByteArray) = S' at k2 s2
    obtain ⟨x, hx⟩ : ∃ x, Op.bytesLess S.toList S'.toList = x := ⟨_, rfl⟩
    obtain ⟨y, hy⟩ : ∃ y, Op.bytesLess S'.toList S.toList = y := ⟨_, rfl⟩
    have hX : Hid (ordC 1 a b = (Go.Proofs.YtjdmhbfddklhnaaDoor.Ord11.three x y, true)) := by
      show _ = _
      rw [← hx, ← hy, s1, s2]; rfl
    clear s1 s2
    go_enter Tryd.func10, Tryd.ntmps10
    have kg := fun t w => gtr_str t S S' w
    rw [hy] at kg
    go_wp2_with first | (go_at_call 25; refine (three_any x y _).mono ?_; rintro e w1 ⟨rfl, rfl⟩) | (simp only [kg])
    go_ret2
    exact ⟨by rw [hX.out]; rfl, Below.refl _ _⟩
  by_cases h2 : o = 2
  · subst h2
    have HR := Lib.hid hr
    have HR' := Lib.hid hr'
    clear hr hr' h1
    go_enter Tryd.func10, Tryd.ntmps10
    go_wp2_with fail
    refine (refGet9_any A n c a _ w HR.out hn).mono ?_
    rintro e w1 ⟨x, ok, rfl, hx, hb1⟩
    have HX := Lib.hid (is_key hx)
    have HB1 := Lib.hid hb1
    clear hx hb1
    go_wp2_with fail
    refine (refGet9_any A' n' c' b _ w1 (HR'.out.below HB1.out) hn').mono ?_
    rintro e w2 ⟨y, is, rfl, hy, hb2⟩
    have HY := Lib.hid (is_key hy)
    have HB2 := Lib.hid (HB1.out.trans (hb2.mono HB1.out.size))
    clear hy hb2
    have hnone : numK a = none ∨ numK b = none → CmpEnd 2 a b w (.returned (.tuple #[.int .i64 0, .bool false])) w2 := by
      intro h
      refine ⟨?_, HB2.out⟩
      show _ = Ending.returned (.tuple #[.int .i64 (keyed numK a b).1, .bool (keyed numK a b).2])
      rw [keyed_none h]
    have HN := Lib.hid hnone
    clear hnone
    cases ok with
    | false =>
      go_wp2_with fail
      go_ret2
      exact HN.out (.inl (HX.out.1 (by simp)))
    | true =>
      cases is with
      | false =>
        go_wp2_with fail
        go_ret2
        exact HN.out (.inr (HY.out.1 (by simp)))
      | true =>
        go_wp2_with fail
        refine (refCompare_any x y w2).mono ?_
        rintro e w3 ⟨rfl, hb3⟩
        have HB3 := Lib.hid (HB2.out.trans (hb3.mono HB2.out.size))
        clear hb3
        have hK : Hid ((cmpI (Ieee.double.order x y), (Ieee.double.order x y).isSome) = ordC 2 a b) := cmp_key x y a b (HX.out.2 (by simp)) (HY.out.2 (by simp))
        generalize cmpI (Ieee.double.order x y) = p at hK
        generalize (Ieee.double.order x y).isSome = q at hK
        go_wp2_with fail
        go_ret2
        exact ⟨by rw [← hK.out]; rfl, HB3.out⟩
  by_cases h4 : o = 4
  · subst h4
    have HR := Lib.hid hr
    have HR' := Lib.hid hr'
    obtain ⟨X, hX⟩ : ∃ X, X = Go.Proofs.YtjdmhbfddklhnaaDoor.Ord11.bare a := ⟨_, rfl⟩
    obtain ⟨Y, hY⟩ : ∃ Y, Y = Go.Proofs.YtjdmhbfddklhnaaDoor.Ord11.bare b := ⟨_, rfl⟩
    have kx := bare_any A n c _ a w hr hn hc
    have ky := bare_any A' n' c' _ b w hr' hn' hc'
    have hbt := bin_told a b
    rw [← hX] at kx hbt
    rw [← hY] at ky hbt
    have KX := Lib.hid kx
    have KY := Lib.hid ky
    have hok : (ordC 4 a b).2 = true := by
      show (keyed binK a b).2 = true
      rw [keyed_ok]; rfl
    have HOK := Lib.hid hok
    have HBT : Hid ((ordC 4 a b).1 = _) := hbt
    have hl : a.length = n := by have := hr.1; simpa [Lib.byteCells_length] using this
    have hl' : b.length = n' := by have := hr'.1; simpa [Lib.byteCells_length] using this
    have hXl : X.length ≤ n := by
      obtain ⟨k, _, e⟩ := drop_bare a
      rw [hX, ← e, List.length_drop]; omega
    have hYl : Y.length ≤ n' := by
      obtain ⟨k, _, e⟩ := drop_bare b
      rw [hY, ← e, List.length_drop]; omega
    clear kx ky hbt hok hr hr' hX hY h1 h2 hl hl'
    have s1 : (⟨X.toArray⟩ : ByteArray).toList = X := by rw [ByteArray.toList_eq]
    have s2 : (⟨Y.toArray⟩ : ByteArray).toList = Y := by rw [ByteArray.toList_eq]
    have z1 : (⟨X.toArray⟩ : ByteArray).size = X.length := by simp [ByteArray.size]
    have z2 : (⟨Y.toArray⟩ : ByteArray).size = Y.length := by simp [ByteArray.size]
    generalize (⟨X.toArray⟩ : ByteArray) = S at KX s1 z1
    generalize (⟨Y.toArray⟩ : ByteArray) = S' at KY s2 z2
    obtain ⟨x, hx⟩ : ∃ x, Op.bytesLess S.toList S'.toList = x := ⟨_, rfl⟩
    obtain ⟨y, hy⟩ : ∃ y, Op.bytesLess S'.toList S.toList = y := ⟨_, rfl⟩
    rw [← s1, ← s2, hx, hy, s1, s2, ← z1, ← z2] at HBT
    have hS : S.size ≤ 1099511627776 := by omega
    have hS' : S'.size ≤ 1099511627776 := by omega
    clear s1 s2 z1 z2 hXl hYl
    go_enter Tryd.func10, Tryd.ntmps10
    go_wp2_with fail
    refine KX.out.mono ?_
    rintro e w1 ⟨rfl, rfl⟩
    go_wp2_with fail
    refine KY.out.mono ?_
    rintro e w1 ⟨rfl, rfl⟩
    by_cases hq : S.size = S'.size
    · have hqB : ((S.size : Int) != (S'.size : Int)) = false := by rw [hq]; simp
      rw [if_neg (by omega)] at HBT
      have HQ := Lib.hid hq
      clear hq
      have kg := fun t w => gtr_str t S S' w
      rw [hy] at kg
      go_wp2_with first | (go_at_call 25; refine (three_any x y _).mono ?_; rintro e w2 ⟨rfl, rfl⟩) | (simp only [kg])
      go_ret2
      exact ⟨by rw [HBT.out, HOK.out]; rfl, Below.refl _ _⟩
    · have hqB : ((S.size : Int) != (S'.size : Int)) = true := by rw [bne_iff_ne]; omega
      rw [if_pos hq] at HBT
      have HQ := Lib.hid hq
      clear hq
      obtain ⟨z, hz⟩ : ∃ z, decide (S.size < S'.size) = z := ⟨_, rfl⟩
      rw [hz] at HBT
      go_wp2_with (go_at_call 25; refine (three_any z true _).mono ?_; rintro e w2 ⟨rfl, rfl⟩)
      go_ret2
      exact ⟨by rw [HBT.out, HOK.out]; rfl, Below.refl _ _⟩
  by_cases h3 : o = 3
  · subst h3
    have HR := Lib.hid hr
    have HR' := Lib.hid hr'
    obtain ⟨x, ok, e1, ha, _⟩ := opt_parts (clockR a)
    obtain ⟨y, is, e2, hb, _⟩ := opt_parts (clockR b)
    have E1 := Lib.hid e1
    have E2 := Lib.hid e2
    have HA := Lib.hid ha
    have HB := Lib.hid hb
    have hx : x < 315569520000 ∨ ok = false := by
      cases ok with
      | false => exact .inr rfl
      | true => exact .inl (by have := clock_lt (show clockR a = some x from by rw [ha]; rfl); omega)
    have hy : y < 315569520000 ∨ is = false := by
      cases is with
      | false => exact .inr rfl
      | true => exact .inl (by have := clock_lt (show clockR b = some y from by rw [hb]; rfl); omega)
    have hnone : clockK a = none ∨ clockK b = none → ∀ w2, Below w.heap.size w w2 → CmpEnd 3 a b w (.returned (.tuple #[.int .i64 0, .bool false])) w2 := by
      intro h w2 h2
      refine ⟨?_, h2⟩
      show _ = Ending.returned (.tuple #[.int .i64 (keyed clockK a b).1, .bool (keyed clockK a b).2])
      rw [keyed_none h]
    have HN := Lib.hid hnone
    clear hr hr' e1 e2 ha hb hnone
    go_enter Tryd.func10, Tryd.ntmps10
    go_wp2_with fail
    refine (clock10_any A n c a w HR.out hn).mono ?_
    rintro e w1 ⟨q1, hb1⟩
    rw [E1.out] at q1
    subst q1
    have HB1 := Lib.hid hb1
    clear hb1
    go_wp2_with fail
    refine (clock10_any A' n' c' b w1 ((HR'.out.below HB1.out).more HB1.out.size) hn').mono ?_
    rintro e w2 ⟨q2, hb2⟩
    rw [E2.out] at q2
    subst q2
    have HB2 := Lib.hid (HB1.out.trans (hb2.mono HB1.out.size))
    clear hb2
    cases ok with
    | false =>
      go_wp2_with fail
      go_ret2
      exact HN.out (.inl (by unfold clockK; rw [HA.out]; rfl)) _ HB2.out
    | true =>
      cases is with
      | false =>
        go_wp2_with fail
        go_ret2
        exact HN.out (.inr (by unfold clockK; rw [HB.out]; rfl)) _ HB2.out
      | true =>
        obtain ⟨u, hu⟩ : ∃ u, decide (x < y) = u := ⟨_, rfl⟩
        obtain ⟨v, hv⟩ : ∃ v, decide (y < x) = v := ⟨_, rfl⟩
        have hK : Hid (ordC 3 a b = (Go.Proofs.YtjdmhbfddklhnaaDoor.Ord11.three u v, true)) := by
          show keyed clockK a b = _
          have q1 : clockK a = some (x : Int) := by unfold clockK; rw [HA.out]; rfl
          have q2 : clockK b = some (y : Int) := by unfold clockK; rw [HB.out]; rfl
          rw [keyed_one q1 q2]
          simp only [Int.ofNat_lt, hu, hv]
        go_wp2_with (go_at_call 25; refine (three_any u v _).mono ?_; rintro e w3 ⟨rfl, rfl⟩)
        go_ret2
        exact ⟨by rw [hK.out]; rfl, HB2.out⟩
  by_cases h5 : o = 5
  · subst h5
    have HR := Lib.hid hr
    have HR' := Lib.hid hr'
    obtain ⟨x, ok, e1, ha, _⟩ := opt_parts (dateR a)
    obtain ⟨y, is, e2, hb, _⟩ := opt_parts (dateR b)
    have E1 := Lib.hid e1
    have E2 := Lib.hid e2
    have HA := Lib.hid ha
    have HB := Lib.hid hb
    have hx : x < 315569520000 ∨ ok = false := by
      cases ok with
      | false => exact .inr rfl
      | true => exact .inl (by have := date_lt (show dateR a = some x from by rw [ha]; rfl); omega)
    have hy : y < 315569520000 ∨ is = false := by
      cases is with
      | false => exact .inr rfl
      | true => exact .inl (by have := date_lt (show dateR b = some y from by rw [hb]; rfl); omega)
    have hnone : dateK a = none ∨ dateK b = none → ∀ w2, Below w.heap.size w w2 → CmpEnd 5 a b w (.returned (.tuple #[.int .i64 0, .bool false])) w2 := by
      intro h w2 h2
      refine ⟨?_, h2⟩
      show _ = Ending.returned (.tuple #[.int .i64 (keyed dateK a b).1, .bool (keyed dateK a b).2])
      rw [keyed_none h]
    have HN := Lib.hid hnone
    clear hr hr' e1 e2 ha hb hnone
    go_enter Tryd.func10, Tryd.ntmps10
    go_wp2_with fail
    refine (refGet10_any A n c a w HR.out hn hc).mono ?_
    rintro e w1 ⟨q1, hb1⟩
    rw [E1.out] at q1
    subst q1
    have HB1 := Lib.hid hb1
    clear hb1
    go_wp2_with fail
    refine (refGet10_any A' n' c' b w1 ((HR'.out.below HB1.out).more HB1.out.size) hn' hc').mono ?_
    rintro e w2 ⟨q2, hb2⟩
    rw [E2.out] at q2
    subst q2
    have HB2 := Lib.hid (HB1.out.trans (hb2.mono HB1.out.size))
    clear hb2
    cases ok with
    | false =>
      go_wp2_with fail
      go_ret2
      exact HN.out (.inl (by unfold dateK; rw [HA.out]; rfl)) _ HB2.out
    | true =>
      cases is with
      | false =>
        go_wp2_with fail
        go_ret2
        exact HN.out (.inr (by unfold dateK; rw [HB.out]; rfl)) _ HB2.out
      | true =>
        obtain ⟨u, hu⟩ : ∃ u, decide (x < y) = u := ⟨_, rfl⟩
        obtain ⟨v, hv⟩ : ∃ v, decide (y < x) = v := ⟨_, rfl⟩
        have hK : Hid (ordC 5 a b = (Go.Proofs.YtjdmhbfddklhnaaDoor.Ord11.three u v, true)) := by
          show keyed dateK a b = _
          have q1 : dateK a = some (x : Int) := by unfold dateK; rw [HA.out]; rfl
          have q2 : dateK b = some (y : Int) := by unfold dateK; rw [HB.out]; rfl
          rw [keyed_one q1 q2]
          simp only [Int.ofNat_lt, hu, hv]
        go_wp2_with (go_at_call 25; refine (three_any u v _).mono ?_; rintro e w3 ⟨rfl, rfl⟩)
        go_ret2
        exact ⟨by rw [hK.out]; rfl, HB2.out⟩
  have n1 : ((o : Int) == 1) = false := by rw [beq_eq_false_iff_ne]; omega
  have n2 : ((o : Int) == 2) = false := by rw [beq_eq_false_iff_ne]; omega
  have n3 : ((o : Int) == 3) = false := by rw [beq_eq_false_iff_ne]; omega
  have n4 : ((o : Int) == 4) = false := by rw [beq_eq_false_iff_ne]; omega
  have n5 : ((o : Int) == 5) = false := by rw [beq_eq_false_iff_ne]; omega
  have hX : Hid (ordC o a b = (0, false)) := by
    show _ = _
    unfold ordC
    rw [if_neg h1, if_neg h2, if_neg h3, if_neg h4, if_neg h5]
  clear h1 h2 h3 h4 h5
  go_enter Tryd.func10, Tryd.ntmps10
  go_wp2_with fail
  go_ret2
  exact ⟨by rw [hX.out]; rfl, Below.refl _ _⟩

/-- isV's answer. -/
theorem refIs11 (o : Nat) (ho : o < 256) (A : Option Addr) (n c : Nat) (a : List UInt8) (w : World) (hr : Reads w w.heap.size 1 A n (Lib.byteCells a)) (hn : n ≤ 1099511627776) (hc : n ≤ c) :
    Calls Tryd.prog 12 #[.int .u8 o, .slice A n c] w fun e w' => e = .returned (.bool (isV ordC o a)) ∧ Below w.heap.size w w' := by
  have k := refCompare11 o ho A A n c n c a a w hr hr hn hn hc hc
  have K := Lib.hid k
  clear k
  obtain ⟨b, hb⟩ : ∃ b, isV ordC o a = b := ⟨_, rfl⟩
  have HB := Lib.hid hb
  rw [hb]
  clear hb
  go_enter Tryd.func12, Tryd.ntmps12
  go_wp2_with fail
  refine K.out.mono ?_
  rintro e w1 ⟨rfl, hb1⟩
  rw [show (ordC o a a).2 = b from HB.out]
  generalize (ordC o a a).1 = i
  go_wp2
  go_ret
  exact ⟨rfl, hb1⟩
end Go.Proofs.YtjdmhbfddklhnaaDoor
