/-
  The contracts of the document's answers of layer 10, two, Clock, Days (package greffierref10). Conditions: at most 2^40 bytes.
-/
import Derived.Test.YtjdmhbfddklhnaaDoorDatM
import Derived.Test.YtjdmhbfddklhnaaDoorStr
import Derived.Lib.Hide
set_option linter.unusedSimpArgs false
set_option linter.unusedVariables false
namespace Go.Proofs.YtjdmhbfddklhnaaDoor
open Go Go.Proofs Go.RowKit Dat

theorem dbyte {w : World} {B n j : Nat} {A : Option Addr} {l : List UInt8} (hr : Reads w B 1 A n (Lib.byteCells l)) (hj : j < n) : ∃ (ad : Addr) (y : UInt8), A = some ad ∧ w.cell? (ad.add j) = some (.int .u8 y.toNat) ∧ l.drop j = y :: l.drop (j + 1) ∧ l[j]? = some y := by
  obtain ⟨ad, u, rfl, _, hu, hc⟩ := hr.at_ hj
  have hl : l.length = n := by have := hr.1; simpa [Lib.byteCells_length] using this
  have hjl : j < l.length := by omega
  refine ⟨ad, l[j], rfl, ?_, List.drop_eq_getElem_cons hjl, List.getElem?_eq_getElem hjl⟩
  have hu' : u = .int .u8 (l[j]).toNat := by
    simp [Lib.byteCells, List.getElem?_map, List.getElem?_eq_getElem hjl] at hu
    exact hu.symm
  rw [hc, hu']

/-- A number, or none: as two results. -/
def opt2 (r : Option Nat) : Value := .tuple #[.int .i64 ((r.getD 0 : Nat) : Int), .bool r.isSome]
theorem opt2_some {v : Nat} {x : Int} (h : x = (v : Int)) : Ending.returned (.tuple #[.int .i64 x, .bool true]) = .returned (opt2 (some v)) := by rw [h]; rfl
def OptEnd (r : Option Nat) (w : World) (e : Ending) (w' : World) : Prop := e = .returned (opt2 r) ∧ Below w.heap.size w w'

set_option maxHeartbeats 4000000 in
set_option maxRecDepth 100000 in
theorem two10_any (A : Option Addr) (n c : Nat) (l : List UInt8) (B : Nat) (i : Nat) (w : World) (hr : Reads w B 1 A n (Lib.byteCells l)) (hn : n ≤ 1099511627776) (hi : i ≤ 1000) :
    Calls Tryd.prog 46 #[.slice A n c, .int .i64 i] w fun e w' => OptEnd (two l i) w e w' := by
  have hl : l.length = n := by have := hr.1; simpa [Lib.byteCells_length] using this
  obtain ⟨R, hR⟩ : ∃ R, R = two l i := ⟨_, rfl⟩
  have HR := Lib.hid hR
  rw [← hR]
  clear hR
  by_cases h2 : i + 2 ≤ n
  · obtain ⟨ad, a, rfl, ha, _, ea⟩ := dbyte hr (show i < n by omega)
    obtain ⟨ad', b, e, hb, _, eb⟩ := dbyte hr (show i + 1 < n by omega)
    injection e with e
    subst e
    have hT : Hid (two l i = if dg a = true ∧ dg b = true then some (pr a b) else none) := by
      show _ = _
      unfold two; rw [ea, eb]
    have a256 := a.toNat_lt; have b256 := b.toNat_lt
    obtain ⟨i1, hi1⟩ : ∃ i1, i1 = i + 1 := ⟨_, rfl⟩
    rw [← hi1] at hb
    have hi1I : (i : Int) + 1 = (i1 : Int) := by omega
    clear hi1 hl ea eb hr
    have hbad : (dg a = true ∧ dg b = true → False) → Hid (R = none) := fun h => by
      show _ = _
      rw [HR.out, hT.out, if_neg h]
    have HB := Lib.hid hbad
    clear hbad
    by_cases a1 : a.toNat < 48
    · have hf := HB.out (fun h => by have := (dv_lt h.1).2; omega)
      go_enter Tryd.func46, Tryd.ntmps46
      go_wp2
      go_ret2
      exact ⟨by rw [hf.out]; rfl, Below.refl _ _⟩
    by_cases a2 : 57 < a.toNat
    · have hf := HB.out (fun h => by have := (dv_lt h.1); omega)
      go_enter Tryd.func46, Tryd.ntmps46
      go_wp2
      go_ret2
      exact ⟨by rw [hf.out]; rfl, Below.refl _ _⟩
    by_cases b1 : b.toNat < 48
    · have hf := HB.out (fun h => by have := (dv_lt h.2).2; omega)
      go_enter Tryd.func46, Tryd.ntmps46
      go_wp2
      go_ret2
      exact ⟨by rw [hf.out]; rfl, Below.refl _ _⟩
    by_cases b2 : 57 < b.toNat
    · have hf := HB.out (fun h => by have := (dv_lt h.2); omega)
      go_enter Tryd.func46, Tryd.ntmps46
      go_wp2
      go_ret2
      exact ⟨by rw [hf.out]; rfl, Below.refl _ _⟩
    have hf : Hid (R = some (pr a b)) := by
      show _ = _
      rw [HR.out, hT.out, if_pos ⟨by simp [dg]; omega, by simp [dg]; omega⟩]
    go_enter Tryd.func46, Tryd.ntmps46
    go_wp2
    go_region
    go_wp2
    go_ret2
    refine ⟨?_, (Below.refl _ _).drew⟩
    rw [hf.out]
    exact opt2_some (by unfold pr dv; omega)
  · have hf : Hid (R = none) := by
      show _ = _
      rw [HR.out]
      unfold two
      rw [List.getElem?_eq_none (show l.length ≤ i + 1 by omega)]
      cases l[i]? <;> rfl
    go_enter Tryd.func46, Tryd.ntmps46
    go_wp2
    go_ret2
    exact ⟨by rw [hf.out]; rfl, Below.refl _ _⟩

theorem leap_cases (y : Nat) : leap y = (decide (y % 400 = 0) || (decide (y % 4 = 0) && !decide (y % 100 = 0))) := rfl

set_option maxHeartbeats 4000000 in
set_option maxRecDepth 100000 in
theorem days10_any (y m : Nat) (w : World) (hy : y ≤ 100000) (h1 : 1 ≤ m) (h2 : m ≤ 12) :
    Calls Tryd.prog 47 #[.int .i64 y, .int .i64 m] w fun e w' => e = .returned (.int .i64 (days y m : Nat)) ∧ Below w.heap.size w w' := by
  have hb : Below w.heap.size w (w.alloc (.cells #[.int .i64 31, .int .i64 28, .int .i64 31, .int .i64 30, .int .i64 31, .int .i64 30, .int .i64 31, .int .i64 31, .int .i64 30, .int .i64 31, .int .i64 30, .int .i64 31] 3)) := (Below.refl _ _).alloc (Nat.le_refl _) _
  obtain ⟨j, hj⟩ : ∃ j, j = m - 1 := ⟨_, rfl⟩
  have hjI : (m : Int) - 1 = (j : Int) := by omega
  have hj12 : j < 12 := by omega
  obtain ⟨v, hv⟩ : ∃ v, v = plain m := ⟨_, rfl⟩
  have hg : ∀ hh, ([.int .i64 31, .int .i64 28, .int .i64 31, .int .i64 30, .int .i64 31, .int .i64 30, .int .i64 31, .int .i64 31, .int .i64 30, .int .i64 31, .int .i64 30, .int .i64 31] : List Value)[j]'hh = .int .i64 (v : Nat) := by
    intro hh
    rw [hv]
    unfold plain
    rw [← hj]
    clear hv hjI hj h1 h2 hb
    rcases j with _ | _ | _ | _ | _ | _ | _ | _ | _ | _ | _ | _ | j <;> first | rfl | omega
  have HG := Lib.hid hg
  clear hg
  have HV := Lib.hid hv
  have HJ := Lib.hid hj
  clear hv hj
  by_cases hm : m = 2
  · have hmB : ((m : Int) == 2) = true := by rw [beq_iff_eq]; omega
    have HM := Lib.hid hm
    clear hm
    have hd : Hid (days y m = if leap y = true then 29 else v) := by
      show _ = _
      unfold days
      rw [HM.out, HV.out]
      by_cases h : leap y = true
      · rw [if_pos ⟨rfl, h⟩, if_pos h]
      · rw [if_neg (fun h' => h h'.2), if_neg h, HM.out]
    by_cases h400 : y % 400 = 0
    · have hl : Hid (leap y = true) := by show _ = _; rw [leap_cases, decide_eq_true h400]; rfl
      have hB : ((y : Int) % 400 == 0) = true := by rw [beq_iff_eq]; omega
      have hB2 : ((y : Int).tmod 400 == 0) = true := by rw [Int.tmod_eq_emod_of_nonneg (by omega)]; exact hB
      clear h400
      go_enter Tryd.func47, Tryd.ntmps47
      go_wp2
      go_ret
      exact ⟨by rw [hd.out, if_pos hl.out]; rfl, hb⟩
    · have hB : ((y : Int) % 400 == 0) = false := by rw [beq_eq_false_iff_ne]; omega
      by_cases h4 : y % 4 = 0
      · have hB4 : ((y : Int) % 4 == 0) = true := by rw [beq_iff_eq]; omega
        by_cases h100 : y % 100 = 0
        · have hB100 : ((y : Int) % 100 != 0) = false := by rw [bne_eq_false_iff_eq]; omega
          have hl : Hid (leap y = false) := by show _ = _; rw [leap_cases, decide_eq_false h400, decide_eq_true h100]; simp
          clear h400 h4 h100
          go_enter Tryd.func47, Tryd.ntmps47
          go_wp2
          go_ret
          exact ⟨congrArg Ending.returned ((HG.out _).trans (by rw [hd.out, if_neg (by rw [hl.out]; simp)])), hb⟩
        · have hB100 : ((y : Int) % 100 != 0) = true := by rw [bne_iff_ne]; omega
          have hl : Hid (leap y = true) := by show _ = _; rw [leap_cases, decide_eq_true h4, decide_eq_false h100]; simp
          clear h400 h4 h100
          go_enter Tryd.func47, Tryd.ntmps47
          go_wp2
          go_ret
          exact ⟨by rw [hd.out, if_pos hl.out]; rfl, hb⟩
      · have hB4 : ((y : Int) % 4 == 0) = false := by rw [beq_eq_false_iff_ne]; omega
        have hl : Hid (leap y = false) := by show _ = _; rw [leap_cases, decide_eq_false h400, decide_eq_false h4]; simp
        clear h400 h4
        go_enter Tryd.func47, Tryd.ntmps47
        go_wp2
        go_ret
        exact ⟨congrArg Ending.returned ((HG.out _).trans (by rw [hd.out, if_neg (by rw [hl.out]; simp)])), hb⟩
  · have hmB : ((m : Int) == 2) = false := by rw [beq_eq_false_iff_ne]; omega
    have hd : Hid (days y m = v) := by
      show _ = _
      unfold days
      rw [if_neg (fun h => hm h.1), HV.out]
    clear hm
    go_enter Tryd.func47, Tryd.ntmps47
    go_wp2
    go_ret
    exact ⟨congrArg Ending.returned ((HG.out _).trans (by rw [hd.out])), hb⟩
end Go.Proofs.YtjdmhbfddklhnaaDoor
