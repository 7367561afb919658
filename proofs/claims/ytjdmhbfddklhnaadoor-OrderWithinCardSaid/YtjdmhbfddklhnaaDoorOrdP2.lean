/-
  The program's package order: how two values of each order stand. Conditions: at most 2^40 bytes.
-/
import Derived.Test.YtjdmhbfddklhnaaDoorOrdP1
import Derived.Test.YtjdmhbfddklhnaaDoorNumOkP
import Derived.Test.YtjdmhbfddklhnaaDoorDatP4
set_option linter.unusedSimpArgs false
set_option linter.unusedVariables false
set_option maxRecDepth 100000
namespace Go.Proofs.YtjdmhbfddklhnaaDoor
open Go Go.Proofs Go.RowKit _root_.Ord11 Go.Proofs.YtjdmhbfddklhnaaDoor.Ord11 Num9 Dat

/-- What numeric answers. -/
def NumericEnd (l : List UInt8) (w : World) (e : Ending) (w' : World) : Prop :=
  ∃ x ok, e = .returned (.tuple #[.float .f64 x, .bool ok]) ∧ (ok = true → numK l = key x ∧ (key x).isSome = true) ∧ (ok = false → numK l = none) ∧ Below w.heap.size w w'
set_option maxHeartbeats 4000000 in
theorem numeric_any {A : Option Addr} {n c : Nat} {l : List UInt8} {w : World} (h : SlAt w w.heap.size A n c l) :
    Calls Tryd.prog 40 #[.slice A n c] w fun e w' => NumericEnd l w e w' := by
  have K := Lib.hid (get9_prog A n c l w h.rd h.fit h.cap)
  clear h
  have KN : Hid (∀ x w, Calls Tryd.prog 54 #[.float .f64 x] w fun e w' => e = .returned (.bool (key x).isNone) ∧ w' = w) := isNaN_any
  go_enter Tryd.func40, Tryd.ntmps40
  go_upto_region 1 with fail
  go_upto_region 2 with (go_at_call 53; refine K.out.mono ?_; rintro e w1 ⟨x, ok, rfl, hx, hb⟩; have HX := Lib.hid (is_key hx); have HB := Lib.hid hb; clear hx hb)
  cases hk : key x with
  | none =>
    have HK := Lib.hid hk
    clear hk
    go_wp2_with (go_at_call 54; refine (KN.out _ _).mono ?_; rintro e w2 ⟨rfl, rfl⟩; rw [HK.out]; simp only [Option.isNone_none])
    go_ret2
    refine ⟨_, _, rfl, (fun h => by cases h), (fun _ => ?_), HB.out⟩
    cases ok with
    | false => exact HX.out.1 rfl
    | true => rw [HX.out.2 rfl, HK.out]
  | some a =>
    have HK := Lib.hid hk
    clear hk
    go_wp2_with (go_at_call 54; refine (KN.out _ _).mono ?_; rintro e w2 ⟨rfl, rfl⟩; rw [HK.out]; simp only [Option.isNone_some])
    go_ret2
    exact ⟨_, _, rfl, (fun h => ⟨HX.out.2 h, by rw [HK.out]; rfl⟩), HX.out.1, HB.out⟩

set_option maxHeartbeats 4000000 in
theorem byNumF {A A' : Option Addr} {n c n' c' : Nat} {a b : List UInt8} {w : World} (g : Nat) (hg : g < w.heap.size) (hcell : w.cell? ⟨g, 0, none⟩ = some (.func (.func 40) #[] #[])) (h : SlAt w w.heap.size A n c a) (h' : SlAt w w.heap.size A' n' c' b) :
    Calls Tryd.prog 51 #[.slice A n c, .slice A' n' c', .pointer (some ⟨g, 0, none⟩)] w fun e w' => e = .returned (.tuple #[.int .i64 (keyed numK a b).1, .bool (keyed numK a b).2]) ∧ Below w.heap.size w w' := by
  have H := Lib.hid h
  have H' := Lib.hid h'
  have HG := Lib.hid hg
  have HC := Lib.hid hcell
  clear h h' hg
  obtain ⟨X, hX⟩ : ∃ X, X = keyed numK a b := ⟨_, rfl⟩
  rw [← hX]
  have HX := Lib.hid hX
  clear hX
  go_enter Tryd.func51, Tryd.ntmps51
  go_upto_region 2 with (go_at_call 40; refine (numeric_any H.out).mono ?_; rintro e w1 ⟨x, ok, rfl, hx1, hx2, hb⟩; have X1 := Lib.hid hx1; have X2 := Lib.hid hx2; have HB := Lib.hid hb; have hcell1 := (hb.cell HG.out).trans HC.out; clear hx1 hx2 hb)
  go_upto_region 3 with (go_at_call 40; refine (numeric_any (H'.out.next HB.out)).mono ?_; rintro e w2 ⟨y, is, rfl, hy1, hy2, hb⟩; have Y1 := Lib.hid hy1; have Y2 := Lib.hid hy2; have HB2 := Lib.hid (next_below HB.out hb); clear hy1 hy2 hb)
  cases ok with
  | false =>
    go_wp2_with fail
    go_ret2
    exact ⟨by rw [HX.out, keyed_none (.inl (X2.out (by simp)))]; rfl, HB2.out⟩
  | true =>
    cases is with
    | false =>
      go_wp2_with fail
      go_ret2
      exact ⟨by rw [HX.out, keyed_none (.inr (Y2.out (by simp)))]; rfl, HB2.out⟩
    | true =>
      have hK : Hid ((cmpI (Ieee.double.order x y), (Ieee.double.order x y).isSome) = X) := by
        show _ = _
        rw [HX.out]
        exact cmp_key x y a b (X1.out (by simp)).1 (Y1.out (by simp)).1
      have hO : Hid ((Ieee.double.order x y).isSome = true) := by
        show _ = _
        rw [order_key]
        obtain ⟨p, hp⟩ := Option.isSome_iff_exists.1 (X1.out (by simp)).2
        obtain ⟨q, hq⟩ := Option.isSome_iff_exists.1 (Y1.out (by simp)).2
        rw [hp, hq]; rfl
      have KC := Lib.hid (cmp_f64 x y (X1.out (by simp)).2 (Y1.out (by simp)).2 w2)
      generalize cmpI (Ieee.double.order x y) = p at hK KC
      generalize (Ieee.double.order x y).isSome = q at hK hO
      go_wp2_with (go_at_call 52; refine KC.out.mono ?_; rintro e w3 ⟨rfl, rfl⟩)
      go_ret2
      exact ⟨by rw [← hK.out, hO.out]; rfl, HB2.out⟩

set_option maxHeartbeats 4000000 in
theorem byNumC {A A' : Option Addr} {n c n' c' : Nat} {a b : List UInt8} {w : World} (g : Nat) (hg : g < w.heap.size) (hcell : w.cell? ⟨g, 0, none⟩ = some (.func (.func 42) #[] #[])) (h : SlAt w w.heap.size A n c a) (h' : SlAt w w.heap.size A' n' c' b) :
    Calls Tryd.prog 55 #[.slice A n c, .slice A' n' c', .pointer (some ⟨g, 0, none⟩)] w fun e w' => e = .returned (.tuple #[.int .i64 (keyed clockK a b).1, .bool (keyed clockK a b).2]) ∧ Below w.heap.size w w' := by
  have H := Lib.hid h
  have H' := Lib.hid h'
  have HG := Lib.hid hg
  have HC := Lib.hid hcell
  obtain ⟨x, ok, e1, ha, _⟩ := opt_parts (clockR a)
  obtain ⟨y, is, e2, hb, _⟩ := opt_parts (clockR b)
  have E1 := Lib.hid e1
  have E2 := Lib.hid e2
  have HA := Lib.hid ha
  have HB := Lib.hid hb
  clear h h' hg e1 e2 ha hb
  obtain ⟨X, hX⟩ : ∃ X, X = keyed clockK a b := ⟨_, rfl⟩
  rw [← hX]
  have HX := Lib.hid hX
  clear hX
  go_enter Tryd.func55, Tryd.ntmps55
  go_upto_region 2 with (go_at_call 42; refine (pClock_any A n c a w H.out.rd (by have := H.out.fit; omega)).mono ?_; rintro e w1 ⟨q1, hb1⟩; rw [E1.out] at q1; subst q1; have HB1 := Lib.hid hb1; have hcell1 := (hb1.cell HG.out).trans HC.out; clear hb1)
  go_upto_region 3 with (go_at_call 42; refine (pClock_any A' n' c' b w1 (H'.out.next HB1.out).rd (by have := H'.out.fit; omega)).mono ?_; rintro e w2 ⟨q2, hb2⟩; rw [E2.out] at q2; subst q2; have HB2 := Lib.hid (next_below HB1.out hb2); clear hb2)
  cases ok with
  | false =>
    go_wp2_with fail
    go_ret2
    exact ⟨by rw [HX.out, keyed_none (.inl (by unfold clockK; rw [HA.out]; rfl))]; rfl, HB2.out⟩
  | true =>
    cases is with
    | false =>
      go_wp2_with fail
      go_ret2
      exact ⟨by rw [HX.out, keyed_none (.inr (by unfold clockK; rw [HB.out]; rfl))]; rfl, HB2.out⟩
    | true =>
      have KC := Lib.hid (cmp_i64 x y w2)
      have hK : Hid (X = (Go.Proofs.YtjdmhbfddklhnaaDoor.Ord11.three (decide (x < y)) (decide (y < x)), true)) := by
        show _ = _
        rw [HX.out]
        have q1 : clockK a = some (x : Int) := by unfold clockK; rw [HA.out]; rfl
        have q2 : clockK b = some (y : Int) := by unfold clockK; rw [HB.out]; rfl
        rw [keyed_one q1 q2]
        simp only [Int.ofNat_lt]
      generalize Go.Proofs.YtjdmhbfddklhnaaDoor.Ord11.three (decide (x < y)) (decide (y < x)) = p at hK KC
      go_wp2_with (go_at_call 56; refine KC.out.mono ?_; rintro e w3 ⟨rfl, rfl⟩)
      go_ret2
      exact ⟨by rw [hK.out]; rfl, HB2.out⟩

set_option maxHeartbeats 4000000 in
theorem byNumD {A A' : Option Addr} {n c n' c' : Nat} {a b : List UInt8} {w : World} (g : Nat) (hg : g < w.heap.size) (hcell : w.cell? ⟨g, 0, none⟩ = some (.func (.func 44) #[] #[])) (h : SlAt w w.heap.size A n c a) (h' : SlAt w w.heap.size A' n' c' b) :
    Calls Tryd.prog 55 #[.slice A n c, .slice A' n' c', .pointer (some ⟨g, 0, none⟩)] w fun e w' => e = .returned (.tuple #[.int .i64 (keyed dateK a b).1, .bool (keyed dateK a b).2]) ∧ Below w.heap.size w w' := by
  have H := Lib.hid h
  have H' := Lib.hid h'
  have HG := Lib.hid hg
  have HC := Lib.hid hcell
  obtain ⟨x, ok, e1, ha, _⟩ := opt_parts (dateR a)
  obtain ⟨y, is, e2, hb, _⟩ := opt_parts (dateR b)
  have E1 := Lib.hid e1
  have E2 := Lib.hid e2
  have HA := Lib.hid ha
  have HB := Lib.hid hb
  clear h h' hg e1 e2 ha hb
  obtain ⟨X, hX⟩ : ∃ X, X = keyed dateK a b := ⟨_, rfl⟩
  rw [← hX]
  have HX := Lib.hid hX
  clear hX
  go_enter Tryd.func55, Tryd.ntmps55
  go_upto_region 2 with (go_at_call 44; refine (pGet_any A n c a w H.out.rd (by have := H.out.fit; omega)).mono ?_; rintro e w1 ⟨q1, hb1⟩; rw [E1.out] at q1; subst q1; have HB1 := Lib.hid hb1; have hcell1 := (hb1.cell HG.out).trans HC.out; clear hb1)
  go_upto_region 3 with (go_at_call 44; refine (pGet_any A' n' c' b w1 (H'.out.next HB1.out).rd (by have := H'.out.fit; omega)).mono ?_; rintro e w2 ⟨q2, hb2⟩; rw [E2.out] at q2; subst q2; have HB2 := Lib.hid (next_below HB1.out hb2); clear hb2)
  cases ok with
  | false =>
    go_wp2_with fail
    go_ret2
    exact ⟨by rw [HX.out, keyed_none (.inl (by unfold dateK; rw [HA.out]; rfl))]; rfl, HB2.out⟩
  | true =>
    cases is with
    | false =>
      go_wp2_with fail
      go_ret2
      exact ⟨by rw [HX.out, keyed_none (.inr (by unfold dateK; rw [HB.out]; rfl))]; rfl, HB2.out⟩
    | true =>
      have KC := Lib.hid (cmp_i64 x y w2)
      have hK : Hid (X = (Go.Proofs.YtjdmhbfddklhnaaDoor.Ord11.three (decide (x < y)) (decide (y < x)), true)) := by
        show _ = _
        rw [HX.out]
        have q1 : dateK a = some (x : Int) := by unfold dateK; rw [HA.out]; rfl
        have q2 : dateK b = some (y : Int) := by unfold dateK; rw [HB.out]; rfl
        rw [keyed_one q1 q2]
        simp only [Int.ofNat_lt]
      generalize Go.Proofs.YtjdmhbfddklhnaaDoor.Ord11.three (decide (x < y)) (decide (y < x)) = p at hK KC
      go_wp2_with (go_at_call 56; refine KC.out.mono ?_; rintro e w3 ⟨rfl, rfl⟩)
      go_ret2
      exact ⟨by rw [hK.out]; rfl, HB2.out⟩

set_option maxHeartbeats 4000000 in
theorem asTexts_any {A A' : Option Addr} {n c n' c' : Nat} {a b : List UInt8} {w : World} (h : SlAt w w.heap.size A n c a) (h' : SlAt w w.heap.size A' n' c' b) :
    Calls Tryd.prog 38 #[.slice A n c, .slice A' n' c'] w fun e w' => e = .returned (.tuple #[.int .i64 (textC a b).1, .bool (textC a b).2]) ∧ Below w.heap.size w w' := by
  have K := Lib.hid (cmpBytes_any (c := c) (c' := c') h.rd h'.rd)
  have h2 : (textC a b).2 = true := rfl
  rw [h2]
  generalize (textC a b).1 = p at K
  clear h h' h2
  go_enter Tryd.func38, Tryd.ntmps38
  go_wp2_with (go_at_call 50; refine K.out.mono ?_; rintro e w3 ⟨rfl, rfl⟩)
  go_ret2
  exact ⟨rfl, Below.refl _ _⟩

set_option maxHeartbeats 4000000 in
theorem asBinary_any {A A' : Option Addr} {n c n' c' : Nat} {a b : List UInt8} {w : World} (h : SlAt w w.heap.size A n c a) (h' : SlAt w w.heap.size A' n' c' b) :
    Calls Tryd.prog 43 #[.slice A n c, .slice A' n' c'] w fun e w' => e = .returned (.tuple #[.int .i64 (keyed binK a b).1, .bool (keyed binK a b).2]) ∧ Below w.heap.size w w' := by
  obtain ⟨X, hX⟩ : ∃ X, X = Go.Proofs.YtjdmhbfddklhnaaDoor.Ord11.bare a := ⟨_, rfl⟩
  obtain ⟨Y, hY⟩ : ∃ Y, Y = Go.Proofs.YtjdmhbfddklhnaaDoor.Ord11.bare b := ⟨_, rfl⟩
  have K1 := trimLeft_any A n c _ a w h
  have K2 := trimLeft_any A' n' c' _ b w h'
  have hbt : (keyed binK a b).1 = _ := bin_told a b
  have hok : (keyed binK a b).2 = true := by rw [keyed_ok]; rfl
  rw [← hX] at K1 hbt
  rw [← hY] at K2 hbt
  rw [hok]
  generalize (keyed binK a b).1 = p at hbt
  have HBT := Lib.hid hbt
  have H1 := Lib.hid K1
  have H2 := Lib.hid K2
  clear hX hY K1 K2 hbt hok h h'
  go_enter Tryd.func43, Tryd.ntmps43
  go_upto_region 2 with first | (go_at_call 59; (with_reducible refine H1.out.mono ?_); rintro e w1 ⟨A1, n1, c1, rfl, hs, rfl⟩; have S1 := Lib.hid hs; clear hs) | (go_at_call 59; (with_reducible refine H2.out.mono ?_); rintro e w1 ⟨A2, n2, c2, rfl, hs2, rfl⟩; have S2 := Lib.hid hs2; clear hs2)
  have l1 := S1.out.len
  have l2 := S2.out.len
  have f1 := S1.out.fit
  have f2 := S2.out.fit
  rw [l1, l2] at HBT
  clear l1 l2
  by_cases hq : n1 = n2
  · subst hq
    have KB := Lib.hid (cmpBytes_any (c := c1) (c' := c2) S1.out.rd S2.out.rd)
    rw [if_neg (by simp)] at HBT
    have HE : Hid (p = (textC X Y).1) := HBT.out
    generalize (textC X Y).1 = q at KB HE
    have hqB : ((n1 : Int) != (n1 : Int)) = false := by simp
    clear HBT
    go_wp2_with (go_at_call 50; refine KB.out.mono ?_; rintro e w3 ⟨rfl, rfl⟩)
    go_ret2
    exact ⟨by rw [HE.out]; rfl, Below.refl _ _⟩
  · have KB := Lib.hid (cmp_int n1 n2 w1)
    rw [if_pos hq] at HBT
    have HE : Hid (p = Go.Proofs.YtjdmhbfddklhnaaDoor.Ord11.three (decide (n1 < n2)) (decide (n2 < n1))) := by
      show _ = _
      rw [HBT.out]
      unfold Go.Proofs.YtjdmhbfddklhnaaDoor.Ord11.three
      by_cases h1 : n1 < n2
      · simp [h1]
      · simp [h1, show n2 < n1 by omega]
    generalize Go.Proofs.YtjdmhbfddklhnaaDoor.Ord11.three (decide (n1 < n2)) (decide (n2 < n1)) = q at KB HE
    have hqB : ((n1 : Int) != (n2 : Int)) = true := by rw [bne_iff_ne]; omega
    have HQ := Lib.hid hq
    clear HBT hq
    go_wp2_with (go_at_call 60; refine KB.out.mono ?_; rintro e w3 ⟨rfl, rfl⟩)
    go_ret2
    exact ⟨by rw [HE.out]; rfl, Below.refl _ _⟩

theorem mkF_any (x : FuncId) (w : World) : Calls Tryd.prog 39 #[.func (.func x) #[] #[]] w fun e w' => e = .returned (.func (.func 51) #[] #[.pointer (some ⟨w.heap.size, 0, none⟩)]) ∧ Below w.heap.size w w' ∧ w.heap.size < w'.heap.size ∧ w'.cell? ⟨w.heap.size, 0, none⟩ = some (.func (.func x) #[] #[]) := by
  have hmf : ∀ (fn : Fn) (first cap : Array Value) (w : World), (Instr.makeFunc fn first cap).run Tryd.prog w = .ok (.func fn first cap) w := fun _ _ _ _ => rfl
  go_enter Tryd.func39, Tryd.ntmps39
  go_wp2_with fail
  go_ret
  exact ⟨rfl, (Below.refl _ _).alloc (Nat.le_refl _) _, by simp, by simp [Lib.cell_of_heap (heap_alloc_new w _)]⟩
theorem mkI_any (x : FuncId) (w : World) : Calls Tryd.prog 41 #[.func (.func x) #[] #[]] w fun e w' => e = .returned (.func (.func 55) #[] #[.pointer (some ⟨w.heap.size, 0, none⟩)]) ∧ Below w.heap.size w w' ∧ w.heap.size < w'.heap.size ∧ w'.cell? ⟨w.heap.size, 0, none⟩ = some (.func (.func x) #[] #[]) := by
  have hmf : ∀ (fn : Fn) (first cap : Array Value) (w : World), (Instr.makeFunc fn first cap).run Tryd.prog w = .ok (.func fn first cap) w := fun _ _ _ _ => rfl
  go_enter Tryd.func41, Tryd.ntmps41
  go_wp2_with fail
  go_ret
  exact ⟨rfl, (Below.refl _ _).alloc (Nat.le_refl _) _, by simp, by simp [Lib.cell_of_heap (heap_alloc_new w _)]⟩
theorem st1_any (w : World) : Calls Tryd.prog 24 #[.int .u8 1] w fun e w' => e = .returned (.tuple #[.func (.func 38) #[] #[], .bool true]) ∧ w' = w := by
  go_enter Tryd.func24, Tryd.ntmps24
  go_wp2_with fail
  go_ret2
  exact ⟨rfl, rfl⟩
theorem st2_any (w : World) : Calls Tryd.prog 24 #[.int .u8 2] w fun e w' => e = .returned (.tuple #[.func (.func 51) #[] #[.pointer (some ⟨w.heap.size, 0, none⟩)], .bool true]) ∧ Below w.heap.size w w' ∧ w.heap.size < w'.heap.size ∧ w'.cell? ⟨w.heap.size, 0, none⟩ = some (.func (.func 40) #[] #[]) := by
  go_enter Tryd.func24, Tryd.ntmps24
  go_wp2_with (go_at_call 39; refine (mkF_any _ _).mono ?_; rintro e w1 ⟨rfl, hb, hl, hc⟩; have HB := Lib.hid hb; have HL := Lib.hid hl; have HC := Lib.hid hc; clear hb hl hc)
  go_ret2
  exact ⟨rfl, HB.out, HL.out, HC.out⟩
theorem st3_any (w : World) : Calls Tryd.prog 24 #[.int .u8 3] w fun e w' => e = .returned (.tuple #[.func (.func 55) #[] #[.pointer (some ⟨w.heap.size, 0, none⟩)], .bool true]) ∧ Below w.heap.size w w' ∧ w.heap.size < w'.heap.size ∧ w'.cell? ⟨w.heap.size, 0, none⟩ = some (.func (.func 42) #[] #[]) := by
  go_enter Tryd.func24, Tryd.ntmps24
  go_wp2_with (go_at_call 41; refine (mkI_any _ _).mono ?_; rintro e w1 ⟨rfl, hb, hl, hc⟩; have HB := Lib.hid hb; have HL := Lib.hid hl; have HC := Lib.hid hc; clear hb hl hc)
  go_ret2
  exact ⟨rfl, HB.out, HL.out, HC.out⟩
theorem st4_any (w : World) : Calls Tryd.prog 24 #[.int .u8 4] w fun e w' => e = .returned (.tuple #[.func (.func 43) #[] #[], .bool true]) ∧ w' = w := by
  go_enter Tryd.func24, Tryd.ntmps24
  go_wp2_with fail
  go_ret2
  exact ⟨rfl, rfl⟩
theorem st5_any (w : World) : Calls Tryd.prog 24 #[.int .u8 5] w fun e w' => e = .returned (.tuple #[.func (.func 55) #[] #[.pointer (some ⟨w.heap.size, 0, none⟩)], .bool true]) ∧ Below w.heap.size w w' ∧ w.heap.size < w'.heap.size ∧ w'.cell? ⟨w.heap.size, 0, none⟩ = some (.func (.func 44) #[] #[]) := by
  go_enter Tryd.func24, Tryd.ntmps24
  go_wp2_with (go_at_call 41; refine (mkI_any _ _).mono ?_; rintro e w1 ⟨rfl, hb, hl, hc⟩; have HB := Lib.hid hb; have HL := Lib.hid hl; have HC := Lib.hid hc; clear hb hl hc)
  go_ret2
  exact ⟨rfl, HB.out, HL.out, HC.out⟩
theorem st0_any (o : Nat) (ho : o = 0 ∨ 5 < o) (w : World) : Calls Tryd.prog 24 #[.int .u8 o] w fun e w' => e = .returned (.tuple #[.nilFunc, .bool false]) ∧ w' = w := by
  have f1 : ((o : Int) == 1) = false := by rw [beq_eq_false_iff_ne]; omega
  have f2 : ((o : Int) == 2) = false := by rw [beq_eq_false_iff_ne]; omega
  have f3 : ((o : Int) == 3) = false := by rw [beq_eq_false_iff_ne]; omega
  have f4 : ((o : Int) == 4) = false := by rw [beq_eq_false_iff_ne]; omega
  have f5 : ((o : Int) == 5) = false := by rw [beq_eq_false_iff_ne]; omega
  have HO := Lib.hid ho
  clear ho
  go_enter Tryd.func24, Tryd.ntmps24
  go_wp2_with fail
  go_ret2
  exact ⟨rfl, rfl⟩

set_option maxHeartbeats 8000000 in
theorem pCompare11 (o : Nat) (ho : o < 256) {A A' : Option Addr} {n c n' c' : Nat} {a b : List UInt8} {w : World} (h : SlAt w w.heap.size A n c a) (h' : SlAt w w.heap.size A' n' c' b) :
    Calls Tryd.prog 9 #[.int .u8 o, .slice A n c, .slice A' n' c'] w fun e w' => CmpEnd o a b w e w' := by
  have H := Lib.hid h
  have H' := Lib.hid h'
  clear h h'
  obtain ⟨X, hX⟩ : ∃ X, X = ordC o a b := ⟨_, rfl⟩
  unfold CmpEnd
  rw [← hX]
  have HX := Lib.hid hX
  clear hX
  by_cases h1 : o = 1
  · subst h1
    have HE : Hid (X = textC a b) := HX.out
    have K := Lib.hid (asTexts_any H.out H'.out)
    rw [← HE.out] at K
    go_enter Tryd.func9, Tryd.ntmps9
    go_wp2_with first | (go_at_call 24; refine (st1_any _).mono ?_; rintro e w1 ⟨rfl, rfl⟩) | (go_at_call 38; refine K.out.mono ?_; rintro e w2 ⟨rfl, hb2⟩; have HB2 := Lib.hid hb2; clear hb2)
    go_ret2
    exact ⟨rfl, HB2.out⟩
  by_cases h2 : o = 2
  · subst h2
    have HE : Hid (X = keyed numK a b) := HX.out
    go_enter Tryd.func9, Tryd.ntmps9
    go_upto_region 2 with (go_at_call 24; refine (st2_any _).mono ?_; rintro e w1 ⟨rfl, hb, hl, hc⟩; have HB := Lib.hid hb; have HL := Lib.hid hl; have HC := Lib.hid hc; clear hb hl hc)
    have K := Lib.hid (byNumF _ HL.out HC.out (H.out.next HB.out) (H'.out.next HB.out))
    rw [← HE.out] at K
    go_wp2_with (go_at_call 51; refine K.out.mono ?_; rintro e w2 ⟨rfl, hb2⟩; have HB2 := Lib.hid (next_below HB.out hb2); clear hb2)
    go_ret2
    exact ⟨rfl, HB2.out⟩
  by_cases h3 : o = 3
  · subst h3
    have HE : Hid (X = keyed clockK a b) := HX.out
    go_enter Tryd.func9, Tryd.ntmps9
    go_upto_region 2 with (go_at_call 24; refine (st3_any _).mono ?_; rintro e w1 ⟨rfl, hb, hl, hc⟩; have HB := Lib.hid hb; have HL := Lib.hid hl; have HC := Lib.hid hc; clear hb hl hc)
    have K := Lib.hid (byNumC _ HL.out HC.out (H.out.next HB.out) (H'.out.next HB.out))
    rw [← HE.out] at K
    go_wp2_with (go_at_call 55; refine K.out.mono ?_; rintro e w2 ⟨rfl, hb2⟩; have HB2 := Lib.hid (next_below HB.out hb2); clear hb2)
    go_ret2
    exact ⟨rfl, HB2.out⟩
  by_cases h4 : o = 4
  · subst h4
    have HE : Hid (X = keyed binK a b) := HX.out
    have K := Lib.hid (asBinary_any H.out H'.out)
    rw [← HE.out] at K
    go_enter Tryd.func9, Tryd.ntmps9
    go_wp2_with first | (go_at_call 24; refine (st4_any _).mono ?_; rintro e w1 ⟨rfl, rfl⟩) | (go_at_call 43; refine K.out.mono ?_; rintro e w2 ⟨rfl, hb2⟩; have HB2 := Lib.hid hb2; clear hb2)
    go_ret2
    exact ⟨rfl, HB2.out⟩
  by_cases h5 : o = 5
  · subst h5
    have HE : Hid (X = keyed dateK a b) := HX.out
    go_enter Tryd.func9, Tryd.ntmps9
    go_upto_region 2 with (go_at_call 24; refine (st5_any _).mono ?_; rintro e w1 ⟨rfl, hb, hl, hc⟩; have HB := Lib.hid hb; have HL := Lib.hid hl; have HC := Lib.hid hc; clear hb hl hc)
    have K := Lib.hid (byNumD _ HL.out HC.out (H.out.next HB.out) (H'.out.next HB.out))
    rw [← HE.out] at K
    go_wp2_with (go_at_call 55; refine K.out.mono ?_; rintro e w2 ⟨rfl, hb2⟩; have HB2 := Lib.hid (next_below HB.out hb2); clear hb2)
    go_ret2
    exact ⟨rfl, HB2.out⟩
  have h0 : o = 0 ∨ 5 < o := by omega
  have HE : Hid (X = (0, false)) := by
    show _ = _
    rw [HX.out]
    unfold ordC
    rw [if_neg h1, if_neg h2, if_neg h3, if_neg h4, if_neg h5]
  have H0 := Lib.hid h0
  clear h0 h1 h2 h3 h4 h5
  go_enter Tryd.func9, Tryd.ntmps9
  go_wp2_with (go_at_call 24; refine (st0_any o H0.out _).mono ?_; rintro e w1 ⟨rfl, rfl⟩)
  go_ret2
  exact ⟨by rw [HE.out]; rfl, Below.refl _ _⟩
set_option maxHeartbeats 4000000 in
theorem pIs11 (o : Nat) (ho : o < 256) {A : Option Addr} {n c : Nat} {a : List UInt8} {w : World} (h : SlAt w w.heap.size A n c a) :
    Calls Tryd.prog 11 #[.int .u8 o, .slice A n c] w fun e w' => e = .returned (.bool (isV ordC o a)) ∧ Below w.heap.size w w' := by
  have K := Lib.hid (pCompare11 o ho h h)
  unfold CmpEnd at K
  have e2 : isV ordC o a = (ordC o a a).2 := rfl
  rw [e2]
  generalize ordC o a a = p at K
  clear h e2
  go_enter Tryd.func11, Tryd.ntmps11
  go_wp2_with (go_at_call 9; refine K.out.mono ?_; rintro e w1 ⟨rfl, hb⟩; have HB := Lib.hid hb; clear hb)
  go_ret
  exact ⟨rfl, HB.out⟩
end Go.Proofs.YtjdmhbfddklhnaaDoor
