/-
  The walks of the laws NumberGets, NumberCompares, NumberGreatest over contracts of the program's package number. Conditions: those contracts.
-/
import Derived.Test.YtgiamllemfolkaaNumOk
set_option linter.unusedVariables false
namespace Go.Proofs.Ytgiamllemfolkaa
open Go Go.Proofs Go.RowKit Num9

set_option maxHeartbeats 4000000 in
set_option maxRecDepth 100000 in
theorem ngets_walk (H : NumOk) (A : Option Addr) (n c : Nat) (l : List UInt8) (w : World) (hr : Reads w w.heap.size 1 A n (Lib.byteCells l)) (hc : n ≤ c) :
    Calls Try.prog 3 #[.slice A n c] w fun e w' => e = .returned (.bool true) ∧ Below w.heap.size w w' := by
  by_cases hn : 100 < n
  · go_enter Try.func3, Try.ntmps3
    go_wp2_with fail
    refine (awake9_any H w).mono ?_
    rintro e w1 ⟨rfl, hb1⟩
    go_wp2
    go_ret
    exact ⟨rfl, hb1⟩
  · go_enter Try.func3, Try.ntmps3
    go_wp2_with fail
    refine (H.get A n c l w hr (by omega) hc).mono ?_
    rintro e w1 ⟨x, ok, rfl, h1, hb1⟩
    go_wp2_with fail
    refine (refGet9_any A n c l w.heap.size w1 (hr.below hb1) (by omega)).mono ?_
    rintro e w2 ⟨y, is, rfl, h2, hb2⟩
    obtain ⟨e1, e2⟩ := is_same h1 h2
    subst e1
    have HB := Lib.hid (hb1.trans (hb2.mono hb1.size))
    clear h1 h2 hb1 hb2 hr
    have hok : (ok == ok) = true := by cases ok <;> rfl
    go_wp2_with (go_at_call 11; refine (same9_any e2 _).mono ?_; rintro e w' ⟨rfl, rfl⟩)
    refine (awake9_any H _).mono ?_
    rintro e w3 ⟨rfl, hb3⟩
    go_wp2
    go_ret
    exact ⟨rfl, HB.out.trans (hb3.mono HB.out.size)⟩

namespace Num9
theorem self_of {x : Nat} (h : (key x).isSome) : FloatKind.f64.format.order x x = some .eq := by
  show Ieee.double.order x x = _
  rw [order_self, if_pos h]
theorem self_nan {x : Nat} (h : key x = none) : FloatKind.f64.format.order x x = none := by
  show Ieee.double.order x x = _
  rw [order_self, h]; rfl
theorem some_keys {x y : Nat} {o : Ordering} (h : Ieee.double.order x y = some o) : (key x).isSome ∧ (key y).isSome := by
  rw [order_key] at h
  cases hx : key x <;> cases hy : key y <;> rw [hx, hy] at h <;> first | (cases h; done) | exact ⟨rfl, rfl⟩
theorem none_keys {x y : Nat} (h : Ieee.double.order x y = none) : key x = none ∨ key y = none := by
  rw [order_key] at h
  cases hx : key x <;> cases hy : key y <;> rw [hx, hy] at h <;> first | (cases h; done) | simp
end Num9

set_option maxHeartbeats 4000000 in
set_option maxRecDepth 100000 in
/-- The walk, once it is known how the two values stand. -/
theorem ncompares_at (H : NumOk) (x y : Nat) (o o' : Option Ordering) (a b c : Int) (k bx by_ : Bool) (w : World) (hx : x < 2 ^ 64) (hy : y < 2 ^ 64)
    (h1 : Ieee.double.order x y = o) (h2 : Ieee.double.order y x = o') (ha : cmpI o = a) (hc : cmpI o' = -a) (ho : o.isSome = k) (ho' : o'.isSome = k)
    (hbx : (FloatKind.f64.format.order x x == some .eq) = bx) (hby : (FloatKind.f64.format.order y y == some .eq) = by_) (hk : (bx && by_) = k) (ha2 : a = -1 ∨ a = 0 ∨ a = 1) :
    Calls Try.prog 4 #[.float .f64 x, .float .f64 y] w fun e w' => e = .returned (.bool true) ∧ Below w.heap.size w w' := by
  go_enter Try.func4, Try.ntmps4
  go_wp2_with fail
  refine (H.cmp x y w hx hy).mono ?_
  rintro e w1 ⟨rfl, hb1⟩
  rw [h1, ha, ho]
  go_wp2_with fail
  refine (refCompare_any x y w1).mono ?_
  rintro e w2 ⟨rfl, hb2⟩
  rw [h1, ha, ho]
  have HB2 := Lib.hid (hb1.trans (hb2.mono hb1.size))
  clear hb1 hb2
  go_wp2_with fail
  refine (H.cmp y x w2 hy hx).mono ?_
  rintro e w3 ⟨rfl, hb3⟩
  rw [h2, hc, ho']
  have HB3 := Lib.hid (HB2.out.trans (hb3.mono HB2.out.size))
  clear hb3 HB2 h1 h2 ha hc ho ho'
  have hf : ∀ w, Calls Try.prog 8 #[] w fun e w' => e = .returned (.bool true) ∧ Below w.heap.size w w' := awake9_any H
  rcases ha2 with rfl | rfl | rfl <;> cases bx <;> cases by_ <;> (simp at hk; subst hk) <;>
  (go_wp2_with fail
   refine (awake9_any H _).mono ?_
   rintro e w4 ⟨rfl, hb4⟩
   go_wp2
   go_ret
   exact ⟨rfl, HB3.out.trans (hb4.mono HB3.out.size)⟩)

theorem ncompares_walk (H : NumOk) (x y : Nat) (w : World) (hx : x < 2 ^ 64) (hy : y < 2 ^ 64) :
    Calls Try.prog 4 #[.float .f64 x, .float .f64 y] w fun e w' => e = .returned (.bool true) ∧ Below w.heap.size w w' := by
  have hs := order_swap x y
  rcases ho : Ieee.double.order x y with _ | o
  · rw [ho] at hs
    rcases none_keys ho with h | h
    · exact ncompares_at H x y none none 0 0 0 false false (FloatKind.f64.format.order y y == some .eq) w hx hy ho hs rfl rfl rfl rfl (by rw [self_nan h]; rfl) rfl rfl (by simp)
    · exact ncompares_at H x y none none 0 0 0 false (FloatKind.f64.format.order x x == some .eq) false w hx hy ho hs rfl rfl rfl rfl rfl (by rw [self_nan h]; rfl) (by simp) (by simp)
  · obtain ⟨h1, h2⟩ := some_keys ho
    have s1 : (FloatKind.f64.format.order x x == some .eq) = true := by rw [self_of h1]; rfl
    have s2 : (FloatKind.f64.format.order y y == some .eq) = true := by rw [self_of h2]; rfl
    rw [ho] at hs
    cases o
    · exact ncompares_at H x y _ _ (-1) 0 0 true true true w hx hy ho hs rfl rfl rfl rfl s1 s2 rfl (by simp)
    · exact ncompares_at H x y _ _ 0 0 0 true true true w hx hy ho hs rfl rfl rfl rfl s1 s2 rfl (by simp)
    · exact ncompares_at H x y _ _ 1 0 0 true true true w hx hy ho hs rfl rfl rfl rfl s1 s2 rfl (by simp)

namespace Num9
theorem great_same (xs : List Nat) (h : ∀ x ∈ xs, x < 2 ^ 64) : (key (greatR xs).1).isSome ∧ (greatR xs).1 < 2 ^ 64 := by
  unfold greatR
  cases hf : xs.find? (isBest xs) with
  | none => exact ⟨by decide, by decide⟩
  | some x =>
    have hm := List.mem_of_find?_eq_some hf
    have hb := List.find?_some hf
    refine ⟨?_, h x hm⟩
    unfold isBest at hb
    rw [Bool.and_eq_true, order_self] at hb
    cases hk : key x with
    | none => rw [hk] at hb; simp at hb
    | some a => rfl
end Num9

set_option maxHeartbeats 4000000 in
set_option maxRecDepth 100000 in
theorem ngreatest_walk (H : NumOk) (A : Option Addr) (n c : Nat) (xs : List Nat) (w : World) (hr : Reads w w.heap.size 1 A n (fCells xs)) (hx : ∀ x ∈ xs, x < 2 ^ 64) (hc : n ≤ c) :
    Calls Try.prog 5 #[.slice A n c] w fun e w' => e = .returned (.bool true) ∧ Below w.heap.size w w' := by
  by_cases hn : 100 < n
  · go_enter Try.func5, Try.ntmps5
    go_wp2_with fail
    refine (awake9_any H w).mono ?_
    rintro e w1 ⟨rfl, hb1⟩
    go_wp2
    go_ret
    exact ⟨rfl, hb1⟩
  · obtain ⟨k1, k2⟩ := great_same xs hx
    have hsm : Hid ((key (greatR xs).1).isSome ∧ (greatR xs).1 < 2 ^ 64) := ⟨k1, k2⟩
    clear k1 k2
    go_enter Try.func5, Try.ntmps5
    go_wp2_with fail
    refine (H.great A n c xs w hr hx (by omega) hc).mono ?_
    rintro e w1 ⟨rfl, hb1⟩
    have HR := Lib.hid (hr.below hb1)
    have HB := Lib.hid hb1
    obtain ⟨g, hg⟩ : ∃ g, g = greatR xs := ⟨_, rfl⟩
    rw [← hg] at hsm ⊢
    go_wp2_with fail
    refine (refGreatest_any A n c xs w.heap.size w1 HR.out (by omega)).mono ?_
    rintro e w2 ⟨rfl, hb2⟩
    rw [← hg]
    have HB2 := Lib.hid (HB.out.trans (hb2.mono HB.out.size))
    clear hb1 hb2 hr hg HB HR
    obtain ⟨x, ok⟩ := g
    have hsm2 : Hid ((key x).isSome ∧ x < 2 ^ 64) := Lib.hid hsm.out
    clear hsm
    dsimp only
    have hok : (ok == ok) = true := by cases ok <;> rfl
    go_wp2_with (go_at_call 11; refine (same9_any (.inr ⟨rfl, hsm2.out.1, hsm2.out.2⟩) _).mono ?_; rintro e w' ⟨rfl, rfl⟩)
    refine (awake9_any H _).mono ?_
    rintro e w3 ⟨rfl, hb3⟩
    go_wp2
    go_ret
    exact ⟨rfl, HB2.out.trans (hb3.mono HB2.out.size)⟩
end Go.Proofs.Ytgiamllemfolkaa
