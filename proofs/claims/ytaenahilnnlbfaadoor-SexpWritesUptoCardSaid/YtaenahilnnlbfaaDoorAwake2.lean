/-
  The contract of the law file's own awake (package greffierlaw02): it returns true. Conditions: the library's table of powers of ten holds what its text lays.
-/
import Derived.Test.YtaenahilnnlbfaaDoorPut
set_option linter.unusedVariables false
namespace Go.Proofs.YtaenahilnnlbfaaDoor
open Go Go.Proofs Go.RowKit Sx

def exTree : SX := .mk true false [] [] [.mk false false [] [97, 98, 99] [], .mk false false [] [120] []]
theorem exForm : form exTree = [40, 51, 58, 97, 98, 99, 49, 58, 120, 41] := by
  have h3 : Lib.decDigits 3 = [51] := by rw [Lib.decDigits, dif_pos (by omega)]; rfl
  have h1 : Lib.decDigits 1 = [49] := by rw [Lib.decDigits, dif_pos (by omega)]; rfl
  simp [exTree, form, formL, text, h3, h1]
theorem exMay : may exTree = true := by
  have h := exForm
  unfold may
  rw [h]
  rfl

theorem kids_two {w : World} {S : Nat → Prop} {t t' : SX} {v0 v1 v2 v3 v4 u0 u1 u2 u3 u4 : Value} (h : SIn w S t [v0, v1, v2, v3, v4]) (h' : SIn w S t' [u0, u1, u2, u3, u4]) :
    Kids w S [t, t'] [v0, v1, v2, v3, v4, u0, u1, u2, u3, u4] := by
  intro i x hx
  match i, hx with
  | 0, hx => simp at hx; subst hx; exact h
  | 1, hx => simp at hx; subst hx; exact h'

set_option maxHeartbeats 2000000 in
set_option maxRecDepth 100000 in
theorem awake_any (w : World) (ht : Tab w) : Calls Tryd.prog 10 #[] w fun e w' => e = .returned (.bool true) ∧ Below w.heap.size w w' := by
  have C1 := Lib.hid (atom_any ⟨#[97, 98, 99]⟩ w (by decide))
  have C2 := Lib.hid (fun W => atom_any ⟨#[120]⟩ W (by decide))
  have HT := Lib.hid ht
  clear ht
  go_enter Tryd.func10, Tryd.ntmps10
  go_wp2_with (first
    | ((with_reducible refine C1.out.mono ?_); rintro e w1 ⟨v0, v1, v2, v3, v4, rfl, hin1, hb1⟩)
    | ((with_reducible refine (C2.out w1).mono ?_); rintro e w2 ⟨u0, u1, u2, u3, u4, rfl, hin2, hb2⟩))
  have hw2 := hb1.trans (hb2.mono hb1.size)
  have hb3 := below_new w2 (.cells #[v0, v1, v2, v3, v4, u0, u1, u2, u3, u4] 25)
  have hw3 := hw2.trans (hb3.mono hw2.size)
  have hk := kids_two (((hin1.old hb2).old hb3).more (S' := fun _ => True) fun _ _ => trivial) ((hin2.old hb3).more (S' := fun _ => True) fun _ _ => trivial)
  have hr : RIn (w2.alloc (.cells #[v0, v1, v2, v3, v4, u0, u1, u2, u3, u4] 25)) (fun _ => True) 5 (some ⟨w2.heap.size, 0, none⟩) 2 [v0, v1, v2, v3, v4, u0, u1, u2, u3, u4] :=
    ⟨rfl, fun _ => ⟨_, rfl, trivial, fun j u hu => by
      have e : (⟨w2.heap.size, 0, none⟩ : Addr).add j = ⟨w2.heap.size, j, none⟩ := by unfold Addr.add; split <;> simp_all
      rw [e, Lib.cell_of_heap (heap_alloc_new w2 _)]
      rw [← hu]; simp⟩⟩
  have C3 := Lib.hid (list_any [.mk false false [] [97, 98, 99] [], .mk false false [] [120] []] _ 2 2 _ _ _ hr rfl hk (by omega))
  clear hin1 hin2 hk hr
  generalize w2.alloc (.cells #[v0, v1, v2, v3, v4, u0, u1, u2, u3, u4] 25) = W at *
  go_wp2_with ((with_reducible refine C3.out.mono ?_); rintro e w3 ⟨x0, x1, x2, x3, x4, rfl, hin3, hb4⟩)
  have hw4 := hw3.trans (hb4.mono hw3.size)
  have C4 := Lib.hid (put_any _ _ _ _ hin3 (HT.out.old hw4))
  refine C4.out.mono ?_
  rintro e w4 (⟨_, A, c, rfl, hc, hr, hb5⟩ | ⟨hm, _⟩)
  · have hF : Hid (form (.mk true false [] [] [.mk false false [] [97, 98, 99] [], .mk false false [] [120] []]) = [40, 51, 58, 97, 98, 99, 49, 58, 120, 41]) := exForm
    rw [hF.out] at hc hr ⊢
    have k1 : (convert 22 9 (.slice A 10 c)).run Tryd.prog w4 = .ok (.string ⟨#[40, 51, 58, 97, 98, 99, 49, 58, 120, 41]⟩) w4 := run_back hr (c := c)
    have hw5 := hw4.trans (hb5.mono hw4.size)
    clear hr hc
    go_wp2_with fail
    go_ret
    exact ⟨rfl, hw5⟩
  · have : may exTree = false := hm
    rw [exMay] at this
    cases this
end Go.Proofs.YtaenahilnnlbfaaDoor
