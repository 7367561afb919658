/-
  The contracts of the document's answers May and Same (package greffierref02). Conditions: for May, that the tree has at most 2^40 nodes, and its form as many bytes.
-/
import Derived.Test.YtaenahilnnlbfaaDoorDeep
import Derived.Test.YtaenahilnnlbfaaDoorText
set_option linter.unusedVariables false
namespace Go.Proofs.YtaenahilnnlbfaaDoor
open Go Go.Proofs Go.RowKit Sx

theorem deep_le_nodes (t : SX) : deep t ≤ nodes t := by
  induction t using SX.ind with
  | H l h hi da ks ih =>
    have : deepL ks ≤ nodesL ks := by
      induction ks with
      | nil => simp [deepL, nodesL]
      | cons a r ihr =>
        have h1 := ih a (by simp)
        have h2 := ihr (fun k hk => ih k (by simp [hk]))
        simp [deepL, nodesL]; omega
    rw [deep, nodes]
    split <;> omega
theorem wrap_id (a : Int) (h : -9223372036854775808 ≤ a ∧ a ≤ 9223372036854775807) : wrap64 a = a := by unfold wrap64; omega
theorem ret_bool {a b : Bool} (h : a = b) : Ending.returned (.bool a) = .returned (.bool b) := by rw [h]

set_option maxHeartbeats 2000000 in
set_option maxRecDepth 100000 in
theorem refMay_any (t : SX) (w : World) (S : Nat → Prop) (cs : List Value) (hs : SIn w S t cs) (hn : nodes t ≤ 1099511627776) (hf : (form t).length ≤ 1099511627776) :
    Calls Tryd.prog 12 #[.agg cs.toArray] w fun e w' => e = .returned (.bool (may t)) ∧ Below w.heap.size w w' := by
  obtain ⟨l, h, hi, da, ks, A1, n1, c1, A2, n2, c2, A3, n3, c3, e, rfl⟩ := hs.form_
  have hdn := deep_le_nodes t
  have hM : Hid (may t = (clean t && decide (nodes t ≤ 512) && decide (deep t ≤ 16) && decide ((form t).length ≤ 4096))) := rfl
  have HW := Lib.hid (wrap_id (nodes t) (by omega))
  have hs1 := hs.old (below_new w (.cells #[Value.bool l, Value.bool h, Value.slice A1 n1 c1, Value.slice A2 n2 c2, Value.slice A3 n3 c3] 25))
  have hx := heap_alloc_new w (.cells #[Value.bool l, Value.bool h, Value.slice A1 n1 c1, Value.slice A2 n2 c2, Value.slice A3 n3 c3] 25)
  have hb0 := below_new w (.cells #[Value.bool l, Value.bool h, Value.slice A1 n1 c1, Value.slice A2 n2 c2, Value.slice A3 n3 c3] 25)
  have HX := Lib.hid hx
  have C1 := Lib.hid (clean_any t _ S _ hs1)
  have C2 := Lib.hid (fun W hb => nodes_any t W S _ (hs1.old hb))
  have C3 := Lib.hid (fun W hb => deep_any t W S _ (hs1.old hb) (by omega))
  have C4 := Lib.hid (fun W hb => form_any t W S _ (hs1.old hb) hf)
  clear hs hx hs1 e
  generalize clean t = c at *
  generalize nodes t = nn at *
  generalize deep t = dd at *
  generalize form t = ff at *
  rw [hM.out]
  clear hM
  cases c with
  | false =>
    go_enter Tryd.func12, Tryd.ntmps12
    go_wp2_with ((with_reducible refine C1.out.mono ?_); rintro e w2 ⟨rfl, hb2⟩)
    go_ret
    exact ⟨rfl, hb0.trans (hb2.mono (by simp))⟩
  | true =>
  by_cases g1 : 512 < nn
  · go_enter Tryd.func12, Tryd.ntmps12
    go_wp2_with (first
      | ((with_reducible refine C1.out.mono ?_); rintro e w2 ⟨rfl, hb2⟩; obtain ⟨e0, e1, e2, e3, e4⟩ := box5b (below_at hb2 HX.out))
      | ((with_reducible refine (C2.out _ hb2).mono ?_); rintro e w3 ⟨rfl, hb3⟩; rw [HW.out]; have hb3 := hb2.trans (hb3.mono hb2.size); clear e0 e1 e2 e3 e4; obtain ⟨e0, e1, e2, e3, e4⟩ := box5b (below_at hb3 HX.out)))
    go_ret
    exact ⟨ret_bool (by simp; omega), hb0.trans (hb3.mono (by simp))⟩
  by_cases g2 : 16 < dd
  · go_enter Tryd.func12, Tryd.ntmps12
    go_wp2_with (first
      | ((with_reducible refine C1.out.mono ?_); rintro e w2 ⟨rfl, hb2⟩; obtain ⟨e0, e1, e2, e3, e4⟩ := box5b (below_at hb2 HX.out))
      | ((with_reducible refine (C2.out _ hb2).mono ?_); rintro e w3 ⟨rfl, hb3⟩; rw [HW.out]; have hb3 := hb2.trans (hb3.mono hb2.size); clear e0 e1 e2 e3 e4; obtain ⟨e0, e1, e2, e3, e4⟩ := box5b (below_at hb3 HX.out))
      | ((with_reducible refine (C3.out _ hb3).mono ?_); rintro e w4 ⟨rfl, hb4⟩; have hb4 := hb3.trans (hb4.mono hb3.size); clear e0 e1 e2 e3 e4; obtain ⟨e0, e1, e2, e3, e4⟩ := box5b (below_at hb4 HX.out)))
    go_ret
    exact ⟨ret_bool (by simp; omega), hb0.trans (hb4.mono (by simp))⟩
  go_enter Tryd.func12, Tryd.ntmps12
  go_wp2_with (first
    | ((with_reducible refine C1.out.mono ?_); rintro e w2 ⟨rfl, hb2⟩; obtain ⟨e0, e1, e2, e3, e4⟩ := box5b (below_at hb2 HX.out))
    | ((with_reducible refine (C2.out _ hb2).mono ?_); rintro e w3 ⟨rfl, hb3⟩; rw [HW.out]; have hb3 := hb2.trans (hb3.mono hb2.size); clear e0 e1 e2 e3 e4; obtain ⟨e0, e1, e2, e3, e4⟩ := box5b (below_at hb3 HX.out))
    | ((with_reducible refine (C3.out _ hb3).mono ?_); rintro e w4 ⟨rfl, hb4⟩; have hb4 := hb3.trans (hb4.mono hb3.size); clear e0 e1 e2 e3 e4; obtain ⟨e0, e1, e2, e3, e4⟩ := box5b (below_at hb4 HX.out))
    | ((with_reducible refine (C4.out _ hb4).mono ?_); rintro e w5 ⟨Ar, cr, rfl, hcr, hrr, hb5⟩; have hb5 := hb4.trans (hb5.mono hb4.size)))
  go_ret
  exact ⟨ret_bool (by rw [decide_eq_true (show nn ≤ 512 by omega), decide_eq_true (show dd ≤ 16 by omega)]; simp only [Bool.true_and]; rw [decide_eq_decide]; omega), hb0.trans (hb5.mono (by simp))⟩
end Go.Proofs.YtaenahilnnlbfaaDoor
