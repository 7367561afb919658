/-
  The contract of the document's answer Same (package greffierref02): whether two trees are the same. Conditions: none.
-/
import Derived.Test.YtaenahilnnlbfaaDoorRefMay
import Derived.StillTailTactics
set_option linter.unusedVariables false
namespace Go.Proofs.YtaenahilnnlbfaaDoor
open Go Go.Proofs Go.RowKit Sx

theorem sameL_take (a b : List SX) (k : Nat) (x y : SX) (hx : a[k]? = some x) (hy : b[k]? = some y) : sameL (a.take (k + 1)) (b.take (k + 1)) = (sameL (a.take k) (b.take k) && same x y) := by
  induction a generalizing b k with
  | nil => simp at hx
  | cons u r ih =>
    cases b with
    | nil => simp at hy
    | cons v s =>
      cases k with
      | zero =>
        simp at hx hy
        subst hx hy
        simp [sameL]
      | succ k =>
        simp at hx hy
        simp [sameL, ih s k hx hy, Bool.and_assoc]
theorem sameL_bad (a b : List SX) (k : Nat) (x y : SX) (hx : a[k]? = some x) (hy : b[k]? = some y) (h : same x y = false) : sameL a b = false := by
  rw [Bool.eq_false_iff]
  intro e
  have := (sameL_iff a b).1 e
  subst this
  rw [hx] at hy
  injection hy with hy
  subst hy
  rw [same_refl] at h
  cases h
theorem sameL_len (a b : List SX) (h : a.length ≠ b.length) : sameL a b = false := by
  rw [Bool.eq_false_iff]
  intro e
  have := (sameL_iff a b).1 e
  subst this
  exact h rfl

set_option maxHeartbeats 2000000 in
set_option maxRecDepth 100000 in
theorem refSame_any (t : SX) : ∀ (t' : SX) (w : World) (S S' : Nat → Prop) (cs cs' : List Value), SIn w S t cs → SIn w S' t' cs' →
    Calls Tryd.prog 16 #[.agg cs.toArray, .agg cs'.toArray] w fun e w' => e = .returned (.bool (same t t')) ∧ Below w.heap.size w w' := by
  induction t using SX.ind with
  | H l h hi da ks ih =>
    intro t' w S S' cs cs' hs hs'
    obtain ⟨_, _, _, _, _, A1, n1, c1, A2, n2, c2, A3, n3, c3, e, rfl⟩ := hs.form_
    cases e
    obtain ⟨l', h', hi', da', ks', A1', n1', c1', A2', n2', c2', A3', n3', c3', e, rfl⟩ := hs'.form_
    subst e
    have HS := Lib.hid hs
    have HS' := Lib.hid hs'
    have IH := Lib.hid ih
    have hM : Hid (same (.mk l h hi da ks) (.mk l' h' hi' da' ks') = (l == l' && h == h' && hi == hi' && da == da' && sameL ks ks')) := by show _ = _; rw [same]
    have hb0 := (below_new w (.cells #[Value.bool l, Value.bool h, Value.slice A1 n1 c1, Value.slice A2 n2 c2, Value.slice A3 n3 c3] 25)).trans ((below_new (w.alloc (.cells #[Value.bool l, Value.bool h, Value.slice A1 n1 c1, Value.slice A2 n2 c2, Value.slice A3 n3 c3] 25)) (.cells #[Value.bool l', Value.bool h', Value.slice A1' n1' c1', Value.slice A2' n2' c2', Value.slice A3' n3' c3'] 25)).mono (by simp))
    obtain ⟨_, _, r1, r2, g1, g2, hk, b11, b12, b21, b22, b31, b32⟩ := (hs.old hb0).inv
    obtain ⟨_, _, r1', r2', g1', g2', hk', b11', b12', b21', b22', b31', b32'⟩ := (hs'.old hb0).inv
    have k1 := run_back (r1.reads (by omega)) (c := c1)
    have k2 := run_back (r2.reads (by omega)) (c := c2)
    have k1' := run_back (r1'.reads (by omega)) (c := c1')
    have k2' := run_back (r2'.reads (by omega)) (c := c2')
    have HK := Lib.hid hk
    have HK' := Lib.hid hk'
    clear hs hs' ih r1 r2 r1' r2' g1 g2 g1' g2' hk hk'
    by_cases q1 : ¬ l = l'
    · have HQ := Lib.hid q1
      have q1' : (l != l') = true := by simpa using q1
      clear q1
      go_enter Tryd.func16, Tryd.ntmps16
      go_wp2_with fail
      go_ret
      exact ⟨ret_bool (by rw [hM.out]; simp [HQ.out]), hb0⟩
    have q1 : l = l' := Classical.not_not.1 q1
    subst q1
    by_cases q2 : ¬ h = h'
    · have HQ := Lib.hid q2
      have q2' : (h != h') = true := by simpa using q2
      clear q2
      go_enter Tryd.func16, Tryd.ntmps16
      go_wp2_with fail
      go_ret
      exact ⟨ret_bool (by rw [hM.out]; simp [HQ.out]), hb0⟩
    have q2 : h = h' := Classical.not_not.1 q2
    subst q2
    by_cases q3 : ¬ hi = hi'
    · have HQ := Lib.hid q3
      go_enter Tryd.func16, Tryd.ntmps16
      go_wp2_with fail
      go_ret
      exact ⟨ret_bool (by rw [hM.out]; simp [HQ.out]), hb0⟩
    have q3 : hi = hi' := Classical.not_not.1 q3
    subst q3
    by_cases q4 : ¬ da = da'
    · have HQ := Lib.hid q4
      go_enter Tryd.func16, Tryd.ntmps16
      go_wp2_with fail
      go_ret
      exact ⟨ret_bool (by rw [hM.out]; simp [HQ.out]), hb0⟩
    have q4 : da = da' := Classical.not_not.1 q4
    subst q4
    by_cases q5 : ¬ n3 = n3'
    · have HQ := Lib.hid (sameL_len ks ks' (by rw [HK.out, HK'.out]; exact q5))
      have q5' : ((n3 : Int) != (n3' : Int)) = true := by rw [bne_iff_ne]; omega
      clear q5
      go_enter Tryd.func16, Tryd.ntmps16
      go_wp2_with fail
      go_ret
      exact ⟨ret_bool (by rw [hM.out]; simp [HQ.out]), hb0⟩
    have q5 : n3 = n3' := Classical.not_not.1 q5
    subst q5
    have hM' : Hid (same (.mk l h hi da ks) (.mk l h hi da ks') = sameL ks ks') := by show _ = _; rw [hM.out]; simp
    have HX1 := Lib.hid (below_at (below_new (w.alloc (Obj.cells #[Value.bool l, Value.bool h, Value.slice A1 n1 c1, Value.slice A2 n2 c2, Value.slice A3 n3 c3] 25 (0, 0))) (Obj.cells #[Value.bool l, Value.bool h, Value.slice A1' n1' c1', Value.slice A2' n2' c2', Value.slice A3' n3 c3'] 25 (0, 0))) (heap_alloc_new w (Obj.cells #[Value.bool l, Value.bool h, Value.slice A1 n1 c1, Value.slice A2 n2 c2, Value.slice A3 n3 c3] 25 (0, 0))))
    have HX2 := Lib.hid (heap_alloc_new (w.alloc (Obj.cells #[Value.bool l, Value.bool h, Value.slice A1 n1 c1, Value.slice A2 n2 c2, Value.slice A3 n3 c3] 25 (0, 0))) (Obj.cells #[Value.bool l, Value.bool h, Value.slice A1' n1' c1', Value.slice A2' n2' c2', Value.slice A3' n3 c3'] 25 (0, 0)))
    have hsz0 : (w.alloc (Obj.cells #[Value.bool l, Value.bool h, Value.slice A1 n1 c1, Value.slice A2 n2 c2, Value.slice A3 n3 c3] 25 (0, 0))).heap.size = w.heap.size + 1 := by simp
    rw [hsz0] at HX2
    clear hsz0
    clear hM
    go_enter Tryd.func16, Tryd.ntmps16
    go_wp2_with fail
    go_loopw [48] (fun i wr => ∃ k : Nat, k ≤ n3 ∧ i = .int .i64 k ∧ Hid (sameL (ks.take k) (ks'.take k) = true) ∧ Below w.heap.size w wr ∧ Hid (wr.heap[w.heap.size]? = some (Obj.cells #[Value.bool l, Value.bool h, Value.slice A1 n1 c1, Value.slice A2 n2 c2, Value.slice A3 n3 c3] 25 (0, 0))) ∧ Hid (wr.heap[w.heap.size + 1]? = some (Obj.cells #[Value.bool l, Value.bool h, Value.slice A1' n1' c1', Value.slice A2' n2' c2', Value.slice A3' n3 c3'] 25 (0, 0)))) (fun i _ => n3 - (intOf i).toNat)
    case atStart => exact ⟨0, Nat.zero_le _, rfl, rfl, hb0, HX1.out, HX2.out⟩
    case round =>
      obtain ⟨k, hkn, rfl, hcl, hbel, hB1, hB2⟩ := hrel
      clear hb0 HX1 HX2 k1 k2 k1' k2'
      by_cases hlt : k < n3
      · obtain ⟨ad, v0, v1, v2, v3, v4, t, rfl, hS, hks, hm, hin, d0, d1, d2, d3, d4⟩ := (HS.out.old hbel).kid hlt
        obtain ⟨ad', v0', v1', v2', v3', v4', t', rfl, hS', hks', hm', hin', d0', d1', d2', d3', d4'⟩ := (HS'.out.old hbel).kid hlt
        have e4 := (box5b hB1.out).2.2.2.2
        have e4' := (box5b hB2.out).2.2.2.2
        have hlt' : (k : Int) < n3 := by omega
        have hdr : Below wr.heap.size wr wr.drew := (Below.refl _ _).drew
        have hdin := hin.old hdr
        have hdin' := hin'.old hdr
        have hbd := hbel.trans (hdr.mono hbel.size)
        have HBd1 := Lib.hid (below_at hdr hB1.out)
        have HBd2 := Lib.hid (below_at hdr hB2.out)
        have HM := Lib.hid hm
        have HT := Lib.hid (sameL_take ks ks' k t t' hks hks')
        have HBad := Lib.hid (sameL_bad ks ks' k t t' hks hks')
        clear hks hks' hm hm' hin hin'
        go_wp2_with fail
        go_still_tail 10, (by kernel_rfl)
        change wpList _ _ _ _ _ wr.drew
        clear d0 d1 d2 d3 d4 d0' d1' d2' d3' d4' e4 e4' hdr hbel hB1 hB2
        generalize wr.drew = wd at *
        by_cases hct : same t t' = true
        · have hct' := Lib.hid hct
          have ihh := IH.out t HM.out t'
          rw [hct] at ihh
          clear hct
          go_wp2_with ((with_reducible refine (ihh _ S S' _ _ hdin hdin').mono ?_); rintro e w2 ⟨rfl, hb2⟩)
          go_roundw
          case rel => exact ⟨k + 1, by omega, by go_num, (show _ = _ by rw [HT.out, hcl.out, hct'.out]; rfl), hbd.trans (hb2.mono hbd.size), below_at hb2 HBd1.out, below_at hb2 HBd2.out⟩
          case measure => simp [intOf]; omega
        · have hct : same t t' = false := by simpa using hct
          have hct' := Lib.hid hct
          have ihh := IH.out t HM.out t'
          rw [hct] at ihh
          clear hct
          go_wp2_with ((with_reducible refine (ihh _ S S' _ _ hdin hdin').mono ?_); rintro e w2 ⟨rfl, hb2⟩)
          go_ret
          exact ⟨ret_bool (by rw [hM'.out, HBad.out hct'.out]), hbd.trans (hb2.mono hbd.size)⟩
      · obtain rfl : k = n3 := by omega
        have hall : Hid (sameL ks ks' = true) := by
          have h := hcl.out
          rw [List.take_of_length_le (by rw [HK.out]; exact Nat.le_refl _), List.take_of_length_le (by rw [HK'.out]; exact Nat.le_refl _)] at h
          exact h
        go_wp2_with fail
        go_ret
        exact ⟨ret_bool (by rw [hM'.out, hall.out]), hbel⟩
end Go.Proofs.YtaenahilnnlbfaaDoor
