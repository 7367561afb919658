/-
  The contracts of the document's answers deep and Great (package greffierref02): how deep a tree is; whether it is more than is gone through. Conditions: for deep, that it is below 2^62.
-/
import Derived.Test.YtaenahilnnlbfaaDoorNodes
set_option linter.unusedVariables false
namespace Go.Proofs.YtaenahilnnlbfaaDoor
open Go Go.Proofs Go.RowKit Sx

theorem deepL_take (l : List SX) (k : Nat) (x : SX) (h : l[k]? = some x) : deepL (l.take (k + 1)) = max (deepL (l.take k)) (deep x) := by rw [take_snoc l k x h, deepL_snoc]
theorem deepL_le (l : List SX) (x : SX) (h : x ∈ l) : deep x ≤ deepL l := by
  induction l with
  | nil => cases h
  | cons a r ih =>
    rw [deepL]
    rcases List.mem_cons.1 h with e | h
    · rw [e]; omega
    · have := ih h; omega
theorem deepL_take_le (l : List SX) (k : Nat) : deepL (l.take k) ≤ deepL l := by
  have e := deepL_append (l.take k) (l.drop k)
  rw [List.take_append_drop] at e
  omega

set_option maxHeartbeats 1000000 in
set_option maxRecDepth 100000 in
theorem deep_any (t : SX) : ∀ (w : World) (S : Nat → Prop) (cs : List Value), SIn w S t cs → deep t ≤ 4611686018427387904 →
    Calls Tryd.prog 25 #[.agg cs.toArray] w fun e w' => e = .returned (.int .i64 (deep t)) ∧ Below w.heap.size w w' := by
  induction t using SX.ind with
  | H l h hi da ks ih =>
    intro w S cs hs hd
    obtain ⟨_, _, _, _, _, A1, n1, c1, A2, n2, c2, A3, n3, c3, e, rfl⟩ := hs.form_
    cases e
    obtain ⟨_, _, _, _, _, _, hk, _, _, _, _, b31, b32⟩ := hs.inv
    have HK := Lib.hid hk
    have HS := Lib.hid hs
    have IH := Lib.hid ih
    clear hk hs ih
    cases l with
    | false =>
      go_enter Tryd.func25, Tryd.ntmps25
      go_wp2_with fail
      go_ret
      exact ⟨by rw [deep]; rfl, below_new _ _⟩
    | true =>
    have hd' : deepL ks + 1 ≤ 4611686018427387904 := by rw [deep] at hd; simpa using hd
    have HD : Hid (deep (.mk true h hi da ks) = deepL ks + 1) := by show _ = _; rw [deep]; rfl
    clear hd
    go_enter Tryd.func25, Tryd.ntmps25
    go_wp2_with fail
    go_loopw [3, 11] (fun v i wr => ∃ k : Nat, k ≤ n3 ∧ i = .int .i64 k ∧ v = .int .i64 (deepL (ks.take k)) ∧ Below (w.heap.size + 1) (w.alloc (Obj.cells #[Value.bool true, Value.bool h, Value.slice A1 n1 c1, Value.slice A2 n2 c2, Value.slice A3 n3 c3] 25)) wr) (fun _ i _ => n3 - (intOf i).toNat)
    case atStart => exact ⟨0, Nat.zero_le _, rfl, by simp [deepL], Below.refl _ _⟩
    case round =>
      obtain ⟨k, hkn, rfl, rfl, hbel⟩ := hrel
      have hbw := below_box hbel
      by_cases hlt : k < n3
      · obtain ⟨ad, v0, v1, v2, v3, v4, t, rfl, hS, hks, hm, hin, d0, d1, d2, d3, d4⟩ := (HS.out.old hbw).kid hlt
        obtain ⟨e0, e1, e2, e3, e4⟩ := box5 hbel
        have HT := Lib.hid (deepL_take ks k t hks)
        have hdt := deepL_le ks t hm
        have hdk := deepL_take_le ks k
        have HM := Lib.hid hm
        have hsz := hbel.size
        have hsz : w.heap.size + 1 ≤ wr.heap.size := by simpa using hsz
        clear hks hm e0 e1 e2 e3
        go_wp2_with ((with_reducible refine (IH.out t HM.out _ S _ hin (by omega)).mono ?_); rintro e w2 ⟨rfl, hb2⟩)
        go_roundw
        case rel => exact ⟨k + 1, by omega, by go_num, val_i64 (by rw [HT.out]; omega), hbel.trans (hb2.mono hsz)⟩
        case measure => simp [intOf]; omega
      · obtain rfl : k = n3 := by omega
        have hall : Hid (ks.take k = ks) := List.take_of_length_le (by rw [HK.out]; exact Nat.le_refl _)
        rw [hall.out]
        go_wp2_with fail
        go_ret
        exact ⟨ret_i64 (by rw [HD.out]; rfl), hbw⟩

def SomeBool (w : World) (e : Ending) (w' : World) : Prop := ∃ b : Bool, e = .returned (.bool b) ∧ Below w.heap.size w w'

set_option maxHeartbeats 2000000 in
set_option maxRecDepth 100000 in
theorem great_any (t : SX) : ∀ (w : World) (S : Nat → Prop) (cs : List Value) (a : Int), SIn w S t cs → 0 ≤ a → a ≤ 61 →
    Calls Tryd.prog 9 #[.agg cs.toArray, .int .i64 a] w (SomeBool w) := by
  induction t using SX.ind with
  | H l h hi da ks ih =>
    intro w S cs a hs ha0 ha1
    obtain ⟨_, _, _, _, _, A1, n1, c1, A2, n2, c2, A3, n3, c3, e, rfl⟩ := hs.form_
    cases e
    obtain ⟨_, _, _, _, _, _, hk, b11, b12, b21, b22, b31, b32⟩ := hs.inv
    have HK := Lib.hid hk
    have HS := Lib.hid hs
    have IH := Lib.hid ih
    clear hk hs ih
    by_cases g1 : 60 < a
    · go_enter Tryd.func9, Tryd.ntmps9
      go_wp2_with fail
      go_ret
      exact ⟨_, rfl, below_new _ _⟩
    by_cases g2 : 700 < n3
    · go_enter Tryd.func9, Tryd.ntmps9
      go_wp2_with fail
      go_ret
      exact ⟨_, rfl, below_new _ _⟩
    by_cases g3 : 5000 < n1
    · go_enter Tryd.func9, Tryd.ntmps9
      go_wp2_with fail
      go_ret
      exact ⟨_, rfl, below_new _ _⟩
    by_cases g4 : 5000 < n2
    · go_enter Tryd.func9, Tryd.ntmps9
      go_wp2_with fail
      go_ret
      exact ⟨_, rfl, below_new _ _⟩
    go_enter Tryd.func9, Tryd.ntmps9
    go_wp2_with fail
    go_loopw [29] (fun i wr => ∃ k : Nat, k ≤ n3 ∧ i = .int .i64 k ∧ Below (w.heap.size + 1) (w.alloc (Obj.cells #[Value.bool l, Value.bool h, Value.slice A1 n1 c1, Value.slice A2 n2 c2, Value.slice A3 n3 c3] 25)) wr) (fun i _ => n3 - (intOf i).toNat)
    case atStart => exact ⟨0, Nat.zero_le _, rfl, Below.refl _ _⟩
    case round =>
      obtain ⟨k, hkn, rfl, hbel⟩ := hrel
      have hbw := below_box hbel
      obtain ⟨e0, e1, e2, e3, e4⟩ := box5 hbel
      have hsz : w.heap.size + 1 ≤ wr.heap.size := by have := hbel.size; simpa using this
      by_cases hlt : k < n3
      · obtain ⟨ad, v0, v1, v2, v3, v4, t, rfl, hS, hks, hm, hin, d0, d1, d2, d3, d4⟩ := (HS.out.old hbw).kid hlt
        have HM := Lib.hid hm
        clear hks hm e0 e1 e2 e3
        go_wp2_with ((with_reducible refine (IH.out t HM.out _ S _ (a + 1) hin (by omega) (by omega)).mono ?_); rintro e w2 ⟨b, rfl, hb2⟩; rcases b with _ | _)
        · go_roundw
          case rel => exact ⟨k + 1, by omega, by go_num, hbel.trans (hb2.mono (by omega))⟩
          case measure => simp [intOf]; omega
        · go_ret
          exact ⟨_, rfl, hbw.trans (hb2.mono (by omega))⟩
      · obtain rfl : k = n3 := by omega
        have hin := HS.out.old hbw
        by_cases ha : a = 0
        · subst ha
          go_wp2_with ((with_reducible refine (nodes_any _ _ S _ hin).mono ?_); rintro e w2 ⟨rfl, hb2⟩)
          go_ret
          exact ⟨_, rfl, hbw.trans (hb2.mono (by omega))⟩
        · have ha' : 0 < a := by omega
          have ha2 : (a == 0) = false := by rw [beq_eq_false_iff_ne]; exact ha
          go_wp2_with fail
          go_ret
          exact ⟨_, rfl, hbw⟩
end Go.Proofs.YtaenahilnnlbfaaDoor
