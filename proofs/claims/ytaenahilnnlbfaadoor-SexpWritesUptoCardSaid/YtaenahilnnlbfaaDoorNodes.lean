/-
  The contracts of the document's answers nodes, deep, clean and Great (package greffierref02): how many atoms and lists a tree has, how deep it is. Conditions: none.
-/
import Derived.Test.YtaenahilnnlbfaaDoorSxIn
import Derived.Test.YtaenahilnnlbfaaDoorStr
import Derived.Test.YtaenahilnnlbfaaDoorRows
import Derived.Lib.Hide
set_option linter.unusedVariables false
namespace Go.Proofs.YtaenahilnnlbfaaDoor
open Go Go.Proofs Go.RowKit Sx

theorem wrap_add (a b : Int) : wrap64 (wrap64 a + wrap64 b) = wrap64 (a + b) := by
  unfold wrap64; omega

theorem below_new (w : World) (o : Obj) : Below w.heap.size w (w.alloc o) := (Below.refl _ _).alloc (Nat.le_refl _) _
theorem below_box {w wr : World} {o : Obj} (h : Below (w.heap.size + 1) (w.alloc o) wr) : Below w.heap.size w wr := (below_new w o).trans (h.mono (by omega))
theorem ret_i64 {a b : Int} (h : a = b) : Ending.returned (.int .i64 a) = .returned (.int .i64 b) := by rw [h]
theorem val_i64 {a b : Int} (h : a = b) : Value.int .i64 a = .int .i64 b := by rw [h]

set_option maxHeartbeats 1000000 in
set_option maxRecDepth 100000 in
theorem nodes_any (t : SX) : ∀ (w : World) (S : Nat → Prop) (cs : List Value), SIn w S t cs →
    Calls Tryd.prog 21 #[.agg cs.toArray] w fun e w' => e = .returned (.int .i64 (wrap64 (nodes t))) ∧ Below w.heap.size w w' := by
  induction t using SX.ind with
  | H l h hi da ks ih =>
    intro w S cs hs
    obtain ⟨_, _, _, _, _, A1, n1, c1, A2, n2, c2, A3, n3, c3, e, rfl⟩ := hs.form_
    cases e
    obtain ⟨_, _, _, _, _, _, hk, _, _, _, _, b31, b32⟩ := hs.inv
    have HK := Lib.hid hk
    have HS := Lib.hid hs
    have IH := Lib.hid ih
    clear hk hs ih
    go_enter Tryd.func21, Tryd.ntmps21
    go_wp2_with fail
    go_loopw [3, 8] (fun v i wr => ∃ k : Nat, k ≤ n3 ∧ i = .int .i64 k ∧ v = .int .i64 (wrap64 (1 + nodesL (ks.take k))) ∧ Below (w.heap.size + 1) (w.alloc (Obj.cells #[Value.bool l, Value.bool h, Value.slice A1 n1 c1, Value.slice A2 n2 c2, Value.slice A3 n3 c3] 25)) wr) (fun _ i _ => n3 - (intOf i).toNat)
    case atStart => exact ⟨0, Nat.zero_le _, rfl, by simp [nodesL, wrap64], Below.refl _ _⟩
    case round =>
      obtain ⟨k, hkn, rfl, rfl, hbel⟩ := hrel
      have hbw := below_box hbel
      by_cases hlt : k < n3
      · obtain ⟨ad, v0, v1, v2, v3, v4, t, rfl, hS, hks, hm, hin, d0, d1, d2, d3, d4⟩ := (HS.out.old hbw).kid hlt
        obtain ⟨e0, e1, e2, e3, e4⟩ := box5 hbel
        have HT := Lib.hid (nodesL_take ks k t hks)
        have HM := Lib.hid hm
        have hsz := hbel.size
        have hsz : w.heap.size + 1 ≤ wr.heap.size := by simpa using hsz
        clear hks hm e0 e1 e2 e3
        go_wp2_with ((with_reducible refine (IH.out t HM.out _ S _ hin).mono ?_); rintro e w2 ⟨rfl, hb2⟩)
        go_roundw
        case rel => exact ⟨k + 1, by omega, by go_num, val_i64 (by rw [HT.out, wrap_add]; congr 1; omega), hbel.trans (hb2.mono hsz)⟩
        case measure => simp [intOf]; omega
      · obtain rfl : k = n3 := by omega
        go_wp2_with fail
        go_ret
        exact ⟨ret_i64 (by rw [List.take_of_length_le (by rw [HK.out]; exact Nat.le_refl _), nodes]; rfl), hbw⟩

theorem well_ways (l h : Bool) (hi da : List UInt8) (ks : List SX) :
    (well l h hi da ks = false ∧ l = true ∧ h = true) ∨ (well l h hi da ks = false ∧ l = true ∧ h = false ∧ 0 < hi.length) ∨ (well l h hi da ks = false ∧ l = true ∧ h = false ∧ hi.length = 0 ∧ 0 < da.length) ∨
    (well l h hi da ks = false ∧ l = false ∧ 0 < ks.length) ∨ (well l h hi da ks = false ∧ l = false ∧ ks.length = 0 ∧ h = false ∧ 0 < hi.length) ∨
    (well l h hi da ks = true ∧ l = true ∧ h = false ∧ hi.length = 0 ∧ da.length = 0) ∨ (well l h hi da ks = true ∧ l = false ∧ ks.length = 0 ∧ h = true) ∨ (well l h hi da ks = true ∧ l = false ∧ ks.length = 0 ∧ h = false ∧ hi.length = 0) := by
  cases l <;> cases h <;> cases hi <;> cases da <;> cases ks <;> simp [well]
theorem cleanL_take (l : List SX) (k : Nat) (x : SX) (h : l[k]? = some x) : cleanL (l.take (k + 1)) = (cleanL (l.take k) && clean x) := by rw [take_snoc l k x h, cleanL_snoc]
theorem cleanL_bad (l : List SX) (k : Nat) (x : SX) (h : l[k]? = some x) (hc : clean x = false) : cleanL l = false := by
  have e : l = l.take (k + 1) ++ l.drop (k + 1) := (List.take_append_drop _ _).symm
  rw [e, cleanL_append, cleanL_take l k x h, hc]; simp

set_option maxHeartbeats 1000000 in
set_option maxRecDepth 100000 in
theorem clean_any (t : SX) : ∀ (w : World) (S : Nat → Prop) (cs : List Value), SIn w S t cs →
    Calls Tryd.prog 24 #[.agg cs.toArray] w fun e w' => e = .returned (.bool (clean t)) ∧ Below w.heap.size w w' := by
  induction t using SX.ind with
  | H l h hi da ks ih =>
    intro w S cs hs
    obtain ⟨_, _, _, _, _, A1, n1, c1, A2, n2, c2, A3, n3, c3, e, rfl⟩ := hs.form_
    cases e
    obtain ⟨_, _, _, _, g1, g2, g3, b11, b12, b21, b22, b31, b32⟩ := hs.inv
    have HK := Lib.hid g3
    have HS := Lib.hid hs
    have IH := Lib.hid ih
    have hw := well_ways l h hi da ks
    rw [g1, g2, g3] at hw
    have hc : Hid (clean (.mk l h hi da ks) = (well l h hi da ks && cleanL ks)) := by show _ = _; rw [clean]
    clear g1 g2 g3 hs ih
    rcases hw with ⟨hw, rfl, rfl⟩ | ⟨hw, rfl, rfl, hn⟩ | ⟨hw, rfl, rfl, rfl, hn⟩ | ⟨hw, rfl, hn⟩ | ⟨hw, rfl, rfl, rfl, hn⟩ | hw
    iterate 5
      rw [hw] at hc
      clear hw
      go_enter Tryd.func24, Tryd.ntmps24
      go_wp2_with fail
      go_ret
      exact ⟨by rw [hc.out]; rfl, below_new _ _⟩
    · obtain ⟨hw, hg⟩ : well l h hi da ks = true ∧ ((l = true ∧ h = false ∧ n1 = 0 ∧ n2 = 0) ∨ (l = false ∧ n3 = 0 ∧ h = true) ∨ (l = false ∧ n3 = 0 ∧ h = false ∧ n1 = 0)) := by
        rcases hw with ⟨hw, hg⟩ | ⟨hw, hg⟩ | ⟨hw, hg⟩
        · exact ⟨hw, .inl hg⟩
        · exact ⟨hw, .inr (.inl hg)⟩
        · exact ⟨hw, .inr (.inr hg)⟩
      rw [hw] at hc
      clear hw
      rcases hg with ⟨rfl, rfl, rfl, rfl⟩ | ⟨rfl, rfl, rfl⟩ | ⟨rfl, rfl, rfl, rfl⟩
      · go_enter Tryd.func24, Tryd.ntmps24
        go_wp2_with fail
        go_loopw [47] (fun i wr => ∃ k : Nat, k ≤ n3 ∧ i = .int .i64 k ∧ Hid (cleanL (ks.take k) = true) ∧ Below (w.heap.size + 1) (w.alloc (Obj.cells #[Value.bool true, Value.bool false, Value.slice A1 0 c1, Value.slice A2 0 c2, Value.slice A3 n3 c3] 25)) wr) (fun i _ => n3 - (intOf i).toNat)
        case atStart => exact ⟨0, Nat.zero_le _, rfl, rfl, Below.refl _ _⟩
        case round =>
          obtain ⟨k, hkn, rfl, hcl, hbel⟩ := hrel
          have hbw := below_box hbel
          by_cases hlt : k < n3
          · obtain ⟨ad, v0, v1, v2, v3, v4, t, rfl, hS, hks, hm, hin, d0, d1, d2, d3, d4⟩ := (HS.out.old hbw).kid hlt
            obtain ⟨e0, e1, e2, e3, e4⟩ := box5 hbel
            have HT := Lib.hid (cleanL_take ks k t hks)
            have HB := Lib.hid (cleanL_bad ks k t hks)
            have HM := Lib.hid hm
            have hsz := hbel.size
            have hsz : w.heap.size + 1 ≤ wr.heap.size := by simpa using hsz
            clear hks hm e0 e1 e2 e3
            by_cases hct : clean t = true
            · have hct' := Lib.hid hct
              have ihh := IH.out t HM.out
              rw [hct] at ihh
              clear hct
              go_wp2_with ((with_reducible refine (ihh _ S _ hin).mono ?_); rintro e w2 ⟨rfl, hb2⟩)
              go_roundw
              case rel => exact ⟨k + 1, by omega, by go_num, (show _ = _ by rw [HT.out, hcl.out, hct'.out]; rfl), hbel.trans (hb2.mono hsz)⟩
              case measure => simp [intOf]; omega
            · have hct : clean t = false := by simpa using hct
              have hct' := Lib.hid hct
              have ihh := IH.out t HM.out
              rw [hct] at ihh
              clear hct
              go_wp2_with ((with_reducible refine (ihh _ S _ hin).mono ?_); rintro e w2 ⟨rfl, hb2⟩)
              go_ret
              exact ⟨by rw [hc.out, HB.out hct'.out]; rfl, hbw.trans (hb2.mono (by omega))⟩
          · obtain rfl : k = n3 := by omega
            have hall : Hid (cleanL ks = true) := by
              have h := hcl.out
              rw [List.take_of_length_le (by rw [HK.out]; exact Nat.le_refl _)] at h
              exact h
            go_wp2_with fail
            go_ret
            exact ⟨by rw [hc.out, hall.out]; rfl, hbw⟩
      all_goals
        have hnil : Hid (ks = []) := List.eq_nil_of_length_eq_zero HK.out
        go_enter Tryd.func24, Tryd.ntmps24
        go_wp2_with fail
        go_loopw [47] (fun i wr => i = .int .i64 0 ∧ wr = w.alloc (Obj.cells _ _)) (fun i _ => 0)
        case atStart => exact ⟨rfl, rfl⟩
        case round =>
          obtain ⟨rfl, rfl⟩ := hrel
          go_wp2_with fail
          go_ret
          exact ⟨by rw [hc.out, hnil.out]; rfl, below_new _ _⟩
end Go.Proofs.YtaenahilnnlbfaaDoor
