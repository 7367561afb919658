/-
  The contracts of sexp's wellMade, stringSize, ownSize, (*room).take, (*room).holds and May: whether a value may be. Conditions: the library's table of powers of ten holds what its text lays.
-/
import Derived.Test.YtaenahilnnlbfaaDoorPutLen
import Derived.Test.YtaenahilnnlbfaaDoorClone
import Derived.Test.YtaenahilnnlbfaaDoorRefMay
set_option linter.unusedVariables false
namespace Go.Proofs.YtaenahilnnlbfaaDoor
open Go Go.Proofs Go.RowKit Sx

theorem stringSize_any (A : Option Addr) (n c : Nat) (l : List UInt8) (w : World) (hl : l.length = n) (hn : n ≤ 140737488355328) (ht : Tab w) :
    Calls Tryd.prog 44 #[.slice A n c] w fun e w' => e = .returned (.int .i64 ((text l).length : Nat)) ∧ Below w.heap.size w w' := by
  have hd : (Lib.decDigits n).length ≤ 20 := Oct.dec_length 19 n (by omega)
  have HT : Hid (((text l).length : Int) = (Lib.decDigits n).length + 1 + n) := by show _ = _; rw [text_length, hl]; simp
  have HP := Lib.hid (putLen_any (n : Int) w (by omega) (by omega) ht)
  have e : ((n : Int).toNat) = n := by omega
  rw [e] at HP
  rw [HT.out]
  clear ht e
  generalize Lib.decDigits n = D at *
  have hsz : (⟨D.toArray⟩ : ByteArray).size = D.length := by show D.toArray.size = _; simp
  go_enter Tryd.func44, Tryd.ntmps44
  go_wp2_with ((with_reducible refine HP.out.mono ?_); rintro e w1 ⟨rfl, hb1⟩)
  go_ret
  exact ⟨ret_i64 (by omega), hb1⟩

set_option maxHeartbeats 1000000 in
set_option maxRecDepth 100000 in
theorem wellMade_any (t : SX) (l h : Bool) (hi da : List UInt8) (ks : List SX) (w : World) (S : Nat → Prop) (cs : List Value) (hs : SIn w S (.mk l h hi da ks) cs) :
    Calls Tryd.prog 36 #[.agg cs.toArray] w fun e w' => e = .returned (.bool (well l h hi da ks)) ∧ Below w.heap.size w w' := by
  obtain ⟨_, _, _, _, _, A1, n1, c1, A2, n2, c2, A3, n3, c3, e, rfl⟩ := hs.form_
  cases e
  obtain ⟨_, _, _, _, g1, g2, g3, b11, b12, b21, b22, b31, b32⟩ := hs.inv
  have hw := well_ways l h hi da ks
  rw [g1, g2, g3] at hw
  clear hs g1 g2 g3
  rcases hw with ⟨hw, rfl, rfl⟩ | ⟨hw, rfl, rfl, hn⟩ | ⟨hw, rfl, rfl, rfl, hn⟩ | ⟨hw, rfl, hn⟩ | ⟨hw, rfl, rfl, rfl, hn⟩ | ⟨hw, rfl, rfl, rfl, rfl⟩ | ⟨hw, rfl, rfl, rfl⟩ | ⟨hw, rfl, rfl, rfl, rfl⟩
  all_goals
    rw [hw]
    clear hw
    try have hnb1 : ((n1 : Int) == 0) = false := by rw [beq_eq_false_iff_ne]; omega
    try have hnb2 : ((n2 : Int) == 0) = false := by rw [beq_eq_false_iff_ne]; omega
    try have hnb3 : ((n3 : Int) == 0) = false := by rw [beq_eq_false_iff_ne]; omega
    go_enter Tryd.func36, Tryd.ntmps36
    go_wp2_with fail
    go_ret
    exact ⟨rfl, below_new _ _⟩

set_option maxHeartbeats 1000000 in
set_option maxRecDepth 100000 in
theorem ownSize_any (l h : Bool) (hi da : List UInt8) (ks : List SX) (w : World) (S : Nat → Prop) (cs : List Value) (hs : SIn w S (.mk l h hi da ks) cs) (ht : Tab w) :
    Calls Tryd.prog 38 #[.agg cs.toArray] w fun e w' => e = .returned (.int .i64 (own l h hi da : Nat)) ∧ Below w.heap.size w w' := by
  obtain ⟨_, _, _, _, _, A1, n1, c1, A2, n2, c2, A3, n3, c3, e, rfl⟩ := hs.form_
  cases e
  obtain ⟨_, _, _, _, g1, g2, g3, b11, b12, b21, b22, b31, b32⟩ := hs.inv
  have ht' := ht.old (below_new w (.cells #[Value.bool l, Value.bool h, Value.slice A1 n1 c1, Value.slice A2 n2 c2, Value.slice A3 n3 c3] 25))
  have hb0 := below_new w (.cells #[Value.bool l, Value.bool h, Value.slice A1 n1 c1, Value.slice A2 n2 c2, Value.slice A3 n3 c3] 25)
  have HX := Lib.hid (heap_alloc_new w (.cells #[Value.bool l, Value.bool h, Value.slice A1 n1 c1, Value.slice A2 n2 c2, Value.slice A3 n3 c3] 25))
  have C1 := Lib.hid (stringSize_any A2 n2 c2 da _ g2 b22 ht')
  have C2 := Lib.hid (fun W hb => stringSize_any A1 n1 c1 hi W g1 b12 (ht'.old hb))
  have hl1 : (text hi).length ≤ 140737488355328 + 21 := by rw [text_length, g1]; have := Oct.dec_length 19 n1 (by omega); omega
  have hl2 : (text da).length ≤ 140737488355328 + 21 := by rw [text_length, g2]; have := Oct.dec_length 19 n2 (by omega); omega
  have HO : Hid (own l h hi da = if l then 2 else (if h then 2 + (text hi).length else 0) + (text da).length) := rfl
  rw [HO.out]
  clear hs g1 g2 g3 ht ht' HO
  generalize (text hi).length = p at *
  generalize (text da).length = q at *
  cases l with
  | true =>
    go_enter Tryd.func38, Tryd.ntmps38
    go_wp2_with fail
    go_ret
    exact ⟨rfl, hb0⟩
  | false =>
    cases h with
    | true =>
      go_enter Tryd.func38, Tryd.ntmps38
      go_wp2_with (first
        | ((with_reducible refine C1.out.mono ?_); rintro e w2 ⟨rfl, hb2⟩; obtain ⟨e0, e1, e2, e3, e4⟩ := box5b (below_at hb2 HX.out))
        | ((with_reducible refine (C2.out _ hb2).mono ?_); rintro e w3 ⟨rfl, hb3⟩))
      go_ret
      exact ⟨ret_i64 (by omega), hb0.trans ((hb2.trans (hb3.mono hb2.size)).mono (by simp))⟩
    | false =>
      go_enter Tryd.func38, Tryd.ntmps38
      go_wp2_with ((with_reducible refine C1.out.mono ?_); rintro e w2 ⟨rfl, hb2⟩; obtain ⟨e0, e1, e2, e3, e4⟩ := box5b (below_at hb2 HX.out))
      go_ret
      exact ⟨ret_i64 (by omega), hb0.trans (hb2.mono (by simp))⟩

/-- What room there is. -/
def RoomAt (w : World) (r : Nat) (n b : Int) : Prop := w.heap[r]? = some (Obj.cells #[.int .i64 n, .int .i64 b] 47 (0, 0))
theorem RoomAt.all {w : World} {r : Nat} {n b : Int} (h : RoomAt w r n b) : w.cell? ⟨r, 0, none⟩ = some (.int .i64 n) ∧ w.cell? ⟨r, 1, none⟩ = some (.int .i64 b) ∧ w.frozen? ⟨r, 0, none⟩ = false ∧ w.frozen? ⟨r, 1, none⟩ = false := by
  refine ⟨?_, ?_, ?_, ?_⟩
  · rw [Lib.cell_of_heap h]; rfl
  · rw [Lib.cell_of_heap h]; rfl
  · unfold RoomAt at h; simp [World.frozen?, h]
  · unfold RoomAt at h; simp [World.frozen?, h]
theorem RoomAt.lt {w : World} {r : Nat} {n b : Int} (h : RoomAt w r n b) : r < w.heap.size := by
  rcases Nat.lt_or_ge r w.heap.size with h' | h'
  · exact h'
  · unfold RoomAt at h; rw [Array.getElem?_eq_none h'] at h; cases h
theorem RoomAt.old {w w' : World} {r : Nat} {n b : Int} (h : RoomAt w r n b) (hb : Below w.heap.size w w') : RoomAt w' r n b := below_at hb h
theorem grown_set (w : World) (r i : Nat) (x : Value) : w.grownBy (w.setCell ⟨r, i, none⟩ x) (some r) :=
  ⟨rfl, rfl, rfl, by simp, fun k _ hk => Below.heap_setCell w ⟨r, i, none⟩ x k (fun e => hk (by rw [e]))⟩
theorem grown_below {w w' : World} (h : Below w.heap.size w w') (row : Option Nat) : w.grownBy w' row := ⟨h.os, h.tape, h.output, h.size, fun k hk _ => h.block k hk⟩

def TakeEnd (w : World) (r : Nat) (n b s : Nat) (e : Ending) (w' : World) : Prop :=
  e = .returned (.bool (decide (1 ≤ n ∧ s ≤ b))) ∧ RoomAt w' r ((n : Int) - 1) ((b : Int) - s) ∧ w.grownBy w' (some r) ∧ w'.heap.size = w.heap.size

set_option maxHeartbeats 1000000 in
set_option maxRecDepth 100000 in
theorem take_any (r n b s : Nat) (w : World) (hr : RoomAt w r n b) (hn : n ≤ 512) (hb : b ≤ 4096) (hs : s ≤ 1125899906842624) :
    Calls Tryd.prog 37 #[.pointer (some ⟨r, 0, none⟩), .int .i64 s] w (TakeEnd w r n b s) := by
  obtain ⟨c0, c1, f0, f1⟩ := hr.all
  have h1 : RoomAt ((w.setCell ⟨r, 0, none⟩ (.int .i64 ((n : Int) - 1))).setCell ⟨r, 1, none⟩ (.int .i64 ((b : Int) - s))) r ((n : Int) - 1) ((b : Int) - s) :=
    Joins.block_setCell (Joins.block_setCell hr _) _
  have h2 := (grown_set w r 0 (.int .i64 ((n : Int) - 1))).trans (grown_set _ r 1 (.int .i64 ((b : Int) - s)))
  have h3 : ((w.setCell ⟨r, 0, none⟩ (.int .i64 ((n : Int) - 1))).setCell ⟨r, 1, none⟩ (.int .i64 ((b : Int) - s))).heap.size = w.heap.size := by simp
  have H := Lib.hid (And.intro h1 (And.intro h2 h3))
  clear h1 h2 h3 hr
  by_cases q1 : 1 ≤ n
  · go_enter Tryd.func37, Tryd.ntmps37
    go_wp2_with fail
    go_ret
    exact ⟨ret_bool (by rw [decide_eq_decide]; omega), H.out⟩
  · go_enter Tryd.func37, Tryd.ntmps37
    go_wp2_with fail
    go_ret
    exact ⟨ret_bool (by symm; rw [decide_eq_false_iff_not]; omega), H.out⟩

def HoldsEnd (w : World) (r : Nat) (t : SX) (n b a : Nat) (e : Ending) (w' : World) : Prop :=
  ∃ n' b' : Int, e = .returned (.bool (fits t n b a)) ∧ RoomAt w' r n' b' ∧ (fits t n b a = true → n' = (n : Int) - nodes t ∧ b' = (b : Int) - (form t).length) ∧ w.grownBy w' (some r)

set_option maxHeartbeats 4000000 in
set_option maxRecDepth 100000 in
theorem holds_any (t : SX) : ∀ (w : World) (S : Nat → Prop) (cs : List Value) (r n b a : Nat), SIn w S t cs → (∀ k, S k → k ≠ r) → RoomAt w r n b → n ≤ 512 → b ≤ 4096 → a ≤ 16 → Tab w → r ≠ 1 →
    Calls Tryd.prog 26 #[.pointer (some ⟨r, 0, none⟩), .agg cs.toArray, .int .i64 a] w (HoldsEnd w r t n b a) := by
  induction t using SX.ind with
  | H l h hi da ks ih =>
    intro w S cs r n b a hs hS hR hn hb ha ht hrG
    obtain ⟨_, _, _, _, _, A1, n1, c1, A2, n2, c2, A3, n3, c3, e, rfl⟩ := hs.form_
    cases e
    obtain ⟨_, _, _, _, g1, g2, g3, b11, b12, b21, b22, b31, b32⟩ := hs.inv
    have hso : own l h hi da ≤ 1125899906842624 := by
      have h1 : (text hi).length ≤ 140737488355328 + 21 := by rw [text_length, g1]; have := Oct.dec_length 19 n1 (by omega); omega
      have h2 : (text da).length ≤ 140737488355328 + 21 := by rw [text_length, g2]; have := Oct.dec_length 19 n2 (by omega); omega
      unfold own
      split
      · omega
      · split <;> omega
    have hs0 := hs
    have HT0 := Lib.hid ht
    have hb0 := below_new w (.cells #[Value.bool l, Value.bool h, Value.slice A1 n1 c1, Value.slice A2 n2 c2, Value.slice A3 n3 c3] 25)
    have hs1 := hs.old hb0
    have hR1 := hR.old hb0
    have hrl := hR.lt
    have ht1 := ht.old hb0
    have HX := Lib.hid (heap_alloc_new w (.cells #[Value.bool l, Value.bool h, Value.slice A1 n1 c1, Value.slice A2 n2 c2, Value.slice A3 n3 c3] 25))
    have hsz0 : (w.alloc (.cells #[Value.bool l, Value.bool h, Value.slice A1 n1 c1, Value.slice A2 n2 c2, Value.slice A3 n3 c3] 25)).heap.size = w.heap.size + 1 := by simp
    have C1 := Lib.hid (wellMade_any (.mk l h hi da ks) l h hi da ks _ S _ hs1)
    have C2 := Lib.hid (fun W hb => ownSize_any l h hi da ks W S _ (hs1.old hb) (ht1.old hb))
    have HF1 := fits_well (l := l) (h := h) (hi := hi) (da := da) (ks := ks) (n := n) (b := b) (a := a)
    have HF2 := fits_room (l := l) (h := h) (hi := hi) (da := da) (ks := ks) (n := n) (b := b) (a := a)
    have HF3 := fun hl : l = true => hl ▸ fits_deep (h := h) (hi := hi) (da := da) (ks := ks) (n := n) (b := b) (a := a)
    have HF4 := Lib.hid (fun k t hw hk n' b' => fits_kid (l := l) (h := h) (hi := hi) (da := da) (ks := ks) (n := n) (b := b) (a := a) (k := k) (t := t) hw hk (n' := n') (b' := b'))
    have HF5 := Lib.hid (fun hw n' b' => fits_all (l := l) (h := h) (hi := hi) (da := da) (ks := ks) (n := n) (b := b) (a := a) hw (n' := n') (b' := b'))
    have HFO := Lib.hid (form_own l h hi da ks)
    have hgw : w.grownBy (w.alloc (.cells #[Value.bool l, Value.bool h, Value.slice A1 n1 c1, Value.slice A2 n2 c2, Value.slice A3 n3 c3] 25)) (some r) := grown_below hb0 _
    clear hs hs1 hR ht hsz0
    generalize own l h hi da = s at *
    cases hw : well l h hi da ks with
    | false =>
      rw [hw] at C1
      have HFF := Lib.hid (HF1 hw)
      unfold HoldsEnd
      rw [HFF.out]
      clear HF1 HF2 HF3 hw
      go_enter Tryd.func26, Tryd.ntmps26
      go_wp2_with ((with_reducible refine C1.out.mono ?_); rintro e w2 ⟨rfl, hb2⟩)
      go_ret
      exact ⟨_, _, rfl, hR1.old hb2, fun h => by (cases h), hgw.trans (grown_below hb2 _)⟩
    | true =>
      have HW := Lib.hid hw
      rw [hw] at C1
      clear HF1 hw
      by_cases q1 : ¬ (1 ≤ n ∧ s ≤ b)
      · have HFF := Lib.hid (HF2 q1)
        have q1' : decide (1 ≤ n ∧ s ≤ b) = false := by rw [decide_eq_false_iff_not]; exact q1
        have HQ := Lib.hid q1'
        unfold HoldsEnd
        rw [HFF.out]
        clear HF2 HF3 q1 q1'
        go_enter Tryd.func26, Tryd.ntmps26
        go_wp2_with (first
          | ((with_reducible refine C1.out.mono ?_); rintro e w2 ⟨rfl, hb2⟩; obtain ⟨e0, e1, e2, e3, e4⟩ := box5b (below_at hb2 HX.out))
          | ((with_reducible refine (C2.out _ hb2).mono ?_); rintro e w3 ⟨rfl, hb3⟩; have hb4 := hb2.trans (hb3.mono hb2.size))
          | ((with_reducible refine (take_any r n b s _ (hR1.old hb4) hn hb hso).mono ?_); rintro e w4 ⟨rfl, hR4, hg4, hz4⟩; rw [HQ.out]))
        go_ret
        exact ⟨_, _, rfl, hR4, fun h => by (cases h), (hgw.trans (grown_below hb4 _)).trans hg4⟩
      · have q1 := Classical.not_not.1 q1
        have q1' : decide (1 ≤ n ∧ s ≤ b) = true := by rw [decide_eq_true_iff]; exact q1
        have HQ := Lib.hid q1'
        obtain ⟨nn, rfl⟩ : ∃ nn, n = nn + 1 := ⟨n - 1, by omega⟩
        obtain ⟨bb, rfl⟩ : ∃ bb, b = bb + s := ⟨b - s, by omega⟩
        clear HF2 q1 q1'
        by_cases q2 : l = true ∧ 16 ≤ a
        · obtain ⟨rfl, q2⟩ := q2
          have HFF := Lib.hid (HF3 rfl q2)
          unfold HoldsEnd
          rw [HFF.out]
          clear HF3
          have q2' : (16 : Int) ≤ a := by omega
          go_enter Tryd.func26, Tryd.ntmps26
          go_wp2_with (first
          | ((with_reducible refine C1.out.mono ?_); rintro e w2 ⟨rfl, hb2⟩; obtain ⟨e0, e1, e2, e3, e4⟩ := box5b (below_at hb2 HX.out))
          | ((with_reducible refine (C2.out _ hb2).mono ?_); rintro e w3 ⟨rfl, hb3⟩; have hb4 := hb2.trans (hb3.mono hb2.size)))
          refine (take_any r (nn + 1) (bb + s) s _ (hR1.old hb4) hn hb hso).mono ?_
          rintro e w4 ⟨rfl, hR4, hg4, hz4⟩
          rw [HQ.out]
          have HX4 := Lib.hid ((hg4.block w.heap.size (by have := hb4.size; simp at this; omega) (fun e => by injection e with e; omega)).trans (below_at hb4 HX.out))
          clear e0 e1 e2 e3 e4
          obtain ⟨e0, e1, e2, e3, e4⟩ := box5b HX4.out
          go_wp2_with fail
          go_ret
          exact ⟨_, _, rfl, hR4, fun h => by (cases h), (hgw.trans (grown_below hb4 _)).trans hg4⟩
        · clear HF3
          have hln : 0 < n3 → l = true ∧ a < 16 := by
            intro h0
            have hl : l = true := by
              cases l
              · have hw := HW.out
                have : ks.isEmpty = true := by simp [well] at hw; simpa using hw.1
                have hnil : ks = [] := by simpa using this
                rw [hnil] at g3
                simp at g3
                omega
              · rfl
            exact ⟨hl, by rcases Nat.lt_or_ge a 16 with h | h; exact h; exact absurd ⟨hl, h⟩ q2⟩
          have hla : l = true → a < 16 := fun hl => by rcases Nat.lt_or_ge a 16 with h | h; exact h; exact absurd ⟨hl, h⟩ q2
          have HLN := Lib.hid hln
          have HLA := Lib.hid hla
          have HK := Lib.hid g3
          have IH := Lib.hid ih
          have HSR := Lib.hid hS
          have HS0 := Lib.hid hs0
          have q2' : l = true → (a : Int) < 16 := fun hl => by have := hla hl; omega
          have q3 : (l && decide (16 ≤ (a : Int))) = false := by
            cases l
            · rfl
            · have := q2' rfl
              simp; omega
          cases hlc : l with
          | false =>
            subst hlc
            have hz : n3 = 0 := by
              rcases Nat.eq_zero_or_pos n3 with h | h
              · exact h
              · have := (hln h).1; cases this
            subst hz
            have hnil : Hid (ks = []) := List.eq_nil_of_length_eq_zero g3
            have HFF := Lib.hid (HF5.out HW.out nn bb (by rw [hnil.out]; simp [nodesL]) (by rw [hnil.out]; simp [formL]) (by rw [hnil.out]; rfl) (fun h => by cases h) (fun t ht => by rw [hnil.out] at ht; cases ht) ha)
            have hN : Hid (nodes (.mk false h hi da ks) = 1) := by show _ = _; rw [nodes, hnil.out]; rfl
            have hFl : Hid ((form (.mk false h hi da ks)).length = s) := by show _ = _; rw [HFO.out HW.out, hnil.out]; rfl
            clear hln hla g3 ih hS q2 q2' q3 hs0
            go_enter Tryd.func26, Tryd.ntmps26
            go_wp2_with (first
            | ((with_reducible refine C1.out.mono ?_); rintro e w2 ⟨rfl, hb2⟩; obtain ⟨e0, e1, e2, e3, e4⟩ := box5b (below_at hb2 HX.out))
            | ((with_reducible refine (C2.out _ hb2).mono ?_); rintro e w3 ⟨rfl, hb3⟩; have hb4 := hb2.trans (hb3.mono hb2.size))
            | ((with_reducible refine (take_any r (nn + 1) (bb + s) s _ (hR1.old hb4) hn hb hso).mono ?_); rintro e w4 ⟨rfl, hR4, hg4, hz4⟩; rw [HQ.out]; have HX4 := Lib.hid ((hg4.block w.heap.size (by have := hb4.size; simp at this; omega) (fun e => by injection e with e; omega)).trans (below_at hb4 HX.out)); clear e0 e1 e2 e3 e4; obtain ⟨e0, e1, e2, e3, e4⟩ := box5b HX4.out))
            have hR4' : RoomAt w4 r nn bb := by
              have e1 : ((nn + 1 : Nat) : Int) - 1 = nn := by omega
              have e2 : ((bb + s : Nat) : Int) - s = bb := by omega
              rw [e1, e2] at hR4
              exact hR4
            go_loopw [30] (fun i wr => i = .int .i64 0 ∧ wr = w4) (fun i _ => 0)
            case atStart => exact ⟨rfl, rfl⟩
            case round =>
              obtain ⟨rfl, rfl⟩ := hrel
              go_wp2_with fail
              go_ret
              exact ⟨nn, bb, ret_bool (by rw [HFF.out]), hR4', fun _ => ⟨by rw [hN.out]; omega, by rw [hFl.out]; omega⟩, (hgw.trans (grown_below hb4 _)).trans hg4⟩
          | true =>
          subst hlc
          have q4 : (a : Int) < 16 := q2' rfl
          clear hln hla g3 ih hS q2 q2' q3 hs0
          go_enter Tryd.func26, Tryd.ntmps26
          go_wp2_with (first
          | ((with_reducible refine C1.out.mono ?_); rintro e w2 ⟨rfl, hb2⟩; obtain ⟨e0, e1, e2, e3, e4⟩ := box5b (below_at hb2 HX.out))
          | ((with_reducible refine (C2.out _ hb2).mono ?_); rintro e w3 ⟨rfl, hb3⟩; have hb4 := hb2.trans (hb3.mono hb2.size))
          | ((with_reducible refine (take_any r (nn + 1) (bb + s) s _ (hR1.old hb4) hn hb hso).mono ?_); rintro e w4 ⟨rfl, hR4, hg4, hz4⟩; rw [HQ.out]; have HX4 := Lib.hid ((hg4.block w.heap.size (by have := hb4.size; simp at this; omega) (fun e => by injection e with e; omega)).trans (below_at hb4 HX.out)); clear e0 e1 e2 e3 e4; obtain ⟨e0, e1, e2, e3, e4⟩ := box5b HX4.out))
          have hR4' : RoomAt w4 r nn bb := by
            have e1 : ((nn + 1 : Nat) : Int) - 1 = nn := by omega
            have e2 : ((bb + s : Nat) : Int) - s = bb := by omega
            rw [e1, e2] at hR4
            exact hR4
          have hgw4 := (hgw.trans (grown_below hb4 _)).trans hg4
          go_loopw [30] (fun i wr => ∃ k n' b' : Nat, k ≤ n3 ∧ i = .int .i64 k ∧ RoomAt wr r n' b' ∧ n' + nodesL (ks.take k) = nn ∧ b' + (formL (ks.take k)).length = bb ∧ Hid (cleanL (ks.take k) = true) ∧ Hid (∀ t ∈ ks.take k, a + 1 + deep t ≤ 16) ∧ w.grownBy wr (some r) ∧ Hid (wr.heap[w.heap.size]? = some (Obj.cells #[Value.bool true, Value.bool h, Value.slice A1 n1 c1, Value.slice A2 n2 c2, Value.slice A3 n3 c3] 25 (0, 0)))) (fun i _ => n3 - (intOf i).toNat)
          case atStart => exact ⟨0, nn, bb, Nat.zero_le _, rfl, hR4', rfl, rfl, rfl, fun t ht => by simp at ht, hgw4, HX4⟩
          case round =>
            obtain ⟨k, n', b', hkn, rfl, hRr, hn', hb', hcl, hdp, hgr, hXr⟩ := hrel
            clear hR4' hgw4 hR4 hg4 hz4 hb2 hb3 hb4 e0 e1 e2 e3 e4 C1 C2 hgw hR1
            by_cases hlt : k < n3
            · obtain ⟨ad, v0, v1, v2, v3, v4, t, rfl, hSa, hks, hm, hin, d0, d1, d2, d3, d4⟩ := (HS0.out.grown hgr (fun b hb h => HSR.out b hb (by injection h))).kid hlt
              obtain ⟨e0, e1, e2, e3, e4⟩ := box5b hXr.out
              obtain ⟨l', h', hi', da', ks', B1, m1, j1, B2, m2, j2, B3, m3, j3, _, eE⟩ := hin.form_
              injection eE with eE0 eE; injection eE with eE1 eE; injection eE with eE2 eE; injection eE with eE3 eE; injection eE with eE4 eE
              subst eE0 eE1 eE2 eE3 eE4
              have hbk := below_new wr (.cells #[Value.bool l', Value.bool h', Value.slice B1 m1 j1, Value.slice B2 m2 j2, Value.slice B3 m3 j3] 25)
              have hin2 := hin.old hbk
              have hR2 := hRr.old hbk
              have hlc := (HLN.out (by omega)).2
              have htk : Tab wr := HT0.out.grown hgr (fun e => hrG (by injection e))
              have hM := Lib.hid hm
              have hdN := nodesL_take ks k t hks
              have hdF := formL_take ks k t hks
              have hdC := cleanL_take ks k t hks
              have hkk := Lib.hid (take_snoc ks k t hks)
              have hD := Lib.hid (And.intro hks (And.intro hdN (And.intro hdF hdC)))
              clear hks hdN hdF hdC hm e0 e1 e2 e3
              have hcast : ((a + 1 : Nat) : Int) = (a : Int) + 1 := by omega
              have C := IH.out t hM.out _ S _ r n' b' (a + 1) hin2 HSR.out hR2 (by omega) (by omega) (by omega) (htk.old hbk) hrG
              rw [hcast] at C
              have HC := Lib.hid C
              have hgr2 := hgr.trans (grown_below hbk (some r))
              have hX2 := Lib.hid (below_at hbk hXr.out)
              have hNr : some w.heap.size ≠ some r := fun e => by injection e with e; omega
              have hNl := RoomAt.lt hR2
              have hwl : w.heap.size < wr.heap.size + 1 := by have := hgr.size; omega
              clear C hcast hR2 hin hin2 htk hbk
              by_cases hft : fits t n' b' (a + 1) = true
              · have HFT := Lib.hid hft
                obtain ⟨f1, f2, f3, f4⟩ := (fits_iff _ _ _ _).1 hft
                clear hft
                go_wp2_with ((with_reducible refine HC.out.mono ?_); rintro e w5 ⟨x, y, rfl, hR5, hxy, hg5⟩; rw [HFT.out])
                obtain ⟨rfl, rfl⟩ := hxy HFT.out
                have hX5 : w5.heap[w.heap.size]? = some (Obj.cells #[Value.bool true, Value.bool h, Value.slice A1 n1 c1, Value.slice A2 n2 c2, Value.slice (some ad) n3 c3] 25 (0, 0)) := (hg5.block w.heap.size (by simpa using hwl) hNr).trans hX2.out
                obtain ⟨o1, o2, o3, o4⟩ := hD.out
                refine ⟨⟨k + 1, n' - nodes t, b' - (form t).length, by omega, by go_num, ?_, ?_, ?_, ?_, ?_, hgr2.trans hg5, hX5⟩, by simp [intOf]; omega⟩
                · have e1 : ((n' - nodes t : Nat) : Int) = (n' : Int) - nodes t := by omega
                  have e2 : ((b' - (form t).length : Nat) : Int) = (b' : Int) - (form t).length := by omega
                  rw [e1, e2]; exact hR5
                · rw [o2]; omega
                · rw [o3, List.length_append]; omega
                · show _ = _
                  rw [o4, hcl.out, f1]; rfl
                · intro u hu
                  rw [hkk.out, List.mem_append, List.mem_singleton] at hu
                  rcases hu with hu | rfl
                  · exact hdp.out u hu
                  · exact f4
              · have hff : fits t n' b' (a + 1) = false := by simpa using hft
                have HFT := Lib.hid hff
                obtain ⟨o1, o2, o3, o4⟩ := hD.out
                have HFF := Lib.hid (HF4.out k t HW.out o1 n' b' (by omega) (by omega) hff)
                clear hft hff o1 o2 o3 o4
                go_wp2_with ((with_reducible refine HC.out.mono ?_); rintro e w5 ⟨x, y, rfl, hR5, hxy, hg5⟩; rw [HFT.out])
                go_ret
                exact ⟨_, _, ret_bool (by rw [HFF.out]), hR5, (fun h => by rw [HFF.out] at h; cases h), hgr2.trans hg5⟩
            · obtain rfl : k = n3 := by omega
              have hall : Hid (ks.take k = ks) := List.take_of_length_le (by rw [HK.out]; exact Nat.le_refl _)
              rw [hall.out] at hn' hb' hcl hdp
              have HFF := Lib.hid (HF5.out HW.out n' b' (by omega) (by omega) hcl.out HLA.out hdp.out ha)
              have hN : Hid (nodes (.mk true h hi da ks) = 1 + nodesL ks) := by show _ = _; rw [nodes]
              go_wp2_with fail
              go_ret
              refine ⟨n', b', ret_bool (by rw [HFF.out]), hRr, fun _ => ⟨by rw [hN.out]; omega, by rw [HFO.out HW.out]; omega⟩, hgr⟩

set_option maxHeartbeats 1000000 in
set_option maxRecDepth 100000 in
theorem may_any (t : SX) (w : World) (S : Nat → Prop) (cs : List Value) (hs : SIn w S t cs) (ht : Tab w) :
    Calls Tryd.prog 13 #[.agg cs.toArray] w fun e w' => e = .returned (.bool (may t)) ∧ Below w.heap.size w w' := by
  obtain ⟨l, h, hi, da, ks, A1, n1, c1, A2, n2, c2, A3, n3, c3, rfl, rfl⟩ := hs.form_
  have hb0 := below_new w (.cells #[Value.bool l, Value.bool h, Value.slice A1 n1 c1, Value.slice A2 n2 c2, Value.slice A3 n3 c3] 25)
  have hb1 := hb0.trans ((below_new (w.alloc (.cells #[Value.bool l, Value.bool h, Value.slice A1 n1 c1, Value.slice A2 n2 c2, Value.slice A3 n3 c3] 25)) (.cells #[.int .i64 512, .int .i64 4096] 47)).mono (by simp))
  have hR : RoomAt ((w.alloc (.cells #[Value.bool l, Value.bool h, Value.slice A1 n1 c1, Value.slice A2 n2 c2, Value.slice A3 n3 c3] 25)).alloc (.cells #[.int .i64 512, .int .i64 4096] 47)) (w.heap.size + 1) (512 : Nat) (4096 : Nat) := by
    have := heap_alloc_new (w.alloc (.cells #[Value.bool l, Value.bool h, Value.slice A1 n1 c1, Value.slice A2 n2 c2, Value.slice A3 n3 c3] 25)) (.cells #[.int .i64 512, .int .i64 4096] 47)
    have e : (w.alloc (.cells #[Value.bool l, Value.bool h, Value.slice A1 n1 c1, Value.slice A2 n2 c2, Value.slice A3 n3 c3] 25)).heap.size = w.heap.size + 1 := by simp
    rw [e] at this
    exact this
  have hlt := ht.lt
  have C := holds_any (.mk l h hi da ks) _ (fun b => S b ∧ b < w.heap.size) _ (w.heap.size + 1) 512 4096 0 (hs.size_.kept hb1 (fun b h => h.2)) (fun k h e => by have := h.2; omega) hR (by omega) (by omega) (by omega) (ht.old hb1) (by omega)
  have C0 : Calls Tryd.prog 26 #[.pointer (some ⟨w.heap.size + 1, 0, none⟩), .agg #[Value.bool l, Value.bool h, Value.slice A1 n1 c1, Value.slice A2 n2 c2, Value.slice A3 n3 c3], .int .i64 0] _ _ := C
  have HC := Lib.hid C0
  clear C0
  have HM := Lib.hid (may_fits (.mk l h hi da ks))
  have hsz : ((w.alloc (.cells #[Value.bool l, Value.bool h, Value.slice A1 n1 c1, Value.slice A2 n2 c2, Value.slice A3 n3 c3] 25)).alloc (.cells #[.int .i64 512, .int .i64 4096] 47)).heap.size = w.heap.size + 2 := by simp
  clear C hs ht hR
  go_enter Tryd.func13, Tryd.ntmps13
  go_wp2_with ((with_reducible refine HC.out.mono ?_); rintro e w5 ⟨x, y, rfl, hR5, hxy, hg5⟩)
  go_ret
  exact ⟨ret_bool (by rw [HM.out]), hb1.grown hg5 (by omega) (fun k hk => by injection hk with hk; omega)⟩
end Go.Proofs.YtaenahilnnlbfaaDoor
