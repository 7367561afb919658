/-
  The contracts of the document's answers text and Form (package greffierref02): bytes with their length, a tree's form. Conditions: the form has at most 2^40 bytes.
-/
import Derived.Test.YtaenahilnnlbfaaDoorHeld
import Derived.Test.YtaenahilnnlbfaaDoorDec
import Derived.Test.YtaenahilnnlbfaaDoorNodes
set_option linter.unusedVariables false
namespace Go.Proofs.YtaenahilnnlbfaaDoor
open Go Go.Proofs Go.RowKit Sx

/-- A slice of bytes that the call made. -/
def BytesOut (w : World) (L : List UInt8) (e : Ending) (w' : World) : Prop := ∃ A c, e = .returned (.slice A L.length c) ∧ L.length ≤ c ∧ Reads w' w'.heap.size 1 A L.length (Lib.byteCells L) ∧ Below w.heap.size w w'

theorem dec_le (u : Nat) (h : u ≤ 1099511627776) : (Lib.decDigits u).length ≤ 13 := Oct.dec_length 12 u (by omega)
theorem text_length (b : List UInt8) : (text b).length = (Lib.decDigits b.length).length + 1 + b.length := by simp [text]; omega

set_option maxHeartbeats 1000000 in
set_option maxRecDepth 100000 in
theorem refText_any (A : Option Addr) (n c : Nat) (l : List UInt8) (B : Nat) (w : World) (hr : Reads w B 1 A n (Lib.byteCells l)) (hB : B ≤ w.heap.size) (hn : n ≤ 1099511627776) :
    Calls Tryd.prog 29 #[.slice A n c] w (BytesOut w (text l)) := by
  have hl : l.length = n := by have := hr.1; simpa [Lib.byteCells_length] using this
  have hd := dec_le n hn
  have HT : Hid (Lib.decDigits n ++ [58] ++ l = text l) := by show _ = _; rw [text, hl]; simp
  have HL := Lib.hid hl
  have HD := Lib.hid (fun W => dec_any n W (by omega))
  clear hl
  generalize Lib.decDigits n = D at *
  have hsz : (⟨D.toArray⟩ : ByteArray).size = D.length := by show D.toArray.size = _; simp
  have HSZ := Lib.hid hsz
  have HN := Lib.hid (fun (w1 : World) (hb : Below w.heap.size w w1) => Held.new hb ⟨D.toArray⟩)
  clear hsz
  go_enter Tryd.func29, Tryd.ntmps29
  go_wp2_with fail
  refine (HD.out w).mono ?_
  rintro e w1 ⟨rfl, hb1⟩
  go_wp2_with fail
  rw [Lib.run_convert_string_bytes w1 9 22 5 _ Tryd.underlying9 Tryd.underlying22 Tryd.underlying5]
  simp only [Result.andThen]
  rw [Oper.upon_value]
  have hH := HN.out w1 hb1
  have hb2 := hb1.trans ((bytesWorld_below w1 ⟨D.toArray⟩).mono hb1.size)
  rw [HSZ.out] at hH ⊢
  generalize Lib.bytesWorld w1 5 ⟨D.toArray⟩ = w2 at *
  generalize grownCap w1 _ 0 5 = cap at *
  generalize w1.heap.size = g at *
  clear hb1
  have hs2 := hb2.size
  have hb3 := hb2.alloc hs2 (.cells #[.int .u8 58] 5)
  have hH3 := hH.more (below_new w2 (.cells #[.int .u8 58] 5))
  have hone := reads_one w2 58 (0, 0)
  have hdl : D.length ≤ 13 := hd
  go_wp2_with (at_builtin; refine wpList_append_held _ rfl (.tmp 7) (.tmp 8) rfl w.heap.size w _ D hH3 rfl _ _ 1 1 [58] rfl hone (by omega) ?_)
  intro v3 w3 hH4 _
  have hr4 := hr.below (hH4.1.mono hB)
  have hbd : (D ++ [58]).length + n ≤ 140737488355328 := by simp; omega
  clear hH hH3 hone hb2 hb3 hr hB
  go_wp2_with (at_builtin; refine wpList_append_held _ rfl (.tmp 10) (.tmp 11) rfl w.heap.size w v3 (D ++ [58]) hH4 rfl _ A n c l rfl hr4 hbd ?_)
  intro v4 w4 hH5 _
  clear hH4 hr4 hbd
  have hT := HT.out
  rw [List.append_assoc] at hT
  have hT : D ++ 58 :: l = text l := hT
  rw [hT] at hH5
  obtain ⟨A5, c5, rfl, hc5, hr5⟩ := hH5.reads
  have hb5 := hH5.1
  clear hH5 hT
  go_wp2_with fail
  go_ret
  exact ⟨A5, c5, rfl, hc5, hr5, hb5⟩

theorem Held.empty {w0 W : World} (hb : Below w0.heap.size w0 W) {g : Nat} (hg : W.heap.size = g) : Held w0.heap.size w0 (W.alloc (.cells #[] 5)) (.slice (some ⟨g, 0, none⟩) 0 0) [] := by
  subst hg
  exact ⟨hb.alloc hb.size _, by have := hb.size; simp; omega, .inr (owns_more (owns_empty W) hb.size)⟩
theorem reads_byte (w : World) (x : UInt8) {g : Nat} (hg : w.heap.size = g) : Reads (w.alloc (.cells #[.int .u8 x.toNat] 5)) (g + 1) 1 (some ⟨g, 0, none⟩) 1 (Lib.byteCells [x]) := by
  subst hg
  exact reads_one w x (0, 0)
theorem box5b {w : World} {b : Nat} {v0 v1 v2 v3 v4 : Value} {T : TypeId} (h : w.heap[b]? = some (Obj.cells #[v0, v1, v2, v3, v4] T (0, 0))) :
    w.cell? ⟨b, 0, none⟩ = some v0 ∧ w.cell? ⟨b, 1, none⟩ = some v1 ∧ w.cell? ⟨b, 2, none⟩ = some v2 ∧ w.cell? ⟨b, 3, none⟩ = some v3 ∧ w.cell? ⟨b, 4, none⟩ = some v4 := by
  refine ⟨?_, ?_, ?_, ?_, ?_⟩ <;> (rw [Lib.cell_of_heap h]; rfl)
theorem below_at {w w' : World} {b : Nat} {o : Obj} (hb : Below w.heap.size w w') (h : w.heap[b]? = some o) : w'.heap[b]? = some o :=
  (hb.block b (by
    rcases Nat.lt_or_ge b w.heap.size with h' | h'
    · exact h'
    · rw [Array.getElem?_eq_none h'] at h; cases h)).trans h
theorem formL_take (l : List SX) (k : Nat) (x : SX) (h : l[k]? = some x) : formL (l.take (k + 1)) = formL (l.take k) ++ form x := by rw [take_snoc l k x h, formL_snoc]
theorem formL_take_le (l : List SX) (k : Nat) (x : SX) (h : l[k]? = some x) : (formL (l.take k)).length + (form x).length ≤ (formL l).length := by
  have e := formL_append (l.take (k + 1)) (l.drop (k + 1))
  rw [List.take_append_drop, formL_take l k x h] at e
  rw [e]; simp

set_option maxHeartbeats 2000000 in
set_option maxRecDepth 100000 in
theorem form_any (t : SX) : ∀ (w : World) (S : Nat → Prop) (cs : List Value), SIn w S t cs → (form t).length ≤ 1099511627776 →
    Calls Tryd.prog 15 #[.agg cs.toArray] w (BytesOut w (form t)) := by
  induction t using SX.ind with
  | H l h hi da ks ih =>
    intro w S cs hs hd
    obtain ⟨_, _, _, _, _, A1, n1, c1, A2, n2, c2, A3, n3, c3, e, rfl⟩ := hs.form_
    cases e
    obtain ⟨_, _, r1, r2, g1, g2, hk, b11, b12, b21, b22, b31, b32⟩ := hs.inv
    have HK := Lib.hid hk
    have HS := Lib.hid hs
    have IH := Lib.hid ih
    clear hk hs ih
    cases l with
    | true =>
      have HF : Hid (form (.mk true h hi da ks) = 40 :: (formL ks ++ [41])) := by show _ = _; rw [form]; rfl
      have hd' : (formL ks).length + 2 ≤ 1099511627776 := by rw [HF.out] at hd; simpa using hd
      rw [HF.out]
      have hH0 := (Held.empty (below_new w (.cells #[Value.bool true, Value.bool h, Value.slice A1 n1 c1, Value.slice A2 n2 c2, Value.slice A3 n3 c3] 25)) (g := w.heap.size + 1) (by simp)).more (below_new _ (.cells #[.int .u8 40] 5))
      have hx0 := Lib.hid (below_at (below_new _ (.cells #[.int .u8 40] 5)) (below_at (below_new _ (.cells #[] 5)) (heap_alloc_new w (.cells #[Value.bool true, Value.bool h, Value.slice A1 n1 c1, Value.slice A2 n2 c2, Value.slice A3 n3 c3] 25))))
      have hone := reads_byte ((w.alloc (.cells #[Value.bool true, Value.bool h, Value.slice A1 n1 c1, Value.slice A2 n2 c2, Value.slice A3 n3 c3] 25)).alloc (.cells #[] 5)) 40 (g := w.heap.size + 1 + 1) (by simp)
      clear hd r1 r2
      go_enter Tryd.func15, Tryd.ntmps15
      go_wp2_with (at_builtin; refine wpList_append_held _ rfl (.tmp 8) (.tmp 9) rfl w.heap.size w _ [] hH0 rfl _ _ 1 1 [40] rfl hone (by simp) ?_)
      intro v1 w1 hH1 hO1
      have hbox := hO1 _ _ _ _ hx0.out (by decide)
      clear hH0 hone hx0 hO1
      have e4 := (box5b hbox).2.2.2.2
      go_wp2_with fail
      go_loopw [3, 14] (fun v i wr => ∃ k : Nat, k ≤ n3 ∧ i = .int .i64 k ∧ Held w.heap.size w wr v (40 :: formL (ks.take k)) ∧ Hid (wr.heap[w.heap.size]? = some (Obj.cells #[Value.bool true, Value.bool h, Value.slice A1 n1 c1, Value.slice A2 n2 c2, Value.slice A3 n3 c3] 25 (0, 0)))) (fun _ i _ => n3 - (intOf i).toNat)
      case atStart => exact ⟨0, Nat.zero_le _, rfl, hH1, hbox⟩
      case round =>
        obtain ⟨k, hkn, rfl, hH, HB⟩ := hrel
        have hbw := hH.1
        clear e4 hbox hH1
        by_cases hlt : k < n3
        · obtain ⟨ad, v0, v1, v2, v3, v4, t, rfl, hS, hks, hm, hin, d0, d1, d2, d3, d4⟩ := (HS.out.old hbw).kid hlt
          have e4 := (box5b HB.out).2.2.2.2
          have HT := Lib.hid (formL_take ks k t hks)
          have hdk := formL_take_le ks k t hks
          have HM := Lib.hid hm
          clear hks hm
          go_wp2_with (first
            | ((with_reducible refine (IH.out t HM.out _ S _ hin (by omega)).mono ?_); rintro e w2 ⟨Ar, cr, rfl, hcr, hrr, hb2⟩; have HB2 := Lib.hid (below_at hb2 HB.out))
            | (at_builtin; refine wpList_append_held _ rfl (.tmp 17) (.tmp 23) rfl w.heap.size w _ (40 :: formL (ks.take k)) (hH.more hb2) rfl _ Ar _ cr (form t) rfl hrr (by simp; omega) ?_))
          intro v5 w5 hH5 hO5
          have HB5 := Lib.hid (hO5 _ _ _ _ HB2.out (by decide))
          clear hO5 hrr hb2 hH
          go_wp2_with fail
          go_roundw
          case rel => exact ⟨k + 1, by omega, by go_num, by rw [HT.out]; exact hH5, HB5.out⟩
          case measure => simp [intOf]; omega
        · obtain rfl : k = n3 := by omega
          have hall : Hid (ks.take k = ks) := List.take_of_length_le (by rw [HK.out]; exact Nat.le_refl _)
          rw [hall.out] at hH
          have hH' := hH.more (below_new wr (.cells #[.int .u8 41] 5))
          have hone := reads_byte wr 41 rfl
          go_wp2_with (at_builtin; refine wpList_append_held _ rfl (.tmp 26) (.tmp 27) rfl w.heap.size w _ (40 :: formL ks) hH' rfl _ _ 1 1 [41] rfl hone (by simp; omega) ?_)
          intro v5 w5 hH5 hO5
          obtain ⟨A5, c5, rfl, hc5, hr5⟩ := hH5.reads
          have hb5 := hH5.1
          clear hH5 hO5 hH' hH hone
          go_wp2_with fail
          go_ret
          exact ⟨A5, c5, rfl, hc5, hr5, hb5⟩
    | false =>
      cases h with
      | false =>
        have HF : Hid (form (.mk false false hi da ks) = text da) := by show _ = _; rw [form]; rfl
        rw [HF.out] at hd ⊢
        have hn2 : n2 ≤ 1099511627776 := by have := text_length da; omega
        have hH0 := Held.empty (below_new w (.cells #[Value.bool false, Value.bool false, Value.slice A1 n1 c1, Value.slice A2 n2 c2, Value.slice A3 n3 c3] 25)) (g := w.heap.size + 1) (by simp)
        have hr2 := ((r2.old (by omega) (below_new w (.cells #[Value.bool false, Value.bool false, Value.slice A1 n1 c1, Value.slice A2 n2 c2, Value.slice A3 n3 c3] 25))).old (by omega) (below_new _ (.cells #[] 5))).reads (by omega)
        clear r1 r2
        go_enter Tryd.func15, Tryd.ntmps15
        go_wp2_with (first
          | ((with_reducible refine (refText_any A2 n2 c2 da _ _ hr2 (Nat.le_refl _) hn2).mono ?_); rintro e w2 ⟨Ar, cr, rfl, hcr, hrr, hb2⟩)
          | (at_builtin; refine wpList_append_held _ rfl (.tmp 42) (.tmp 45) rfl w.heap.size w _ [] (hH0.more hb2) rfl _ Ar _ cr (text da) rfl hrr (by simp; omega) ?_))
        intro v5 w5 hH5 hO5
        obtain ⟨A5, c5, rfl, hc5, hr5⟩ := hH5.reads
        have hb5 := hH5.1
        clear hH5 hO5 hrr hb2 hH0
        go_wp2_with fail
        go_ret
        exact ⟨A5, c5, rfl, hc5, hr5, hb5⟩
      | true =>
        have HF : Hid (form (.mk false true hi da ks) = 91 :: (text hi ++ 93 :: text da)) := by show _ = _; rw [form]; simp
        rw [HF.out] at hd ⊢
        have hd' : (text hi).length + (text da).length + 2 ≤ 1099511627776 := by simp at hd; omega
        have hn1 : n1 ≤ 1099511627776 := by have := text_length hi; omega
        have hn2 : n2 ≤ 1099511627776 := by have := text_length da; omega
        have hH0 := (Held.empty (below_new w (.cells #[Value.bool false, Value.bool true, Value.slice A1 n1 c1, Value.slice A2 n2 c2, Value.slice A3 n3 c3] 25)) (g := w.heap.size + 1) (by simp)).more (below_new _ (.cells #[.int .u8 91] 5))
        have hx0 := Lib.hid (below_at (below_new _ (.cells #[.int .u8 91] 5)) (below_at (below_new _ (.cells #[] 5)) (heap_alloc_new w (.cells #[Value.bool false, Value.bool true, Value.slice A1 n1 c1, Value.slice A2 n2 c2, Value.slice A3 n3 c3] 25))))
        have hone := reads_byte ((w.alloc (.cells #[Value.bool false, Value.bool true, Value.slice A1 n1 c1, Value.slice A2 n2 c2, Value.slice A3 n3 c3] 25)).alloc (.cells #[] 5)) 91 (g := w.heap.size + 1 + 1) (by simp)
        go_enter Tryd.func15, Tryd.ntmps15
        go_wp2_with (at_builtin; refine wpList_append_held _ rfl (.tmp 31) (.tmp 32) rfl w.heap.size w _ [] hH0 rfl _ _ 1 1 [91] rfl hone (by simp) ?_)
        intro v1 w1 hH1 hO1
        have hB1 := Lib.hid (hO1 _ _ _ _ hx0.out (by decide))
        have hr1 := (r1.old (by omega) hH1.1).reads (by omega)
        obtain ⟨e0, e1, e2, e3, e4⟩ := box5b hB1.out
        clear hH0 hone hx0 hO1 hd
        go_wp2_with (first
          | ((with_reducible refine (refText_any A1 n1 c1 hi _ _ hr1 (Nat.le_refl _) hn1).mono ?_); rintro e w2 ⟨Ar, cr, rfl, hcr, hrr, hb2⟩; have HB2 := Lib.hid (below_at hb2 hB1.out))
          | (at_builtin; refine wpList_append_held _ rfl (.tmp 34) (.tmp 37) rfl w.heap.size w _ _ (hH1.more hb2) rfl _ Ar _ cr (text hi) rfl hrr (by simp; omega) ?_))
        intro v3 w3 hH3 hO3
        have hB3 := Lib.hid (hO3 _ _ _ _ HB2.out (by decide))
        have hH3' := hH3.more (below_new w3 (.cells #[.int .u8 93] 5))
        have hB3' := Lib.hid (below_at (below_new w3 (.cells #[.int .u8 93] 5)) hB3.out)
        have hone := reads_byte w3 93 rfl
        clear hH1 hrr hb2 hO3 hr1 e0 e1 e2 e3 e4 hH3
        go_wp2_with (at_builtin; refine wpList_append_held _ rfl (.tmp 39) (.tmp 40) rfl w.heap.size w _ _ hH3' rfl _ _ 1 1 [93] rfl hone (by simp; omega) ?_)
        intro v4 w4 hH4 hO4
        have hB4 := Lib.hid (hO4 _ _ _ _ hB3'.out (by decide))
        have hr2 := (r2.old (by omega) hH4.1).reads (by omega)
        obtain ⟨e0, e1, e2, e3, e4⟩ := box5b hB4.out
        clear hH3' hone hO4
        go_wp2_with (first
          | ((with_reducible refine (refText_any A2 n2 c2 da _ _ hr2 (Nat.le_refl _) hn2).mono ?_); rintro e w2 ⟨Ar, cr, rfl, hcr, hrr, hb2⟩)
          | (at_builtin; refine wpList_append_held _ rfl (.tmp 42) (.tmp 45) rfl w.heap.size w _ _ (hH4.more hb2) rfl _ Ar _ cr (text da) rfl hrr (by simp; omega) ?_))
        intro v5 w5 hH5 hO5
        obtain ⟨A5, c5, rfl, hc5, hr5⟩ := hH5.reads
        have hb5 := hH5.1
        clear hH5 hO5 hrr hb2 hH4
        go_wp2_with fail
        go_ret
        exact ⟨A5, c5, rfl, hc5, hr5, hb5⟩
end Go.Proofs.YtaenahilnnlbfaaDoor
