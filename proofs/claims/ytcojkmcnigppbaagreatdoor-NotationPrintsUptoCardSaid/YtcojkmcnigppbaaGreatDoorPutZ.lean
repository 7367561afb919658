/-
  The contracts of sexp's appendString, appendValue and Put: a value's canonical form. Conditions: the library's table of powers of ten holds what its text lays.
-/
import Derived.Test.YtcojkmcnigppbaaGreatDoorM5
import Derived.Lib.AppendStr
set_option linter.unusedVariables false
set_option linter.unusedSimpArgs false
open Go.Lib (hid)
open Go.Proofs.YtcojkmcnigppbaaGreatDoor (zA zB zC zD zE zF)
namespace Go.Proofs.YtcojkmcnigppbaaGreatDoor
open Go Go.Proofs Go.RowKit Sx
def Own (B : Nat) (w0 w : World) (v : Value) (L : List UInt8) : Prop := Below B w0 w ∧ B ≤ w.heap.size ∧ w.ownsRow B 5 1 v L.length (Lib.byteCells L)
theorem Own.more {B : Nat} {w0 w w' : World} {v : Value} {L : List UInt8} (h : Own B w0 w v L) (hb : Below w.heap.size w w') : Own B w0 w' v L :=
  ⟨h.1.trans (hb.mono h.2.1), by have := hb.size; have := h.2.1; omega, own_old h.2.2 hb⟩
theorem Own.none_ {B : Nat} {w0 w : World} (h : Below B w0 w) (hB : B ≤ w.heap.size) : Own B w0 w (.slice none 0 0) [] := ⟨h, hB, rfl, .inl ⟨rfl, rfl⟩⟩
theorem Own.same {B : Nat} {w0 w w' : World} {v v' : Value} {L L' : List UInt8} (h : Own B w0 w v L) (h' : Own B w0 w' v' L') : ∀ p : Addr, p.block < B → w'.cell? p = w.cell? p :=
  fun p hp => World.cell?_of_block ((h'.1.block p.block hp).trans (h.1.block p.block hp).symm)
theorem Own.form {B : Nat} {w0 w : World} {v : Value} {L : List UInt8} (h : Own B w0 w v L) : ∃ A c, v = .slice A L.length c ∧ L.length ≤ c ∧ Reads w w.heap.size 1 A L.length (Lib.byteCells L) := by
  obtain ⟨A, c, rfl, hc, hr⟩ := RIn.of_own h.2.2
  exact ⟨A, c, rfl, hc, hr.reads (by omega)⟩
theorem wpList_append_own_bytes (w : World) {ops : Array Oper} {rest : List Oper} {o : Oper} {a : Act} {Q : Exit → Act → World → Prop}
    (hg : o.guard = none) (s x : Operand) (hop : o.op = Op.call { callee := Callee.builtin Builtin.append, args := #[s, x], argTypes := #[22, 22] })
    (B : Nat) (w0 : World) (v : Value) (L : List UInt8) (hH : Own B w0 w v L) (hs : a.eval s = v)
    (B' : Nat) (A : Option Addr) (m c : Nat) (M : List UInt8) (hx : a.eval x = .slice A m c) (hr : Reads w B' 1 A m (Lib.byteCells M)) (hbd : L.length + m ≤ 140737488355328)
    (hK : ∀ v' w', Own B w0 w' v' (L ++ M) → Others w w' → w.heap.size ≤ w'.heap.size → wpList Tryz.prog ops Q rest (a.put o.dst v') w') :
    wpList Tryz.prog ops Q (o :: rest) a w := by
  obtain ⟨i0, hi, hz0, hz1, hz2⟩ := info_parts infoByte
  have hm : M.length = m := by have := hr.1; simpa [Lib.byteCells_length] using this
  have hone : ∀ u ∈ Lib.byteCells M, u.oneCell' = true := fun u hu => by
    simp [Lib.byteCells] at hu
    obtain ⟨b, _, rfl⟩ := hu
    rfl
  have e : Lib.byteCells L ++ Lib.byteCells M = Lib.byteCells (L ++ M) := by simp [Lib.byteCells]
  have hlen : (L ++ M).length = L.length + m := by simp [hm]
  obtain ⟨hbel, hBs, hown⟩ := hH
  refine wpList_append_any w hg s x 22 hop B 5 i0 (.int .u8 0) 1 1 Tryz.underlying22 hi hz0 hz1 hz2 rfl (by decide) v L.length (Lib.byteCells L) hs hown B' A m c (Lib.byteCells M) hx hr hone (by unfold maxLen; omega) (by omega) hBs ?_
  intro v' w' hown' hgrow _
  rw [e] at hown'
  exact hK _ _ ⟨hbel.grown hgrow hBs (fun k hk => (hown.lt k hk).1), by have := hgrow.size; omega, by rw [hlen]; exact hown'⟩ (Others.grown hown hgrow) hgrow.size
theorem wpList_append_own_text (w : World) {ops : Array Oper} {rest : List Oper} {o : Oper} {a : Act} {Q : Exit → Act → World → Prop}
    (hg : o.guard = none) (s x : Operand) (hop : o.op = Op.call { callee := Callee.builtin Builtin.append, args := #[s, x], argTypes := #[22, 9] })
    (B : Nat) (w0 : World) (v : Value) (L : List UInt8) (hH : Own B w0 w v L) (hs : a.eval s = v)
    (M : List UInt8) (hx : a.eval x = .string ⟨M.toArray⟩) (hbd : L.length + M.length ≤ 140737488355328)
    (hK : ∀ v' w', Own B w0 w' v' (L ++ M) → Others w w' → w.heap.size ≤ w'.heap.size → wpList Tryz.prog ops Q rest (a.put o.dst v') w') :
    wpList Tryz.prog ops Q (o :: rest) a w := by
  obtain ⟨i0, hi, hz0, hz1, hz2⟩ := info_parts infoByte
  have hsz : (⟨M.toArray⟩ : ByteArray).size = M.length := by show M.toArray.size = _; simp
  have e : Lib.byteCells L ++ Lib.strCells ⟨M.toArray⟩ = Lib.byteCells (L ++ M) := by rw [Lib.strCells_eq]; simp [Lib.byteCells]
  have hlen : (L ++ M).length = L.length + M.length := by simp
  obtain ⟨hbel, hBs, hown⟩ := hH
  refine Lib.wpList_append_own_string (w := w) hg s x 22 9 hop B 5 i0 Tryz.underlying22 Tryz.underlying9 hi hz0 hz1 hz2 v L.length (Lib.byteCells L) hs hown ⟨M.toArray⟩ hx (by rw [hsz]; unfold maxLen; omega) (by rw [hsz]; exact hbd) hBs ?_
  intro v' w' hown' hgrow _
  rw [e, hsz] at hown'
  exact hK _ _ ⟨hbel.grown hgrow hBs (fun k hk => (hown.lt k hk).1), by have := hgrow.size; omega, by rw [hlen]; exact hown'⟩ (Others.grown hown hgrow) hgrow.size
def AppEnd (B : Nat) (w0 w : World) (L : List UInt8) (e : Ending) (w' : World) : Prop := ∃ v, e = .returned v ∧ Own B w0 w' v L ∧ Others w w' ∧ w.heap.size ≤ w'.heap.size
set_option maxHeartbeats 2000000 in
set_option maxRecDepth 100000 in
theorem appendString_any (B : Nat) (w0 : World) (v : Value) (L : List UInt8) (A : Option Addr) (n c : Nat) (l : List UInt8) (w : World) (hH : Own B w0 w v L) (hr : Reads w B 1 A n (Lib.byteCells l)) (ht : Tab w)
    (hbd : L.length + (text l).length ≤ 1099511627776) :
    Calls Tryz.prog 77 #[v, .slice A n c] w (AppEnd B w0 w (L ++ text l)) := by
  have hl : l.length = n := by have := hr.1; simpa [Lib.byteCells_length] using this
  have hT : text l = Lib.decDigits n ++ 58 :: l := by rw [text, hl]
  have hTl : (text l).length = (Lib.decDigits n).length + 1 + n := by rw [text_length, hl]
  have HP := putLen_any (n : Int) w (by omega) (by omega) ht
  have e : ((n : Int).toNat) = n := by omega
  rw [e] at HP
  have HP := hid HP
  have HT := hid hT
  have hr0 := hid hr
  rw [hTl] at hbd
  rw [HT.out]
  clear ht e hl hT hTl hr
  generalize Lib.decDigits n = D at *
  go_enter Tryz.func77, Tryz.ntmps77
  go_wp2_with (first
    | ((with_reducible refine HP.out.mono ?_); rintro e w1 ⟨rfl, hb1⟩)
    | (at_builtin; refine wpList_append_own_text _ rfl (.tmp 5) (.tmp 8) rfl B w0 v L (hH.more hb1) rfl D rfl (by omega) ?_))
  intro v2 w2 hH2 hO2 hz2
  have hH3 := hH2.more (below_new w2 (.cells #[.int .u8 58] 5))
  have hone := reads_byte w2 58 rfl
  have hO1 := (Others.of_below hb1).trans hO2
  have hz1 := hb1.size
  go_wp2_with (at_builtin; refine wpList_append_own_bytes _ rfl (.tmp 10) (.tmp 11) rfl B w0 v2 _ hH3 rfl _ _ 1 1 [58] rfl hone (by simp; omega) ?_)
  intro v4 w4 hH4 hO4 hz4
  have hr4 := hr0.out.keep (hH.same hH4)
  have hO5 := hO1.trans ((Others.of_below (below_new w2 (.cells #[.int .u8 58] 5))).trans hO4)
  have hz5 : w.heap.size ≤ w4.heap.size := by omega
  clear hH2 hH3 hone hO1 hO2 hO4 hz2 hz4 hz1 hb1
  go_wp2_with (at_builtin; refine wpList_append_own_bytes _ rfl (.tmp 13) (.tmp 14) rfl B w0 v4 _ hH4 rfl _ A n c l rfl hr4 (by simp; omega) ?_)
  intro v6 w6 hH6 hO6 hz6
  have hO7 := hO5.trans hO6
  have hH7 : Own B w0 w6 v6 (L ++ (D ++ 58 :: l)) := hH6
  clear hH4 hr4 hO5 hO6 hH6
  go_wp2_with fail
  go_ret
  exact ⟨v6, rfl, hH7, hO7, by omega⟩
set_option maxHeartbeats 4000000 in
set_option maxRecDepth 100000 in
theorem appendValue_any (t : SX) : ∀ (w : World) (S : Nat → Prop) (cs : List Value) (B : Nat) (w0 : World) (v : Value) (L : List UInt8), SIn w S t cs → (∀ k, S k → k < B) → Own B w0 w v L → Tab w0 → 3 < B →
    L.length + (form t).length ≤ 1099511627776 → Calls Tryz.prog 46 #[v, .agg cs.toArray] w (AppEnd B w0 w (L ++ form t)) := by
  induction t using SX.ind with
  | H l h hi da ks ih =>
    intro w S cs B w0 v L hs hS hH ht hG hd
    obtain ⟨_, _, _, _, _, A1, n1, c1, A2, n2, c2, A3, n3, c3, e, rfl⟩ := hs.form_
    cases e
    obtain ⟨_, _, r1, r2, g1, g2, hk, b11, b12, b21, b22, b31, b32⟩ := hs.inv
    have HK := hid hk
    have HS := hid hs
    have IH := hid ih
    have HT := hid (fun (W : World) (V : Value) (M : List UInt8) (h : Own B w0 W V M) => ht.keep (h.1.block _ hG))
    have HT0 := hid ht
    have HSS := hid hS
    have HHH := hid hH
    clear hk hs ih ht hS
    cases l with
    | true =>
      have HF : Hid (form (.mk true h hi da ks) = 40 :: (formL ks ++ [41])) := by show _ = _; rw [form]; rfl
      have hd' : L.length + (formL ks).length + 2 ≤ 1099511627776 := by rw [HF.out] at hd; simp at hd; omega
      rw [HF.out]
      have hH0 := (hH.more (below_new w (.cells #[Value.bool true, Value.bool h, Value.slice A1 n1 c1, Value.slice A2 n2 c2, Value.slice A3 n3 c3] 25))).more (below_new _ (.cells #[.int .u8 40] 5))
      have hx0 := hid (below_at (below_new _ (.cells #[.int .u8 40] 5)) (heap_alloc_new w (.cells #[Value.bool true, Value.bool h, Value.slice A1 n1 c1, Value.slice A2 n2 c2, Value.slice A3 n3 c3] 25)))
      have hone := reads_byte (w.alloc (.cells #[Value.bool true, Value.bool h, Value.slice A1 n1 c1, Value.slice A2 n2 c2, Value.slice A3 n3 c3] 25)) 40 (g := w.heap.size + 1) (by simp)
      have hO0 := (Others.of_below (below_new w (.cells #[Value.bool true, Value.bool h, Value.slice A1 n1 c1, Value.slice A2 n2 c2, Value.slice A3 n3 c3] 25))).trans (Others.of_below (below_new _ (.cells #[.int .u8 40] 5)))
      clear hd r1 r2 hH
      go_enter Tryz.func46, Tryz.ntmps46
      go_wp2_with (at_builtin; refine wpList_append_own_bytes _ rfl (.tmp 9) (.tmp 10) rfl B w0 v L hH0 rfl _ _ 1 1 [40] rfl hone (by omega) ?_)
      intro v1 w1 hH1 hO1 hz1
      have hbox := hO1 _ _ _ _ hx0.out (by decide)
      have hO2 := hO0.trans hO1
      have hz2 : w.heap.size ≤ w1.heap.size := by omega
      clear hH0 hone hx0 hO1 hO0 hz1
      have e4 := (box5b hbox).2.2.2.2
      go_wp2_with fail
      go_loopw [0, 15] (fun v i wr => ∃ k : Nat, k ≤ n3 ∧ i = .int .i64 k ∧ Own B w0 wr v (L ++ 40 :: formL (ks.take k)) ∧ Hid (wr.heap[w.heap.size]? = some (Obj.cells #[Value.bool true, Value.bool h, Value.slice A1 n1 c1, Value.slice A2 n2 c2, Value.slice A3 n3 c3] 25 (0, 0))) ∧ Others w wr ∧ w.heap.size ≤ wr.heap.size) (fun _ i _ => n3 - (intOf i).toNat)
      case atStart => exact ⟨0, Nat.zero_le _, rfl, hH1, hbox, hO2, hz2⟩
      case round =>
        obtain ⟨k, hkn, rfl, hHr, HB, hOr, hzr⟩ := hrel
        clear e4 hbox hH1 hO2 hz2
        by_cases hlt : k < n3
        · obtain ⟨ad, v0, v1, v2, v3, v4, t, rfl, hSa, hks, hm, hin, d0, d1, d2, d3, d4⟩ := (HS.out.keep fun p hp => HHH.out.same hHr p (HSS.out _ hp)).kid hlt
          obtain ⟨l', h', hi', da', ks', B1, m1, j1, B2, m2, j2, B3, m3, j3, _, eE⟩ := hin.form_
          injection eE with eE0 eE; injection eE with eE1 eE; injection eE with eE2 eE; injection eE with eE3 eE; injection eE with eE4 eE
          subst eE0 eE1 eE2 eE3 eE4
          have hbk := below_new wr (.cells #[Value.bool l', Value.bool h', Value.slice B1 m1 j1, Value.slice B2 m2 j2, Value.slice B3 m3 j3] 25)
          have hin2 := hin.old hbk
          have hH2 := hHr.more hbk
          have HT' := hid (formL_take ks k t hks)
          have hdk := formL_take_le ks k t hks
          have HM := hid hm
          have hC := hid (IH.out t HM.out _ S _ B w0 _ _ hin2 HSS.out hH2 HT0.out hG (by simp; omega))
          have HB2 := hid (below_at hbk HB.out)
          have hO3 := hOr.trans (Others.of_below hbk)
          clear hks hm hin hin2 hH2
          go_wp2_with ((with_reducible refine hC.out.mono ?_); rintro e w2 ⟨x, rfl, hHx, hOx, hzx⟩)
          have hBx := hOx _ _ _ _ HB2.out (by decide)
          refine ⟨⟨k + 1, by omega, by go_num, ?_, hBx, hO3.trans hOx, by simp at hzx; omega⟩, by simp [intOf]; omega⟩
          rw [HT'.out]
          have e : L ++ 40 :: formL (ks.take k) ++ form t = L ++ 40 :: (formL (ks.take k) ++ form t) := by simp
          rw [← e]
          exact hHx
        · obtain rfl : k = n3 := by omega
          have hall : Hid (ks.take k = ks) := List.take_of_length_le (by rw [HK.out]; exact Nat.le_refl _)
          rw [hall.out] at hHr
          have hH' := hHr.more (below_new wr (.cells #[.int .u8 41] 5))
          have hone := reads_byte wr 41 rfl
          have hO3 := hOr.trans (Others.of_below (below_new wr (.cells #[.int .u8 41] 5)))
          go_wp2_with (at_builtin; refine wpList_append_own_bytes _ rfl (.tmp 23) (.tmp 24) rfl B w0 _ _ hH' rfl _ _ 1 1 [41] rfl hone (by simp; omega) ?_)
          intro v5 w5 hH5 hO5 hz5
          have hH6 : Own B w0 w5 v5 (L ++ 40 :: (formL ks ++ [41])) := by
            have e : L ++ 40 :: formL ks ++ [41] = L ++ 40 :: (formL ks ++ [41]) := by simp
            first | exact hH5 | (rw [← e]; exact hH5)
          have hO6 := hO3.trans hO5
          have hz6 : w.heap.size ≤ w5.heap.size := by first | omega | (simp at hz5; omega)
          clear hH5 hO5 hH' hone hHr
          go_wp2_with fail
          go_ret
          exact ⟨v5, rfl, hH6, hO6, hz6⟩
    | false =>
      have q1 := r1.size_ (by omega)
      cases h with
      | false =>
        have HF : Hid (form (.mk false false hi da ks) = text da) := by show _ = _; rw [form]; rfl
        rw [HF.out] at hd ⊢
        have hH0 := hH.more (below_new w (.cells #[Value.bool false, Value.bool false, Value.slice A1 n1 c1, Value.slice A2 n2 c2, Value.slice A3 n3 c3] 25))
        have hr2 := (r2.more (S' := fun b => b < B) HSS.out).old (by omega) (below_new w (.cells #[Value.bool false, Value.bool false, Value.slice A1 n1 c1, Value.slice A2 n2 c2, Value.slice A3 n3 c3] 25))
        have hO0 := Others.of_below (below_new w (.cells #[Value.bool false, Value.bool false, Value.slice A1 n1 c1, Value.slice A2 n2 c2, Value.slice A3 n3 c3] 25))
        have hC := hid (appendString_any B w0 v L A2 n2 c2 da _ hH0 hr2 (HT.out _ _ _ hH0) hd)
        clear r1 r2 q1 hH0 hr2 hH
        go_enter Tryz.func46, Tryz.ntmps46
        go_wp2_with ((with_reducible refine hC.out.mono ?_); rintro e w2 ⟨x, rfl, hHx, hOx, hzx⟩)
        go_ret
        exact ⟨x, rfl, hHx, hO0.trans hOx, by simp at hzx; omega⟩
      | true =>
        have HF : Hid (form (.mk false true hi da ks) = 91 :: (text hi ++ 93 :: text da)) := by show _ = _; rw [form]; simp
        rw [HF.out] at hd ⊢
        have hd' : L.length + (text hi).length + (text da).length + 2 ≤ 1099511627776 := by simp at hd; omega
        have hH0 := (hH.more (below_new w (.cells #[Value.bool false, Value.bool true, Value.slice A1 n1 c1, Value.slice A2 n2 c2, Value.slice A3 n3 c3] 25))).more (below_new _ (.cells #[.int .u8 91] 5))
        have hx0 := hid (below_at (below_new _ (.cells #[.int .u8 91] 5)) (heap_alloc_new w (.cells #[Value.bool false, Value.bool true, Value.slice A1 n1 c1, Value.slice A2 n2 c2, Value.slice A3 n3 c3] 25)))
        have hone := reads_byte (w.alloc (.cells #[Value.bool false, Value.bool true, Value.slice A1 n1 c1, Value.slice A2 n2 c2, Value.slice A3 n3 c3] 25)) 91 (g := w.heap.size + 1) (by simp)
        have hO0 := (Others.of_below (below_new w (.cells #[Value.bool false, Value.bool true, Value.slice A1 n1 c1, Value.slice A2 n2 c2, Value.slice A3 n3 c3] 25))).trans (Others.of_below (below_new _ (.cells #[.int .u8 91] 5)))
        clear q1 hd hH
        go_enter Tryz.func46, Tryz.ntmps46
        go_wp2_with (at_builtin; refine wpList_append_own_bytes _ rfl (.tmp 28) (.tmp 29) rfl B w0 v L hH0 rfl _ _ 1 1 [91] rfl hone (by omega) ?_)
        intro v1 w1 hH1 hO1 hz1
        have hbox := hid (hO1 _ _ _ _ hx0.out (by decide))
        have hO2 := hO0.trans hO1
        have hz2 : w.heap.size ≤ w1.heap.size := by omega
        obtain ⟨e0, e1, e2, e3, e4⟩ := box5b hbox.out
        have hr1 := (r1.more (S' := fun b => b < B) HSS.out).keep (HHH.out.same hH1)
        have hC := hid (appendString_any B w0 v1 _ A1 n1 c1 hi _ hH1 hr1 (HT.out _ _ _ hH1) (by simp; omega))
        clear hH0 hone hx0 hO0 hO1 hz1
        go_wp2_with (first
          | ((with_reducible refine hC.out.mono ?_); rintro e w2 ⟨x, rfl, hHx, hOx, hzx⟩
             have hbox2 := hid (hOx _ _ _ _ hbox.out (by decide))
             have hO3 := hO2.trans hOx
             have hHx' := hHx.more (below_new w2 (.cells #[.int .u8 93] 5))
             have hone := reads_byte w2 93 rfl
             have hx3 := hid (below_at (below_new w2 (.cells #[.int .u8 93] 5)) hbox2.out)
             have hO4 := hO3.trans (Others.of_below (below_new w2 (.cells #[.int .u8 93] 5)))
             have hz3 : w.heap.size ≤ w2.heap.size := by omega
             clear hr1 hH1 e0 e1 e2 e3 e4 hO2 hOx hO3 hHx)
          | (at_builtin; refine wpList_append_own_bytes _ rfl (.tmp 35) (.tmp 36) rfl B w0 x _ hHx' rfl _ _ 1 1 [93] rfl hone (by simp; omega) ?_))
        intro v3 w3 hH3 hO5 hz5
        have hbox3 := hid (hO5 _ _ _ _ hx3.out (by decide))
        have hO6 := hO4.trans hO5
        have hz6 : w.heap.size ≤ w3.heap.size := by omega
        obtain ⟨e0, e1, e2, e3, e4⟩ := box5b hbox3.out
        have hr2 := (r2.more (S' := fun b => b < B) HSS.out).keep (HHH.out.same hH3)
        have hC2 := hid (appendString_any B w0 v3 _ A2 n2 c2 da _ hH3 hr2 (HT.out _ _ _ hH3) (by simp; omega))
        clear hone hO4 hO5 hHx' hz5
        go_wp2_with ((with_reducible refine hC2.out.mono ?_); rintro e w4 ⟨y, rfl, hHy, hOy, hzy⟩)
        have hHz : Own B w0 w4 y (L ++ 91 :: (text hi ++ 93 :: text da)) := by
          have e : L ++ [91] ++ text hi ++ [93] ++ text da = L ++ 91 :: (text hi ++ 93 :: text da) := by simp
          simpa using hHy
        have hO7 := hO6.trans hOy
        clear hHy hOy hH3 hr2
        go_wp2_with fail
        go_ret
        exact ⟨y, rfl, hHz, hO7, by omega⟩
theorem ret2_i64 {v : Value} {a b : Int} (h : a = b) : Ending.returned (.tuple #[v, .int .i64 a]) = .returned (.tuple #[v, .int .i64 b]) := by rw [h]
def PutEnd (w : World) (t : SX) (e : Ending) (w' : World) : Prop :=
  (may t = true ∧ ∃ A c, e = .returned (.tuple #[.slice A (form t).length c, .int .i64 0]) ∧ (form t).length ≤ c ∧ Reads w' w'.heap.size 1 A (form t).length (Lib.byteCells (form t)) ∧ Below w.heap.size w w') ∨
  (may t = false ∧ e = .returned (.tuple #[.slice none 0 0, .int .i64 4]) ∧ Below w.heap.size w w')
set_option maxHeartbeats 2000000 in
set_option maxRecDepth 100000 in
theorem put_any (t : SX) (w : World) (S : Nat → Prop) (cs : List Value) (hs : SIn w S t cs) (ht : Tab w) :
    Calls Tryz.prog 26 #[.agg cs.toArray] w (PutEnd w t) := by
  obtain ⟨l, h, hi, da, ks, A1, n1, c1, A2, n2, c2, A3, n3, c3, rfl, rfl⟩ := hs.form_
  generalize hTT : SX.mk l h hi da ks = t at *
  have hb0 := below_new w (.cells #[Value.bool l, Value.bool h, Value.slice A1 n1 c1, Value.slice A2 n2 c2, Value.slice A3 n3 c3] 25)
  have HX := hid (heap_alloc_new w (.cells #[Value.bool l, Value.bool h, Value.slice A1 n1 c1, Value.slice A2 n2 c2, Value.slice A3 n3 c3] 25))
  have C1 := hid (may_any t _ S _ (hs.old hb0) (ht.old hb0))
  have hs0 := hs.size_
  have HS := hid hs0
  have HT := hid ht
  have hG := ht.lt
  have HTT := hid hTT
  clear hs hs0 ht hTT
  cases hm : may t with
  | false =>
    have HM := hid hm
    rw [hm] at C1
    clear hm
    go_enter Tryz.func26, Tryz.ntmps26
    go_wp2_with ((with_reducible refine C1.out.mono ?_); rintro e w2 ⟨rfl, hb2⟩)
    go_ret2
    exact .inr ⟨HM.out, rfl, hb0.trans (hb2.mono (by simp))⟩
  | true =>
    have HM := hid hm
    rw [hm] at C1
    have hfl : (form t).length ≤ 4096 := by rw [may_fits] at hm; exact ((fits_iff _ _ _ _).1 hm).2.2.1
    clear hm
    go_enter Tryz.func26, Tryz.ntmps26
    go_wp2_with ((with_reducible refine C1.out.mono ?_); rintro e w2 ⟨rfl, hb2⟩; obtain ⟨e0, e1, e2, e3, e4⟩ := box5b (below_at hb2 HX.out))
    have hb3 := hb0.trans (hb2.mono (by simp))
    refine (appendValue_any t w2 _ _ w.heap.size w (.slice none 0 0) [] (HS.out.keep fun p hp => hb3.cell hp.2) (fun k hk => hk.2) (Own.none_ hb3 hb3.size) HT.out hG (by simp; omega)).mono ?_
    rintro e w3 ⟨x, rfl, hHx, hOx, hzx⟩
    obtain ⟨A, c, rfl, hc, hr⟩ := hHx.form
    have hb4 := hHx.1
    rw [List.nil_append] at hc hr
    clear hHx hOx
    go_wp2_with fail
    go_ret2
    exact .inl ⟨HM.out, A, c, rfl, hc, hr, hb4⟩
end Go.Proofs.YtcojkmcnigppbaaGreatDoor
