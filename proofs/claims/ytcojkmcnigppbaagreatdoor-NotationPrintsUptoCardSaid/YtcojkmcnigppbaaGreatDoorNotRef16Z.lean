/-
  The contract of the document's answer Print (package greffierref03): a value as it is printed. Conditions: its canonical form has at most 4096 bytes.
-/
import Derived.Test.YtcojkmcnigppbaaGreatDoorNotRef15Z
import Derived.Test.YtcojkmcnigppbaaGreatDoorM5
import Derived.Deep.OwnRows
set_option linter.unusedVariables false
set_option linter.unusedSimpArgs false
open Go.Lib (hid)
open Go.Proofs.YtcojkmcnigppbaaGreatDoor (zA zB zC zD zE zF)
set_option maxRecDepth 100000
namespace Go.Proofs.YtcojkmcnigppbaaGreatDoor
open Go Go.Proofs Go.RowKit Sx Oct Nt Np
open Sch (wp_R gr_val gr_is gr_fresh gr_nil gr_on gr_onV gr_offV op_callR Rk)
theorem join_take_le (L : List (List UInt8)) (k : Nat) : (Lib.join (L.take k) [32]).length ≤ (Lib.join L [32]).length := by
  have ht : ∀ (L : List (List UInt8)) (k : Nat), (Lib.joinTail [32] (L.take k)).length ≤ (Lib.joinTail [32] L).length := by
    intro L
    induction L with
    | nil => intro k; simp
    | cons a r ih =>
      intro k
      cases k with
      | zero => simp [Lib.joinTail]
      | succ k =>
        have := ih k
        simp only [Lib.joinTail, List.take_succ_cons, List.map_cons, List.flatten_cons, List.length_append] at this ⊢
        omega
  cases L with
  | nil => simp
  | cons a r =>
    cases k with
    | zero => simp [Lib.join_nil]
    | succ k =>
      have := ht r k
      rw [List.take_succ_cons, Lib.join_cons, Lib.join_cons, List.length_append, List.length_append]
      omega
theorem join_step (L : List (List UInt8)) (k : Nat) (y : List UInt8) (h : L[k]? = some y) : Lib.join (L.take (k + 1)) [32] = (if k = 0 then y else Lib.join (L.take k) [32] ++ 32 :: y) := by
  cases L with
  | nil => simp at h
  | cons a r =>
    cases k with
    | zero =>
      simp at h
      subst h
      simp [Lib.join_one]
    | succ k =>
      have h' : r[k]? = some y := by simpa using h
      rw [if_neg (by omega), List.take_succ_cons, List.take_succ_cons, Lib.join_cons, Lib.join_cons, Lib.joinTail_take_succ [32] r k y h']
      simp
def pre (ks : List SX) (k : Nat) : List UInt8 := 40 :: Lib.join ((ks.map aPrint).take k) [32]
theorem pre_zero (ks : List SX) : pre ks 0 = [40] := by simp [pre, Lib.join_nil]
theorem pre_one (ks : List SX) (t : SX) (h : ks[0]? = some t) : pre ks 1 = pre ks 0 ++ aPrint t := by
  unfold pre
  rw [join_step _ 0 (aPrint t) (by rw [List.getElem?_map, h]; rfl), if_pos rfl]
  simp [Lib.join_nil]
theorem pre_step (ks : List SX) (k : Nat) (t : SX) (hk : 0 < k) (h : ks[k]? = some t) : pre ks (k + 1) = pre ks k ++ [32] ++ aPrint t := by
  unfold pre
  rw [join_step _ k (aPrint t) (by rw [List.getElem?_map, h]; rfl), if_neg (by omega)]
  simp
theorem pre_le (ks : List SX) (k : Nat) : (pre ks k).length ≤ (Lib.join (ks.map aPrint) [32]).length + 1 := by
  have := join_take_le (ks.map aPrint) k
  unfold pre
  simp
  omega
def bta (l : List UInt8) : ByteArray := ⟨l.toArray⟩
theorem bta_add (a b : List UInt8) : bta a ++ bta b = bta (a ++ b) := by apply ByteArray.ext; simp [bta]
theorem bta_add1 (a : List UInt8) (c : UInt8) : bta a ++ (⟨#[c]⟩ : ByteArray) = bta (a ++ [c]) := by apply ByteArray.ext; simp [bta]
theorem bta_add2 (a : List UInt8) (c : UInt8) (b : List UInt8) : (⟨#[c]⟩ : ByteArray) ++ bta b = bta (c :: b) := by apply ByteArray.ext; simp [bta]
theorem bta_size (a : List UInt8) : (bta a).size = a.length := by show a.toArray.size = _; simp
def RPrSpec (t : SX) : Prop := ∀ (w : World) (S : Nat → Prop) (cs : List Value), SIn w S t cs → (form t).length ≤ 4096 →
  Calls Tryz.prog 16 #[.agg cs.toArray] w fun e w' => e = .returned (.string (bta (aPrint t))) ∧ Below w.heap.size w w'
set_option maxHeartbeats 8000000 in
theorem refPrint_any (t : SX) : RPrSpec t := by
  induction t using SX.ind with
  | H l h hi da ks ih =>
    intro w S cs hs hM
    obtain ⟨_, _, _, _, _, A1, n1, c1, A2, n2, c2, A3, n3, c3, e, rfl⟩ := hs.form_
    cases e
    have hs' := hs.size_
    cases hs' with
    | @mk _ _ _ _ _ _ _ _ _ _ _ _ _ _ xs r1 b1 r2 b2 r3 b3 hk hks =>
    have IH := hid ih
    have hb0 := below_new w (.cells #[Value.bool l, Value.bool h, Value.slice A1 n1 c1, Value.slice A2 n2 c2, Value.slice A3 n3 c3] 25)
    have X1 : Box (w.alloc (.cells #[Value.bool l, Value.bool h, Value.slice A1 n1 c1, Value.slice A2 n2 c2, Value.slice A3 n3 c3] 25)) w.heap.size (.bool l) (.bool h) (.slice A1 n1 c1) (.slice A2 n2 c2) (.slice A3 n3 c3) := heap_alloc_new w _
    have hz0 : (w.alloc (.cells #[Value.bool l, Value.bool h, Value.slice A1 n1 c1, Value.slice A2 n2 c2, Value.slice A3 n3 c3] 25)).heap.size = w.heap.size + 1 := by simp
    have hPR := aPrint_list l h hi da ks
    rw [form] at hM
    have hl1 : hi.length = n1 := by have := r1.1; simpa [Lib.byteCells_length] using this
    have hl2 : da.length = n2 := by have := r2.1; simpa [Lib.byteCells_length] using this
    have ht1 := text_ge hi
    have ht2 := text_ge da
    have hkl := aKids_le true ks
    have hkn := kids_le ks
    cases l with
    | true =>
      simp only [if_true] at hPR hM
      have hM2 : (formL ks).length + 2 ≤ 4096 := by simpa using hM
      have hn3 : n3 ≤ 4096 := by omega
      have HK := hid hk
      have HKS := hid hks
      have R3 := hid r3
      have HF : Hid (∀ t, t ∈ ks → (form t).length ≤ 4096 ∧ (aPrint t).length ≤ 20000) := hid fun t ht => by have h1 := form_kid ht; have h2 := aPrint_le t; omega
      have hjl : (Lib.join (ks.map aPrint) [32]).length ≤ 20000 := by rw [← aKids_join]; omega
      have HPL : Hid (∀ k, (bta (pre ks k)).size ≤ 20001) := hid fun k => by rw [bta_size]; have := pre_le ks k; omega
      have HEND : Hid (bta (aPrint (.mk true h hi da ks)) = bta (pre ks n3) ++ ⟨#[41]⟩) := hid (by
        rw [hPR, bta_add1]
        unfold pre
        rw [List.take_of_length_le (by rw [List.length_map, hk]; exact Nat.le_refl _)]
        rfl)
      have HZ : Hid (bta (pre ks 0) = ⟨#[40]⟩) := hid (by rw [pre_zero]; rfl)
      obtain ⟨d0, d1, d2, d3, d4⟩ := X1.all.1
      replace X1 := hid X1
      replace hb0 := hid hb0
      clear hs r1 r2 r3 hks ih hM hM2 hPR ht1 ht2 hkl hkn hk hjl hl1 hl2 hz0
      go_enter Tryz.func16, Tryz.ntmps16
      go_wp2_with fail
      rw [← HZ.out]
      clear d0 d1 d2 d3 d4
      go_loopw [3, 10] (fun v i wr => ∃ k : Nat, k ≤ n3 ∧ i = .int .i64 k ∧ v = .string (bta (pre ks k)) ∧ Below w.heap.size w wr ∧ Hid (Box wr w.heap.size (.bool true) (.bool h) (.slice A1 n1 c1) (.slice A2 n2 c2) (.slice A3 n3 c3))) (fun _ i _ => n3 - (intOf i).toNat)
      case atStart => exact ⟨0, Nat.zero_le _, rfl, rfl, hb0.out, X1⟩
      case round =>
        obtain ⟨k, hk, rfl, rfl, hbr, hX⟩ := hrel
        clear X1 hb0 HZ
        obtain ⟨d0, d1, d2, d3, d4⟩ := hX.out.all.1
        by_cases hlt : k < n3
        · have hlt' : (k : Int) < n3 := by omega
          have hkl : k < ks.length := by rw [HK.out]; exact hlt
          obtain ⟨t, ht⟩ : ∃ t, t = ks[k] := ⟨_, rfl⟩
          have hks : Hid (ks[k]? = some t) := hid (by rw [ht]; exact List.getElem?_eq_getElem hkl)
          have hM := hid (show t ∈ ks by rw [ht]; exact List.getElem_mem hkl)
          have hri := R3.out.keep (w' := wr) fun q hq => hbr.cell hq.2
          have hin := (HKS.out k t hks.out).keep (w' := wr) fun q hq => hbr.cell hq.2
          obtain ⟨ad, v0, v1, v2, v3, v4, hA3, hS, hcs, e0, e1, e2, e3, e4⟩ := hri.at5 hlt
          subst hA3
          rw [hcs] at hin
          have CA := IH.out t hM.out _ _ _ hin (HF.out t hM.out).1
          obtain ⟨l', h', _, _, _, B1, m1, j1, B2, m2, j2, B3, m3, j3, eT, eE⟩ := hin.form_
          clear eT
          injection eE with eE0 eE; injection eE with eE1 eE; injection eE with eE2 eE; injection eE with eE3 eE; injection eE with eE4 eE
          subst eE0 eE1 eE2 eE3 eE4
          have hps := HPL.out k
          have hpt : (bta (aPrint t)).size ≤ 20000 := by rw [bta_size]; exact (HF.out t hM.out).2
          clear ht hkl hri hcs hin
          rcases Nat.eq_zero_or_pos k with hk0 | hk0
          · have hk0' : ¬ (0 : Int) < k := by omega
            have HN : Hid (bta (pre ks (k + 1)) = bta (pre ks k) ++ bta (aPrint t)) := hid (by have h := hks.out; rw [hk0] at h ⊢; rw [bta_add, pre_one ks t h])
            clear hk0
            generalize bta (pre ks k) = s0 at *
            generalize bta (aPrint t) = s1 at *
            replace CA := hid CA
            have hq : ¬ 9223372036854775807 < s0.size + s1.size := by omega
            go_wp2_with fail
            refine CA.out.mono ?_
            rintro e w5 ⟨rfl, hb5⟩
            go_wp2_with fail
            exact ⟨⟨k + 1, by omega, by go_num, by rw [HN.out], hbr.trans (hb5.mono hbr.size), hid (hX.out.old hb5)⟩, by simp [intOf]; omega⟩
          · have hk0' : (0 : Int) < k := by omega
            have HN : Hid (bta (pre ks (k + 1)) = bta (pre ks k) ++ ⟨#[32]⟩ ++ bta (aPrint t)) := hid (by rw [bta_add1, bta_add, pre_step ks k t hk0 hks.out])
            generalize bta (pre ks k) = s0 at *
            generalize bta (aPrint t) = s1 at *
            replace CA := hid CA
            have hq1 : ¬ 9223372036854775807 < s0.size + 1 := by omega
            have hq2 : ¬ 9223372036854775807 < s0.size + 1 + s1.size := by omega
            go_wp2_with fail
            refine CA.out.mono ?_
            rintro e w5 ⟨rfl, hb5⟩
            go_wp2_with fail
            exact ⟨⟨k + 1, by omega, by go_num, by rw [HN.out], hbr.trans (hb5.mono hbr.size), hid (hX.out.old hb5)⟩, by simp [intOf]; omega⟩
        · obtain rfl : k = n3 := by omega
          have hps := HPL.out k
          generalize bta (pre ks k) = s0 at *
          have hq1 : ¬ 9223372036854775807 < s0.size + 1 := by omega
          go_wp2_with fail
          go_ret
          exact ⟨by rw [HEND.out]; rfl, hbr⟩
    | false =>
      simp only [Bool.false_eq_true, if_false] at hPR hM
      have C2 : Hid (∀ V, Below w.heap.size w V → Calls Tryz.prog 33 #[.slice A2 n2 c2] V fun e w' => e = .returned (.string (bta (aBytes da))) ∧ Below V.heap.size V w') := hid fun V hb => refPrBytes_any A2 n2 c2 da V ((r2.keep fun q hq => hb.cell hq.2).more (S' := fun b => b < V.heap.size) fun b hb2 => Nat.lt_of_lt_of_le hb2.2 hb.size) (by simp at hM; omega)
      cases h with
      | false =>
        simp only [Bool.false_eq_true, if_false] at hPR hM
        rw [hPR]
        clear hs r1 r2 r3 hks ih hM hPR ht1 ht2 hkl hkn
        go_enter Tryz.func16, Tryz.ntmps16
        go_wp2_with fail
        refine (C2.out _ hb0).mono ?_
        rintro e w1 ⟨rfl, hb1⟩
        go_wp2_with fail
        go_ret
        exact ⟨rfl, hb0.trans (hb1.mono hb0.size)⟩
      | true =>
        simp only [if_true] at hPR hM
        have C1 : Hid (∀ V, Below w.heap.size w V → Calls Tryz.prog 33 #[.slice A1 n1 c1] V fun e w' => e = .returned (.string (bta (aBytes hi))) ∧ Below V.heap.size V w') := hid fun V hb => refPrBytes_any A1 n1 c1 hi V ((r1.keep fun q hq => hb.cell hq.2).more (S' := fun b => b < V.heap.size) fun b hb2 => Nat.lt_of_lt_of_le hb2.2 hb.size) (by simp at hM; omega)
        have hz1 : (aBytes hi).length ≤ 20000 := by have := aBytes_le hi; simp at hM; omega
        have hz2 : (aBytes da).length ≤ 20000 := by have := aBytes_le da; simp at hM; omega
        obtain ⟨sH, hsH⟩ : ∃ sH, Hid (sH = bta (aBytes hi)) := ⟨_, hid rfl⟩
        obtain ⟨sD, hsD⟩ : ∃ sD, Hid (sD = bta (aBytes da)) := ⟨_, hid rfl⟩
        rw [← hsH.out] at C1
        rw [← hsD.out] at C2
        have hzH : sH.size ≤ 20000 := by rw [hsH.out]; rw [bta_size]; exact hz1
        have hzD : sD.size ≤ 20000 := by rw [hsD.out]; rw [bta_size]; exact hz2
        have HP : Hid (bta (aPrint (.mk false true hi da ks)) = ⟨#[91]⟩ ++ sH ++ ⟨#[93]⟩ ++ sD) := hid (by
          rw [hPR, hsH.out, hsD.out]
          apply ByteArray.ext
          simp [bta])
        rw [HP.out]
        replace hb0 := hid hb0
        replace X1 := hid X1
        clear hs r1 r2 r3 hks ih hM hPR ht1 ht2 hkl hkn hz1 hz2 HP hsH hsD
        go_enter Tryz.func16, Tryz.ntmps16
        go_upto_region 12 with fail
        (try simp only [Act.put, zA, zB, zC])
        refine wp_R [30, 31, 32, 33, 34, 35, 36, 37, 38, 2] [Rk.val (.pointer (some ⟨w.heap.size, 2, none⟩)), Rk.val (.slice A1 n1 c1), Rk.val (.string sH), Rk.val (.string ((⟨#[91]⟩ : ByteArray) ++ sH)), Rk.val (.string ((⟨#[91]⟩ : ByteArray) ++ sH ++ (⟨#[93]⟩ : ByteArray))), Rk.val (.pointer (some ⟨w.heap.size, 3, none⟩)), Rk.val (.slice A2 n2 c2), Rk.val (.string sD), Rk.val (.string ((⟨#[91]⟩ : ByteArray) ++ sH ++ (⟨#[93]⟩ : ByteArray) ++ sD)), Rk.val (.string ((⟨#[91]⟩ : ByteArray) ++ sH ++ (⟨#[93]⟩ : ByteArray) ++ sD))] rfl (by kernel_rfl) (by kernel_rfl) (by kernel_rfl) (by kernel_rfl) ?hg1 _ (by rfl) ?hf1
        case hg1 =>
          refine gr_val rfl (by kernel_rfl) (fun a V H K Q hK => op_quiet (quiet_field _ (.tmp 1) 2 _ _ (H.old 1 (by kernel_rfl) (by kernel_rfl)) (fs0 _) (by kernel_rfl)) hK) ?_
          refine gr_val rfl (by kernel_rfl) (fun a V H K Q hK => op_quiet (quiet_cell 22 (.tmp 30) _ (H.rel 0 30 (by kernel_rfl) (by kernel_rfl) rfl) Tryz.underlying22 rfl ((X1.out.old H.frame).all.1.2.2.1) (by kernel_rfl)) hK) ?_
          refine gr_val rfl (by kernel_rfl) (fun a V H K Q hK => op_callK #[.tmp 31] #[.slice A1 n1 c1] (by kernel_rfl) (by kernel_rfl) (by kernel_rfl) (map1 (H.rel 1 31 (by kernel_rfl) (by kernel_rfl) rfl)) (C1.out V (hb0.out.trans (H.frame.mono hb0.out.size))) (by kernel_rfl) hK) ?_
          refine gr_val rfl (by kernel_rfl) (fun a V H K Q hK => op_quiet (quiet_strAdd (.const (.string (⟨#[91]⟩ : ByteArray))) (.tmp 32) ((⟨#[91]⟩ : ByteArray)) (sH) (by have h1 : (⟨#[91]⟩ : ByteArray).size = 1 := rfl; have h2 : (⟨#[93]⟩ : ByteArray).size = 1 := rfl; (try simp only [ByteArray.size_append]); omega) rfl (H.rel 2 32 (by kernel_rfl) (by kernel_rfl) rfl) (by kernel_rfl)) hK) ?_
          refine gr_val rfl (by kernel_rfl) (fun a V H K Q hK => op_quiet (quiet_strAdd (.tmp 33) (.const (.string (⟨#[93]⟩ : ByteArray))) ((⟨#[91]⟩ : ByteArray) ++ sH) ((⟨#[93]⟩ : ByteArray)) (by have h1 : (⟨#[91]⟩ : ByteArray).size = 1 := rfl; have h2 : (⟨#[93]⟩ : ByteArray).size = 1 := rfl; (try simp only [ByteArray.size_append]); omega) (H.rel 3 33 (by kernel_rfl) (by kernel_rfl) rfl) rfl (by kernel_rfl)) hK) ?_
          refine gr_val rfl (by kernel_rfl) (fun a V H K Q hK => op_quiet (quiet_field _ (.tmp 1) 3 _ _ (H.old 1 (by kernel_rfl) (by kernel_rfl)) (fs3 _) (by kernel_rfl)) hK) ?_
          refine gr_val rfl (by kernel_rfl) (fun a V H K Q hK => op_quiet (quiet_cell 22 (.tmp 35) _ (H.rel 5 35 (by kernel_rfl) (by kernel_rfl) rfl) Tryz.underlying22 rfl ((X1.out.old H.frame).all.1.2.2.2.1) (by kernel_rfl)) hK) ?_
          refine gr_val rfl (by kernel_rfl) (fun a V H K Q hK => op_callK #[.tmp 36] #[.slice A2 n2 c2] (by kernel_rfl) (by kernel_rfl) (by kernel_rfl) (map1 (H.rel 6 36 (by kernel_rfl) (by kernel_rfl) rfl)) (C2.out V (hb0.out.trans (H.frame.mono hb0.out.size))) (by kernel_rfl) hK) ?_
          refine gr_val rfl (by kernel_rfl) (fun a V H K Q hK => op_quiet (quiet_strAdd (.tmp 34) (.tmp 37) ((⟨#[91]⟩ : ByteArray) ++ sH ++ (⟨#[93]⟩ : ByteArray)) (sD) (by have h1 : (⟨#[91]⟩ : ByteArray).size = 1 := rfl; have h2 : (⟨#[93]⟩ : ByteArray).size = 1 := rfl; (try simp only [ByteArray.size_append]); omega) (H.rel 4 34 (by kernel_rfl) (by kernel_rfl) rfl) (H.rel 7 37 (by kernel_rfl) (by kernel_rfl) rfl) (by kernel_rfl)) hK) ?_
          refine gr_val rfl (by kernel_rfl) (fun a V H K Q hK => op_quiet (quiet_move (.tmp 38) (H.rel 8 38 (by kernel_rfl) (by kernel_rfl) rfl) (.inr (by kernel_rfl))) hK) ?_
          exact gr_nil
        case hf1 =>
        intro x_ V hF
        have e0 : x_ 0 = .pointer (some ⟨w.heap.size, 2, none⟩) := hF.rel 0 _ rfl
        have e1 : x_ 1 = .slice A1 n1 c1 := hF.rel 1 _ rfl
        have e2 : x_ 2 = .string sH := hF.rel 2 _ rfl
        have e3 : x_ 3 = .string ((⟨#[91]⟩ : ByteArray) ++ sH) := hF.rel 3 _ rfl
        have e4 : x_ 4 = .string ((⟨#[91]⟩ : ByteArray) ++ sH ++ (⟨#[93]⟩ : ByteArray)) := hF.rel 4 _ rfl
        have e5 : x_ 5 = .pointer (some ⟨w.heap.size, 3, none⟩) := hF.rel 5 _ rfl
        have e6 : x_ 6 = .slice A2 n2 c2 := hF.rel 6 _ rfl
        have e7 : x_ 7 = .string sD := hF.rel 7 _ rfl
        have e8 : x_ 8 = .string ((⟨#[91]⟩ : ByteArray) ++ sH ++ (⟨#[93]⟩ : ByteArray) ++ sD) := hF.rel 8 _ rfl
        have e9 : x_ 9 = .string ((⟨#[91]⟩ : ByteArray) ++ sH ++ (⟨#[93]⟩ : ByteArray) ++ sD) := hF.rel 9 _ rfl
        have hbf := hF.frame
        clear hF
        simp only [Sch.finL, zA, zB, zC, e0, e1, e2, e3, e4, e5, e6, e7, e8, e9]
        clear e0 e1 e2 e3 e4 e5 e6 e7 e8 e9
        refine tail_nil ?_
        go_wp2_with fail
        go_ret
        exact ⟨rfl, hb0.out.trans (hbf.mono hb0.out.size)⟩
end Go.Proofs.YtcojkmcnigppbaaGreatDoor
