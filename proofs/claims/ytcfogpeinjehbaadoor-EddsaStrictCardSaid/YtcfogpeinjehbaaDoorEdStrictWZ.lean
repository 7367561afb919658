/-
  The walk of the law EddsaStrict. Condition: the program's signatures are as they must be.
-/
import Derived.Test.YtcfogpeinjehbaaDoorEdStrMZ
set_option linter.unusedVariables false
set_option linter.unusedSimpArgs false
open Go.Lib (hid)
open Go.Proofs.YtcfogpeinjehbaaDoor (zA zB zC zD zE zF)
set_option maxRecDepth 100000
namespace Go.Proofs.YtcfogpeinjehbaaDoor
open Go Go.Proofs Go.RowKit F5
open Sch (wp_R gr_val gr_is gr_fresh gr_nil op_callR Rk)
open Sha (sumOf sumOf_length RowsR)

open Sch (gr_on gr_onV)
theorem slice64x (g : Nat) (W : World) : (Instr.sliceAt 28 (.pointer (some ⟨g, 0, none⟩)) none (some (.int .i64 63)) none).run Tryd.prog W = .ok (.slice (some ⟨g, 0, none⟩) 63 64) W := by
 have hal : Tryd.prog.arrayLen 28 = 64 := by kernel_rfl
 have hel : Tryd.prog.elem 28 = 5 := by kernel_rfl
 rw [run_sliceAt_array_h W 28 ⟨g, 0, none⟩ (by rw [hal, hel]; exact Tryd.underlying28) .i64 63 (by omega) (by rw [hal]; omega), hal, hel, Tryd.sizeOf5]
 rfl
theorem quiet_slX {o : Oper} {ev : Operand → Value} {V : World} (x : Operand) (g : Nat) (hx : ev x = .pointer (some ⟨g, 0, none⟩)) (hc : ev (.const (.int .i64 63)) = .int .i64 63) (ho : o.op = .slice 28 x none (some (.const (.int .i64 63))) none) : (execOp ev o).run Tryd.prog V = .ok (.value (.slice (some ⟨g, 0, none⟩) 63 64)) V := by
 have := slice64x g V
 unfold execOp
 simp only [ho, hx, hc, Option.map_none, Option.map_some, Sem.run_bind, this, Sem.run_pure, Result.andThen_ok]
section
variable {o : Oper} {a : Act} {V : World} {K : Act → World → Prop} {Q : Exit → Act → World → Prop} {ib : TypeInfo}
theorem op_row1 (hib : Tryd.prog.info? 5 = some ib) (h0 : ib.zero = some (.int .u8 0)) (h1 : ib.size = 1) (ho : o.op = .buildSlice 23 1 #[(0, .const (.int .u8 0))])
  (hK : ∀ v V', Below V.heap.size V V' → (∃ g, v = .slice (some ⟨g, 0, none⟩) 1 1 ∧ Reads V' V'.heap.size 1 (some ⟨g, 0, none⟩) 1 (Lib.byteCells [0])) → K (a.put o.dst v) V') : o.wp Tryd.prog a V K Q := by
 refine wp_buildSlice 23 5 1 _ ho #[.int .u8 0] ib (.int .u8 0) Tryd.underlying23 hib h0 (by rw [h1]; decide) (by rw [h1]; decide) (by rw [h1]; simp only [List.map_toArray, List.map_cons, List.map_nil]; exact Great.fill_flat [.int .u8 0] _ (by simp [Value.cells]) (by simp)) ?_
 exact hK _ _ ((Below.refl V.heap.size V).alloc (Nat.le_refl _) _) ⟨_, rfl, reads32 (l := [0]) (Blk.new V 5 _) rfl⟩
theorem op_long {sg : List UInt8} {g g9 : Nat} (hib : Tryd.prog.info? 5 = some ib) (h0 : ib.zero = some (.int .u8 0)) (h1 : ib.size = 1) (h2 : ib.bytes = 1) (hl : sg.length = 64) (x y : Operand) (hx : a.eval x = .slice (some ⟨g, 0, none⟩) 64 64) (hy : a.eval y = .slice (some ⟨g9, 0, none⟩) 1 1)
  (hr : Reads V V.heap.size 1 (some ⟨g, 0, none⟩) 64 (Lib.byteCells sg)) (hr9 : Reads V V.heap.size 1 (some ⟨g9, 0, none⟩) 1 (Lib.byteCells [0])) (ho : o.op = .call { callee := .builtin .append, args := #[x, y], argTypes := #[23, 23] })
  (hK : ∀ v V', Below V.heap.size V V' → (∃ A c, v = .slice A 65 c ∧ 65 ≤ c ∧ c ≤ maxLen ∧ Reads V' V'.heap.size 1 A 65 (Lib.byteCells (sg ++ [0]))) → K (a.put o.dst v) V') : o.wp Tryd.prog a V K Q := by
 obtain ⟨ad, e1, _, c1⟩ := hr.2 (by omega)
 injection e1 with e1
 subst e1
 obtain ⟨ad, e1, _, c2⟩ := hr9.2 (by omega)
 injection e1 with e1
 subst e1
 have hrun := run_append_grow V 23 o.type 5 ib (.int .u8 0) Tryd.underlying23 hib h0 ⟨g, 0, none⟩ 64 64 (Lib.byteCells sg) (by rw [h1, Lib.byteCells_length, hl]) c1 ⟨g9, 0, none⟩ 1 1 (Lib.byteCells [0]) (by rw [h1]; rfl) c2 (by omega) (by omega) (by rw [h2]; decide)
 have hge := grownCap_ge V (64 + 1) 64 5
 have hle := grownCap_le_maxLen V (64 + 1) 64 5 (by unfold maxLen; omega)
 unfold Oper.wp execOp
 simp only [ho, resolve, invoke, builtin, Sem.run_bind, Sem.run_pure, Result.andThen_ok, List.map_toArray, List.map_cons, List.map_nil, hx, hy, hrun]
 generalize Builtin.zeroCells (Value.int .u8 0).cells (grownCap V (64 + 1) 64 5 - (64 + 1)) = zs
 have hb := ((Below.refl V.heap.size V).drew).alloc (Nat.le_refl _) (.cells ((Lib.byteCells sg).toArray ++ (Lib.byteCells [0]).toArray ++ zs) 5)
 have hB := Blk.new V.drew 5 ((Lib.byteCells sg).toArray ++ (Lib.byteCells [0]).toArray ++ zs)
 refine hK _ _ hb ⟨_, _, rfl, hge, hle, by simp [Lib.byteCells_length, hl], fun _ => ⟨_, rfl, by simp, fun j u hj => ?_⟩⟩
 have e2 : (⟨V.heap.size, 0, none⟩ : Addr).add j = ⟨V.heap.size, j, none⟩ := by unfold Addr.add; split <;> simp_all
 have hj2 : (Lib.byteCells sg ++ Lib.byteCells [0])[j]? = some u := by rw [← Lib.byteCells_append]; exact hj
 have hlt : j < (Lib.byteCells sg ++ Lib.byteCells [0]).length := (List.getElem?_eq_some_iff.1 hj2).1
 rw [e2]
 refine (hB.cell j).trans ?_
 rw [Array.getElem?_append_left (by simpa using hlt)]
 simpa using hj2
end
set_option maxHeartbeats 16000000 in
theorem estrict_walk {Q : World → Prop} (H0 : EdOk Q) (x0 : Nat) (hx0 : x0 < 2 ^ 256) (At : Option Addr) (nt ct : Nat) (lt : List UInt8) (w : World) (hrt : Reads w w.heap.size 1 At nt (Lib.byteCells lt)) (hct : nt ≤ ct) (hmt : ct ≤ maxLen) (hQ : Q w) :
  Calls Tryd.prog 3 #[.agg (bytesA (fbytes x0)), .slice At nt ct] w fun e w' => e = .returned (.bool true) ∧ Below w.heap.size w w' := by
 have HQ := hid hQ
 obtain ⟨l, hl⟩ : ∃ l, Hid (l = fbytes x0) := ⟨_, hid rfl⟩
 have ll : l.length = 32 := by rw [hl.out]; exact fbytes_length _
 rw [← hl.out]
 by_cases h3 : 500 < nt
 ·have h3' : decide ((500 : Int) < (nt : Int)) = true := by simp; omega
  have hb0 : Below w.heap.size w (w.alloc (.cells (bytesA l) 22)) := (Below.refl _ _).alloc (Nat.le_refl _) _
  have HB := hid hb0
  clear hrt hb0
  go_enter Tryd.func3, Tryd.ntmps3
  go_wp2_with fail
  refine (awake8_any H0 _ (H0.old HQ.out HB.out)).mono ?_
  rintro e w9 ⟨rfl, hb9⟩
  have hbe := hid (HB.out.trans (hb9.mono HB.out.size))
  clear hb9
  go_wp2
  go_ret
  exact ⟨rfl, hbe.out⟩
 have h3' : decide ((500 : Int) < (nt : Int)) = false := by simp; omega
 have hlt : lt.length = nt := by have := hrt.1; rw [Lib.byteCells_length] at this; omega
 obtain ⟨z, hz⟩ : ∃ z, Hid (z = bytesA (List.replicate 32 0)) := ⟨_, hid rfl⟩
 have hz0 : ∀ W, (zeroValue 22).run Tryd.prog W = .ok (.agg z) W := by rw [hz.out]; exact zero32
 have hzs : Hid (z.size = 32) := by rw [hz.out, bytesA_size]; exact hid rfl
 obtain ⟨y, hy⟩ : ∃ z, Hid (z = bytesA (List.replicate 64 0)) := ⟨_, hid rfl⟩
 have hy0 : ∀ W, (zeroValue 28).run Tryd.prog W = .ok (.agg y) W := by rw [hy.out]; exact zero64
 have hys : Hid (y.size = 64) := by rw [hy.out, bytesA_size]; exact hid rfl
 obtain ⟨pl, hpl⟩ : ∃ x, Hid (x = pubL l) := ⟨_, hid rfl⟩
 obtain ⟨F, hF⟩ : ∃ x, Hid (x = sigF l lt) := ⟨_, hid rfl⟩
 obtain ⟨s, hss⟩ := named (sigS l lt)
 obtain ⟨sg, hsg⟩ : ∃ x, Hid (x = F ++ fbytes s) := ⟨_, hid rfl⟩
 have hsl : s < LL := by rw [hss.out]; exact sigS_lt l lt
 have pll : Hid (pl.length = 32) := by rw [hpl.out]; exact hid (ptL_length _)
 have Fl : Hid (F.length = 32) := by rw [hF.out]; exact hid (ptL_length _)
 have sgl : Hid (sg.length = 64) := by rw [hsg.out, List.length_append, Fl.out, fbytes_length]; exact hid rfl
 have esg : signL l lt = sg := by rw [hsg.out, hF.out, hss.out]; rfl
 have vOK : verB pl lt sg = true := by rw [← esg, hpl.out]; exact sign_right l lt
 have vBig : verB pl lt (F ++ fbytes (s + LL)) = false := ver_big Fl.out hsl
 have vCut : verB pl lt (sg.take 63) = false := ver_len (by rw [List.length_take, sgl.out]; decide)
 have vLong : verB pl lt (sg ++ [0]) = false := ver_len (by rw [List.length_append, sgl.out]; decide)
 have HT := hid hrt
 have HCT := hid hct
 have CP : Hid (∀ g V, Below w.heap.size w V → Reads V V.heap.size 1 (some ⟨g, 0, none⟩) 32 (Lib.byteCells l) → Calls Tryd.prog 5 #[.slice (some ⟨g, 0, none⟩) 32 32] V fun e w' => e = .returned (.tuple #[.agg (bytesA pl), .int .i64 0]) ∧ Below V.heap.size V w') := hid fun g V hV h => by
  have := H0.pub (some ⟨g, 0, none⟩) 32 32 l V (by omega) (by omega) (by unfold maxLen; omega) h (H0.old HQ.out hV)
  unfold pubO errO at this
  rw [if_pos ll, if_pos ll] at this
  rw [hpl.out]; exact this
 have CS : Hid (∀ g V, Below w.heap.size w V → Reads V V.heap.size 1 (some ⟨g, 0, none⟩) 32 (Lib.byteCells l) → Calls Tryd.prog 6 #[.slice (some ⟨g, 0, none⟩) 32 32, .slice At nt ct] V fun e w' => e = .returned (.tuple #[.agg (bytesA sg), .int .i64 0]) ∧ Below V.heap.size V w') := hid fun g V hV h => by
  have := H0.sign (some ⟨g, 0, none⟩) 32 32 l At nt ct lt V (by omega) (by omega) (by unfold maxLen; omega) h (by omega) hct hmt ((hrt.below hV).more hV.size) (H0.old HQ.out hV)
  unfold sigO errO at this
  rw [if_pos ll, if_pos ll, esg] at this
  exact this
 have CV : Hid (∀ g V (As : Option Addr) (ns cs : Nat) (ls : List UInt8) (b : Bool), verB pl lt ls = b → Below w.heap.size w V → Reads V V.heap.size 1 (some ⟨g, 0, none⟩) 32 (Lib.byteCells pl) → Reads V V.heap.size 1 As ns (Lib.byteCells ls) → ns ≤ 100 → ns ≤ cs → cs ≤ maxLen →
   Calls Tryd.prog 7 #[.slice (some ⟨g, 0, none⟩) 32 32, .slice At nt ct, .slice As ns cs] V fun e w' => e = .returned (.bool b) ∧ Below V.heap.size V w') := hid fun g V As ns cs ls b hb hV h1 h2 k1 k2 k3 => by
  rw [← hb]; exact H0.verify (some ⟨g, 0, none⟩) 32 32 pl At nt ct lt As ns cs ls V (by omega) (by omega) (by unfold maxLen; omega) h1 (by omega) hct hmt ((hrt.below hV).more hV.size) k1 k2 k3 h2 (H0.old HQ.out hV)
 have CW : Hid (∀ V, Below w.heap.size w V → Calls Tryd.prog 4 #[] V fun e w' => e = .returned (.bool true) ∧ Below V.heap.size V w') := hid fun V hV => awake8_any H0 V (H0.old HQ.out hV)
 have HVO := hid vOK
 have HVB := hid vBig
 have HVC := hid vCut
 have HVL := hid vLong
 have HSL := hid hsl
 have LLen := hid ll
 have B2 := hid (Blk.new w 22 (bytesA l))
 have HB := hid ((Below.refl w.heap.size w).alloc (Nat.le_refl _) (.cells (bytesA l) 22))
 obtain ⟨ib, hib, hzb0, hzb1, hzb2⟩ := info_parts infoByte
 have HIB := hid hib
 clear hib hz hy hpl hF hss hl hrt hct hmt hQ h3 hlt hsl ll esg vOK vBig vCut vLong
 go_enter Tryd.func3, Tryd.ntmps3
 go_upto_region 3 with fail
 generalize w.alloc (.cells (bytesA l) 22) = W at *
 (try simp only [Act.put, zA, zB, zC])
 refine wp_R [19, 20, 18, 21, 22, 5] [Rk.val (.slice (some ⟨w.heap.size, 0, none⟩) 32 32), Rk.val (.tuple #[.agg (bytesA pl), .int .i64 0]), Rk.val (.tuple #[.agg (bytesA pl), .int .i64 0]), Rk.val (.agg (bytesA pl)), Rk.val (.int .i64 0), Rk.fresh 22 z] rfl (by kernel_rfl) (by kernel_rfl) (by kernel_rfl) (by kernel_rfl) ?hg1 _ (by rfl) ?hf1
 case hg1 =>
  refine gr_val rfl (fun a V H K Q hK => op_quiet (quiet_slice32 (.tmp 2) w.heap.size (H.old 2) (by kernel_rfl)) hK) ?_
  refine gr_val rfl (fun a V H K Q hK => op_callK #[.tmp 19] #[.slice (some ⟨w.heap.size, 0, none⟩) 32 32] (map1 (H.rel 0 19 rfl)) (CP.out _ V (HB.out.trans (H.frame.mono HB.out.size)) (reads32 (B2.out.old H.frame) LLen.out)) hK) ?_
  refine gr_val rfl (fun a V H K Q hK => op_quiet (quiet_move (.tmp 20) (H.rel 1 20 rfl) (.inl (by kernel_rfl))) hK) ?_
  refine gr_val rfl (fun a V H K Q hK => op_quiet (quiet_extract (t := #[.agg (bytesA pl), .int .i64 0]) (.tmp 18) 0 (H.rel 2 18 rfl) rfl (by kernel_rfl)) hK) ?_
  refine gr_val rfl (fun a V H K Q hK => op_quiet (quiet_extract (t := #[.agg (bytesA pl), .int .i64 0]) (.tmp 18) 1 (H.rel 2 18 rfl) rfl (by kernel_rfl)) hK) ?_
  refine gr_fresh rfl (by kernel_rfl) hz0 ?_
  exact gr_nil
 case hf1 =>
 intro x V hF
 have e0 : x 0 = .slice (some ⟨w.heap.size, 0, none⟩) 32 32 := hF.rel 0 _ rfl
 have e1 : x 1 = .tuple #[.agg (bytesA pl), .int .i64 0] := hF.rel 1 _ rfl
 have e2 : x 2 = .tuple #[.agg (bytesA pl), .int .i64 0] := hF.rel 2 _ rfl
 have e3 : x 3 = .agg (bytesA pl) := hF.rel 3 _ rfl
 have e4 : x 4 = .int .i64 0 := hF.rel 4 _ rfl
 obtain ⟨g5, e5, lg5, bg5⟩ := hF.new 5 _ _ rfl
 have hbf := hF.frame
 clear hF
 simp only [Sch.finL, zA, zB, zC, e0, e1, e2, e3, e4, e5]
 clear e0 e1 e2 e3 e4 e5
 refine wpList_store_row rfl 22 (.tmp 5) (.tmp 21) rfl g5 (bytesA pl) rfl rfl 22 z bg5 (inf32 pll.out) (by rw [hzs.out, bytesA_size, pll.out]) (bytesA_one _) ?_
 have B2_1 := hid ((B2.out.old hbf).rowFar (Nat.ne_of_lt (Nat.lt_of_lt_of_le B2.out.lt lg5)) (bytesA pl) : Blk (V.setRow g5 (bytesA pl)) w.heap.size 22 (bytesA l))
 have B5_1 := hid (bg5.row (bytesA pl) : Blk (V.setRow g5 (bytesA pl)) g5 22 (bytesA pl))
 have HB_1 := hid (below_row (HB.out.trans (hbf.mono HB.out.size)) (Nat.le_trans HB.out.size lg5) (bytesA pl) : Below w.heap.size w (V.setRow g5 (bytesA pl)))
 clear B2 HB hbf lg5 bg5
 generalize (V.setRow g5 (bytesA pl)) = W1 at *
 go_upto_region 4 with fail
 (try simp only [Act.put, zA, zB, zC])
 refine wp_R [24, 25, 26, 23, 27, 28, 7] [Rk.val (.slice (some ⟨w.heap.size, 0, none⟩) 32 32), Rk.val (.slice At nt ct), Rk.val (.tuple #[.agg (bytesA sg), .int .i64 0]), Rk.val (.tuple #[.agg (bytesA sg), .int .i64 0]), Rk.val (.agg (bytesA sg)), Rk.val (.int .i64 0), Rk.fresh 28 y] rfl (by kernel_rfl) (by kernel_rfl) (by kernel_rfl) (by kernel_rfl) ?hg2 _ (by rfl) ?hf2
 case hg2 =>
  refine gr_val rfl (fun a V H K Q hK => op_quiet (quiet_slice32 (.tmp 2) w.heap.size (H.old 2) (by kernel_rfl)) hK) ?_
  refine gr_val rfl (fun a V H K Q hK => op_quiet (quiet_move (.tmp 1) (H.old 1) (.inl (by kernel_rfl))) hK) ?_
  refine gr_val rfl (fun a V H K Q hK => op_callK #[.tmp 24, .tmp 25] #[.slice (some ⟨w.heap.size, 0, none⟩) 32 32, .slice At nt ct] (map2 (H.rel 0 24 rfl) (H.rel 1 25 rfl)) (CS.out _ V (HB_1.out.trans (H.frame.mono HB_1.out.size)) (reads32 (B2_1.out.old H.frame) LLen.out)) hK) ?_
  refine gr_val rfl (fun a V H K Q hK => op_quiet (quiet_move (.tmp 26) (H.rel 2 26 rfl) (.inl (by kernel_rfl))) hK) ?_
  refine gr_val rfl (fun a V H K Q hK => op_quiet (quiet_extract (t := #[.agg (bytesA sg), .int .i64 0]) (.tmp 23) 0 (H.rel 3 23 rfl) rfl (by kernel_rfl)) hK) ?_
  refine gr_val rfl (fun a V H K Q hK => op_quiet (quiet_extract (t := #[.agg (bytesA sg), .int .i64 0]) (.tmp 23) 1 (H.rel 3 23 rfl) rfl (by kernel_rfl)) hK) ?_
  refine gr_fresh rfl (by kernel_rfl) hy0 ?_
  exact gr_nil
 case hf2 =>
 intro x V hF
 have e0 : x 0 = .slice (some ⟨w.heap.size, 0, none⟩) 32 32 := hF.rel 0 _ rfl
 have e1 : x 1 = .slice At nt ct := hF.rel 1 _ rfl
 have e2 : x 2 = .tuple #[.agg (bytesA sg), .int .i64 0] := hF.rel 2 _ rfl
 have e3 : x 3 = .tuple #[.agg (bytesA sg), .int .i64 0] := hF.rel 3 _ rfl
 have e4 : x 4 = .agg (bytesA sg) := hF.rel 4 _ rfl
 have e5 : x 5 = .int .i64 0 := hF.rel 5 _ rfl
 obtain ⟨g7, e6, lg7, bg7⟩ := hF.new 6 _ _ rfl
 have hbf := hF.frame
 clear hF
 simp only [Sch.finL, zA, zB, zC, e0, e1, e2, e3, e4, e5, e6]
 clear e0 e1 e2 e3 e4 e5 e6
 refine wpList_store_row rfl 28 (.tmp 7) (.tmp 27) rfl g7 (bytesA sg) rfl rfl 28 y bg7 (inf64 sgl.out) (by rw [hys.out, bytesA_size, sgl.out]) (bytesA_one _) ?_
 have B5_2 := hid ((B5_1.out.old hbf).rowFar (Nat.ne_of_lt (Nat.lt_of_lt_of_le B5_1.out.lt lg7)) (bytesA sg) : Blk (V.setRow g7 (bytesA sg)) g5 22 (bytesA pl))
 have B7_2 := hid (bg7.row (bytesA sg) : Blk (V.setRow g7 (bytesA sg)) g7 28 (bytesA sg))
 have HB_2 := hid (below_row (HB_1.out.trans (hbf.mono HB_1.out.size)) (Nat.le_trans HB_1.out.size lg7) (bytesA sg) : Below w.heap.size w (V.setRow g7 (bytesA sg)))
 clear B2_1 B5_1 HB_1 hbf lg7 bg7
 generalize (V.setRow g7 (bytesA sg)) = W2 at *
 go_upto_region 5 with fail
 (try simp only [Act.put, zA, zB, zC])
 refine wp_R [29, 30, 31, 32, 33, 34, 35, 36, 37, 38, 39, 40, 41] [Rk.val (.int .i64 0), Rk.val (.bool false), Rk.val (.bool false), Rk.val (.int .i64 0), Rk.val (.bool false), Rk.val (.bool false), Rk.val (.bool false), Rk.val (.slice (some ⟨g5, 0, none⟩) 32 32), Rk.val (.slice At nt ct), Rk.val (.slice (some ⟨g7, 0, none⟩) 64 64), Rk.val (.bool true), Rk.val (.bool false), Rk.val (.bool false)] rfl (by kernel_rfl) (by kernel_rfl) (by kernel_rfl) (by kernel_rfl) ?hg3 _ (by rfl) ?hf3
 case hg3 =>
  refine gr_val rfl (fun a V H K Q hK => op_quiet (quiet_move (.tmp 6) (H.old 6) (.inl (by kernel_rfl))) hK) ?_
  refine gr_val rfl (fun a V H K Q hK => op_quiet (quiet_neq0 25 25 (.tmp 29) (H.rel 0 29 rfl) rfl (by kernel_rfl) Tryd.underlying25) hK) ?_
  refine gr_val rfl (fun a V H K Q hK => op_quiet (quiet_move (.tmp 30) (H.rel 1 30 rfl) (.inl (by kernel_rfl))) hK) ?_
  refine gr_onV (j := 2) (d := 31) (want := false) (u := .bool false) rfl (by kernel_rfl) (by kernel_rfl) (fun a V H => (H.rel 2 31 rfl)) (by kernel_rfl) (fun a V H K Q hK => op_quiet (quiet_move (.tmp 8) (H.old 8) (.inl (by kernel_rfl))) hK) ?_
  refine gr_onV (j := 2) (d := 31) (want := false) (u := .bool false) rfl (by kernel_rfl) (by kernel_rfl) (fun a V H => (H.rel 2 31 rfl)) (by kernel_rfl) (fun a V H K Q hK => op_quiet (quiet_neq0 25 25 (.tmp 32) (H.rel 3 32 rfl) rfl (by kernel_rfl) Tryd.underlying25) hK) ?_
  refine gr_val rfl (fun a V H K Q hK => op_quiet (quiet_pickF (.tmp 31) (.const (.bool true)) (.tmp 33) (H.rel 2 31 rfl) (H.rel 4 33 rfl) (by kernel_rfl)) hK) ?_
  refine gr_val rfl (fun a V H K Q hK => op_quiet (quiet_move (.tmp 34) (H.rel 5 34 rfl) (.inl (by kernel_rfl))) hK) ?_
  refine gr_onV (j := 6) (d := 35) (want := false) (u := .bool false) rfl (by kernel_rfl) (by kernel_rfl) (fun a V H => (H.rel 6 35 rfl)) (by kernel_rfl) (fun a V H K Q hK => op_quiet (quiet_slice32 (.tmp 5) g5 (H.old 5) (by kernel_rfl)) hK) ?_
  refine gr_onV (j := 6) (d := 35) (want := false) (u := .bool false) rfl (by kernel_rfl) (by kernel_rfl) (fun a V H => (H.rel 6 35 rfl)) (by kernel_rfl) (fun a V H K Q hK => op_quiet (quiet_move (.tmp 1) (H.old 1) (.inl (by kernel_rfl))) hK) ?_
  refine gr_onV (j := 6) (d := 35) (want := false) (u := .bool false) rfl (by kernel_rfl) (by kernel_rfl) (fun a V H => (H.rel 6 35 rfl)) (by kernel_rfl) (fun a V H K Q hK => op_quiet (quiet_slC (.tmp 7) g7 (H.old 7) (by kernel_rfl)) hK) ?_
  refine gr_onV (j := 6) (d := 35) (want := false) (u := .bool false) rfl (by kernel_rfl) (by kernel_rfl) (fun a V H => (H.rel 6 35 rfl)) (by kernel_rfl) (fun a V H K Q hK => op_callK #[.tmp 36, .tmp 37, .tmp 38] #[.slice (some ⟨g5, 0, none⟩) 32 32, .slice At nt ct, .slice (some ⟨g7, 0, none⟩) 64 64] (map3 (H.rel 7 36 rfl) (H.rel 8 37 rfl) (H.rel 9 38 rfl)) (CV.out g5 V (some ⟨g7, 0, none⟩) 64 64 sg true HVO.out (HB_2.out.trans (H.frame.mono HB_2.out.size)) (reads32 (B5_2.out.old H.frame) pll.out) (reads32 (B7_2.out.old H.frame) sgl.out) (by omega) (by omega) (by unfold maxLen; omega)) hK) ?_
  refine gr_onV (j := 6) (d := 35) (want := false) (u := .bool false) rfl (by kernel_rfl) (by kernel_rfl) (fun a V H => (H.rel 6 35 rfl)) (by kernel_rfl) (fun a V H K Q hK => op_quiet (quiet_not (b := true) 4 (.tmp 39) (H.rel 10 39 rfl) (by kernel_rfl)) hK) ?_
  refine gr_val rfl (fun a V H K Q hK => op_quiet (quiet_pickF (.tmp 35) (.const (.bool true)) (.tmp 40) (H.rel 6 35 rfl) (H.rel 11 40 rfl) (by kernel_rfl)) hK) ?_
  exact gr_nil
 case hf3 =>
 intro x V hF
 have e0 : x 0 = .int .i64 0 := hF.rel 0 _ rfl
 have e1 : x 1 = .bool false := hF.rel 1 _ rfl
 have e2 : x 2 = .bool false := hF.rel 2 _ rfl
 have e3 : x 3 = .int .i64 0 := hF.rel 3 _ rfl
 have e4 : x 4 = .bool false := hF.rel 4 _ rfl
 have e5 : x 5 = .bool false := hF.rel 5 _ rfl
 have e6 : x 6 = .bool false := hF.rel 6 _ rfl
 have e7 : x 7 = .slice (some ⟨g5, 0, none⟩) 32 32 := hF.rel 7 _ rfl
 have e8 : x 8 = .slice At nt ct := hF.rel 8 _ rfl
 have e9 : x 9 = .slice (some ⟨g7, 0, none⟩) 64 64 := hF.rel 9 _ rfl
 have e10 : x 10 = .bool true := hF.rel 10 _ rfl
 have e11 : x 11 = .bool false := hF.rel 11 _ rfl
 have e12 : x 12 = .bool false := hF.rel 12 _ rfl
 have hbf := hF.frame
 clear hF
 simp only [Sch.finL, zA, zB, zC, e0, e1, e2, e3, e4, e5, e6, e7, e8, e9, e10, e11, e12]
 clear e0 e1 e2 e3 e4 e5 e6 e7 e8 e9 e10 e11 e12
 refine tail_nil ?_
 have B5_3 := hid ((B5_2.out.old hbf) : Blk V g5 22 (bytesA pl))
 have B7_3 := hid ((B7_2.out.old hbf) : Blk V g7 28 (bytesA sg))
 have HB_3 := hid (HB_2.out.trans (hbf.mono HB_2.out.size) : Below w.heap.size w V)
 clear B5_2 B7_2 HB_2 hbf
 generalize V = W3 at *
 have BL0 := hid (Blk.new W3 5 #[.int .u8 237, .int .u8 211, .int .u8 245, .int .u8 92, .int .u8 26, .int .u8 99, .int .u8 18, .int .u8 88, .int .u8 214, .int .u8 156, .int .u8 247, .int .u8 162, .int .u8 222, .int .u8 249, .int .u8 222, .int .u8 20, .int .u8 0, .int .u8 0, .int .u8 0, .int .u8 0, .int .u8 0, .int .u8 0, .int .u8 0, .int .u8 0, .int .u8 0, .int .u8 0, .int .u8 0, .int .u8 0, .int .u8 0, .int .u8 0, .int .u8 0, .int .u8 16])
 have HB8 := hid (below_new1 W3 (.cells #[.int .u8 237, .int .u8 211, .int .u8 245, .int .u8 92, .int .u8 26, .int .u8 99, .int .u8 18, .int .u8 88, .int .u8 214, .int .u8 156, .int .u8 247, .int .u8 162, .int .u8 222, .int .u8 249, .int .u8 222, .int .u8 20, .int .u8 0, .int .u8 0, .int .u8 0, .int .u8 0, .int .u8 0, .int .u8 0, .int .u8 0, .int .u8 0, .int .u8 0, .int .u8 0, .int .u8 0, .int .u8 0, .int .u8 0, .int .u8 0, .int .u8 0, .int .u8 16] 5))
 go_upto_region 8 with fail
 generalize W3.alloc (.cells #[.int .u8 237, .int .u8 211, .int .u8 245, .int .u8 92, .int .u8 26, .int .u8 99, .int .u8 18, .int .u8 88, .int .u8 214, .int .u8 156, .int .u8 247, .int .u8 162, .int .u8 222, .int .u8 249, .int .u8 222, .int .u8 20, .int .u8 0, .int .u8 0, .int .u8 0, .int .u8 0, .int .u8 0, .int .u8 0, .int .u8 0, .int .u8 0, .int .u8 0, .int .u8 0, .int .u8 0, .int .u8 0, .int .u8 0, .int .u8 0, .int .u8 0, .int .u8 16] 5) = W8 at *
 (try simp only [Act.put, zA, zB, zC])
 have BL1 := BL0.out
 rw [LL_lit] at BL1
 have BL := hid BL1
 clear BL0 BL1
 obtain ⟨gl, hgl⟩ := named W3.heap.size
 rw [← hgl.out] at BL ⊢
 have B5_8 := hid (B5_3.out.old HB8.out)
 have B7_8 := hid (B7_3.out.old HB8.out)
 have HB_8 := hid (HB_3.out.trans (HB8.out.mono HB_3.out.size))
 clear B5_3 B7_3 HB_3 hgl HB8
 have hown0 := owns_empty W8
 have hb9 := below_new1 W8 (.cells #[] 5)
 have hrS := reads32 (B7_8.out.old hb9) sgl.out
 have hslc := slice64c g7
 obtain ⟨B0, hB0⟩ := named W8.heap.size
 go_upto_region 9 with (at_builtin; refine wpList_append_any _ rfl (.tmp 43) (.tmp 44) 23 rfl W8.heap.size 5 ib (.int .u8 0) 1 1 Tryd.underlying23 HIB.out hzb0 hzb1 hzb2 rfl (by omega) _ 0 [] rfl hown0 _ (some ⟨g7, 0, none⟩) 64 64 (Lib.byteCells sg) rfl hrS (Lib.byteCells_one _) (by unfold maxLen; omega) (by omega) (by simp) ?_; intro v5 w5 hown5 hg5 hv5)
 simp only [Nat.zero_add, List.nil_append] at hown5
 obtain ⟨gm, cm, rfl, hg1, hgw, hc5, hm5, hfz⟩ := owns_open hown5 (by omega)
 have hr5 := Reads.of_own hown5
 have hb5 := hid (hb9.grown hg5 hb9.size (fun k e => by
  have : k = W8.heap.size := by simpa [Act.eval, Value.ownBlock] using e.symm
  omega))
 have B5_9 := hid (B5_8.out.old hb5.out)
 have B7_9 := hid (B7_8.out.old hb5.out)
 have BL_9 := hid (BL.out.old hb5.out)
 have N5 := hid (Nat.ne_of_lt (Nat.lt_of_lt_of_le B5_8.out.lt hg1))
 have N7 := hid (Nat.ne_of_lt (Nat.lt_of_lt_of_le B7_8.out.lt hg1))
 have NL := hid (Nat.ne_of_lt (Nat.lt_of_lt_of_le BL.out.lt hg1))
 have HB_9 := hid (HB_8.out.trans (hb5.out.mono HB_8.out.size))
 have hgl0 : w.heap.size ≤ gm := Nat.le_trans HB_8.out.size hg1
 have HG := hid hgl0
 have HM5 := hid hm5
 have HC5 := hid hc5
 have hgw5 := hgw
 rw [hsg.out] at hr5
 have HR5 := hid hr5
 have HFZ := hid hfz
 have HGW := hid hgw
 clear hown0 hb9 hrS hown5 hg5 hv5 hr5 hb5 hgl0 hm5 hc5 hfz hgw hgw5 hg1 B5_8 B7_8 BL HB_8 hB0 B0 hslc
 go_upto_region 10 with fail
 (try simp only [Act.put, zA, zB, zC])
 go_wp2_with fail
 go_loopg [11, 12] 32 (fun gg cv iv wr => ∃ (k cc : Nat) (out : List UInt8), cv = .int .i64 (cc : Int) ∧ iv = .int .i64 (k : Int) ∧ gg + k = 32 ∧ MoreL (fbytes s) (fbytes LL) k cc out ∧ Reads wr wr.heap.size 1 (some ⟨gm, 0, none⟩) 64 (Lib.byteCells (F ++ (out ++ (fbytes s).drop k))) ∧ (∀ i, wr.frozen? ⟨gm, i, none⟩ = false) ∧
  Blk wr g5 22 (bytesA pl) ∧ Blk wr g7 28 (bytesA sg) ∧ Blk wr gl 5 (bytesA (fbytes LL)) ∧ Below w.heap.size w wr)
 case atStart => exact ⟨0, 0, [], rfl, rfl, rfl, MoreL.zero _ _, HR5.out, HFZ.out, B5_9.out, B7_9.out, BL_9.out, HB_9.out⟩
 case round =>
  obtain ⟨k, cc, out, rfl, rfl, hgk, hO, hR, hfz, hB5, hB7, hBL, hbel⟩ := hrel
  clear HR5 HFZ B5_9 B7_9 BL_9 HB_9
  by_cases hlt : k < 32
  ·obtain ⟨m, hm⟩ := named (32 + k)
   have hm64 : m < 64 := by rw [hm.out]; omega
   have hx := reads_cellN hR m hm64
   rw [hm.out, get_more Fl.out hO.len (by rw [fbytes_length]; exact hlt), ← hm.out] at hx
   have hy := (hBL.cell k).trans (bytesA_get (fbytes LL) k (by rw [fbytes_length]; exact hlt))
   have hcw := hO.cw
   have hol := hO.len
   have hnx : Hid (∀ s', s' = ((fbytes s).getD k 0).toNat + ((fbytes LL).getD k 0).toNat + cc → MoreL (fbytes s) (fbytes LL) (k + 1) (s' / 256) (out ++ [UInt8.ofNat (s' % 256)])) := hid fun s' hs => hO.next (by rw [fbytes_length]; exact hlt) (by rw [fbytes_length]; exact hlt) hs
   have hx1 := ((fbytes s).getD k 0).toNat_lt
   have hy1 := ((fbytes LL).getD k 0).toNat_lt
   obtain ⟨x, hX⟩ := named ((fbytes s).getD k 0).toNat
   obtain ⟨y, hY⟩ := named ((fbytes LL).getD k 0).toNat
   rw [← hX.out, ← hY.out] at hnx
   rw [← hX.out] at hx hx1
   rw [← hY.out] at hy hy1
   obtain ⟨p, hp⟩ := named (x + y)
   obtain ⟨t, hs⟩ := named (p + cc)
   obtain ⟨r, hr⟩ := named (t % 256)
   obtain ⟨f, hf⟩ := named (t / 256)
   obtain ⟨yb, hyb⟩ : ∃ b : UInt8, Hid (b = UInt8.ofNat (t % 256)) := ⟨_, hid rfl⟩
   have hybn : Hid (yb.toNat = r) := hid (by rw [hyb.out, hr.out, UInt8.toNat_ofNat']; omega)
   have cx : IntKind.i64.wrap (x : Int) = (x : Int) := IntWalk.i64_in _ (by omega)
   have cy : IntKind.i64.wrap (y : Int) = (y : Int) := IntWalk.i64_in _ (by omega)
   have cp : IntKind.i64.wrap ((x : Int) + (y : Int)) = (p : Int) := by rw [IntWalk.i64_in _ (by omega), hp.out]; rfl
   have cs : IntKind.i64.wrap ((p : Int) + (cc : Int)) = (t : Int) := by rw [IntWalk.i64_in _ (by rw [hp.out]; omega), hs.out]; rfl
   have f1 : (t : Int) / 256 = (f : Int) := by rw [hf.out]; omega
   have f2 : (t : Int).tdiv 256 = (f : Int) := by rw [Int.tdiv_eq_ediv_of_nonneg (by omega)]; omega
   have f3 : (t : Int) % 256 = (r : Int) := by rw [hr.out]; omega
   have f4 : (t : Int).tmod 256 = (r : Int) := by rw [Int.tmod_eq_emod_of_nonneg (by omega)]; omega
   have f5 : IntKind.i64.wrap (r : Int) = (r : Int) := IntWalk.i64_in _ (by rw [hr.out]; omega)
   have f6 : IntKind.i64.wrap (f : Int) = (f : Int) := IntWalk.i64_in _ (by rw [hf.out, hs.out, hp.out]; omega)
   have f7 : IntKind.u8.wrap (r : Int) = (yb.toNat : Int) := by rw [IntKind.wrap_u8', hybn.out, hr.out]; omega
   have HN : Hid (MoreL (fbytes s) (fbytes LL) (k + 1) f (out ++ [yb])) := hid (by
    rw [hf.out, hyb.out]
    exact hnx.out t (by rw [hs.out, hp.out]))
   have HPUT : Hid (∀ V, Reads V V.heap.size 1 (some ⟨gm, 0, none⟩) 64 (Lib.byteCells (F ++ (out ++ (fbytes s).drop k))) → Reads (V.setCell ⟨gm, m, none⟩ (.int .u8 (yb.toNat : Int))) V.heap.size 1 (some ⟨gm, 0, none⟩) 64 (Lib.byteCells (F ++ ((out ++ [yb]) ++ (fbytes s).drop (k + 1))))) := hid fun V h => by
    have := reads_put h m hm64 yb
    rw [hm.out, set_more Fl.out hol (by rw [fbytes_length]; exact hlt), ← hm.out] at this
    have e2 : (⟨gm, 0, none⟩ : Addr).add m = ⟨gm, m, none⟩ := by unfold Addr.add; split <;> simp_all
    rwa [e2] at this
   have hki : (k : Int) < 32 := by omega
   have hwm : IntKind.i64.wrap (32 + (k : Int)) = (m : Int) := by rw [IntWalk.i64_in _ (by omega), hm.out]; rfl
   have hwk : IntKind.i64.wrap ((k : Int) + 1) = (k : Int) + 1 := IntWalk.i64_in _ (by omega)
   have HR := hid hR
   have HFZ := hid hfz
   have H5 := hid hB5
   have H7 := hid hB7
   have HL := hid hBL
   have HBEL := hid hbel
   have HM := hid hm.out
   clear hR hfz hB5 hB7 hBL hbel hO hnx hx1 hy1 hcw hyb hol hm
   go_wp2_with fail
   go_quiet (fail)
   have hcell : (wr.drewN nq).cell? ⟨gm, m, none⟩ = some (.int .u8 (x : Int)) := hx
   have hfzm : (wr.drewN nq).frozen? ⟨gm, m, none⟩ = false := HFZ.out m
   have HR2 : Hid (Reads (wr.drewN nq) (wr.drewN nq).heap.size 1 (some ⟨gm, 0, none⟩) 64 (Lib.byteCells (F ++ (out ++ (fbytes s).drop k)))) := HR
   have HFZ2 : Hid (∀ i, (wr.drewN nq).frozen? ⟨gm, i, none⟩ = false) := HFZ
   have H52 : Hid (Blk (wr.drewN nq) g5 22 (bytesA pl)) := H5
   have H72 : Hid (Blk (wr.drewN nq) g7 28 (bytesA sg)) := H7
   have HL2 : Hid (Blk (wr.drewN nq) gl 5 (bytesA (fbytes LL))) := HL
   have HBE2 := hid (HBEL.out.trans ((below_drewNs wr nq).mono HBEL.out.size))
   clear hx hy HR HFZ H5 H7 HL HBEL
   generalize wr.drewN nq = W2_ at *
   have HRn := hid ((HPUT.out W2_ HR2.out).more (show W2_.heap.size ≤ (W2_.setCell ⟨gm, m, none⟩ (.int .u8 (yb.toNat : Int))).heap.size by simp))
   have HFn : Hid (∀ i, (W2_.setCell ⟨gm, m, none⟩ (.int .u8 (yb.toNat : Int))).frozen? ⟨gm, i, none⟩ = false) := hid fun i => by rw [World.frozen?_setCell]; exact HFZ2.out i
   have H5n := hid (H52.out.far (p := ⟨gm, m, none⟩) N5.out (.int .u8 (yb.toNat : Int)))
   have H7n := hid (H72.out.far (p := ⟨gm, m, none⟩) N7.out (.int .u8 (yb.toNat : Int)))
   have HLn := hid (HL2.out.far (p := ⟨gm, m, none⟩) NL.out (.int .u8 (yb.toNat : Int)))
   have HBn := hid (HBE2.out.setCell (p := ⟨gm, m, none⟩) HG.out (.int .u8 (yb.toNat : Int)))
   clear HR2 HFZ2 H52 H72 HL2 HBE2 HPUT
   go_wp2_with fail
   go_roundg (gk - 1)
   case measure => omega
   case rel => exact ⟨k + 1, f, out ++ [yb], rfl, by go_num, by omega, HN.out, HRn.out, HFn.out, H5n.out, H7n.out, HLn.out, HBn.out⟩
  ·obtain rfl : k = 32 := by omega
   have hout := hO.done HSL.out
   subst hout
   rw [List.drop_eq_nil_of_le (by rw [fbytes_length]; omega), List.append_nil] at hR
   have HR := hid hR
   have B5F := hid hB5
   have B7F := hid hB7
   have HBF := hid hbel
   clear hR hfz hB5 hB7 hBL hbel hO hlt hgk
   go_upto_region 16 with fail
   (try simp only [Act.put, zA, zB, zC])
   refine wp_R [73, 74, 75, 76, 77, 78, 79, 80, 81, 82, 83, 84, 85, 86, 87, 88, 89, 90, 91, 92, 93, 94, 95, 96] [Rk.val (.slice (some ⟨g5, 0, none⟩) 32 32), Rk.val (.slice At nt ct), Rk.val (.slice (some ⟨gm, 0, none⟩) 64 cm), Rk.val (.bool false), Rk.val (.bool true), Rk.val (.bool true), Rk.val (.slice (some ⟨g5, 0, none⟩) 32 32), Rk.val (.slice At nt ct), Rk.val (.slice (some ⟨g7, 0, none⟩) 63 64), Rk.val (.bool false), Rk.val (.bool true), Rk.val (.bool true), Rk.val (.bool true), Rk.val (.slice (some ⟨g5, 0, none⟩) 32 32), Rk.val (.slice At nt ct), Rk.val (.slice (some ⟨g7, 0, none⟩) 64 64), Rk.is (fun v V => ∃ g, v = .slice (some ⟨g, 0, none⟩) 1 1 ∧ Reads V V.heap.size 1 (some ⟨g, 0, none⟩) 1 (Lib.byteCells [0])) (fun _ _ _ ⟨g, e, h⟩ hb => ⟨g, e, (h.below hb).more hb.size⟩), Rk.is (fun v V => ∃ A c, v = .slice A 65 c ∧ 65 ≤ c ∧ c ≤ maxLen ∧ Reads V V.heap.size 1 A 65 (Lib.byteCells (sg ++ [0]))) (fun _ _ _ ⟨A, c, e, h1, h2, h⟩ hb => ⟨A, c, e, h1, h2, (h.below hb).more hb.size⟩), Rk.val (.bool false), Rk.val (.bool true), Rk.val (.bool true), Rk.val (.bool true), Rk.val (.bool true), Rk.val (.bool true)] rfl (by kernel_rfl) (by kernel_rfl) (by kernel_rfl) (by kernel_rfl) ?hg4 _ (by rfl) ?hf4
   case hg4 =>
    refine gr_val rfl (fun a V H K Q hK => op_quiet (quiet_slice32 (.tmp 5) g5 (H.old 5) (by kernel_rfl)) hK) ?_
    refine gr_val rfl (fun a V H K Q hK => op_quiet (quiet_move (.tmp 1) (H.old 1) (.inl (by kernel_rfl))) hK) ?_
    refine gr_val rfl (fun a V H K Q hK => op_quiet (quiet_move (.tmp 10) (H.old 10) (.inl (by kernel_rfl))) hK) ?_
    refine gr_val rfl (fun a V H K Q hK => op_callK #[.tmp 73, .tmp 74, .tmp 75] #[.slice (some ⟨g5, 0, none⟩) 32 32, .slice At nt ct, .slice (some ⟨gm, 0, none⟩) 64 cm] (map3 (H.rel 0 73 rfl) (H.rel 1 74 rfl) (H.rel 2 75 rfl)) (CV.out g5 V (some ⟨gm, 0, none⟩) 64 cm (F ++ fbytes (s + LL)) false HVB.out (HBF.out.trans (H.frame.mono HBF.out.size)) (reads32 (B5F.out.old H.frame) pll.out) ((HR.out.below H.frame).more H.frame.size) (by omega) HC5.out HM5.out) hK) ?_
    refine gr_val rfl (fun a V H K Q hK => op_quiet (quiet_not (b := false) 4 (.tmp 76) (H.rel 3 76 rfl) (by kernel_rfl)) hK) ?_
    refine gr_val rfl (fun a V H K Q hK => op_quiet (quiet_move (.tmp 77) (H.rel 4 77 rfl) (.inl (by kernel_rfl))) hK) ?_
    refine gr_onV (j := 5) (d := 78) (want := true) (u := .bool true) rfl (by kernel_rfl) (by kernel_rfl) (fun a V H => (H.rel 5 78 rfl)) (by kernel_rfl) (fun a V H K Q hK => op_quiet (quiet_slice32 (.tmp 5) g5 (H.old 5) (by kernel_rfl)) hK) ?_
    refine gr_onV (j := 5) (d := 78) (want := true) (u := .bool true) rfl (by kernel_rfl) (by kernel_rfl) (fun a V H => (H.rel 5 78 rfl)) (by kernel_rfl) (fun a V H K Q hK => op_quiet (quiet_move (.tmp 1) (H.old 1) (.inl (by kernel_rfl))) hK) ?_
    refine gr_onV (j := 5) (d := 78) (want := true) (u := .bool true) rfl (by kernel_rfl) (by kernel_rfl) (fun a V H => (H.rel 5 78 rfl)) (by kernel_rfl) (fun a V H K Q hK => op_quiet (quiet_slX (.tmp 7) g7 (H.old 7) rfl (by kernel_rfl)) hK) ?_
    refine gr_onV (j := 5) (d := 78) (want := true) (u := .bool true) rfl (by kernel_rfl) (by kernel_rfl) (fun a V H => (H.rel 5 78 rfl)) (by kernel_rfl) (fun a V H K Q hK => op_callK #[.tmp 79, .tmp 80, .tmp 81] #[.slice (some ⟨g5, 0, none⟩) 32 32, .slice At nt ct, .slice (some ⟨g7, 0, none⟩) 63 64] (map3 (H.rel 6 79 rfl) (H.rel 7 80 rfl) (H.rel 8 81 rfl)) (CV.out g5 V (some ⟨g7, 0, none⟩) 63 64 (sg.take 63) false HVC.out (HBF.out.trans (H.frame.mono HBF.out.size)) (reads32 (B5F.out.old H.frame) pll.out) (reads_front (reads32 (B7F.out.old H.frame) sgl.out) (by omega)) (by omega) (by omega) (by unfold maxLen; omega)) hK) ?_
    refine gr_onV (j := 5) (d := 78) (want := true) (u := .bool true) rfl (by kernel_rfl) (by kernel_rfl) (fun a V H => (H.rel 5 78 rfl)) (by kernel_rfl) (fun a V H K Q hK => op_quiet (quiet_not (b := false) 4 (.tmp 82) (H.rel 9 82 rfl) (by kernel_rfl)) hK) ?_
    refine gr_val rfl (fun a V H K Q hK => op_quiet (quiet_pickT (.tmp 78) (.tmp 83) (.const (.bool false)) (H.rel 5 78 rfl) (H.rel 10 83 rfl) (by kernel_rfl)) hK) ?_
    refine gr_val rfl (fun a V H K Q hK => op_quiet (quiet_move (.tmp 84) (H.rel 11 84 rfl) (.inl (by kernel_rfl))) hK) ?_
    refine gr_onV (j := 12) (d := 85) (want := true) (u := .bool true) rfl (by kernel_rfl) (by kernel_rfl) (fun a V H => (H.rel 12 85 rfl)) (by kernel_rfl) (fun a V H K Q hK => op_quiet (quiet_slice32 (.tmp 5) g5 (H.old 5) (by kernel_rfl)) hK) ?_
    refine gr_onV (j := 12) (d := 85) (want := true) (u := .bool true) rfl (by kernel_rfl) (by kernel_rfl) (fun a V H => (H.rel 12 85 rfl)) (by kernel_rfl) (fun a V H K Q hK => op_quiet (quiet_move (.tmp 1) (H.old 1) (.inl (by kernel_rfl))) hK) ?_
    refine gr_onV (j := 12) (d := 85) (want := true) (u := .bool true) rfl (by kernel_rfl) (by kernel_rfl) (fun a V H => (H.rel 12 85 rfl)) (by kernel_rfl) (fun a V H K Q hK => op_quiet (quiet_slC (.tmp 7) g7 (H.old 7) (by kernel_rfl)) hK) ?_
    refine gr_on (j := 12) (d := 85) (want := true) (u := .bool true) rfl (by kernel_rfl) (by kernel_rfl) (fun a V H => (H.rel 12 85 rfl)) (by kernel_rfl) (fun a V H K Q hK => op_row1 HIB.out hzb0 hzb1 (by kernel_rfl) hK) ?_
    refine gr_on (j := 12) (d := 85) (want := true) (u := .bool true) rfl (by kernel_rfl) (by kernel_rfl) (fun a V H => (H.rel 12 85 rfl)) (by kernel_rfl) (fun a V H K Q hK => by
          obtain ⟨g9, e9, h9⟩ : ∃ g, a.eval (.tmp 89) = .slice (some ⟨g, 0, none⟩) 1 1 ∧ Reads V V.heap.size 1 (some ⟨g, 0, none⟩) 1 (Lib.byteCells [0]) := (H.rel 16 89 rfl)
          exact op_long HIB.out hzb0 hzb1 hzb2 sgl.out (.tmp 88) (.tmp 89) (H.rel 15 88 rfl) e9 (reads32 (B7F.out.old H.frame) sgl.out) h9 (by kernel_rfl) hK) ?_
    refine gr_onV (j := 12) (d := 85) (want := true) (u := .bool true) rfl (by kernel_rfl) (by kernel_rfl) (fun a V H => (H.rel 12 85 rfl)) (by kernel_rfl) (fun a V H K Q hK => by
          obtain ⟨A9, c9, e9, h7, h8, h9⟩ : ∃ A c, a.eval (.tmp 90) = .slice A 65 c ∧ 65 ≤ c ∧ c ≤ maxLen ∧ Reads V V.heap.size 1 A 65 (Lib.byteCells (sg ++ [0])) := (H.rel 17 90 rfl)
          exact op_callK #[.tmp 86, .tmp 87, .tmp 90] #[.slice (some ⟨g5, 0, none⟩) 32 32, .slice At nt ct, .slice A9 65 c9] (map3 (H.rel 13 86 rfl) (H.rel 14 87 rfl) e9) (CV.out g5 V A9 65 c9 (sg ++ [0]) false HVL.out (HBF.out.trans (H.frame.mono HBF.out.size)) (reads32 (B5F.out.old H.frame) pll.out) h9 (by omega) h7 h8) hK) ?_
    refine gr_onV (j := 12) (d := 85) (want := true) (u := .bool true) rfl (by kernel_rfl) (by kernel_rfl) (fun a V H => (H.rel 12 85 rfl)) (by kernel_rfl) (fun a V H K Q hK => op_quiet (quiet_not (b := false) 4 (.tmp 91) (H.rel 18 91 rfl) (by kernel_rfl)) hK) ?_
    refine gr_val rfl (fun a V H K Q hK => op_quiet (quiet_pickT (.tmp 85) (.tmp 92) (.const (.bool false)) (H.rel 12 85 rfl) (H.rel 19 92 rfl) (by kernel_rfl)) hK) ?_
    refine gr_val rfl (fun a V H K Q hK => op_quiet (quiet_move (.tmp 93) (H.rel 20 93 rfl) (.inl (by kernel_rfl))) hK) ?_
    refine gr_onV (j := 21) (d := 94) (want := true) (u := .bool true) rfl (by kernel_rfl) (by kernel_rfl) (fun a V H => (H.rel 21 94 rfl)) (by kernel_rfl) (fun a V H K Q hK => op_callK #[] #[] map0 (CW.out V (HBF.out.trans (H.frame.mono HBF.out.size))) hK) ?_
    refine gr_val rfl (fun a V H K Q hK => op_quiet (quiet_pickT (.tmp 94) (.tmp 95) (.const (.bool false)) (H.rel 21 94 rfl) (H.rel 22 95 rfl) (by kernel_rfl)) hK) ?_
    exact gr_nil
   case hf4 =>
   intro x V hF
   have e0 : x 0 = .slice (some ⟨g5, 0, none⟩) 32 32 := hF.rel 0 _ rfl
   have e1 : x 1 = .slice At nt ct := hF.rel 1 _ rfl
   have e2 : x 2 = .slice (some ⟨gm, 0, none⟩) 64 cm := hF.rel 2 _ rfl
   have e3 : x 3 = .bool false := hF.rel 3 _ rfl
   have e4 : x 4 = .bool true := hF.rel 4 _ rfl
   have e5 : x 5 = .bool true := hF.rel 5 _ rfl
   have e6 : x 6 = .slice (some ⟨g5, 0, none⟩) 32 32 := hF.rel 6 _ rfl
   have e7 : x 7 = .slice At nt ct := hF.rel 7 _ rfl
   have e8 : x 8 = .slice (some ⟨g7, 0, none⟩) 63 64 := hF.rel 8 _ rfl
   have e9 : x 9 = .bool false := hF.rel 9 _ rfl
   have e10 : x 10 = .bool true := hF.rel 10 _ rfl
   have e11 : x 11 = .bool true := hF.rel 11 _ rfl
   have e12 : x 12 = .bool true := hF.rel 12 _ rfl
   have e13 : x 13 = .slice (some ⟨g5, 0, none⟩) 32 32 := hF.rel 13 _ rfl
   have e14 : x 14 = .slice At nt ct := hF.rel 14 _ rfl
   have e15 : x 15 = .slice (some ⟨g7, 0, none⟩) 64 64 := hF.rel 15 _ rfl
   obtain ⟨g89, e16, _⟩ : ∃ g, x 16 = .slice (some ⟨g, 0, none⟩) 1 1 ∧ Reads V V.heap.size 1 (some ⟨g, 0, none⟩) 1 (Lib.byteCells [0]) := hF.rel 16 _ rfl
   obtain ⟨A90, c90, e17, _, _, _⟩ : ∃ A c, x 17 = .slice A 65 c ∧ 65 ≤ c ∧ c ≤ maxLen ∧ Reads V V.heap.size 1 A 65 (Lib.byteCells (sg ++ [0])) := hF.rel 17 _ rfl
   have e18 : x 18 = .bool false := hF.rel 18 _ rfl
   have e19 : x 19 = .bool true := hF.rel 19 _ rfl
   have e20 : x 20 = .bool true := hF.rel 20 _ rfl
   have e21 : x 21 = .bool true := hF.rel 21 _ rfl
   have e22 : x 22 = .bool true := hF.rel 22 _ rfl
   have e23 : x 23 = .bool true := hF.rel 23 _ rfl
   have hbf := hF.frame
   clear hF
   simp only [Sch.finL, zA, zB, zC, e0, e1, e2, e3, e4, e5, e6, e7, e8, e9, e10, e11, e12, e13, e14, e15, e16, e17, e18, e19, e20, e21, e22, e23]
   clear e0 e1 e2 e3 e4 e5 e6 e7 e8 e9 e10 e11 e12 e13 e14 e15 e16 e17 e18 e19 e20 e21 e22 e23
   have HF := hid (HBF.out.trans (hbf.mono HBF.out.size))
   clear hbf
   go_wp2_with fail
   go_ret
   exact ⟨rfl, HF.out⟩
end Go.Proofs.YtcfogpeinjehbaaDoor
