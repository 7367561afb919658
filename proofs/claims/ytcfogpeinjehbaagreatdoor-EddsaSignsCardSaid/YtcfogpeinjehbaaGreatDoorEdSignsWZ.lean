/-
  The walk of the law EddsaSigns. Condition: the program's signatures are as they must be.
-/
import Derived.Test.YtcfogpeinjehbaaGreatDoorM6
set_option linter.unusedVariables false
set_option linter.unusedSimpArgs false
open Go.Lib (hid)
open Go.Proofs.YtcfogpeinjehbaaGreatDoor (zA zB zC zD zE zF)
set_option maxRecDepth 100000
namespace Go.Proofs.YtcfogpeinjehbaaGreatDoor
open Go Go.Proofs Go.RowKit F5

theorem run_eql_bytes8 {T : TypeId} {n : Nat} (hu : Tryz.prog.underlying T = some (.array n 5)) (l l' : List UInt8) (h : l.length = n) (h' : l'.length = n) (w : World) :
  (binOp .eql T (.agg (bytesA l)) (.agg (bytesA l'))).run Tryz.prog w = .ok (.bool (decide (l = l'))) w := by
 obtain ⟨i0, hi⟩ : ∃ i0, Tryz.prog.info? 5 = some i0 := by
  cases hq : Tryz.prog.info? 5 with
  | none => exact absurd hq (by have : (Tryz.prog.info? 5).isSome = true := by kernel_rfl
                                intro e; rw [e] at this; cases this)
  | some x => exact ⟨x, rfl⟩
 have hc : Tryz.prog.cellsOf 5 = 1 := by kernel_rfl
 rw [run_eql_struct, run_equalIn_array w 9999 (bytesA l) (bytesA l') hu hi, hc, eqItems_all 9998 5 .u8 .u8 Tryz.underlying5 (by kernel_rfl) _ _ (fun i => (((l.map UInt8.toNat).getD i 0 : Nat) : Int)) (fun i => (((l'.map UInt8.toNat).getD i 0 : Nat) : Int)) w _ (fun i hi => by
  have := List.mem_range.1 hi
  exact ⟨bytesA_getN _ _ (by omega), bytesA_getN _ _ (by omega)⟩), all_range (by simpa using h) (by simpa using h')]
 simp only [map_toNat_inj]
 rfl
theorem wpList_loadG {P : Program} {ops : Array Oper} {rest : List Oper} {o : Oper} {a : Act} {w : World} {Q : Exit → Act → World → Prop} (hw : Region.wanted o (yielded ops a.tmps) = true) (ty : TypeId) (x : Operand) (ho : o.op = .load ty x)
  (g : Nat) (hx : a.eval x = .pointer (some ⟨g, 0, none⟩)) (t : TypeId) (cs : Array Value) (d : TypeDesc) (hg : Blk w g t cs)
  (hu : P.underlying ty = some d) (hd : (match d with | .struct _ | .array _ _ => true | _ => false) = true) (hi : (P.info? ty).map (·.size) = some cs.size)
  (h : wpList P ops Q rest (a.put o.dst (.agg cs)) w) : wpList P ops Q (o :: rest) a w :=
 wpList_step fun K hK => by
  simp only [hw, if_true]
  unfold Oper.wp execOp
  simp only [ho, hx, Instr.loadAt, Instr.sureAddr, Sem.run_bind, Sem.run_pure, Result.andThen_ok, run_loadVar_row w g t ty cs (0, 0) d hg hu hd hi]
  exact hK _ _ h
theorem wpList_buildG {P : Program} {ops : Array Oper} {rest : List Oper} {o : Oper} {a : Act} {w : World} {Q : Exit → Act → World → Prop} (hw : Region.wanted o (yielded ops a.tmps) = true) (t : TypeId) (parts : Array (Nat × Operand)) (ho : o.op = .build t parts)
  (vals : List (Nat × Value)) (hv : (parts.map fun (i, x) => (i, a.eval x)).toList = vals) (cells : Array Value) (hb : P.built t vals = some cells) (h : wpList P ops Q rest (a.put o.dst (.agg cells)) w) : wpList P ops Q (o :: rest) a w :=
 wpList_step fun K hK => by
  simp only [hw, if_true]
  unfold Oper.wp execOp
  simp only [ho, Sem.run_bind, run_build w t _ cells (by rw [hv]; exact hb), Result.andThen_ok, Sem.run_pure]
  exact hK _ _ h
theorem wpList_eqlG {ops : Array Oper} {rest : List Oper} {o : Oper} {a : Act} {w : World} {Q : Exit → Act → World → Prop} {T : TypeId} {n : Nat} (hu : Tryz.prog.underlying T = some (.array n 5)) (l l' : List UInt8) (hg : ∀ x y W, (eqGuard .eql T x y (.agg (bytesA l)) (.agg (bytesA l'))).run Tryz.prog W = .ok () W)
  (hw : Region.wanted o (yielded ops a.tmps) = true) (x y : Operand) (k : TypeId) (hl : l.length = n) (hl' : l'.length = n)
  (hx : a.eval x = .agg (bytesA l)) (hy : a.eval y = .agg (bytesA l')) (ho : o.op = .binOp .eql T x y k) (b : Bool) (hb : decide (l = l') = b) (h : wpList Tryz.prog ops Q rest (a.put o.dst (.bool b)) w) : wpList Tryz.prog ops Q (o :: rest) a w :=
 wpList_step fun K hK => by
  simp only [hw, if_true]
  subst hb
  unfold Oper.wp execOp
  simp only [ho, hx, hy, Sem.run_bind, hg x y w, Result.andThen_ok, run_eql_bytes8 hu l l' hl hl' w, Sem.run_pure]
  exact hK _ _ h
theorem slice64 (g : Nat) (W : World) : (Instr.sliceAt 28 (.pointer (some ⟨g, 0, none⟩)) none none none).run Tryz.prog W = .ok (.slice (some ⟨g, 0, none⟩) 64 64) W := by
 have hal : Tryz.prog.arrayLen 28 = 64 := by kernel_rfl
 have hel : Tryz.prog.elem 28 = 5 := by kernel_rfl
 rw [run_sliceAt_array_all W 28 ⟨g, 0, none⟩ (by rw [hal, hel]; exact Tryz.underlying28), hal, hel, Tryz.sizeOf5]
 rfl
theorem builtA_nil : Tryz.prog.built 24 [] = some (bytesA (List.replicate 32 0)) := by kernel_rfl
theorem builtB_nil : Tryz.prog.built 28 [] = some (bytesA (List.replicate 64 0)) := by kernel_rfl
theorem infoA {l : List UInt8} (h : l.length = 32) : (Tryz.prog.info? 24).map (·.size) = some (bytesA l).size := by rw [bytesA_size, h]; kernel_rfl
theorem infoB {l : List UInt8} (h : l.length = 64) : (Tryz.prog.info? 28).map (·.size) = some (bytesA l).size := by rw [bytesA_size, h]; kernel_rfl

set_option maxHeartbeats 16000000 in
theorem esigns_walk {Q : World → Prop} (H : EdOk Q) (A At : Option Addr) (n c nt ct : Nat) (l lt : List UInt8) (w : World) (hr : Reads w w.heap.size 1 A n (Lib.byteCells l)) (hc : n ≤ c) (hm : c ≤ maxLen)
  (hrt : Reads w w.heap.size 1 At nt (Lib.byteCells lt)) (hct : nt ≤ ct) (hmt : ct ≤ maxLen) (hQ : Q w) :
  Calls Tryz.prog 3 #[.slice A n c, .slice At nt ct] w fun e w' => e = .returned (.bool true) ∧ Below w.heap.size w w' := by
 have HQ := hid hQ
 have HB := hid (Below.refl w.heap.size w)
 obtain ⟨z, hz⟩ : ∃ z, Hid (z = bytesA (List.replicate 32 0)) := ⟨_, hid rfl⟩
 have hz0 : ∀ W, (zeroValue 24).run Tryz.prog W = .ok (.agg z) W := by
  rw [hz.out]; exact (zero_of_info (n := 32) (by kernel_rfl)).1
 obtain ⟨y, hy⟩ : ∃ z, Hid (z = bytesA (List.replicate 64 0)) := ⟨_, hid rfl⟩
 have hy0 : ∀ W, (zeroValue 28).run Tryz.prog W = .ok (.agg y) W := by
  rw [hy.out]; exact (zero_of_info (n := 64) (by kernel_rfl)).1
 by_cases h1 : 100 < n
 ·have h1' : decide ((100 : Int) < (n : Int)) = true := by simp; omega
  clear hr hrt
  go_enter Tryz.func3, Tryz.ntmps3
  go_wp2_with fail
  refine (awake8_any H _ HQ.out).mono ?_
  rintro e w9 ⟨rfl, hb9⟩
  have hbe := hid (HB.out.trans (hb9.mono HB.out.size))
  clear hb9
  go_wp2
  go_ret
  exact ⟨rfl, hbe.out⟩
 have h1' : decide ((100 : Int) < (n : Int)) = false := by simp; omega
 by_cases h3 : 500 < nt
 ·have h3' : decide ((500 : Int) < (nt : Int)) = true := by simp; omega
  clear hr hrt
  go_enter Tryz.func3, Tryz.ntmps3
  go_wp2_with fail
  refine (awake8_any H _ HQ.out).mono ?_
  rintro e w9 ⟨rfl, hb9⟩
  have hbe := hid (HB.out.trans (hb9.mono HB.out.size))
  clear hb9
  go_wp2
  go_ret
  exact ⟨rfl, hbe.out⟩
 have h3' : decide ((500 : Int) < (nt : Int)) = false := by simp; omega
 have hl : l.length = n := by have := hr.1; rw [Lib.byteCells_length] at this; omega
 obtain ⟨er, her⟩ : ∃ e, Hid (e = errO l) := ⟨_, hid rfl⟩
 obtain ⟨P, hP⟩ : ∃ x, Hid (x = bytesA (pubO l)) := ⟨_, hid rfl⟩
 obtain ⟨S, hS⟩ : ∃ x, Hid (x = bytesA (sigO l lt)) := ⟨_, hid rfl⟩
 have CP : Hid (∀ V, Reads V V.heap.size 1 A n (Lib.byteCells l) → Q V → Calls Tryz.prog 6 #[.slice A n c] V fun e w' => e = .returned (.tuple #[.agg P, .int .i64 er]) ∧ Below V.heap.size V w') := hid fun V r q => by
  rw [hP.out, her.out]; exact H.pub A n c l V (by omega) hc hm r q
 have CS : Hid (∀ V, Reads V V.heap.size 1 A n (Lib.byteCells l) → Reads V V.heap.size 1 At nt (Lib.byteCells lt) → Q V → Calls Tryz.prog 7 #[.slice A n c, .slice At nt ct] V fun e w' => e = .returned (.tuple #[.agg S, .int .i64 er]) ∧ Below V.heap.size V w') := hid fun V r1 r2 q => by
  rw [hS.out, her.out]; exact H.sign A n c l At nt ct lt V (by omega) hc hm r1 (by omega) hct hmt r2 q
 have oP : Hid ((Tryz.prog.info? 24).map (·.size) = some P.size ∧ P.all (·.oneCell') = true ∧ z.size = P.size) := by rw [hP.out, hz.out]; exact hid ⟨infoA (pubO_length _), bytesA_one _, by rw [bytesA_size, bytesA_size, pubO_length]; rfl⟩
 have oS : Hid ((Tryz.prog.info? 28).map (·.size) = some S.size ∧ S.all (·.oneCell') = true ∧ y.size = S.size) := by rw [hS.out, hy.out]; exact hid ⟨infoB (sigO_length _ _), bytesA_one _, by rw [bytesA_size, bytesA_size, sigO_length]; rfl⟩
 have HR := hid hr
 have HT := hid hrt
 have HL := hid hl
 clear hr hrt hl h1 h3
 go_enter Tryz.func3, Tryz.ntmps3
 go_upto_region 4 with fail
 refine (CP.out _ HR.out HQ.out).mono ?_
 rintro e w1 ⟨rfl, hb1⟩
 have hbc := hb1.trans (((Below.refl w1.heap.size w1).alloc (Nat.le_refl _) (.cells P 24)).mono hb1.size)
 have HB := hid hbc
 have HR := hid ((HR.out.below hbc).more hbc.size)
 have HT := hid ((HT.out.below hbc).more hbc.size)
 have E5 := hid (Blk.new w1 24 P)
 clear hb1 hbc
 go_upto_region 4 with (refine wpList_store_row rfl 24 (.tmp 5) (.tmp 21) rfl w1.heap.size P rfl rfl 24 z (heap_alloc_new w1 _) oP.out.1 oP.out.2.2 oP.out.2.1 ?_; rw [setRow_alloc1])
 generalize w1.alloc (.cells P 24) = W1 at *
 generalize w1.heap.size = g5 at *
 go_upto_region 5 with fail
 refine (CS.out _ HR.out HT.out (H.old HQ.out HB.out)).mono ?_
 rintro e w2 ⟨rfl, hb1⟩
 have hbc := hb1.trans (((Below.refl w2.heap.size w2).alloc (Nat.le_refl _) (.cells S 28)).mono hb1.size)
 have HB := hid (HB.out.trans (hbc.mono HB.out.size))
 have HR := hid ((HR.out.below hbc).more hbc.size)
 have HT := hid ((HT.out.below hbc).more hbc.size)
 have E5 := hid (E5.out.old hbc)
 have E7 := hid (Blk.new w2 28 S)
 clear hb1 hbc
 go_upto_region 5 with (refine wpList_store_row rfl 28 (.tmp 7) (.tmp 27) rfl w2.heap.size S rfl rfl 28 y (heap_alloc_new w2 _) oS.out.1 oS.out.2.2 oS.out.2.1 ?_; rw [setRow_alloc1])
 generalize w2.alloc (.cells S 28) = W2 at *
 generalize w2.heap.size = g7 at *
 by_cases h32 : ¬ n = 32
 ·have hne : ((n : Int) != 32) = true := by simp; omega
  have hll : l.length ≠ 32 := by rw [HL.out]; exact h32
  have he1 : er = 1 := by rw [her.out]; exact if_neg hll
  have hp0 : Hid (P = bytesA (List.replicate 32 0)) := by rw [hP.out]; unfold pubO; rw [if_neg hll]; exact hid rfl
  have hs0 : Hid (S = bytesA (List.replicate 64 0)) := by rw [hS.out]; unfold sigO; rw [if_neg hll]; exact hid rfl
  have hbA : Hid (Tryz.prog.built 24 [] = some z) := by rw [hz.out]; exact hid builtA_nil
  have hbB : Hid (Tryz.prog.built 28 [] = some y) := by rw [hy.out]; exact hid builtB_nil
  clear her hll h32
  subst he1
  go_wp2_with (first | (refine wpList_loadG (by rfl) 24 (.tmp 5) rfl g5 rfl 24 P _ E5.out Tryz.underlying24 rfl oP.out.1 ?_) | (refine wpList_loadG (by rfl) 28 (.tmp 7) rfl g7 rfl 28 S _ E7.out Tryz.underlying28 rfl oS.out.1 ?_) |
   (refine wpList_buildG (by rfl) 24 #[] rfl [] (by simp [Act.eval, Act.put]) _ hbA.out ?_) | (refine wpList_buildG (by rfl) 28 #[] rfl [] (by simp [Act.eval, Act.put]) _ hbB.out ?_) |
   (refine wpList_eqlG (T := 24) Tryz.underlying24 (List.replicate 32 0) (List.replicate 32 0) (fun x y W => run_eqGuard_agg W .eql _ x y _ _ (by kernel_rfl)) (by rfl) (.tmp 39) (.tmp 40) _ (by simp) (by simp) (congrArg Value.agg hp0.out) (congrArg Value.agg hz.out) rfl true (by simp) ?_) |
   (refine wpList_eqlG (T := 28) Tryz.underlying28 (List.replicate 64 0) (List.replicate 64 0) (fun x y W => run_eqGuard_agg W .eql _ x y _ _ (by kernel_rfl)) (by rfl) (.tmp 44) (.tmp 45) _ (by simp) (by simp) (congrArg Value.agg hs0.out) (congrArg Value.agg hy.out) rfl true (by simp) ?_))
  refine (awake8_any H _ (H.old HQ.out HB.out)).mono ?_
  rintro e w9 ⟨rfl, hb9⟩
  have hbe := hid (HB.out.trans (hb9.mono HB.out.size))
  clear hb9
  go_wp2
  go_ret
  exact ⟨rfl, hbe.out⟩
 obtain rfl : n = 32 := by omega
 have he1 : er = 0 := by rw [her.out]; exact if_pos HL.out
 have hp0 : Hid (P = bytesA (pubL l)) := by rw [hP.out]; unfold pubO; rw [if_pos HL.out]; exact hid rfl
 have hs0 : Hid (S = bytesA (signL l lt)) := by rw [hS.out]; unfold sigO; rw [if_pos HL.out]; exact hid rfl
 clear her
 subst he1
 have hPl : (pubL l).length = 32 := ptL_length _
 have hSl : (signL l lt).length = 64 := signL_length _ _
 have RP : Hid (∀ V, Below W2.heap.size W2 V → Reads V V.heap.size 1 (some ⟨g5, 0, none⟩) 32 (Lib.byteCells (pubL l))) := hid fun V hV => by
  have := E5.out.old hV
  rw [hp0.out] at this
  have := reads_blk this
  rwa [hPl] at this
 have RS : Hid (∀ V, Below W2.heap.size W2 V → Reads V V.heap.size 1 (some ⟨g7, 0, none⟩) 64 (Lib.byteCells (signL l lt))) := hid fun V hV => by
  have := E7.out.old hV
  rw [hs0.out] at this
  have := reads_blk this
  rwa [hSl] at this
 have CRP : Hid (∀ V, Reads V V.heap.size 1 A 32 (Lib.byteCells l) → Calls Tryz.prog 8 #[.slice A 32 c] V (BytL (pubL l) V)) := hid fun V h => refPublic_any A 32 c l V h (by omega)
 have CRS : Hid (∀ V, Reads V V.heap.size 1 A 32 (Lib.byteCells l) → Reads V V.heap.size 1 At nt (Lib.byteCells lt) → Calls Tryz.prog 9 #[.slice A 32 c, .slice At nt ct] V (BytL (signL l lt) V)) := hid fun V h1 h2 => refSign_any A At 32 c nt ct l lt V h1 (by omega) h2 (by have := h3'; simp at this; omega) hct
 have CV : Hid (∀ V, Reads V V.heap.size 1 (some ⟨g5, 0, none⟩) 32 (Lib.byteCells (pubL l)) → Reads V V.heap.size 1 At nt (Lib.byteCells lt) → Reads V V.heap.size 1 (some ⟨g7, 0, none⟩) 64 (Lib.byteCells (signL l lt)) → Q V →
   Calls Tryz.prog 10 #[.slice (some ⟨g5, 0, none⟩) 32 32, .slice At nt ct, .slice (some ⟨g7, 0, none⟩) 64 64] V fun e w' => e = .returned (.bool true) ∧ Below V.heap.size V w') := hid fun V r1 r2 r3 q => by
  have := H.verify (some ⟨g5, 0, none⟩) 32 32 _ At nt ct lt (some ⟨g7, 0, none⟩) 64 64 _ V (by omega) (by omega) (by unfold maxLen; omega) r1 (by have := h3'; simp at this; omega) hct hmt r2 (by omega) (by omega) (by unfold maxLen; omega) r3 q
  rwa [sign_right] at this
 have hne : ((32 : Int) != 32) = false := by decide
 have hsl5 := slice32 g5
 have hsl7 := slice64 g7
 generalize pubL l = pl at *
 generalize signL l lt = sl at *
 go_upto_region 7 with fail
 (try simp only [Act.put, zA, zB, zC])
 refine wp_region_held_drew (S := fun V => Below W2.heap.size W2 V) (by kernel_rfl) (Below.refl _ _).drew (fun hHeld => ?_)
 have HB0 := hid ((Below.refl W2.heap.size W2).drew)
 generalize W2.drew = V0 at *
 refine' wpAnyH_take (i := 0) (oi := _) (v := _) ?hit1 ?hst1 ?hft1 ?hrt1 ?hQt1 ?hyt1 ?hSt1 ?_
 case hit1 => (simp only [zD, zE, zF]; rfl)
 case hst1 | hft1 | hrt1 => kernel_rfl
 case hQt1 => exact fun _ _ _ h => h
 case hSt1 => assumption
 case hyt1 =>
  refine Or.inl ⟨by rfl, ?_⟩
  intro w hSw
  (try dsimp only at hSw)
  go_simp
  all_goals (with_reducible rfl)
 (try simp only [Act.put, zA, zB, zC])
 refine' wpAnyH_take (i := 1) (oi := _) (v := _) ?hit2 ?hst2 ?hft2 ?hrt2 ?hQt2 ?hyt2 ?hSt2 ?_
 case hit2 => (simp only [zD, zE, zF]; rfl)
 case hst2 | hft2 | hrt2 => kernel_rfl
 case hQt2 => exact fun _ _ _ h => h
 case hSt2 => assumption
 case hyt2 =>
  refine Or.inl ⟨by rfl, ?_⟩
  intro w hSw
  (try dsimp only at hSw)
  go_simp
  all_goals (with_reducible rfl)
 (try simp only [Act.put, zA, zB, zC])
 refine' wpAnyH_take (i := 2) (oi := _) (v := _) ?hit3 ?hst3 ?hft3 ?hrt3 ?hQt3 ?hyt3 ?hSt3 ?_
 case hit3 => (simp only [zD, zE, zF]; rfl)
 case hst3 | hft3 | hrt3 => kernel_rfl
 case hQt3 => exact fun _ _ _ h => h
 case hSt3 => assumption
 case hyt3 =>
  refine Or.inl ⟨by rfl, ?_⟩
  intro w hSw
  (try dsimp only at hSw)
  go_simp
  all_goals (with_reducible rfl)
 (try simp only [Act.put, zA, zB, zC])
 refine' wpAnyH_take (i := 3) (oi := _) (v := _) ?hit4 ?hst4 ?hft4 ?hrt4 ?hQt4 ?hyt4 ?hSt4 ?_
 case hit4 => (simp only [zD, zE, zF]; rfl)
 case hst4 | hft4 | hrt4 => kernel_rfl
 case hQt4 => exact fun _ _ _ h => h
 case hSt4 => assumption
 case hyt4 =>
  refine Or.inl ⟨by rfl, ?_⟩
  intro w hSw
  (try dsimp only at hSw)
  go_simp
  all_goals (with_reducible rfl)
 (try simp only [Act.put, zA, zB, zC])
 refine' wpAnyH_take (i := 4) (oi := _) (v := _) ?hit5 ?hst5 ?hft5 ?hrt5 ?hQt5 ?hyt5 ?hSt5 ?_
 case hit5 => (simp only [zD, zE, zF]; rfl)
 case hst5 | hft5 | hrt5 => kernel_rfl
 case hQt5 => exact fun _ _ _ h => h
 case hSt5 => assumption
 case hyt5 =>
  refine Or.inl ⟨by rfl, ?_⟩
  intro w hSw
  (try dsimp only at hSw)
  go_simp
  all_goals (with_reducible rfl)
 (try simp only [Act.put, zA, zB, zC])
 refine' wpAnyH_take (i := 5) (oi := _) (v := _) ?hit6 ?hst6 ?hft6 ?hrt6 ?hQt6 ?hyt6 ?hSt6 ?_
 case hit6 => (simp only [zD, zE, zF]; rfl)
 case hst6 | hft6 | hrt6 => kernel_rfl
 case hQt6 => exact fun _ _ _ h => h
 case hSt6 => assumption
 case hyt6 =>
  refine Or.inl ⟨by rfl, ?_⟩
  intro w hSw
  (try dsimp only at hSw)
  go_simp
  all_goals (with_reducible rfl)
 (try simp only [Act.put, zA, zB, zC])
 refine' wpAnyH_take (i := 6) (oi := _) (v := _) ?hit7 ?hst7 ?hft7 ?hrt7 ?hQt7 ?hyt7 ?hSt7 ?_
 case hit7 => (simp only [zD, zE, zF]; rfl)
 case hst7 | hft7 | hrt7 => kernel_rfl
 case hQt7 => exact fun _ _ _ h => h
 case hSt7 => assumption
 case hyt7 =>
  refine Or.inl ⟨by rfl, ?_⟩
  intro w hSw
  (try dsimp only at hSw)
  go_simp
  all_goals (with_reducible rfl)
 (try simp only [Act.put, zA, zB, zC])
 refine' wpAnyH_take (i := 7) (oi := _) (v := _) ?hit8 ?hst8 ?hft8 ?hrt8 ?hQt8 ?hyt8 ?hSt8 ?_
 case hit8 => (simp only [zD, zE, zF]; rfl)
 case hst8 | hft8 | hrt8 => kernel_rfl
 case hQt8 => exact fun _ _ _ h => h
 case hSt8 => assumption
 case hyt8 =>
  refine Or.inl ⟨by rfl, ?_⟩
  intro w hSw
  (try dsimp only at hSw)
  go_simp
  all_goals (with_reducible rfl)
 (try simp only [Act.put, zA, zB, zC])
 refine' wpAnyH_take (i := 8) (oi := _) (v := .string ⟨pl.toArray⟩) ?hit9 ?hst9 ?hft9 ?hrt9 ?hQt9 ?hyt9 ?hSt9 ?_
 case hit9 => (simp only [zD, zE, zF]; rfl)
 case hst9 | hft9 | hrt9 => kernel_rfl
 case hQt9 => exact fun _ _ _ h => h
 case hSt9 => assumption
 case hyt9 =>
  refine Or.inl ⟨by rfl, ?_⟩
  intro W hS
  exact quiet_back (.tmp 58) (some ⟨g5, 0, none⟩) 32 32 _ pl rfl (RP.out W hS) rfl
 (try simp only [Act.put, zA, zB, zC])
 refine' wpAnyH_take (i := 9) (oi := _) (v := _) ?hit10 ?hst10 ?hft10 ?hrt10 ?hQt10 ?hyt10 ?hSt10 ?_
 case hit10 => (simp only [zD, zE, zF]; rfl)
 case hst10 | hft10 | hrt10 => kernel_rfl
 case hQt10 => exact fun _ _ _ h => h
 case hSt10 => assumption
 case hyt10 =>
  refine Or.inl ⟨by rfl, ?_⟩
  intro w hSw
  (try dsimp only at hSw)
  go_simp
  all_goals (with_reducible rfl)
 (try simp only [Act.put, zA, zB, zC])
 refine wpAnyH_ready (rs := [10]) (by kernel_rfl) (by simp) ?_
 refine' (AllReadyH.cons (o := _) ?hir11_10 (fun K hK => ?br11_10) AllReadyH.nil)
 case hir11_10 => (simp only [zD, zE, zF]; rfl)
 case br11_10 =>
  go_simp
  refine (CRP.out _ ((HR.out.below HB0.out).more HB0.out.size)).mono ?_
  rintro e w12 ⟨r12, rfl, ho12, hb12⟩
  rw [hPl] at ho12
  obtain ⟨Aa, ca, rfl, _⟩ := own_slice ho12
  have HSa := hid (Reads.of_own ho12)
  have H12 := hid (HB0.out.trans (hb12.mono HB0.out.size))
  clear ho12 hb12
  go_wp2_with fail
  refine hK.out _ _ ?_ (fun hHeld => ?_)
  exact H12.out
  clear hK K
  (try simp only [Act.put, zA, zB, zC])
  refine wpAnyH_ready (rs := [11]) (by kernel_rfl) (by simp) ?_
  refine' (AllReadyH.cons (o := _) ?hir13_11 (fun K hK => ?br13_11) AllReadyH.nil)
  case hir13_11 => (simp only [zD, zE, zF]; rfl)
  case br13_11 =>
   refine step_of_wpG (by rfl) ?_
   refine wp_back (.tmp 61) _ 32 _ _ pl rfl HSa.out rfl ?_
   refine hK.out _ _ ?_ (fun hHeld => ?_)
   exact H12.out
   clear hK K
   (try simp only [Act.put, zA, zB, zC])
   refine' wpAnyH_take (i := 12) (oi := _) (v := _) ?hit15 ?hst15 ?hft15 ?hrt15 ?hQt15 ?hyt15 ?hSt15 ?_
   case hit15 => (simp only [zD, zE, zF]; rfl)
   case hst15 | hft15 | hrt15 => kernel_rfl
   case hQt15 => exact fun _ _ _ h => h
   case hSt15 => assumption
   case hyt15 =>
    refine Or.inl ⟨by rfl, ?_⟩
    intro w hSw
    (try dsimp only at hSw)
    go_simp
    all_goals (with_reducible rfl)
   (try simp only [Act.put, zA, zB, zC])
   refine' wpAnyH_take (i := 13) (oi := _) (v := _) ?hit16 ?hst16 ?hft16 ?hrt16 ?hQt16 ?hyt16 ?hSt16 ?_
   case hit16 => (simp only [zD, zE, zF]; rfl)
   case hst16 | hft16 | hrt16 => kernel_rfl
   case hQt16 => exact fun _ _ _ h => h
   case hSt16 => assumption
   case hyt16 =>
    refine Or.inl ⟨by rfl, ?_⟩
    intro w hSw
    (try dsimp only at hSw)
    go_simp
    all_goals (with_reducible rfl)
   (try simp only [Act.put, zA, zB, zC])
   refine' wpAnyH_take (i := 14) (oi := _) (v := _) ?hit17 ?hst17 ?hft17 ?hrt17 ?hQt17 ?hyt17 ?hSt17 ?_
   case hit17 => (simp only [zD, zE, zF]; rfl)
   case hst17 | hft17 | hrt17 => kernel_rfl
   case hQt17 => exact fun _ _ _ h => h
   case hSt17 => assumption
   case hyt17 =>
    refine Or.inl ⟨by rfl, ?_⟩
    intro w hSw
    (try dsimp only at hSw)
    go_simp
    all_goals (with_reducible rfl)
   (try simp only [Act.put, zA, zB, zC])
   refine' wpAnyH_take (i := 15) (oi := _) (v := _) ?hit18 ?hst18 ?hft18 ?hrt18 ?hQt18 ?hyt18 ?hSt18 ?_
   case hit18 => (simp only [zD, zE, zF]; rfl)
   case hst18 | hft18 | hrt18 => kernel_rfl
   case hQt18 => exact fun _ _ _ h => h
   case hSt18 => assumption
   case hyt18 =>
    refine Or.inl ⟨by rfl, ?_⟩
    intro w hSw
    (try dsimp only at hSw)
    go_simp
    all_goals (with_reducible rfl)
   (try simp only [Act.put, zA, zB, zC])
   refine' wpAnyH_take (i := 16) (oi := _) (v := .string ⟨sl.toArray⟩) ?hit19 ?hst19 ?hft19 ?hrt19 ?hQt19 ?hyt19 ?hSt19 ?_
   case hit19 => (simp only [zD, zE, zF]; rfl)
   case hst19 | hft19 | hrt19 => kernel_rfl
   case hQt19 => exact fun _ _ _ h => h
   case hSt19 => assumption
   case hyt19 =>
    refine Or.inl ⟨by rfl, ?_⟩
    intro W hS
    exact quiet_back (.tmp 66) (some ⟨g7, 0, none⟩) 64 64 _ sl rfl (RS.out W hS) rfl
   (try simp only [Act.put, zA, zB, zC])
   refine' wpAnyH_take (i := 17) (oi := _) (v := _) ?hit20 ?hst20 ?hft20 ?hrt20 ?hQt20 ?hyt20 ?hSt20 ?_
   case hit20 => (simp only [zD, zE, zF]; rfl)
   case hst20 | hft20 | hrt20 => kernel_rfl
   case hQt20 => exact fun _ _ _ h => h
   case hSt20 => assumption
   case hyt20 =>
    refine Or.inl ⟨by rfl, ?_⟩
    intro w hSw
    (try dsimp only at hSw)
    go_simp
    all_goals (with_reducible rfl)
   (try simp only [Act.put, zA, zB, zC])
   refine' wpAnyH_take (i := 18) (oi := _) (v := _) ?hit21 ?hst21 ?hft21 ?hrt21 ?hQt21 ?hyt21 ?hSt21 ?_
   case hit21 => (simp only [zD, zE, zF]; rfl)
   case hst21 | hft21 | hrt21 => kernel_rfl
   case hQt21 => exact fun _ _ _ h => h
   case hSt21 => assumption
   case hyt21 =>
    refine Or.inl ⟨by rfl, ?_⟩
    intro w hSw
    (try dsimp only at hSw)
    go_simp
    all_goals (with_reducible rfl)
   (try simp only [Act.put, zA, zB, zC])
   refine wpAnyH_ready (rs := [19]) (by kernel_rfl) (by simp) ?_
   refine' (AllReadyH.cons (o := _) ?hir22_19 (fun K hK => ?br22_19) AllReadyH.nil)
   case hir22_19 => (simp only [zD, zE, zF]; rfl)
   case br22_19 =>
    go_simp
    refine (CRS.out _ ((HR.out.below H12.out).more H12.out.size) ((HT.out.below H12.out).more H12.out.size)).mono ?_
    rintro e w23 ⟨r23, rfl, ho23, hb23⟩
    rw [hSl] at ho23
    obtain ⟨Ab, cb, rfl, _⟩ := own_slice ho23
    have HSb := hid (Reads.of_own ho23)
    have H23 := hid (H12.out.trans (hb23.mono H12.out.size))
    clear ho23 hb23
    go_wp2_with fail
    refine hK.out _ _ ?_ (fun hHeld => ?_)
    exact H23.out
    clear hK K
    (try simp only [Act.put, zA, zB, zC])
    refine wpAnyH_ready (rs := [20]) (by kernel_rfl) (by simp) ?_
    refine' (AllReadyH.cons (o := _) ?hir24_20 (fun K hK => ?br24_20) AllReadyH.nil)
    case hir24_20 => (simp only [zD, zE, zF]; rfl)
    case br24_20 =>
     refine step_of_wpG (by rfl) ?_
     refine wp_back (.tmp 70) _ 64 _ _ sl rfl HSb.out rfl ?_
     refine hK.out _ _ ?_ (fun hHeld => ?_)
     exact H23.out
     clear hK K
     (try simp only [Act.put, zA, zB, zC])
     refine' wpAnyH_take (i := 21) (oi := _) (v := _) ?hit26 ?hst26 ?hft26 ?hrt26 ?hQt26 ?hyt26 ?hSt26 ?_
     case hit26 => (simp only [zD, zE, zF]; rfl)
     case hst26 | hft26 | hrt26 => kernel_rfl
     case hQt26 => exact fun _ _ _ h => h
     case hSt26 => assumption
     case hyt26 =>
      refine Or.inl ⟨by rfl, ?_⟩
      intro w hSw
      (try dsimp only at hSw)
      go_simp
      all_goals (with_reducible rfl)
     (try simp only [Act.put, zA, zB, zC])
     refine' wpAnyH_take (i := 22) (oi := _) (v := _) ?hit27 ?hst27 ?hft27 ?hrt27 ?hQt27 ?hyt27 ?hSt27 ?_
     case hit27 => (simp only [zD, zE, zF]; rfl)
     case hst27 | hft27 | hrt27 => kernel_rfl
     case hQt27 => exact fun _ _ _ h => h
     case hSt27 => assumption
     case hyt27 =>
      refine Or.inl ⟨by rfl, ?_⟩
      intro w hSw
      (try dsimp only at hSw)
      go_simp
      all_goals (with_reducible rfl)
     (try simp only [Act.put, zA, zB, zC])
     refine' wpAnyH_take (i := 23) (oi := _) (v := _) ?hit28 ?hst28 ?hft28 ?hrt28 ?hQt28 ?hyt28 ?hSt28 ?_
     case hit28 => (simp only [zD, zE, zF]; rfl)
     case hst28 | hft28 | hrt28 => kernel_rfl
     case hQt28 => exact fun _ _ _ h => h
     case hSt28 => assumption
     case hyt28 =>
      refine Or.inl ⟨by rfl, ?_⟩
      intro w hSw
      (try dsimp only at hSw)
      go_simp
      all_goals (with_reducible rfl)
     (try simp only [Act.put, zA, zB, zC])
     refine' wpAnyH_take (i := 24) (oi := _) (v := _) ?hit29 ?hst29 ?hft29 ?hrt29 ?hQt29 ?hyt29 ?hSt29 ?_
     case hit29 => (simp only [zD, zE, zF]; rfl)
     case hst29 | hft29 | hrt29 => kernel_rfl
     case hQt29 => exact fun _ _ _ h => h
     case hSt29 => assumption
     case hyt29 =>
      refine Or.inl ⟨by rfl, ?_⟩
      intro w hSw
      (try dsimp only at hSw)
      go_simp
      all_goals (with_reducible rfl)
     (try simp only [Act.put, zA, zB, zC])
     refine' wpAnyH_take (i := 25) (oi := _) (v := _) ?hit30 ?hst30 ?hft30 ?hrt30 ?hQt30 ?hyt30 ?hSt30 ?_
     case hit30 => (simp only [zD, zE, zF]; rfl)
     case hst30 | hft30 | hrt30 => kernel_rfl
     case hQt30 => exact fun _ _ _ h => h
     case hSt30 => assumption
     case hyt30 =>
      refine Or.inl ⟨by rfl, ?_⟩
      intro w hSw
      (try dsimp only at hSw)
      go_simp
      all_goals (with_reducible rfl)
     (try simp only [Act.put, zA, zB, zC])
     refine' wpAnyH_take (i := 26) (oi := _) (v := _) ?hit31 ?hst31 ?hft31 ?hrt31 ?hQt31 ?hyt31 ?hSt31 ?_
     case hit31 => (simp only [zD, zE, zF]; rfl)
     case hst31 | hft31 | hrt31 => kernel_rfl
     case hQt31 => exact fun _ _ _ h => h
     case hSt31 => assumption
     case hyt31 =>
      refine Or.inl ⟨by rfl, ?_⟩
      intro w hSw
      (try dsimp only at hSw)
      go_simp
      all_goals (with_reducible rfl)
     (try simp only [Act.put, zA, zB, zC])
     refine wpAnyH_ready (rs := [27]) (by kernel_rfl) (by simp) ?_
     refine' (AllReadyH.cons (o := _) ?hir32_27 (fun K hK => ?br32_27) AllReadyH.nil)
     case hir32_27 => (simp only [zD, zE, zF]; rfl)
     case br32_27 =>
      go_simp
      refine (CV.out _ (RP.out _ H23.out) ((HT.out.below H23.out).more H23.out.size) (RS.out _ H23.out) (H.old (H.old HQ.out HB.out) H23.out)).mono ?_
      rintro e w33 ⟨rfl, hb33⟩
      have H33 := hid (H23.out.trans (hb33.mono H23.out.size))
      clear hb33
      go_wp2_with fail
      refine hK.out _ _ ?_ (fun hHeld => ?_)
      exact H33.out
      clear hK K
      (try simp only [Act.put, zA, zB, zC])
      refine' wpAnyH_take (i := 28) (oi := _) (v := _) ?hit34 ?hst34 ?hft34 ?hrt34 ?hQt34 ?hyt34 ?hSt34 ?_
      case hit34 => (simp only [zD, zE, zF]; rfl)
      case hst34 | hft34 | hrt34 => kernel_rfl
      case hQt34 => exact fun _ _ _ h => h
      case hSt34 => assumption
      case hyt34 =>
       refine Or.inl ⟨by rfl, ?_⟩
       intro w hSw
       (try dsimp only at hSw)
       go_simp
       all_goals (with_reducible rfl)
      (try simp only [Act.put, zA, zB, zC])
      refine' wpAnyH_take (i := 29) (oi := _) (v := _) ?hit35 ?hst35 ?hft35 ?hrt35 ?hQt35 ?hyt35 ?hSt35 ?_
      case hit35 => (simp only [zD, zE, zF]; rfl)
      case hst35 | hft35 | hrt35 => kernel_rfl
      case hQt35 => exact fun _ _ _ h => h
      case hSt35 => assumption
      case hyt35 =>
       refine Or.inl ⟨by rfl, ?_⟩
       intro w hSw
       (try dsimp only at hSw)
       go_simp
       all_goals (with_reducible rfl)
      (try simp only [Act.put, zA, zB, zC])
      refine wpAnyH_ready (rs := [30]) (by kernel_rfl) (by simp) ?_
      refine' (AllReadyH.cons (o := _) ?hir36_30 (fun K hK => ?br36_30) AllReadyH.nil)
      case hir36_30 => (simp only [zD, zE, zF]; rfl)
      case br36_30 =>
       go_simp
       refine (awake8_any H _ (H.old (H.old HQ.out HB.out) H33.out)).mono ?_
       rintro e w37 ⟨rfl, hb37⟩
       have H37 := hid (H33.out.trans (hb37.mono H33.out.size))
       clear hb37
       go_wp2_with fail
       refine hK.out _ _ ?_ (fun hHeld => ?_)
       exact H37.out
       clear hK K
       (try simp only [Act.put, zA, zB, zC])
       refine' wpAnyH_take (i := 31) (oi := _) (v := _) ?hit38 ?hst38 ?hft38 ?hrt38 ?hQt38 ?hyt38 ?hSt38 ?_
       case hit38 => (simp only [zD, zE, zF]; rfl)
       case hst38 | hft38 | hrt38 => kernel_rfl
       case hQt38 => exact fun _ _ _ h => h
       case hSt38 => assumption
       case hyt38 =>
        refine Or.inl ⟨by rfl, ?_⟩
        intro w hSw
        (try dsimp only at hSw)
        go_simp
        all_goals (with_reducible rfl)
       (try simp only [Act.put, zA, zB, zC])
       refine' wpAnyH_take (i := 32) (oi := _) (v := _) ?hit39 ?hst39 ?hft39 ?hrt39 ?hQt39 ?hyt39 ?hSt39 ?_
       case hit39 => (simp only [zD, zE, zF]; rfl)
       case hst39 | hft39 | hrt39 => kernel_rfl
       case hQt39 => exact fun _ _ _ h => h
       case hSt39 => assumption
       case hyt39 =>
        refine Or.inl ⟨by rfl, ?_⟩
        intro w hSw
        (try dsimp only at hSw)
        go_simp
        all_goals (with_reducible rfl)
       (try simp only [Act.put, zA, zB, zC])
       refine wpAnyH_done (by kernel_rfl) ?_ _
       have hbe := hid (HB.out.trans (H37.out.mono HB.out.size))
       clear hHeld
       go_wp2_with fail
       go_ret
       exact ⟨rfl, hbe.out⟩
end Go.Proofs.YtcfogpeinjehbaaGreatDoor
