/-
  The contract of scalar's times. Conditions: a number below L as limbs; the slice reads as bytes in blocks below the call's own; L stands in its variable.
-/
import Derived.Test.YtebnkbeejkopaaaDoorScaLimb
import Derived.Test.YtebnkbeejkopaaaDoorScaBack
set_option linter.unusedVariables false
set_option linter.unusedSimpArgs false
namespace Go.Proofs.YtebnkbeejkopaaaDoor
open Go Go.Proofs Go.RowKit Go.Shelf F5

attribute [local go_sem] Oper.semAt_some

/-- A number times the bytes, read from the last one on. -/
def foldB (n : Nat) (pre : List (Nat × UInt8)) : Nat := pre.foldl (fun s x => (256 * s + n * x.2.toNat) % LL) 0
theorem foldB_snoc (n : Nat) (pre : List (Nat × UInt8)) (x : Nat × UInt8) : foldB n (pre ++ [x]) = (256 * foldB n pre + n * x.2.toNat) % LL := by simp [foldB]
theorem foldB_lt (n : Nat) (pre : List (Nat × UInt8)) : foldB n pre < LL := by
  rcases List.eq_nil_or_concat pre with rfl | ⟨p, x, rfl⟩
  · exact LL_pos
  · rw [List.concat_eq_append, foldB_snoc]; exact Nat.mod_lt _ LL_pos
theorem foldB_backs (n : Nat) (l : List UInt8) : ∀ k, k ≤ l.length → foldB n (backs l k) = n * bval (l.drop (l.length - k)) % LL
  | 0, _ => by simp [backs, foldB, bval, val]
  | k + 1, h => by
    rw [backs_succ, foldB_snoc, foldB_backs n l k (by omega)]
    obtain ⟨m, hm⟩ : ∃ m, m = l.length - 1 - k := ⟨_, rfl⟩
    have hml : m < l.length := by omega
    rw [show l.length - (k + 1) = m by omega, show l.length - k = m + 1 by omega, ← hm]
    have e : bval (l.drop m) = (l.getD m 0).toNat + 256 * bval (l.drop (m + 1)) := by
      have e1 : l.drop m = l[m] :: l.drop (m + 1) := List.drop_eq_getElem_cons hml
      rw [e1]
      show l[m].toNat + 256 * bval (l.drop (m + 1)) = _
      rw [List.getD_eq_getElem?_getD, List.getElem?_eq_getElem hml]; rfl
    rw [e]
    generalize bval (l.drop (m + 1)) = v
    generalize (l.getD m 0).toNat = x
    rw [Nat.add_mod, Nat.mul_mod, Nat.mod_mod, ← Nat.mul_mod, ← Nat.add_mod]
    congr 1
    rw [Nat.mul_add, Nat.mul_left_comm, Nat.add_comm]

/-- Of a byte the highest j bits are done. -/
def bitS (n s x j : Nat) : Nat := (2 ^ j * s + n * (x / 2 ^ (8 - j))) % LL
theorem bitS_zero (n : Nat) {s x : Nat} (hs : s < LL) (hx : x < 256) : bitS n s x 0 = s := by
  unfold bitS; rw [Nat.div_eq_of_lt (by omega)]; simp [Nat.mod_eq_of_lt hs]
theorem bitS_eight (n s x : Nat) : bitS n s x 8 = (256 * s + n * x) % LL := by simp [bitS]
theorem bitS_lt (n s x j : Nat) : bitS n s x j < LL := Nat.mod_lt _ LL_pos
theorem bitS_step (n s x j : Nat) (hj : j < 8) : bitS n s x (j + 1) = (bitS n s x j + bitS n s x j + n * (x / 2 ^ (7 - j) % 2)) % LL := by
  unfold bitS
  have e : x / 2 ^ (7 - j) = 2 * (x / 2 ^ (8 - j)) + x / 2 ^ (7 - j) % 2 := by
    rw [show 8 - j = (7 - j) + 1 by omega, Nat.pow_succ, ← Nat.div_div_eq_div_mul]; omega
  rw [show 8 - (j + 1) = 7 - j by omega]
  generalize x / 2 ^ (7 - j) % 2 = b at *
  rw [e, Nat.pow_succ]
  generalize x / 2 ^ (8 - j) = y
  generalize 2 ^ j = t
  rw [← Nat.two_mul, Nat.add_mod (2 * _), Nat.mul_mod 2 (_ % LL), Nat.mod_mod, ← Nat.mul_mod, ← Nat.add_mod]
  congr 1
  rw [Nat.mul_add, Nat.mul_add, Nat.mul_comm t 2, Nat.mul_assoc, Nat.mul_left_comm n 2, Nat.add_assoc]

section
variable {F : Fence} {n : Nat} {P : Program} {ops : Array Oper} {rest : List Oper} {o : Oper} {a : Act} {w : World} {Q : Exit → Act → World → Prop}
theorem wpListIn_load_row (hgd : o.guard = none) (ty : TypeId) (x : Operand) (ho : o.op = .load ty x)
    (g : Nat) (hx : a.eval x = .pointer (some ⟨g, 0, none⟩)) (t : TypeId) (cs : Array Value) (d : TypeDesc) (hg : Blk w g t cs)
    (hu : P.underlying ty = some d) (hd : (match d with | .struct _ | .array _ _ => true | _ => false) = true) (hi : (P.info? ty).map (·.size) = some cs.size)
    (h : wpListIn F n P ops Q rest (a.put o.dst (.agg cs)) w) : wpListIn F n P ops Q (o :: rest) a w := by
  refine wpListIn_plain hgd fun K hK' => ?_
  unfold Oper.wpIn
  refine ⟨?_, ?_⟩
  · simp [Oper.about, ho]
  · rw [Oper.semAt_plain F _ _ (by rw [ho]; intro c hc'; cases hc')]
    unfold execOp
    simp only [ho, hx, Instr.loadAt, Instr.sureAddr, Sem.run_bind, Sem.run_pure, Result.andThen_ok, run_loadVar_row w g t ty cs (0, 0) d hg hu hd hi]
    exact hK' _ _ h
theorem wpListIn_store_row (hgd : o.guard = none) (ty : TypeId) (x y : Operand) (ho : o.op = .store ty x y)
    (g : Nat) (cells : Array Value) (hx : a.eval x = .pointer (some ⟨g, 0, none⟩)) (hy : a.eval y = .agg cells)
    (t : TypeId) (old : Array Value) (hg : w.heap[g]? = some (.cells old t (0, 0))) (hi : (P.info? ty).map (·.size) = some cells.size)
    (hold : old.size = cells.size) (h1 : cells.all (·.oneCell') = true)
    (h : wpListIn F n P ops Q rest (a.put o.dst undef) (w.setRow g cells)) : wpListIn F n P ops Q (o :: rest) a w := by
  refine wpListIn_plain hgd fun K hK' => ?_
  unfold Oper.wpIn
  refine ⟨?_, ?_⟩
  · simp [Oper.about, ho]
  · rw [Oper.semAt_plain F _ _ (by rw [ho]; intro c hc'; cases hc')]
    unfold execOp
    simp only [ho, hx, hy, Instr.storeAt, Instr.sureAddr, Sem.run_bind, Sem.run_pure, Result.andThen_ok, run_storeVar_row w g t ty old cells hg hi hold h1]
    exact hK' _ _ h
end

theorem Blk.kept {W W' : World} {row : Option Nat} {g t : Nat} {c : Array Value} (h : Blk W g t c) (hg : W.grownBy W' row) (hr : ∀ r, row = some r → ∃ o : Obj, W.heap[r]? = some o ∧ o.isCells = false) : Blk W' g t c := by
  refine h.grown hg fun e => ?_
  obtain ⟨o, ho, hc⟩ := hr g e.symm
  unfold Blk at h
  rw [h] at ho
  injection ho with ho
  subst ho
  cases hc

theorem OrderAt.grown {w w' : World} {g : Nat} (h : OrderAt w) (hg : w.grownBy w' (some g)) (hne : g ≠ 0) : OrderAt w' :=
  ⟨Nat.lt_of_lt_of_le h.1 hg.size, fun j v hj => (hg.cell_far ⟨0, 0 + j, none⟩ h.1 (fun e => hne (by injection e with e; exact e.symm))).trans (h.2 j v hj)⟩
/-- The bits of a byte, from the highest one. -/
def bitv (j : Nat) : Nat := 128 / 2 ^ j
theorem bitv_eq {j : Nat} (h : j < 8) : bitv j = 2 ^ (7 - j) := by
  unfold bitv
  rw [show (128 : Nat) = 2 ^ 7 from rfl, Nat.pow_div (by omega) (by decide)]
theorem bitv_next (j : Nat) : bitv (j + 1) = bitv j / 2 := by unfold bitv; rw [Nat.pow_succ, Nat.div_div_eq_div_mul]
theorem bitv_pos {j : Nat} (h : j < 8) : 0 < bitv j := by rw [bitv_eq h]; exact Nat.two_pow_pos _
theorem and_bitv : ∀ d : Fin 256, ∀ j : Fin 8, (bits .and .u8 ((d.val : Nat) : Int) ((bitv j.val : Nat) : Int) != 0) = (d.val / 2 ^ (7 - j.val) % 2 == 1) := by decide +kernel
theorem limS_one (n : Nat) : (limS n).all (·.oneCell') = true := u64s_one _
theorem limS_info (n : Nat) : (Tryd.prog.info? 34).map (·.size) = some (limS n).size := u64s_info (digs_length _ _ _)
theorem grown_row (w : World) (g : Nat) (c : Array Value) : w.grownBy (w.setRow g c) (some g) :=
  ⟨rfl, rfl, rfl, by simp, fun k _ hk => setRow_other w g k c (fun e => hk (by rw [e]))⟩

theorem zeros4_lim (n : Nat) : zeros4 = limS (foldB n []) := by
  have e : foldB n [] = 0 := rfl
  rw [e]; rfl

/-- Between two rounds. -/
def TimesAt (n : Nat) (w : World) (pre : List (Nat × UInt8)) (W : World) : Prop :=
  (Blk W w.heap.size 34 (limS n) ∧ Blk W (w.heap.size + 1) 34 zeros4 ∧ Blk W (w.heap.size + 2) 34 (limS (foldB n pre)) ∧ w.heap.size + 3 < W.heap.size) ∧ Below w.heap.size w W
theorem times_own (n : Nat) (w : World) (B : Nat) (hB : w.heap.size ≤ B) : OwnFrom B (TimesAt n w) :=
  OwnFrom.and (Own.from (fun s X Y row hs hg hr => ⟨hs.1.kept hg hr, hs.2.1.kept hg hr, hs.2.2.1.kept hg hr, Nat.lt_of_lt_of_le hs.2.2.2 hg.size⟩) _) (ownFrom_below (Nat.le_refl _) hB)

set_option maxRecDepth 100000 in
set_option maxHeartbeats 4000000 in
theorem stimes_any (n : Nat) (hn : n < LL) (A : Option Addr) (len cap : Nat) (l : List UInt8) (hlen : l.length = len) (hmax : len ≤ 140737488351232) (w : World) (hr : Reads w w.heap.size 1 A len (Lib.byteCells l)) (hO : OrderAt w) :
    Calls Tryd.prog 18 #[.agg (limS n), .slice A len cap] w fun e w' => e = .returned (.agg (limS (n * bval l % LL))) ∧ Below w.heap.size w w' := by
  obtain ⟨cn, hcn⟩ : ∃ c, Hid (c = limS n) := ⟨_, Lib.hid rfl⟩
  rw [← hcn.out]
  refine (callsIn_wide (n := 5)).1 ?_
  refine callsIn_of_wp_marks Tryd.func18 rfl trivial ?_ rfl
  simp only [Tryd.ntmps18, List.size_toArray, List.length_cons, List.length_nil, Nat.reduceAdd, Nat.reduceSub, Array.replicate_succ, Array.replicate_zero, List.push_toArray, List.append_toArray, List.nil_append, List.cons_append]
  gi_wp2_with (refine ⟨trivial, ?_⟩; gi_at_call 23; refine (back_in Fence.wide _ trivial rfl _ _ _ _).mono ?_; rintro e w' ⟨rfl, rfl⟩)
  have b0 := ((Blk.new w 34 cn).alloc (.cells zeros4 34)).alloc (.cells zeros4 34)
  obtain ⟨b1, b2, b3, hb, hsz⟩ := sthree w cn zeros4 zeros4 34 34 34
  have b4 := Blk.new (((w.alloc (.cells cn 34)).alloc (.cells zeros4 34)).alloc (.cells zeros4 34)) 22 #[.slice A len cap]
  have hs3 : (((w.alloc (.cells cn 34)).alloc (.cells zeros4 34)).alloc (.cells zeros4 34)).heap.size = w.heap.size + 1 + 1 + 1 := by simp
  rw [hs3] at b4
  have hs4 : ((((w.alloc (.cells cn 34)).alloc (.cells zeros4 34)).alloc (.cells zeros4 34)).alloc (.cells #[.slice A len cap] 22)).heap.size = w.heap.size + 4 := by simp
  have hb4 : Below w.heap.size w ((((w.alloc (.cells cn 34)).alloc (.cells zeros4 34)).alloc (.cells zeros4 34)).alloc (.cells #[.slice A len cap] 22)) := hb.alloc (by simp; omega) _
  replace b1 := b1.alloc (.cells #[.slice A len cap] 22)
  replace b2 := b2.alloc (.cells #[.slice A len cap] 22)
  replace b3 := b3.alloc (.cells #[.slice A len cap] 22)
  generalize hW : ((((w.alloc (.cells cn 34)).alloc (.cells zeros4 34)).alloc (.cells zeros4 34)).alloc (.cells #[.slice A len cap] 22)) = W0 at *
  clear b0 hb hsz hs3 hW
  refine wpIn_rangeFunc_ownG rfl (by omega) (gf := 26) (lb := #[.pointer (some ⟨w.heap.size + 1 + 1 + 1, 0, none⟩)]) rfl trivial (enters_of Tryd.func26 (by kernel_rfl) rfl)
    (back_stops Fence.wide _ trivial rfl (by omega) (w.heap.size + 1 + 1 + 1) w.heap.size A len cap l hlen hmax W0 (by omega) (by omega) (b4.cell 0) (hr.below hb4)) (fun h k => h.trans k) (kpB_turn (by omega) (by omega)) (Below.refl _ _) (fun _ => rfl)
    (TimesAt n w) (fun _ _ _ => False) (times_own n w _ (by omega)) (fun _ _ _ _ _ hs _ _ => hs)
    ⟨⟨by rw [← hcn.out]; exact b1, b2, by rw [zeros4_lim n] at b3; exact b3, by omega⟩, hb4⟩
    (fun x => { tmps := #[.agg cn, .slice A len cap, .pointer (some ⟨w.heap.size, 0, none⟩), undef, .pointer (some ⟨w.heap.size + 1, 0, none⟩), .pointer (some ⟨w.heap.size + 1 + 1, 0, none⟩), undef, .int .u8 (x.2.toNat : Int), undef, .slice A len cap,
      .func (.func 26) #[] #[.pointer (some ⟨w.heap.size + 1 + 1 + 1, 0, none⟩)], .int .i64 (x.1 : Int), .int .u8 (x.2.toNat : Int), undef, undef, undef, undef, undef, undef, undef, undef, undef, undef, undef, undef, undef, undef, undef], defers := [] }) ?assign ?body ?done ?stop
  case assign =>
    intro l x W K hK
    gi_wp2
    exact hK
  case body =>
    rintro lp pre x W ⟨⟨bn, br, bs, hl3⟩, hB⟩ _
    have hOW := Lib.hid (hO.old hB)
    obtain ⟨s, hs⟩ : ∃ s, Hid (s = foldB n pre) := ⟨_, Lib.hid rfl⟩
    obtain ⟨d, hd⟩ : ∃ d, Hid (d = x.2.toNat) := ⟨_, Lib.hid rfl⟩
    have hsl : Hid (s < LL) := by rw [hs.out]; exact Lib.hid (foldB_lt _ _)
    have hdl : d < 256 := by rw [hd.out]; exact x.2.toNat_lt
    have hlast : Hid (w.heap.size + 1 + 1 + 1 < W.heap.size) := Lib.hid hl3
    rw [← hs.out] at bs
    rw [← hd.out]
    rw [← hcn.out] at bn
    have BN := Lib.hid bn
    have BR := Lib.hid br
    have BS := Lib.hid bs
    have HBW := Lib.hid hB
    clear bn br bs hB b1 b2 b3 b4 hb4
    gi_wp2
    gi_loopw [8] (fun bv wr => ∃ j, j ≤ 8 ∧ bv = .int .u8 ((bitv j : Nat) : Int) ∧ W.grownBy wr (some (w.heap.size + 2)) ∧ Blk wr (w.heap.size + 2) 34 (limS (bitS n s d j))) (fun bv _ => (intOf bv).toNat)
    case atStart => exact ⟨0, by omega, rfl, World.grownBy.refl _ _, by rw [bitS_zero n hsl.out hdl]; exact BS.out⟩
    case round =>
      obtain ⟨j, hj, rfl, hg, hbs⟩ := hrel
      obtain ⟨b, hb⟩ : ∃ b, Hid (b = bitv j) := ⟨_, Lib.hid rfl⟩
      rw [← hb.out]
      by_cases hlt : j < 8
      · have hbp : 0 < b := by rw [hb.out]; exact bitv_pos hlt
        have hb0 : ((b : Int) != 0) = true := by simp; omega
        have hbl : b < 256 := by rw [hb.out, bitv_eq hlt]; exact Nat.lt_of_le_of_lt (Nat.pow_le_pow_right (by decide) (show 7 - j ≤ 7 by omega)) (by decide)
        obtain ⟨v, hv⟩ : ∃ v, Hid (v = bitS n s d j) := ⟨_, Lib.hid rfl⟩
        have hvl : v < LL := by rw [hv.out]; exact bitS_lt _ _ _ _
        obtain ⟨c1, hc1⟩ : ∃ c, Hid (c = limS v) := ⟨_, Lib.hid rfl⟩
        obtain ⟨c2, hc2⟩ : ∃ c, Hid (c = limS ((v + v) % LL)) := ⟨_, Lib.hid rfl⟩
        rw [← hv.out, ← hc1.out] at hbs
        have o1 : Hid ((Tryd.prog.info? 34).map (·.size) = some c1.size) := by rw [hc1.out]; exact Lib.hid (limS_info _)
        have o2 : Hid ((Tryd.prog.info? 34).map (·.size) = some c2.size) := by rw [hc2.out]; exact Lib.hid (limS_info _)
        have p2 : Hid (c2.all (·.oneCell') = true) := by rw [hc2.out]; exact Lib.hid (limS_one _)
        have z2 : Hid (c1.size = c2.size) := by rw [hc1.out, hc2.out, limS_size, limS_size]; exact Lib.hid rfl
        have B1 := Lib.hid hbs
        have hne : w.heap.size + 2 ≠ 0 := by have := hO.1; omega
        have O1 := Lib.hid (hOW.out.grown hg hne)
        have G1 := Lib.hid hg
        have CA1 : Hid (∀ V, OrderAt V → Calls Tryd.prog 19 #[.agg c1, .agg c1] V fun e w' => e = .returned (.agg c2) ∧ Below V.heap.size V w') := by
          rw [hc1.out, hc2.out]; exact Lib.hid fun V hV => sadd_any v v hvl hvl V hV
        clear hbs hg
        gi_wp2_with (refine wpListIn_load_row rfl 34 (.tmp 5) rfl (w.heap.size + 2) rfl 34 c1 _ B1.out Tryd.underlying34 rfl o1.out ?_)
        refine ⟨trivial, ?_⟩
        refine (CallsIn.inRound lp (callsIn_wide.2 (CA1.out _ O1.out))).mono ?_
        rintro e w2 ⟨rfl, hb2⟩
        have B2 := Lib.hid (B1.out.old hb2)
        have G2 := Lib.hid (G1.out.trans (grown_below hb2 (some (w.heap.size + 2))))
        have B3 := Lib.hid (B2.out.row c2)
        have G3 := Lib.hid (G2.out.trans (grown_row w2 (w.heap.size + 2) c2))
        clear hb2
        have hstep := bitS_step n s d j hlt
        rw [← hv.out] at hstep
        have hand := and_bitv ⟨d, hdl⟩ ⟨j, hlt⟩
        simp only [] at hand
        rw [← hb.out] at hand
        have hbn : ((b : Int) / 2) = ((bitv (j + 1) : Nat) : Int) := by rw [bitv_next, ← hb.out]; omega
        have HBN := Lib.hid hbn
        clear hbn
        rcases Nat.mod_two_eq_zero_or_one (d / 2 ^ (7 - j)) with ht | ht
        · have hq : (bits .and .u8 (d : Int) (b : Int) != 0) = false := by rw [hand, ht]; rfl
          rw [ht] at hstep
          simp only [Nat.mul_zero, Nat.add_zero] at hstep
          have hfin : Hid (Blk (w2.setRow (w.heap.size + 2) c2) (w.heap.size + 2) 34 (limS (bitS n s d (j + 1)))) := by rw [hstep, ← hc2.out]; exact B3
          clear hand ht hstep
          gi_wp2_with (refine wpListIn_store_row rfl 34 (.tmp 5) (.tmp 19) rfl (w.heap.size + 2) c2 rfl rfl 34 _ B2.out o2.out z2.out p2.out ?_)
          refine ⟨⟨j + 1, by omega, by rw [HBN.out], G3.out, hfin.out⟩, ?_⟩
          simp [intOf]; omega
        · have hq : (bits .and .u8 (d : Int) (b : Int) != 0) = true := by rw [hand, ht]; rfl
          rw [ht, Nat.mul_one] at hstep
          obtain ⟨v2, hv2⟩ : ∃ v2, Hid (v2 = (v + v) % LL) := ⟨_, Lib.hid rfl⟩
          have hv2l : v2 < LL := by rw [hv2.out]; exact Nat.mod_lt _ LL_pos
          obtain ⟨c3, hc3⟩ : ∃ c, Hid (c = limS ((v2 + n) % LL)) := ⟨_, Lib.hid rfl⟩
          have hst3 : Hid (c3 = limS (bitS n s d (j + 1))) := by rw [hc3.out, hstep, hv2.out, Nat.mod_add_mod]; exact Lib.hid rfl
          rw [← hv2.out] at hc2
          have o3 : Hid ((Tryd.prog.info? 34).map (·.size) = some c3.size) := by rw [hc3.out]; exact Lib.hid (limS_info _)
          have on : Hid ((Tryd.prog.info? 34).map (·.size) = some cn.size) := by rw [hcn.out]; exact Lib.hid (limS_info _)
          have p3 : Hid (c3.all (·.oneCell') = true) := by rw [hc3.out]; exact Lib.hid (limS_one _)
          have z3 : Hid (c2.size = c3.size) := by rw [hc2.out, hc3.out, limS_size, limS_size]; exact Lib.hid rfl
          have O3 := Lib.hid (hOW.out.grown G3.out hne)
          have BN3 := Lib.hid (BN.out.grown G3.out (fun e => by injection e with e; omega))
          have CA2 : Hid (∀ V, OrderAt V → Calls Tryd.prog 19 #[.agg c2, .agg cn] V fun e w' => e = .returned (.agg c3) ∧ Below V.heap.size V w') := by
            rw [hc2.out, hc3.out, hcn.out]; exact Lib.hid fun V hV => sadd_any v2 n hv2l hn V hV
          clear hand ht hstep
          gi_wp2_with (first | (refine wpListIn_store_row rfl 34 (.tmp 5) (.tmp 19) rfl (w.heap.size + 2) c2 rfl rfl 34 _ B2.out o2.out z2.out p2.out ?_) |
            (refine wpListIn_load_row rfl 34 (.tmp 5) rfl (w.heap.size + 2) rfl 34 c2 _ B3.out Tryd.underlying34 rfl o2.out ?_) |
            (refine wpListIn_load_row rfl 34 (.tmp 2) rfl w.heap.size rfl 34 cn _ BN3.out Tryd.underlying34 rfl on.out ?_))
          refine ⟨trivial, ?_⟩
          refine (CallsIn.inRound lp (callsIn_wide.2 (CA2.out _ O3.out))).mono ?_
          rintro e w4 ⟨rfl, hb4⟩
          have B4 := Lib.hid (B3.out.old hb4)
          have G4 := Lib.hid (G3.out.trans (grown_below hb4 (some (w.heap.size + 2))))
          have B5 := Lib.hid (B4.out.row c3)
          have G5 := Lib.hid (G4.out.trans (grown_row w4 (w.heap.size + 2) c3))
          clear hb4
          gi_wp2_with (refine wpListIn_store_row rfl 34 (.tmp 5) (.tmp 26) rfl (w.heap.size + 2) c3 rfl rfl 34 _ B4.out o3.out z3.out p3.out ?_)
          refine ⟨⟨j + 1, by omega, by rw [HBN.out], G5.out, by rw [← hst3.out]; exact B5.out⟩, ?_⟩
          simp [intOf]; omega
      · obtain rfl : j = 8 := by omega
        have hb0 : b = 0 := by rw [hb.out]; rfl
        subst hb0
        have hfin : Hid (KeepsFrom W0.heap.size W wr ∧ KpB w.heap.size (w.heap.size + 1 + 1 + 1) W wr ∧ TimesAt n w (pre ++ [x]) wr) := by
          refine Lib.hid ⟨KeepsFrom.of_grownBy hg (fun k e => by injection e with e; omega), ⟨(Below.refl _ W).grown hg HBW.out.size (fun k e => by injection e with e; omega), World.cell?_of_block (hg.block _ ?_ (fun e => by injection e with e; simp at e))⟩, ⟨?_, ?_, ?_, Nat.lt_of_lt_of_le hlast.out hg.size⟩, HBW.out.grown hg HBW.out.size (fun k e => by injection e with e; omega)⟩
          · exact hlast.out
          · rw [← hcn.out]; exact BN.out.grown hg (fun e => by injection e with e; omega)
          · exact BR.out.grown hg (fun e => by injection e with e; omega)
          · rw [foldB_snoc, ← hs.out, ← hd.out, ← bitS_eight]; exact hbs
        clear hg hbs
        gi_wp2
        exact hfin.out
  case done =>
    rintro D ys W hD rfl ⟨⟨bn, br, bs, hl3⟩, hB⟩ hK
    obtain ⟨R, hR⟩ : ∃ R, Hid (R = limS (n * bval l % LL)) := ⟨_, Lib.hid rfl⟩
    rw [foldB_backs n l len (by omega), hlen, Nat.sub_self, List.drop_zero, ← hR.out] at bs
    have BR := Lib.hid br
    have BS := Lib.hid bs
    have oR : Hid ((Tryd.prog.info? 34).map (·.size) = some R.size) := by rw [hR.out]; exact Lib.hid (limS_info _)
    have pR : Hid (R.all (·.oneCell') = true) := by rw [hR.out]; exact Lib.hid (limS_one _)
    have zR : Hid (zeros4.size = R.size) := by rw [hR.out, limS_size]; exact Lib.hid rfl
    have hK' : Hid ((W.setRow (w.heap.size + 1) R).heap[D]? = some (.deferred (some []))) := Lib.hid ((setRow_other W (w.heap.size + 1) D R (by omega)).trans hK)
    have HB := Lib.hid (below_row hB (show w.heap.size ≤ w.heap.size + 1 by omega) R)
    clear bn br bs hB hK
    gi_wp2_with (first | (refine wpListIn_load_row rfl 34 (.tmp 5) rfl (w.heap.size + 2) rfl 34 R _ BS.out Tryd.underlying34 rfl oR.out ?_) |
      (refine wpListIn_store_row rfl 34 (.tmp 4) (.tmp 27) rfl (w.heap.size + 1) R rfl rfl 34 _ BR.out oR.out zR.out pR.out ?_))
    refine ⟨by simp, .inl ⟨_, _, rfl, run_takeDeferred hK'.out, ?_⟩⟩
    have hB5 := (BR.out.row R).kept (grownBy_putObj' _ D (.deferred none)) (fun r e => by cases e; exact ⟨_, hK'.out, rfl⟩)
    refine ⟨.agg R, results_cell_row Tryd.results18 _ _ (w.heap.size + 1) 34 R (0, 0) _ rfl hB5 Tryd.underlying34 rfl oR.out, by rw [hR.out], ?_⟩
    exact HB.out.trans (belowK_b (w := w) (Nat.le_refl _) _ D _ _ (by omega) hK'.out rfl rfl)
  case stop =>
    rintro D c pre W _ _ h _
    exact h.elim
end Go.Proofs.YtebnkbeejkopaaaDoor
