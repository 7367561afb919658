/-
  The contracts of field's Of, Same, Odd, Add, Sub, Mul and Bytes. Conditions: elements below p.
-/
import Derived.Test.YtphlehinjooncaaDoorFldMulti
import Derived.Test.YtphlehinjooncaaDoorFldEq
set_option linter.unusedVariables false
set_option linter.unusedSimpArgs false
namespace Go.Proofs.YtphlehinjooncaaDoor
open Go Go.Proofs Go.RowKit F5

theorem ret_int {k : IntKind} {a b : Int} (h : a = b) : Ending.returned (.int k a) = .returned (.int k b) := by rw [h]
theorem ret_bool {a b : Bool} (h : a = b) : Ending.returned (.bool a) = .returned (.bool b) := by rw [h]

/-- A number as four limbs. -/
def limA (n : Nat) : Array Value := u64s (digs M n 4)
def elemV (n : Nat) : Value := .agg (limA n)
theorem limA_size (n : Nat) : (limA n).size = 4 := by rw [limA, u64s_size, digs_length]
theorem limA_one (n : Nat) : (limA n).all (·.oneCell') = true := u64s_one _
theorem limA_get (n i : Nat) (h : i < 4) : (limA n)[i]? = some (.int .u64 ((n / M ^ i % M : Nat) : Int)) := by
  rw [limA, u64s_get _ _ (by rw [digs_length]; exact h), digs_getD _ _ _ _ h]
theorem limA_info (n : Nat) : (Tryd.prog.info? 26).map (·.size) = some (limA n).size := by rw [limA_size]; exact info4
theorem infoE : (Tryd.prog.info? 28).map (·.size) = some 4 := by kernel_rfl
theorem limA_infoE (n : Nat) : (Tryd.prog.info? 28).map (·.size) = some (limA n).size := by rw [limA_size]; exact infoE
theorem P_lt : P < M ^ 4 := by decide
theorem limA_val {n : Nat} (h : n < P) : val M (digs M n 4) = n := by rw [val_digs, Nat.mod_eq_of_lt (Nat.lt_trans h P_lt)]
theorem limA_all (n : Nat) : All M (digs M n 4) := digs_all (by decide) _ _
theorem limA_inj {n m : Nat} (hn : n < P) (hm : m < P) : limA n = limA m ↔ n = m := by
  constructor
  · intro h
    have h2 : digs M n 4 = digs M m 4 := by
      apply List.ext_getElem?
      intro i
      by_cases hi : i < 4
      · have e := congrArg (·[i]?) h
        simp only [limA, u64s_get _ _ (show i < (digs M n 4).length by rw [digs_length]; exact hi), u64s_get _ _ (show i < (digs M m 4).length by rw [digs_length]; exact hi), Option.some.injEq, Value.int.injEq, true_and, Int.natCast_inj] at e
        rw [List.getD_eq_getElem?_getD, List.getD_eq_getElem?_getD] at e
        rw [List.getElem?_eq_getElem (by rw [digs_length]; exact hi), List.getElem?_eq_getElem (by rw [digs_length]; exact hi)] at e ⊢
        simpa using e
      · rw [List.getElem?_eq_none (by rw [digs_length]; omega), List.getElem?_eq_none (by rw [digs_length]; omega)]
    exact digs_inj h2 (Nat.lt_trans hn P_lt) (Nat.lt_trans hm P_lt)
  · rintro rfl; rfl

/-- A load of a whole block, guarded. -/
theorem wpList_load_lim {P : Program} {ops : Array Oper} {rest : List Oper} {o : Oper} {a : Act} {w : World} {Q : Exit → Act → World → Prop} (hw : Region.wanted o (yielded ops a.tmps) = true) (ty : TypeId) (x : Operand) (ho : o.op = .load ty x)
    (g : Nat) (hx : a.eval x = .pointer (some ⟨g, 0, none⟩)) (t : TypeId) (cs : Array Value) (d : TypeDesc) (hg : Blk w g t cs)
    (hu : P.underlying ty = some d) (hd : (match d with | .struct _ | .array _ _ => true | _ => false) = true) (hi : (P.info? ty).map (·.size) = some cs.size)
    (h : wpList P ops Q rest (a.put o.dst (.agg cs)) w) : wpList P ops Q (o :: rest) a w :=
  wpList_step fun K hK => by
    simp only [hw, if_true]
    unfold Oper.wp execOp
    simp only [ho, hx, Instr.loadAt, Instr.sureAddr, Sem.run_bind, Sem.run_pure, Result.andThen_ok, run_loadVar_row w g t ty cs (0, 0) d hg hu hd hi]
    exact hK _ _ h

set_option maxHeartbeats 400000 in
theorem of_any (n : Nat) (hn : n < M) (w : World) : Calls Tryd.prog 10 #[.int .u64 (n : Int)] w fun e w' => e = .returned (elemV n) ∧ Below w.heap.size w w' := by
  have hd : elemV n = .agg #[.int .u64 (n : Int), .int .u64 0, .int .u64 0, .int .u64 0] := by
    have e : digs M n 4 = [n, 0, 0, 0] := by
      simp only [digs, Nat.mod_eq_of_lt hn, Nat.div_eq_of_lt hn]
      rfl
    rw [elemV, limA, e]; rfl
  rw [hd]
  clear hd
  go_enter Tryd.func10, Tryd.ntmps10
  go_wp2
  refine bodyPost_ret (v := .agg #[.int .u64 (n : Int), .int .u64 0, .int .u64 0, .int .u64 0]) ?_ rfl ⟨rfl, ?_⟩
  · simp [results, Tryd.results10, go_sem]
  · exact (Below.refl _ _).alloc (Nat.le_refl _) _

/-- Two elements and a third one's room, one behind the other. -/
theorem three_blks (w : World) (cn cm z : Array Value) (T : TypeId) : Blk (((w.alloc (.cells cn T)).alloc (.cells cm T)).alloc (.cells z T)) w.heap.size T cn ∧ Blk (((w.alloc (.cells cn T)).alloc (.cells cm T)).alloc (.cells z T)) (w.heap.size + 1) T cm ∧
    Blk (((w.alloc (.cells cn T)).alloc (.cells cm T)).alloc (.cells z T)) (w.heap.size + 2) T z ∧ Below w.heap.size w (((w.alloc (.cells cn T)).alloc (.cells cm T)).alloc (.cells z T)) ∧ w.heap.size + 2 < (((w.alloc (.cells cn T)).alloc (.cells cm T)).alloc (.cells z T)).heap.size := by
  refine ⟨((Blk.new w T cn).alloc _).alloc _, ?_, ?_, (((Below.refl _ _).alloc (Nat.le_refl _) _).alloc (by simp) _).alloc (by simp; omega) _, by simp⟩
  · have := (Blk.new (w.alloc (.cells cn T)) T cm).alloc (.cells z T)
    rwa [show (w.alloc (.cells cn T)).heap.size = w.heap.size + 1 by simp] at this
  · have := Blk.new ((w.alloc (.cells cn T)).alloc (.cells cm T)) T z
    rwa [show ((w.alloc (.cells cn T)).alloc (.cells cm T)).heap.size = w.heap.size + 2 by simp] at this
theorem nil_mid (l : List Nat) : ([] : List Nat) ++ l ++ [] = l := by simp
theorem Blk.nilmid {w : World} {g t n : Nat} (h : Blk w g t (limA n)) : Blk w g t (u64s ([] ++ digs M n 4 ++ [])) := by rw [nil_mid]; exact h
theorem Blk.limcell {w : World} {g t n : Nat} (h : Blk w g t (limA n)) (j : Nat) (hj : j < 4) : w.cell? ⟨g, 0 + j, none⟩ = some (.int .u64 (((digs M n 4).getD j 0 : Nat) : Int)) := by
  rw [Nat.zero_add, h.cell, limA, u64s_get _ _ (by rw [digs_length]; exact hj)]

theorem add_arith {n m c : Nat} {L : List Nat} (hn : n < P) (hm : m < P) (h : Part M (digs M n 4) 4 L c (val M (digs M m 4))) : L = digs M (n + m) 4 := by
  obtain ⟨h1, h2, _, h4⟩ := h
  rw [limA_val hn, limA_val hm] at h4
  have hl := val_lt L h2
  rw [h1, digs_length] at hl
  refine digs_of h2 (h1.trans (digs_length _ _ _)) ?_
  have hc : c = 0 := by unfold P at hn hm; unfold M at *; omega
  subst hc
  omega
theorem subP_mod {a : Nat} (h : a < 2 * P) : subP a P = a % P := by
  rw [subP_P (Nat.lt_trans h (by decide))]
  split
  · rename_i hle
    rw [Nat.mod_eq_sub_mod hle, Nat.mod_eq_of_lt (by omega)]
  · rw [Nat.mod_eq_of_lt (by omega)]
theorem subP_sub {n m : Nat} (hn : n < P) (hm : m < P) : subP n m = (n + P - m) % P := by
  unfold subP
  split
  · rw [show n + P - m = (n - m) + P by omega, Nat.add_mod_right, Nat.mod_eq_of_lt (by omega)]
  · rw [show n + M ^ 4 - m + P = (n + P - m) + M ^ 4 by unfold P at *; unfold M; omega, Nat.add_mod_right, Nat.mod_eq_of_lt (by unfold P at *; unfold M; omega), Nat.mod_eq_of_lt (by omega)]

set_option maxHeartbeats 2000000 in
theorem add_e (n m : Nat) (hn : n < P) (hm : m < P) (w : World) (hP : PrimeAt w) :
    Calls Tryd.prog 17 #[elemV n, elemV m] w fun e w' => e = .returned (elemV ((n + m) % P)) ∧ Below w.heap.size w w' := by
  unfold elemV
  obtain ⟨cn, hcn⟩ : ∃ c, Hid (c = limA n) := ⟨_, Lib.hid rfl⟩
  obtain ⟨cm, hcm⟩ : ∃ c, Hid (c = limA m) := ⟨_, Lib.hid rfl⟩
  rw [← hcn.out, ← hcm.out]
  have HP := Lib.hid hP
  clear hP
  go_enter Tryd.func17, Tryd.ntmps17
  go_wp2_with fail
  have hw1 := HP.out.1
  obtain ⟨b1, b2, b3, hb, hsz⟩ := three_blks w cn cm #[.int .u64 0, .int .u64 0, .int .u64 0, .int .u64 0] 28
  generalize ((w.alloc (.cells cn 28)).alloc (.cells cm 28)).alloc (.cells #[.int .u64 0, .int .u64 0, .int .u64 0, .int .u64 0] 28) = W at *
  have hp := HP.out.old hb
  rw [hcn.out] at b1
  rw [hcm.out] at b2
  have B3 := Lib.hid b3
  have HB := Lib.hid hb
  refine (add_any w.heap.size 0 28 (w.heap.size + 1) 0 [] (digs M n 4) (digs M m 4) [] W b1.nilmid rfl (digs_length _ _ _) (limA_all n) (digs_length _ _ _) (limA_all m) ?_).mono ?_
  · intro X L _ _ hg j hj
    exact (b2.grown hg (by intro e; injection e with e; omega)).limcell j hj
  rintro e w2 ⟨rfl, L, c, hL, hB2, hg2⟩
  obtain rfl := add_arith hn hm hL
  have HB2 := Lib.hid hB2
  have HG2 := Lib.hid hg2
  have hp2 := Lib.hid (hp.grown hg2 (by omega))
  clear hB2 hg2 hL b1 b2 b3 hb hp
  go_wp2_with fail
  refine (round_any w.heap.size 0 28 [] (digs M (n + m) 4) [] w2 HB2.out rfl (digs_length _ _ _) (limA_all _) (by omega) hp2.out).mono ?_
  rintro e w3 ⟨rfl, hB3, hg3⟩
  rw [val_digs, Nat.mod_eq_of_lt (show n + m < M ^ 4 by unfold P at *; unfold M; omega), subP_mod (by omega), nil_mid] at hB3
  obtain ⟨R, hR⟩ : ∃ R, Hid (R = limA ((n + m) % P)) := ⟨_, Lib.hid rfl⟩
  have hB3' : Hid (Blk w3 w.heap.size 28 R) := by rw [hR.out]; exact Lib.hid hB3
  have hg4 := HG2.out.trans hg3
  have b33 : Hid (Blk w3 (w.heap.size + 2) 28 #[.int .u64 0, .int .u64 0, .int .u64 0, .int .u64 0]) := Lib.hid (B3.out.grown hg4 (by intro e; injection e with e; omega))
  have hRi : Hid ((Tryd.prog.info? 28).map (·.size) = some R.size) := by rw [hR.out]; exact Lib.hid (limA_infoE _)
  have hR1 : Hid (R.all (·.oneCell') = true) := by rw [hR.out]; exact Lib.hid (limA_one _)
  have hzz : Hid ((#[.int .u64 0, .int .u64 0, .int .u64 0, .int .u64 0] : Array Value).size = R.size) := by rw [hR.out, limA_size]; exact Lib.hid rfl
  have hbel : Hid (Below w.heap.size w w3) := Lib.hid (HB.out.grown hg4 HB.out.size (fun k hk => by injection hk with hk; omega))
  clear hB3 hg4 hg3
  go_wp2_with (first | (refine wpList_load_row rfl 28 (.tmp 2) rfl w.heap.size rfl 28 R (0, 0) _ hB3'.out Tryd.underlying28 rfl hRi.out ?_) |
    (refine wpList_store_row rfl 28 (.tmp 4) (.tmp 10) rfl (w.heap.size + 2) R rfl rfl 28 _ b33.out hRi.out hzz.out hR1.out ?_))
  refine bodyPost_ret (v := .agg R) ?_ rfl ⟨by rw [hR.out], below_row hbel.out (by omega) _⟩
  exact results_cell_row Tryd.results17 _ _ (w.heap.size + 2) 28 R (0, 0) _ rfl (b33.out.row R) Tryd.underlying28 rfl hRi.out

set_option maxHeartbeats 2000000 in
theorem sub_e (n m : Nat) (hn : n < P) (hm : m < P) (w : World) (hP : PrimeAt w) :
    Calls Tryd.prog 19 #[elemV n, elemV m] w fun e w' => e = .returned (elemV ((n + P - m) % P)) ∧ Below w.heap.size w w' := by
  unfold elemV
  obtain ⟨cn, hcn⟩ : ∃ c, Hid (c = limA n) := ⟨_, Lib.hid rfl⟩
  obtain ⟨cm, hcm⟩ : ∃ c, Hid (c = limA m) := ⟨_, Lib.hid rfl⟩
  rw [← hcn.out, ← hcm.out]
  have HP := Lib.hid hP
  clear hP
  go_enter Tryd.func19, Tryd.ntmps19
  go_wp2_with fail
  have hw1 := HP.out.1
  obtain ⟨b1, b2, b3, hb, hsz⟩ := three_blks w cn cm #[.int .u64 0, .int .u64 0, .int .u64 0, .int .u64 0] 28
  generalize ((w.alloc (.cells cn 28)).alloc (.cells cm 28)).alloc (.cells #[.int .u64 0, .int .u64 0, .int .u64 0, .int .u64 0] 28) = W at *
  have hp := HP.out.old hb
  rw [hcn.out] at b1
  rw [hcm.out] at b2
  have B3 := Lib.hid b3
  have HB := Lib.hid hb
  refine (take_any w.heap.size 0 28 (w.heap.size + 1) 0 [] (digs M n 4) (digs M m 4) [] W b1.nilmid rfl (digs_length _ _ _) (limA_all n) (digs_length _ _ _) (limA_all m) ?_ (by omega) hp).mono ?_
  · intro X L _ _ hg j hj
    exact (b2.grown hg (by intro e; injection e with e; omega)).limcell j hj
  rintro e w3 ⟨rfl, hB3, hg4⟩
  rw [limA_val hn, limA_val hm, subP_sub hn hm, nil_mid] at hB3
  obtain ⟨R, hR⟩ : ∃ R, Hid (R = limA ((n + P - m) % P)) := ⟨_, Lib.hid rfl⟩
  have hB3' : Hid (Blk w3 w.heap.size 28 R) := by rw [hR.out]; exact Lib.hid hB3
  have b33 : Hid (Blk w3 (w.heap.size + 2) 28 #[.int .u64 0, .int .u64 0, .int .u64 0, .int .u64 0]) := Lib.hid (B3.out.grown hg4 (by intro e; injection e with e; omega))
  have hRi : Hid ((Tryd.prog.info? 28).map (·.size) = some R.size) := by rw [hR.out]; exact Lib.hid (limA_infoE _)
  have hR1 : Hid (R.all (·.oneCell') = true) := by rw [hR.out]; exact Lib.hid (limA_one _)
  have hzz : Hid ((#[.int .u64 0, .int .u64 0, .int .u64 0, .int .u64 0] : Array Value).size = R.size) := by rw [hR.out, limA_size]; exact Lib.hid rfl
  have hbel : Hid (Below w.heap.size w w3) := Lib.hid (HB.out.grown hg4 HB.out.size (fun k hk => by injection hk with hk; omega))
  clear hB3 hg4 b1 b2 b3 hb hp
  go_wp2_with (first | (refine wpList_load_row rfl 28 (.tmp 2) rfl w.heap.size rfl 28 R (0, 0) _ hB3'.out Tryd.underlying28 rfl hRi.out ?_) |
    (refine wpList_store_row rfl 28 (.tmp 4) (.tmp 8) rfl (w.heap.size + 2) R rfl rfl 28 _ b33.out hRi.out hzz.out hR1.out ?_))
  refine bodyPost_ret (v := .agg R) ?_ rfl ⟨by rw [hR.out], below_row hbel.out (by omega) _⟩
  exact results_cell_row Tryd.results19 _ _ (w.heap.size + 2) 28 R (0, 0) _ rfl (b33.out.row R) Tryd.underlying28 rfl hRi.out

theorem limA_four (n : Nat) : ∃ a b c d : Nat, limA n = #[.int .u64 (a : Int), .int .u64 (b : Int), .int .u64 (c : Int), .int .u64 (d : Int)] := ⟨_, _, _, _, rfl⟩

theorem built_lim (n : Nat) : Tryd.prog.built 28 [(0, .agg (limA n))] = some (limA n) := by
  obtain ⟨x0, x1, x2, x3, hx⟩ := limA_four n
  rw [hx]
  kernel_rfl
theorem wpList_build_to {P : Program} {ops : Array Oper} {rest : List Oper} {o : Oper} {a : Act} {w : World} {Q : Exit → Act → World → Prop} (hg : o.guard = none) (t : TypeId) (parts : Array (Nat × Operand)) (ho : o.op = .build t parts)
    (vals : List (Nat × Value)) (hv : (parts.map fun (i, x) => (i, a.eval x)).toList = vals) (cells : Array Value) (hb : P.built t vals = some cells) (h : wpList P ops Q rest (a.put o.dst (.agg cells)) w) : wpList P ops Q (o :: rest) a w :=
  wpList_build hg t parts ho (by rw [hv, hb]; rfl) (by rw [hv, hb]; exact h)

set_option maxHeartbeats 2000000 in
theorem mul_e (n m : Nat) (hn : n < P) (hm : m < P) (w : World) (hP : PrimeAt w) :
    Calls Tryd.prog 21 #[elemV n, elemV m] w fun e w' => e = .returned (elemV (n * m % P)) ∧ Below w.heap.size w w' := by
  unfold elemV
  obtain ⟨cn, hcn⟩ : ∃ c, Hid (c = limA n) := ⟨_, Lib.hid rfl⟩
  obtain ⟨cm, hcm⟩ : ∃ c, Hid (c = limA m) := ⟨_, Lib.hid rfl⟩
  rw [← hcn.out, ← hcm.out]
  have HP := Lib.hid hP
  clear hP
  go_enter Tryd.func21, Tryd.ntmps21
  go_wp2_with fail
  have hw1 := HP.out.1
  obtain ⟨b1, b2, b3, hb, hsz⟩ := three_blks w cn cm #[.int .u64 0, .int .u64 0, .int .u64 0, .int .u64 0] 28
  generalize ((w.alloc (.cells cn 28)).alloc (.cells cm 28)).alloc (.cells #[.int .u64 0, .int .u64 0, .int .u64 0, .int .u64 0] 28) = W at *
  have hp := HP.out.old hb
  rw [hcn.out] at b1
  rw [hcm.out] at b2
  have B3 := Lib.hid b3
  have HB := Lib.hid hb
  refine (times_any w.heap.size 0 (w.heap.size + 1) 0 (digs M n 4) (digs M m 4) W (digs_length _ _ _) (limA_all n) (digs_length _ _ _) (limA_all m) b1.limcell (by omega) b2.limcell (by omega) hp).mono ?_
  rintro e w3 ⟨rfl, hb3⟩
  rw [limA_val hn, limA_val hm]
  have hbd := built_lim (n * m % P)
  have hRi := limA_infoE (n * m % P)
  have hR1 := limA_one (n * m % P)
  have hzz : (#[.int .u64 0, .int .u64 0, .int .u64 0, .int .u64 0] : Array Value).size = (limA (n * m % P)).size := by rw [limA_size]; rfl
  obtain ⟨R, hR⟩ : ∃ R, Hid (R = limA (n * m % P)) := ⟨_, Lib.hid rfl⟩
  have e : u64s (digs M (n * m % P) 4) = R := by rw [hR.out]; rfl
  rw [e]
  rw [← hR.out] at hbd hRi hR1 hzz
  have HBD := Lib.hid hbd
  have HRi := Lib.hid hRi
  have HR1 := Lib.hid hR1
  have HZ := Lib.hid hzz
  have b33 : Hid (Blk w3 (w.heap.size + 2) 28 #[.int .u64 0, .int .u64 0, .int .u64 0, .int .u64 0]) := Lib.hid (B3.out.old hb3)
  have hbel : Hid (Below w.heap.size w w3) := Lib.hid (HB.out.trans (hb3.mono HB.out.size))
  clear b1 b2 b3 hb hp hb3 e hRi hR1 hzz hbd
  rename_i hK
  refine hK _ _ ?_
  refine wpList_build_to rfl 28 #[(0, .tmp 7)] rfl [(0, .agg R)] (by simp [Act.eval]) R HBD.out ?_
  refine wpList_store_row rfl 28 (.tmp 4) (.tmp 8) rfl (w.heap.size + 2) R rfl rfl 28 _ b33.out HRi.out HZ.out HR1.out ?_
  go_wp2
  refine bodyPost_ret (v := .agg R) ?_ rfl ⟨by rw [hR.out], below_row hbel.out (by omega) _⟩
  exact results_cell_row Tryd.results21 _ _ (w.heap.size + 2) 28 R (0, 0) _ rfl (b33.out.row R) Tryd.underlying28 rfl HRi.out

set_option maxHeartbeats 1000000 in
theorem same_e (n m : Nat) (hn : n < P) (hm : m < P) (w : World) :
    Calls Tryd.prog 13 #[elemV n, elemV m] w fun e w' => e = .returned (.bool (decide (n = m))) ∧ Below w.heap.size w w' := by
  unfold elemV
  obtain ⟨a0, a1, a2, a3, ha⟩ := limA_four n
  obtain ⟨b0, b1, b2, b3, hb⟩ := limA_four m
  have heq : ∀ W, (binOp .eql 26 (.agg (limA n)) (.agg (limA m))).run Tryd.prog W = .ok (.bool (decide (n = m))) W := fun W => by
    rw [limA, limA, run_eql_u64s (i := default) Tryd.underlying26 _ _ (digs_length _ _ _) (digs_length _ _ _) W]
    have : (digs M n 4 = digs M m 4) ↔ n = m := ⟨fun h => digs_inj h (Nat.lt_trans hn P_lt) (Nat.lt_trans hm P_lt), fun h => by rw [h]⟩
    rw [decide_eq_decide.2 this]
  rw [ha, hb] at heq ⊢
  clear ha hb
  obtain ⟨r, hr⟩ : ∃ r, Hid (r = decide (n = m)) := ⟨_, Lib.hid rfl⟩
  rw [← hr.out] at heq ⊢
  have hgd : Tryd.prog.eqGuardType Tryd.prog.depth 26 = false := by kernel_rfl
  go_enter Tryd.func13, Tryd.ntmps13
  go_wp2
  go_ret
  exact ⟨rfl, ((Below.refl _ _).alloc (Nat.le_refl _) _).alloc (by simp) _⟩

set_option maxHeartbeats 400000 in
theorem odd_e (n : Nat) (w : World) :
    Calls Tryd.prog 15 #[elemV n] w fun e w' => e = .returned (.bool (decide (n % 2 = 1))) ∧ Below w.heap.size w w' := by
  unfold elemV
  have hl : limA n = #[.int .u64 ((n % M : Nat) : Int), .int .u64 ((n / M % M : Nat) : Int), .int .u64 ((n / M / M % M : Nat) : Int), .int .u64 ((n / M / M / M % M : Nat) : Int)] := rfl
  rw [hl]
  clear hl
  obtain ⟨a, ha⟩ := named (n % M)
  rw [← ha.out]
  generalize n / M % M = b
  generalize n / M / M % M = c
  generalize n / M / M / M % M = d
  have hal : a < M := by rw [ha.out]; exact Nat.mod_lt _ (by decide)
  have e1 : bits .and .u64 (a : Int) 1 = ((a % 2 : Nat) : Int) := by
    rw [show (1 : Int) = ((1 : Nat) : Int) from rfl, bits_and_u64_nat _ _ hal (by decide), Nat.and_one_is_mod]
  go_enter Tryd.func15, Tryd.ntmps15
  go_wp2
  go_ret
  refine ⟨ret_bool ?_, (Below.refl _ _).alloc (Nat.le_refl _) _⟩
  have : a % 2 = n % 2 := by rw [ha.out]; unfold M; omega
  rw [Bool.eq_iff_iff]
  simp
  omega
end Go.Proofs.YtphlehinjooncaaDoor
