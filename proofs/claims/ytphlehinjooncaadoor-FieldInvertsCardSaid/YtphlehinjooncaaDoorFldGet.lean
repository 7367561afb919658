/-
  The contract of field's Get. Condition: a slice of bytes is read.
-/
import Derived.Test.YtphlehinjooncaaDoorFldRaw
set_option linter.unusedVariables false
set_option linter.unusedSimpArgs false
namespace Go.Proofs.YtphlehinjooncaaDoor
open Go Go.Proofs Go.RowKit F5

theorem getd_arith {v i k j : Nat} (hij : i = 8 * k + j) (hj : j < 8) (hk : k < 4) (d : Nat) (hd : d = v / 256 ^ i % 256) :
    (v % 256 ^ i) / M ^ k % M < 2 ^ (8 * j) ∧ (v % 256 ^ i) / M ^ k % M + d * 2 ^ (8 * j) < M ∧
    (digs M (v % 256 ^ i) 4).set k ((v % 256 ^ i) / M ^ k % M + d * 2 ^ (8 * j)) = digs M (v % 256 ^ (i + 1)) 4 := by
  have e1 : (256 : Nat) ^ i = M ^ k * 2 ^ (8 * j) := by
    rw [hij, Nat.pow_add, Nat.pow_mul, show (256 : Nat) ^ 8 = M from rfl, Nat.pow_mul]
  have hp : 0 < M ^ k := Nat.pow_pos (by decide)
  have h1 : (v % 256 ^ i) / M ^ k < 2 ^ (8 * j) := by
    rw [Nat.div_lt_iff_lt_mul hp, Nat.mul_comm, ← e1]
    exact Nat.mod_lt _ (Nat.pow_pos (by decide))
  have hjM : 2 ^ (8 * j) * 256 ≤ M := by
    have : 2 ^ (8 * j) * 256 = 2 ^ (8 * j + 8) := by rw [Nat.pow_add]
    rw [this]
    exact Nat.pow_le_pow_right (by decide) (by omega : 8 * j + 8 ≤ 64)
  have hd2 : d < 256 := by rw [hd]; exact Nat.mod_lt _ (by decide)
  have h2 : (v % 256 ^ i) / M ^ k % M = (v % 256 ^ i) / M ^ k := Nat.mod_eq_of_lt (by
    have : 2 ^ (8 * j) ≤ 2 ^ (8 * j) * 256 := Nat.le_mul_of_pos_right _ (by decide)
    omega)
  have h3 : (v % 256 ^ i) / M ^ k + d * 2 ^ (8 * j) < M := by
    have : d * 2 ^ (8 * j) ≤ 255 * 2 ^ (8 * j) := Nat.mul_le_mul_right _ (by omega)
    omega
  rw [h2]
  refine ⟨h1, h3, ?_⟩
  have hlt : v % 256 ^ i < M ^ 4 := by
    have : (256 : Nat) ^ i ≤ M ^ 4 := by
      rw [show M ^ 4 = 256 ^ 32 by decide]; exact Nat.pow_le_pow_right (by decide) (by omega)
    exact Nat.lt_of_lt_of_le (Nat.mod_lt _ (Nat.pow_pos (by decide))) this
  refine digs_of ((digs_all (by decide) _ _ : All M _).set h3) (by rw [List.length_set, digs_length]) ?_
  have hv := val_set M (digs M (v % 256 ^ i) 4) k ((v % 256 ^ i) / M ^ k + d * 2 ^ (8 * j)) (by rw [digs_length]; exact hk)
  rw [val_digs, Nat.mod_eq_of_lt hlt, digs_getD _ _ _ _ hk, h2, Nat.mul_add] at hv
  have e2 : M ^ k * (d * 2 ^ (8 * j)) = 256 ^ i * d := by rw [e1, Nat.mul_comm d, Nat.mul_assoc]
  rw [e2] at hv
  rw [Nat.pow_succ, Nat.mod_mul, ← hd]
  omega

theorem fbytes_inj {n m : Nat} (hn : n < 2 ^ 256) (hm : m < 2 ^ 256) : fbytes n = fbytes m ↔ n = m := by
  constructor
  · intro h
    have h2 : digs 256 n 32 = digs 256 m 32 := by
      apply List.ext_getElem?
      intro i
      by_cases hi : i < 32
      · have e : ((fbytes n).getD i 0).toNat = ((fbytes m).getD i 0).toNat := by rw [h]
        rw [fbytes_get _ _ hi, fbytes_get _ _ hi, ← digs_getD 256 n 32 i hi, ← digs_getD 256 m 32 i hi] at e
        rw [List.getD_eq_getElem?_getD, List.getD_eq_getElem?_getD, List.getElem?_eq_getElem (by rw [digs_length]; exact hi), List.getElem?_eq_getElem (by rw [digs_length]; exact hi)] at e
        rw [List.getElem?_eq_getElem (by rw [digs_length]; exact hi), List.getElem?_eq_getElem (by rw [digs_length]; exact hi)]
        simpa using e
      · rw [List.getElem?_eq_none (by rw [digs_length]; omega), List.getElem?_eq_none (by rw [digs_length]; omega)]
    exact digs_inj h2 (show n < 256 ^ 32 from hn) (show m < 256 ^ 32 from hm)
  · rintro rfl; rfl
/-- Any 32 bytes are a number's. -/
theorem fbytes_of (l : List UInt8) (h : l.length = 32) : ∃ v, v < 2 ^ 256 ∧ l = fbytes v := by
  have ha : All 256 (l.map UInt8.toNat) := fun x hx => by
    obtain ⟨b, _, rfl⟩ := List.mem_map.1 hx
    exact b.toNat_lt
  refine ⟨val 256 (l.map UInt8.toNat), ?_, ?_⟩
  · have := val_lt _ ha
    rwa [List.length_map, h] at this
  · have hd := digs_val _ ha
    rw [List.length_map, h] at hd
    unfold fbytes
    rw [hd, List.map_map]
    have : (UInt8.ofNat ∘ UInt8.toNat) = id := by funext x; simp
    rw [this, List.map_id]

def GetAt (v i : Nat) (w wr : World) : Prop :=
  Blk wr (w.heap.size + 1) 26 (limA (v % 256 ^ i)) ∧ Blk wr w.heap.size 28 (limA 0) ∧ Below w.heap.size w wr
theorem GetAt.drew {v i : Nat} {w wr : World} (h : GetAt v i w wr) : GetAt v i w wr.drew := ⟨h.1.drew, h.2.1.drew, h.2.2.drew⟩
theorem limA0 : limA 0 = #[.int .u64 0, .int .u64 0, .int .u64 0, .int .u64 0] := rfl

theorem arr32 (p : Option Addr) (n c : Nat) (hn : 32 ≤ n) (W : World) : (Instr.arrayAt 41 (.slice p n c)).run Tryd.prog W = .ok (.pointer p) W := run_arrayAt W _ _ 32 p n c Tryd.underlying41 hn
theorem run_loadVar_add {P : Program} (w : World) (ad : Addr) (t e : TypeId) (n : Nat) (cs : Array Value) (hu : P.underlying t = some (.array n e)) (hi : (P.info? t).map (·.size) = some cs.size)
    (hc : ∀ j v, cs[j]? = some v → w.cell? (ad.add j) = some v) : (loadVar t ad).run P w = .ok (.agg cs) w := by
  have hl : (loadCells ad cs.toList.length).run P w = .ok cs.toList.toArray w := run_loadCells_list (P := P) w ad cs.toList (fun j v hv => hc j v (by simpa using hv))
  cases hq : P.info? t with
  | none => simp [hq] at hi
  | some i =>
    have hs : i.size = cs.size := by simpa [hq] using hi
    have hagg : (isAgg t).run P w = .ok true w := by
      unfold isAgg
      rw [Sem.run_bind, run_underlying hu w]
      simp [Result.andThen]
    simp only [Array.length_toList, Array.toArray_toList] at hl
    simp [loadVar, Sem.run_bind, hagg, sizeOf, typeInfo, hq, hs, hl, Result.andThen]
theorem quiet_load_add {P : Program} {o : Oper} {ev : Operand → Value} {w : World} (t : TypeId) (x : Operand) (ad : Addr) (hx : ev x = .pointer (some ad)) (e : TypeId) (n : Nat) (cs : Array Value)
    (hu : P.underlying t = some (.array n e)) (hi : (P.info? t).map (·.size) = some cs.size) (hc : ∀ j v, cs[j]? = some v → w.cell? (ad.add j) = some v) (ho : o.op = .load t x) : (execOp ev o).run P w = .ok (.value (.agg cs)) w := by
  unfold execOp
  simp only [ho, hx, Instr.loadAt, Instr.sureAddr, Sem.run_bind, Sem.run_pure, Result.andThen_ok, run_loadVar_add w ad t e n cs hu hi hc]
theorem results_row_tmp1 {fn : Func} {p u : Tmp} {ty : TypeId} {P : Program} (h : fn.results = #[.cell p ty, .tmp u]) (tmps : Array Value) (w : World) (g : Nat) (t : TypeId) (cs : Array Value) (v : Value) (l : Array Field)
    (hp : tmps.getD p undef = .pointer (some ⟨g, 0, none⟩)) (hv : tmps.getD u undef = v) (hg : Blk w g t cs) (hu : P.underlying ty = some (.struct l)) (hi : (P.info? ty).map (·.size) = some cs.size) :
    (results fn tmps).run P w = .ok (.tuple #[.agg cs, v]) w := by
  rw [results_cell_tmp h, hp, hv]
  have hl := run_loadVar_row w g t ty cs (0, 0) _ hg hu rfl hi
  simp [asAddr, Result.andThen, hl]
theorem quiet_neq_bytes {o : Oper} {ev : Operand → Value} (w : World) (x y : Operand) (k : TypeId) (l l' : List UInt8) (hl : l.length = 32) (hl' : l'.length = 32) (hx : ev x = .agg (bytesA l)) (hy : ev y = .agg (bytesA l'))
    (ho : o.op = .binOp .neq 41 x y k) : (execOp ev o).run Tryd.prog w = .ok (.value (.bool (!decide (l = l')))) w := by
  have hg : (eqGuard .neq 41 x y (.agg (bytesA l)) (.agg (bytesA l'))).run Tryd.prog w = .ok () w := run_eqGuard_agg w .neq _ x y _ _ (by kernel_rfl)
  unfold execOp
  simp only [ho, hx, hy, Sem.run_bind, hg, Result.andThen_ok, run_neq_bytes Tryd.underlying41 l l' hl hl' w, Sem.run_pure]

set_option maxHeartbeats 4000000 in
set_option maxRecDepth 100000 in
theorem get_32 (v : Nat) (hv : v < 2 ^ 256) (ad : Addr) (c : Nat) (w : World) (hr : Reads w w.heap.size 1 (some ad) 32 (Lib.byteCells (fbytes v))) (hP : PrimeAt w) :
    Calls Tryd.prog 9 #[.slice (some ad) 32 c] w fun e w' => e = .returned (.tuple #[elemV (if v < P then v else 0), .int .i64 (if v < P then 0 else 6)]) ∧ Below w.heap.size w w' := by
  have hal : Tryd.prog.arrayLen 26 = 4 := by kernel_rfl
  have hel : Tryd.prog.elem 26 = 23 := by kernel_rfl
  have HR := Lib.hid hr
  have HV := Lib.hid hv
  have HP := Lib.hid hP
  clear hr hv hP
  go_enter Tryd.func9, Tryd.ntmps9
  go_wp2
  go_loopg [5, 6, 18] 32 (fun g _ _ iv wr => ∃ i, iv = .int .i64 (i : Nat) ∧ g + i = 32 ∧ GetAt v i w wr)
  case atStart =>
    refine ⟨0, rfl, rfl, ?_, (Blk.new w _ (limA 0)).alloc _, ((Below.refl _ _).alloc (Nat.le_refl _) _).alloc (by simp) _⟩
    rw [Nat.pow_zero, Nat.mod_one]
    have := Blk.new (w.alloc (.cells (limA 0) 28)) 26 (limA 0)
    rwa [show (w.alloc (.cells (limA 0) 28)).heap.size = w.heap.size + 1 by simp] at this
  case round =>
    obtain ⟨i, rfl, hg, b1, b2, hb⟩ := hrel
    by_cases hlt : i < 32
    · have hrw := HR.out.below hb
      obtain ⟨ad', hA, hadb, hcell⟩ := hrw.2 (by omega)
      injection hA with hA
      subst hA
      have g0 := hcell i _ (show (Lib.byteCells (fbytes v))[i]? = some (.int .u8 (((fbytes v).getD i 0).toNat : Int)) by
        have h1 : i < (fbytes v).length := by rw [fbytes_length]; omega
        simp [Lib.byteCells, List.getD, List.getElem?_eq_getElem h1])
      obtain ⟨d, hd⟩ := named ((fbytes v).getD i 0).toNat
      have hdl : d < 256 := by rw [hd.out]; exact ((fbytes v).getD i 0).toNat_lt
      have hdv : d = v / 256 ^ i % 256 := by rw [hd.out, fbytes_get _ _ hlt]
      rw [← hd.out] at g0
      obtain ⟨k, hk⟩ : ∃ k, k = i / 8 := ⟨_, rfl⟩
      obtain ⟨j, hj⟩ : ∃ j, j = i % 8 := ⟨_, rfl⟩
      have hij : i = 8 * k + j := by omega
      have hk4 : k < 4 := by omega
      have hj8 : j < 8 := by omega
      have hdiv : (i : Int) / 8 = (k : Int) := by omega
      have hmod : (i : Int) % 8 = (j : Int) := by omega
      obtain ⟨a1, a2, a3⟩ := getd_arith hij hj8 hk4 d hdv
      have hx : wr.cell? ⟨w.heap.size + 1, k, none⟩ = some (.int .u64 (((v % 256 ^ i) / M ^ k % M : Nat) : Int)) := (b1.cell k).trans (limA_get _ _ hk4)
      have hf := b1.frozen k
      obtain ⟨x, hX⟩ := named ((v % 256 ^ i) / M ^ k % M)
      rw [← hX.out] at a1 a2 a3 hx
      obtain ⟨s, hs⟩ := named (d * 2 ^ (8 * j))
      rw [← hs.out] at a2 a3
      have hxs : x + s < M := a2
      obtain ⟨y, hY⟩ := named (x + s)
      rw [← hY.out] at a2 a3
      have hor : bits .or .u64 (x : Int) (s : Int) = (y : Int) := by
        rw [bits_or_u64_nat _ _ (by unfold M at hxs; omega) (by unfold M at hxs; omega), hY.out, hs.out]
        congr 1
        rw [Nat.or_comm, Nat.mul_comm d, Nat.add_comm]
        exact (Nat.two_pow_add_eq_or_of_lt a1 d).symm
      have hsh : IntKind.u64.wrap ((d : Int) * 2 ^ (j * 8)) = (s : Int) := by
        rw [IntKind.wrap_u64, hs.out]
        have : d * 2 ^ (8 * j) < 18446744073709551616 := by rw [← hs.out]; unfold M at hxs; omega
        rw [show ((d : Int) * 2 ^ (j * 8)) = ((d * 2 ^ (8 * j) : Nat) : Int) by rw [Nat.mul_comm 8 j]; simp]
        omega
      have hmin : min (j * 8) 64 = j * 8 := by omega
      have ht : ((j : Int) * 8).toNat = j * 8 := by omega
      have hcv : IntKind.u64.wrap (d : Int) = (d : Int) := by rw [IntKind.wrap_u64]; omega
      have hn2 : Hid (GetAt v (i + 1) w (wr.setCell ⟨w.heap.size + 1, k, none⟩ (.int .u64 (y : Int)))) := Lib.hid (by
        refine ⟨?_, b2.far (by show w.heap.size ≠ w.heap.size + 1; omega) _, hb.setCell (by show w.heap.size ≤ w.heap.size + 1; omega) _⟩
        have := Blk.set_ b1 k (.int .u64 (y : Int))
        rw [limA, u64s_set, a3] at this
        exact this)
      have HA1 := Lib.hid a1
      have HA2 := Lib.hid a2
      clear b1 b2 hb hcell hrw hk hj hij a1 a2 a3 hdv hdl hxs
      go_wp2
      go_region
      have hnd := Lib.hid hn2.out.drew
      clear hn2
      go_wp2
      go_roundg (gk - 1)
      case measure => omega
      case rel => exact ⟨i + 1, by go_num, by omega, hnd.out⟩
    · obtain rfl : i = 32 := by omega
      rw [Nat.mod_eq_of_lt (show v < 256 ^ 32 from HV.out)] at b1
      have B1 := Lib.hid b1
      have B2 := Lib.hid b2
      have HBL := Lib.hid hb
      have hsz := b1.lt
      have hRi := Lib.hid (limA_info v)
      have hRe := Lib.hid (limA_infoE v)
      have hR1 := Lib.hid (limA_one v)
      have hBD := Lib.hid (built_lim v)
      have hzz : Hid ((#[.int .u64 0, .int .u64 0, .int .u64 0, .int .u64 0] : Array Value).size = (limA v).size) := Lib.hid (by rw [limA_size]; rfl)
      clear b1 b2 hb hg
      go_wp2_with (first | (refine wpList_load_row rfl 26 (.tmp 4) rfl (w.heap.size + 1) rfl 26 (limA v) (0, 0) _ B1.out Tryd.underlying26 rfl hRi.out ?_) |
        (refine wpList_build_to rfl 28 #[(0, .tmp 36)] rfl [(0, .agg (limA v))] (by simp [Act.eval, Act.put]) (limA v) hBD.out ?_) |
        (refine wpList_store_row rfl 28 (.tmp 7) (.tmp 37) rfl wr.heap.size (limA v) rfl rfl 28 _ (heap_alloc_new wr _) hRe.out hzz.out hR1.out ?_; rw [setRow_alloc1]))
      have hB4 := (Blk.new wr 28 (limA v)).nilmid
      have hp4 := (HP.out.old HBL.out).old ((Below.refl wr.heap.size wr).alloc (Nat.le_refl _) (.cells (limA v) 28))
      refine (round_any wr.heap.size 0 28 [] (digs M v 4) [] _ hB4 rfl (digs_length _ _ _) (limA_all v) (by have := HP.out.1; omega) hp4).mono ?_
      rintro e w5 ⟨rfl, hB5, hg5⟩
      rw [val_digs, Nat.mod_eq_of_lt (show v < M ^ 4 from HV.out), subP_P (show v < M ^ 4 from HV.out), nil_mid] at hB5
      obtain ⟨u, hu⟩ := named (if P ≤ v then v - P else v)
      rw [← hu.out] at hB5
      have B5 : Hid (Blk w5 wr.heap.size 28 (limA u)) := Lib.hid hB5
      have hb5 : Below wr.heap.size wr w5 := ((Below.refl _ _).alloc (Nat.le_refl _) _).grown hg5 (by simp) (fun k hk => by injection hk with hk; omega)
      have HB5 : Hid (Below w.heap.size w w5) := Lib.hid (HBL.out.trans (hb5.mono HBL.out.size))
      have B25 := Lib.hid (B2.out.old hb5)
      have hszr := Lib.hid hsz
      have hul : u < 2 ^ 256 := by rw [hu.out]; have := HV.out; split <;> omega
      have huv : (fbytes u = fbytes v) ↔ v < P := by
        rw [fbytes_inj hul HV.out, hu.out]
        split <;> (have : 0 < P := by decide) <;> omega
      have HUV := Lib.hid huv
      have HUL := Lib.hid hul
      clear hB4 hp4 hB5 hg5 hb5 hul huv hsz
      go_wp2_with fail
      have harr := arr32 (some ad) 32 c (by omega)
      have hcells : Hid (∀ W, Below w5.heap.size w5 W → ∀ j v', (bytesA (fbytes v))[j]? = some v' → W.cell? (ad.add j) = some v') := Lib.hid (by
        intro W hW j v' hj
        have hrw := (HR.out.below HB5.out).more HB5.out.size
        obtain ⟨ad', hA, hadb, hcell⟩ := (hrw.below hW).2 (by omega)
        injection hA with hA
        subst hA
        exact hcell j v' (by rw [bytesA, List.getElem?_toArray] at hj; exact hj))
      have hRu := Lib.hid (limA_infoE u)
      have hbd : Below w5.heap.size w5 w5.drew := (Below.refl _ _).drew
      refine wp_region_held_drew (S := fun W => Below w5.heap.size w5 W) (by kernel_rfl) hbd (fun hHeld => ?_)
      refine' wpAnyH_take (i := 0) (oi := _) (v := .agg (limA u)) ?hit0 ?hst0 ?hft0 ?hrt0 ?hQt0 ?hyt0 ?hSt0 ?_
      case hit0 => (simp only [List.getElem?_toArray, List.getElem?_cons_succ, List.getElem?_cons_zero]; rfl)
      case hst0 => kernel_rfl
      case hft0 => kernel_rfl
      case hrt0 => kernel_rfl
      case hQt0 => exact fun _ _ _ h => h
      case hSt0 => assumption
      case hyt0 =>
        refine Or.inl ⟨by rfl, ?_⟩
        intro W hS
        exact quiet_load_row 28 (.tmp 7) wr.heap.size rfl 28 (limA u) _ (B5.out.old hS) Tryd.underlying28 rfl hRu.out rfl
      (try simp only [Act.put, List.setIfInBounds_toArray, List.set_cons_zero, List.set_cons_succ])
      refine' wpAnyH_take (i := 2) (oi := _) (v := _) ?hit2 ?hst2 ?hft2 ?hrt2 ?hQt2 ?hyt2 ?hSt2 ?_
      case hit2 => (simp only [List.getElem?_toArray, List.getElem?_cons_succ, List.getElem?_cons_zero]; rfl)
      case hst2 => kernel_rfl
      case hft2 => kernel_rfl
      case hrt2 => kernel_rfl
      case hQt2 => exact fun _ _ _ h => h
      case hSt2 => assumption
      case hyt2 =>
        refine Or.inl ⟨by rfl, ?_⟩
        intro w hSw
        (try dsimp only at hSw)
        go_simp
        all_goals (with_reducible rfl)
      (try simp only [Act.put, List.setIfInBounds_toArray, List.set_cons_zero, List.set_cons_succ])
      refine' wpAnyH_take (i := 3) (oi := _) (v := _) ?hit3 ?hst3 ?hft3 ?hrt3 ?hQt3 ?hyt3 ?hSt3 ?_
      case hit3 => (simp only [List.getElem?_toArray, List.getElem?_cons_succ, List.getElem?_cons_zero]; rfl)
      case hst3 => kernel_rfl
      case hft3 => kernel_rfl
      case hrt3 => kernel_rfl
      case hQt3 => exact fun _ _ _ h => h
      case hSt3 => assumption
      case hyt3 =>
        refine Or.inl ⟨by rfl, ?_⟩
        intro w hSw
        (try dsimp only at hSw)
        go_simp
        all_goals (with_reducible rfl)
      (try simp only [Act.put, List.setIfInBounds_toArray, List.set_cons_zero, List.set_cons_succ])
      refine' wpAnyH_take (i := 4) (oi := _) (v := .agg (bytesA (fbytes v))) ?hit4 ?hst4 ?hft4 ?hrt4 ?hQt4 ?hyt4 ?hSt4 ?_
      case hit4 => (simp only [List.getElem?_toArray, List.getElem?_cons_succ, List.getElem?_cons_zero]; rfl)
      case hst4 => kernel_rfl
      case hft4 => kernel_rfl
      case hrt4 => kernel_rfl
      case hQt4 => exact fun _ _ _ h => h
      case hSt4 => assumption
      case hyt4 =>
        refine Or.inl ⟨by rfl, ?_⟩
        intro W hS
        exact quiet_load_add 41 (.tmp 43) ad rfl _ _ (bytesA (fbytes v)) Tryd.underlying41 (fbytes_info v) (hcells.out _ hS) rfl
      (try simp only [Act.put, List.setIfInBounds_toArray, List.set_cons_zero, List.set_cons_succ])
      refine wpAnyH_ready (rs := [1]) (by kernel_rfl) (by simp) ?_
      refine' AllReadyH.cons (o := _) ?hir1 (fun K hK => ?_) AllReadyH.nil
      case hir1 => (simp only [List.getElem?_toArray, List.getElem?_cons_succ, List.getElem?_cons_zero]; rfl)
      go_simp
      go_at_call 27
      refine (bytes_e u _).mono ?_
      rintro e w6 ⟨rfl, hb6⟩
      refine hK.out _ _ ?_ (fun hHeld => ?_)
      exact hbd.trans (hb6.mono hbd.size)
      clear hK K
      (try simp only [Act.put, List.setIfInBounds_toArray, List.set_cons_zero, List.set_cons_succ])
      refine' wpAnyH_take (i := 5) (oi := _) (v := .bool (!decide (fbytes u = fbytes v))) ?hit5 ?hst5 ?hft5 ?hrt5 ?hQt5 ?hyt5 ?hSt5 ?_
      case hit5 => (simp only [List.getElem?_toArray, List.getElem?_cons_succ, List.getElem?_cons_zero]; rfl)
      case hst5 => kernel_rfl
      case hft5 => kernel_rfl
      case hrt5 => kernel_rfl
      case hQt5 => exact fun _ _ _ h => h
      case hSt5 => assumption
      case hyt5 =>
        refine Or.inl ⟨by rfl, ?_⟩
        intro W hS
        exact quiet_neq_bytes W (.tmp 41) (.tmp 44) 41 _ _ (fbytes_length _) (fbytes_length _) rfl rfl rfl
      (try simp only [Act.put, List.setIfInBounds_toArray, List.set_cons_zero, List.set_cons_succ])
      refine wpAnyH_done (by kernel_rfl) ?_ _
      have hb6' := HB5.out.trans ((hbd.trans (hb6.mono hbd.size)).mono HB5.out.size)
      have B26 := Lib.hid (B25.out.old (hbd.trans (hb6.mono hbd.size)))
      have B56 := Lib.hid (B5.out.old (hbd.trans (hb6.mono hbd.size)))
      have HB6 := Lib.hid hb6'
      clear hb6' hb6 hbd hHeld
      have hz4 : Hid ((limA 0).size = (limA u).size) := Lib.hid (by rw [limA_size, limA_size])
      have hu1 := Lib.hid (limA_one u)
      by_cases hvP : v < P
      · have he : decide (fbytes u = fbytes v) = true := by rw [decide_eq_true_eq]; exact HUV.out.2 hvP
        rw [he]
        have huv : Hid (u = v) := Lib.hid (by rw [hu.out, if_neg (by omega)])
        go_wp2_with (first | (refine wpList_load_row rfl 28 (.tmp 7) rfl wr.heap.size rfl 28 (limA u) (0, 0) _ B56.out Tryd.underlying28 rfl hRu.out ?_) |
          (refine wpList_store_row rfl 28 (.tmp 2) (.tmp 47) rfl w.heap.size (limA u) rfl rfl 28 _ B26.out hRu.out hz4.out hu1.out ?_))
        refine bodyPost_ret (v := .tuple #[.agg (limA u), .int .i64 0]) ?_ rfl ⟨by rw [huv.out]; rfl, below_row HB6.out (Nat.le_refl _) _⟩
        exact results_row_tmp1 Tryd.results9 _ _ w.heap.size 28 _ _ _ rfl rfl (B26.out.row _) Tryd.underlying28 hRu.out
      · have he : decide (fbytes u = fbytes v) = false := by rw [decide_eq_false_iff_not]; exact fun h => hvP (HUV.out.1 h)
        rw [he]
        go_wp2_with (first | (refine wpList_store_row rfl 28 (.tmp 2) (.tmp 46) rfl w.heap.size (limA 0) rfl rfl 28 _ B26.out (limA_infoE 0) rfl (limA_one 0) ?_))
        refine bodyPost_ret (v := .tuple #[.agg (limA 0), .int .i64 6]) ?_ rfl ⟨rfl, below_row HB6.out (Nat.le_refl _) _⟩
        exact results_row_tmp1 Tryd.results9 _ _ w.heap.size 28 _ _ _ rfl rfl (B26.out.row _) Tryd.underlying28 (limA_infoE 0)

set_option maxHeartbeats 1000000 in
theorem get_short (A : Option Addr) (n c : Nat) (hn : n < 32) (w : World) :
    Calls Tryd.prog 9 #[.slice A n c] w fun e w' => e = .returned (.tuple #[elemV 0, .int .i64 2]) ∧ Below w.heap.size w w' := by
  have hd : decide (n < 32) = true := by simpa using hn
  go_enter Tryd.func9, Tryd.ntmps9
  go_wp2
  refine bodyPost_ret (v := .tuple #[.agg (limA 0), .int .i64 2]) ?_ rfl ⟨rfl, (Below.refl _ _).alloc (Nat.le_refl _) _⟩
  exact results_row_tmp1 Tryd.results9 _ _ w.heap.size 28 _ _ _ rfl rfl (Blk.new w _ _) Tryd.underlying28 (limA_infoE 0)
set_option maxHeartbeats 1000000 in
theorem get_long (A : Option Addr) (n c : Nat) (hn : 32 < n) (w : World) :
    Calls Tryd.prog 9 #[.slice A n c] w fun e w' => e = .returned (.tuple #[elemV 0, .int .i64 4]) ∧ Below w.heap.size w w' := by
  have hd : decide (n < 32) = false := by simp; omega
  have hd2 : decide (32 < n) = true := by simpa using hn
  go_enter Tryd.func9, Tryd.ntmps9
  go_wp2
  refine bodyPost_ret (v := .tuple #[.agg (limA 0), .int .i64 4]) ?_ rfl ⟨rfl, (Below.refl _ _).alloc (Nat.le_refl _) _⟩
  exact results_row_tmp1 Tryd.results9 _ _ w.heap.size 28 _ _ _ rfl rfl (Blk.new w _ _) Tryd.underlying28 (limA_infoE 0)
end Go.Proofs.YtphlehinjooncaaDoor
