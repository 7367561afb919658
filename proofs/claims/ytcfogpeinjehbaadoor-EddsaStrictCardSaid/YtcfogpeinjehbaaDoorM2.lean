/-
  Several texts in one: FldBytes, FldRef1, FldRaw, FldGet, FldSame, FldOpsM, ScaM, ScaRef1, ScaRef2, ScaByt, ScaRef3, ScaRef4, ScaRef5, FldPrime, FldPowM, EdwM, EdwM2, EdwM3, EdwM4, EdM, ShaRef1, ShaRef2, ShaRef3, RowBytes, FldPow, FldRoot, PtF, PtRef1, PtVal, PtTimes, PtBytes, PtGet, EdRef1, EdRef2, EdRef3, EdPrM, Sched, Sch2. Conditions: those that each theorem states.
-/
import Derived.Test.YtcfogpeinjehbaaDoorM1
import Derived.Deep.RegionHeld3
import Derived.Deep.RegionWith
import Derived.Laws.ResultCell
import Derived.Test.YtcfogpeinjehbaaDoorProg
import Derived.Deep.WholeRow
import Derived.WalkMore
import Derived.WalkKit
import Derived.IntWalk
import Derived.Lib.Hide
import Derived.Deep.LoopGhost
import Derived.StillTailTactics
import Derived.BigRegion
import Derived.Deep.OwnRows
import Derived.OpenShut
import Derived.Deep.Matrix
import Derived.Deep.DeepCutAuto
import Derived.Deep.CutBlock
import Derived.OrdersHeld
import Derived.OrdersIn
import Derived.Tactics
import Derived.TacticsIn
import Derived.OwnWalkIn
import Derived.RangeFuncCalls
import Derived.Below
set_option linter.unusedVariables false
set_option linter.unusedSimpArgs false
open Go.Lib (hid)
open Go.Proofs.YtcfogpeinjehbaaDoor (zA zB zC zD zE zF)

section
namespace Go.Proofs.YtcfogpeinjehbaaDoor
open Go Go.Proofs Go.RowKit F5
/-- A number's 32 bytes, the lowest first. -/
def fbytes (n : Nat) : List UInt8 := (digs 256 n 32).map UInt8.ofNat
theorem fbytes_length (n : Nat) : (fbytes n).length = 32 := by simp [fbytes, digs_length]
theorem fbytes_get (n i : Nat) (h : i < 32) : ((fbytes n).getD i 0).toNat = n / 256 ^ i % 256 := by
 have e : (fbytes n).getD i 0 = UInt8.ofNat ((digs 256 n 32).getD i 0) := by
  simp only [fbytes, List.getD_eq_getElem?_getD, List.getElem?_map]
  rw [List.getElem?_eq_getElem (by rw [digs_length]; exact h)]; rfl
 rw [e, digs_getD _ _ _ _ h, UInt8.toNat_ofNat']
 omega
theorem fbytes_limb (n k j : Nat) (hj : j < 8) : (n / M ^ k % M) / 2 ^ (j * 8) % 256 = n / 256 ^ (8 * k + j) % 256 := by
 have e1 : (256 : Nat) ^ (8 * k + j) = M ^ k * 256 ^ j := by
  rw [Nat.pow_add, Nat.pow_mul]
 have e2 : (2 : Nat) ^ (j * 8) = 256 ^ j := by rw [Nat.mul_comm, Nat.pow_mul]
 rw [e1, e2, ← Nat.div_div_eq_div_mul]
 generalize n / M ^ k = x
 have e3 : M = 256 ^ j * 256 ^ (8 - j) := by rw [← Nat.pow_add, show j + (8 - j) = 8 by omega]
 rw [e3, Nat.mod_mul_right_div_self]
 obtain ⟨d, hd⟩ : ∃ d, 8 - j = d + 1 := ⟨7 - j, by omega⟩
 rw [hd, Nat.pow_succ, Nat.mod_mul_left_mod]
/-- the first k bytes are told. -/
def partB (l : List UInt8) (k : Nat) : List UInt8 := l.take k ++ List.replicate (32 - k) 0
theorem partB_length {l : List UInt8} {k : Nat} (h : l.length = 32) (hk : k ≤ 32) : (partB l k).length = 32 := by simp [partB]; omega
theorem bytesA_set (l : List UInt8) (k : Nat) (x : UInt8) : (bytesA l).setIfInBounds k (.int .u8 (x.toNat : Int)) = bytesA (l.set k x) := by
 simp [bytesA, Lib.byteCells, List.map_set]
theorem partB_set {l : List UInt8} {k : Nat} (h : l.length = 32) (hk : k < 32) : (partB l k).set k (l.getD k 0) = partB l (k + 1) := by
 unfold partB
 have e1 : (l.take k).length = k := by simp; omega
 rw [List.set_append_right _ _ (by omega), e1, Nat.sub_self, show 32 - k = (32 - (k + 1)) + 1 by omega, List.replicate_succ, List.set_cons_zero]
 have hkl : k < l.length := by omega
 rw [List.take_succ_eq_append_getElem hkl, List.getD_eq_getElem?_getD, List.getElem?_eq_getElem hkl, List.append_assoc]
 rfl
theorem partB_all {l : List UInt8} (h : l.length = 32) : partB l 32 = l := by simp [partB, ← h]
theorem info32 : (Tryd.prog.info? 22).map (·.size) = some 32 := by kernel_rfl
theorem fbytes_info (n : Nat) : (Tryd.prog.info? 22).map (·.size) = some (bytesA (fbytes n)).size := by rw [bytesA_size, fbytes_length]; exact info32
def BytesAt (n : Nat) (w : World) (k : Nat) (wr : World) : Prop :=
 Blk wr w.heap.size 42 (limA n) ∧ Blk wr (w.heap.size + 1) 22 (bytesA (List.replicate 32 0)) ∧ Blk wr (w.heap.size + 2) 22 (bytesA (partB (fbytes n) k)) ∧ Below w.heap.size w wr
set_option maxHeartbeats 2000000 in
set_option maxRecDepth 100000 in
theorem bytes_e (n : Nat) (w : World) : Calls Tryd.prog 32 #[elemV n] w fun e w' => e = .returned (.agg (bytesA (fbytes n))) ∧ Below w.heap.size w w' := by
 have hal : Tryd.prog.arrayLen 40 = 4 := by kernel_rfl
 have hel : Tryd.prog.elem 40 = 38 := by kernel_rfl
 have hal2 : Tryd.prog.arrayLen 22 = 32 := by kernel_rfl
 have hel2 : Tryd.prog.elem 22 = 5 := by kernel_rfl
 unfold elemV
 obtain ⟨cn, hcn⟩ : ∃ c, Hid (c = limA n) := ⟨_, hid rfl⟩
 rw [← hcn.out]
 obtain ⟨z, hz⟩ : ∃ z, Hid (z = bytesA (List.replicate 32 0)) := ⟨_, hid rfl⟩
 have hz0 : ∀ W, (zeroValue 22).run Tryd.prog W = .ok (.agg z) W := by
  rw [hz.out]; exact (zero_of_info (n := 32) (by kernel_rfl)).1
 go_enter Tryd.func32, Tryd.ntmps32
 go_wp2
 go_loopw [4, 5] (fun _ iv wr => ∃ i, i ≤ 32 ∧ iv = .int .i64 (i : Nat) ∧ BytesAt n w i wr) (fun _ iv _ => 32 - (intOf iv).toNat)
 case atStart =>
  refine ⟨0, by omega, rfl, ?_⟩
  obtain ⟨b1, b2, b3, hb, _⟩ := three_blks w cn z z 42
  refine ⟨?_, ?_, ?_, (((Below.refl _ _).alloc (Nat.le_refl _) _).alloc (by simp) _).alloc (by simp; omega) _⟩
  ·rw [← hcn.out]; exact ((Blk.new w _ cn).alloc _).alloc _
  ·rw [← hz.out]
   have := (Blk.new (w.alloc (.cells cn 42)) 22 z).alloc (.cells z 22)
   rwa [show (w.alloc (.cells cn 42)).heap.size = w.heap.size + 1 by simp] at this
  ·have := Blk.new ((w.alloc (.cells cn 42)).alloc (.cells z 22)) 22 z
   rw [show ((w.alloc (.cells cn 42)).alloc (.cells z 22)).heap.size = w.heap.size + 2 by simp] at this
   rw [show partB (fbytes n) 0 = List.replicate 32 0 from rfl, ← hz.out]
   exact this
 case round =>
  obtain ⟨i, hi, rfl, b1, b2, b3, hb⟩ := hrel
  clear hz0
  by_cases hlt : i < 32
  ·obtain ⟨k, hk⟩ : ∃ k, k = i / 8 := ⟨_, rfl⟩
   obtain ⟨j, hj⟩ : ∃ j, j = i % 8 := ⟨_, rfl⟩
   have hij : i = 8 * k + j := by omega
   have hk4 : k < 4 := by omega
   have hj8 : j < 8 := by omega
   have hdiv : (i : Int) / 8 = (k : Int) := by omega
   have hmod : (i : Int) % 8 = (j : Int) := by omega
   have hx : wr.cell? ⟨w.heap.size, k, none⟩ = some (.int .u64 ((n / M ^ k % M : Nat) : Int)) := (b1.cell k).trans (limA_get n k hk4)
   have hbl := fbytes_limb n k j hj8
   rw [← hij, ← fbytes_get n i hlt] at hbl
   obtain ⟨x, hX⟩ := named (n / M ^ k % M)
   rw [← hX.out] at hx hbl
   obtain ⟨y, hY⟩ : ∃ y, Hid (y = (fbytes n).getD i 0) := ⟨_, hid rfl⟩
   rw [← hY.out] at hbl
   have hc : ∃ u, wr.cell? ⟨w.heap.size + 2, i, none⟩ = some u := ⟨_, (b3.cell i).trans (Array.getElem?_eq_getElem (by rw [bytesA_size, partB_length (fbytes_length n) hi]; exact hlt))⟩
   obtain ⟨u, hu⟩ := hc
   have hf := b3.frozen i
   have hsh2 : IntKind.u8.wrap ((x : Int) / 2 ^ (j * 8)) = (y.toNat : Int) := by
    rw [IntKind.wrap_u8', ← hbl]; simp
   have hmin : min (j * 8) 64 = j * 8 := by omega
   have ht : ((j : Int) * 8).toNat = j * 8 := by omega
   have hnext : Hid (BytesAt n w (i + 1) (wr.setCell ⟨w.heap.size + 2, i, none⟩ (.int .u8 (y.toNat : Int)))) := hid (by
    refine ⟨b1.far (by show w.heap.size ≠ w.heap.size + 2; omega) _, b2.far (by show w.heap.size + 1 ≠ w.heap.size + 2; omega) _, ?_, hb.setCell (by show w.heap.size ≤ w.heap.size + 2; omega) _⟩
    have := b3.set_ i (.int .u8 (y.toNat : Int))
    rwa [bytesA_set, hY.out, partB_set (fbytes_length n) hlt, ← hY.out] at this)
   clear b1 b2 b3 hb hk hj hij hbl
   go_wp2
   exact ⟨⟨i + 1, by omega, by go_num, hnext.out⟩, by simp [intOf]; omega⟩
  ·obtain rfl : i = 32 := by omega
   have b3' : Hid (Blk wr (w.heap.size + 2) 22 (bytesA (fbytes n))) := by rw [partB_all (fbytes_length n)] at b3; exact hid b3
   have hRi := hid (fbytes_info n)
   have hR1 : Hid ((bytesA (fbytes n)).all (·.oneCell') = true) := hid (bytesA_one _)
   have hzz : Hid ((bytesA (List.replicate 32 0)).size = (bytesA (fbytes n)).size) := hid (by rw [bytesA_size, bytesA_size, fbytes_length]; rfl)
   have B2 := hid b2
   have HBL := hid hb
   obtain ⟨R, hR⟩ : ∃ R, Hid (R = bytesA (fbytes n)) := ⟨_, hid rfl⟩
   rw [← hR.out] at b3' hRi hR1 hzz
   clear b1 b2 b3 hb
   go_wp2_with (first | (refine wpList_load_row rfl 22 (.tmp 3) rfl (w.heap.size + 2) rfl 22 R (0, 0) _ b3'.out Tryd.underlying22 rfl hRi.out ?_) |
    (refine wpList_store_row rfl 22 (.tmp 2) (.tmp 21) rfl (w.heap.size + 1) R rfl rfl 22 _ B2.out hRi.out hzz.out hR1.out ?_))
   refine bodyPost_ret (v := .agg R) ?_ rfl ⟨by rw [hR.out], below_row HBL.out (by omega) _⟩
   exact results_cell_row Tryd.results32 _ _ (w.heap.size + 1) 22 R (0, 0) _ rfl (B2.out.row R) Tryd.underlying22 rfl hRi.out
end Go.Proofs.YtcfogpeinjehbaaDoor
end

section
namespace Go.Proofs.YtcfogpeinjehbaaDoor
open Go Go.Proofs Go.RowKit F5
/-- A number as 16 limbs. -/
def limF (n : Nat) : Array Value := u64s (digs B n 16)
theorem own_form_cap {w : World} {base size n : Nat} {e : TypeId} {v : Value} {xs : List Value} (h : w.ownsRow base e size v n xs) : ∃ A c, v = .slice A n c ∧ n ≤ c := by
 rcases h.2 with ⟨h1, h2⟩ | ⟨g, cap, cur, hv, _, _, hc, _⟩
 ·exact ⟨none, 0, by rw [h1, h2], by omega⟩
 ·exact ⟨_, _, hv, hc⟩
end Go.Proofs.YtcfogpeinjehbaaDoor
end

section
namespace Go.Proofs.YtcfogpeinjehbaaDoor
open Go Go.Proofs Go.RowKit F5
theorem quiet_load_row {P : Program} {o : Oper} {ev : Operand → Value} {w : World} (ty : TypeId) (x : Operand)
  (g : Nat) (hx : ev x = .pointer (some ⟨g, 0, none⟩)) (t : TypeId) (cs : Array Value) (d : TypeDesc) (hg : Blk w g t cs)
  (hu : P.underlying ty = some d) (hd : (match d with | .struct _ | .array _ _ => true | _ => false) = true) (hi : (P.info? ty).map (·.size) = some cs.size) (ho : o.op = .load ty x) :
  (execOp ev o).run P w = .ok (.value (.agg cs)) w := by
 unfold execOp
 simp only [ho, hx, Instr.loadAt, Instr.sureAddr, Sem.run_bind, Sem.run_pure, Result.andThen_ok, run_loadVar_row w g t ty cs (0, 0) d hg hu hd hi]
theorem step_of_wp {P : Program} {ops : Array Oper} {o : Oper} {a : Act} {K : Act → World → Prop} {Q : Exit → Act → World → Prop} {E : Prop} {w : World} (hgd : o.guard = none) (h : Oper.wp P o a w K Q) :
  if Region.wanted o (yielded ops a.tmps) = true then Oper.wp P o a w K Q else E := by
 have hw : Region.wanted o (yielded ops a.tmps) = true := by simp [Region.wanted, hgd]
 rw [if_pos hw]
 exact h
theorem results_row_tmp {fn : Func} {p u : Tmp} {ty : TypeId} {P : Program} (h : fn.results = #[.cell p ty, .tmp u]) (tmps : Array Value) (w : World) (g : Nat) (t : TypeId) (cs : Array Value) (v : Value) (e : TypeId) (n : Nat)
  (hp : tmps.getD p undef = .pointer (some ⟨g, 0, none⟩)) (hv : tmps.getD u undef = v) (hg : Blk w g t cs) (hu : P.underlying ty = some (.array n e)) (hi : (P.info? ty).map (·.size) = some cs.size) :
  (results fn tmps).run P w = .ok (.tuple #[.agg cs, v]) w := by
 rw [results_cell_tmp h, hp, hv]
 have hl := run_loadVar_row w g t ty cs (0, 0) _ hg hu rfl hi
 simp [asAddr, Result.andThen, hl]
end Go.Proofs.YtcfogpeinjehbaaDoor
end

section
namespace Go.Proofs.YtcfogpeinjehbaaDoor
open Go Go.Proofs Go.RowKit F5
theorem getd_arith {v i k j : Nat} (hij : i = 8 * k + j) (hj : j < 8) (hk : k < 4) (d : Nat) (hd : d = v / 256 ^ i % 256) :
  (v % 256 ^ i) / M ^ k % M < 2 ^ (8 * j) ∧ (v % 256 ^ i) / M ^ k % M + d * 2 ^ (8 * j) < M ∧
  (digs M (v % 256 ^ i) 4).set k ((v % 256 ^ i) / M ^ k % M + d * 2 ^ (8 * j)) = digs M (v % 256 ^ (i + 1)) 4 := by
 have e1 : (256 : Nat) ^ i = M ^ k * 2 ^ (8 * j) := by
  rw [hij, Nat.pow_add, Nat.pow_mul, show (256 : Nat) ^ 8 = M from rfl, Nat.pow_mul]
 have hp : 0 < M ^ k := Nat.pow_pos (by decide)
 have h1 : (v % 256 ^ i) / M ^ k < 2 ^ (8 * j) := by
  rw [Nat.div_lt_iff_lt_mul hp, Nat.mul_comm, ← e1]
  exact Nat.mod_lt _ (Nat.pow_pos (by decide))
 have hjM : 2 ^ (8 * j) * 256 ≤ M := by
  have : 2 ^ (8 * j) * 256 = 2 ^ (8 * j + 8) := by rw [Nat.pow_add]
  rw [this]
  exact Nat.pow_le_pow_right (by decide) (by omega : 8 * j + 8 ≤ 64)
 have hd2 : d < 256 := by rw [hd]; exact Nat.mod_lt _ (by decide)
 have h2 : (v % 256 ^ i) / M ^ k % M = (v % 256 ^ i) / M ^ k := Nat.mod_eq_of_lt (by
  have : 2 ^ (8 * j) ≤ 2 ^ (8 * j) * 256 := Nat.le_mul_of_pos_right _ (by decide)
  omega)
 have h3 : (v % 256 ^ i) / M ^ k + d * 2 ^ (8 * j) < M := by
  have : d * 2 ^ (8 * j) ≤ 255 * 2 ^ (8 * j) := Nat.mul_le_mul_right _ (by omega)
  omega
 rw [h2]
 refine ⟨h1, h3, ?_⟩
 have hlt : v % 256 ^ i < M ^ 4 := by
  have : (256 : Nat) ^ i ≤ M ^ 4 := by
   rw [show M ^ 4 = 256 ^ 32 by decide]; exact Nat.pow_le_pow_right (by decide) (by omega)
  exact Nat.lt_of_lt_of_le (Nat.mod_lt _ (Nat.pow_pos (by decide))) this
 refine digs_of ((digs_all (by decide) _ _ : All M _).set h3) (by rw [List.length_set, digs_length]) ?_
 have hv := val_set M (digs M (v % 256 ^ i) 4) k ((v % 256 ^ i) / M ^ k + d * 2 ^ (8 * j)) (by rw [digs_length]; exact hk)
 rw [val_digs, Nat.mod_eq_of_lt hlt, digs_getD _ _ _ _ hk, h2, Nat.mul_add] at hv
 have e2 : M ^ k * (d * 2 ^ (8 * j)) = 256 ^ i * d := by rw [e1, Nat.mul_comm d, Nat.mul_assoc]
 rw [e2] at hv
 rw [Nat.pow_succ, Nat.mod_mul, ← hd]
 omega
theorem fbytes_inj {n m : Nat} (hn : n < 2 ^ 256) (hm : m < 2 ^ 256) : fbytes n = fbytes m ↔ n = m := by
 constructor
 ·intro h
  have h2 : digs 256 n 32 = digs 256 m 32 := by
   apply List.ext_getElem?
   intro i
   by_cases hi : i < 32
   ·have e : ((fbytes n).getD i 0).toNat = ((fbytes m).getD i 0).toNat := by rw [h]
    rw [fbytes_get _ _ hi, fbytes_get _ _ hi, ← digs_getD 256 n 32 i hi, ← digs_getD 256 m 32 i hi] at e
    rw [List.getD_eq_getElem?_getD, List.getD_eq_getElem?_getD, List.getElem?_eq_getElem (by rw [digs_length]; exact hi), List.getElem?_eq_getElem (by rw [digs_length]; exact hi)] at e
    rw [List.getElem?_eq_getElem (by rw [digs_length]; exact hi), List.getElem?_eq_getElem (by rw [digs_length]; exact hi)]
    simpa using e
   ·rw [List.getElem?_eq_none (by rw [digs_length]; omega), List.getElem?_eq_none (by rw [digs_length]; omega)]
  exact digs_inj h2 (show n < 256 ^ 32 from hn) (show m < 256 ^ 32 from hm)
 ·rintro rfl; rfl
/-- Any 32 bytes are a number's. -/
theorem fbytes_of (l : List UInt8) (h : l.length = 32) : ∃ v, v < 2 ^ 256 ∧ l = fbytes v := by
 have ha : All 256 (l.map UInt8.toNat) := fun x hx => by
  obtain ⟨b, _, rfl⟩ := List.mem_map.1 hx
  exact b.toNat_lt
 refine ⟨val 256 (l.map UInt8.toNat), ?_, ?_⟩
 ·have := val_lt _ ha
  rwa [List.length_map, h] at this
 ·have hd := digs_val _ ha
  rw [List.length_map, h] at hd
  unfold fbytes
  rw [hd, List.map_map]
  have : (UInt8.ofNat ∘ UInt8.toNat) = id := by funext x; simp
  rw [this, List.map_id]
def GetAt (v i : Nat) (w wr : World) : Prop :=
 Blk wr (w.heap.size + 1) 40 (limA (v % 256 ^ i)) ∧ Blk wr w.heap.size 42 (limA 0) ∧ Below w.heap.size w wr
theorem GetAt.drew {v i : Nat} {w wr : World} (h : GetAt v i w wr) : GetAt v i w wr.drew := ⟨h.1.drew, h.2.1.drew, h.2.2.drew⟩
theorem arr32 (p : Option Addr) (n c : Nat) (hn : 32 ≤ n) (W : World) : (Instr.arrayAt 22 (.slice p n c)).run Tryd.prog W = .ok (.pointer p) W := run_arrayAt W _ _ 32 p n c Tryd.underlying22 hn
theorem run_loadVar_add {P : Program} (w : World) (ad : Addr) (t e : TypeId) (n : Nat) (cs : Array Value) (hu : P.underlying t = some (.array n e)) (hi : (P.info? t).map (·.size) = some cs.size)
  (hc : ∀ j v, cs[j]? = some v → w.cell? (ad.add j) = some v) : (loadVar t ad).run P w = .ok (.agg cs) w := by
 have hl : (loadCells ad cs.toList.length).run P w = .ok cs.toList.toArray w := run_loadCells_list (P := P) w ad cs.toList (fun j v hv => hc j v (by simpa using hv))
 cases hq : P.info? t with
 | none => simp [hq] at hi
 | some i =>
  have hs : i.size = cs.size := by simpa [hq] using hi
  have hagg : (isAgg t).run P w = .ok true w := by
   unfold isAgg
   rw [Sem.run_bind, run_underlying hu w]
   simp [Result.andThen]
  simp only [Array.length_toList, Array.toArray_toList] at hl
  simp [loadVar, Sem.run_bind, hagg, sizeOf, typeInfo, hq, hs, hl, Result.andThen]
theorem quiet_load_add {P : Program} {o : Oper} {ev : Operand → Value} {w : World} (t : TypeId) (x : Operand) (ad : Addr) (hx : ev x = .pointer (some ad)) (e : TypeId) (n : Nat) (cs : Array Value)
  (hu : P.underlying t = some (.array n e)) (hi : (P.info? t).map (·.size) = some cs.size) (hc : ∀ j v, cs[j]? = some v → w.cell? (ad.add j) = some v) (ho : o.op = .load t x) : (execOp ev o).run P w = .ok (.value (.agg cs)) w := by
 unfold execOp
 simp only [ho, hx, Instr.loadAt, Instr.sureAddr, Sem.run_bind, Sem.run_pure, Result.andThen_ok, run_loadVar_add w ad t e n cs hu hi hc]
theorem results_row_tmp1 {fn : Func} {p u : Tmp} {ty : TypeId} {P : Program} (h : fn.results = #[.cell p ty, .tmp u]) (tmps : Array Value) (w : World) (g : Nat) (t : TypeId) (cs : Array Value) (v : Value) (l : Array Field)
  (hp : tmps.getD p undef = .pointer (some ⟨g, 0, none⟩)) (hv : tmps.getD u undef = v) (hg : Blk w g t cs) (hu : P.underlying ty = some (.struct l)) (hi : (P.info? ty).map (·.size) = some cs.size) :
  (results fn tmps).run P w = .ok (.tuple #[.agg cs, v]) w := by
 rw [results_cell_tmp h, hp, hv]
 have hl := run_loadVar_row w g t ty cs (0, 0) _ hg hu rfl hi
 simp [asAddr, Result.andThen, hl]
theorem quiet_neq_bytes {o : Oper} {ev : Operand → Value} (w : World) (x y : Operand) (k : TypeId) (l l' : List UInt8) (hl : l.length = 32) (hl' : l'.length = 32) (hx : ev x = .agg (bytesA l)) (hy : ev y = .agg (bytesA l'))
  (ho : o.op = .binOp .neq 22 x y k) : (execOp ev o).run Tryd.prog w = .ok (.value (.bool (!decide (l = l')))) w := by
 have hg : (eqGuard .neq 22 x y (.agg (bytesA l)) (.agg (bytesA l'))).run Tryd.prog w = .ok () w := run_eqGuard_agg w .neq _ x y _ _ (by kernel_rfl)
 unfold execOp
 simp only [ho, hx, hy, Sem.run_bind, hg, Result.andThen_ok, run_neq_bytes Tryd.underlying22 l l' hl hl' w, Sem.run_pure]
set_option maxHeartbeats 4000000 in
set_option maxRecDepth 100000 in
theorem get_32 (v : Nat) (hv : v < 2 ^ 256) (ad : Addr) (c : Nat) (w : World) (hr : Reads w w.heap.size 1 (some ad) 32 (Lib.byteCells (fbytes v))) (hP : PrimeAt w) :
  Calls Tryd.prog 38 #[.slice (some ad) 32 c] w fun e w' => e = .returned (.tuple #[elemV (if v < P then v else 0), .int .i64 (if v < P then 0 else 6)]) ∧ Below w.heap.size w w' := by
 have hal : Tryd.prog.arrayLen 40 = 4 := by kernel_rfl
 have hel : Tryd.prog.elem 40 = 38 := by kernel_rfl
 have HR := hid hr
 have HV := hid hv
 have HP := hid hP
 clear hr hv hP
 go_enter Tryd.func38, Tryd.ntmps38
 go_wp2
 go_loopg [5, 6, 18] 32 (fun g _ _ iv wr => ∃ i, iv = .int .i64 (i : Nat) ∧ g + i = 32 ∧ GetAt v i w wr)
 case atStart =>
  refine ⟨0, rfl, rfl, ?_, (Blk.new w _ (limA 0)).alloc _, ((Below.refl _ _).alloc (Nat.le_refl _) _).alloc (by simp) _⟩
  rw [Nat.pow_zero, Nat.mod_one]
  have := Blk.new (w.alloc (.cells (limA 0) 42)) 40 (limA 0)
  rwa [show (w.alloc (.cells (limA 0) 42)).heap.size = w.heap.size + 1 by simp] at this
 case round =>
  obtain ⟨i, rfl, hg, b1, b2, hb⟩ := hrel
  by_cases hlt : i < 32
  ·have hrw := HR.out.below hb
   obtain ⟨ad', hA, hadb, hcell⟩ := hrw.2 (by omega)
   injection hA with hA
   subst hA
   have g0 := hcell i _ (show (Lib.byteCells (fbytes v))[i]? = some (.int .u8 (((fbytes v).getD i 0).toNat : Int)) by
    have h1 : i < (fbytes v).length := by rw [fbytes_length]; omega
    simp [Lib.byteCells, List.getD, List.getElem?_eq_getElem h1])
   obtain ⟨d, hd⟩ := named ((fbytes v).getD i 0).toNat
   have hdl : d < 256 := by rw [hd.out]; exact ((fbytes v).getD i 0).toNat_lt
   have hdv : d = v / 256 ^ i % 256 := by rw [hd.out, fbytes_get _ _ hlt]
   rw [← hd.out] at g0
   obtain ⟨k, hk⟩ : ∃ k, k = i / 8 := ⟨_, rfl⟩
   obtain ⟨j, hj⟩ : ∃ j, j = i % 8 := ⟨_, rfl⟩
   have hij : i = 8 * k + j := by omega
   have hk4 : k < 4 := by omega
   have hj8 : j < 8 := by omega
   have hdiv : (i : Int) / 8 = (k : Int) := by omega
   have hmod : (i : Int) % 8 = (j : Int) := by omega
   obtain ⟨a1, a2, a3⟩ := getd_arith hij hj8 hk4 d hdv
   have hx : wr.cell? ⟨w.heap.size + 1, k, none⟩ = some (.int .u64 (((v % 256 ^ i) / M ^ k % M : Nat) : Int)) := (b1.cell k).trans (limA_get _ _ hk4)
   have hf := b1.frozen k
   obtain ⟨x, hX⟩ := named ((v % 256 ^ i) / M ^ k % M)
   rw [← hX.out] at a1 a2 a3 hx
   obtain ⟨s, hs⟩ := named (d * 2 ^ (8 * j))
   rw [← hs.out] at a2 a3
   have hxs : x + s < M := a2
   obtain ⟨y, hY⟩ := named (x + s)
   rw [← hY.out] at a2 a3
   have hor : bits .or .u64 (x : Int) (s : Int) = (y : Int) := by
    rw [bits_or_u64_nat _ _ (by unfold M at hxs; omega) (by unfold M at hxs; omega), hY.out, hs.out]
    congr 1
    rw [Nat.or_comm, Nat.mul_comm d, Nat.add_comm]
    exact (Nat.two_pow_add_eq_or_of_lt a1 d).symm
   have hsh : IntKind.u64.wrap ((d : Int) * 2 ^ (j * 8)) = (s : Int) := by
    rw [IntKind.wrap_u64, hs.out]
    have : d * 2 ^ (8 * j) < 18446744073709551616 := by rw [← hs.out]; unfold M at hxs; omega
    rw [show ((d : Int) * 2 ^ (j * 8)) = ((d * 2 ^ (8 * j) : Nat) : Int) by rw [Nat.mul_comm 8 j]; simp]
    omega
   have hmin : min (j * 8) 64 = j * 8 := by omega
   have ht : ((j : Int) * 8).toNat = j * 8 := by omega
   have hcv : IntKind.u64.wrap (d : Int) = (d : Int) := by rw [IntKind.wrap_u64]; omega
   have hn2 : Hid (GetAt v (i + 1) w (wr.setCell ⟨w.heap.size + 1, k, none⟩ (.int .u64 (y : Int)))) := hid (by
    refine ⟨?_, b2.far (by show w.heap.size ≠ w.heap.size + 1; omega) _, hb.setCell (by show w.heap.size ≤ w.heap.size + 1; omega) _⟩
    have := Blk.set_ b1 k (.int .u64 (y : Int))
    rw [limA, u64s_set, a3] at this
    exact this)
   have HA1 := hid a1
   have HA2 := hid a2
   clear b1 b2 hb hcell hrw hk hj hij a1 a2 a3 hdv hdl hxs
   go_wp2
   go_region
   have hnd := hid hn2.out.drew
   clear hn2
   go_wp2
   go_roundg (gk - 1)
   case measure => omega
   case rel => exact ⟨i + 1, by go_num, by omega, hnd.out⟩
  ·obtain rfl : i = 32 := by omega
   rw [Nat.mod_eq_of_lt (show v < 256 ^ 32 from HV.out)] at b1
   have B1 := hid b1
   have B2 := hid b2
   have HBL := hid hb
   have hsz := b1.lt
   have hRi := hid (limA_info v)
   have hRe := hid (limA_infoE v)
   have hR1 := hid (limA_one v)
   have hBD := hid (built_lim v)
   have hzz : Hid ((#[.int .u64 0, .int .u64 0, .int .u64 0, .int .u64 0] : Array Value).size = (limA v).size) := hid (by rw [limA_size]; rfl)
   clear b1 b2 hb hg
   go_wp2_with (first | (refine wpList_load_row rfl 40 (.tmp 4) rfl (w.heap.size + 1) rfl 40 (limA v) (0, 0) _ B1.out Tryd.underlying40 rfl hRi.out ?_) |
    (refine wpList_build_to rfl 42 #[(0, .tmp 36)] rfl [(0, .agg (limA v))] (by simp [Act.eval, Act.put]) (limA v) hBD.out ?_) |
    (refine wpList_store_row rfl 42 (.tmp 7) (.tmp 37) rfl wr.heap.size (limA v) rfl rfl 42 _ (heap_alloc_new wr _) hRe.out hzz.out hR1.out ?_; rw [setRow_alloc1]))
   have hB4 := (Blk.new wr 42 (limA v)).nilmid
   have hp4 := (HP.out.old HBL.out).old ((Below.refl wr.heap.size wr).alloc (Nat.le_refl _) (.cells (limA v) 42))
   refine (round_any wr.heap.size 0 42 [] (digs M v 4) [] _ hB4 rfl (digs_length _ _ _) (limA_all v) (by have := HP.out.1; omega) hp4).mono ?_
   rintro e w5 ⟨rfl, hB5, hg5⟩
   rw [val_digs, Nat.mod_eq_of_lt (show v < M ^ 4 from HV.out), subP_P (show v < M ^ 4 from HV.out), nil_mid] at hB5
   obtain ⟨u, hu⟩ := named (if P ≤ v then v - P else v)
   rw [← hu.out] at hB5
   have B5 : Hid (Blk w5 wr.heap.size 42 (limA u)) := hid hB5
   have hb5 : Below wr.heap.size wr w5 := ((Below.refl _ _).alloc (Nat.le_refl _) _).grown hg5 (by simp) (fun k hk => by injection hk with hk; omega)
   have HB5 : Hid (Below w.heap.size w w5) := hid (HBL.out.trans (hb5.mono HBL.out.size))
   have B25 := hid (B2.out.old hb5)
   have hszr := hid hsz
   have hul : u < 2 ^ 256 := by rw [hu.out]; have := HV.out; split <;> omega
   have huv : (fbytes u = fbytes v) ↔ v < P := by
    rw [fbytes_inj hul HV.out, hu.out]
    split <;> (have : 0 < P := by decide) <;> omega
   have HUV := hid huv
   have HUL := hid hul
   clear hB4 hp4 hB5 hg5 hb5 hul huv hsz
   go_wp2_with fail
   have harr := arr32 (some ad) 32 c (by omega)
   have hcells : Hid (∀ W, Below w5.heap.size w5 W → ∀ j v', (bytesA (fbytes v))[j]? = some v' → W.cell? (ad.add j) = some v') := hid (by
    intro W hW j v' hj
    have hrw := (HR.out.below HB5.out).more HB5.out.size
    obtain ⟨ad', hA, hadb, hcell⟩ := (hrw.below hW).2 (by omega)
    injection hA with hA
    subst hA
    exact hcell j v' (by rw [bytesA, List.getElem?_toArray] at hj; exact hj))
   have hRu := hid (limA_infoE u)
   have hbd : Below w5.heap.size w5 w5.drew := (Below.refl _ _).drew
   refine wp_region_held_drew (S := fun W => Below w5.heap.size w5 W) (by kernel_rfl) hbd (fun hHeld => ?_)
   refine' wpAnyH_take (i := 0) (oi := _) (v := .agg (limA u)) ?hit0 ?hst0 ?hft0 ?hrt0 ?hQt0 ?hyt0 ?hSt0 ?_
   case hit0 => (simp only [zD, zE, zF]; rfl)
   case hst0 | hft0 | hrt0 => kernel_rfl
   case hQt0 => exact fun _ _ _ h => h
   case hSt0 => assumption
   case hyt0 =>
    refine Or.inl ⟨by rfl, ?_⟩
    intro W hS
    exact quiet_load_row 42 (.tmp 7) wr.heap.size rfl 42 (limA u) _ (B5.out.old hS) Tryd.underlying42 rfl hRu.out rfl
   (try simp only [Act.put, zA, zB, zC])
   refine' wpAnyH_take (i := 2) (oi := _) (v := _) ?hit2 ?hst2 ?hft2 ?hrt2 ?hQt2 ?hyt2 ?hSt2 ?_
   case hit2 => (simp only [zD, zE, zF]; rfl)
   case hst2 | hft2 | hrt2 => kernel_rfl
   case hQt2 => exact fun _ _ _ h => h
   case hSt2 => assumption
   case hyt2 =>
    refine Or.inl ⟨by rfl, ?_⟩
    intro w hSw
    (try dsimp only at hSw)
    go_simp
    all_goals (with_reducible rfl)
   (try simp only [Act.put, zA, zB, zC])
   refine' wpAnyH_take (i := 3) (oi := _) (v := _) ?hit3 ?hst3 ?hft3 ?hrt3 ?hQt3 ?hyt3 ?hSt3 ?_
   case hit3 => (simp only [zD, zE, zF]; rfl)
   case hst3 | hft3 | hrt3 => kernel_rfl
   case hQt3 => exact fun _ _ _ h => h
   case hSt3 => assumption
   case hyt3 =>
    refine Or.inl ⟨by rfl, ?_⟩
    intro w hSw
    (try dsimp only at hSw)
    go_simp
    all_goals (with_reducible rfl)
   (try simp only [Act.put, zA, zB, zC])
   refine' wpAnyH_take (i := 4) (oi := _) (v := .agg (bytesA (fbytes v))) ?hit4 ?hst4 ?hft4 ?hrt4 ?hQt4 ?hyt4 ?hSt4 ?_
   case hit4 => (simp only [zD, zE, zF]; rfl)
   case hst4 | hft4 | hrt4 => kernel_rfl
   case hQt4 => exact fun _ _ _ h => h
   case hSt4 => assumption
   case hyt4 =>
    refine Or.inl ⟨by rfl, ?_⟩
    intro W hS
    exact quiet_load_add 22 (.tmp 43) ad rfl _ _ (bytesA (fbytes v)) Tryd.underlying22 (fbytes_info v) (hcells.out _ hS) rfl
   (try simp only [Act.put, zA, zB, zC])
   refine wpAnyH_ready (rs := [1]) (by kernel_rfl) (by simp) ?_
   refine' AllReadyH.cons (o := _) ?hir1 (fun K hK => ?_) AllReadyH.nil
   case hir1 => (simp only [zD, zE, zF]; rfl)
   go_simp
   go_at_call 32
   refine (bytes_e u _).mono ?_
   rintro e w6 ⟨rfl, hb6⟩
   refine hK.out _ _ ?_ (fun hHeld => ?_)
   exact hbd.trans (hb6.mono hbd.size)
   clear hK K
   (try simp only [Act.put, zA, zB, zC])
   refine' wpAnyH_take (i := 5) (oi := _) (v := .bool (!decide (fbytes u = fbytes v))) ?hit5 ?hst5 ?hft5 ?hrt5 ?hQt5 ?hyt5 ?hSt5 ?_
   case hit5 => (simp only [zD, zE, zF]; rfl)
   case hst5 | hft5 | hrt5 => kernel_rfl
   case hQt5 => exact fun _ _ _ h => h
   case hSt5 => assumption
   case hyt5 =>
    refine Or.inl ⟨by rfl, ?_⟩
    intro W hS
    exact quiet_neq_bytes W (.tmp 41) (.tmp 44) 22 _ _ (fbytes_length _) (fbytes_length _) rfl rfl rfl
   (try simp only [Act.put, zA, zB, zC])
   refine wpAnyH_done (by kernel_rfl) ?_ _
   have hb6' := HB5.out.trans ((hbd.trans (hb6.mono hbd.size)).mono HB5.out.size)
   have B26 := hid (B25.out.old (hbd.trans (hb6.mono hbd.size)))
   have B56 := hid (B5.out.old (hbd.trans (hb6.mono hbd.size)))
   have HB6 := hid hb6'
   clear hb6' hb6 hbd hHeld
   have hz4 : Hid ((limA 0).size = (limA u).size) := hid (by rw [limA_size, limA_size])
   have hu1 := hid (limA_one u)
   by_cases hvP : v < P
   ·have he : decide (fbytes u = fbytes v) = true := by rw [decide_eq_true_eq]; exact HUV.out.2 hvP
    rw [he]
    have huv : Hid (u = v) := hid (by rw [hu.out, if_neg (by omega)])
    go_wp2_with (first | (refine wpList_load_row rfl 42 (.tmp 7) rfl wr.heap.size rfl 42 (limA u) (0, 0) _ B56.out Tryd.underlying42 rfl hRu.out ?_) |
     (refine wpList_store_row rfl 42 (.tmp 2) (.tmp 47) rfl w.heap.size (limA u) rfl rfl 42 _ B26.out hRu.out hz4.out hu1.out ?_))
    refine bodyPost_ret (v := .tuple #[.agg (limA u), .int .i64 0]) ?_ rfl ⟨by rw [huv.out]; rfl, below_row HB6.out (Nat.le_refl _) _⟩
    exact results_row_tmp1 Tryd.results38 _ _ w.heap.size 42 _ _ _ rfl rfl (B26.out.row _) Tryd.underlying42 hRu.out
   ·have he : decide (fbytes u = fbytes v) = false := by rw [decide_eq_false_iff_not]; exact fun h => hvP (HUV.out.1 h)
    rw [he]
    go_wp2_with (first | (refine wpList_store_row rfl 42 (.tmp 2) (.tmp 46) rfl w.heap.size (limA 0) rfl rfl 42 _ B26.out (limA_infoE 0) rfl (limA_one 0) ?_))
    refine bodyPost_ret (v := .tuple #[.agg (limA 0), .int .i64 6]) ?_ rfl ⟨rfl, below_row HB6.out (Nat.le_refl _) _⟩
    exact results_row_tmp1 Tryd.results38 _ _ w.heap.size 42 _ _ _ rfl rfl (B26.out.row _) Tryd.underlying42 (limA_infoE 0)
end Go.Proofs.YtcfogpeinjehbaaDoor
end

section
namespace Go.Proofs.YtcfogpeinjehbaaDoor
open Go Go.Proofs Go.RowKit F5
theorem slice32 (g : Nat) (W : World) : (Instr.sliceAt 22 (.pointer (some ⟨g, 0, none⟩)) none none none).run Tryd.prog W = .ok (.slice (some ⟨g, 0, none⟩) 32 32) W := by
 have hal : Tryd.prog.arrayLen 22 = 32 := by kernel_rfl
 have hel : Tryd.prog.elem 22 = 5 := by kernel_rfl
 rw [run_sliceAt_array_all W 22 ⟨g, 0, none⟩ (by rw [hal, hel]; exact Tryd.underlying22), hal, hel, Tryd.sizeOf5]
 rfl
theorem reads_blk {w : World} {g t : Nat} {l : List UInt8} (h : Blk w g t (bytesA l)) : Reads w w.heap.size 1 (some ⟨g, 0, none⟩) l.length (Lib.byteCells l) := by
 refine ⟨by simp [Lib.byteCells_length], fun _ => ⟨_, rfl, h.lt, fun j u hj => ?_⟩⟩
 have e : (⟨g, 0, none⟩ : Addr).add j = ⟨g, j, none⟩ := by unfold Addr.add; split <;> simp_all
 rw [e, h.cell, bytesA, List.getElem?_toArray]
 exact hj
end Go.Proofs.YtcfogpeinjehbaaDoor
end

section
namespace F5
theorem mod_next (x k : Nat) : x % B ^ (k + 1) = x % B ^ k + B ^ k * (x / B ^ k % B) := by
 rw [Nat.pow_succ, Nat.mod_mul]
theorem lim_lt (x k : Nat) : x / B ^ k % B < B := Nat.mod_lt _ (by decide)
theorem mod_full {x : Nat} (h : x < 2 ^ 256) : x % B ^ 16 = x := Nat.mod_eq_of_lt (show x < B ^ 16 from h)
theorem digs_at {x k : Nat} (h : k < 16) : (digs B x 16).getD k 0 = x / B ^ k % B := digs_getD _ _ _ _ h
theorem val16 {x : Nat} (h : x < 2 ^ 256) : val B (digs B x 16) = x := by rw [val_digs, mod_full h]
/-- The sum, its first k limbs done. -/
def AddL (x y k : Nat) (L : List Nat) : Prop :=
 L.length = 16 ∧ (∀ j, L.getD j 0 ≤ 131070) ∧ (∀ j, k ≤ j → j < 16 → L.getD j 0 = x / B ^ j % B) ∧ val B L = x + y % B ^ k
theorem AddL.zero {x y : Nat} (hx : x < 2 ^ 256) : AddL x y 0 (digs B x 16) :=
 ⟨digs_length _ _ _, fun j => by have := (digs_all (show 0 < B by decide) x 16).getD (by decide) j; unfold B at *; omega, fun j _ h => digs_at h, by rw [val16 hx]; simp [Nat.mod_one]⟩
theorem AddL.next {x y k : Nat} {L : List Nat} (h : AddL x y k L) (hk : k < 16) : AddL x y (k + 1) (L.set k (L.getD k 0 + y / B ^ k % B)) := by
 obtain ⟨h1, h2, h3, h4⟩ := h
 have ha := h3 k (Nat.le_refl _) hk
 have hxl := lim_lt x k
 have hyl := lim_lt y k
 refine ⟨by simpa using h1, fun j => ?_, fun j hj hj2 => by rw [getD_set_ne _ _ (by omega), h3 j (by omega) hj2], ?_⟩
 ·by_cases e : k = j
  ·subst e
   rw [getD_set_eq _ _ (by omega)]
   unfold B at *; omega
  ·rw [getD_set_ne _ _ e]; exact h2 j
 ·have hs := val_set B L k (L.getD k 0 + y / B ^ k % B) (by omega)
  rw [mod_next]
  rw [Nat.mul_add] at hs
  omega
theorem AddL.done {x y : Nat} {L : List Nat} (h : AddL x y 16 L) (hy : y < 2 ^ 256) : L.length = 16 ∧ Small L ∧ val B L = x + y := by
 obtain ⟨h1, h2, _, h4⟩ := h
 rw [mod_full hy] at h4
 exact ⟨h1, fun j => Nat.le_trans (h2 j) (by decide), h4⟩
/-- p less a number, its first k limbs done; b is borrowed. -/
def NegL (x k b : Nat) (L : List Nat) : Prop :=
 L.length = 16 ∧ All B L ∧ (∀ j, k ≤ j → j < 16 → L.getD j 0 = x / B ^ j % B) ∧ b ≤ 1 ∧ val B L + 2 * (x % B ^ k) = P % B ^ k + B ^ k * b + x
theorem NegL.zero {x : Nat} (hx : x < 2 ^ 256) : NegL x 0 0 (digs B x 16) :=
 ⟨digs_length _ _ _, digs_all (by decide) _ _, fun j _ h => digs_at h, by omega, by rw [val16 hx]; simp [Nat.mod_one]⟩
theorem NegL.next {x k b n : Nat} {L : List Nat} (h : NegL x k b L) (hk : k < 16) (hn : n + L.getD k 0 + b = P / B ^ k % B + 65536) : NegL x (k + 1) (1 - n / 65536) (L.set k (n % 65536)) := by
 obtain ⟨h1, h2, h3, h5, h4⟩ := h
 have ha := h3 k (Nat.le_refl _) hk
 have hxl := lim_lt x k
 have hpl := lim_lt P k
 have hr : n % 65536 < B := Nat.mod_lt _ (by decide)
 refine ⟨by simpa using h1, h2.set hr, fun j hj hj2 => by rw [getD_set_ne _ _ (by omega), h3 j (by omega) hj2], by omega, ?_⟩
 have hs := val_set B L k (n % 65536) (by omega)
 have he : n % 65536 + x / B ^ k % B + b = P / B ^ k % B + 65536 * (1 - n / 65536) := by
  rw [← ha]
  unfold B at *; omega
 rw [mod_next x, mod_next P, Nat.pow_succ, Nat.mul_assoc]
 rw [ha] at hs
 have e := congrArg (B ^ k * ·) he
 simp only [Nat.mul_add] at e
 have e2 : B * (1 - n / 65536) = 65536 * (1 - n / 65536) := rfl
 rw [e2]
 omega
theorem NegL.done {x b : Nat} {L : List Nat} (h : NegL x 16 b L) (hx : x < P) : L.length = 16 ∧ Small L ∧ val B L = P - x := by
 obtain ⟨h1, h2, _, h5, h4⟩ := h
 have hxx : x < 2 ^ 256 := Nat.lt_trans hx (by decide)
 rw [mod_full hxx, mod_full (show P < 2 ^ 256 by decide)] at h4
 have hl := val_lt L h2
 rw [h1] at hl
 refine ⟨h1, fun j => Nat.le_trans (Nat.le_of_lt (h2.getD (by decide) j)) (by decide), ?_⟩
 have hb : b = 0 := by unfold B at *; omega
 subst hb
 omega
/-- The product: the first i limbs of x are done, and of the next one the first k of y. -/
def MulL (x y i k : Nat) (L : List Nat) : Prop :=
 L.length = 32 ∧ (∀ j, L.getD j 0 ≤ (16 * i + k) * 4294836225) ∧ val B L = x % B ^ i * y + B ^ i * ((x / B ^ i % B) * (y % B ^ k))
theorem val_zeros (b n : Nat) : val b (List.replicate n 0) = 0 := by
 induction n with
 | zero => rfl
 | succ n ih => rw [List.replicate_succ, val, ih]; simp
theorem MulL.zero {x y : Nat} : MulL x y 0 0 (List.replicate 32 0) := by
 refine ⟨List.length_replicate, fun j => ?_, ?_⟩
 ·rw [List.getD_eq_getElem?_getD, List.getElem?_replicate]; split <;> exact Nat.zero_le _
 ·have e : x % B ^ 0 = 0 := by rw [Nat.pow_zero, Nat.mod_one]
  have e2 : y % B ^ 0 = 0 := by rw [Nat.pow_zero, Nat.mod_one]
  rw [val_zeros, e, e2, Nat.mul_zero, Nat.mul_zero, Nat.zero_mul]
theorem MulL.next {x y i k : Nat} {L : List Nat} (h : MulL x y i k L) (hi : i < 16) (hk : k < 16) : MulL x y i (k + 1) (L.set (i + k) (L.getD (i + k) 0 + (x / B ^ i % B) * (y / B ^ k % B))) := by
 obtain ⟨h1, h2, h4⟩ := h
 have hxl := lim_lt x i
 have hyl := lim_lt y k
 have hp : (x / B ^ i % B) * (y / B ^ k % B) ≤ 65535 * 65535 := Nat.mul_le_mul (by unfold B at *; omega) (by unfold B at *; omega)
 refine ⟨by simpa using h1, fun j => ?_, ?_⟩
 ·have h2j := h2 j
  by_cases e : i + k = j
  ·subst e
   rw [getD_set_eq _ _ (by omega)]
   omega
  ·rw [getD_set_ne _ _ e]; exact Nat.le_trans h2j (Nat.mul_le_mul_right _ (Nat.le_succ _))
 ·have hs := val_set B L (i + k) (L.getD (i + k) 0 + (x / B ^ i % B) * (y / B ^ k % B)) (by omega)
  rw [mod_next y, Nat.mul_add, Nat.mul_add]
  rw [Nat.mul_add] at hs
  have e : B ^ i * (x / B ^ i % B * (B ^ k * (y / B ^ k % B))) = B ^ (i + k) * (x / B ^ i % B * (y / B ^ k % B)) := by
   rw [Nat.pow_add]; simp only [Nat.mul_assoc, Nat.mul_left_comm]
  rw [e]
  omega
theorem MulL.row {x y i : Nat} {L : List Nat} (h : MulL x y i 16 L) (hy : y < 2 ^ 256) : MulL x y (i + 1) 0 L := by
 obtain ⟨h1, h2, h4⟩ := h
 refine ⟨h1, fun j => by have := h2 j; omega, ?_⟩
 rw [h4, mod_full hy, mod_next x, Nat.add_mul, Nat.pow_zero, Nat.mod_one, Nat.mul_zero, Nat.mul_zero, Nat.add_zero, Nat.mul_assoc]
theorem val_add_list (L1 L2 : List Nat) (c : Nat) (h : L1.length = L2.length) : val B (List.zipWith (fun a b => a + c * b) L1 L2) = val B L1 + c * val B L2 := by
 induction L1 generalizing L2 with
 | nil => cases L2 with
  | nil => simp [val]
  | cons a t => simp at h
 | cons a t ih =>
  cases L2 with
  | nil => simp at h
  | cons b t2 =>
   have := ih t2 (by simpa using h)
   show (a + c * b) + B * val B (List.zipWith _ t t2) = a + B * val B t + c * (b + B * val B t2)
   rw [this, Nat.mul_add, Nat.mul_add, Nat.mul_left_comm B c]
   omega
/-- what stands from 2^256 on counts 38 times. -/
def foldL (L : List Nat) : List Nat := List.zipWith (fun a b => a + 38 * b) (L.take 16) (L.drop 16)
theorem foldL_length {L : List Nat} (h : L.length = 32) : (foldL L).length = 16 := by simp [foldL, h]
theorem foldL_at {L : List Nat} (h : L.length = 32) {i : Nat} (hi : i < 16) : (foldL L).getD i 0 = L.getD i 0 + 38 * L.getD (i + 16) 0 := by
 unfold foldL
 rw [List.getD_eq_getElem?_getD, List.getElem?_zipWith, List.getElem?_take_of_lt hi, List.getElem?_drop, Nat.add_comm 16 i]
 rw [List.getD_eq_getElem?_getD, List.getD_eq_getElem?_getD, List.getElem?_eq_getElem (by omega), List.getElem?_eq_getElem (by omega)]
 rfl
theorem MulL.done {x y : Nat} {L : List Nat} (h : MulL x y 16 0 L) (hx : x < 2 ^ 256) : L.length = 32 ∧ Small (foldL L) ∧ val B (foldL L) % P = x * y % P := by
 obtain ⟨h1, h2, h4⟩ := h
 refine ⟨h1, fun j => ?_, ?_⟩
 ·by_cases hj : j < 16
  ·rw [foldL_at h1 hj]
   have a := h2 j
   have b := h2 (j + 16)
   omega
  ·rw [List.getD_eq_getElem?_getD, List.getElem?_eq_none (by rw [foldL_length h1]; omega)]
   simp
 ·rw [mod_full hx, Nat.pow_zero, Nat.mod_one, Nat.mul_zero, Nat.mul_zero, Nat.add_zero] at h4
  have e : val B L = val B (L.take 16) + B ^ 16 * val B (L.drop 16) := by
   conv => lhs; rw [← List.take_append_drop 16 L, val_append, List.length_take, h1]
   rfl
  rw [foldL, val_add_list _ _ _ (by simp [h1]), ← h4, e]
  have hB : B ^ 16 = 38 + P * 2 := by decide
  rw [hB, Nat.add_mul, Nat.mul_assoc, ← Nat.add_assoc, Nat.add_mul_mod_self_left]
end F5
end

section
namespace F5
/-- the order. -/
def LL : Nat := 7237005577332262213973186563042994240857116359379907606001950938285454250989
theorem LL_pos : 0 < LL := by decide
theorem LL_lt : LL < 2 ^ 253 := by decide
theorem All.take {b : Nat} {l : List Nat} (h : All b l) (i : Nat) : All b (l.take i) := fun x hx => h x (List.mem_of_mem_take hx)
/-- of a number less another one the first k digits. -/
structure OffL (a b : List Nat) (k c : Nat) (out : List Nat) : Prop where
 len : out.length = k
 all : All B out
 bw : c ≤ 1
 eq : val B out + val B (b.take k) = val B (a.take k) + B ^ k * c
theorem OffL.zero (a b : List Nat) : OffL a b 0 0 [] := ⟨rfl, fun _ h => by (cases h), by omega, by simp [val]⟩
theorem val_snoc' (b : Nat) (l : List Nat) (x : Nat) : val b (l ++ [x]) = val b l + b ^ l.length * x := by rw [val_append]; simp [val]
theorem OffL.next {a b out : List Nat} {k c n : Nat} (h : OffL a b k c out) (ha : All B a) (hb : All B b) (la : k < a.length) (lb : k < b.length) (hn : n + b.getD k 0 + c = 65536 + a.getD k 0) :
  OffL a b (k + 1) (1 - n / 65536) (out ++ [n % 65536]) := by
 obtain ⟨h1, h2, h3, h4⟩ := h
 have hx := ha.getD (by decide) k
 have hy := hb.getD (by decide) k
 refine ⟨by simp [h1], h2.append fun x hx => by rw [List.mem_singleton.1 hx]; exact Nat.mod_lt _ (by decide), by omega, ?_⟩
 rw [val_snoc', h1, val_take_succ B b k lb, val_take_succ B a k la, Nat.pow_succ]
 generalize a.getD k 0 = x at *
 generalize b.getD k 0 = y at *
 have e : n % 65536 + y + c = x + 65536 * (1 - n / 65536) := by unfold B at hx hy; omega
 have e2 := congrArg (B ^ k * ·) e
 simp only [Nat.mul_add] at e2
 rw [Nat.mul_assoc, show B * (1 - n / 65536) = 65536 * (1 - n / 65536) from rfl]
 omega
theorem OffL.done {a b out : List Nat} {n c : Nat} (h : OffL a b n c out) (la : a.length = n) (lb : b.length = n) (hle : val B b ≤ val B a) : out = digs B (val B a - val B b) n := by
 obtain ⟨h1, h2, h3, h4⟩ := h
 rw [List.take_of_length_le (by omega), List.take_of_length_le (by omega)] at h4
 have hl := val_lt _ h2
 rw [h1] at hl
 refine digs_of h2 h1 ?_
 rcases (show c = 0 ∨ c = 1 by omega) with rfl | rfl
 ·omega
 ·omega
/-- twice a number, and a bit: the first k digits. -/
structure DblL (r : List Nat) (c0 k c : Nat) (out : List Nat) : Prop where
 len : out.length = k
 all : All B out
 cw : c ≤ 1
 eq : val B out + B ^ k * c = 2 * val B (r.take k) + c0
theorem DblL.zero (r : List Nat) {c0 : Nat} (h : c0 ≤ 1) : DblL r c0 0 c0 [] := ⟨rfl, fun _ h => by (cases h), h, by simp [val]⟩
theorem DblL.next {r out : List Nat} {c0 k c x : Nat} (h : DblL r c0 k c out) (hr : All B r) (hk : k < r.length) (hx : x = 2 * r.getD k 0 + c) : DblL r c0 (k + 1) (x / 65536) (out ++ [x % 65536]) := by
 obtain ⟨h1, h2, h3, h4⟩ := h
 have hy := hr.getD (by decide) k
 refine ⟨by simp [h1], h2.append fun x hx => by rw [List.mem_singleton.1 hx]; exact Nat.mod_lt _ (by decide), by unfold B at hy; omega, ?_⟩
 rw [val_snoc', h1, val_take_succ B r k hk, Nat.pow_succ]
 generalize r.getD k 0 = y at *
 have e : x % 65536 + 65536 * (x / 65536) = 2 * y + c := by rw [← hx]; exact Nat.mod_add_div _ _
 have e2 := congrArg (B ^ k * ·) e
 simp only [Nat.mul_add] at e2
 rw [Nat.mul_assoc, show B * (x / 65536) = 65536 * (x / 65536) from rfl, Nat.mul_add, Nat.mul_left_comm 2]
 omega
theorem DblL.done {r out : List Nat} {c0 n c : Nat} (h : DblL r c0 n c out) (hr : r.length = n) (hl : 2 * val B r + c0 < B ^ n) : out = digs B (2 * val B r + c0) n := by
 obtain ⟨h1, h2, h3, h4⟩ := h
 rw [List.take_of_length_le (by omega)] at h4
 refine digs_of h2 h1 ?_
 rcases (show c = 0 ∨ c = 1 by omega) with rfl | rfl
 ·omega
 ·omega
/-- bytes' number, the lowest first. -/
def bval (l : List UInt8) : Nat := val 256 (l.map UInt8.toNat)
theorem bytes_all (l : List UInt8) : All 256 (l.map UInt8.toNat) := by
 intro x hx
 obtain ⟨c, _, rfl⟩ := List.mem_map.1 hx
 exact c.toNat_lt
theorem bval_lt (l : List UInt8) : bval l < 256 ^ l.length := by
 have := val_lt _ (bytes_all l)
 rwa [List.length_map] at this
/-- digits of 16 bits, two bytes each. -/
structure DigL (l : List UInt8) (k : Nat) (out : List Nat) : Prop where
 len : out.length = k
 all : All B out
 eq : val B out = bval (l.take (2 * k))
theorem DigL.zero (l : List UInt8) : DigL l 0 [] := ⟨rfl, fun _ h => by (cases h), by simp [val, bval]⟩
theorem pow256 (k : Nat) : (256 : Nat) ^ (2 * k) = B ^ k := by rw [Nat.pow_mul]
theorem bval_take (l : List UInt8) (i : Nat) (hi : i < l.length) : bval (l.take (i + 1)) = bval (l.take i) + 256 ^ i * (l.getD i 0).toNat := by
 have h := val_take_succ 256 (l.map UInt8.toNat) i (by rw [List.length_map]; exact hi)
 rw [← List.map_take, ← List.map_take] at h
 unfold bval
 rw [h]
 congr 2
 simp [List.getD_eq_getElem?_getD, List.getElem?_eq_getElem hi]
theorem DigL.two {l : List UInt8} {k : Nat} {out : List Nat} (h : DigL l k out) (hk : 2 * k + 1 < l.length) : DigL l (k + 1) (out ++ [(l.getD (2 * k) 0).toNat + 256 * (l.getD (2 * k + 1) 0).toNat]) := by
 obtain ⟨h1, h2, h3⟩ := h
 have hx := (l.getD (2 * k) 0).toNat_lt
 have hy := (l.getD (2 * k + 1) 0).toNat_lt
 refine ⟨by simp [h1], h2.append fun x hx => by rw [List.mem_singleton.1 hx]; unfold B; omega, ?_⟩
 rw [val_snoc', h1, h3, show 2 * (k + 1) = 2 * k + 1 + 1 by omega, bval_take l (2 * k + 1) hk, bval_take l (2 * k) (by omega), Nat.pow_succ, pow256, Nat.mul_add, Nat.mul_assoc]
 omega
theorem DigL.one {l : List UInt8} {k : Nat} {out : List Nat} (h : DigL l k out) (hk : 2 * k + 1 = l.length) : DigL l (k + 1) (out ++ [(l.getD (2 * k) 0).toNat]) := by
 obtain ⟨h1, h2, h3⟩ := h
 have hx := (l.getD (2 * k) 0).toNat_lt
 refine ⟨by simp [h1], h2.append fun x hx => by rw [List.mem_singleton.1 hx]; unfold B; omega, ?_⟩
 have e : bval (l.take (2 * (k + 1))) = bval (l.take (2 * k + 1)) := by rw [List.take_of_length_le (by omega), List.take_of_length_le (by omega)]
 rw [val_snoc', h1, h3, e, bval_take l (2 * k) (by omega), pow256]
theorem DigL.done {l : List UInt8} {k : Nat} {out : List Nat} (h : DigL l k out) (hk : l.length ≤ 2 * k) : val B out = bval l := by rw [h.eq, List.take_of_length_le hk]
/-- the product and a third number: the first i digits of x and z are done, and of the next one the first k of y. -/
def MulZ (x y z i k e : Nat) (L : List Nat) : Prop :=
 L.length = 34 ∧ (∀ j, L.getD j 0 ≤ (16 * i + k) * 4294836225 + (i + e) * 65535) ∧ val B L = z % B ^ (i + e) + x % B ^ i * y + B ^ i * ((x / B ^ i % B) * (y % B ^ k))
theorem MulZ.zero {x y z : Nat} : MulZ x y z 0 0 0 (List.replicate 34 0) := by
 refine ⟨List.length_replicate, fun j => ?_, ?_⟩
 ·rw [List.getD_eq_getElem?_getD, List.getElem?_replicate]; split <;> exact Nat.zero_le _
 ·rw [val_zeros]; simp [Nat.mod_one]
theorem MulZ.add {x y z i : Nat} {L : List Nat} (h : MulZ x y z i 0 0 L) (hi : i < 16) : MulZ x y z i 0 1 (L.set i (L.getD i 0 + z / B ^ i % B)) := by
 obtain ⟨h1, h2, h4⟩ := h
 have hzl : z / B ^ i % B ≤ 65535 := Nat.le_of_lt_succ (lim_lt z i)
 refine ⟨by simpa using h1, fun j => ?_, ?_⟩
 ·have h2j := h2 j
  clear h4
  generalize z / B ^ i % B = q at *
  by_cases e : i = j
  ·subst e
   rw [getD_set_eq _ _ (by omega)]
   omega
  ·rw [getD_set_ne _ _ e]; clear e h2; exact Nat.le_trans h2j (by omega)
 ·have hs := val_set B L i (L.getD i 0 + z / B ^ i % B) (by omega)
  rw [Nat.mul_add] at hs
  rw [Nat.add_zero] at h4
  rw [mod_next z]
  omega
theorem MulZ.next {x y z i k : Nat} {L : List Nat} (h : MulZ x y z i k 1 L) (hi : i < 16) (hk : k < 16) : MulZ x y z i (k + 1) 1 (L.set (i + k) (L.getD (i + k) 0 + (x / B ^ i % B) * (y / B ^ k % B))) := by
 obtain ⟨h1, h2, h4⟩ := h
 have hxl := lim_lt x i
 have hyl := lim_lt y k
 have hp : (x / B ^ i % B) * (y / B ^ k % B) ≤ 65535 * 65535 := Nat.mul_le_mul (by unfold B at *; omega) (by unfold B at *; omega)
 refine ⟨by simpa using h1, fun j => ?_, ?_⟩
 ·have h2j := h2 j
  clear h4
  generalize (x / B ^ i % B) * (y / B ^ k % B) = q at *
  clear hxl hyl
  by_cases e : i + k = j
  ·subst e
   rw [getD_set_eq _ _ (by omega)]
   omega
  ·rw [getD_set_ne _ _ e]; clear e hp h2; exact Nat.le_trans h2j (by omega)
 ·have hs := val_set B L (i + k) (L.getD (i + k) 0 + (x / B ^ i % B) * (y / B ^ k % B)) (by omega)
  rw [mod_next y, Nat.mul_add, Nat.mul_add]
  rw [Nat.mul_add] at hs
  have e : B ^ i * (x / B ^ i % B * (B ^ k * (y / B ^ k % B))) = B ^ (i + k) * (x / B ^ i % B * (y / B ^ k % B)) := by
   rw [Nat.pow_add]; simp only [Nat.mul_assoc, Nat.mul_left_comm]
  rw [e]
  omega
theorem MulZ.row {x y z i : Nat} {L : List Nat} (h : MulZ x y z i 16 1 L) (hy : y < 2 ^ 256) : MulZ x y z (i + 1) 0 0 L := by
 obtain ⟨h1, h2, h4⟩ := h
 refine ⟨h1, fun j => by have := h2 j; omega, ?_⟩
 rw [h4, mod_full hy, mod_next x, Nat.add_mul, Nat.pow_zero, Nat.mod_one, Nat.mul_zero, Nat.mul_zero, Nat.add_zero, Nat.add_zero, Nat.mul_assoc]
 omega
theorem MulZ.done {x y z : Nat} {L : List Nat} (h : MulZ x y z 16 0 0 L) (hx : x < 2 ^ 256) (hz : z < 2 ^ 256) : L.length = 34 ∧ (∀ j, L.getD j 0 ≤ 1099511627776) ∧ val B L = x * y + z := by
 obtain ⟨h1, h2, h4⟩ := h
 refine ⟨h1, fun j => by have := h2 j; omega, ?_⟩
 rw [h4, Nat.add_zero, mod_full hx, mod_full hz, Nat.pow_zero, Nat.mod_one, Nat.mul_zero, Nat.mul_zero]
 omega
theorem Pass.full {A L : List Nat} {c n : Nat} (h : Pass A n L c) (hA : A.length = n) (hv : val B A < B ^ n) : All B L ∧ val B L = val B A := by
 have ha : All B L := by
  intro x hx
  obtain ⟨j, hj, rfl⟩ := List.getElem_of_mem hx
  have := h.2.1 j (by have := h.1; omega)
  rw [List.getD_eq_getElem?_getD, List.getElem?_eq_getElem hj] at this
  exact this
 refine ⟨ha, ?_⟩
 have h4 := h.2.2.2
 have hc : c = 0 := by
  rcases Nat.eq_zero_or_pos c with h0 | h0
  ·exact h0
  ·have := Nat.mul_le_mul_left (B ^ n) h0
   omega
 subst hc
 omega
end F5
end

section
namespace Go.Proofs.YtcfogpeinjehbaaDoor
open Go Go.Proofs Go.RowKit F5
/-- Numbers of 64 bits, as cells. -/
def U (l : List Nat) : List Value := l.map u64v
theorem U_length (l : List Nat) : (U l).length = l.length := by simp [U]
theorem own_slice {w : World} {base size n : Nat} {e : TypeId} {v : Value} {xs : List Value} (h : w.ownsRow base e size v n xs) : ∃ A c, v = .slice A n c ∧ n ≤ c ∧ c ≤ maxLen := by
 rcases h.2 with ⟨h1, h2⟩ | ⟨g, cap, cur, hv, _, _, hc, hm, _⟩
 ·exact ⟨none, 0, by rw [h1, h2], by omega, by unfold maxLen; omega⟩
 ·exact ⟨_, _, hv, hc, hm⟩
theorem below_new1 (w : World) (o : Obj) : Below w.heap.size w (w.alloc o) := (Below.refl _ _).alloc (Nat.le_refl _) o
theorem below_drewNs (w : World) (k : Nat) : Below w.heap.size w (w.drewN k) := ⟨rfl, rfl, rfl, Nat.le_refl _, fun _ _ => rfl⟩
end Go.Proofs.YtcfogpeinjehbaaDoor
end

section
namespace Go.Proofs.YtcfogpeinjehbaaDoor
open Go Go.Proofs Go.RowKit F5
theorem reads_b {w : World} {Bd n k : Nat} {A : Option Addr} {l : List UInt8} (h : Reads w Bd 1 A n (Lib.byteCells l)) (hk : k < n) : ∃ ad, A = some ad ∧ ad.block < Bd ∧ w.cell? (ad.add k) = some (.int .u8 ((l.getD k 0).toNat : Int)) := by
 obtain ⟨ad, u, rfl, hb, hu, hc⟩ := h.at_ hk
 have hl : k < l.length := by have := h.1; rw [Lib.byteCells_length] at this; omega
 refine ⟨ad, rfl, hb, ?_⟩
 rw [hc, ← hu]
 simp [Lib.byteCells, List.getElem?_map, List.getD_eq_getElem?_getD, List.getElem?_eq_getElem hl]
end Go.Proofs.YtcfogpeinjehbaaDoor
end

section
namespace F5
end F5
namespace Go.Proofs.YtcfogpeinjehbaaDoor
open Go Go.Proofs Go.RowKit F5
theorem bval_fbytes {v : Nat} (h : v < 2 ^ 256) : bval (fbytes v) = v := by
 unfold bval fbytes
 rw [List.map_map]
 have e : (digs 256 v 32).map (UInt8.toNat ∘ UInt8.ofNat) = digs 256 v 32 := by
  conv => rhs; rw [← List.map_id (digs 256 v 32)]
  apply List.map_congr_left
  intro x hx
  have := digs_all (b := 256) (by decide) v 32 x hx
  show (UInt8.ofNat x).toNat = x
  rw [UInt8.toNat_ofNat']
  omega
 rw [e, val_digs, Nat.mod_eq_of_lt (show v < 256 ^ 32 from h)]
end Go.Proofs.YtcfogpeinjehbaaDoor
end

section
namespace Go.Proofs.YtcfogpeinjehbaaDoor
open Go Go.Proofs Go.RowKit F5
/-- A number's 17 digits are read of a slice. -/
def Rd17 (v : Nat) (rv : Value) (wr : World) : Prop := ∃ A c, rv = .slice A 17 c ∧ Reads wr wr.heap.size 1 A 17 (U (digs B v 17))
theorem Rd17.old {v : Nat} {rv : Value} {w w' : World} (h : Rd17 v rv w) (hb : Below w.heap.size w w') : Rd17 v rv w' := by
 obtain ⟨A, c, h1, h2⟩ := h
 exact ⟨A, c, h1, (h2.below hb).more hb.size⟩
theorem Rd17.of_own {v Bd : Nat} {rv : Value} {w : World} (h : w.ownsRow Bd 38 1 rv 17 (U (digs B v 17))) : Rd17 v rv w := by
 obtain ⟨A, c, rfl, _⟩ := own_slice h
 exact ⟨A, c, rfl, Reads.of_own h⟩
end Go.Proofs.YtcfogpeinjehbaaDoor
end

section
namespace Go.Proofs.YtcfogpeinjehbaaDoor
open Go Go.Proofs Go.RowKit F5
theorem Blk.u64put {w : World} {g t : Nat} {L : List Nat} (h : Blk w g t (u64s L)) (i s : Nat) : Blk (w.setCell ⟨g, i, none⟩ (.int .u64 (s : Int))) g t (u64s (L.set i s)) := by
 have := h.set_ i (.int .u64 (s : Int))
 rwa [u64s_set] at this
theorem Blk.reads {w : World} {g : Nat} {L : List Nat} (h : Blk w g 38 (u64s L)) : Reads w w.heap.size 1 (some ⟨g, 0, none⟩) L.length (U L) := by
 refine ⟨by rw [U_length, Nat.mul_one], fun _ => ⟨_, rfl, h.lt, fun j u hj => ?_⟩⟩
 rw [show (⟨g, 0, none⟩ : Addr).add j = ⟨g, j, none⟩ from by unfold Addr.add; split <;> simp_all]
 rw [h.cell]
 simpa [u64s, U] using hj
/-- The product's digits stand in a block; what is below it is as it was. -/
def MulAt (W : World) (g : Nat) (L : List Nat) (wr : World) : Prop := Blk wr g 38 (u64s L) ∧ Below g W wr
theorem MulAt.put {W wr : World} {g : Nat} {L : List Nat} (h : MulAt W g L wr) (i s : Nat) : MulAt W g (L.set i s) (wr.setCell ⟨g, i, none⟩ (.int .u64 (s : Int))) := ⟨h.1.u64put i s, h.2.setCell (by show g ≤ g; omega) _⟩
theorem MulAt.drew {W wr : World} {g : Nat} {L : List Nat} (h : MulAt W g L wr) : MulAt W g L wr.drew := ⟨h.1.drew, h.2.drew⟩
end Go.Proofs.YtcfogpeinjehbaaDoor
end

section
namespace Go.Proofs.YtcfogpeinjehbaaDoor
open Go Go.Proofs Go.RowKit F5
def mayB (l : List UInt8) : Bool := decide (l.length = 32 ∧ bval l < LL)
theorem mayB_eq {l : List UInt8} (h : l.length = 32) : decide (fbytes (bval l % LL) = l) = mayB l := by
 have hb : bval l < 2 ^ 256 := by have := bval_lt l; rwa [h] at this
 have hm : bval l % LL < 2 ^ 256 := Nat.lt_trans (Nat.mod_lt _ LL_pos) (by decide)
 unfold mayB
 rw [decide_eq_decide]
 constructor
 ·intro e
  have h2 := congrArg bval e
  rw [bval_fbytes hm] at h2
  exact ⟨h, by rw [← h2]; exact Nat.mod_lt _ LL_pos⟩
 ·rintro ⟨_, h2⟩
  rw [Nat.mod_eq_of_lt h2]
  obtain ⟨v, hv, rfl⟩ := fbytes_of l h
  rw [bval_fbytes hv]
theorem mayB_no {l : List UInt8} (h : l.length ≠ 32) : mayB l = false := decide_eq_false fun h2 => h h2.1
end Go.Proofs.YtcfogpeinjehbaaDoor
end

section
namespace F5
def Prime (p : Nat) : Prop := 2 ≤ p ∧ ∀ m, m ∣ p → m = 1 ∨ m = p
theorem Prime.coprime {p : Nat} (hp : Prime p) {a : Nat} (h : ¬ p ∣ a) : Nat.Coprime p a := by
 rcases hp.2 (Nat.gcd p a) (Nat.gcd_dvd_left p a) with h1 | h1
 ·exact h1
 ·exact absurd (h1 ▸ Nat.gcd_dvd_right p a) h
theorem Prime.dvd_mul {p : Nat} (hp : Prime p) {a b : Nat} (h : p ∣ a * b) : p ∣ a ∨ p ∣ b := by
 by_cases ha : p ∣ a
 ·exact .inl ha
 ·exact .inr ((hp.coprime ha).dvd_of_dvd_mul_left h)
theorem mod_eq_sub {a b p : Nat} (h : a ≤ b) : a % p = b % p ↔ p ∣ b - a := by
 constructor
 ·intro e
  have h1 := Nat.div_add_mod a p
  have h2 := Nat.div_add_mod b p
  have : b - a = p * (b / p) - p * (a / p) := by omega
  rw [this, ← Nat.mul_sub]
  exact Nat.dvd_mul_right _ _
 ·rintro ⟨k, hk⟩
  have : b = a + p * k := by omega
  rw [this, Nat.add_mul_mod_self_left]
theorem mul_cancel {p a x y : Nat} (hp : Prime p) (ha : ¬ p ∣ a) (h : a * x % p = a * y % p) : x % p = y % p := by
 rcases Nat.le_total x y with hxy | hxy
 ·rw [mod_eq_sub (Nat.mul_le_mul_left a hxy), ← Nat.mul_sub] at h
  rw [mod_eq_sub hxy]
  exact (hp.dvd_mul h).resolve_left ha
 ·have h := h.symm
  rw [mod_eq_sub (Nat.mul_le_mul_left a hxy), ← Nat.mul_sub] at h
  exact ((mod_eq_sub hxy).2 ((hp.dvd_mul h).resolve_left ha)).symm
def prod : List Nat → Nat
 | [] => 1
 | x :: l => x * prod l
theorem prod_perm {l1 l2 : List Nat} (h : l1.Perm l2) : prod l1 = prod l2 := by
 induction h with
 | nil => rfl
 | cons x _ ih => simp [prod, ih]
 | swap x y l => simp [prod, Nat.mul_left_comm]
 | trans _ _ h1 h2 => exact h1.trans h2
theorem prod_map (p a : Nat) (l : List Nat) : prod (l.map fun x => a * x % p) % p = a ^ l.length * prod l % p := by
 induction l with
 | nil => simp [prod]
 | cons x l ih =>
  show (a * x % p) * prod (l.map fun x => a * x % p) % p = a ^ (l.length + 1) * (x * prod l) % p
  rw [Nat.mod_mul_mod, Nat.mul_mod (a * x), ih, ← Nat.mul_mod]
  congr 1
  rw [Nat.pow_succ]
  simp only [Nat.mul_assoc, Nat.mul_left_comm]
theorem perm_of {l1 l2 : List Nat} (h1 : l1.Nodup) (h : ∀ x ∈ l1, x ∈ l2) (hl : l2.length ≤ l1.length) : l1.Perm l2 := by
 induction l1 generalizing l2 with
 | nil => rw [List.eq_nil_of_length_eq_zero (Nat.le_zero.1 hl)]
 | cons x l ih =>
  have hx := h x List.mem_cons_self
  have hp := List.perm_cons_erase hx
  have hn := List.nodup_cons.1 h1
  refine (List.Perm.cons x (ih hn.2 (fun y hy => ?_) ?_)).trans hp.symm
  ·have hne : y ≠ x := fun e => hn.1 (e ▸ hy)
   exact (List.mem_erase_of_ne hne).2 (h y (List.mem_cons_of_mem _ hy))
  ·rw [List.length_erase_of_mem hx]
   simp at hl ⊢
   omega
theorem map_nodup {l : List Nat} (h : l.Nodup) (f : Nat → Nat) (hf : ∀ x ∈ l, ∀ y ∈ l, f x = f y → x = y) : (l.map f).Nodup := by
 induction l with
 | nil => simp
 | cons x l ih =>
  have hn := List.nodup_cons.1 h
  rw [List.map_cons, List.nodup_cons]
  refine ⟨fun hm => ?_, ih hn.2 fun a ha b hb => hf a (List.mem_cons_of_mem _ ha) b (List.mem_cons_of_mem _ hb)⟩
  obtain ⟨y, hy, e⟩ := List.mem_map.1 hm
  exact hn.1 (hf y (List.mem_cons_of_mem _ hy) x List.mem_cons_self e ▸ hy)
theorem prod_coprime {p : Nat} (hp : Prime p) (l : List Nat) (h : ∀ x ∈ l, ¬ p ∣ x) : ¬ p ∣ prod l := by
 induction l with
 | nil =>
  intro h1
  have h1 : p ∣ 1 := h1
  have := Nat.le_of_dvd (by decide) h1
  have := hp.1
  omega
 | cons x l ih =>
  intro h1
  rcases hp.dvd_mul h1 with h2 | h2
  ·exact h x List.mem_cons_self h2
  ·exact ih (fun y hy => h y (List.mem_cons_of_mem _ hy)) h2
theorem fermat {p a : Nat} (hp : Prime p) (ha : ¬ p ∣ a) : a ^ (p - 1) % p = 1 := by
 have hp2 := hp.1
 let l := List.range' 1 (p - 1)
 have hmem : ∀ x ∈ l, 1 ≤ x ∧ x < p := fun x hx => by
  have := List.mem_range'_1.1 hx
  omega
 have hnd : ∀ x ∈ l, ¬ p ∣ x := fun x hx h => by
  have := hmem x hx
  have := Nat.le_of_dvd (by omega) h
  omega
 have hinj : ∀ x ∈ l, ∀ y ∈ l, a * x % p = a * y % p → x = y := fun x hx y hy h => by
  have := mul_cancel hp ha h
  rw [Nat.mod_eq_of_lt (hmem x hx).2, Nat.mod_eq_of_lt (hmem y hy).2] at this
  exact this
 have hperm : (l.map fun x => a * x % p).Perm l := by
  refine perm_of (map_nodup (List.nodup_range' (s := 1) (n := p - 1)) _ hinj) (fun y hy => ?_) (by simp [l])
  obtain ⟨x, hx, rfl⟩ := List.mem_map.1 hy
  refine List.mem_range'_1.2 ⟨?_, ?_⟩
  ·rcases Nat.eq_zero_or_pos (a * x % p) with h0 | h0
   ·rcases hp.dvd_mul (Nat.dvd_of_mod_eq_zero h0) with h1 | h1
    ·exact absurd h1 ha
    ·exact absurd h1 (hnd x hx)
   ·exact h0
  ·have := Nat.mod_lt (a * x) (show p > 0 by omega)
   omega
 have e := prod_map p a l
 rw [prod_perm hperm] at e
 have hl : l.length = p - 1 := by simp [l]
 rw [hl] at e
 have e2 : prod l * 1 % p = prod l * a ^ (p - 1) % p := by rw [Nat.mul_one, e, Nat.mul_comm]
 have := mul_cancel hp (prod_coprime hp l hnd) e2
 rw [Nat.mod_eq_of_lt (show 1 < p by omega)] at this
 exact this.symm
theorem pow_mod' (a n p : Nat) : (a % p) ^ n % p = a ^ n % p := (Nat.pow_mod a n p).symm
theorem pow_gcd {r a : Nat} (hr : Prime r) (ha : ¬ r ∣ a) (x y : Nat) (hx : a ^ x % r = 1) (hy : a ^ y % r = 1) : a ^ Nat.gcd x y % r = 1 := by
 have h1 : 1 % r = 1 := Nat.mod_eq_of_lt hr.1
 induction x, y using Nat.gcd.induction with
 | H0 n => simpa using hy
 | H1 m n hm ih =>
  rw [Nat.gcd_rec]
  refine ih ?_ hx
  have e : a ^ n = (a ^ m) ^ (n / m) * a ^ (n % m) := by
   rw [← Nat.pow_mul, ← Nat.pow_add, Nat.div_add_mod]
  rw [e, Nat.mul_mod, Nat.pow_mod, hx, Nat.one_pow, h1, Nat.one_mul, Nat.mod_mod] at hy
  exact hy
/-- a to the power of n, modulo p: by squaring. -/
def powMod (p : Nat) : Nat → Nat → Nat → Nat → Nat
 | 0, _, _, acc => acc
 | f + 1, a, n, acc => powMod p f (a * a % p) (n / 2) (if n % 2 = 1 then acc * a % p else acc)
theorem powMod_eq (p : Nat) (f a n acc : Nat) (hn : n < 2 ^ f) (h : acc < p) : powMod p f a n acc = acc * a ^ n % p := by
 induction f generalizing a n acc with
 | zero =>
  have : n = 0 := by simpa using hn
  subst this
  simp [powMod, Nat.mod_eq_of_lt h]
 | succ f ih =>
  have hp : 0 < p := by omega
  have e : a ^ n = (a * a) ^ (n / 2) * a ^ (n % 2) := by
   rw [← Nat.pow_two, ← Nat.pow_mul, ← Nat.pow_add, Nat.div_add_mod]
  rw [powMod, ih _ _ _ (by rw [Nat.pow_succ] at hn; omega) (by split; exact Nat.mod_lt _ hp; exact h)]
  rw [Nat.mul_mod, Nat.pow_mod (a * a % p), Nat.mod_mod, ← Nat.pow_mod, ← Nat.mul_mod]
  split
  ·rename_i h1
   rw [h1] at e
   rw [Nat.mod_mul_mod, e, Nat.pow_one, Nat.mul_assoc, Nat.mul_comm a]
  ·rename_i h1
   have h0 : n % 2 = 0 := by omega
   rw [h0, Nat.pow_zero, Nat.mul_one] at e
   rw [e]
/-- A number without a divisor up to its root is prime. -/
theorem prime_of_small {n : Nat} (h2 : 2 ≤ n) (h : ∀ r, Prime r → r ∣ n → n < r * r) : Prime n := by
 refine ⟨h2, fun m hm => ?_⟩
 obtain ⟨k, hk⟩ := hm
 by_cases h1 : m = 1
 ·exact .inl h1
 by_cases hk1 : k = 1
 ·exact .inr (by rw [hk, hk1, Nat.mul_one])
 exfalso
 have hex : ∀ d, 2 ≤ d → ∃ r, Prime r ∧ r ∣ d := by
  intro d
  induction d using Nat.strongRecOn with
  | _ d ih =>
   intro hd
   by_cases hc : ∃ m, m ∣ d ∧ m ≠ 1 ∧ m ≠ d
   ·obtain ⟨m, hm, h1, h2⟩ := hc
    have hle := Nat.le_of_dvd (by omega) hm
    have h0 : m ≠ 0 := by rintro rfl; have := Nat.zero_dvd.1 hm; omega
    obtain ⟨r, hr, hrm⟩ := ih m (by omega) (by omega)
    exact ⟨r, hr, Nat.dvd_trans hrm hm⟩
   ·refine ⟨d, ⟨hd, fun m hm => ?_⟩, Nat.dvd_refl d⟩
    by_cases h1 : m = 1
    ·exact .inl h1
    ·exact .inr (Classical.byContradiction fun h2 => hc ⟨m, hm, h1, h2⟩)
 have hm0 : m ≠ 0 := by rintro rfl; rw [Nat.zero_mul] at hk; omega
 have hk0 : k ≠ 0 := by rintro rfl; rw [Nat.mul_zero] at hk; omega
 rcases Nat.le_total m k with hmk | hmk
 ·obtain ⟨r, hr, hrm⟩ := hex m (by omega)
  have h3 := h r hr (Nat.dvd_trans hrm ⟨k, hk⟩)
  have h4 := Nat.le_of_dvd (by omega) hrm
  have h5 : r * r ≤ m * k := Nat.mul_le_mul h4 (Nat.le_trans h4 hmk)
  omega
 ·obtain ⟨r, hr, hrm⟩ := hex k (by omega)
  have h3 := h r hr (Nat.dvd_trans hrm ⟨m, by rw [hk, Nat.mul_comm]⟩)
  have h4 := Nat.le_of_dvd (by omega) hrm
  have h5 : r * r ≤ m * k := Nat.mul_le_mul (Nat.le_trans h4 hmk) h4
  omega
/-- Trial division. -/
theorem prime_of_trial {n b : Nat} (h2 : 2 ≤ n) (hb : n < (b + 2) * (b + 2)) (h : (List.range b).all (fun i => decide (n % (i + 2) ≠ 0)) = true) : Prime n := by
 refine prime_of_small h2 fun r hr hrn => ?_
 apply Classical.byContradiction
 intro hc
 have hr2 := hr.1
 have hrb : r < b + 2 := by
  apply Classical.byContradiction
  intro hge
  have : (b + 2) * (b + 2) ≤ r * r := Nat.mul_le_mul (by omega) (by omega)
  omega
 rw [List.all_eq_true] at h
 have := h (r - 2) (List.mem_range.2 (by omega))
 rw [show r - 2 + 2 = r by omega] at this
 exact (of_decide_eq_true this) (Nat.mod_eq_zero_of_dvd hrn)
/-- What a prime q of n - 1 tells of n's divisors. -/
theorem pock {n q a m r : Nat} (hq : Prime q) (hn : n - 1 = q * m) (hr : Prime r) (hrn : r ∣ n) (h1 : a ^ (n - 1) % n = 1) (hg : Nat.gcd (a ^ m % n + (n - 1)) n = 1) (hn2 : 2 ≤ n) : q ∣ r - 1 := by
 apply Classical.byContradiction
 intro hc
 have hr2 := hr.1
 have e1 : a ^ (n - 1) % r = 1 := by
  have := congrArg (· % r) h1
  simp only [Nat.mod_mod_of_dvd _ hrn, Nat.mod_eq_of_lt (show 1 < r by omega)] at this
  exact this
 have ha : ¬ r ∣ a := by
  intro hra
  have h0 : n - 1 ≠ 0 := by omega
  have : r ∣ a ^ (n - 1) := by
   obtain ⟨k, hk⟩ : ∃ k, n - 1 = k + 1 := ⟨n - 2, by omega⟩
   rw [hk, Nat.pow_succ]
   exact Nat.dvd_trans hra (Nat.dvd_mul_left _ _)
  rw [Nat.mod_eq_zero_of_dvd this] at e1
  omega
 have e2 := pow_gcd hr ha (n - 1) (r - 1) e1 (fermat hr ha)
 have hco := hq.coprime hc
 have hd : Nat.gcd (n - 1) (r - 1) ∣ m := by
  have h3 : Nat.gcd (n - 1) (r - 1) ∣ q * m := hn ▸ Nat.gcd_dvd_left _ _
  have h4 : Nat.Coprime (Nat.gcd (n - 1) (r - 1)) q := (Nat.Coprime.coprime_dvd_right (Nat.gcd_dvd_right (n - 1) (r - 1)) hco).symm
  exact h4.dvd_of_dvd_mul_left h3
 have e3 : a ^ m % r = 1 := by
  obtain ⟨k, hk⟩ := hd
  rw [hk, Nat.pow_mul, Nat.pow_mod, e2, Nat.one_pow, Nat.mod_eq_of_lt (by omega)]
 have e4 : r ∣ a ^ m % n + (n - 1) := by
  have h5 : (a ^ m % n) % r = 1 := by rw [Nat.mod_mod_of_dvd _ hrn, e3]
  have h6 := Nat.div_add_mod (a ^ m % n) r
  rw [h5] at h6
  rw [show a ^ m % n + (n - 1) = r * (a ^ m % n / r) + n by omega]
  exact Nat.dvd_add (Nat.dvd_mul_right _ _) hrn
 have : r ∣ Nat.gcd (a ^ m % n + (n - 1)) n := Nat.dvd_gcd e4 hrn
 rw [hg] at this
 have := Nat.le_of_dvd (by decide) this
 omega
theorem pock1 {n q a m f : Nat} (hq : Prime q) (hn : n - 1 = q * m) (hn2 : 2 ≤ n) (hf : n < 2 ^ f) (hb : n < (q + 1) * (q + 1))
  (h1 : powMod n f a (n - 1) 1 = 1) (hg : Nat.gcd (powMod n f a m 1 + (n - 1)) n = 1) : Prime n := by
 have hm : m ≤ n - 1 := by
  rw [hn]; exact Nat.le_mul_of_pos_left _ (by have := hq.1; omega)
 rw [powMod_eq n f a (n - 1) 1 (by omega) (by omega), Nat.one_mul] at h1
 rw [powMod_eq n f a m 1 (by omega) (by omega), Nat.one_mul] at hg
 refine prime_of_small hn2 fun r hr hrn => ?_
 have hd := pock hq hn hr hrn h1 hg hn2
 have hle := Nat.le_of_dvd (by have := hr.1; omega) hd
 have hr2 := hr.1
 have hqr : q + 1 ≤ r := by omega
 have : (q + 1) * (q + 1) ≤ r * r := Nat.mul_le_mul hqr hqr
 omega
theorem pock2 {n q s a b m k f : Nat} (hq : Prime q) (hs : Prime s) (hqs : q ≠ s) (hn : n - 1 = q * m) (hk : n - 1 = s * k) (hn2 : 2 ≤ n) (hf : n < 2 ^ f) (hb : n < (q * s + 1) * (q * s + 1))
  (h1 : powMod n f a (n - 1) 1 = 1) (hg : Nat.gcd (powMod n f a m 1 + (n - 1)) n = 1) (h2 : powMod n f b (n - 1) 1 = 1) (hh : Nat.gcd (powMod n f b k 1 + (n - 1)) n = 1) : Prime n := by
 have hm : m ≤ n - 1 := by
  rw [hn]; exact Nat.le_mul_of_pos_left _ (by have := hq.1; omega)
 have hk' : k ≤ n - 1 := by
  rw [hk]; exact Nat.le_mul_of_pos_left _ (by have := hs.1; omega)
 rw [powMod_eq n f a (n - 1) 1 (by omega) (by omega), Nat.one_mul] at h1
 rw [powMod_eq n f b (n - 1) 1 (by omega) (by omega), Nat.one_mul] at h2
 rw [powMod_eq n f a m 1 (by omega) (by omega), Nat.one_mul] at hg
 rw [powMod_eq n f b k 1 (by omega) (by omega), Nat.one_mul] at hh
 refine prime_of_small hn2 fun r hr hrn => ?_
 have hd1 := pock hq hn hr hrn h1 hg hn2
 have hd2 := pock hs hk hr hrn h2 hh hn2
 have hco : Nat.Coprime q s := hq.coprime fun h => by
  rcases hs.2 q h with h | h
  ·have := hq.1; omega
  ·exact hqs h
 have hd := hco.mul_dvd_of_dvd_of_dvd hd1 hd2
 have hle := Nat.le_of_dvd (by have := hr.1; omega) hd
 have hr2 := hr.1
 have hqr : q * s + 1 ≤ r := by omega
 have : (q * s + 1) * (q * s + 1) ≤ r * r := Nat.mul_le_mul hqr hqr
 omega
set_option maxRecDepth 100000 in
theorem prime_4 : Prime 1919519569386763 :=
 pock2 (q := 8574133) (s := 47) (a := 2) (b := 2) (m := 1919519569386762 / 8574133) (k := 1919519569386762 / 47) (f := 51)
  (prime_of_trial (b := 2928) (by decide) (by decide) (by decide +kernel)) (prime_of_trial (b := 6) (by decide) (by decide) (by decide +kernel)) (by decide)
  (by decide +kernel) (by decide +kernel) (by decide) (by decide +kernel) (by decide +kernel) (by decide +kernel) (by decide +kernel) (by decide +kernel) (by decide +kernel)
theorem prime_3 : Prime 31757755568855353 :=
 pock2 (q := 430751) (s := 4153) (a := 2) (b := 2) (m := 31757755568855352 / 430751) (k := 31757755568855352 / 4153) (f := 55)
  (prime_of_trial (b := 656) (by decide) (by decide) (by decide +kernel)) (prime_of_trial (b := 64) (by decide) (by decide) (by decide +kernel)) (by decide)
  (by decide +kernel) (by decide +kernel) (by decide) (by decide +kernel) (by decide +kernel) (by decide +kernel) (by decide +kernel) (by decide +kernel) (by decide +kernel)
theorem prime_2 : Prime 75445702479781427272750846543864801 :=
 pock2 (q := 1919519569386763) (s := 75707) (a := 2) (b := 2) (m := 75445702479781427272750846543864800 / 1919519569386763) (k := 75445702479781427272750846543864800 / 75707) (f := 116)
  prime_4 (prime_of_trial (b := 275) (by decide) (by decide) (by decide +kernel)) (by decide)
  (by decide +kernel) (by decide +kernel) (by decide) (by decide +kernel) (by decide +kernel) (by decide +kernel) (by decide +kernel) (by decide +kernel) (by decide +kernel)
theorem prime_1 : Prime 74058212732561358302231226437062788676166966415465897661863160754340907 :=
 pock2 (q := 75445702479781427272750846543864801) (s := 31757755568855353) (a := 2) (b := 2) (m := 74058212732561358302231226437062788676166966415465897661863160754340906 / 75445702479781427272750846543864801) (k := 74058212732561358302231226437062788676166966415465897661863160754340906 / 31757755568855353) (f := 236)
  prime_2 prime_3 (by decide)
  (by decide +kernel) (by decide +kernel) (by decide) (by decide +kernel) (by decide +kernel) (by decide +kernel) (by decide +kernel) (by decide +kernel) (by decide +kernel)
theorem prime_P : Prime P :=
 pock1 (q := 74058212732561358302231226437062788676166966415465897661863160754340907) (a := 2) (m := (P - 1) / 74058212732561358302231226437062788676166966415465897661863160754340907) (f := 255)
  prime_1 (by decide +kernel) (by decide) (by decide +kernel) (by decide +kernel) (by decide +kernel) (by decide +kernel)
end F5
end

section
namespace F5
theorem P_pos : 0 < P := by decide
/-- a number to a power, modulo P. -/
def pw (n e : Nat) : Nat := n ^ e % P
theorem pw_lt (n e : Nat) : pw n e < P := Nat.mod_lt _ P_pos
theorem pw_one {n : Nat} (h : n < P) : pw n 1 = n := by rw [pw, Nat.pow_one, Nat.mod_eq_of_lt h]
theorem pw_add (n a b : Nat) : pw n a * pw n b % P = pw n (a + b) := by rw [pw, pw, pw, ← Nat.mul_mod, ← Nat.pow_add]
theorem pw_next {n : Nat} (h : n < P) (a : Nat) : pw n a * n % P = pw n (a + 1) := by
 have e := pw_add n a 1
 rwa [pw_one h] at e
theorem pw_pw (n a b : Nat) : pw (pw n a) b = pw n (a * b) := by rw [pw, pw, pw, pow_mod', Nat.pow_mul]
theorem sub_self {n : Nat} (h : n < P) : (n + P - n) % P = 0 := by rw [Nat.add_sub_cancel_left, Nat.mod_self]
theorem nd_of_pos {n : Nat} (h0 : n ≠ 0) (h : n < P) : ¬ P ∣ n := fun hd => by
 have := Nat.le_of_dvd (by omega) hd
 omega
/-- a number times its inverse. -/
theorem inv_mul {n : Nat} (h0 : n ≠ 0) (h : n < P) : n * pw n (P - 2) % P = 1 := by
 rw [Nat.mul_comm, pw_next h, show P - 2 + 1 = P - 1 from rfl, pw]
 exact fermat prime_P (nd_of_pos h0 h)
/-- turn times itself is p - 1. -/
def I4 : Nat := 19681161376707505956807079304988542015446066515923890162744021073123829784752
theorem I4_lt : I4 < P := by decide
theorem I4_sq : I4 * I4 % P = P - 1 := by decide
/-- E is (p + 3) / 8. -/
def E8 : Nat := 2 ^ 252 - 2
theorem E8_twice : E8 + E8 = (P - 1) / 4 + 1 := by decide +kernel
def root1 (n : Nat) : Nat := if pw n E8 * pw n E8 % P = n then pw n E8 else pw n E8 * I4 % P
theorem root1_lt (n : Nat) : root1 n < P := by
 unfold root1
 split
 ·exact pw_lt _ _
 ·exact Nat.mod_lt _ P_pos
def hasRoot (n : Nat) : Prop := root1 n * root1 n % P = n
instance (n : Nat) : Decidable (hasRoot n) := inferInstanceAs (Decidable (_ = _))
/-- the even one of the two roots; 0, if there is none. -/
def root (n : Nat) : Nat := if hasRoot n then (if root1 n % 2 = 1 then P - root1 n else root1 n) else 0
theorem root_lt (n : Nat) : root n < P := by
 have h := root1_lt n
 unfold root
 split
 ·split
  ·have : root1 n ≠ 0 := by intro e; rename_i hodd; rw [e] at hodd; omega
   have := P_pos
   omega
  ·exact h
 ·exact P_pos
theorem root_even (n : Nat) : root n % 2 = 0 := by
 have h := root1_lt n
 unfold root
 split
 ·split
  ·unfold P at *; omega
  ·omega
 ·rfl
theorem neg_sq {a : Nat} (h : a ≤ P) : (P - a) * (P - a) % P = a * a % P := by
 have h2 : a * a ≤ P * a := Nat.mul_le_mul_right a h
 have e : (P - a) * (P - a) + P * (2 * a) = a * a + P * P := by
  have e1 : P = (P - a) + a := by omega
  generalize P - a = z at e1
  rw [e1]
  simp only [Nat.mul_add, Nat.add_mul, Nat.two_mul, Nat.mul_comm a z]
  omega
 have := congrArg (· % P) e
 simp only [Nat.add_mul_mod_self_left] at this
 exact this
theorem root_sq {n : Nat} (h : hasRoot n) : root n * root n % P = n := by
 unfold root
 rw [if_pos h]
 split
 ·rw [neg_sq (Nat.le_of_lt (root1_lt n))]; exact h
 ·exact h
/-- two numbers with one square are the same, or each other's other side. -/
theorem sq_inj {a b : Nat} (ha : a < P) (hb : b < P) (h : a * a % P = b * b % P) : a = b ∨ (a + b) % P = 0 := by
 have key : ∀ a b, a ≤ b → b < P → a * a % P = b * b % P → a = b ∨ (a + b) % P = 0 := by
  intro a b hab hb h
  rw [mod_eq_sub (Nat.mul_le_mul hab hab)] at h
  have e : b * b - a * a = (b - a) * (a + b) := by
   have e1 : b = (b - a) + a := by omega
   generalize b - a = z at e1
   subst e1
   have : (z + a) * (z + a) = z * (a + (z + a)) + a * a := by
    simp only [Nat.mul_add, Nat.add_mul, Nat.mul_comm a z]; omega
   omega
  rw [e] at h
  rcases prime_P.dvd_mul h with h1 | h1
  ·left
   apply Classical.byContradiction
   intro hne
   have := Nat.le_of_dvd (by omega) h1
   omega
  ·right; exact Nat.mod_eq_zero_of_dvd h1
 rcases Nat.le_total a b with hab | hab
 ·exact key a b hab hb h
 ·rcases key b a hab ha h.symm with h1 | h1
  ·exact .inl h1.symm
  ·right; rw [Nat.add_comm]; exact h1
theorem pw_of_zero (e : Nat) (h : e ≠ 0) : pw 0 e = 0 := by
 cases e with
 | zero => exact absurd rfl h
 | succ k => unfold pw; rw [Nat.pow_succ, Nat.mul_zero, Nat.zero_mod]
theorem root1_zero : root1 0 = 0 := by
 have h := pw_of_zero E8 (by decide)
 unfold root1
 rw [h]
 simp
theorem root_of_sq {x : Nat} (hx : x < P) : hasRoot (x * x % P) ∧ (root (x * x % P) = x ∨ (root (x * x % P) + x) % P = 0) := by
 have hs : x * x % P < P := Nat.mod_lt _ P_pos
 have hs2 : x * x % P = pw x 2 := by rw [pw, Nat.pow_two]
 have hh : hasRoot (x * x % P) := by
  by_cases h0 : x = 0
  ·subst h0
   rw [show 0 * 0 % P = 0 from Nat.zero_mod P]
   unfold hasRoot
   rw [root1_zero, Nat.zero_mul, Nat.zero_mod]
  ·-- r is s to the power of E8; its square is s times x to the power of (p - 1) / 2
   have hr : pw (x * x % P) E8 * pw (x * x % P) E8 % P = (x * x % P) * pw x ((P - 1) / 2) % P := by
    rw [pw_add, E8_twice, ← pw_next hs, hs2, pw_pw, Nat.mul_comm, show 2 * ((P - 1) / 4) = (P - 1) / 2 by decide +kernel]
   have hq : pw x ((P - 1) / 2) * pw x ((P - 1) / 2) % P = 1 * 1 % P := by
    rw [pw_add, show (P - 1) / 2 + (P - 1) / 2 = P - 1 by decide +kernel, pw, fermat prime_P (nd_of_pos h0 hx)]
    decide
   rcases sq_inj (pw_lt _ _) (show 1 < P by decide) hq with h1 | h1
   ·rw [h1, Nat.mul_one, Nat.mod_mod] at hr
    unfold hasRoot root1
    rw [if_pos hr, hr]
   ·have h2 : pw x ((P - 1) / 2) = P - 1 := by
     have := pw_lt x ((P - 1) / 2)
     generalize pw x ((P - 1) / 2) = z at *
     have hz : z + 1 = P := by
      apply Classical.byContradiction
      intro hne
      rw [Nat.mod_eq_of_lt (by omega)] at h1
      omega
     omega
    by_cases h3 : pw (x * x % P) E8 * pw (x * x % P) E8 % P = x * x % P
    ·unfold hasRoot root1
     rw [if_pos h3, h3]
    ·unfold hasRoot root1
     rw [if_neg h3]
     rw [h2] at hr
     generalize pw (x * x % P) E8 = r at *
     generalize x * x % P = s at *
     rw [← Nat.mul_mod, show r * I4 * (r * I4) = (r * r) * (I4 * I4) by simp only [Nat.mul_assoc, Nat.mul_left_comm], Nat.mul_mod, hr, I4_sq]
     have : (s * (P - 1) % P) * (P - 1) % P = s * ((P - 1) * (P - 1)) % P := by rw [Nat.mod_mul_mod, Nat.mul_assoc]
     rw [this, Nat.mul_mod, show (P - 1) * (P - 1) % P = 1 by decide, Nat.mul_one, Nat.mod_mod, Nat.mod_eq_of_lt hs]
 refine ⟨hh, sq_inj (root_lt _) hx (root_sq hh)⟩
end F5
end

section
namespace F5
/-! Identities that hold modulo any number. -/
section
variable {n : Nat} [NeZero n]
theorem g_one {a : Fin n} (h : 1 * a = 1) : a = 1 := by grind
theorem g_cancel {a b c f : Fin n} (k : c * f = 1) (h : a * c = b * c) : a = b := by grind
theorem g_def {a d b f : Fin n} (k : a * f = 1) (h : a * d = b) : d = b * f := by grind
theorem g_sq1 {a b d f : Fin n} (h : a * a = d * (b * b)) (k : b * f = 1) : (a * f) * (a * f) = d := by grind
theorem g_sq2 {a d : Fin n} (h : a * a = d * (0 * 0)) : a * a = 0 := by grind
theorem g_compA {x1 y1 x2 y2 e i d : Fin n} (h1 : y1 * y1 - x1 * x1 = 1 + d * (x1 * x1) * (y1 * y1)) (h2 : y2 * y2 - x2 * x2 = 1 + d * (x2 * x2) * (y2 * y2)) (he : e * e = 1) (h : d * (x1 * x2 * y1 * y2) = e) (hi : i * i = 0 - 1) :
  (i * x1 + e * y1) * (i * x1 + e * y1) = d * ((x1 * y1 * (i * x2 + y2)) * (x1 * y1 * (i * x2 + y2))) := by grind
theorem g_compB {x1 y1 x2 y2 e i d : Fin n} (h1 : y1 * y1 - x1 * x1 = 1 + d * (x1 * x1) * (y1 * y1)) (h2 : y2 * y2 - x2 * x2 = 1 + d * (x2 * x2) * (y2 * y2)) (he : e * e = 1) (h : d * (x1 * x2 * y1 * y2) = e) (hi : i * i = 0 - 1) :
  (i * x1 - e * y1) * (i * x1 - e * y1) = d * ((x1 * y1 * (i * x2 - y2)) * (x1 * y1 * (i * x2 - y2))) := by grind
theorem g_e0 {e : Fin n} (he : e * e = 1) (h : e = 0) : (1 : Fin n) = 0 := by grind
theorem g_xy0 {x1 y1 x2 y2 e d : Fin n} (h : d * (x1 * x2 * y1 * y2) = e) (h0 : x1 * y1 = 0) : e = 0 := by grind
theorem g_y0 {x1 y1 x2 y2 e d : Fin n} (h : d * (x1 * x2 * y1 * y2) = e) (h0 : y2 = 0) : e = 0 := by grind
theorem g_two {x y i : Fin n} (h : i * x + y = 0) (k : i * x - y = 0) : 2 * y = 0 := by grind
theorem g_m1 : (0 - 1 : Fin n) * (0 - 1) = 1 := by grind
theorem g_p1 : (1 : Fin n) * 1 = 1 := by grind
theorem g_den1 {t : Fin n} (h : 1 + t = 0) : t = 0 - 1 := by grind
theorem g_den2 {t : Fin n} (h : 1 - t = 0) : t = 1 := by grind
theorem g_clo0 (x1 y1 x2 y2 d : Fin n) (e1 : y1 * y1 - x1 * x1 = 1 + d * (x1 * x1) * (y1 * y1)) (e2 : y2 * y2 - x2 * x2 = 1 + d * (x2 * x2) * (y2 * y2)) :
  ((y1 * y2 + x1 * x2) * (1 + d * (x1 * x2 * y1 * y2))) * ((y1 * y2 + x1 * x2) * (1 + d * (x1 * x2 * y1 * y2))) - ((x1 * y2 + x2 * y1) * (1 - d * (x1 * x2 * y1 * y2))) * ((x1 * y2 + x2 * y1) * (1 - d * (x1 * x2 * y1 * y2)))
  = ((1 + d * (x1 * x2 * y1 * y2)) * (1 - d * (x1 * x2 * y1 * y2))) * ((1 + d * (x1 * x2 * y1 * y2)) * (1 - d * (x1 * x2 * y1 * y2))) + d * ((x1 * y2 + x2 * y1) * (x1 * y2 + x2 * y1)) * ((y1 * y2 + x1 * x2) * (y1 * y2 + x1 * x2)) := by grind
theorem g_clo1 {N M D1 D2 u v d : Fin n} (u1 : D1 * u = 1) (v1 : D2 * v = 1) (h : (M * D1) * (M * D1) - (N * D2) * (N * D2) = (D1 * D2) * (D1 * D2) + d * (N * N) * (M * M)) :
  (M * v) * (M * v) - (N * u) * (N * u) = 1 + d * ((N * u) * (N * u)) * ((M * v) * (M * v)) := by grind
theorem g_neg {x y d : Fin n} (h : y * y - x * x = 1 + d * (x * x) * (y * y)) : y * y - (0 - x) * (0 - x) = 1 + d * ((0 - x) * (0 - x)) * (y * y) := by grind
theorem g_nil {d : Fin n} : (1 : Fin n) * 1 - 0 * 0 = 1 + d * (0 * 0) * (1 * 1) := by grind
theorem g_c1 (x1 y1 x2 y2 : Fin n) : x2 * x1 * y2 * y1 = x1 * x2 * y1 * y2 := by grind
theorem g_c2 (x1 y1 x2 y2 : Fin n) : x2 * y1 + x1 * y2 = x1 * y2 + x2 * y1 := by grind
theorem g_c3 (x1 y1 x2 y2 : Fin n) : y2 * y1 + x2 * x1 = y1 * y2 + x1 * x2 := by grind
theorem g_z1 (x y d : Fin n) : 1 + d * (x * 0 * y * 1) = 1 := by grind
theorem g_z2 (x y d : Fin n) : 1 - d * (x * 0 * y * 1) = 1 := by grind
theorem g_z3 (x y : Fin n) : (x * 1 + 0 * y) * 1 = x := by grind
theorem g_z4 (x y : Fin n) : (y * 1 + x * 0) * 1 = y := by grind
theorem g_n1 (x y u : Fin n) : (x * y + (0 - x) * y) * u = 0 := by grind
theorem g_n2 {x y d : Fin n} (h : y * y - x * x = 1 + d * (x * x) * (y * y)) : y * y + x * (0 - x) = 1 - d * (x * (0 - x) * y * y) := by grind
/-- the sums put together in two orders. -/
theorem g_assX (x1 y1 x2 y2 x3 y3 d : Fin n) (e1 : y1 * y1 - x1 * x1 = 1 + d * (x1 * x1) * (y1 * y1)) (e2 : y2 * y2 - x2 * x2 = 1 + d * (x2 * x2) * (y2 * y2)) (e3 : y3 * y3 - x3 * x3 = 1 + d * (x3 * x3) * (y3 * y3)) :
  ((x1 * y2 + x2 * y1) * (1 - d * (x1 * x2 * y1 * y2)) * y3 + x3 * ((y1 * y2 + x1 * x2) * (1 + d * (x1 * x2 * y1 * y2)))) * ((1 + d * (x2 * x3 * y2 * y3)) * (1 - d * (x2 * x3 * y2 * y3)) + d * (x1 * ((x2 * y3 + x3 * y2) * (y1 * (y2 * y3 + x2 * x3)))))
  = (x1 * ((y2 * y3 + x2 * x3) * (1 + d * (x2 * x3 * y2 * y3))) + ((x2 * y3 + x3 * y2) * (1 - d * (x2 * x3 * y2 * y3))) * y1) * ((1 + d * (x1 * x2 * y1 * y2)) * (1 - d * (x1 * x2 * y1 * y2)) + d * ((x1 * y2 + x2 * y1) * (x3 * ((y1 * y2 + x1 * x2) * y3)))) := by grind
theorem g_assY (x1 y1 x2 y2 x3 y3 d : Fin n) (e1 : y1 * y1 - x1 * x1 = 1 + d * (x1 * x1) * (y1 * y1)) (e2 : y2 * y2 - x2 * x2 = 1 + d * (x2 * x2) * (y2 * y2)) (e3 : y3 * y3 - x3 * x3 = 1 + d * (x3 * x3) * (y3 * y3)) :
  ((y1 * y2 + x1 * x2) * (1 + d * (x1 * x2 * y1 * y2)) * y3 + (x1 * y2 + x2 * y1) * (1 - d * (x1 * x2 * y1 * y2)) * x3) * ((1 + d * (x2 * x3 * y2 * y3)) * (1 - d * (x2 * x3 * y2 * y3)) - d * (x1 * ((x2 * y3 + x3 * y2) * (y1 * (y2 * y3 + x2 * x3)))))
  = (y1 * ((y2 * y3 + x2 * x3) * (1 + d * (x2 * x3 * y2 * y3))) + x1 * ((x2 * y3 + x3 * y2) * (1 - d * (x2 * x3 * y2 * y3)))) * ((1 + d * (x1 * x2 * y1 * y2)) * (1 - d * (x1 * x2 * y1 * y2)) - d * ((x1 * y2 + x2 * y1) * (x3 * ((y1 * y2 + x1 * x2) * y3)))) := by grind
/-- from sums of fractions to the fractions of the sums. -/
theorem g_fracL {N M D1 D2 u v x3 y3 w d : Fin n} (u1 : D1 * u = 1) (v1 : D2 * v = 1) (hw : (1 + d * (N * u * x3 * (M * v) * y3)) * w = 1) :
  ((N * u * y3 + x3 * (M * v)) * w) * (D1 * D2 + d * (N * (x3 * (M * y3)))) = N * D2 * y3 + x3 * (M * D1) := by grind
theorem g_fracR {N M D1 D2 u v x1 y1 w d : Fin n} (u1 : D1 * u = 1) (v1 : D2 * v = 1) (hw : (1 + d * (x1 * (N * u) * y1 * (M * v))) * w = 1) :
  ((x1 * (M * v) + N * u * y1) * w) * (D1 * D2 + d * (x1 * (N * (y1 * M)))) = x1 * (M * D1) + N * D2 * y1 := by grind
theorem g_fracLY {N M D1 D2 u v x3 y3 w d : Fin n} (u1 : D1 * u = 1) (v1 : D2 * v = 1) (hw : (1 - d * (N * u * x3 * (M * v) * y3)) * w = 1) :
  ((M * v * y3 + N * u * x3) * w) * (D1 * D2 - d * (N * (x3 * (M * y3)))) = M * D1 * y3 + N * D2 * x3 := by grind
theorem g_fracRY {N M D1 D2 u v x1 y1 w d : Fin n} (u1 : D1 * u = 1) (v1 : D2 * v = 1) (hw : (1 - d * (x1 * (N * u) * y1 * (M * v))) * w = 1) :
  ((y1 * (M * v) + x1 * (N * u)) * w) * (D1 * D2 - d * (x1 * (N * (y1 * M)))) = y1 * (M * D1) + x1 * (N * D2) := by grind
theorem g_denL {N M D1 D2 u v x3 y3 w d : Fin n} (u1 : D1 * u = 1) (v1 : D2 * v = 1) (hw : (1 + d * (N * u * x3 * (M * v) * y3)) * w = 1) (h0 : D1 * D2 + d * (N * (x3 * (M * y3))) = 0) : (1 : Fin n) = 0 := by
 have h : (D1 * D2 + d * (N * (x3 * (M * y3)))) * (u * v) = 1 + d * (N * u * x3 * (M * v) * y3) := by grind
 rw [h0] at h
 grind
theorem g_denR {N M D1 D2 u v x1 y1 w d : Fin n} (u1 : D1 * u = 1) (v1 : D2 * v = 1) (hw : (1 + d * (x1 * (N * u) * y1 * (M * v))) * w = 1) (h0 : D1 * D2 + d * (x1 * (N * (y1 * M))) = 0) : (1 : Fin n) = 0 := by
 have h : (D1 * D2 + d * (x1 * (N * (y1 * M)))) * (u * v) = 1 + d * (x1 * (N * u) * y1 * (M * v)) := by grind
 rw [h0] at h
 grind
theorem g_denLY {N M D1 D2 u v x3 y3 w d : Fin n} (u1 : D1 * u = 1) (v1 : D2 * v = 1) (hw : (1 - d * (N * u * x3 * (M * v) * y3)) * w = 1) (h0 : D1 * D2 - d * (N * (x3 * (M * y3))) = 0) : (1 : Fin n) = 0 := by
 have h : (D1 * D2 - d * (N * (x3 * (M * y3)))) * (u * v) = 1 - d * (N * u * x3 * (M * v) * y3) := by grind
 rw [h0] at h
 grind
theorem g_denRY {N M D1 D2 u v x1 y1 w d : Fin n} (u1 : D1 * u = 1) (v1 : D2 * v = 1) (hw : (1 - d * (x1 * (N * u) * y1 * (M * v))) * w = 1) (h0 : D1 * D2 - d * (x1 * (N * (y1 * M))) = 0) : (1 : Fin n) = 0 := by
 have h : (D1 * D2 - d * (x1 * (N * (y1 * M)))) * (u * v) = 1 - d * (x1 * (N * u) * y1 * (M * v)) := by grind
 rw [h0] at h
 grind
theorem g_cross {X Y N1 N2 D1 D2 : Fin n} (h1 : X * D1 = N1) (h2 : Y * D2 = N2) (h : N1 * D2 = N2 * D1) : X * (D1 * D2) = Y * (D1 * D2) := by grind
end
instance neP : NeZero P := ⟨by decide⟩
abbrev Fp := Fin P
theorem fp_ext {a b : Fp} (h : a.val = b.val) : a = b := Fin.ext h
theorem fp_mul (a b : Fp) : (a * b).val = a.val * b.val % P := Fin.val_mul a b
theorem fp_add (a b : Fp) : (a + b).val = (a.val + b.val) % P := Fin.val_add a b
theorem fp_zero : (0 : Fp).val = 0 := rfl
theorem fp_one : (1 : Fp).val = 1 := by decide
theorem fp_mul_zero {a b : Fp} (h : a * b = 0) : a = 0 ∨ b = 0 := by
 have h2 := congrArg Fin.val h
 rw [fp_mul, fp_zero] at h2
 have key : ∀ c : Fp, P ∣ c.val → c = 0 := fun c hc => by
  apply fp_ext
  rw [fp_zero]
  rcases Nat.eq_zero_or_pos c.val with h0 | h0
  ·exact h0
  ·have := Nat.le_of_dvd h0 hc
   have := c.isLt
   omega
 rcases prime_P.dvd_mul (Nat.dvd_of_mod_eq_zero h2) with h3 | h3
 ·exact .inl (key a h3)
 ·exact .inr (key b h3)
theorem fp_one_ne : (1 : Fp) ≠ 0 := by decide
/-- the inverse; of 0 it is 0. -/
def finv (a : Fp) : Fp := ⟨pw a.val (P - 2), pw_lt _ _⟩
theorem mul_finv {a : Fp} (h : a ≠ 0) : a * finv a = 1 := by
 apply fp_ext
 rw [fp_mul, fp_one]
 exact inv_mul (fun e => h (fp_ext e)) a.isLt
theorem finv_one : finv 1 = 1 := by
 exact g_one (mul_finv fp_one_ne)
theorem fp_cancel {a b c : Fp} (hc : c ≠ 0) (h : a * c = b * c) : a = b := by
 exact g_cancel (mul_finv hc) h
def dE : Fp := ⟨37095705934669439343138083508754565189542113879843219016388785533085940283555, by decide⟩
theorem d_pow : pw dE.val ((P - 1) / 2) = P - 1 := by
 have h := powMod_eq P 255 dE.val ((P - 1) / 2) 1 (by decide) (by decide)
 rw [Nat.one_mul] at h
 rw [pw, ← h]
 decide +kernel
/-- d is no square. -/
theorem d_nonsq (s : Fp) : s * s ≠ dE := by
 intro h
 have h2 := congrArg Fin.val h
 rw [fp_mul] at h2
 have hs : s.val ≠ 0 := by
  intro e
  rw [e] at h2
  exact absurd h2 (by decide)
 have h3 : pw dE.val ((P - 1) / 2) = 1 := by
  rw [← h2, show s.val * s.val % P = pw s.val 2 by rw [pw, Nat.pow_two], pw_pw, show 2 * ((P - 1) / 2) = P - 1 by decide +kernel, pw]
  exact fermat prime_P (nd_of_pos hs s.isLt)
 rw [d_pow] at h3
 exact absurd h3 (by decide)
/-- a square is d times a square just if both are 0. -/
theorem d_sq {a b : Fp} (h : a * a = dE * (b * b)) : b = 0 ∧ a = 0 := by
 have hb : b = 0 := by
  apply Classical.byContradiction
  intro hb
  exact d_nonsq (a * finv b) (g_sq1 h (mul_finv hb))
 refine ⟨hb, ?_⟩
 rw [hb] at h
 rcases fp_mul_zero (g_sq2 h) with h3 | h3 <;> exact h3
def iE : Fp := ⟨I4, I4_lt⟩
theorem iE_sq : iE * iE = 0 - 1 := by decide +kernel
/-- on the curve. -/
def onC (x y : Fp) : Prop := y * y - x * x = 1 + dE * (x * x) * (y * y)
theorem complete {x1 y1 x2 y2 e : Fp} (h1 : onC x1 y1) (h2 : onC x2 y2) (he : e * e = 1) : dE * (x1 * x2 * y1 * y2) ≠ e := by
 intro h
 have he0 : e ≠ 0 := fun e0 => fp_one_ne (g_e0 he e0)
 have hxy : x1 * y1 ≠ 0 := fun h0 => he0 (g_xy0 h h0)
 obtain ⟨a1, _⟩ := d_sq (g_compA h1 h2 he h iE_sq)
 obtain ⟨b1, _⟩ := d_sq (g_compB h1 h2 he h iE_sq)
 rcases fp_mul_zero a1 with h3 | h3
 ·exact hxy h3
 ·rcases fp_mul_zero b1 with h4 | h4
  ·exact hxy h4
  ·rcases fp_mul_zero (g_two h3 h4) with h6 | h6
   ·exact absurd h6 (by decide)
   ·exact he0 (g_y0 h h6)
theorem den1 {x1 y1 x2 y2 : Fp} (h1 : onC x1 y1) (h2 : onC x2 y2) : 1 + dE * (x1 * x2 * y1 * y2) ≠ 0 := fun h => complete h1 h2 g_m1 (g_den1 h)
theorem den2 {x1 y1 x2 y2 : Fp} (h1 : onC x1 y1) (h2 : onC x2 y2) : 1 - dE * (x1 * x2 * y1 * y2) ≠ 0 := fun h => complete h1 h2 g_p1 (g_den2 h)
structure Pt where
 x : Fp
 y : Fp
 on : onC x y
theorem Pt.ext' {p q : Pt} (hx : p.x = q.x) (hy : p.y = q.y) : p = q := by
 obtain ⟨px, py, _⟩ := p
 obtain ⟨qx, qy, _⟩ := q
 simp only at hx hy
 subst hx hy
 rfl
def addX (x1 y1 x2 y2 : Fp) : Fp := (x1 * y2 + x2 * y1) * finv (1 + dE * (x1 * x2 * y1 * y2))
def addY (x1 y1 x2 y2 : Fp) : Fp := (y1 * y2 + x1 * x2) * finv (1 - dE * (x1 * x2 * y1 * y2))
theorem closed {x1 y1 x2 y2 : Fp} (h1 : onC x1 y1) (h2 : onC x2 y2) : onC (addX x1 y1 x2 y2) (addY x1 y1 x2 y2) :=
 g_clo1 (mul_finv (den1 h1 h2)) (mul_finv (den2 h1 h2)) (g_clo0 x1 y1 x2 y2 dE h1 h2)
def padd (p q : Pt) : Pt := ⟨addX p.x p.y q.x q.y, addY p.x p.y q.x q.y, closed p.on q.on⟩
def pzero : Pt := ⟨0, 1, g_nil⟩
def pneg (p : Pt) : Pt := ⟨0 - p.x, p.y, g_neg p.on⟩
theorem padd_comm (p q : Pt) : padd p q = padd q p := by
 apply Pt.ext'
 ·show addX p.x p.y q.x q.y = addX q.x q.y p.x p.y
  unfold addX
  rw [g_c1 p.x p.y q.x q.y, g_c2 p.x p.y q.x q.y]
 ·show addY p.x p.y q.x q.y = addY q.x q.y p.x p.y
  unfold addY
  rw [g_c1 p.x p.y q.x q.y, g_c3 p.x p.y q.x q.y]
theorem padd_zero (p : Pt) : padd p pzero = p := by
 apply Pt.ext'
 ·show addX p.x p.y 0 1 = p.x
  unfold addX
  rw [g_z1, finv_one]; exact g_z3 _ _
 ·show addY p.x p.y 0 1 = p.y
  unfold addY
  rw [g_z2, finv_one]; exact g_z4 _ _
theorem padd_neg (p : Pt) : padd p (pneg p) = pzero := by
 apply Pt.ext'
 ·exact g_n1 _ _ _
 ·show addY p.x p.y (0 - p.x) p.y = 1
  unfold addY
  rw [g_n2 p.on]
  exact mul_finv (den2 p.on (pneg p).on)
theorem padd_assoc (p q r : Pt) : padd (padd p q) r = padd p (padd q r) := by
 have u1 := mul_finv (den1 p.on q.on)
 have v1 := mul_finv (den2 p.on q.on)
 have u2 := mul_finv (den1 q.on r.on)
 have v2 := mul_finv (den2 q.on r.on)
 have wl := mul_finv (den1 (padd p q).on r.on)
 have wr := mul_finv (den1 p.on (padd q r).on)
 have zl := mul_finv (den2 (padd p q).on r.on)
 have zr := mul_finv (den2 p.on (padd q r).on)
 have ne : ∀ {a b : Fp}, a ≠ 0 → b ≠ 0 → a * b ≠ 0 := fun ha hb h => (fp_mul_zero h).elim ha hb
 apply Pt.ext'
 ·exact fp_cancel (ne (fun h => fp_one_ne (g_denL u1 v1 wl h)) (fun h => fp_one_ne (g_denR u2 v2 wr h))) (g_cross (g_fracL u1 v1 wl) (g_fracR u2 v2 wr) (g_assX _ _ _ _ _ _ dE p.on q.on r.on))
 ·exact fp_cancel (ne (fun h => fp_one_ne (g_denLY u1 v1 zl h)) (fun h => fp_one_ne (g_denRY u2 v2 zr h))) (g_cross (g_fracLY u1 v1 zl) (g_fracRY u2 v2 zr) (g_assY _ _ _ _ _ _ dE p.on q.on r.on))
end F5
end

section
namespace F5
/-! Multiples. -/
def pmul : Nat → Pt → Pt
 | 0, _ => pzero
 | n + 1, p => padd (pmul n p) p
theorem zero_padd (p : Pt) : padd pzero p = p := by rw [padd_comm]; exact padd_zero p
theorem pmul_add (a b : Nat) (p : Pt) : pmul (a + b) p = padd (pmul a p) (pmul b p) := by
 induction b with
 | zero => exact (padd_zero _).symm
 | succ b ih =>
  rw [← Nat.add_assoc, pmul, pmul, ih, padd_assoc]
theorem pmul_one (p : Pt) : pmul 1 p = p := zero_padd p
theorem pmul_zero_pt (a : Nat) : pmul a pzero = pzero := by
 induction a with
 | zero => rfl
 | succ a ih => rw [pmul, ih]; exact padd_zero _
theorem pmul_mul (a b : Nat) (p : Pt) : pmul (a * b) p = pmul b (pmul a p) := by
 induction b with
 | zero => rfl
 | succ b ih => rw [Nat.mul_succ, pmul_add, ih]; rfl
theorem pmul_mod {m : Nat} {p : Pt} (h : pmul m p = pzero) (a : Nat) : pmul a p = pmul (a % m) p := by
 conv => lhs; rw [← Nat.div_add_mod a m, pmul_add, pmul_mul, h, pmul_zero_pt, zero_padd]
/-! Sums by x, y and z. -/
section
variable {n : Nat} [NeZero n]
theorem g_repX {x1 y1 z1 x2 y2 z2 d u : Fin n} (u1 : (1 + d * (x1 * x2 * y1 * y2)) * u = 1) :
  (z1 * z2) * ((z1 * z2) * (z1 * z2) - d * ((x1 * z1) * (x2 * z2)) * ((y1 * z1) * (y2 * z2))) * ((x1 * z1 + y1 * z1) * (x2 * z2 + y2 * z2) - (x1 * z1) * (x2 * z2) - (y1 * z1) * (y2 * z2))
  = ((x1 * y2 + x2 * y1) * u) * (((z1 * z2) * (z1 * z2) - d * ((x1 * z1) * (x2 * z2)) * ((y1 * z1) * (y2 * z2))) * ((z1 * z2) * (z1 * z2) + d * ((x1 * z1) * (x2 * z2)) * ((y1 * z1) * (y2 * z2)))) := by grind
theorem g_repY {x1 y1 z1 x2 y2 z2 d v : Fin n} (v1 : (1 - d * (x1 * x2 * y1 * y2)) * v = 1) :
  (z1 * z2) * ((z1 * z2) * (z1 * z2) + d * ((x1 * z1) * (x2 * z2)) * ((y1 * z1) * (y2 * z2))) * ((y1 * z1) * (y2 * z2) + (x1 * z1) * (x2 * z2))
  = ((y1 * y2 + x1 * x2) * v) * (((z1 * z2) * (z1 * z2) - d * ((x1 * z1) * (x2 * z2)) * ((y1 * z1) * (y2 * z2))) * ((z1 * z2) * (z1 * z2) + d * ((x1 * z1) * (x2 * z2)) * ((y1 * z1) * (y2 * z2)))) := by grind
theorem g_repZ1 (x1 y1 z1 x2 y2 z2 d : Fin n) : (z1 * z2) * (z1 * z2) - d * ((x1 * z1) * (x2 * z2)) * ((y1 * z1) * (y2 * z2)) = ((z1 * z2) * (z1 * z2)) * (1 - d * (x1 * x2 * y1 * y2)) := by grind
theorem g_repZ2 (x1 y1 z1 x2 y2 z2 d : Fin n) : (z1 * z2) * (z1 * z2) + d * ((x1 * z1) * (x2 * z2)) * ((y1 * z1) * (y2 * z2)) = ((z1 * z2) * (z1 * z2)) * (1 + d * (x1 * x2 * y1 * y2)) := by grind
theorem g_div {x z f : Fin n} (h : z * f = 1) : (x * z) * f = x := by grind
theorem g_negz (x z : Fin n) : 0 - x * z = (0 - x) * z := by grind
theorem g_curve {x y d : Fin n} (h : y * y - x * x = 1 + d * (x * x) * (y * y)) : (d * (y * y) + 1) * (x * x) = y * y - 1 := by grind
theorem g_curve2 {x y d f : Fin n} (h : (d * (y * y) + 1) * f = 1) (k : x * x = (y * y - 1) * f) : y * y - x * x = 1 + d * (x * x) * (y * y) := by grind
theorem g_over {y d i : Fin n} (hi : i * i = 0 - 1) (h : d * (y * y) + 1 = 0) : i * i = d * (y * y) := by grind
theorem g_sqs {a b : Fin n} (h : a * a = b * b) : (a - b) * (a + b) = 0 := by grind
theorem g_sub0 {a b : Fin n} (h : a - b = 0) : a = b := by grind
theorem g_addn {a b : Fin n} (h : a + b = 0) : a = 0 - b := by grind
end
theorem fp_ne {a b : Fp} (ha : a ≠ 0) (hb : b ≠ 0) : a * b ≠ 0 := fun h => (fp_mul_zero h).elim ha hb
/-- x, y and z stand for a point. -/
def Rep (p : Pt) (X Y Z : Fp) : Prop := Z ≠ 0 ∧ X = p.x * Z ∧ Y = p.y * Z
theorem rep_zero : Rep pzero 0 1 1 := ⟨fp_one_ne, by show (0 : Fp) = 0 * 1; exact (Fin.zero_mul 1).symm, by show (1 : Fp) = 1 * 1; exact g_p1.symm⟩
theorem rep_add {p q : Pt} {X1 Y1 Z1 X2 Y2 Z2 : Fp} (h1 : Rep p X1 Y1 Z1) (h2 : Rep q X2 Y2 Z2) :
  Rep (padd p q) ((Z1 * Z2) * ((Z1 * Z2) * (Z1 * Z2) - dE * (X1 * X2) * (Y1 * Y2)) * ((X1 + Y1) * (X2 + Y2) - X1 * X2 - Y1 * Y2))
   ((Z1 * Z2) * ((Z1 * Z2) * (Z1 * Z2) + dE * (X1 * X2) * (Y1 * Y2)) * (Y1 * Y2 + X1 * X2))
   (((Z1 * Z2) * (Z1 * Z2) - dE * (X1 * X2) * (Y1 * Y2)) * ((Z1 * Z2) * (Z1 * Z2) + dE * (X1 * X2) * (Y1 * Y2))) := by
 obtain ⟨n1, rfl, rfl⟩ := h1
 obtain ⟨n2, rfl, rfl⟩ := h2
 have hz := fp_ne (fp_ne n1 n2) (fp_ne n1 n2)
 refine ⟨fp_ne ?_ ?_, g_repX (mul_finv (den1 p.on q.on)), g_repY (mul_finv (den2 p.on q.on))⟩
 ·rw [g_repZ1]; exact fp_ne hz (den2 p.on q.on)
 ·rw [g_repZ2]; exact fp_ne hz (den1 p.on q.on)
theorem rep_neg {p : Pt} {X Y Z : Fp} (h : Rep p X Y Z) : Rep (pneg p) (0 - X) Y Z := by
 obtain ⟨n, rfl, rfl⟩ := h
 exact ⟨n, g_negz _ _, rfl⟩
theorem rep_x {p : Pt} {X Y Z : Fp} (h : Rep p X Y Z) : X * finv Z = p.x ∧ Y * finv Z = p.y := by
 obtain ⟨n, rfl, rfl⟩ := h
 exact ⟨g_div (mul_finv n), g_div (mul_finv n)⟩
theorem rep_one (p : Pt) : Rep p p.x p.y 1 := ⟨fp_one_ne, (Fin.mul_one p.x).symm, (Fin.mul_one p.y).symm⟩
/-! What x belongs to a y. -/
theorem over_ne (y : Fp) : dE * (y * y) + 1 ≠ 0 := by
 intro h
 have h2 := (d_sq (g_over iE_sq h)).2
 have : iE ≠ 0 := by decide
 exact this h2
/-- the square of the x of a y. -/
def xsq (y : Fp) : Fp := (y * y - 1) * finv (dE * (y * y) + 1)
theorem on_iff (x y : Fp) : onC x y ↔ x * x = xsq y := by
 have hm := mul_finv (over_ne y)
 constructor
 ·intro h
  have h2 := g_curve h
  exact g_def hm h2
 ·intro h
  exact g_curve2 hm h
theorem same_y {p q : Pt} (h : p.y = q.y) : p.x = q.x ∨ p.x = 0 - q.x := by
 have h1 := (on_iff p.x p.y).1 p.on
 have h2 := (on_iff q.x q.y).1 q.on
 rw [h, ← h2] at h1
 rcases fp_mul_zero (g_sqs h1) with h3 | h3
 ·exact .inl (g_sub0 h3)
 ·exact .inr (g_addn h3)
theorem fp_neg_val (a : Fp) : (0 - a).val = if a.val = 0 then 0 else P - a.val := by
 have ha := a.isLt
 rw [Fin.sub_def]
 show (P - a.val + 0) % P = _
 rw [Nat.add_zero]
 split
 ·rename_i h; rw [h]; simp
 ·exact Nat.mod_eq_of_lt (by omega)
theorem P_odd : P % 2 = 1 := by decide
/-- a point's number: y, and the sign of x above. -/
def enc (p : Pt) : Nat := p.y.val + 2 ^ 255 * (p.x.val % 2)
theorem P_255 : P < 2 ^ 255 := by decide
theorem enc_inj {p q : Pt} (h : enc p = enc q) : p = q := by
 unfold enc at h
 have hp := p.y.isLt
 have hq := q.y.isLt
 have hP := P_255
 have hx := p.x.isLt
 have hx2 := q.x.isLt
 have hy : p.y.val = q.y.val := by omega
 have hs : p.x.val % 2 = q.x.val % 2 := by omega
 have hy2 := fp_ext hy
 rcases same_y hy2 with h1 | h1
 ·exact Pt.ext' h1 hy2
 ·refine Pt.ext' ?_ hy2
  have h2 := congrArg Fin.val h1
  rw [fp_neg_val] at h2
  split at h2
  ·rename_i h0; exact fp_ext (by rw [h2, h0])
  ·have := P_odd
   rename_i h0
   exfalso
   omega
theorem enc_lt (p : Pt) : enc p < 2 ^ 256 := by
 unfold enc
 have := p.y.isLt
 have := P_255
 have h2 : p.x.val % 2 ≤ 1 := by omega
 have h3 := Nat.mul_le_mul_left (2 ^ 255) h2
 omega
end F5
end

section
namespace F5
/-! Plain numbers below P. -/
def toF (n : Nat) : Fp := ⟨n % P, Nat.mod_lt _ (by decide)⟩
def nm (a b : Nat) : Nat := a * b % P
def na (a b : Nat) : Nat := (a + b) % P
def ns (a b : Nat) : Nat := (a + (P - b % P)) % P
theorem toF_nm (a b : Nat) : toF (nm a b) = toF a * toF b := by
 apply fp_ext
 rw [fp_mul]
 show a * b % P % P = (a % P) * (b % P) % P
 rw [Nat.mod_mod, ← Nat.mul_mod]
theorem toF_na (a b : Nat) : toF (na a b) = toF a + toF b := by
 apply fp_ext
 rw [fp_add]
 show (a + b) % P % P = (a % P + b % P) % P
 rw [Nat.mod_mod, ← Nat.add_mod]
theorem toF_ns (a b : Nat) : toF (ns a b) = toF a - toF b := by
 apply fp_ext
 rw [Fin.sub_def]
 show (a + (P - b % P)) % P % P = (P - b % P + a % P) % P
 rw [Nat.mod_mod, Nat.add_comm (P - b % P), Nat.mod_add_mod]
/-- sums by x, y and z, of plain numbers. -/
def aX (x1 y1 z1 x2 y2 z2 : Nat) : Nat := nm (nm (nm z1 z2) (ns (nm (nm z1 z2) (nm z1 z2)) (nm (nm dE.val (nm x1 x2)) (nm y1 y2)))) (ns (ns (nm (na x1 y1) (na x2 y2)) (nm x1 x2)) (nm y1 y2))
def aY (x1 y1 z1 x2 y2 z2 : Nat) : Nat := nm (nm (nm z1 z2) (na (nm (nm z1 z2) (nm z1 z2)) (nm (nm dE.val (nm x1 x2)) (nm y1 y2)))) (na (nm y1 y2) (nm x1 x2))
def aZ (x1 y1 z1 x2 y2 z2 : Nat) : Nat := nm (ns (nm (nm z1 z2) (nm z1 z2)) (nm (nm dE.val (nm x1 x2)) (nm y1 y2))) (na (nm (nm z1 z2) (nm z1 z2)) (nm (nm dE.val (nm x1 x2)) (nm y1 y2)))
theorem toF_d : toF dE.val = dE := fp_ext (Nat.mod_eq_of_lt dE.isLt)
def RepN (p : Pt) (x y z : Nat) : Prop := Rep p (toF x) (toF y) (toF z)
theorem repN_add {p q : Pt} {x1 y1 z1 x2 y2 z2 : Nat} (h1 : RepN p x1 y1 z1) (h2 : RepN q x2 y2 z2) :
  RepN (padd p q) (aX x1 y1 z1 x2 y2 z2) (aY x1 y1 z1 x2 y2 z2) (aZ x1 y1 z1 x2 y2 z2) := by
 have h := rep_add h1 h2
 unfold RepN aX aY aZ
 simp only [toF_nm, toF_na, toF_ns, toF_d]
 exact h
def mulN : Nat → Nat → Nat → Nat → Nat → Nat → Nat → Nat → (Nat × Nat × Nat)
 | 0, _, _, _, _, ax, ay, az => (ax, ay, az)
 | f + 1, n, bx, bY, bz, ax, ay, az =>
  if n % 2 = 1 then mulN f (n / 2) (aX bx bY bz bx bY bz) (aY bx bY bz bx bY bz) (aZ bx bY bz bx bY bz) (aX ax ay az bx bY bz) (aY ax ay az bx bY bz) (aZ ax ay az bx bY bz)
  else mulN f (n / 2) (aX bx bY bz bx bY bz) (aY bx bY bz bx bY bz) (aZ bx bY bz bx bY bz) ax ay az
theorem mulN_ok (f : Nat) : ∀ (n bx bY bz ax ay az : Nat) (b a : Pt), n < 2 ^ f → RepN b bx bY bz → RepN a ax ay az →
  RepN (padd a (pmul n b)) (mulN f n bx bY bz ax ay az).1 (mulN f n bx bY bz ax ay az).2.1 (mulN f n bx bY bz ax ay az).2.2 := by
 induction f with
 | zero =>
  intro n bx bY bz ax ay az b a hn hb ha
  have h0 : n = 0 := by simpa using hn
  subst h0
  show RepN (padd a pzero) ax ay az
  rw [padd_zero]; exact ha
 | succ f ih =>
  intro n bx bY bz ax ay az b a hn hb ha
  have hh : n / 2 < 2 ^ f := by rw [Nat.pow_succ] at hn; omega
  have h2 : pmul (n / 2) (padd b b) = pmul (n / 2 * 2) b := by
   rw [Nat.mul_comm, pmul_mul]
   congr 1
   show padd b b = padd (pmul 1 b) b
   rw [pmul_one]
  rw [mulN]
  split
  ·rename_i hb1
   have h := ih (n / 2) _ _ _ _ _ _ _ _ hh (repN_add hb hb) (repN_add ha hb)
   have he : padd (padd a b) (pmul (n / 2) (padd b b)) = padd a (pmul n b) := by
    have hn1 : pmul n b = padd (pmul (n / 2 * 2) b) b := by
     conv => lhs; rw [show n = n / 2 * 2 + 1 by omega]
     rfl
    rw [h2, hn1, padd_assoc, padd_comm b]
   rw [he] at h; exact h
  ·rename_i hb1
   have h := ih (n / 2) _ _ _ _ _ _ _ _ hh (repN_add hb hb) ha
   have he : padd a (pmul (n / 2) (padd b b)) = padd a (pmul n b) := by
    rw [h2, show n / 2 * 2 = n by omega]
   rw [he] at h; exact h
def baseX : Nat := 15112221349535400772501151409588531511454012693041857206046113283949847762202
def baseY : Nat := 46316835694926478169428394003475163141307993866256225615783033603165251855960
theorem base_on : onC (toF baseX) (toF baseY) := by unfold onC; decide +kernel
def pbase : Pt := ⟨toF baseX, toF baseY, base_on⟩
set_option maxRecDepth 100000 in
theorem base_mul : (mulN 253 LL baseX baseY 1 0 1 1).1 = 0 ∧ (mulN 253 LL baseX baseY 1 0 1 1).2.1 = (mulN 253 LL baseX baseY 1 0 1 1).2.2 := by decide +kernel
theorem g_zz {n : Nat} [NeZero n] {x z f : Fin n} (k : z * f = 1) (h : 0 = x * z) : x = 0 := by grind
theorem g_oo {n : Nat} [NeZero n] {y z f : Fin n} (k : z * f = 1) (h : z = y * z) : y = 1 := by grind
theorem base_order : pmul LL pbase = pzero := by
 have hb : RepN pbase baseX baseY 1 := by
  have h := rep_one pbase
  have h1 : toF 1 = 1 := by decide
  unfold RepN; rw [h1]; exact h
 have h0 : RepN pzero 0 1 1 := by
  have h := rep_zero
  have h1 : toF 1 = 1 := by decide
  have h2 : toF 0 = 0 := by decide
  unfold RepN; rw [h1, h2]; exact h
 have h := mulN_ok 253 LL baseX baseY 1 0 1 1 pbase pzero LL_lt hb h0
 rw [base_mul.1, base_mul.2, zero_padd] at h
 have h2 : toF 0 = 0 := by decide
 obtain ⟨hz, hx, hy⟩ := h
 rw [h2] at hx
 exact Pt.ext' (g_zz (mul_finv hz) hx) (g_oo (mul_finv hz) hy)
end F5
end

section
namespace F5
def rootF (a : Fp) : Fp := ⟨root a.val, root_lt _⟩
theorem rootF_even (a : Fp) : (rootF a).val % 2 = 0 := root_even _
theorem rootF_sq {a : Fp} (h : hasRoot a.val) : rootF a * rootF a = a := by
 apply fp_ext
 rw [fp_mul]
 exact root_sq h
theorem hasRoot_iff (a : Fp) : hasRoot a.val ↔ ∃ x : Fp, x * x = a := by
 constructor
 ·intro h; exact ⟨_, rootF_sq h⟩
 ·rintro ⟨x, rfl⟩
  rw [fp_mul]
  exact (root_of_sq x.isLt).1
/-- the y, the even x and the x of a number. -/
def gy (v : Nat) : Fp := toF (v % 2 ^ 255)
def gr (v : Nat) : Fp := rootF (xsq (gy v))
def gx (v : Nat) : Fp := if 2 ^ 255 ≤ v then 0 - gr v else gr v
/-- is a number a point's? -/
def okP (v : Nat) : Prop := v % 2 ^ 255 < P ∧ hasRoot (xsq (gy v)).val ∧ ¬(2 ^ 255 ≤ v ∧ gr v = 0)
instance okP_dec (v : Nat) : Decidable (okP v) := by unfold okP hasRoot; infer_instance
theorem g_negsq {n : Nat} [NeZero n] (a : Fin n) : (0 - a) * (0 - a) = a * a := by grind
theorem gx_on {v : Nat} (h : okP v) : onC (gx v) (gy v) := by
 rw [on_iff]
 have h1 : gr v * gr v = xsq (gy v) := rootF_sq h.2.1
 unfold gx
 split
 ·rw [g_negsq]; exact h1
 ·exact h1
def pget (v : Nat) (h : okP v) : Pt := ⟨gx v, gy v, gx_on h⟩
theorem gy_val {v : Nat} (h : v % 2 ^ 255 < P) : (gy v).val = v % 2 ^ 255 := Nat.mod_eq_of_lt h
theorem enc_pget {v : Nat} (hv : v < 2 ^ 256) (h : okP v) : enc (pget v h) = v := by
 show (gy v).val + 2 ^ 255 * ((gx v).val % 2) = v
 rw [gy_val h.1]
 have he : (gr v).val % 2 = 0 := rootF_even _
 have hl := (gr v).isLt
 have ho := P_odd
 unfold gx
 split
 ·rename_i h2
  have hne : (gr v).val ≠ 0 := fun hz => h.2.2 ⟨h2, fp_ext hz⟩
  rw [fp_neg_val, if_neg hne]
  have : (P - (gr v).val) % 2 = 1 := by omega
  rw [this]; omega
 ·rw [he]; omega
theorem enc_mod (p : Pt) : enc p % 2 ^ 255 = p.y.val := by
 unfold enc
 have := p.y.isLt
 have := P_255
 omega
theorem enc_gy (p : Pt) : gy (enc p) = p.y := by
 unfold gy
 rw [enc_mod]
 exact fp_ext (Nat.mod_eq_of_lt p.y.isLt)
theorem enc_ok (p : Pt) : okP (enc p) := by
 have hx := (on_iff p.x p.y).1 p.on
 refine ⟨?_, ?_, ?_⟩
 ·rw [enc_mod]; exact p.y.isLt
 ·rw [enc_gy]; exact (hasRoot_iff _).2 ⟨p.x, hx⟩
 ·rintro ⟨h1, h2⟩
  have h3 : hasRoot (xsq (gy (enc p))).val := by rw [enc_gy]; exact (hasRoot_iff _).2 ⟨p.x, hx⟩
  have h4 : gr (enc p) * gr (enc p) = xsq (gy (enc p)) := rootF_sq h3
  rw [h2, enc_gy, ← hx] at h4
  have h5 : p.x * p.x = 0 := by rw [← h4]; exact Fin.zero_mul 0
  have h6 : p.x.val = 0 := by
   rcases fp_mul_zero h5 with h | h <;> exact congrArg Fin.val h
  unfold enc at h1
  rw [h6] at h1
  have := p.y.isLt
  have := P_255
  omega
theorem pget_enc (p : Pt) (h : okP (enc p)) : pget (enc p) h = p := enc_inj (enc_pget (enc_lt p) h)
/-- the base, by its y. -/
theorem base_gy : (4 : Fp) * finv 5 = pbase.y := by
 have h : (5 : Fp) * pbase.y = 4 := by decide +kernel
 have h5 : (5 : Fp) ≠ 0 := by decide
 exact (g_def (mul_finv h5) h).symm
theorem base_x_root : hasRoot (xsq pbase.y).val ∧ rootF (xsq pbase.y) = pbase.x := by
 have hx := (on_iff pbase.x pbase.y).1 pbase.on
 have h1 := (hasRoot_iff _).2 ⟨_, hx⟩
 refine ⟨h1, ?_⟩
 have h2 := rootF_sq h1
 rw [← hx] at h2
 have he := rootF_even (pbase.x * pbase.x)
 rw [← hx]
 have hb : pbase.x.val % 2 = 0 := by decide +kernel
 have hb2 : pbase.x.val ≠ 0 := by decide +kernel
 rcases fp_mul_zero (g_sqs h2) with h3 | h3
 ·exact g_sub0 h3
 ·have h4 := g_addn h3
  rw [h4, fp_neg_val, if_neg hb2] at he
  have := P_odd
  have := pbase.x.isLt
  omega
end F5
end

section
namespace Go.Proofs.YtcfogpeinjehbaaDoor
open Go Go.Proofs F5
open Sha (sumOf sumOf_length)
theorem fbytes_bval {l : List UInt8} (h : l.length = 32) : fbytes (bval l) = l := by
 obtain ⟨v, hv, rfl⟩ := fbytes_of l h
 rw [bval_fbytes hv]
theorem bval_256 {l : List UInt8} (h : l.length = 32) : bval l < 2 ^ 256 := by
 have := bval_lt l; rwa [h] at this
def secL (seed : List UInt8) : List UInt8 :=
 (((sumOf seed).take 32).set 0 (UInt8.ofNat ((((sumOf seed).take 32).getD 0 0).toNat - (((sumOf seed).take 32).getD 0 0).toNat % 8))).set 31 (UInt8.ofNat ((((sumOf seed).take 32).getD 31 0).toNat % 64 + 64))
def preL (seed : List UInt8) : List UInt8 := (sumOf seed).drop 32
theorem secL_length (seed : List UInt8) : (secL seed).length = 32 := by simp [secL, sumOf_length]
theorem preL_length (seed : List UInt8) : (preL seed).length = 32 := by simp [preL, sumOf_length]
def secN (seed : List UInt8) : Nat := bval (secL seed)
theorem secN_lt (seed : List UInt8) : secN seed < 2 ^ 256 := bval_256 (secL_length seed)
theorem secN_bytes (seed : List UInt8) : fbytes (secN seed) = secL seed := fbytes_bval (secL_length seed)
/-- The rest of the sum. -/
def restN (l : List UInt8) : Nat := bval (sumOf l) % LL
theorem restN_lt (l : List UInt8) : restN l < LL := Nat.mod_lt _ LL_pos
theorem restN_256 (l : List UInt8) : restN l < 2 ^ 256 := Nat.lt_trans (restN_lt l) (by decide)
def ptL (p : Pt) : List UInt8 := fbytes (enc p)
theorem ptL_length (p : Pt) : (ptL p).length = 32 := fbytes_length _
def pubL (seed : List UInt8) : List UInt8 := ptL (pmul (secN seed) pbase)
def sigR (seed text : List UInt8) : Nat := restN (preL seed ++ text)
def sigF (seed text : List UInt8) : List UInt8 := ptL (pmul (sigR seed text) pbase)
def sigK (seed text : List UInt8) : Nat := restN (sigF seed text ++ (pubL seed ++ text))
def sigS (seed text : List UInt8) : Nat := (sigK seed text * secN seed + sigR seed text) % LL
def signL (seed text : List UInt8) : List UInt8 := sigF seed text ++ fbytes (sigS seed text)
theorem sigS_lt (seed text : List UInt8) : sigS seed text < LL := Nat.mod_lt _ LL_pos
theorem signL_length (seed text : List UInt8) : (signL seed text).length = 64 := by simp [signL, sigF, ptL_length, fbytes_length]
/-- Is a signature right? -/
def verP (pub text sig : List UInt8) : Prop :=
 pub.length = 32 ∧ sig.length = 64 ∧ bval (sig.drop 32) < LL ∧ ∃ (hA : okP (bval pub)) (hR : okP (bval (sig.take 32))),
  enc (pmul (bval (sig.drop 32)) pbase) = enc (padd (pget _ hR) (pmul (restN (sig.take 32 ++ (pub ++ text))) (pget _ hA)))
open Classical in
noncomputable def verB (pub text sig : List UInt8) : Bool := decide (verP pub text sig)
theorem verB_true {pub text sig : List UInt8} : verB pub text sig = true ↔ verP pub text sig := by simp [verB]
theorem verB_false {pub text sig : List UInt8} : verB pub text sig = false ↔ ¬ verP pub text sig := by simp [verB]
theorem pget_of {v : Nat} {p : Pt} (h : v = enc p) (hv : okP v) : pget v hv = p := by
 subst h; exact pget_enc p hv
theorem sign_right (seed text : List UInt8) : verB (pubL seed) text (signL seed text) = true := by
 rw [verB_true]
 have h1 : (signL seed text).take 32 = sigF seed text := by
  have := ptL_length (pmul (sigR seed text) pbase)
  rw [signL, List.take_append_of_le_length (by rw [sigF, this]; omega), List.take_of_length_le (by rw [sigF, this]; omega)]
 have h2 : (signL seed text).drop 32 = fbytes (sigS seed text) := by
  have := ptL_length (pmul (sigR seed text) pbase)
  rw [signL, show 32 = (sigF seed text).length from this.symm, List.drop_left]
 have hS : bval ((signL seed text).drop 32) = sigS seed text := by rw [h2, bval_fbytes (Nat.lt_trans (sigS_lt _ _) (by decide))]
 have eA : bval (pubL seed) = enc (pmul (secN seed) pbase) := bval_fbytes (enc_lt _)
 have eR : bval ((signL seed text).take 32) = enc (pmul (sigR seed text) pbase) := by rw [h1]; exact bval_fbytes (enc_lt _)
 have kA : okP (bval (pubL seed)) := by rw [eA]; exact enc_ok _
 have kR : okP (bval ((signL seed text).take 32)) := by rw [eR]; exact enc_ok _
 refine ⟨ptL_length _, signL_length _ _, by rw [hS]; exact sigS_lt _ _, kA, kR, ?_⟩
 rw [pget_of eA kA, pget_of eR kR, hS, h1]
 show enc (pmul (sigS seed text) pbase) = enc (padd (pmul (sigR seed text) pbase) (pmul (sigK seed text) (pmul (secN seed) pbase)))
 rw [sigS, ← pmul_mod base_order, pmul_add, ← pmul_mul, padd_comm, Nat.mul_comm (sigK seed text)]
theorem ver_len {pub text sig : List UInt8} (h : sig.length ≠ 64) : verB pub text sig = false := verB_false.2 fun hv => h hv.2.1
theorem ver_big {pub text r : List UInt8} (hr : r.length = 32) {s : Nat} (hs : s < LL) : verB pub text (r ++ fbytes (s + LL)) = false := verB_false.2 fun hv => by
 have h := hv.2.2.1
 rw [show 32 = r.length from hr.symm, List.drop_left, bval_fbytes (show s + LL < 2 ^ 256 from by have hL : LL < 2 ^ 255 := (by decide); omega)] at h
 omega
end Go.Proofs.YtcfogpeinjehbaaDoor
end

section
namespace Go.Proofs.YtcfogpeinjehbaaDoor.Sha
open Go Go.Proofs Go.RowKit Sha5
theorem wpList_build_to {P : Program} {ops : Array Oper} {rest : List Oper} {o : Oper} {a : Act} {w : World} {Q : Exit → Act → World → Prop} (hg : o.guard = none) (t : TypeId) (parts : Array (Nat × Operand)) (ho : o.op = .build t parts)
  (cells : Array Value) (hb : P.built t (parts.map fun (i, x) => (i, a.eval x)).toList = some cells)
  (h : wpList P ops Q rest (a.put o.dst (.agg cells)) w) : wpList P ops Q (o :: rest) a w :=
 wpList_plain hg fun _ hK => wp_build t parts ho (by rw [hb]; rfl) (by rw [hb]; exact hK _ _ h)
end Go.Proofs.YtcfogpeinjehbaaDoor.Sha
end

section
namespace Go.Proofs.YtcfogpeinjehbaaDoor.Sha
open Go Go.Proofs Go.RowKit Sha5
theorem bytesA_set (l : List UInt8) (i : Nat) (y : UInt8) : (bytesA l).setIfInBounds i (.int .u8 (y.toNat : Int)) = bytesA (l.set i y) := by
 simp [bytesA, Lib.byteCells, List.map_set]
end Go.Proofs.YtcfogpeinjehbaaDoor.Sha
end

section
namespace Go.Proofs.YtcfogpeinjehbaaDoor.Sha
open Go Go.Proofs Go.RowKit Sha5
/-- in the loop over the blocks. -/
def Out (gs gk : Nat) (A : Option Addr) (L : Nat) (all : List UInt8) (w : World) (k : Nat) (wr : World) : Prop :=
 Blk wr gs 93 (stA (blocks KS H0 all k)) ∧ Blk wr gk 91 (u64s KS) ∧ Src wr gs A L all ∧ Below w.heap.size w wr
theorem Out.old {gs gk L k : Nat} {A : Option Addr} {all : List UInt8} {w wr w' : World} (h : Out gs gk A L all w k wr) (hb : Below wr.heap.size wr w') : Out gs gk A L all w k w' :=
 ⟨h.1.old hb, h.2.1.old hb, h.2.2.1.grown (grown_below hb _), h.2.2.2.trans (hb.mono h.2.2.2.size)⟩
end Go.Proofs.YtcfogpeinjehbaaDoor.Sha
end

section
namespace Go.Proofs.YtcfogpeinjehbaaDoor
open Go Go.Proofs Go.RowKit
/-- WHAT THE WALK IS TOLD OF A SLICE OF INTEGERS THAT CAME IN: it is nil; or it leads to a row of 'cap' cells, the numbers 'zs' (the first 'len' are its elements, the rest its spare room), each fitting its kind. -/
def IsRow (k : IntKind) (w : World) (a : Option Addr) (len cap : Nat) (zs : List Int) : Prop :=
 (a = none ∧ len = 0 ∧ cap = 0 ∧ zs = []) ∨
 ∃ x, a = some x ∧ len ≤ cap ∧ cap ≤ maxLen ∧ zs.length = cap ∧ (∀ i, i < zs.length → w.cell? (x.add i) = some (.int k (zs.getD i 0))) ∧ ∀ n ∈ zs, (Lit.int k n).wf = true
def bytesOf (len : Nat) (zs : List Int) : List UInt8 := (zs.take len).map fun z => z.toNat.toUInt8
theorem reads_of_row {w : World} {a : Option Addr} {len cap : Nat} {zs : List Int} (h : IsRow .u8 w a len cap zs) : Reads w w.heap.size 1 a len (Lib.byteCells (bytesOf len zs)) ∧ len ≤ cap ∧ cap ≤ maxLen := by
 rcases h with ⟨rfl, rfl, rfl, rfl⟩ | ⟨x, rfl, hl, hm, hz, hc, hw⟩
 ·exact ⟨⟨by simp [bytesOf, Lib.byteCells], fun h => absurd h (by omega)⟩, Nat.le_refl _, by unfold maxLen; omega⟩
 ·refine ⟨⟨?_, fun hn => ⟨x, rfl, ?_, ?_⟩⟩, hl, hm⟩
  ·simp [bytesOf, Lib.byteCells_length]; omega
  ·have := hc 0 (by omega)
   rcases Nat.lt_or_ge x.block w.heap.size with h' | h'
   ·exact h'
   ·rw [World.cell?] at this
    have e : (x.add 0).block = x.block := block_of_add x 0
    rw [e, Array.getElem?_eq_none h'] at this
    simp at this
  ·intro j u hu
   have hj : j < (zs.take len).length := by
    have := (List.getElem?_eq_some_iff.1 hu).1
    simpa [bytesOf, Lib.byteCells] using this
   have hjz : j < zs.length := by simp at hj; omega
   rw [hc j hjz]
   simp only [bytesOf, Lib.byteCells, List.map_map, List.getElem?_map, List.getElem?_eq_getElem hj, Option.map_some, Option.some.injEq, Function.comp_apply] at hu
   rw [← hu, List.getElem_take]
   have hb := hw zs[j] (List.getElem_mem hjz)
   have hb2 := bounds_u8 hb
   have e1 : zs.getD j 0 = zs[j] := by simp [List.getD, List.getElem?_eq_getElem hjz]
   rw [e1]
   congr 2
   simp
   omega
end Go.Proofs.YtcfogpeinjehbaaDoor
end

section
namespace Go.Proofs.YtcfogpeinjehbaaDoor
open Go Go.Proofs Go.RowKit F5
abbrev Z4 : Array Value := #[.int .u64 0, .int .u64 0, .int .u64 0, .int .u64 0]
theorem Z4_size (n : Nat) : Z4.size = (limA n).size := by rw [limA_size]; rfl
/-- Blocks other than g are as they were. -/
def Far (g : Nat) (w w' : World) : Prop := ∀ g' T c, g' ≠ g → Blk w g' T c → Blk w' g' T c
theorem Far.of {g : Nat} {w w' : World} (h : Below w.heap.size w w') : Far g w w' := fun _ _ _ _ hb => hb.old h
theorem Far.row {g : Nat} {w w' : World} (h : Far g w w') (c : Array Value) : Far g w (w'.setRow g c) := fun g' T c' hne hb => (h g' T c' hne hb).rowFar hne c
/-- Elements that stand in blocks: the first and the second new one. -/
def Two2 (w : World) (a b : Array Value) (wr : World) : Prop := Blk wr w.heap.size 42 a ∧ Blk wr (w.heap.size + 1) 42 b ∧ Below w.heap.size w wr
theorem Two2.new (w : World) (a b : Array Value) : Two2 w a b ((w.alloc (.cells a 42)).alloc (.cells b 42)) := by
 refine ⟨(Blk.new w 42 a).alloc _, ?_, ((Below.refl _ _).alloc (Nat.le_refl _) _).alloc (by simp) _⟩
 have := Blk.new (w.alloc (.cells a 42)) 42 b
 rwa [show (w.alloc (.cells a 42)).heap.size = w.heap.size + 1 by simp] at this
theorem Two2.next {w wr w' : World} {a b : Array Value} (h : Two2 w a b wr) (hb : Below wr.heap.size wr w') : Two2 w a b w' := ⟨h.1.old hb, h.2.1.old hb, h.2.2.trans (hb.mono h.2.2.size)⟩
theorem Two2.drew {w wr : World} {a b : Array Value} (h : Two2 w a b wr) : Two2 w a b wr.drew := ⟨h.1.drew, h.2.1.drew, h.2.2.drew⟩
theorem Two2.fst {w wr : World} {a b : Array Value} (h : Two2 w a b wr) (c : Array Value) : Two2 w c b (wr.setRow w.heap.size c) := ⟨h.1.row c, h.2.1.rowFar (by omega) c, below_row h.2.2 (Nat.le_refl _) c⟩
theorem Two2.snd {w wr : World} {a b : Array Value} (h : Two2 w a b wr) (c : Array Value) : Two2 w a c (wr.setRow (w.heap.size + 1) c) := ⟨h.1.rowFar (by omega) c, h.2.1.row c, below_row h.2.2 (by omega) c⟩
theorem Two2.far {w wr : World} {a b : Array Value} (h : Two2 w a b wr) {g : Nat} (hg : w.heap.size + 1 < g) (c : Array Value) : Two2 w a b (wr.setRow g c) := ⟨h.1.rowFar (by omega) c, h.2.1.rowFar (by omega) c, below_row h.2.2 (by omega) c⟩
theorem Two2.lt {w wr : World} {a b : Array Value} (h : Two2 w a b wr) : w.heap.size + 1 < wr.heap.size := h.2.1.lt
set_option maxHeartbeats 4000000 in
set_option maxRecDepth 100000 in
theorem squared_any (n c : Nat) (hn : n < P) (hc : c ≤ 1000) (w : World) (hP : PrimeAt w) :
  Calls Tryd.prog 46 #[elemV n, .int .i64 (c : Int)] w fun e w' => e = .returned (elemV (pw n (2 ^ c))) ∧ Below w.heap.size w w' := by
 unfold elemV
 obtain ⟨cn, hcn⟩ : ∃ c, Hid (c = limA n) := ⟨_, hid rfl⟩
 rw [← hcn.out]
 have HP := hid hP
 have HN := hid hn
 clear hP hn
 go_enter Tryd.func46, Tryd.ntmps46
 go_wp2_with fail
 have h2 := Two2.new w cn Z4
 unfold Z4 at h2
 generalize (w.alloc (.cells cn 42)).alloc (.cells #[.int .u64 0, .int .u64 0, .int .u64 0, .int .u64 0] 42) = W at *
 rw [hcn.out] at h2
 go_loopg [6] c (fun g iv wr => ∃ i : Nat, iv = .int .i64 (i : Nat) ∧ g + i = c ∧ Two2 w (limA (pw n (2 ^ i))) #[.int .u64 0, .int .u64 0, .int .u64 0, .int .u64 0] wr)
 case atStart => exact ⟨0, rfl, rfl, by rw [show 2 ^ 0 = 1 from rfl, pw_one HN.out]; exact h2⟩
 case round =>
  obtain ⟨i, rfl, hg, hT⟩ := hrel
  clear h2
  have HT := hid hT
  clear hT
  by_cases hlt : i < c
  ·obtain ⟨x, hx⟩ : ∃ x, Hid (x = limA (pw n (2 ^ i))) := ⟨_, hid rfl⟩
   have hRi := hid (limA_infoE (pw n (2 ^ i)))
   have hRi2 := hid (limA_infoE (pw n (2 ^ (i + 1))))
   have hR12 := hid (limA_one (pw n (2 ^ (i + 1))))
   have hzz : Hid ((limA (pw n (2 ^ i))).size = (limA (pw n (2 ^ (i + 1)))).size) := hid (by rw [limA_size, limA_size])
   rw [← hx.out] at HT hRi hzz
   have hmul := mul_e (pw n (2 ^ i)) (pw n (2 ^ i)) (pw_lt _ _) (pw_lt _ _) wr (HP.out.old HT.out.2.2)
   rw [pw_add, show 2 ^ i + 2 ^ i = 2 ^ (i + 1) by rw [Nat.pow_succ]; omega] at hmul
   unfold elemV at hmul
   rw [← hx.out] at hmul
   obtain ⟨y, hy⟩ : ∃ y, Hid (y = limA (pw n (2 ^ (i + 1)))) := ⟨_, hid rfl⟩
   rw [← hy.out] at hmul hRi2 hR12 hzz
   have HMUL := hid hmul
   clear hmul
   go_wp2_with (first | (refine wpList_load_row rfl 42 (.tmp 2) rfl w.heap.size rfl 42 x (0, 0) _ HT.out.1 Tryd.underlying42 rfl hRi.out ?_))
   refine HMUL.out.mono ?_
   rintro e w1 ⟨rfl, hb1⟩
   have HT1 := hid (HT.out.next hb1)
   clear hb1
   have HT2 := hid (HT1.out.fst y)
   go_wp2_with (first | (refine wpList_store_row rfl 42 (.tmp 2) (.tmp 10) rfl w.heap.size y rfl rfl 42 x HT1.out.1 hRi2.out hzz.out hR12.out ?_))
   go_roundg (gk - 1)
   case measure => omega
   case rel => exact ⟨i + 1, by go_num, by omega, by rw [← hy.out]; exact HT2.out⟩
  ·obtain rfl : i = c := by omega
   obtain ⟨R, hR⟩ : ∃ R, Hid (R = limA (pw n (2 ^ i))) := ⟨_, hid rfl⟩
   have hRi := hid (limA_infoE (pw n (2 ^ i)))
   have hR1 := hid (limA_one (pw n (2 ^ i)))
   have hzz := hid (Z4_size (pw n (2 ^ i)))
   rw [← hR.out] at hRi hR1 hzz HT
   go_wp2_with (first | (refine wpList_load_row rfl 42 (.tmp 2) rfl w.heap.size rfl 42 R (0, 0) _ HT.out.1 Tryd.underlying42 rfl hRi.out ?_) |
    (refine wpList_store_row rfl 42 (.tmp 4) (.tmp 12) rfl (w.heap.size + 1) R rfl rfl 42 _ HT.out.2.1 hRi.out hzz.out hR1.out ?_))
   refine bodyPost_ret (v := .agg R) ?_ rfl ⟨by rw [hR.out], (HT.out.snd R).2.2⟩
   exact results_cell_row Tryd.results46 _ _ (w.heap.size + 1) 42 R (0, 0) _ rfl (HT.out.snd R).2.1 Tryd.underlying42 rfl hRi.out
theorem alloc_new {B : Nat} {w w' : World} (h : Below B w w') (T : TypeId) (z : Array Value) : Blk (w'.alloc (.cells z T)) w'.heap.size T z := Blk.new _ _ _
/-- A third element, in a block behind the two. -/
def Three2 (w : World) (a b c : Array Value) (g : Nat) (wr : World) : Prop := Two2 w a b wr ∧ Blk wr g 42 c ∧ w.heap.size + 1 < g
theorem Three2.next {w wr w' : World} {a b c : Array Value} {g : Nat} (h : Three2 w a b c g wr) (hb : Below wr.heap.size wr w') : Three2 w a b c g w' := ⟨h.1.next hb, h.2.1.old hb, h.2.2⟩
theorem Three2.third {w wr : World} {a b c : Array Value} {g : Nat} (h : Three2 w a b c g wr) (d : Array Value) : Three2 w a b d g (wr.setRow g d) := ⟨h.1.far h.2.2 d, h.2.1.row d, h.2.2⟩
set_option maxHeartbeats 8000000 in
set_option maxRecDepth 100000 in
theorem ones_any (c : Nat) : 1 ≤ c → c ≤ 1000 → ∀ (n : Nat) (w : World), n < P → PrimeAt w →
  Calls Tryd.prog 47 #[elemV n, .int .i64 (c : Int)] w fun e w' => e = .returned (elemV (pw n (2 ^ c - 1))) ∧ Below w.heap.size w w' := by
 induction c using Nat.strongRecOn with
 | _ c ih =>
 intro hc1 hc n w hn hP
 unfold elemV
 obtain ⟨cn, hcn⟩ : ∃ c, Hid (c = limA n) := ⟨_, hid rfl⟩
 rw [← hcn.out]
 have HP := hid hP
 have HN := hid hn
 have IH := hid ih
 have hni : Hid ((Tryd.prog.info? 42).map (·.size) = some cn.size) := by rw [hcn.out]; exact hid (limA_infoE n)
 clear hP hn ih
 by_cases h1 : c = 1
 ·subst h1
  have hz : Hid (Array.size (#[.int .u64 0, .int .u64 0, .int .u64 0, .int .u64 0] : Array Value) = cn.size) := by rw [hcn.out]; exact hid (Z4_size n)
  have ho : Hid (cn.all (·.oneCell') = true) := by rw [hcn.out]; exact hid (limA_one n)
  have hR : Hid (cn = limA (pw n (2 ^ 1 - 1))) := by rw [show 2 ^ 1 - 1 = 1 from rfl, pw_one HN.out]; exact hcn
  have H2 := hid (Two2.new w cn #[.int .u64 0, .int .u64 0, .int .u64 0, .int .u64 0])
  go_enter Tryd.func47, Tryd.ntmps47
  go_wp2_with (first | (refine wpList_load_row rfl 42 (.tmp 2) rfl w.heap.size rfl 42 cn (0, 0) _ H2.out.1 Tryd.underlying42 rfl hni.out ?_) |
    (refine wpList_store_row rfl 42 (.tmp 4) (.tmp 9) rfl (w.heap.size + 1) cn rfl rfl 42 _ H2.out.2.1 hni.out hz.out ho.out ?_))
  refine bodyPost_ret (v := .agg cn) ?_ rfl ⟨by rw [hR.out], (H2.out.snd cn).2.2⟩
  exact results_cell_row Tryd.results47 _ _ (w.heap.size + 1) 42 cn (0, 0) _ rfl (H2.out.snd cn).2.1 Tryd.underlying42 rfl hni.out
 obtain ⟨h, hh⟩ := named (c / 2)
 have hcc : ((c : Int) == 1) = false := by simp; omega
 have d2 : (c : Int).tdiv 2 = (h : Int) := by rw [Int.tdiv_eq_ediv_of_nonneg (by omega), hh.out]; omega
 have d1 : (c : Int) / 2 = (h : Int) := by rw [hh.out]; omega
 have wh : IntKind.i64.wrap (h : Int) = (h : Int) := IntWalk.i64_in _ (by rw [hh.out]; omega)
 have hsml : h < c ∧ 1 ≤ h ∧ h ≤ 1000 := by rw [hh.out]; omega
 have hih := IH.out h hsml.1 hsml.2.1 hsml.2.2 n
 have HIH : Hid (∀ V, PrimeAt V → Calls Tryd.prog 47 #[.agg cn, .int .i64 (h : Int)] V fun e w' => e = .returned (.agg (limA (pw n (2 ^ h - 1)))) ∧ Below V.heap.size V w') := hid fun V hV => by rw [hcn.out]; exact hih V HN.out hV
 have HSQ : Hid (∀ V, PrimeAt V → Calls Tryd.prog 46 #[.agg (limA (pw n (2 ^ h - 1))), .int .i64 (h : Int)] V fun e w' => e = .returned (.agg (limA (pw n ((2 ^ h - 1) * 2 ^ h)))) ∧ Below V.heap.size V w') := hid fun V hV => by
  have := squared_any (pw n (2 ^ h - 1)) h (pw_lt _ _) hsml.2.2 V hV
  rwa [pw_pw] at this
 have hml1 : (2 ^ h - 1) * 2 ^ h + (2 ^ h - 1) = 2 ^ (2 * h) - 1 := by
  have hp : 1 ≤ 2 ^ h := Nat.one_le_two_pow
  rw [Nat.two_mul, Nat.pow_add]
  generalize 2 ^ h = z at *
  obtain ⟨y, rfl⟩ : ∃ y, z = y + 1 := ⟨z - 1, by omega⟩
  simp only [Nat.add_sub_cancel, Nat.mul_add, Nat.add_mul, Nat.mul_one, Nat.one_mul]
  omega
 have HML : Hid (∀ V, PrimeAt V → Calls Tryd.prog 24 #[.agg (limA (pw n ((2 ^ h - 1) * 2 ^ h))), .agg (limA (pw n (2 ^ h - 1)))] V fun e w' => e = .returned (.agg (limA (pw n (2 ^ (2 * h) - 1)))) ∧ Below V.heap.size V w') := hid fun V hV => by
  have := mul_e (pw n ((2 ^ h - 1) * 2 ^ h)) (pw n (2 ^ h - 1)) (pw_lt _ _) (pw_lt _ _) V hV
  rwa [pw_add, hml1] at this
 have HSQ1 : Hid (∀ V, PrimeAt V → Calls Tryd.prog 46 #[.agg (limA (pw n (2 ^ (2 * h) - 1))), .int .i64 1] V fun e w' => e = .returned (.agg (limA (pw n ((2 ^ (2 * h) - 1) * 2)))) ∧ Below V.heap.size V w') := hid fun V hV => by
  have := squared_any (pw n (2 ^ (2 * h) - 1)) 1 (pw_lt _ _) (by omega) V hV
  rwa [pw_pw] at this
 have hml2 : (2 ^ (2 * h) - 1) * 2 + 1 = 2 ^ (2 * h + 1) - 1 := by
  have hp : 1 ≤ 2 ^ (2 * h) := Nat.one_le_two_pow
  rw [Nat.pow_succ]
  omega
 have HML1 : Hid (∀ V, PrimeAt V → Calls Tryd.prog 24 #[.agg (limA (pw n ((2 ^ (2 * h) - 1) * 2))), .agg cn] V fun e w' => e = .returned (.agg (limA (pw n (2 ^ (2 * h + 1) - 1)))) ∧ Below V.heap.size V w') := hid fun V hV => by
  have := mul_e (pw n ((2 ^ (2 * h) - 1) * 2)) n (pw_lt _ _) HN.out V hV
  rw [pw_next HN.out, hml2] at this
  rw [hcn.out]; exact this
 obtain ⟨ch, hch⟩ : ∃ x, Hid (x = limA (pw n (2 ^ h - 1))) := ⟨_, hid rfl⟩
 obtain ⟨cq, hcq⟩ : ∃ x, Hid (x = limA (pw n ((2 ^ h - 1) * 2 ^ h))) := ⟨_, hid rfl⟩
 obtain ⟨cb, hcb⟩ : ∃ x, Hid (x = limA (pw n (2 ^ (2 * h) - 1))) := ⟨_, hid rfl⟩
 obtain ⟨cs, hcs⟩ : ∃ x, Hid (x = limA (pw n ((2 ^ (2 * h) - 1) * 2))) := ⟨_, hid rfl⟩
 obtain ⟨cd, hcd⟩ : ∃ x, Hid (x = limA (pw n (2 ^ (2 * h + 1) - 1))) := ⟨_, hid rfl⟩
 rw [← hch.out] at HIH HSQ HML
 rw [← hcq.out] at HSQ HML
 rw [← hcb.out] at HML HSQ1
 rw [← hcs.out] at HSQ1 HML1
 rw [← hcd.out] at HML1
 have okh : Hid ((Tryd.prog.info? 42).map (·.size) = some ch.size ∧ ch.all (·.oneCell') = true ∧ Array.size (#[.int .u64 0, .int .u64 0, .int .u64 0, .int .u64 0] : Array Value) = ch.size) := by rw [hch.out]; exact hid ⟨limA_infoE _, limA_one _, Z4_size _⟩
 have okb : Hid ((Tryd.prog.info? 42).map (·.size) = some cb.size ∧ cb.all (·.oneCell') = true ∧ Array.size (#[.int .u64 0, .int .u64 0, .int .u64 0, .int .u64 0] : Array Value) = cb.size ∧ cb.size = cd.size) := by rw [hcb.out, hcd.out]; exact hid ⟨limA_infoE _, limA_one _, Z4_size _, by rw [limA_size, limA_size]⟩
 have okd : Hid ((Tryd.prog.info? 42).map (·.size) = some cd.size ∧ cd.all (·.oneCell') = true ∧ Array.size (#[.int .u64 0, .int .u64 0, .int .u64 0, .int .u64 0] : Array Value) = cd.size) := by rw [hcd.out]; exact hid ⟨limA_infoE _, limA_one _, Z4_size _⟩
 have h2 := Two2.new w cn #[.int .u64 0, .int .u64 0, .int .u64 0, .int .u64 0]
 clear hih hml1 hml2
 go_enter Tryd.func47, Tryd.ntmps47
 go_upto_region 3 with fail
 generalize (w.alloc (.cells cn 42)).alloc (.cells #[.int .u64 0, .int .u64 0, .int .u64 0, .int .u64 0] 42) = W at *
 have H2 := hid h2
 clear h2
 go_upto_region 4 with (first | (refine wpList_load_row rfl 42 (.tmp 2) rfl w.heap.size rfl 42 cn (0, 0) _ H2.out.1 Tryd.underlying42 rfl hni.out ?_))
 refine (HIH.out _ (HP.out.old H2.out.2.2)).mono ?_
 rintro e w1 ⟨rfl, hb1⟩
 have H21 := hid (H2.out.next hb1)
 clear hb1
 go_upto_region 4 with (first | (refine wpList_store_row rfl 42 (.tmp 5) (.tmp 13) rfl w1.heap.size ch rfl rfl 42 _ (heap_alloc_new w1 _) okh.out.1 okh.out.2.2 okh.out.2.1 ?_; rw [setRow_alloc1]))
 have h3 : Three2 w cn #[.int .u64 0, .int .u64 0, .int .u64 0, .int .u64 0] ch w1.heap.size (w1.alloc (.cells ch 42)) := ⟨H21.out.next ((Below.refl _ _).alloc (Nat.le_refl _) _), Blk.new _ _ _, H21.out.lt⟩
 generalize w1.alloc (.cells ch 42) = W1 at *
 generalize w1.heap.size = g5 at *
 have H3 := hid h3
 clear h3
 (try simp only [Act.put, zA, zB, zC])
 go_cut [6] (fun p6 wx => ∃ g6, p6 = .pointer (some ⟨g6, 0, none⟩) ∧ Three2 w cn #[.int .u64 0, .int .u64 0, .int .u64 0, .int .u64 0] cb g6 wx)
 case first =>
  refine wp_region_held_drew (S := fun V => Below W1.heap.size W1 V) (by kernel_rfl) (Below.refl _ _).drew (fun hHeld => ?_)
  have HB0 := hid ((Below.refl W1.heap.size W1).drew)
  generalize W1.drew = V0 at *
  refine' wpAnyH_take (i := 0) (oi := _) (v := .agg ch) ?hit1 ?hst1 ?hft1 ?hrt1 ?hQt1 ?hyt1 ?hSt1 ?_
  case hit1 => (simp only [zD, zE, zF]; rfl)
  case hst1 | hft1 | hrt1 => kernel_rfl
  case hQt1 => exact fun _ _ _ h => h
  case hSt1 => assumption
  case hyt1 =>
   refine Or.inl ⟨by rfl, ?_⟩
   intro W hS
   exact quiet_load_row 42 (.tmp 5) _ rfl 42 ch _ (H3.out.2.1.old hS) Tryd.underlying42 rfl okh.out.1 rfl
  (try simp only [Act.put, zA, zB, zC])
  refine' wpAnyH_take (i := 1) (oi := _) (v := _) ?hit2 ?hst2 ?hft2 ?hrt2 ?hQt2 ?hyt2 ?hSt2 ?_
  case hit2 => (simp only [zD, zE, zF]; rfl)
  case hst2 | hft2 | hrt2 => kernel_rfl
  case hQt2 => exact fun _ _ _ h => h
  case hSt2 => assumption
  case hyt2 =>
   refine Or.inl ⟨by rfl, ?_⟩
   intro w hSw
   (try dsimp only at hSw)
   go_simp
   all_goals (with_reducible rfl)
  (try simp only [Act.put, zA, zB, zC])
  refine' wpAnyH_take (i := 2) (oi := _) (v := _) ?hit3 ?hst3 ?hft3 ?hrt3 ?hQt3 ?hyt3 ?hSt3 ?_
  case hit3 => (simp only [zD, zE, zF]; rfl)
  case hst3 | hft3 | hrt3 => kernel_rfl
  case hQt3 => exact fun _ _ _ h => h
  case hSt3 => assumption
  case hyt3 =>
   refine Or.inl ⟨by rfl, ?_⟩
   intro w hSw
   (try dsimp only at hSw)
   go_simp
   all_goals (with_reducible rfl)
  (try simp only [Act.put, zA, zB, zC])
  refine' wpAnyH_take (i := 4) (oi := _) (v := .agg ch) ?hit4 ?hst4 ?hft4 ?hrt4 ?hQt4 ?hyt4 ?hSt4 ?_
  case hit4 => (simp only [zD, zE, zF]; rfl)
  case hst4 | hft4 | hrt4 => kernel_rfl
  case hQt4 => exact fun _ _ _ h => h
  case hSt4 => assumption
  case hyt4 =>
   refine Or.inl ⟨by rfl, ?_⟩
   intro W hS
   exact quiet_load_row 42 (.tmp 5) _ rfl 42 ch _ (H3.out.2.1.old hS) Tryd.underlying42 rfl okh.out.1 rfl
  (try simp only [Act.put, zA, zB, zC])
  refine wpAnyH_ready (rs := [3, 6]) (by kernel_rfl) (by simp) ?_
  refine' (AllReadyH.cons (o := _) ?hir5_3 (fun K hK => ?br5_3) (AllReadyH.cons (o := _) ?hir5_6 (fun K hK => ?br5_6) AllReadyH.nil))
  case hir5_3 => (simp only [zD, zE, zF]; rfl)
  case hir5_6 => (simp only [zD, zE, zF]; rfl)
  case br5_3 =>
   go_simp
   refine (HSQ.out _ (HP.out.old (H3.out.1.2.2.trans (HB0.out.mono H3.out.1.2.2.size)))).mono ?_
   rintro e w6 ⟨rfl, hb6⟩
   have H6 := hid (HB0.out.trans (hb6.mono HB0.out.size))
   clear hb6
   go_wp2_with fail
   refine hK.out _ _ ?_ (fun hHeld => ?_)
   exact H6.out
   clear hK K
   (try simp only [Act.put, zA, zB, zC])
   refine wpAnyH_ready (rs := [5, 6]) (by kernel_rfl) (by simp) ?_
   refine' (AllReadyH.cons (o := _) ?hir7_5 (fun K hK => ?br7_5) (AllReadyH.cons (o := _) ?hir7_6 (fun K hK => ?br7_6) AllReadyH.nil))
   case hir7_5 => (simp only [zD, zE, zF]; rfl)
   case hir7_6 => (simp only [zD, zE, zF]; rfl)
   case br7_5 =>
    go_simp
    refine (HML.out _ (HP.out.old (H3.out.1.2.2.trans (H6.out.mono H3.out.1.2.2.size)))).mono ?_
    rintro e w8 ⟨rfl, hb8⟩
    have H8 := hid (H6.out.trans (hb8.mono H6.out.size))
    clear hb8
    go_wp2_with fail
    refine hK.out _ _ ?_ (fun hHeld => ?_)
    exact H8.out
    clear hK K
    (try simp only [Act.put, zA, zB, zC])
    refine wpAnyH_ready (rs := [6]) (by kernel_rfl) (by simp) ?_
    refine' (AllReadyH.cons (o := _) ?hir9_6 (fun K hK => ?br9_6) AllReadyH.nil)
    case hir9_6 => (simp only [zD, zE, zF]; rfl)
    case br9_6 =>
     go_simp
     refine hK.out _ _ ?_ (fun hHeld => ?_)
     ·exact H8.out.alloc H8.out.size _
     have H10 := hid (H8.out.alloc H8.out.size (.cells #[.int .u64 0, .int .u64 0, .int .u64 0, .int .u64 0] 42))
     have N6_10 := hid (alloc_new H8.out 42 #[.int .u64 0, .int .u64 0, .int .u64 0, .int .u64 0])
     have G6_10 := hid H8.out.size
     clear hK K
     (try simp only [Act.put, zA, zB, zC])
     refine wpAnyH_ready (rs := [7]) (by kernel_rfl) (by simp) ?_
     refine' (AllReadyH.cons (o := _) ?hir11_7 (fun K hK => ?br11_7) AllReadyH.nil)
     case hir11_7 => (simp only [zD, zE, zF]; rfl)
     case br11_7 =>
      refine step_of_wp rfl ?_
      refine wp_store_row 42 (.tmp 6) (.tmp 19) rfl _ cb rfl rfl 42 _ N6_10.out okb.out.1 okb.out.2.2.1 okb.out.2.1 ?_
      refine hK.out _ _ ?_ (fun hHeld => ?_)
      exact below_row H10.out G6_10.out _
      clear hK K
      (try simp only [Act.put, zA, zB, zC])
      refine wpAnyH_done (by kernel_rfl) ?_ _
      go_wp2_with fail
      go_meet
      exact ⟨_, rfl, (H3.out.1.next H10.out).far (by have := H3.out.1.lt; have := G6_10.out; omega) _, N6_10.out.row _, by have := H3.out.1.lt; have := G6_10.out; omega⟩
   case br7_6 =>
    go_simp
    refine hK.out _ _ ?_ (fun hHeld => ?_)
    ·exact H6.out.alloc H6.out.size _
    have H13 := hid (H6.out.alloc H6.out.size (.cells #[.int .u64 0, .int .u64 0, .int .u64 0, .int .u64 0] 42))
    have N6_13 := hid (alloc_new H6.out 42 #[.int .u64 0, .int .u64 0, .int .u64 0, .int .u64 0])
    have G6_13 := hid H6.out.size
    clear hK K
    (try simp only [Act.put, zA, zB, zC])
    refine wpAnyH_ready (rs := [5]) (by kernel_rfl) (by simp) ?_
    refine' (AllReadyH.cons (o := _) ?hir14_5 (fun K hK => ?br14_5) AllReadyH.nil)
    case hir14_5 => (simp only [zD, zE, zF]; rfl)
    case br14_5 =>
     go_simp
     refine (HML.out _ (HP.out.old (H3.out.1.2.2.trans (H13.out.mono H3.out.1.2.2.size)))).mono ?_
     rintro e w15 ⟨rfl, hb15⟩
     have H15 := hid (H13.out.trans (hb15.mono H13.out.size))
     have N6_15 := hid (N6_13.out.old hb15)
     clear hb15
     go_wp2_with fail
     refine hK.out _ _ ?_ (fun hHeld => ?_)
     exact H15.out
     clear hK K
     (try simp only [Act.put, zA, zB, zC])
     refine wpAnyH_ready (rs := [7]) (by kernel_rfl) (by simp) ?_
     refine' (AllReadyH.cons (o := _) ?hir16_7 (fun K hK => ?br16_7) AllReadyH.nil)
     case hir16_7 => (simp only [zD, zE, zF]; rfl)
     case br16_7 =>
      refine step_of_wp rfl ?_
      refine wp_store_row 42 (.tmp 6) (.tmp 19) rfl _ cb rfl rfl 42 _ N6_15.out okb.out.1 okb.out.2.2.1 okb.out.2.1 ?_
      refine hK.out _ _ ?_ (fun hHeld => ?_)
      exact below_row H15.out G6_13.out _
      clear hK K
      (try simp only [Act.put, zA, zB, zC])
      refine wpAnyH_done (by kernel_rfl) ?_ _
      go_wp2_with fail
      go_meet
      exact ⟨_, rfl, (H3.out.1.next H15.out).far (by have := H3.out.1.lt; have := G6_13.out; omega) _, N6_15.out.row _, by have := H3.out.1.lt; have := G6_13.out; omega⟩
  case br5_6 =>
   go_simp
   refine hK.out _ _ ?_ (fun hHeld => ?_)
   ·exact HB0.out.alloc HB0.out.size _
   have H18 := hid (HB0.out.alloc HB0.out.size (.cells #[.int .u64 0, .int .u64 0, .int .u64 0, .int .u64 0] 42))
   have N6_18 := hid (alloc_new HB0.out 42 #[.int .u64 0, .int .u64 0, .int .u64 0, .int .u64 0])
   have G6_18 := hid HB0.out.size
   clear hK K
   (try simp only [Act.put, zA, zB, zC])
   refine wpAnyH_ready (rs := [3]) (by kernel_rfl) (by simp) ?_
   refine' (AllReadyH.cons (o := _) ?hir19_3 (fun K hK => ?br19_3) AllReadyH.nil)
   case hir19_3 => (simp only [zD, zE, zF]; rfl)
   case br19_3 =>
    go_simp
    refine (HSQ.out _ (HP.out.old (H3.out.1.2.2.trans (H18.out.mono H3.out.1.2.2.size)))).mono ?_
    rintro e w20 ⟨rfl, hb20⟩
    have H20 := hid (H18.out.trans (hb20.mono H18.out.size))
    have N6_20 := hid (N6_18.out.old hb20)
    clear hb20
    go_wp2_with fail
    refine hK.out _ _ ?_ (fun hHeld => ?_)
    exact H20.out
    clear hK K
    (try simp only [Act.put, zA, zB, zC])
    refine wpAnyH_ready (rs := [5]) (by kernel_rfl) (by simp) ?_
    refine' (AllReadyH.cons (o := _) ?hir21_5 (fun K hK => ?br21_5) AllReadyH.nil)
    case hir21_5 => (simp only [zD, zE, zF]; rfl)
    case br21_5 =>
     go_simp
     refine (HML.out _ (HP.out.old (H3.out.1.2.2.trans (H20.out.mono H3.out.1.2.2.size)))).mono ?_
     rintro e w22 ⟨rfl, hb22⟩
     have H22 := hid (H20.out.trans (hb22.mono H20.out.size))
     have N6_22 := hid (N6_20.out.old hb22)
     clear hb22
     go_wp2_with fail
     refine hK.out _ _ ?_ (fun hHeld => ?_)
     exact H22.out
     clear hK K
     (try simp only [Act.put, zA, zB, zC])
     refine wpAnyH_ready (rs := [7]) (by kernel_rfl) (by simp) ?_
     refine' (AllReadyH.cons (o := _) ?hir23_7 (fun K hK => ?br23_7) AllReadyH.nil)
     case hir23_7 => (simp only [zD, zE, zF]; rfl)
     case br23_7 =>
      refine step_of_wp rfl ?_
      refine wp_store_row 42 (.tmp 6) (.tmp 19) rfl _ cb rfl rfl 42 _ N6_22.out okb.out.1 okb.out.2.2.1 okb.out.2.1 ?_
      refine hK.out _ _ ?_ (fun hHeld => ?_)
      exact below_row H22.out G6_18.out _
      clear hK K
      (try simp only [Act.put, zA, zB, zC])
      refine wpAnyH_done (by kernel_rfl) ?_ _
      go_wp2_with fail
      go_meet
      exact ⟨_, rfl, (H3.out.1.next H22.out).far (by have := H3.out.1.lt; have := G6_18.out; omega) _, N6_22.out.row _, by have := H3.out.1.lt; have := G6_18.out; omega⟩
 case rest =>
  obtain ⟨g6, rfl, h6⟩ := hcut
  have H6 := hid h6
  clear h6
  have hcase : c = 2 * h ∨ c = 2 * h + 1 := by rw [hh.out]; omega
  rcases hcase with hce | hce
  ·have m1 : (c : Int).tmod 2 = 0 := by rw [Int.tmod_eq_emod_of_nonneg (by omega)]; omega
   have m2 : (c : Int) % 2 = 0 := by omega
   have hres : Hid (cb = limA (pw n (2 ^ c - 1))) := by rw [hce]; exact hcb
   clear hce
   go_wp2_with (first | (refine wpList_load_row rfl 42 (.tmp 6) rfl g6 rfl 42 cb (0, 0) _ H6.out.2.1 Tryd.underlying42 rfl okb.out.1 ?_) |
    (refine wpList_store_row rfl 42 (.tmp 4) (.tmp 27) rfl (w.heap.size + 1) cb rfl rfl 42 _ H6.out.1.2.1 okb.out.1 okb.out.2.2.1 okb.out.2.1 ?_))
   refine bodyPost_ret (v := .agg cb) ?_ rfl ⟨by rw [hres.out], (H6.out.1.snd cb).2.2⟩
   exact results_cell_row Tryd.results47 _ _ (w.heap.size + 1) 42 cb (0, 0) _ rfl (H6.out.1.snd cb).2.1 Tryd.underlying42 rfl okb.out.1
  ·have m1 : (c : Int).tmod 2 = 1 := by rw [Int.tmod_eq_emod_of_nonneg (by omega)]; omega
   have m2 : (c : Int) % 2 = 1 := by omega
   have hres : Hid (cd = limA (pw n (2 ^ c - 1))) := by rw [hce]; exact hcd
   clear hce
   go_upto_region 6 with fail
   generalize wc = W2 at *
   refine wp_region_held_drew (S := fun V => Far g6 W2 V) (by kernel_rfl) (Far.of (Below.refl _ _).drew) (fun hHeld => ?_)
   have HB1 := hid ((Below.refl W2.heap.size W2).drew)
   generalize W2.drew = V1 at *
   refine' wpAnyH_take (i := 2) (oi := _) (v := .agg cn) ?hit25 ?hst25 ?hft25 ?hrt25 ?hQt25 ?hyt25 ?hSt25 ?_
   case hit25 => (simp only [zD, zE, zF]; rfl)
   case hst25 | hft25 | hrt25 => kernel_rfl
   case hQt25 => exact fun _ _ _ h => h
   case hSt25 => assumption
   case hyt25 =>
    refine Or.inl ⟨by rfl, ?_⟩
    intro W hS
    exact quiet_load_row 42 (.tmp 2) _ rfl 42 cn _ (hS _ _ _ (by have := H6.out.2.2; omega) H6.out.1.1) Tryd.underlying42 rfl hni.out rfl
   (try simp only [Act.put, zA, zB, zC])
   refine wpAnyH_ready (rs := [0]) (by kernel_rfl) (by simp) ?_
   refine' (AllReadyH.cons (o := _) ?hir26_0 (fun K hK => ?br26_0) AllReadyH.nil)
   case hir26_0 => (simp only [zD, zE, zF]; rfl)
   case br26_0 =>
    refine step_of_wp rfl ?_
    refine wp_load_row 42 (.tmp 6) rfl g6 rfl 42 cb (0, 0) _ (H6.out.2.1.old HB1.out) Tryd.underlying42 rfl okb.out.1 ?_
    refine hK.out _ _ ?_ (fun hHeld => ?_)
    exact Far.of HB1.out
    clear hK K
    (try simp only [Act.put, zA, zB, zC])
    refine wpAnyH_ready (rs := [1]) (by kernel_rfl) (by simp) ?_
    refine' (AllReadyH.cons (o := _) ?hir28_1 (fun K hK => ?br28_1) AllReadyH.nil)
    case hir28_1 => (simp only [zD, zE, zF]; rfl)
    case br28_1 =>
     go_simp
     refine (HSQ1.out _ (HP.out.old (H6.out.1.2.2.trans (HB1.out.mono H6.out.1.2.2.size)))).mono ?_
     rintro e w29 ⟨rfl, hb29⟩
     have H29 := hid (HB1.out.trans (hb29.mono HB1.out.size))
     clear hb29
     go_wp2_with fail
     refine hK.out _ _ ?_ (fun hHeld => ?_)
     exact Far.of H29.out
     clear hK K
     (try simp only [Act.put, zA, zB, zC])
     refine wpAnyH_ready (rs := [3]) (by kernel_rfl) (by simp) ?_
     refine' (AllReadyH.cons (o := _) ?hir30_3 (fun K hK => ?br30_3) AllReadyH.nil)
     case hir30_3 => (simp only [zD, zE, zF]; rfl)
     case br30_3 =>
      go_simp
      refine (HML1.out _ (HP.out.old (H6.out.1.2.2.trans (H29.out.mono H6.out.1.2.2.size)))).mono ?_
      rintro e w31 ⟨rfl, hb31⟩
      have H31 := hid (H29.out.trans (hb31.mono H29.out.size))
      clear hb31
      go_wp2_with fail
      refine hK.out _ _ ?_ (fun hHeld => ?_)
      exact Far.of H31.out
      clear hK K
      (try simp only [Act.put, zA, zB, zC])
      refine wpAnyH_ready (rs := [4]) (by kernel_rfl) (by simp) ?_
      refine' (AllReadyH.cons (o := _) ?hir32_4 (fun K hK => ?br32_4) AllReadyH.nil)
      case hir32_4 => (simp only [zD, zE, zF]; rfl)
      case br32_4 =>
       refine step_of_wp rfl ?_
       refine wp_store_row 42 (.tmp 6) (.tmp 26) rfl g6 cd rfl rfl 42 cb (H6.out.2.1.old H31.out) okd.out.1 okb.out.2.2.2 okd.out.2.1 ?_
       refine hK.out _ _ ?_ (fun hHeld => ?_)
       exact (Far.of H31.out).row _
       clear hK K
       (try simp only [Act.put, zA, zB, zC])
       refine wpAnyH_done (by kernel_rfl) ?_ _
       have H7 := hid ((H6.out.next H31.out).third cd)
       generalize World.setRow _ g6 cd = V2 at *
       go_wp2_with (first | (refine wpList_load_row rfl 42 (.tmp 6) rfl g6 rfl 42 cd (0, 0) _ H7.out.2.1 Tryd.underlying42 rfl okd.out.1 ?_) |
        (refine wpList_store_row rfl 42 (.tmp 4) (.tmp 27) rfl (w.heap.size + 1) cd rfl rfl 42 _ H7.out.1.2.1 okd.out.1 okd.out.2.2 okd.out.2.1 ?_))
       refine bodyPost_ret (v := .agg cd) ?_ rfl ⟨by rw [hres.out], (H7.out.1.snd cd).2.2⟩
       exact results_cell_row Tryd.results47 _ _ (w.heap.size + 1) 42 cd (0, 0) _ rfl (H7.out.1.snd cd).2.1 Tryd.underlying42 rfl okd.out.1
end Go.Proofs.YtcfogpeinjehbaaDoor
end

section
namespace Go.Proofs.YtcfogpeinjehbaaDoor
open Go Go.Proofs Go.RowKit F5
/-- The limbs of turn stand in their variable. -/
def TurnAt (w : World) : Prop := 1 < w.heap.size ∧ ∀ j v, (limA I4)[j]? = some v → w.cell? ⟨1, 0 + j, none⟩ = some v
theorem TurnAt.old {w w' : World} (h : TurnAt w) (hb : Below w.heap.size w w') : TurnAt w' :=
 ⟨Nat.lt_of_lt_of_le h.1 hb.size, fun j v hj => (hb.cell (p := ⟨1, 0 + j, none⟩) h.1).trans (h.2 j v hj)⟩
theorem mul_pw (n a b : Nat) (V : World) (hV : PrimeAt V) : Calls Tryd.prog 24 #[.agg (limA (pw n a)), .agg (limA (pw n b))] V fun e w' => e = .returned (.agg (limA (pw n (a + b)))) ∧ Below V.heap.size V w' := by
 have := mul_e (pw n a) (pw n b) (pw_lt _ _) (pw_lt _ _) V hV
 rwa [pw_add] at this
theorem sq_pw (n a t : Nat) (ti : Int) (hti : ti = (t : Int)) (ht : t ≤ 1000) (V : World) (hV : PrimeAt V) : Calls Tryd.prog 46 #[.agg (limA (pw n a)), .int .i64 ti] V fun e w' => e = .returned (.agg (limA (pw n (a * 2 ^ t)))) ∧ Below V.heap.size V w' := by
 have := squared_any (pw n a) t (pw_lt _ _) ht V hV
 rw [pw_pw] at this
 rw [hti]; exact this
theorem ones_pw (n c : Nat) (ci : Int) (hci : ci = (c : Int)) (hc1 : 1 ≤ c) (hc : c ≤ 1000) (hn : n < P) (V : World) (hV : PrimeAt V) : Calls Tryd.prog 47 #[.agg (limA n), .int .i64 ci] V fun e w' => e = .returned (.agg (limA (pw n (2 ^ c - 1)))) ∧ Below V.heap.size V w' := by
 rw [hci]; exact ones_any c hc1 hc n V hn hV
theorem limA_ok (n : Nat) : (Tryd.prog.info? 42).map (·.size) = some (limA n).size ∧ (limA n).all (·.oneCell') = true ∧ Array.size (#[.int .u64 0, .int .u64 0, .int .u64 0, .int .u64 0] : Array Value) = (limA n).size := ⟨limA_infoE _, limA_one _, Z4_size _⟩
theorem inv_exp (a : Nat) (h : a = 2 ^ 250 - 1) : a * 2 ^ 5 + 8 + 2 + 1 = P - 2 := by subst h; decide +kernel
theorem root_exp (a : Nat) (h : a = 2 ^ 251 - 1) : a * 2 ^ 1 = E8 := by subst h; decide +kernel
set_option maxHeartbeats 8000000 in
set_option maxRecDepth 100000 in
theorem inv_e (n : Nat) (w : World) (hn : n < P) (hP : PrimeAt w) :
  Calls Tryd.prog 25 #[elemV n] w fun e w' => e = .returned (elemV (pw n (P - 2))) ∧ Below w.heap.size w w' := by
 unfold elemV
 have HP := hid hP
 have HN := hid hn
 have h2 := Two2.new w (limA n) #[.int .u64 0, .int .u64 0, .int .u64 0, .int .u64 0]
 obtain ⟨a, ha⟩ := named (2 ^ 250 - 1)
 have hres := inv_exp a ha.out
 rw [← hres]
 have C1 : Hid (∀ V, PrimeAt V → Calls Tryd.prog 46 #[.agg (limA n), .int .i64 1] V fun e w' => e = .returned (.agg (limA (pw n 2))) ∧ Below V.heap.size V w') := hid fun V hV => by
  have := sq_pw n 1 1 1 rfl (by omega) V hV
  rwa [pw_one HN.out] at this
 have C2 : Hid (∀ V, PrimeAt V → Calls Tryd.prog 46 #[.agg (limA (pw n 2)), .int .i64 2] V fun e w' => e = .returned (.agg (limA (pw n 8))) ∧ Below V.heap.size V w') := hid fun V hV => sq_pw n 2 2 2 rfl (by omega) V hV
 have C3 : Hid (∀ V, PrimeAt V → Calls Tryd.prog 47 #[.agg (limA n), .int .i64 250] V fun e w' => e = .returned (.agg (limA (pw n a))) ∧ Below V.heap.size V w') := hid fun V hV => by
  rw [ha.out]; exact ones_pw n 250 250 rfl (by omega) (by omega) HN.out V hV
 have C4 : Hid (∀ V, PrimeAt V → Calls Tryd.prog 46 #[.agg (limA (pw n a)), .int .i64 5] V fun e w' => e = .returned (.agg (limA (pw n (a * 2 ^ 5)))) ∧ Below V.heap.size V w') := hid fun V hV => sq_pw n a 5 5 rfl (by omega) V hV
 have C5 : Hid (∀ V, PrimeAt V → Calls Tryd.prog 24 #[.agg (limA (pw n (a * 2 ^ 5))), .agg (limA (pw n 8))] V fun e w' => e = .returned (.agg (limA (pw n (a * 2 ^ 5 + 8)))) ∧ Below V.heap.size V w') := hid fun V hV => mul_pw n _ _ V hV
 have C6 : Hid (∀ V, PrimeAt V → Calls Tryd.prog 24 #[.agg (limA (pw n (a * 2 ^ 5 + 8))), .agg (limA (pw n 2))] V fun e w' => e = .returned (.agg (limA (pw n (a * 2 ^ 5 + 8 + 2)))) ∧ Below V.heap.size V w') := hid fun V hV => mul_pw n _ _ V hV
 have C7 : Hid (∀ V, PrimeAt V → Calls Tryd.prog 24 #[.agg (limA (pw n (a * 2 ^ 5 + 8 + 2))), .agg (limA n)] V fun e w' => e = .returned (.agg (limA (pw n (a * 2 ^ 5 + 8 + 2 + 1)))) ∧ Below V.heap.size V w') := hid fun V hV => by
  have := mul_pw n (a * 2 ^ 5 + 8 + 2) 1 V hV
  rwa [pw_one HN.out] at this
 have o0 := hid (limA_ok n)
 have o2 := hid (limA_ok (pw n 2))
 have o8 := hid (limA_ok (pw n 8))
 have oR := hid (limA_ok (pw n (a * 2 ^ 5 + 8 + 2 + 1)))
 clear hP hn hres
 generalize limA (pw n (a * 2 ^ 5 + 8 + 2 + 1)) = R at *
 generalize limA (pw n (a * 2 ^ 5 + 8 + 2)) = c6 at *
 generalize limA (pw n (a * 2 ^ 5 + 8)) = c5 at *
 generalize limA (pw n (a * 2 ^ 5)) = c4 at *
 generalize limA (pw n a) = c3 at *
 generalize limA (pw n 2) = x2 at *
 generalize limA (pw n 8) = x8 at *
 generalize limA n = x at *
 go_enter Tryd.func25, Tryd.ntmps25
 go_upto_region 1 with fail
 generalize (w.alloc (.cells x 42)).alloc (.cells #[.int .u64 0, .int .u64 0, .int .u64 0, .int .u64 0] 42) = W at *
 have H2 := hid h2
 clear h2
 go_upto_region 2 with (first | (refine wpList_load_row rfl 42 (.tmp 1) rfl w.heap.size rfl 42 x (0, 0) _ H2.out.1 Tryd.underlying42 rfl o0.out.1 ?_))
 refine (C1.out _ (HP.out.old H2.out.2.2)).mono ?_
 rintro e w1 ⟨rfl, hb1⟩
 have H21 := hid (H2.out.next hb1)
 clear hb1
 go_upto_region 2 with (first | (refine wpList_store_row rfl 42 (.tmp 3) (.tmp 6) rfl w1.heap.size x2 rfl rfl 42 _ (heap_alloc_new w1 _) o2.out.1 o2.out.2.2 o2.out.2.1 ?_; rw [setRow_alloc1]))
 have h3 : Three2 w x #[.int .u64 0, .int .u64 0, .int .u64 0, .int .u64 0] x2 w1.heap.size (w1.alloc (.cells x2 42)) := ⟨H21.out.next ((Below.refl _ _).alloc (Nat.le_refl _) _), Blk.new _ _ _, H21.out.lt⟩
 generalize w1.alloc (.cells x2 42) = W1 at *
 generalize w1.heap.size = g3 at *
 have H3 := hid h3
 clear h3
 go_upto_region 3 with (first | (refine wpList_load_row rfl 42 (.tmp 3) rfl g3 rfl 42 x2 (0, 0) _ H3.out.2.1 Tryd.underlying42 rfl o2.out.1 ?_))
 refine (C2.out _ (HP.out.old H3.out.1.2.2)).mono ?_
 rintro e w2 ⟨rfl, hb1⟩
 have H31 := hid (H3.out.next hb1)
 clear hb1
 go_upto_region 3 with (first | (refine wpList_store_row rfl 42 (.tmp 4) (.tmp 8) rfl w2.heap.size x8 rfl rfl 42 _ (heap_alloc_new w2 _) o8.out.1 o8.out.2.2 o8.out.2.1 ?_; rw [setRow_alloc1]))
 have h4 : Three2 w x #[.int .u64 0, .int .u64 0, .int .u64 0, .int .u64 0] x2 g3 (w2.alloc (.cells x8 42)) := H31.out.next ((Below.refl _ _).alloc (Nat.le_refl _) _)
 have h8 : Blk (w2.alloc (.cells x8 42)) w2.heap.size 42 x8 := Blk.new _ _ _
 have hg4 : w.heap.size + 1 < w2.heap.size := H31.out.1.lt
 generalize w2.alloc (.cells x8 42) = W2 at *
 generalize w2.heap.size = g4 at *
 have H4 := hid h4
 have H8 := hid h8
 have G4 := hid hg4
 clear h4 h8 hg4
 (try simp only [Act.put, zA, zB, zC])
 refine wp_region_held_drew (S := fun V => Far (w.heap.size + 1) W2 V) (by kernel_rfl) (Far.of (Below.refl _ _).drew) (fun hHeld => ?_)
 have HBW2 := hid ((Below.refl W2.heap.size W2).drew)
 generalize W2.drew = VW2 at *
 refine' wpAnyH_take (i := 0) (oi := _) (v := .agg x) ?hit1 ?hst1 ?hft1 ?hrt1 ?hQt1 ?hyt1 ?hSt1 ?_
 case hit1 => (simp only [zD, zE, zF]; rfl)
 case hst1 | hft1 | hrt1 => kernel_rfl
 case hQt1 => exact fun _ _ _ h => h
 case hSt1 => assumption
 case hyt1 =>
  refine Or.inl ⟨by rfl, ?_⟩
  intro W hS
  exact quiet_load_row 42 (.tmp 1) _ rfl 42 x _ (hS _ _ _ (by have := H4.out.2.2; have := G4.out; omega) H4.out.1.1) Tryd.underlying42 rfl o0.out.1 rfl
 (try simp only [Act.put, zA, zB, zC])
 refine' wpAnyH_take (i := 3) (oi := _) (v := .agg x8) ?hit2 ?hst2 ?hft2 ?hrt2 ?hQt2 ?hyt2 ?hSt2 ?_
 case hit2 => (simp only [zD, zE, zF]; rfl)
 case hst2 | hft2 | hrt2 => kernel_rfl
 case hQt2 => exact fun _ _ _ h => h
 case hSt2 => assumption
 case hyt2 =>
  refine Or.inl ⟨by rfl, ?_⟩
  intro W hS
  exact quiet_load_row 42 (.tmp 4) _ rfl 42 x8 _ (hS _ _ _ (by have := H4.out.2.2; have := G4.out; omega) H8.out) Tryd.underlying42 rfl o8.out.1 rfl
 (try simp only [Act.put, zA, zB, zC])
 refine' wpAnyH_take (i := 5) (oi := _) (v := .agg x2) ?hit3 ?hst3 ?hft3 ?hrt3 ?hQt3 ?hyt3 ?hSt3 ?_
 case hit3 => (simp only [zD, zE, zF]; rfl)
 case hst3 | hft3 | hrt3 => kernel_rfl
 case hQt3 => exact fun _ _ _ h => h
 case hSt3 => assumption
 case hyt3 =>
  refine Or.inl ⟨by rfl, ?_⟩
  intro W hS
  exact quiet_load_row 42 (.tmp 3) _ rfl 42 x2 _ (hS _ _ _ (by have := H4.out.2.2; have := G4.out; omega) H4.out.2.1) Tryd.underlying42 rfl o2.out.1 rfl
 (try simp only [Act.put, zA, zB, zC])
 refine' wpAnyH_take (i := 7) (oi := _) (v := .agg x) ?hit4 ?hst4 ?hft4 ?hrt4 ?hQt4 ?hyt4 ?hSt4 ?_
 case hit4 => (simp only [zD, zE, zF]; rfl)
 case hst4 | hft4 | hrt4 => kernel_rfl
 case hQt4 => exact fun _ _ _ h => h
 case hSt4 => assumption
 case hyt4 =>
  refine Or.inl ⟨by rfl, ?_⟩
  intro W hS
  exact quiet_load_row 42 (.tmp 1) _ rfl 42 x _ (hS _ _ _ (by have := H4.out.2.2; have := G4.out; omega) H4.out.1.1) Tryd.underlying42 rfl o0.out.1 rfl
 (try simp only [Act.put, zA, zB, zC])
 refine wpAnyH_ready (rs := [1]) (by kernel_rfl) (by simp) ?_
 refine' (AllReadyH.cons (o := _) ?hir5_1 (fun K hK => ?br5_1) AllReadyH.nil)
 case hir5_1 => (simp only [zD, zE, zF]; rfl)
 case br5_1 =>
  go_simp
  refine (C3.out _ (HP.out.old (H4.out.1.2.2.trans (HBW2.out.mono H4.out.1.2.2.size)))).mono ?_
  rintro e w6 ⟨rfl, hb6⟩
  have H6 := hid (HBW2.out.trans (hb6.mono HBW2.out.size))
  clear hb6
  go_wp2_with fail
  refine hK.out _ _ ?_ (fun hHeld => ?_)
  exact Far.of H6.out
  clear hK K
  (try simp only [Act.put, zA, zB, zC])
  refine wpAnyH_ready (rs := [2]) (by kernel_rfl) (by simp) ?_
  refine' (AllReadyH.cons (o := _) ?hir7_2 (fun K hK => ?br7_2) AllReadyH.nil)
  case hir7_2 => (simp only [zD, zE, zF]; rfl)
  case br7_2 =>
   go_simp
   refine (C4.out _ (HP.out.old (H4.out.1.2.2.trans (H6.out.mono H4.out.1.2.2.size)))).mono ?_
   rintro e w8 ⟨rfl, hb8⟩
   have H8 := hid (H6.out.trans (hb8.mono H6.out.size))
   clear hb8
   go_wp2_with fail
   refine hK.out _ _ ?_ (fun hHeld => ?_)
   exact Far.of H8.out
   clear hK K
   (try simp only [Act.put, zA, zB, zC])
   refine wpAnyH_ready (rs := [4]) (by kernel_rfl) (by simp) ?_
   refine' (AllReadyH.cons (o := _) ?hir9_4 (fun K hK => ?br9_4) AllReadyH.nil)
   case hir9_4 => (simp only [zD, zE, zF]; rfl)
   case br9_4 =>
    go_simp
    refine (C5.out _ (HP.out.old (H4.out.1.2.2.trans (H8.out.mono H4.out.1.2.2.size)))).mono ?_
    rintro e w10 ⟨rfl, hb10⟩
    have H10 := hid (H8.out.trans (hb10.mono H8.out.size))
    clear hb10
    go_wp2_with fail
    refine hK.out _ _ ?_ (fun hHeld => ?_)
    exact Far.of H10.out
    clear hK K
    (try simp only [Act.put, zA, zB, zC])
    refine wpAnyH_ready (rs := [6]) (by kernel_rfl) (by simp) ?_
    refine' (AllReadyH.cons (o := _) ?hir11_6 (fun K hK => ?br11_6) AllReadyH.nil)
    case hir11_6 => (simp only [zD, zE, zF]; rfl)
    case br11_6 =>
     go_simp
     refine (C6.out _ (HP.out.old (H4.out.1.2.2.trans (H10.out.mono H4.out.1.2.2.size)))).mono ?_
     rintro e w12 ⟨rfl, hb12⟩
     have H12 := hid (H10.out.trans (hb12.mono H10.out.size))
     clear hb12
     go_wp2_with fail
     refine hK.out _ _ ?_ (fun hHeld => ?_)
     exact Far.of H12.out
     clear hK K
     (try simp only [Act.put, zA, zB, zC])
     refine wpAnyH_ready (rs := [8]) (by kernel_rfl) (by simp) ?_
     refine' (AllReadyH.cons (o := _) ?hir13_8 (fun K hK => ?br13_8) AllReadyH.nil)
     case hir13_8 => (simp only [zD, zE, zF]; rfl)
     case br13_8 =>
      go_simp
      refine (C7.out _ (HP.out.old (H4.out.1.2.2.trans (H12.out.mono H4.out.1.2.2.size)))).mono ?_
      rintro e w14 ⟨rfl, hb14⟩
      have H14 := hid (H12.out.trans (hb14.mono H12.out.size))
      clear hb14
      go_wp2_with fail
      refine hK.out _ _ ?_ (fun hHeld => ?_)
      exact Far.of H14.out
      clear hK K
      (try simp only [Act.put, zA, zB, zC])
      refine wpAnyH_ready (rs := [9]) (by kernel_rfl) (by simp) ?_
      refine' (AllReadyH.cons (o := _) ?hir15_9 (fun K hK => ?br15_9) AllReadyH.nil)
      case hir15_9 => (simp only [zD, zE, zF]; rfl)
      case br15_9 =>
       refine step_of_wp rfl ?_
       refine wp_store_row 42 (.tmp 2) (.tmp 17) rfl (w.heap.size + 1) R rfl rfl 42 _ (H4.out.1.2.1.old H14.out) oR.out.1 oR.out.2.2 oR.out.2.1 ?_
       refine hK.out _ _ ?_ (fun hHeld => ?_)
       exact (Far.of H14.out).row _
       clear hK K
       (try simp only [Act.put, zA, zB, zC])
       refine wpAnyH_done (by kernel_rfl) ?_ _
       have H5 := hid ((H4.out.1.next H14.out).snd R)
       generalize World.setRow _ (w.heap.size + 1) R = V2 at *
       go_wp2_with fail
       refine bodyPost_ret (v := .agg R) ?_ rfl ⟨rfl, H5.out.2.2⟩
       exact results_cell_row Tryd.results25 _ _ (w.heap.size + 1) 42 R (0, 0) _ rfl H5.out.2.1 Tryd.underlying42 rfl oR.out.1
theorem pw_two (r : Nat) : pw r (2 ^ 1) = r * r % P := by rw [pw, show 2 ^ 1 = 2 from rfl, Nat.pow_two]
theorem odd_neg {r : Nat} (h : r < P) (ho : r % 2 = 1) : (0 + P - r) % P = P - r := by
 rw [Nat.zero_add]; exact Nat.mod_eq_of_lt (by have := P_pos; omega)
set_option maxHeartbeats 8000000 in
set_option maxRecDepth 100000 in
theorem root_e (n : Nat) (w : World) (hn : n < P) (hP : PrimeAt w) (hT : TurnAt w) :
  Calls Tryd.prog 48 #[elemV n] w fun e w' => e = .returned (.tuple #[elemV (root n), .bool (decide (hasRoot n))]) ∧ Below w.heap.size w w' := by
 unfold elemV
 have HP := hid hP
 have HT := hid hT
 have HN := hid hn
 have h2 := Two2.new w (limA n) #[.int .u64 0, .int .u64 0, .int .u64 0, .int .u64 0]
 obtain ⟨a, ha⟩ := named (2 ^ 251 - 1)
 have C1 : Hid (∀ V, PrimeAt V → Calls Tryd.prog 47 #[.agg (limA n), .int .i64 251] V fun e w' => e = .returned (.agg (limA (pw n a))) ∧ Below V.heap.size V w') := hid fun V hV => by
  rw [ha.out]; exact ones_pw n 251 251 rfl (by omega) (by omega) HN.out V hV
 have C2 : Hid (∀ V, PrimeAt V → Calls Tryd.prog 46 #[.agg (limA (pw n a)), .int .i64 1] V fun e w' => e = .returned (.agg (limA (pw n E8))) ∧ Below V.heap.size V w') := hid fun V hV => by
  have := sq_pw n a 1 1 rfl (by omega) V hV
  rwa [root_exp a ha.out] at this
 have hrl : pw n E8 < P := pw_lt _ _
 have hroot1 : root1 n = if pw n E8 * pw n E8 % P = n then pw n E8 else pw n E8 * I4 % P := rfl
 generalize pw n E8 = r at *
 have HR1 := hid hroot1
 have hr1l := root1_lt n
 have hroot : Hid (root n = if hasRoot n then (if root1 n % 2 = 1 then P - root1 n else root1 n) else 0) := hid rfl
 have hhas : Hid (hasRoot n ↔ root1 n * root1 n % P = n) := hid Iff.rfl
 have C3 : Hid (∀ V, PrimeAt V → Calls Tryd.prog 46 #[.agg (limA r), .int .i64 1] V fun e w' => e = .returned (.agg (limA (r * r % P))) ∧ Below V.heap.size V w') := hid fun V hV => by
  have := squared_any r 1 hrl (by omega) V hV
  rwa [pw_two] at this
 have C4 : Hid (∀ V, Calls Tryd.prog 39 #[.agg (limA (r * r % P)), .agg (limA n)] V fun e w' => e = .returned (.bool (decide (r * r % P = n))) ∧ Below V.heap.size V w') := hid fun V => same_e _ _ (Nat.mod_lt _ P_pos) HN.out V
 have C5 : Hid (∀ V, PrimeAt V → Calls Tryd.prog 24 #[.agg (limA r), .agg (limA I4)] V fun e w' => e = .returned (.agg (limA (r * I4 % P))) ∧ Below V.heap.size V w') := hid fun V hV => mul_e r I4 hrl I4_lt V hV
 have C6 : Hid (∀ V, PrimeAt V → Calls Tryd.prog 46 #[.agg (limA (root1 n)), .int .i64 1] V fun e w' => e = .returned (.agg (limA (root1 n * root1 n % P))) ∧ Below V.heap.size V w') := hid fun V hV => by
  have := squared_any (root1 n) 1 hr1l (by omega) V hV
  rwa [pw_two] at this
 have C7 : Hid (∀ V, Calls Tryd.prog 39 #[.agg (limA (root1 n * root1 n % P)), .agg (limA n)] V fun e w' => e = .returned (.bool (decide (root1 n * root1 n % P = n))) ∧ Below V.heap.size V w') := hid fun V => same_e _ _ (Nat.mod_lt _ P_pos) HN.out V
 have C8 : Hid (∀ V, Calls Tryd.prog 33 #[.agg (limA (root1 n))] V fun e w' => e = .returned (.bool (decide (root1 n % 2 = 1))) ∧ Below V.heap.size V w') := hid fun V => odd_e _ V
 have C9 : Hid (∀ V, PrimeAt V → Calls Tryd.prog 41 #[.agg #[.int .u64 0, .int .u64 0, .int .u64 0, .int .u64 0], .agg (limA (root1 n))] V fun e w' => e = .returned (.agg (limA ((0 + P - root1 n) % P))) ∧ Below V.heap.size V w') := hid fun V hV => sub_e 0 (root1 n) P_pos hr1l V hV
 have o0 := hid (limA_ok n)
 have or := hid (limA_ok r)
 have oI := hid (limA_ok (r * I4 % P))
 have o1 := hid (limA_ok (root1 n))
 have oN := hid (limA_ok ((0 + P - root1 n) % P))
 have hsz : Hid ((limA r).size = (limA (r * I4 % P)).size ∧ (limA (root1 n)).size = (limA ((0 + P - root1 n) % P)).size) := hid ⟨by rw [limA_size, limA_size], by rw [limA_size, limA_size]⟩
 have hbt := hid (built_lim I4)
 have hti := hid (limA_info I4)
 obtain ⟨ct, hct⟩ : ∃ c, Hid (c = limA I4) := ⟨_, hid rfl⟩
 have HT2 : Hid (∀ V, TurnAt V → ∀ j v, ct[j]? = some v → V.cell? ⟨1, 0 + j, none⟩ = some v) := hid fun V hV j v hj => hV.2 j v (by rw [← hct.out]; exact hj)
 rw [← hct.out] at C5 hbt hti
 obtain ⟨b1, hb1⟩ : ∃ b, Hid (b = decide (r * r % P = n)) := ⟨_, hid rfl⟩
 obtain ⟨b2, hb2⟩ : ∃ b, Hid (b = decide (root1 n * root1 n % P = n)) := ⟨_, hid rfl⟩
 obtain ⟨b3, hb3⟩ : ∃ b, Hid (b = decide (root1 n % 2 = 1)) := ⟨_, hid rfl⟩
 rw [← hb1.out] at C4
 rw [← hb2.out] at C7
 rw [← hb3.out] at C8
 obtain ⟨x, hx⟩ : ∃ c, Hid (c = limA n) := ⟨_, hid rfl⟩
 obtain ⟨cr, hcr⟩ : ∃ c, Hid (c = limA r) := ⟨_, hid rfl⟩
 obtain ⟨cI, hcI⟩ : ∃ c, Hid (c = limA (r * I4 % P)) := ⟨_, hid rfl⟩
 obtain ⟨c1, hc1⟩ : ∃ c, Hid (c = limA (root1 n)) := ⟨_, hid rfl⟩
 obtain ⟨cN, hcN⟩ : ∃ c, Hid (c = limA ((0 + P - root1 n) % P)) := ⟨_, hid rfl⟩
 rw [← hx.out] at C1 C4 C7 o0 h2 ⊢
 rw [← hcr.out] at C2 C3 C5 or hsz
 rw [← hcI.out] at C5 oI hsz
 rw [← hc1.out] at C6 C8 C9 o1 hsz
 rw [← hcN.out] at C9 oN hsz
 obtain ⟨cR, hcR⟩ : ∃ c, Hid (c = limA (root n)) := ⟨_, hid rfl⟩
 have HRl := hid hrl
 have HR1l := hid hr1l
 clear hP hn hT hroot1 hrl hr1l
 go_enter Tryd.func48, Tryd.ntmps48
 go_upto_region 1 with fail
 generalize (w.alloc (.cells x 42)).alloc (.cells #[.int .u64 0, .int .u64 0, .int .u64 0, .int .u64 0] 42) = W at *
 have H2 := hid h2
 clear h2
 go_upto_region 2 with (first | (refine wpList_load_row rfl 42 (.tmp 1) rfl w.heap.size rfl 42 x (0, 0) _ H2.out.1 Tryd.underlying42 rfl o0.out.1 ?_))
 refine (C1.out _ (HP.out.old H2.out.2.2)).mono ?_
 rintro e w1 ⟨rfl, hb⟩
 have H21 := hid (H2.out.next hb)
 clear hb
 go_upto_region 2 with fail
 refine (C2.out _ (HP.out.old H21.out.2.2)).mono ?_
 rintro e w1 ⟨rfl, hb⟩
 have H22 := hid (H21.out.next hb)
 clear hb
 go_upto_region 2 with (first | (refine wpList_store_row rfl 42 (.tmp 4) (.tmp 7) rfl w1.heap.size cr rfl rfl 42 _ (heap_alloc_new w1 _) or.out.1 or.out.2.2 or.out.2.1 ?_; rw [setRow_alloc1]))
 have h3 : Three2 w x #[.int .u64 0, .int .u64 0, .int .u64 0, .int .u64 0] cr w1.heap.size (w1.alloc (.cells cr 42)) := ⟨H22.out.next ((Below.refl _ _).alloc (Nat.le_refl _) _), Blk.new _ _ _, H22.out.lt⟩
 generalize w1.alloc (.cells cr 42) = W1 at *
 generalize w1.heap.size = g4 at *
 have H3 := hid h3
 clear h3
 (try simp only [Act.put, zA, zB, zC])
 refine wp_region_held_drew (S := fun V => Below W1.heap.size W1 V) (by kernel_rfl) ((Below.refl _ _).drew) (fun hHeld => ?_)
 have HBW1 := hid ((Below.refl W1.heap.size W1).drew)
 generalize W1.drew = VW1 at *
 refine' wpAnyH_take (i := 0) (oi := _) (v := .agg cr) ?hit17 ?hst17 ?hft17 ?hrt17 ?hQt17 ?hyt17 ?hSt17 ?_
 case hit17 => (simp only [zD, zE, zF]; rfl)
 case hst17 | hft17 | hrt17 => kernel_rfl
 case hQt17 => exact fun _ _ _ h => h
 case hSt17 => assumption
 case hyt17 =>
  refine Or.inl ⟨by rfl, ?_⟩
  intro W hS
  exact quiet_load_row 42 (.tmp 4) _ rfl 42 cr _ (H3.out.2.1.old hS) Tryd.underlying42 rfl or.out.1 rfl
 (try simp only [Act.put, zA, zB, zC])
 refine' wpAnyH_take (i := 2) (oi := _) (v := .agg x) ?hit18 ?hst18 ?hft18 ?hrt18 ?hQt18 ?hyt18 ?hSt18 ?_
 case hit18 => (simp only [zD, zE, zF]; rfl)
 case hst18 | hft18 | hrt18 => kernel_rfl
 case hQt18 => exact fun _ _ _ h => h
 case hSt18 => assumption
 case hyt18 =>
  refine Or.inl ⟨by rfl, ?_⟩
  intro W hS
  exact quiet_load_row 42 (.tmp 1) _ rfl 42 x _ (H3.out.1.1.old hS) Tryd.underlying42 rfl o0.out.1 rfl
 (try simp only [Act.put, zA, zB, zC])
 refine wpAnyH_ready (rs := [1]) (by kernel_rfl) (by simp) ?_
 refine' (AllReadyH.cons (o := _) ?hir19_1 (fun K hK => ?br19_1) AllReadyH.nil)
 case hir19_1 => (simp only [zD, zE, zF]; rfl)
 case br19_1 =>
  go_simp
  refine (C3.out _ (HP.out.old (H3.out.1.2.2.trans (HBW1.out.mono H3.out.1.2.2.size)))).mono ?_
  rintro e w20 ⟨rfl, hb20⟩
  have H20 := hid (HBW1.out.trans (hb20.mono HBW1.out.size))
  clear hb20
  go_wp2_with fail
  refine hK.out _ _ ?_ (fun hHeld => ?_)
  exact H20.out
  clear hK K
  (try simp only [Act.put, zA, zB, zC])
  refine wpAnyH_ready (rs := [3]) (by kernel_rfl) (by simp) ?_
  refine' (AllReadyH.cons (o := _) ?hir21_3 (fun K hK => ?br21_3) AllReadyH.nil)
  case hir21_3 => (simp only [zD, zE, zF]; rfl)
  case br21_3 =>
   go_simp
   refine (C4.out _).mono ?_
   rintro e w22 ⟨rfl, hb22⟩
   have H22 := hid (H20.out.trans (hb22.mono H20.out.size))
   clear hb22
   go_wp2_with fail
   refine hK.out _ _ ?_ (fun hHeld => ?_)
   exact H22.out
   clear hK K
   (try simp only [Act.put, zA, zB, zC])
   refine' wpAnyH_take (i := 4) (oi := _) (v := _) ?hit23 ?hst23 ?hft23 ?hrt23 ?hQt23 ?hyt23 ?hSt23 ?_
   case hit23 => (simp only [zD, zE, zF]; rfl)
   case hst23 | hft23 | hrt23 => kernel_rfl
   case hQt23 => exact fun _ _ _ h => h
   case hSt23 => assumption
   case hyt23 =>
    refine Or.inl ⟨by rfl, ?_⟩
    intro w hSw
    (try dsimp only at hSw)
    go_simp
    all_goals (with_reducible rfl)
   (try simp only [Act.put, zA, zB, zC])
   refine wpAnyH_done (by kernel_rfl) ?_ _
   have H4 := hid (H3.out.next H22.out)
   have HT4 := hid (HT2.out _ (HT.out.old H4.out.1.2.2))
   have HP4 := hid (HP.out.old H4.out.1.2.2)
   clear hHeld
   go_upto_if 12 with fail
   (try simp only [Act.put, zA, zB, zC])
   go_cut [] (fun wx => Three2 w x #[.int .u64 0, .int .u64 0, .int .u64 0, .int .u64 0] c1 g4 wx)
   case first =>
    cases hb1v : b1
    ·have e1 : Hid (cI = c1) := by
      rw [hcI.out, hc1.out, HR1.out, if_neg (by have := hb1.out; rw [hb1v] at this; simpa using this.symm)]; exact hid rfl
     clear hb1v
     go_wp2_with (first | (refine wpList_load_row rfl 42 (.tmp 4) rfl g4 rfl 42 cr (0, 0) _ H4.out.2.1 Tryd.underlying42 rfl or.out.1 ?_) |
      (refine wpList_load_at rfl 40 (.global 1) rfl 1 0 rfl 38 4 ct Tryd.underlying40 hti.out HT4.out ?_) |
      (refine wpList_build_to rfl 42 #[(0, .tmp 14)] rfl [(0, .agg ct)] (by simp [Act.eval, Act.put]) ct hbt.out ?_))
     refine (C5.out _ HP4.out).mono ?_
     rintro e w5 ⟨rfl, hb⟩
     have H5 := hid (H4.out.next hb)
     have H6 := hid (H5.out.third cI)
     clear hb
     go_wp2_with (first | (refine wpList_store_row rfl 42 (.tmp 4) (.tmp 16) rfl g4 cI rfl rfl 42 cr H5.out.2.1 oI.out.1 hsz.out.1 oI.out.2.1 ?_))
     go_meet
     exact (by rw [← e1.out]; exact H6.out)
    ·have e1 : Hid (cr = c1) := by
      rw [hcr.out, hc1.out, HR1.out, if_pos (by have := hb1.out; rw [hb1v] at this; simpa using this.symm)]; exact hid rfl
     clear hb1v
     go_wp2_with fail
     go_meet
     exact (by rw [← e1.out]; exact H4.out)
   case rest =>
    have H7 := hid hcut
    clear hcut
    go_upto_region 4 with fail
    generalize wc = W4 at *
    (try simp only [Act.put, zA, zB, zC])
    refine wp_region_held_drew (S := fun V => Below W4.heap.size W4 V) (by kernel_rfl) ((Below.refl _ _).drew) (fun hHeld => ?_)
    have HBW4 := hid ((Below.refl W4.heap.size W4).drew)
    generalize W4.drew = VW4 at *
    refine' wpAnyH_take (i := 0) (oi := _) (v := .agg c1) ?hit24 ?hst24 ?hft24 ?hrt24 ?hQt24 ?hyt24 ?hSt24 ?_
    case hit24 => (simp only [zD, zE, zF]; rfl)
    case hst24 | hft24 | hrt24 => kernel_rfl
    case hQt24 => exact fun _ _ _ h => h
    case hSt24 => assumption
    case hyt24 =>
     refine Or.inl ⟨by rfl, ?_⟩
     intro W hS
     exact quiet_load_row 42 (.tmp 4) _ rfl 42 c1 _ (H7.out.2.1.old hS) Tryd.underlying42 rfl o1.out.1 rfl
    (try simp only [Act.put, zA, zB, zC])
    refine' wpAnyH_take (i := 2) (oi := _) (v := .agg x) ?hit25 ?hst25 ?hft25 ?hrt25 ?hQt25 ?hyt25 ?hSt25 ?_
    case hit25 => (simp only [zD, zE, zF]; rfl)
    case hst25 | hft25 | hrt25 => kernel_rfl
    case hQt25 => exact fun _ _ _ h => h
    case hSt25 => assumption
    case hyt25 =>
     refine Or.inl ⟨by rfl, ?_⟩
     intro W hS
     exact quiet_load_row 42 (.tmp 1) _ rfl 42 x _ (H7.out.1.1.old hS) Tryd.underlying42 rfl o0.out.1 rfl
    (try simp only [Act.put, zA, zB, zC])
    refine wpAnyH_ready (rs := [1]) (by kernel_rfl) (by simp) ?_
    refine' (AllReadyH.cons (o := _) ?hir26_1 (fun K hK => ?br26_1) AllReadyH.nil)
    case hir26_1 => (simp only [zD, zE, zF]; rfl)
    case br26_1 =>
     go_simp
     refine (C6.out _ (HP.out.old (H7.out.1.2.2.trans (HBW4.out.mono H7.out.1.2.2.size)))).mono ?_
     rintro e w27 ⟨rfl, hb27⟩
     have H27 := hid (HBW4.out.trans (hb27.mono HBW4.out.size))
     clear hb27
     go_wp2_with fail
     refine hK.out _ _ ?_ (fun hHeld => ?_)
     exact H27.out
     clear hK K
     (try simp only [Act.put, zA, zB, zC])
     refine wpAnyH_ready (rs := [3]) (by kernel_rfl) (by simp) ?_
     refine' (AllReadyH.cons (o := _) ?hir28_3 (fun K hK => ?br28_3) AllReadyH.nil)
     case hir28_3 => (simp only [zD, zE, zF]; rfl)
     case br28_3 =>
      go_simp
      refine (C7.out _).mono ?_
      rintro e w29 ⟨rfl, hb29⟩
      have H29 := hid (H27.out.trans (hb29.mono H27.out.size))
      clear hb29
      go_wp2_with fail
      refine hK.out _ _ ?_ (fun hHeld => ?_)
      exact H29.out
      clear hK K
      (try simp only [Act.put, zA, zB, zC])
      refine' wpAnyH_take (i := 4) (oi := _) (v := _) ?hit30 ?hst30 ?hft30 ?hrt30 ?hQt30 ?hyt30 ?hSt30 ?_
      case hit30 => (simp only [zD, zE, zF]; rfl)
      case hst30 | hft30 | hrt30 => kernel_rfl
      case hQt30 => exact fun _ _ _ h => h
      case hSt30 => assumption
      case hyt30 =>
       refine Or.inl ⟨by rfl, ?_⟩
       intro w hSw
       (try dsimp only at hSw)
       go_simp
       all_goals (with_reducible rfl)
      (try simp only [Act.put, zA, zB, zC])
      refine wpAnyH_done (by kernel_rfl) ?_ _
      have H8 := hid (H7.out.next H29.out)
      have HP8 := hid (HP.out.old H8.out.1.2.2)
      clear hHeld
      cases hb2v : b2
      ·have hno : ¬ hasRoot n := by rw [hhas.out]; have := hb2.out; rw [hb2v] at this; simpa using this.symm
       have hr0 : Hid (root n = 0) := by rw [hroot.out, if_neg hno]; exact hid rfl
       have hd : Hid (decide (hasRoot n) = false) := hid (by simpa using hno)
       have hz := hid (limA_ok 0)
       rw [show limA 0 = #[.int .u64 0, .int .u64 0, .int .u64 0, .int .u64 0] from rfl] at hz
       clear hno hb2v
       go_wp2_with (first | (refine wpList_store_row rfl 42 (.tmp 2) (.tmp 22) rfl (w.heap.size + 1) #[.int .u64 0, .int .u64 0, .int .u64 0, .int .u64 0] rfl rfl 42 _ H8.out.1.2.1 hz.out.1 hz.out.2.2 hz.out.2.1 ?_; rw [setRow_self H8.out.1.2.1]))
       refine bodyPost_ret (v := .tuple #[.agg #[.int .u64 0, .int .u64 0, .int .u64 0, .int .u64 0], .bool false]) ?_ rfl ⟨by rw [hr0.out, hd.out]; rfl, H8.out.1.2.2⟩
       exact results_row_tmp1 Tryd.results48 _ _ (w.heap.size + 1) 42 _ _ _ rfl rfl H8.out.1.2.1 Tryd.underlying42 hz.out.1
      have hyes : hasRoot n := by rw [hhas.out]; have := hb2.out; rw [hb2v] at this; simpa using this.symm
      have hd : Hid (decide (hasRoot n) = true) := hid (by simpa using hyes)
      have hrr : root n = if root1 n % 2 = 1 then P - root1 n else root1 n := by rw [hroot.out, if_pos hyes]
      have HRR := hid hrr
      clear hyes hb2v hrr
      go_upto_if 24 with (first | (refine wpList_load_row rfl 42 (.tmp 4) rfl g4 rfl 42 c1 (0, 0) _ H8.out.2.1 Tryd.underlying42 rfl o1.out.1 ?_))
      refine (C8.out _).mono ?_
      rintro e w9 ⟨rfl, hb⟩
      have H9 := hid (H8.out.next hb)
      have HP9 := hid (HP.out.old H9.out.1.2.2)
      clear hb
      go_upto_if 24 with fail
      (try simp only [Act.put, zA, zB, zC])
      go_cut [] (fun wx => Three2 w x #[.int .u64 0, .int .u64 0, .int .u64 0, .int .u64 0] cR g4 wx)
      case first =>
       cases hb3v : b3
       ·have e1 : Hid (c1 = cR) := by
         rw [hc1.out, hcR.out, HRR.out, if_neg (by have := hb3.out; rw [hb3v] at this; simpa using this.symm)]; exact hid rfl
        clear hb3v
        go_wp2_with fail
        go_meet
        exact (by rw [← e1.out]; exact H9.out)
       ·have e1 : Hid (cN = cR) := by
         have ho : root1 n % 2 = 1 := by have := hb3.out; rw [hb3v] at this; simpa using this.symm
         rw [hcN.out, hcR.out, HRR.out, if_pos ho, odd_neg HR1l.out ho]; exact hid rfl
        clear hb3v
        go_wp2_with (first | (refine wpList_load_row rfl 42 (.tmp 4) rfl g4 rfl 42 c1 (0, 0) _ H9.out.2.1 Tryd.underlying42 rfl o1.out.1 ?_))
        refine (C9.out _ HP9.out).mono ?_
        rintro e w5 ⟨rfl, hb⟩
        have H5 := hid (H9.out.next hb)
        have H6 := hid (H5.out.third cN)
        clear hb
        go_wp2_with (first | (refine wpList_store_row rfl 42 (.tmp 4) (.tmp 27) rfl g4 cN rfl rfl 42 c1 H5.out.2.1 oN.out.1 hsz.out.2 oN.out.2.1 ?_))
        go_meet
        exact (by rw [← e1.out]; exact H6.out)
      case rest =>
       have HC := hid hcut
       have oR : Hid ((Tryd.prog.info? 42).map (·.size) = some cR.size ∧ cR.all (·.oneCell') = true ∧ Array.size (#[.int .u64 0, .int .u64 0, .int .u64 0, .int .u64 0] : Array Value) = cR.size) := by rw [hcR.out]; exact hid (limA_ok _)
       have HF := hid (hcut.1.snd cR)
       clear hcut
       go_wp2_with (first | (refine wpList_load_row rfl 42 (.tmp 4) rfl g4 rfl 42 cR (0, 0) _ HC.out.2.1 Tryd.underlying42 rfl oR.out.1 ?_) |
        (refine wpList_store_row rfl 42 (.tmp 2) (.tmp 28) rfl (w.heap.size + 1) cR rfl rfl 42 _ HC.out.1.2.1 oR.out.1 oR.out.2.2 oR.out.2.1 ?_))
       refine bodyPost_ret (v := .tuple #[.agg cR, .bool true]) ?_ rfl ⟨by rw [hcR.out, hd.out], HF.out.2.2⟩
       exact results_row_tmp1 Tryd.results48 _ _ (w.heap.size + 1) 42 _ _ _ rfl rfl HF.out.2.1 Tryd.underlying42 oR.out.1
end Go.Proofs.YtcfogpeinjehbaaDoor
end

section
namespace Go.Proofs.YtcfogpeinjehbaaDoor
open Go Go.Proofs Go.RowKit F5
def cF (a : Fp) : Array Value := limF a.val
end Go.Proofs.YtcfogpeinjehbaaDoor
end

section
namespace Go.Proofs.YtcfogpeinjehbaaDoor
open Go Go.Proofs Go.RowKit F5
theorem fv (n : Nat) (a : Fp) (h : decide (a.val = n) = true) : a.val = n := by simpa using h
end Go.Proofs.YtcfogpeinjehbaaDoor
end

section
namespace Go.Proofs.YtcfogpeinjehbaaDoor
open Go Go.Proofs Go.RowKit F5
def pV (x y z : Fp) : Array Value := cF x ++ cF y ++ cF z
theorem quiet_build_to {P : Program} {o : Oper} {ev : Operand → Value} {w : World} (t : TypeId) (parts : Array (Nat × Operand)) (ho : o.op = .build t parts)
  (vals : List (Nat × Value)) (hv : (parts.map fun (i, x) => (i, ev x)).toList = vals) (cells : Array Value) (hb : P.built t vals = some cells) : (execOp ev o).run P w = .ok (.value (.agg cells)) w := by
 unfold execOp
 simp only [ho, Sem.run_bind, run_build w t _ cells (by rw [hv]; exact hb), Result.andThen_ok, Sem.run_pure]
end Go.Proofs.YtcfogpeinjehbaaDoor
end

section
namespace F5
end F5
namespace Go.Proofs.YtcfogpeinjehbaaDoor
open Go Go.Proofs Go.RowKit F5
/-- These cells stand for this point. -/
def PtAt (p : Pt) (c : Array Value) : Prop := ∃ X Y Z, Rep p X Y Z ∧ c = pV X Y Z
theorem PtAt.zero : PtAt pzero (pV 0 1 1) := ⟨0, 1, 1, rep_zero, rfl⟩
theorem PtAt.base : PtAt pbase (pV pbase.x pbase.y 1) := ⟨_, _, _, rep_one pbase, rfl⟩
end Go.Proofs.YtcfogpeinjehbaaDoor
end

section
namespace Go.Proofs.YtcfogpeinjehbaaDoor
open Go Go.Proofs Go.RowKit F5
theorem fbytes_at (n i : Nat) (h : i < 32) : (fbytes n)[i]? = some (UInt8.ofNat (n / 256 ^ i % 256)) := by
 have h1 : i < (fbytes n).length := by rw [fbytes_length]; exact h
 rw [List.getElem?_eq_getElem h1]
 have h2 := fbytes_get n i h
 rw [List.getD_eq_getElem?_getD, List.getElem?_eq_getElem h1] at h2
 congr 1
 apply UInt8.toNat_inj.1
 have h3 : ((fbytes n)[i]).toNat = n / 256 ^ i % 256 := h2
 rw [h3, UInt8.toNat_ofNat']
 exact (Nat.mod_eq_of_lt (Nat.mod_lt _ (by decide))).symm
theorem fbytes_top {y : Nat} (hy : y < 2 ^ 255) (b : UInt8) (hb : b.toNat = y / 256 ^ 31 % 256 + 128) : (fbytes y).set 31 b = fbytes (y + 2 ^ 255) := by
 apply List.ext_getElem?
 intro i
 by_cases hi : i < 32
 ·rw [List.getElem?_set]
  split
  ·rename_i h31
   subst h31
   rw [if_pos (by rw [fbytes_length]; omega), fbytes_at _ _ (by omega)]
   congr 1
   apply UInt8.toNat_inj.1
   rw [hb, UInt8.toNat_ofNat']
   have e1 : (256 : Nat) ^ 31 = 2 ^ 248 := by decide
   rw [e1]
   omega
  ·rename_i h31
   rw [fbytes_at _ _ hi, fbytes_at _ _ hi]
   congr 2
   have hi2 : i < 31 := by omega
   have e1 : 2 ^ 255 = 256 ^ i * (256 * 2 ^ (247 - 8 * i)) := by
    rw [show (256 : Nat) ^ i = 2 ^ (8 * i) by rw [show 256 = 2 ^ 8 from rfl, ← Nat.pow_mul], show (256 : Nat) = 2 ^ 8 from rfl, ← Nat.pow_add, ← Nat.pow_add]
    congr 1; omega
   rw [e1, Nat.add_mul_div_left _ _ (Nat.pow_pos (by decide)), Nat.add_mul_mod_self_left]
 ·rw [List.getElem?_eq_none (by rw [List.length_set, fbytes_length]; omega), List.getElem?_eq_none (by rw [fbytes_length]; omega)]
theorem enc_odd {p : Pt} (h : p.x.val % 2 = 1) : enc p = p.y.val + 2 ^ 255 := by unfold enc; rw [h, Nat.mul_one]
theorem enc_even {p : Pt} (h : p.x.val % 2 = 0) : enc p = p.y.val := by unfold enc; rw [h, Nat.mul_zero, Nat.add_zero]
end Go.Proofs.YtcfogpeinjehbaaDoor
end

section
namespace Go.Proofs.YtcfogpeinjehbaaDoor
open Go Go.Proofs Go.RowKit F5
theorem fbytes_cut {v : Nat} (hv : v < 2 ^ 256) (b : UInt8) (hb : b.toNat = v / 256 ^ 31 % 256 % 128) : (fbytes v).set 31 b = fbytes (v % 2 ^ 255) := by
 apply List.ext_getElem?
 intro i
 by_cases hi : i < 32
 ·rw [List.getElem?_set]
  split
  ·rename_i h31
   subst h31
   rw [if_pos (by rw [fbytes_length]; omega), fbytes_at _ _ (by omega)]
   congr 1
   apply UInt8.toNat_inj.1
   rw [hb, UInt8.toNat_ofNat']
   have e1 : (256 : Nat) ^ 31 = 2 ^ 248 := by decide
   rw [e1]
   omega
  ·rename_i h31
   rw [fbytes_at _ _ hi, fbytes_at _ _ hi]
   congr 2
   have hi2 : i < 31 := by omega
   have e1 : 2 ^ 255 = 256 ^ i * (256 * 2 ^ (247 - 8 * i)) := by
    rw [show (256 : Nat) ^ i = 2 ^ (8 * i) by rw [show 256 = 2 ^ 8 from rfl, ← Nat.pow_mul], show (256 : Nat) = 2 ^ 8 from rfl, ← Nat.pow_add, ← Nat.pow_add]
    congr 1; omega
   rw [e1, Nat.mod_mul_right_div_self, Nat.mod_mul_right_mod]
 ·rw [List.getElem?_eq_none (by rw [List.length_set, fbytes_length]; omega), List.getElem?_eq_none (by rw [fbytes_length]; omega)]
end Go.Proofs.YtcfogpeinjehbaaDoor
end

section
set_option maxRecDepth 100000
namespace Go.Proofs.YtcfogpeinjehbaaDoor
open Go Go.Proofs Go.RowKit F5
open Sha (sumOf sumOf_length RowsR)
theorem reads_front {w : World} {B n : Nat} {A : Option Addr} {l : List UInt8} (h : Reads w B 1 A n (Lib.byteCells l)) {k : Nat} (hk : k ≤ n) : Reads w B 1 A k (Lib.byteCells (l.take k)) := by
 have hl : l.length = n := by have := h.1; simpa [Lib.byteCells_length] using this
 refine ⟨by simp [Lib.byteCells_length]; omega, fun hp => ?_⟩
 obtain ⟨ad, e, h1, h2⟩ := h.2 (by omega)
 refine ⟨ad, e, h1, fun j u hj => h2 j u ?_⟩
 simp only [Lib.byteCells, List.map_take, List.getElem?_take] at hj ⊢
 split at hj
 ·exact hj
 ·cases hj
/-- A byte is put into a slice. -/
theorem reads_put {w : World} {B n : Nat} {ad : Addr} {l : List UInt8} (h : Reads w B 1 (some ad) n (Lib.byteCells l)) (i : Nat) (hi : i < n) (x : UInt8) :
  Reads (w.setCell (ad.add i) (.int .u8 (x.toNat : Int))) B 1 (some ad) n (Lib.byteCells (l.set i x)) := by
 have hl : l.length = n := by have := h.1; simpa [Lib.byteCells_length] using this
 refine ⟨by simp [Lib.byteCells_length, hl], fun hp => ?_⟩
 obtain ⟨ad', e, h1, h2⟩ := h.2 hp
 injection e with e
 subst e
 refine ⟨ad, rfl, h1, fun j u hj => ?_⟩
 by_cases hji : j = i
 ·subst hji
  have hb : (Lib.byteCells (l.set j x))[j]? = some (.int .u8 (x.toNat : Int)) := by
   simp [Lib.byteCells, List.getElem?_set, hl, hi]
  rw [hb] at hj
  injection hj with hj
  rw [← hj]
  have hjl : j < (Lib.byteCells l).length := by rw [Lib.byteCells_length, hl]; exact hi
  exact World.cell?_setCell_same' _ _ _ (by rw [h2 j _ (List.getElem?_eq_getElem hjl)]; rfl)
 ·have hb : (Lib.byteCells (l.set i x))[j]? = (Lib.byteCells l)[j]? := by
   simp [Lib.byteCells, List.getElem?_set, Ne.symm hji]
  rw [hb] at hj
  rw [World.cell?_setCell_other _ _ _ _ (fun e => hji (by
   have h3 : (ad.add j).off = (ad.add i).off := by rw [e]
   unfold Addr.add at h3
   split at h3 <;> split at h3 <;> simp_all))]
  exact h2 j u hj
/-- A slice of the call's own, of at least a byte: its block can be written. -/
theorem owns_open {w : World} {B e n : Nat} {v : Value} {xs : List Value} (h : w.ownsRow B e 1 v n xs) (hn : 0 < n) : ∃ g cap, v = .slice (some ⟨g, 0, none⟩) n cap ∧ B ≤ g ∧ g < w.heap.size ∧ n ≤ cap ∧ cap ≤ maxLen ∧ ∀ i, w.frozen? ⟨g, i, none⟩ = false := by
 rcases h.2 with ⟨_, h2⟩ | ⟨g, cap, cur, hv, hb, hh, hc, hm, _⟩
 ·omega
 ·refine ⟨g, cap, hv, hb, (Array.getElem?_eq_some_iff.1 hh).1, hc, hm, fun i => ?_⟩
  simp [World.frozen?, hh]
theorem secL_eq (seed : List UInt8) {x y : UInt8} (hx : x.toNat = (((sumOf seed).take 32).getD 0 0).toNat) (hy : y.toNat = (((sumOf seed).take 32).getD 31 0).toNat) :
  (((sumOf seed).take 32).set 0 (UInt8.ofNat (x.toNat - x.toNat % 8))).set 31 (UInt8.ofNat (y.toNat % 64 + 64)) = secL seed := by rw [hx, hy]; rfl
end Go.Proofs.YtcfogpeinjehbaaDoor
end

section
set_option maxRecDepth 100000
namespace Go.Proofs.YtcfogpeinjehbaaDoor
open Go Go.Proofs Go.RowKit F5
open Sha (sumOf sumOf_length RowsR)
theorem rows_lit2 {w : World} {A1 A2 : Option Addr} {n1 c1 n2 c2 : Nat} {l1 l2 : List UInt8} (T : TypeId) (h1 : Reads w w.heap.size 1 A1 n1 (Lib.byteCells l1)) (k1 : n1 ≤ c1) (h2 : Reads w w.heap.size 1 A2 n2 (Lib.byteCells l2)) (k2 : n2 ≤ c2) :
  RowsR (w.alloc (.cells #[.slice A1 n1 c1, .slice A2 n2 c2] T)) (w.heap.size + 1) (some ⟨w.heap.size, 0, none⟩) 2 [l1, l2] := by
 have hb := (Below.refl w.heap.size w).alloc (Nat.le_refl _) (.cells #[.slice A1 n1 c1, .slice A2 n2 c2] T)
 have hc : ∀ i, (w.alloc (.cells #[.slice A1 n1 c1, .slice A2 n2 c2] T)).cell? ⟨w.heap.size, i, none⟩ = #[.slice A1 n1 c1, .slice A2 n2 c2][i]? := fun i => (Blk.new w T _).cell i
 refine ⟨rfl, fun i hi => ?_⟩
 rcases (by omega : i = 0 ∨ i = 1) with rfl | rfl
 ·exact ⟨_, A1, n1, c1, rfl, by simp, hc 0, (h1.below hb).more (by omega), k1⟩
 ·exact ⟨_, A2, n2, c2, rfl, by simp, hc 1, (h2.below hb).more (by omega), k2⟩
theorem rows_lit3 {w : World} {A1 A2 A3 : Option Addr} {n1 c1 n2 c2 n3 c3 : Nat} {l1 l2 l3 : List UInt8} (T : TypeId) (h1 : Reads w w.heap.size 1 A1 n1 (Lib.byteCells l1)) (k1 : n1 ≤ c1) (h2 : Reads w w.heap.size 1 A2 n2 (Lib.byteCells l2)) (k2 : n2 ≤ c2)
  (h3 : Reads w w.heap.size 1 A3 n3 (Lib.byteCells l3)) (k3 : n3 ≤ c3) :
  RowsR (w.alloc (.cells #[.slice A1 n1 c1, .slice A2 n2 c2, .slice A3 n3 c3] T)) (w.heap.size + 1) (some ⟨w.heap.size, 0, none⟩) 3 [l1, l2, l3] := by
 have hb := (Below.refl w.heap.size w).alloc (Nat.le_refl _) (.cells #[.slice A1 n1 c1, .slice A2 n2 c2, .slice A3 n3 c3] T)
 have hc : ∀ i, (w.alloc (.cells #[.slice A1 n1 c1, .slice A2 n2 c2, .slice A3 n3 c3] T)).cell? ⟨w.heap.size, i, none⟩ = #[.slice A1 n1 c1, .slice A2 n2 c2, .slice A3 n3 c3][i]? := fun i => (Blk.new w T _).cell i
 refine ⟨rfl, fun i hi => ?_⟩
 rcases (by omega : i = 0 ∨ i = 1 ∨ i = 2) with rfl | rfl | rfl
 ·exact ⟨_, A1, n1, c1, rfl, by simp, hc 0, (h1.below hb).more (by omega), k1⟩
 ·exact ⟨_, A2, n2, c2, rfl, by simp, hc 1, (h2.below hb).more (by omega), k2⟩
 ·exact ⟨_, A3, n3, c3, rfl, by simp, hc 2, (h3.below hb).more (by omega), k3⟩
end Go.Proofs.YtcfogpeinjehbaaDoor
end

section
set_option maxRecDepth 100000
namespace Go.Proofs.YtcfogpeinjehbaaDoor
open Go Go.Proofs Go.RowKit F5
open Sha (sumOf sumOf_length RowsR)
theorem ver_may {pub text sig : List UInt8} (h : mayB (sig.drop 32) = false) : verB pub text sig = false := verB_false.2 fun hv => by
 have h1 : (sig.drop 32).length = 32 := by rw [List.length_drop, hv.2.1]
 have h2 : mayB (sig.drop 32) = true := decide_eq_true ⟨h1, hv.2.2.1⟩
 rw [h] at h2; cases h2
end Go.Proofs.YtcfogpeinjehbaaDoor
end

section
namespace Go.Proofs.YtcfogpeinjehbaaDoor
open Go Go.Proofs F5
open Sha (sumOf sumOf_length)
theorem pmul_neg_add (k : Nat) (p : Pt) : padd (pmul k p) (pmul k (pneg p)) = pzero := by
 induction k with
 | zero => exact padd_zero pzero
 | succ k ih =>
  show padd (padd (pmul k p) p) (padd (pmul k (pneg p)) (pneg p)) = pzero
  rw [padd_assoc, padd_comm p, padd_assoc, padd_comm (pneg p) p, padd_neg, padd_zero, ih]
theorem ver_prog {pub text sig : List UInt8} (h1 : pub.length = 32) (h2 : sig.length = 64) (h3 : bval (sig.drop 32) < LL) (hA : okP (bval pub)) :
  verB pub text sig = decide (ptL (padd (pmul (bval (sig.drop 32)) pbase) (pmul (restN (sig.take 32 ++ (pub ++ text))) (pneg (pget _ hA)))) = sig.take 32) := by
 have hl : (sig.take 32).length = 32 := by rw [List.length_take]; omega
 rw [Bool.eq_iff_iff, verB_true, decide_eq_true_eq]
 constructor
 ·rintro ⟨_, _, _, hA', hR, h⟩
  have e := enc_inj h
  rw [e, padd_assoc, pmul_neg_add, padd_zero]
  unfold ptL
  rw [enc_pget (bval_256 hl) hR, fbytes_bval hl]
 ·intro h
  have hb := (congrArg bval h).symm.trans (bval_fbytes (enc_lt _))
  have hR : okP (bval (sig.take 32)) := by rw [hb]; exact enc_ok _
  refine ⟨h1, h2, h3, hA, hR, ?_⟩
  rw [pget_of hb hR, padd_assoc, padd_comm (pmul _ (pneg _)), pmul_neg_add, padd_zero]
/-- The program's three bits of the secret number. -/
theorem sec_first : ∀ x : Fin 256, bits .andNot .u8 ((x.val : Nat) : Int) 7 = ((x.val - x.val % 8 : Nat) : Int) := by decide +kernel
theorem sec_cut : ∀ x : Fin 256, bits .andNot .u8 ((x.val : Nat) : Int) 128 = ((x.val % 128 : Nat) : Int) := by decide +kernel
theorem sec_set : ∀ x : Fin 128, bits .or .u8 ((x.val : Nat) : Int) 64 = ((x.val % 64 + 64 : Nat) : Int) := by decide +kernel
end Go.Proofs.YtcfogpeinjehbaaDoor
end

section
namespace Go.Proofs.YtcfogpeinjehbaaDoor
open Go Go.Proofs Go.RowKit F5
/-- What an operation of the first part does: it yields this value, or it makes a new variable. -/
inductive Pl where
 | is (v : Value)
 | fresh (T : TypeId) (z : Array Value)
def Pl.val (g : Nat) : Pl → Value
 | .is v => v
 | .fresh _ _ => .pointer (some ⟨g, 0, none⟩)
section
variable (ops : Array Oper) (PL : List Pl)
def dstOf (i : Nat) : Option Tmp := (ops[i]?).bind (·.dst)
def onsOf (i : Nat) : List Nat := match ops[i]? with | some o => (o.after.toList.filter (fun e => Region.binds .any e)).map (·.on) | none => []
def clo (ops : Array Oper) : Nat → List Nat → List Nat
 | 0, l => l
 | f + 1, l => clo ops f (l ++ l.flatMap (onsOf ops)).eraseDups
/-- Which temporary an operation may look at: one that no operation of the first part writes, or one that an operation which it waits for writes, and that is no new variable. -/
def looks (i : Nat) (t : Tmp) : Bool :=
 ((List.range PL.length).all fun j => dstOf ops j != some t) || ((onsOf ops i).any fun j => dstOf ops j == some t && (match PL[j]? with | some (.is _) => true | _ => false))
def chk (size : Nat) : Bool :=
 decide (PL.length ≤ ops.size) &&
 ((List.range PL.length).all fun i => (match ops[i]? with | some o => (match o.dst with | some d => decide (d < size) | none => false) | none => false) &&
  ((onsOf ops i).all fun j => decide (j < i)) && ((List.range PL.length).all fun j => j == i || dstOf ops i != dstOf ops j))
def cloB : Bool := (List.range ops.size).all fun j => decide (j < PL.length) || ((List.range PL.length).all fun i => (clo ops 12 (onsOf ops j)).contains i)
def listedM : Array Bool := (List.replicate PL.length true ++ List.replicate (ops.size - PL.length) false).toArray
def valOf (ops : Array Oper) (PL : List Pl) (A : Array Value) (t : Tmp) : Value :=
 match (List.range PL.length).find? (fun j => dstOf ops j == some t) with
 | some j => (match PL[j]? with | some (.is v) => v | _ => undef)
 | none => A.getD t undef
/-- The temporaries behind the first part. -/
def finT (g : Nat → Nat) : Nat → List Pl → Array Value → Array Value
 | _, [], A => A
 | k, p :: r, A => finT g (k + 1) r (match dstOf ops k with | some d => A.setIfInBounds d (p.val (g k)) | none => A)
end
def opA (ops : Array Oper) (k : Nat) : Oper := (ops[k]?).getD default
theorem opA_of {ops : Array Oper} {k : Nat} {o : Oper} (h : ops[k]? = some o) : opA ops k = o := by unfold opA; rw [h]; rfl
/-- An operation's contract in the first part. -/
def Good (P : Program) (ops : Array Oper) (PL : List Pl) (A : Array Value) (S : World → Prop) (k : Nat) : Pl → Prop
 | .is v => ∀ (a : Act) (V : World), (∀ t, looks ops PL k t = true → a.tmps.getD t undef = valOf ops PL A t) → S V → (Region.wanted (opA ops k) (yielded ops a.tmps) = true ∧ ∀ (K : Act → World → Prop) (Q : Exit → Act → World → Prop),
   (∀ V', Below V.heap.size V V' → K (a.put (opA ops k).dst v) V') → (opA ops k).wp P a V K Q) ∨ (Region.wanted (opA ops k) (yielded ops a.tmps) = false ∧ v = undef)
 | .fresh T z => (ops[k]?).map (fun o => (o.op, o.guard)) = some (.alloc T, none) ∧ ∀ W, (zeroValue T).run P W = .ok (.agg z) W
def Goods (P : Program) (ops : Array Oper) (PL : List Pl) (A : Array Value) (S : World → Prop) : Nat → List Pl → Prop
 | _, [] => True
 | k, p :: r => Good P ops PL A S k p ∧ Goods P ops PL A S (k + 1) r
theorem goods_at {P : Program} {ops : Array Oper} {PL : List Pl} {A : Array Value} {S : World → Prop} : ∀ (l : List Pl) (k : Nat), Goods P ops PL A S k l → ∀ i p, l[i]? = some p → Good P ops PL A S (k + i) p
 | [], _, _, i, p, h => by simp at h
 | q :: r, k, hg, 0, p, h => by simp at h; subst h; exact hg.1
 | q :: r, k, hg, i + 1, p, h => by
  have := goods_at r (k + 1) hg.2 i p (by simpa using h)
  rwa [show k + 1 + i = k + (i + 1) by omega] at this
structure SInv (ops : Array Oper) (PL : List Pl) (a0 : Act) (w0 : World) (listed : Array Bool) (a : Act) (w : World) : Prop where
 defers : a.defers = a0.defers
 size : a.tmps.size = a0.tmps.size
 lsize : listed.size = ops.size
 far : ∀ t, (∀ i, i < PL.length → dstOf ops i = some t → listed.getD i true = false) → a.tmps.getD t undef = a0.tmps.getD t undef
 is : ∀ i v d, PL[i]? = some (.is v) → listed.getD i true = true → dstOf ops i = some d → a.tmps.getD d undef = v
 fresh : ∀ i T z d, PL[i]? = some (.fresh T z) → listed.getD i true = true → dstOf ops i = some d → ∃ g, a.tmps.getD d undef = .pointer (some ⟨g, 0, none⟩) ∧ w0.heap.size ≤ g ∧ Blk w g T z
 apart : ∀ i j T z T' z' d d', PL[i]? = some (.fresh T z) → PL[j]? = some (.fresh T' z') → i ≠ j → listed.getD i true = true → listed.getD j true = true → dstOf ops i = some d → dstOf ops j = some d' → a.tmps.getD d undef ≠ a.tmps.getD d' undef
 below : Below w0.heap.size w0 w
 late : ∀ i, PL.length ≤ i → i < ops.size → listed.getD i true = false
 down : ∀ i, i < PL.length → listed.getD i true = true → ∀ j ∈ onsOf ops i, listed.getD j false = true
theorem onsOf_of {ops : Array Oper} {i : Nat} {o : Oper} (ho : ops[i]? = some o) {listed : Array Bool} (h : ∀ e ∈ o.after, Region.binds .any e = true → listed.getD e.on false = true) : ∀ j ∈ onsOf ops i, listed.getD j false = true := by
 intro j hj
 unfold onsOf at hj
 rw [ho] at hj
 simp only [List.mem_map, List.mem_filter] at hj
 obtain ⟨e, ⟨he, hb⟩, rfl⟩ := hj
 exact h e (by simpa using he) hb
theorem clo_listed {ops : Array Oper} {listed : Array Bool} (hd : ∀ i, listed.getD i false = true → ∀ j ∈ onsOf ops i, listed.getD j false = true) : ∀ (f : Nat) (l : List Nat), (∀ x ∈ l, listed.getD x false = true) → ∀ x ∈ clo ops f l, listed.getD x false = true
 | 0, l, h => h
 | f + 1, l, h => by
  unfold clo
  refine clo_listed hd f _ fun x hx => ?_
  rw [List.mem_eraseDups, List.mem_append, List.mem_flatMap] at hx
  rcases hx with hx | ⟨y, hy, hx⟩
  ·exact h x hx
  ·exact hd y (h y hy) x hx
theorem getD_tf {listed : Array Bool} {i : Nat} (h : i < listed.size) : listed.getD i true = listed.getD i false := by
 simp [Array.getD_eq_getD_getElem?, h]
theorem getD_lt {listed : Array Bool} {i : Nat} (h : listed.getD i false = true) : i < listed.size := by
 rcases Nat.lt_or_ge i listed.size with h' | h'
 ·exact h'
 ·simp [Array.getD_eq_getD_getElem?, Array.getElem?_eq_none h'] at h
theorem getD_lt' {listed : Array Bool} {i : Nat} (h : listed.getD i true = false) : i < listed.size := by
 rcases Nat.lt_or_ge i listed.size with h' | h'
 ·exact h'
 ·simp [Array.getD_eq_getD_getElem?, Array.getElem?_eq_none h'] at h
theorem getD_set_eq {listed : Array Bool} {i j : Nat} (hi : i < listed.size) : (listed.setIfInBounds i true).getD j true = if j = i then true else listed.getD j true := by
 split
 ·rename_i h; subst h; simp [Array.getD_eq_getD_getElem?, hi]
 ·rename_i h; exact getD_set_ne true (fun e => h e.symm)
theorem tget_set {A : Array Value} {d t : Nat} {v : Value} (h : d < A.size) : (A.setIfInBounds d v).getD t undef = if t = d then v else A.getD t undef := by
 split
 ·rename_i h1; subst h1; simp [Array.getD_eq_getD_getElem?, h]
 ·rename_i h1; simp [Array.getD_eq_getD_getElem?, Array.getElem?_setIfInBounds_ne (fun e => h1 e.symm)]
theorem put_tmps {a : Act} {o : Oper} {d : Tmp} (hd : o.dst = some d) (u : Value) : (a.put o.dst u).tmps = a.tmps.setIfInBounds d u := by rw [hd]; rfl
theorem put_defs {a : Act} (o : Oper) (u : Value) : (a.put o.dst u).defers = a.defers := by unfold Act.put; split <;> rfl
structure Chk (ops : Array Oper) (PL : List Pl) (size : Nat) : Prop where
 le : PL.length ≤ ops.size
 op : ∀ i, i < PL.length → ∃ o d, ops[i]? = some o ∧ o.dst = some d ∧ d < size
 small : ∀ i, i < PL.length → ∀ j ∈ onsOf ops i, j < i
 ne : ∀ i j, i < PL.length → j < PL.length → i ≠ j → dstOf ops i ≠ dstOf ops j
theorem clo_spec {ops : Array Oper} {PL : List Pl} (h : cloB ops PL = true) : ∀ j, PL.length ≤ j → j < ops.size → ∀ i, i < PL.length → i ∈ clo ops 12 (onsOf ops j) := by
 unfold cloB at h
 simp only [decide_eq_true_eq, List.all_eq_true, List.mem_range, Bool.or_eq_true] at h
 intro j hj hj2 i hi
 rcases h j hj2 with h4 | h4
 ·exact absurd h4 (by omega)
 ·have := h4 i hi
  simpa using this
theorem chk_spec {ops : Array Oper} {PL : List Pl} {size : Nat} (h : chk ops PL size = true) : Chk ops PL size := by
 unfold chk at h
 simp only [Bool.and_eq_true, decide_eq_true_eq, List.all_eq_true, List.mem_range, Bool.or_eq_true] at h
 obtain ⟨h1, h2⟩ := h
 refine ⟨h1, fun i hi => ?_, fun i hi j hj => (h2 i hi).1.2 j hj, fun i j hi hj hne e => ?_⟩
 ·have h4 := (h2 i hi).1.1
  cases ho : ops[i]? with
  | none => rw [ho] at h4; simp at h4
  | some o =>
   rw [ho] at h4
   cases hd : o.dst with
   | none => simp [hd] at h4
   | some d =>
    simp only [hd, decide_eq_true_eq] at h4
    exact ⟨o, d, rfl, hd, h4⟩
 ·have h4 := (h2 i hi).2 j hj
  rcases h4 with h4 | h4
  ·simp at h4; exact hne h4.symm
  ·rw [e] at h4; simp at h4
theorem SInv.next {ops : Array Oper} {PL : List Pl} {a0 a : Act} {w0 w V : World} {listed : Array Bool} (h : SInv ops PL a0 w0 listed a w) (hc : Chk ops PL a0.tmps.size) {i : Nat} (him : i < PL.length) (hun : listed.getD i true = false) {o : Oper} (ho : ops[i]? = some o)
  (hdeps : ∀ j ∈ onsOf ops i, listed.getD j false = true) {d : Tmp} (hd : o.dst = some d) (hds : d < a0.tmps.size) {p : Pl} (hp : PL[i]? = some p) (hb : Below w.heap.size w V) (u : Value)
  (hu : p = .is u ∨ ∃ T z, p = .fresh T z ∧ u = .pointer (some ⟨w.heap.size, 0, none⟩) ∧ Blk V w.heap.size T z) : SInv ops PL a0 w0 (listed.setIfInBounds i true) (a.put o.dst u) V := by
 have hil := getD_lt' hun
 have hdi : dstOf ops i = some d := by unfold dstOf; rw [ho]; exact hd
 have hget : ∀ t, (a.put o.dst u).tmps.getD t undef = if t = d then u else a.tmps.getD t undef := fun t => by rw [put_tmps hd]; exact tget_set (by rw [h.size]; exact hds)
 have hoth : ∀ j d', j < PL.length → j ≠ i → dstOf ops j = some d' → d' ≠ d := fun j d' hj hne hj' e => hc.ne j i hj him hne (by rw [hj', hdi, e])
 have hold : ∀ j, (listed.setIfInBounds i true).getD j true = true → j ≠ i → listed.getD j true = true := fun j hj hne => by rw [getD_set_eq hil, if_neg hne] at hj; exact hj
 have hlen : ∀ (j : Nat) (q : Pl), PL[j]? = some q → j < PL.length := fun j q hq => (List.getElem?_eq_some_iff.1 hq).1
 refine ⟨?_, ?_, ?_, ?_, ?_, ?_, ?_, ?_, ?_, ?_⟩
 ·rw [put_defs]; exact h.defers
 ·rw [put_tmps hd]; simp [h.size]
 ·simp [h.lsize]
 ·intro t ht
  have htd : t ≠ d := fun e => by
   have := ht i him (by rw [hdi, e])
   rw [getD_set_eq hil, if_pos rfl] at this; cases this
  rw [hget, if_neg htd]
  refine h.far t fun j hj hjt => ?_
  have := ht j hj hjt
  rw [getD_set_eq hil] at this
  split at this
  ·cases this
  ·exact this
 ·intro j v d' hj hl hdj
  rw [hget]
  by_cases e : j = i
  ·subst e
   rw [hp] at hj; injection hj with hj
   rw [hdi] at hdj; injection hdj with hdj
   rw [if_pos hdj.symm]
   rcases hu with hu | ⟨T, z, hu, _⟩
   ·rw [hu] at hj; injection hj
   ·rw [hu] at hj; cases hj
  ·rw [if_neg (hoth j d' (hlen _ _ hj) e hdj)]
   exact h.is j v d' hj (hold j hl e) hdj
 ·intro j T z d' hj hl hdj
  rw [hget]
  by_cases e : j = i
  ·subst e
   rw [hp] at hj; injection hj with hj
   rw [hdi] at hdj; injection hdj with hdj
   rw [if_pos hdj.symm]
   rcases hu with hu | ⟨T', z', hu, hu2, hu3⟩
   ·rw [hu] at hj; cases hj
   ·rw [hu] at hj; injection hj with e1 e2
    subst e1 e2
    exact ⟨_, hu2, h.below.size, hu3⟩
  ·rw [if_neg (hoth j d' (hlen _ _ hj) e hdj)]
   obtain ⟨g, h1, h2, h3⟩ := h.fresh j T z d' hj (hold j hl e) hdj
   exact ⟨g, h1, h2, h3.old hb⟩
 ·intro j k T z T' z' dj dk hj hk hne hlj hlk hdj hdk
  rw [hget, hget]
  by_cases ej : j = i
  ·subst ej
   have ek : k ≠ j := fun e => hne e.symm
   rw [hdi] at hdj; injection hdj with hdj
   rw [if_pos hdj.symm, if_neg (hoth k dk (hlen _ _ hk) ek hdk)]
   obtain ⟨g, h1, h2, h3⟩ := h.fresh k T' z' dk hk (hold k hlk ek) hdk
   rw [h1]
   rcases hu with hu | ⟨T2, z2, hu, hu2, hu3⟩
   ·rw [hp, hu] at hj; cases hj
   ·rw [hu2]
    intro e
    injection e with e
    injection e with e
    injection e with e
    have := h3.lt
    omega
  ·rw [if_neg (hoth j dj (hlen _ _ hj) ej hdj)]
   by_cases ek : k = i
   ·subst ek
    rw [hdi] at hdk; injection hdk with hdk
    rw [if_pos hdk.symm]
    obtain ⟨g, h1, h2, h3⟩ := h.fresh j T z dj hj (hold j hlj ej) hdj
    rw [h1]
    rcases hu with hu | ⟨T2, z2, hu, hu2, hu3⟩
    ·rw [hp, hu] at hk; cases hk
    ·rw [hu2]
     intro e
     injection e with e
     injection e with e
     injection e with e
     have := h3.lt
     omega
   ·rw [if_neg (hoth k dk (hlen _ _ hk) ek hdk)]
    exact h.apart j k T z T' z' dj dk hj hk hne (hold j hlj ej) (hold k hlk ek) hdj hdk
 ·exact h.below.trans (hb.mono h.below.size)
 ·intro j hj hj2
  rw [getD_set_eq hil, if_neg (by omega)]
  exact h.late j hj hj2
 ·intro j hj hl k hk
  by_cases e : j = i
  ·subst e
   exact getD_set_true (hdeps k hk)
  ·exact getD_set_true (h.down j hj (hold j hl e) k hk)
theorem listedM_size {ops : Array Oper} {PL : List Pl} (h : PL.length ≤ ops.size) : (listedM ops PL).size = ops.size := by simp [listedM]; omega
theorem listedM_at {ops : Array Oper} {PL : List Pl} (i : Nat) (h : i < PL.length) : (listedM ops PL).getD i true = true := by
 simp [listedM, Array.getD_eq_getD_getElem?, List.getElem?_append_left, h]
theorem listed_eq {ops : Array Oper} {PL : List Pl} {a0 a : Act} {w0 w : World} {listed : Array Bool} (h : SInv ops PL a0 w0 listed a w) (hle : PL.length ≤ ops.size) (hall : ∀ i, i < PL.length → listed.getD i true = true) : listed = listedM ops PL := by
 refine Array.ext (by rw [h.lsize, listedM_size hle]) fun i h1 h2 => ?_
 by_cases hi : i < PL.length
 ·have e1 := hall i hi
  have e2 := listedM_at (ops := ops) i hi
  simp only [Array.getD_eq_getD_getElem?, Array.getElem?_eq_getElem h1, Option.getD_some] at e1
  simp only [Array.getD_eq_getD_getElem?, Array.getElem?_eq_getElem h2, Option.getD_some] at e2
  rw [e1, e2]
 ·have e1 := h.late i (by omega) (by rw [← h.lsize]; exact h1)
  simp only [Array.getD_eq_getD_getElem?, Array.getElem?_eq_getElem h1, Option.getD_some] at e1
  rw [e1]
  simp [listedM, List.getElem_append_right, Nat.not_lt.1 hi]
theorem count_set {listed : Array Bool} {i : Nat} (h : listed.getD i true = false) : (listed.setIfInBounds i true).toList.count true = listed.toList.count true + 1 := by
 have hl := getD_lt' h
 have hv : listed.toList[i]'(by simpa using hl) = false := by
  simp only [Array.getD_eq_getD_getElem?, Array.getElem?_eq_getElem hl, Option.getD_some] at h
  simpa using h
 rw [Array.toList_setIfInBounds, List.count_set (by simpa using hl), hv]
 simp
theorem count_all {l : List Bool} (h : l.count true = l.length) (i : Nat) (hi : i < l.length) : l[i] = true := by
 have := List.count_eq_length.1 h
 exact (this _ (List.getElem_mem hi)).symm
theorem sched_op {P : Program} {ops : Array Oper} {PL : List Pl} {a0 : Act} {w0 : World} {Q : Exit → Act → World → Prop} {S : World → Prop} (hc : Chk ops PL a0.tmps.size) (hg : Goods P ops PL a0.tmps S 0 PL) (hS : ∀ V, Below w0.heap.size w0 V → S V)
  {listed : Array Bool} {a : Act} {w : World} (h : SInv ops PL a0 w0 listed a w) {i : Nat} (him : i < PL.length) (hun : listed.getD i true = false) (hdeps : ∀ j ∈ onsOf ops i, listed.getD j false = true) {K : Act → World → Prop}
  (hK : ∀ a' V, SInv ops PL a0 w0 (listed.setIfInBounds i true) a' V → K a' V) : wpOp P ops Q i K a w := by
 obtain ⟨o, d, ho, hd, hds⟩ := hc.op i him
 have hos : i < ops.size := by rw [← h.lsize]; exact getD_lt' hun
 obtain ⟨p, hp⟩ : ∃ p, PL[i]? = some p := ⟨_, List.getElem?_eq_getElem him⟩
 have good := goods_at PL 0 hg i p hp
 rw [Nat.zero_add] at good
 unfold wpOp
 simp only [ho]
 have hnext : ∀ u V, Below w.heap.size w V → (p = .is u ∨ ∃ T z, p = .fresh T z ∧ u = .pointer (some ⟨w.heap.size, 0, none⟩) ∧ Blk V w.heap.size T z) → K (a.put o.dst u) V := fun u V hb hu =>
  hK _ _ (h.next hc him hun ho hdeps hd hds hp hb u hu)
 cases p with
 | is v =>
  have good2 := good a w (fun t ht => ?_) (hS w h.below)
  ·rw [opA_of ho] at good2
   rcases good2 with ⟨hw, good2⟩ | ⟨hw, rfl⟩
   ·rw [if_pos hw]
    exact .inl (good2 _ _ (fun V hb => hnext v V hb (.inl rfl)))
   ·rw [if_neg (by rw [hw]; decide)]
    exact hnext _ w (Below.refl _ _) (.inl rfl)
  ·unfold looks at ht
   rw [Bool.or_eq_true] at ht
   unfold valOf
   rcases ht with ht | ht
   ·have hno : (List.range PL.length).find? (fun j => dstOf ops j == some t) = none := by
     rw [List.find?_eq_none]
     intro j hj
     have := List.all_eq_true.1 ht j hj
     simpa using this
    rw [hno]
    refine h.far t fun j hj hjt => ?_
    have := List.all_eq_true.1 ht j (List.mem_range.2 hj)
    rw [hjt] at this
    simp at this
   ·obtain ⟨j, hj, hj2⟩ := List.any_eq_true.1 ht
    rw [Bool.and_eq_true] at hj2
    obtain ⟨hj2, hj3⟩ := hj2
    have hjt : dstOf ops j = some t := by simpa using hj2
    have hji := hc.small i him j hj
    have hjm : j < PL.length := by omega
    have hfind : (List.range PL.length).find? (fun j => dstOf ops j == some t) = some j := by
     rw [List.find?_range_eq_some]
     refine ⟨by simpa using hjt, List.mem_range.2 hjm, fun k hk => ?_⟩
     have := hc.ne k j (by omega) hjm (by omega)
     rw [hjt] at this
     simpa using this
    rw [hfind]
    obtain ⟨q, hq⟩ : ∃ q, PL[j]? = some q := ⟨_, List.getElem?_eq_getElem hjm⟩
    simp only [hq] at hj3 ⊢
    cases q with
    | is v' => exact h.is j v' t hq (by rw [getD_tf (by rw [h.lsize]; omega)]; exact hdeps j hj) hjt
    | fresh _ _ => simp at hj3
 | fresh T z =>
  obtain ⟨hop, hz⟩ := good
  rw [ho] at hop
  simp only [Option.map_some, Option.some.injEq, Prod.mk.injEq] at hop
  obtain ⟨hop, hgd⟩ := hop
  have hw : Region.wanted o (yielded ops a.tmps) = true := by unfold Region.wanted; rw [hgd]
  rw [if_pos hw]
  refine .inl ?_
  have hrun : (execOp a.eval o).run P w = .ok (.value (.pointer (some ⟨w.heap.size, 0, none⟩))) (w.alloc (.cells z T)) := by
   unfold execOp
   simp only [hop, Instr.alloc, Sem.run_bind, hz, Result.andThen_ok, Sem.run_pure]
   simp [go_sem]
  unfold Oper.wp
  rw [hrun, Oper.upon_value]
  exact hnext _ _ ((Below.refl _ _).alloc (Nat.le_refl _) _) (.inr ⟨T, z, rfl, rfl, Blk.new w T z⟩)
theorem wpAny_sched {P : Program} {ops : Array Oper} {PL : List Pl} {a0 : Act} {w0 : World} {Q : Exit → Act → World → Prop} {S : World → Prop} (hc : Chk ops PL a0.tmps.size) (hcl : cloB ops PL = true) (hg : Goods P ops PL a0.tmps S 0 PL) (hS : ∀ V, Below w0.heap.size w0 V → S V)
  (hfin : ∀ a V, SInv ops PL a0 w0 (listedM ops PL) a V → wpAny P .any ops Q (ops.size - PL.length) (listedM ops PL) a V) :
  ∀ (fuel : Nat) (listed : Array Bool) (a : Act) (w : World), SInv ops PL a0 w0 listed a w → listed.toList.count true + fuel = ops.size → wpAny P .any ops Q fuel listed a w := by
 intro fuel
 induction fuel with
 | zero =>
  intro listed a w h hn
  have hall : ∀ i, i < PL.length → listed.getD i true = true := fun i hi => by
   have hl : i < listed.size := by rw [h.lsize]; exact Nat.lt_of_lt_of_le hi hc.le
   have := count_all (l := listed.toList) (by rw [Array.length_toList, h.lsize]; omega) i (by simpa using hl)
   simp only [Array.getD_eq_getD_getElem?, Array.getElem?_eq_getElem hl, Option.getD_some]
   simpa using this
  have e := listed_eq h hc.le hall
  subst e
  have := hfin a w h
  have hcnt : (listedM ops PL).toList.count true = PL.length := by simp [listedM, List.count_replicate]
  rw [hcnt] at hn
  rw [show ops.size - PL.length = 0 by omega] at this
  exact this
 | succ fuel ih =>
  intro listed a w h hn
  by_cases hall : ∀ i, i < PL.length → listed.getD i true = true
  ·have e := listed_eq h hc.le hall
   subst e
   have := hfin a w h
   have hcnt : (listedM ops PL).toList.count true = PL.length := by simp [listedM, List.count_replicate]
   rw [hcnt] at hn
   rw [show ops.size - PL.length = fuel + 1 by omega] at this
   exact this
  ·refine ⟨fun hr => ?_, fun i hi => ?_⟩
   ·exfalso
    apply hall
    intro i
    induction i using Nat.strongRecOn with
    | ind i ihi =>
     intro him
     cases hl : listed.getD i true with
     | true => rfl
     | false =>
      obtain ⟨o, d, ho, _, _⟩ := hc.op i him
      have : i ∈ Region.ready .any ops listed := mem_ready.2 ⟨hl, o, ho, fun e he hb => by
       have hj : e.on ∈ onsOf ops i := by
        unfold onsOf; rw [ho]
        simp only [List.mem_map, List.mem_filter]
        exact ⟨e, ⟨by simpa using he, hb⟩, rfl⟩
       have hlt := hc.small i him _ hj
       have := ihi _ hlt (by omega)
       rwa [getD_tf (by rw [h.lsize]; have := hc.le; omega)] at this⟩
      rw [hr] at this; cases this
   ·obtain ⟨hun, o, ho, hdep⟩ := mem_ready.1 hi
    have hdeps := onsOf_of ho hdep
    have hos : i < ops.size := by rw [← h.lsize]; exact getD_lt' hun
    by_cases him : i < PL.length
    ·exact sched_op hc hg hS h him hun hdeps fun a' V h' => ih _ _ _ h' (by rw [count_set hun]; omega)
    ·exfalso
     apply hall
     have hd : ∀ k, listed.getD k false = true → ∀ j ∈ onsOf ops k, listed.getD j false = true := fun k hk => by
      have hks := getD_lt hk
      by_cases hkm : k < PL.length
      ·exact h.down k hkm (by rw [getD_tf hks]; exact hk)
      ·have := h.late k (by omega) (by rw [← h.lsize]; exact hks)
       rw [getD_tf hks, hk] at this; cases this
     intro j hj
     have := clo_listed hd 12 _ hdeps j (clo_spec hcl i (by omega) hos j hj)
     rw [getD_tf (getD_lt this)]; exact this
theorem finT_eq {ops : Array Oper} {g : Nat → Nat} {B : Array Value} : ∀ (l : List Pl) (k : Nat) (A : Array Value), B.size = A.size →
  (∀ i p d, l[i]? = some p → dstOf ops (k + i) = some d → d < A.size → B.getD d undef = p.val (g (k + i))) →
  (∀ t, (∀ i, i < l.length → dstOf ops (k + i) ≠ some t) → B.getD t undef = A.getD t undef) → finT ops g k l A = B
 | [], k, A, hs, _, hf => by
  unfold finT
  refine (Array.ext hs fun i h1 h2 => ?_).symm
  have := hf i (fun _ h => absurd h (Nat.not_lt_zero _))
  simpa [Array.getD_eq_getD_getElem?, h1, h2] using this
 | p :: r, k, A, hs, hv, hf => by
  unfold finT
  refine finT_eq r (k + 1) _ (by split <;> simp [hs]) (fun i q d hq hd hlt => ?_) (fun t ht => ?_)
  ·have := hv (i + 1) q d (by simpa using hq) (by rw [← hd]; congr 1; omega) (by split at hlt <;> simpa using hlt)
   rw [this]; congr 2; omega
  ·split
   ·rename_i d hd
    by_cases hlt : d < A.size
    ·rw [tget_set hlt]
     split
     ·rename_i e; subst e
      exact hv 0 p t rfl hd hlt
     ·rename_i e
      refine hf t fun i hi hit => ?_
      cases i with
      | zero => rw [Nat.add_zero, hd] at hit; injection hit with hit; exact e hit.symm
      | succ i => exact ht i (by simpa using hi) (by rw [← hit]; congr 1; omega)
    ·have hle : A.size ≤ d := Nat.le_of_not_lt hlt
     rw [Array.setIfInBounds_eq_of_size_le hle]
     by_cases e : t = d
     ·subst e
      simp [Array.getD_eq_getD_getElem?, Array.getElem?_eq_none (show B.size ≤ t from hs ▸ hle), Array.getElem?_eq_none hle]
     ·refine hf t fun i hi hit => ?_
      cases i with
      | zero => rw [Nat.add_zero, hd] at hit; injection hit with hit; exact e hit.symm
      | succ i => exact ht i (by simpa using hi) (by rw [← hit]; congr 1; omega)
   ·rename_i hd
    refine hf t fun i hi hit => ?_
    cases i with
    | zero => rw [Nat.add_zero, hd] at hit; cases hit
    | succ i => exact ht i (by simpa using hi) (by rw [← hit]; congr 1; omega)
/-- What is known behind the first part: the new variables, each in a block of its own, and what lay below is as it was. -/
structure SFin (PL : List Pl) (g : Nat → Nat) (w0 V : World) : Prop where
 blk : ∀ i T z, PL[i]? = some (.fresh T z) → w0.heap.size ≤ g i ∧ Blk V (g i) T z
 ne : ∀ i j T z T' z', PL[i]? = some (.fresh T z) → PL[j]? = some (.fresh T' z') → i ≠ j → g i ≠ g j
 below : Below w0.heap.size w0 V
/-- The first k are listed. -/
def listedK (n k : Nat) : Array Bool := (List.replicate k true ++ List.replicate (n - k) false).toArray
theorem listedK_set {n k : Nat} (h : k < n) : (listedK n k).setIfInBounds k true = listedK n (k + 1) := by
 unfold listedK
 simp only [List.setIfInBounds_toArray, Array.mk.injEq]
 rw [List.set_append_right _ _ (by simp), List.length_replicate, Nat.sub_self, show n - k = (n - (k + 1)) + 1 by omega, List.replicate_succ, List.set_cons_zero, List.replicate_succ', List.append_assoc]
 rfl
def seqd (ops : Array Oper) (m : Nat) : Bool := (List.range (ops.size - m)).all (fun k => Region.ready .any ops (listedK ops.size (m + k)) == [m + k]) && Region.ready .any ops (listedK ops.size ops.size) == []
theorem wpAny_tail {P : Program} {ops : Array Oper} {Q : Exit → Act → World → Prop} {m : Nat} (hs : seqd ops m = true) : ∀ (f k : Nat) (a : Act) (w : World), k + f = ops.size - m → m ≤ ops.size → wpList P ops Q (ops.toList.drop (m + k)) a w → wpAny P .any ops Q f (listedK ops.size (m + k)) a w
 | 0, k, a, w, hk, hm, h => by
  unfold seqd at hs
  rw [Bool.and_eq_true] at hs
  have e : m + k = ops.size := by omega
  rw [e] at h ⊢
  rw [List.drop_of_length_le (by simp)] at h
  exact ⟨by simpa using hs.2, h⟩
 | f + 1, k, a, w, hk, hm, h => by
  have hs' := hs
  unfold seqd at hs
  rw [Bool.and_eq_true, List.all_eq_true] at hs
  have hr : Region.ready .any ops (listedK ops.size (m + k)) = [m + k] := by have := hs.1 k (List.mem_range.2 (by omega)); simpa using this
  have hlt : m + k < ops.size := by omega
  refine ⟨fun h0 => (by rw [hr] at h0; cases h0), fun i hi => ?_⟩
  rw [hr] at hi
  obtain rfl : i = m + k := by simpa using hi
  have ho : ops[m + k]? = some ops[m + k] := Array.getElem?_eq_getElem hlt
  have hl : ops.toList.drop (m + k) = ops[m + k] :: ops.toList.drop (m + (k + 1)) := by
   rw [List.drop_eq_getElem_cons (by simpa using hlt)]; rfl
  rw [hl] at h
  unfold wpList at h
  unfold wpOp
  simp only [ho]
  rw [listedK_set hlt]
  have ih := fun a w => wpAny_tail (P := P) (Q := Q) hs' f (k + 1) a w (by omega) hm
  split
  ·rename_i hw
   rw [if_pos hw] at h
   exact h.imp (Oper.wp_mono fun a w hh => ih a w hh) id
  ·rename_i hw
   rw [if_neg hw] at h
   exact ih _ _ h
theorem sinv_start {ops : Array Oper} {PL : List Pl} {a0 : Act} {w0 w1 : World} (HC : Chk ops PL a0.tmps.size) (hb : Below w0.heap.size w0 w1) : SInv ops PL a0 w0 (Array.replicate ops.size false) a0 w1 := by
 have hf : ∀ i, i < ops.size → (Array.replicate ops.size false).getD i true = false := fun i hi => by simp [Array.getD_eq_getD_getElem?, Array.getElem?_replicate, hi]
 have hno : ∀ i, i < PL.length → (Array.replicate ops.size false).getD i true = true → False := fun i hi hl => by
  rw [hf i (Nat.lt_of_lt_of_le hi HC.le)] at hl; cases hl
 exact ⟨rfl, rfl, by simp, fun t _ => rfl, fun i v d hp hl => (hno i (List.getElem?_eq_some_iff.1 hp).1 hl).elim, fun i T z d hp hl => (hno i (List.getElem?_eq_some_iff.1 hp).1 hl).elim,
  fun i j T z T' z' d d' hp _ _ hl => (hno i (List.getElem?_eq_some_iff.1 hp).1 hl).elim, hb, fun i _ hi => hf i hi, fun i hi hl => (hno i hi hl).elim⟩
theorem sinv_end {ops : Array Oper} {PL : List Pl} {a0 a : Act} {w0 V : World} (HC : Chk ops PL a0.tmps.size) (h : SInv ops PL a0 w0 (listedM ops PL) a V) : ∃ g : Nat → Nat, SFin PL g w0 V ∧ finT ops g 0 PL a0.tmps = a.tmps := by
 obtain ⟨g, hgd⟩ : ∃ g : Nat → Nat, ∀ i T z d, PL[i]? = some (.fresh T z) → dstOf ops i = some d → a.tmps.getD d undef = .pointer (some ⟨g i, 0, none⟩) ∧ w0.heap.size ≤ g i ∧ Blk V (g i) T z := by
  refine ⟨fun i => match (dstOf ops i).map fun d => a.tmps.getD d undef with | some (.pointer (some ad)) => ad.block | _ => 0, fun i T z d hp hd => ?_⟩
  have hi := (List.getElem?_eq_some_iff.1 hp).1
  obtain ⟨g, h1, h2, h3⟩ := h.fresh i T z d hp (listedM_at i hi) hd
  simp only [hd, Option.map_some, h1]
  exact ⟨trivial, h2, h3⟩
 have hd0 : ∀ i, i < PL.length → ∃ d, dstOf ops i = some d := fun i hi => by
  obtain ⟨o, d, ho, hd, _⟩ := HC.op i hi
  exact ⟨d, by unfold dstOf; rw [ho]; exact hd⟩
 refine ⟨g, ⟨fun i T z hp => ?_, fun i j T z T' z' hi hj hne e => ?_, h.below⟩, ?_⟩
 ·obtain ⟨d, hd⟩ := hd0 i (List.getElem?_eq_some_iff.1 hp).1
  exact (hgd i T z d hp hd).2
 ·have li := (List.getElem?_eq_some_iff.1 hi).1
  have lj := (List.getElem?_eq_some_iff.1 hj).1
  obtain ⟨di, hdi⟩ := hd0 i li
  obtain ⟨dj, hdj⟩ := hd0 j lj
  refine h.apart i j T z T' z' di dj hi hj hne (listedM_at i li) (listedM_at j lj) hdi hdj ?_
  rw [(hgd i T z di hi hdi).1, (hgd j T' z' dj hj hdj).1, e]
 ·refine finT_eq PL 0 _ h.size (fun i p d hp hd _ => ?_) (fun t ht => ?_)
  ·rw [Nat.zero_add] at hd ⊢
   have hi := (List.getElem?_eq_some_iff.1 hp).1
   cases p with
   | is v => exact h.is i v d hp (listedM_at i hi) hd
   | fresh T z => exact (hgd i T z d hp hd).1
  ·refine h.far t fun i hi hit => ?_
   have := ht i hi
   rw [Nat.zero_add] at this
   exact absurd hit this
theorem listedM_K (ops : Array Oper) (PL : List Pl) : listedM ops PL = listedK ops.size PL.length := rfl
theorem wp_schedT {P : Program} {ops : Array Oper} {a0 : Act} {w0 : World} {Q : Exit → Act → World → Prop} {id : Nat} (PL : List Pl) (S : World → Prop) (draw : Bool) (hm : P.follows .mixedOrders = true) (hc : chk ops PL a0.tmps.size = true) (hq : (!draw || (cloB ops PL && seqd ops PL.length)) = true)
  (hS : ∀ V, Below w0.heap.size w0 V → S V) (hg : Goods P ops PL a0.tmps S 0 PL)
  (hfin : ∀ (g : Nat → Nat) (V : World), SFin PL g w0 V → wpList P ops Q (ops.toList.drop PL.length) ⟨finT ops g 0 PL a0.tmps, a0.defers⟩ V) :
  (Code.region id ops draw).wp P Q a0 w0 := by
 have HC := chk_spec hc
 have fin : ∀ a V, SInv ops PL a0 w0 (listedM ops PL) a V → wpList P ops Q (ops.toList.drop PL.length) a V := fun a V h => by
  obtain ⟨g, h1, h2⟩ := sinv_end HC h
  have := hfin g V h1
  rw [h2, ← h.defers] at this
  exact this
 cases draw with
 | true =>
  have hq2 : cloB ops PL = true ∧ seqd ops PL.length = true := by simpa using hq
  refine wp_region_any hm (wpAny_sched HC hq2.1 hg hS (fun a V h => ?_) ops.size _ a0 w0.drew (sinv_start HC (Below.refl _ _).drew) (by simp [List.count_replicate]))
  have := wpAny_tail (P := P) (Q := Q) hq2.2 (ops.size - PL.length) 0 a V (by omega) HC.le (fin a V h)
  rw [Nat.add_zero, ← listedM_K] at this
  exact this
 | false =>
  refine wp_region ?_
  have key : ∀ (f k : Nat) (a : Act) (w : World), k + f = PL.length → SInv ops PL a0 w0 (listedK ops.size k) a w → wpOps P ops Q (List.range' k (ops.size - k)) a w := by
   intro f
   induction f with
   | zero =>
    intro k a w hk h
    rw [Nat.add_zero] at hk
    subst hk
    have := fin a w h
    have e : wpOps P ops Q (List.range' PL.length (ops.size - PL.length)) = wpList P ops Q (ops.toList.drop PL.length) := by
     have e1 := wpOps_eq_wpList (P := P) (Q := Q) (ops := ops) (ops.toList.drop PL.length) PL.length (fun j => by simp)
     have e2 : (ops.toList.drop PL.length).length = ops.size - PL.length := by simp
     rw [e2] at e1; exact e1
    rw [e]; exact this
   | succ f ih =>
    intro k a w hk h
    have hkm : k < PL.length := by omega
    have hks : k < ops.size := Nat.lt_of_lt_of_le hkm HC.le
    rw [show ops.size - k = (ops.size - (k + 1)) + 1 by omega, List.range'_succ, wpOps_cons]
    refine sched_op HC hg hS h hkm ?_ (fun j hj => ?_) (fun a' V h' => ?_)
    ·simp [listedK, Array.getD_eq_getD_getElem?, List.getElem?_append_right, List.getElem?_replicate, show 0 < ops.size - k by omega]
    ·have := HC.small k hkm j hj
     simp [listedK, Array.getD_eq_getD_getElem?, List.getElem?_append_left, this]
    ·rw [listedK_set hks] at h'
     exact ih (k + 1) a' V (by omega) h'
  rw [List.range_eq_range']
  have h0 : listedK ops.size 0 = Array.replicate ops.size false := by simp [listedK]
  exact key PL.length 0 a0 w0 (by omega) (by rw [h0]; exact sinv_start HC (Below.refl _ _))
/-- The temporaries behind the first part, by their places. -/
def finL (g : Nat → Nat) : Nat → List (Tmp × Pl) → Array Value → Array Value
 | _, [], A => A
 | k, (d, p) :: r, A => finL g (k + 1) r (A.setIfInBounds d (p.val (g k)))
def chkD (ops : Array Oper) : Nat → List (Tmp × Pl) → Bool
 | _, [] => true
 | k, (d, _) :: r => dstOf ops k == some d && chkD ops (k + 1) r
def plOf (D : List (Tmp × Pl)) : List Pl := D.map (·.2)
theorem finT_finL {ops : Array Oper} {g : Nat → Nat} : ∀ (D : List (Tmp × Pl)) (k : Nat) (A : Array Value), chkD ops k D = true → finT ops g k (plOf D) A = finL g k D A
 | [], _, _, _ => rfl
 | (d, p) :: r, k, A, h => by
  unfold chkD at h
  rw [Bool.and_eq_true] at h
  obtain ⟨h1, h2⟩ := h
  have h3 : dstOf ops k = some d := by simpa using h1
  show finT ops g k (p :: plOf r) A = _
  unfold finT finL
  rw [h3]
  exact finT_finL r (k + 1) _ h2
theorem wp_sched {P : Program} {ops : Array Oper} {a0 : Act} {w0 : World} {Q : Exit → Act → World → Prop} {id : Nat} {draw : Bool} (D : List (Tmp × Pl)) (S : World → Prop) (hm : P.follows .mixedOrders = true) (hc : chk ops (plOf D) a0.tmps.size = true) (hd : chkD ops 0 D = true) (hq : (!draw || (cloB ops (plOf D) && seqd ops (plOf D).length)) = true)
  (hS : ∀ V, Below w0.heap.size w0 V → S V) (hg : Goods P ops (plOf D) a0.tmps S 0 (plOf D)) (tl : List Oper) (ht : ops.toList.drop (plOf D).length = tl)
  (hfin : ∀ (g : Nat → Nat) (V : World), SFin (plOf D) g w0 V → wpList P ops Q tl ⟨finL g 0 D a0.tmps, a0.defers⟩ V) :
  (Code.region id ops draw).wp P Q a0 w0 :=
 wp_schedT (plOf D) S draw hm hc hq hS hg fun g V h => by rw [ht, finT_finL D 0 _ hd]; exact hfin g V h
theorem goods_nil {P : Program} {ops : Array Oper} {PL : List Pl} {A : Array Value} {S : World → Prop} {k : Nat} : Goods P ops PL A S k [] := trivial
section
variable {P : Program} {ops : Array Oper} {PL : List Pl} {A : Array Value} {S : World → Prop} {k : Nat} {v : Value} {r : List Pl}
theorem goods_is (h : ∀ (a : Act) (V : World), (∀ t, looks ops PL k t = true → a.tmps.getD t undef = valOf ops PL A t) → S V → ∀ (K : Act → World → Prop) (Q : Exit → Act → World → Prop),
      (∀ V', Below V.heap.size V V' → K (a.put (opA ops k).dst v) V') → (opA ops k).wp P a V K Q) (hr : Goods P ops PL A S (k + 1) r) (hgd : (opA ops k).guard = none := by kernel_rfl) : Goods P ops PL A S k (.is v :: r) :=
 ⟨fun a V hl hS => .inl ⟨by unfold Region.wanted; rw [hgd], h a V hl hS⟩, hr⟩
/-- Whether a guard lets this value pass. -/
def passes (want : Bool) : Value → Bool
 | .bool b => b == want
 | _ => false
theorem wanted_of {a : Act} {o : Oper} {j d : Nat} {want : Bool} {u : Value} (hg : o.guard = some (j, want)) (hd : dstOf ops j = some d) (h : a.tmps.getD d undef = u) : Region.wanted o (yielded ops a.tmps) = passes want u := by
 unfold Region.wanted
 rw [hg]
 have e : yielded ops a.tmps j = match (some d).bind (a.tmps[·]?) with | some (.bool b) => some b | _ => none := by
  unfold yielded
  unfold dstOf at hd
  rw [hd]
  rfl
 simp only [e, Option.bind_some]
 rw [Array.getD_eq_getD_getElem?] at h
 cases hx : a.tmps[d]? with
 | none => rw [hx] at h; subst h; simp [passes, undef]
 | some x =>
  rw [hx] at h; simp only [Option.getD_some] at h; subst h
  cases x <;> simp [passes]
theorem goods_on {j d : Nat} {want : Bool} {u : Value} (hg : (opA ops k).guard = some (j, want)) (hd : dstOf ops j = some d) (h1 : looks ops PL k d = true) (h2 : valOf ops PL A d = u) (hp : passes want u = true)
  (h : ∀ (a : Act) (V : World), (∀ t, looks ops PL k t = true → a.tmps.getD t undef = valOf ops PL A t) → S V → ∀ (K : Act → World → Prop) (Q : Exit → Act → World → Prop),
   (∀ V', Below V.heap.size V V' → K (a.put (opA ops k).dst v) V') → (opA ops k).wp P a V K Q) (hr : Goods P ops PL A S (k + 1) r) : Goods P ops PL A S k (.is v :: r) :=
 ⟨fun a V hl hS => .inl ⟨by rw [wanted_of hg hd ((hl d h1).trans h2)]; exact hp, h a V hl hS⟩, hr⟩
theorem goods_off {j d : Nat} {want : Bool} {u : Value} (hg : (opA ops k).guard = some (j, want)) (hd : dstOf ops j = some d) (h1 : looks ops PL k d = true) (h2 : valOf ops PL A d = u) (hp : passes want u = false)
  (hr : Goods P ops PL A S (k + 1) r) : Goods P ops PL A S k (.is undef :: r) :=
 ⟨fun a V hl hS => .inr ⟨by rw [wanted_of hg hd ((hl d h1).trans h2)]; exact hp, rfl⟩, hr⟩
theorem goods_fresh {T : TypeId} {z : Array Value}
  (h1 : (ops[k]?).map (fun o => (o.op, o.guard)) = some (.alloc T, none)) (h2 : ∀ W, (zeroValue T).run P W = .ok (.agg z) W) (hr : Goods P ops PL A S (k + 1) r) : Goods P ops PL A S k (.fresh T z :: r) := ⟨⟨h1, h2⟩, hr⟩
end
/-! The contracts of single operations. -/
section
variable {P : Program} {o : Oper} {a : Act} {V : World} {K : Act → World → Prop} {Q : Exit → Act → World → Prop}
theorem op_quiet {v : Value} (h : (execOp a.eval o).run P V = .ok (.value v) V) (hK : ∀ V', Below V.heap.size V V' → K (a.put o.dst v) V') : o.wp P a V K Q := by
 unfold Oper.wp
 rw [h, Oper.upon_value]
 exact hK V (Below.refl _ _)
theorem op_call {v : Value} {f : FuncId} {c : Call} (args : Array Value) (ho : o.op = .call c) (hc : c.callee = .value (.func f)) (ha : c.args.map a.eval = args)
  (hk : Calls P f args V fun e w' => e = .returned v ∧ Below V.heap.size V w') (hrun : (callFunc f args).run P V = .ok (.enter f args) V) (hK : ∀ V', Below V.heap.size V V' → K (a.put o.dst v) V') : o.wp P a V K Q := by
 have h : (execOp a.eval o).run P V = .ok (.enter f args) V := by
  unfold execOp
  simp only [ho, resolve, hc, Act.eval, Deferred.ofValue, ha, Sem.run_bind, Sem.run_pure, Result.andThen_ok, invoke]
  simp [go_sem, hrun]
 unfold Oper.wp
 rw [h, Oper.upon_enter]
 refine hk.mono ?_
 rintro e w' ⟨rfl, hb⟩
 exact hK w' hb
end
def callOf (o : Oper) : Call := match o.op with | .call c => c | _ => { callee := .builtin .len, args := #[], argTypes := #[] }
section
variable {P : Program} {o : Oper} {a : Act} {V : World} {K : Act → World → Prop} {Q : Exit → Act → World → Prop} {ev : Operand → Value}
theorem look_at {ops : Array Oper} {PL : List Pl} {A : Array Value} {k : Nat} (h : ∀ t, looks ops PL k t = true → a.tmps.getD t undef = valOf ops PL A t) (t : Tmp) {v : Value} (h1 : looks ops PL k t = true := by kernel_rfl) (h2 : valOf ops PL A t = v := by kernel_rfl) : a.eval (.tmp t) = v := (h t h1).trans h2
theorem map0 : (#[] : Array Operand).map ev = #[] := by simp
theorem map1 {x : Operand} {v : Value} (h : ev x = v) : (#[x] : Array Operand).map ev = #[v] := by simp [h]
theorem map2 {x y : Operand} {v u : Value} (h : ev x = v) (h2 : ev y = u) : (#[x, y] : Array Operand).map ev = #[v, u] := by simp [h, h2]
theorem op_callK {v : Value} {f : FuncId} (xs : Array Operand) (args : Array Value) (ha : xs.map a.eval = args) (hk : Calls P f args V fun e w' => e = .returned v ∧ Below V.heap.size V w') (hK : ∀ V', Below V.heap.size V V' → K (a.put o.dst v) V') (ho : o.op = .call (callOf o) := by kernel_rfl) (hc : (callOf o).callee = .value (.func f) := by kernel_rfl) (hx : (callOf o).args = xs := by kernel_rfl) (hrun : (callFunc f args).run P V = .ok (.enter f args) V := by kernel_rfl) : o.wp P a V K Q :=
 op_call args ho hc (by rw [hx]; exact ha) hk hrun hK
theorem bld1 {a : Nat} {x : Operand} {v : Value} (h : ev x = v) : ((#[(a, x)] : Array (Nat × Operand)).map fun (i, x) => (i, ev x)).toList = [(a, v)] := by simp [h]
theorem bld2 {a b : Nat} {x y : Operand} {v u : Value} (h : ev x = v) (h2 : ev y = u) : ((#[(a, x), (b, y)] : Array (Nat × Operand)).map fun (i, x) => (i, ev x)).toList = [(a, v), (b, u)] := by simp [h, h2]
theorem bld3 {a b c : Nat} {x y z : Operand} {v u t : Value} (h : ev x = v) (h2 : ev y = u) (h3 : ev z = t) : ((#[(a, x), (b, y), (c, z)] : Array (Nat × Operand)).map fun (i, x) => (i, ev x)).toList = [(a, v), (b, u), (c, t)] := by simp [h, h2, h3]
theorem quiet_move {v : Value} (x : Operand) (hx : ev x = v) (ho : o.op = .move x ∨ o.op = .assign x) : (execOp ev o).run P V = .ok (.value v) V := by
 unfold execOp
 rcases ho with ho | ho <;> simp only [ho, hx, Sem.run_pure]
theorem tail_nil {ops : Array Oper} (h : Q .normal a V) : wpList P ops Q [] a V := h
theorem quiet_pickT {v : Value} (c x y : Operand) (hc : ev c = .bool true) (hx : ev x = v) (ho : o.op = .pick c x y) : (execOp ev o).run P V = .ok (.value v) V := by
 unfold execOp
 simp only [ho, hc, asBool, Sem.run_bind, Sem.run_pure, Result.andThen_ok, hx, if_true]
theorem quiet_pickF {v : Value} (c x y : Operand) (hc : ev c = .bool false) (hy : ev y = v) (ho : o.op = .pick c x y) : (execOp ev o).run P V = .ok (.value v) V := by
 unfold execOp
 simp only [ho, hc, asBool, Sem.run_bind, Sem.run_pure, Result.andThen_ok, hy]
 rfl
theorem quiet_not {b : Bool} (t : TypeId) (x : Operand) (hx : ev x = .bool b) (ho : o.op = .unOp .not t x) : (execOp ev o).run P V = .ok (.value (.bool (!b))) V := by
 unfold execOp
 simp only [ho, hx]
 simp [go_sem]
theorem quiet_extract {t : Array Value} {v : Value} (x : Operand) (k : Nat) (hx : ev x = .tuple t) (hv : t[k]? = some v) (ho : o.op = .extract x k) : (execOp ev o).run P V = .ok (.value v) V := by
 unfold execOp
 simp only [ho, hx, Instr.extract, Sem.run_bind, hv, Sem.run_pure, Result.andThen_ok]
end
end Go.Proofs.YtcfogpeinjehbaaDoor
end

section
namespace Go.Proofs.YtcfogpeinjehbaaDoor.Sch
open Go Go.Proofs Go.RowKit
def dstOf (ops : Array Oper) (i : Nat) : Option Tmp := (ops[i]?).bind (·.dst)
def onsOf (ops : Array Oper) (i : Nat) : List Nat := match ops[i]? with | some o => (o.after.toList.filter (fun e => Region.binds .any e)).map (·.on) | none => []
def clo (ops : Array Oper) : Nat → List Nat → List Nat
 | 0, l => l
 | f + 1, l => clo ops f (l ++ l.flatMap (onsOf ops)).eraseDups
/-- The operations that have come up ahead of this one, whatever order is drawn. -/
def pre (ops : Array Oper) (i : Nat) : List Nat := clo ops 8 (onsOf ops i)
section
variable (ops : Array Oper) (m : Nat)
/-- A temporary that no operation of the first part writes. -/
def still (t : Tmp) : Bool := (List.range m).all fun j => dstOf ops j != some t
def chk (size : Nat) : Bool :=
 decide (m ≤ ops.size) &&
 ((List.range m).all fun i => (match ops[i]? with | some o => (match o.dst with | some d => decide (d < size) | none => false) | none => false) &&
  ((onsOf ops i).all fun j => decide (j < i)) && ((List.range m).all fun j => j == i || dstOf ops i != dstOf ops j))
def cloB : Bool := (List.range ops.size).all fun j => decide (j < m) || ((List.range m).all fun i => (clo ops 12 (onsOf ops j)).contains i)
end
def opA (ops : Array Oper) (k : Nat) : Oper := (ops[k]?).getD default
theorem opA_of {ops : Array Oper} {k : Nat} {o : Oper} (h : ops[k]? = some o) : opA ops k = o := by unfold opA; rw [h]; rfl
def tm (a : Act) (t : Tmp) : Value := a.tmps.getD t undef
def at_ (ops : Array Oper) (a : Act) (i : Nat) : Value := match dstOf ops i with | some d => tm a d | none => undef
/-- What is said of the first part: the frame, and what each operation answers. -/
structure Plan where
 Fr : World → World → Prop
 R : Nat → (Nat → Value) → Value → World → Prop
 fresh : Nat → Bool
/-- The laws of a plan. -/
structure Laws (p : Plan) : Prop where
 refl : ∀ w, p.Fr w w
 trans : ∀ {u v w}, p.Fr u v → p.Fr v w → p.Fr u w
 drew : ∀ w, p.Fr w w.drew
 size : ∀ {u v}, p.Fr u v → u.heap.size ≤ v.heap.size
 keep : ∀ {i x v V V'}, p.R i x v V → p.Fr V V' → p.R i x v V'
def mask (ops : Array Oper) (k : Nat) (x : Nat → Value) (j : Nat) : Value := if (pre ops k).contains j then x j else undef
/-- An operation's contract: of the ones that came up ahead of it all relations are met. -/
def Good (P : Program) (ops : Array Oper) (m : Nat) (a0 : Act) (w0 : World) (p : Plan) (k : Nat) : Prop :=
 ∀ (a : Act) (V : World), (∀ t, still ops m t = true → tm a t = tm a0 t) → p.Fr w0 V → (∀ j ∈ pre ops k, p.R j (mask ops j (at_ ops a)) (at_ ops a j) V) →
  (Region.wanted (opA ops k) (yielded ops a.tmps) = true ∧ ∀ (K : Act → World → Prop) (Q : Exit → Act → World → Prop),
   (∀ v V', p.Fr V V' → p.R k (mask ops k (at_ ops a)) v V' → (p.fresh k = true → ∃ g, v = .pointer (some ⟨g, 0, none⟩) ∧ V.heap.size ≤ g ∧ g < V'.heap.size) → K (a.put (opA ops k).dst v) V') → (opA ops k).wp P a V K Q) ∨
  (Region.wanted (opA ops k) (yielded ops a.tmps) = false ∧ p.R k (mask ops k (at_ ops a)) undef V ∧ p.fresh k = false)
theorem onsOf_of {ops : Array Oper} {i : Nat} {o : Oper} (ho : ops[i]? = some o) {listed : Array Bool} (h : ∀ e ∈ o.after, Region.binds .any e = true → listed.getD e.on false = true) : ∀ j ∈ onsOf ops i, listed.getD j false = true := by
 intro j hj
 unfold onsOf at hj
 rw [ho] at hj
 simp only [List.mem_map, List.mem_filter] at hj
 obtain ⟨e, ⟨he, hb⟩, rfl⟩ := hj
 exact h e (by simpa using he) hb
theorem clo_listed {ops : Array Oper} {listed : Array Bool} (hd : ∀ i, listed.getD i false = true → ∀ j ∈ onsOf ops i, listed.getD j false = true) : ∀ (f : Nat) (l : List Nat), (∀ x ∈ l, listed.getD x false = true) → ∀ x ∈ clo ops f l, listed.getD x false = true
 | 0, l, h => h
 | f + 1, l, h => by
  unfold clo
  refine clo_listed hd f _ fun x hx => ?_
  rw [List.mem_eraseDups, List.mem_append, List.mem_flatMap] at hx
  rcases hx with hx | ⟨y, hy, hx⟩
  ·exact h x hx
  ·exact hd y (h y hy) x hx
theorem getD_tf {listed : Array Bool} {i : Nat} (h : i < listed.size) : listed.getD i true = listed.getD i false := by
 simp [Array.getD_eq_getD_getElem?, h]
theorem getD_lt {listed : Array Bool} {i : Nat} (h : listed.getD i false = true) : i < listed.size := by
 rcases Nat.lt_or_ge i listed.size with h' | h'
 ·exact h'
 ·simp [Array.getD_eq_getD_getElem?, Array.getElem?_eq_none h'] at h
theorem getD_lt' {listed : Array Bool} {i : Nat} (h : listed.getD i true = false) : i < listed.size := by
 rcases Nat.lt_or_ge i listed.size with h' | h'
 ·exact h'
 ·simp [Array.getD_eq_getD_getElem?, Array.getElem?_eq_none h'] at h
theorem getD_set_eq {listed : Array Bool} {i j : Nat} (hi : i < listed.size) : (listed.setIfInBounds i true).getD j true = if j = i then true else listed.getD j true := by
 split
 ·rename_i h; subst h; simp [Array.getD_eq_getD_getElem?, hi]
 ·rename_i h; exact getD_set_ne true (fun e => h e.symm)
theorem tget_set {A : Array Value} {d t : Nat} {v : Value} (h : d < A.size) : (A.setIfInBounds d v).getD t undef = if t = d then v else A.getD t undef := by
 split
 ·rename_i h1; subst h1; simp [Array.getD_eq_getD_getElem?, h]
 ·rename_i h1; simp [Array.getD_eq_getD_getElem?, Array.getElem?_setIfInBounds_ne (fun e => h1 e.symm)]
theorem put_tmps {a : Act} {o : Oper} {d : Tmp} (hd : o.dst = some d) (u : Value) : (a.put o.dst u).tmps = a.tmps.setIfInBounds d u := by rw [hd]; rfl
theorem put_defs {a : Act} (o : Oper) (u : Value) : (a.put o.dst u).defers = a.defers := by unfold Act.put; split <;> rfl
structure Chk (ops : Array Oper) (m size : Nat) : Prop where
 le : m ≤ ops.size
 op : ∀ i, i < m → ∃ o d, ops[i]? = some o ∧ o.dst = some d ∧ d < size
 small : ∀ i, i < m → ∀ j ∈ onsOf ops i, j < i
 ne : ∀ i j, i < m → j < m → i ≠ j → dstOf ops i ≠ dstOf ops j
theorem clo_spec {ops : Array Oper} {m : Nat} (h : cloB ops m = true) : ∀ j, m ≤ j → j < ops.size → ∀ i, i < m → i ∈ clo ops 12 (onsOf ops j) := by
 unfold cloB at h
 simp only [decide_eq_true_eq, List.all_eq_true, List.mem_range, Bool.or_eq_true] at h
 intro j hj hj2 i hi
 rcases h j hj2 with h4 | h4
 ·exact absurd h4 (by omega)
 ·have := h4 i hi
  simpa using this
theorem chk_spec {ops : Array Oper} {m size : Nat} (h : chk ops m size = true) : Chk ops m size := by
 unfold chk at h
 simp only [Bool.and_eq_true, decide_eq_true_eq, List.all_eq_true, List.mem_range, Bool.or_eq_true] at h
 obtain ⟨h1, h2⟩ := h
 refine ⟨h1, fun i hi => ?_, fun i hi j hj => (h2 i hi).1.2 j hj, fun i j hi hj hne e => ?_⟩
 ·have h4 := (h2 i hi).1.1
  cases ho : ops[i]? with
  | none => rw [ho] at h4; simp at h4
  | some o =>
   rw [ho] at h4
   cases hd : o.dst with
   | none => simp [hd] at h4
   | some d =>
    simp only [hd, decide_eq_true_eq] at h4
    exact ⟨o, d, rfl, hd, h4⟩
 ·have h4 := (h2 i hi).2 j hj
  rcases h4 with h4 | h4
  ·simp at h4; exact hne h4.symm
  ·rw [e] at h4; simp at h4
structure SInv (ops : Array Oper) (m : Nat) (a0 : Act) (w0 : World) (p : Plan) (listed : Array Bool) (a : Act) (w : World) : Prop where
 defers : a.defers = a0.defers
 size : a.tmps.size = a0.tmps.size
 lsize : listed.size = ops.size
 far : ∀ t, (∀ i, i < m → dstOf ops i = some t → listed.getD i true = false) → tm a t = tm a0 t
 rel : ∀ i, i < m → listed.getD i true = true → p.R i (mask ops i (at_ ops a)) (at_ ops a i) w
 new : ∀ i, i < m → listed.getD i true = true → p.fresh i = true → ∃ g, at_ ops a i = .pointer (some ⟨g, 0, none⟩) ∧ w0.heap.size ≤ g ∧ g < w.heap.size
 apart : ∀ i j, i < m → j < m → p.fresh i = true → p.fresh j = true → i ≠ j → listed.getD i true = true → listed.getD j true = true → at_ ops a i ≠ at_ ops a j
 frame : p.Fr w0 w
 late : ∀ i, m ≤ i → i < ops.size → listed.getD i true = false
 down : ∀ i, i < m → listed.getD i true = true → ∀ j ∈ onsOf ops i, listed.getD j false = true
theorem SInv.downAll {ops : Array Oper} {m : Nat} {a0 a : Act} {w0 w : World} {p : Plan} {listed : Array Bool} (h : SInv ops m a0 w0 p listed a w) : ∀ k, listed.getD k false = true → ∀ j ∈ onsOf ops k, listed.getD j false = true := fun k hk => by
 have hks := getD_lt hk
 by_cases hkm : k < m
 ·exact h.down k hkm (by rw [getD_tf hks]; exact hk)
 ·have := h.late k (by omega) (by rw [← h.lsize]; exact hks)
  rw [getD_tf hks, hk] at this; cases this
theorem SInv.pre {ops : Array Oper} {m : Nat} {a0 a : Act} {w0 w : World} {p : Plan} {listed : Array Bool} (h : SInv ops m a0 w0 p listed a w) {i : Nat} (hdeps : ∀ j ∈ onsOf ops i, listed.getD j false = true) : ∀ j ∈ pre ops i, j < m ∧ listed.getD j true = true := fun j hj => by
 have hl := clo_listed h.downAll 8 _ hdeps j hj
 have hs := getD_lt hl
 refine ⟨?_, by rw [getD_tf hs]; exact hl⟩
 rcases Nat.lt_or_ge j m with h1 | h1
 ·exact h1
 ·have := h.late j h1 (by rw [← h.lsize]; exact hs)
  rw [getD_tf hs, hl] at this; cases this
theorem SInv.next {ops : Array Oper} {m : Nat} {a0 a : Act} {w0 w V : World} {p : Plan} {listed : Array Bool} (L : Laws p) (h : SInv ops m a0 w0 p listed a w) (hc : Chk ops m a0.tmps.size) {i : Nat} (him : i < m) (hun : listed.getD i true = false) {o : Oper} (ho : ops[i]? = some o)
  (hdeps : ∀ j ∈ onsOf ops i, listed.getD j false = true) {d : Tmp} (hd : o.dst = some d) (hds : d < a0.tmps.size) (hb : p.Fr w V) (u : Value)
  (hu : p.R i (mask ops i (at_ ops a)) u V) (hf : p.fresh i = true → ∃ g, u = .pointer (some ⟨g, 0, none⟩) ∧ w.heap.size ≤ g ∧ g < V.heap.size) : SInv ops m a0 w0 p (listed.setIfInBounds i true) (a.put o.dst u) V := by
 have hil := getD_lt' hun
 have hdi : dstOf ops i = some d := by unfold dstOf; rw [ho]; exact hd
 have hget : ∀ t, tm (a.put o.dst u) t = if t = d then u else tm a t := fun t => by unfold tm; rw [put_tmps hd]; exact tget_set (by rw [h.size]; exact hds)
 have hati : at_ ops (a.put o.dst u) i = u := by unfold at_; rw [hdi]; simp only [hget, if_true]
 have hato : ∀ j, j < m → j ≠ i → at_ ops (a.put o.dst u) j = at_ ops a j := fun j hj hne => by
  unfold at_
  cases hdj : dstOf ops j with
  | none => rfl
  | some e =>
   have : e ≠ d := fun e2 => hc.ne j i hj him hne (by rw [hdj, hdi, e2])
   simp only [hget, if_neg this]
 have hold : ∀ j, (listed.setIfInBounds i true).getD j true = true → j ≠ i → listed.getD j true = true := fun j hj hne => by rw [getD_set_eq hil, if_neg hne] at hj; exact hj
 -- what an operation saw that came up already, or that comes up now, is as it was
 have hmask : ∀ j, (∀ k ∈ onsOf ops j, listed.getD k false = true) → mask ops j (at_ ops (a.put o.dst u)) = mask ops j (at_ ops a) := fun j hj => by
  funext k
  unfold mask
  split
  ·rename_i hk
   have hk2 := h.pre hj k (by simpa using hk)
   exact hato k hk2.1 (fun e => by subst e; rw [hun] at hk2; exact absurd hk2.2 (by decide))
  ·rfl
 refine ⟨?_, ?_, ?_, ?_, ?_, ?_, ?_, ?_, ?_, ?_⟩
 ·rw [put_defs]; exact h.defers
 ·rw [put_tmps hd]; simp [h.size]
 ·simp [h.lsize]
 ·intro t ht
  have htd : t ≠ d := fun e => by
   have := ht i him (by rw [hdi, e])
   rw [getD_set_eq hil, if_pos rfl] at this; cases this
  rw [hget, if_neg htd]
  refine h.far t fun j hj hjt => ?_
  have := ht j hj hjt
  rw [getD_set_eq hil] at this
  split at this
  ·cases this
  ·exact this
 ·intro j hj hl
  by_cases e : j = i
  ·subst e; rw [hati, hmask _ hdeps]; exact hu
  ·have hl2 := hold j hl e
   rw [hato j hj e, hmask j (h.down j hj hl2)]
   exact L.keep (h.rel j hj hl2) hb
 ·intro j hj hl hfj
  by_cases e : j = i
  ·subst e
   obtain ⟨g, h1, h2, h3⟩ := hf hfj
   exact ⟨g, by rw [hati, h1], Nat.le_trans (L.size h.frame) h2, h3⟩
  ·obtain ⟨g, h1, h2, h3⟩ := h.new j hj (hold j hl e) hfj
   exact ⟨g, by rw [hato j hj e, h1], h2, Nat.lt_of_lt_of_le h3 (L.size hb)⟩
 ·intro j k hj hk fj fk hne hlj hlk
  by_cases ej : j = i
  ·subst ej
   obtain ⟨g, h1, h2, h3⟩ := hf fj
   obtain ⟨g', e1, e2, e3⟩ := h.new k hk (hold k hlk (fun e => hne e.symm)) fk
   rw [hati, hato k hk (fun e => hne e.symm), e1, h1]
   intro e
   injection e with e; injection e with e; injection e with e
   omega
  ·by_cases ek : k = i
   ·subst ek
    obtain ⟨g, h1, h2, h3⟩ := hf fk
    obtain ⟨g', e1, e2, e3⟩ := h.new j hj (hold j hlj ej) fj
    rw [hato j hj ej, e1, hati, h1]
    intro e
    injection e with e; injection e with e; injection e with e
    omega
   ·rw [hato j hj ej, hato k hk ek]
    exact h.apart j k hj hk fj fk hne (hold j hlj ej) (hold k hlk ek)
 ·exact L.trans h.frame hb
 ·intro j hj hj2
  rw [getD_set_eq hil, if_neg (by omega)]
  exact h.late j hj hj2
 ·intro j hj hl k hk
  by_cases e : j = i
  ·subst e; exact getD_set_true (hdeps k hk)
  ·exact getD_set_true (h.down j hj (hold j hl e) k hk)
def listedM (ops : Array Oper) (m : Nat) : Array Bool := (List.replicate m true ++ List.replicate (ops.size - m) false).toArray
def listedK (n k : Nat) : Array Bool := (List.replicate k true ++ List.replicate (n - k) false).toArray
theorem listedM_K (ops : Array Oper) (m : Nat) : listedM ops m = listedK ops.size m := rfl
theorem listedM_size {ops : Array Oper} {m : Nat} (h : m ≤ ops.size) : (listedM ops m).size = ops.size := by simp [listedM]; omega
theorem listedM_at {ops : Array Oper} {m : Nat} (i : Nat) (h : i < m) : (listedM ops m).getD i true = true := by
 simp [listedM, Array.getD_eq_getD_getElem?, List.getElem?_append_left, h]
theorem listed_eq {ops : Array Oper} {m : Nat} {a0 a : Act} {w0 w : World} {p : Plan} {listed : Array Bool} (h : SInv ops m a0 w0 p listed a w) (hle : m ≤ ops.size) (hall : ∀ i, i < m → listed.getD i true = true) : listed = listedM ops m := by
 refine Array.ext (by rw [h.lsize, listedM_size hle]) fun i h1 h2 => ?_
 by_cases hi : i < m
 ·have e1 := hall i hi
  have e2 := listedM_at (ops := ops) i hi
  simp only [Array.getD_eq_getD_getElem?, Array.getElem?_eq_getElem h1, Option.getD_some] at e1
  simp only [Array.getD_eq_getD_getElem?, Array.getElem?_eq_getElem h2, Option.getD_some] at e2
  rw [e1, e2]
 ·have e1 := h.late i (by omega) (by rw [← h.lsize]; exact h1)
  simp only [Array.getD_eq_getD_getElem?, Array.getElem?_eq_getElem h1, Option.getD_some] at e1
  rw [e1]
  simp [listedM, List.getElem_append_right, Nat.not_lt.1 hi]
theorem count_set {listed : Array Bool} {i : Nat} (h : listed.getD i true = false) : (listed.setIfInBounds i true).toList.count true = listed.toList.count true + 1 := by
 have hl := getD_lt' h
 have hv : listed.toList[i]'(by simpa using hl) = false := by
  simp only [Array.getD_eq_getD_getElem?, Array.getElem?_eq_getElem hl, Option.getD_some] at h
  simpa using h
 rw [Array.toList_setIfInBounds, List.count_set (by simpa using hl), hv]
 simp
theorem count_all {l : List Bool} (h : l.count true = l.length) (i : Nat) (hi : i < l.length) : l[i] = true := by
 have := List.count_eq_length.1 h
 exact (this _ (List.getElem_mem hi)).symm
/-- How an operation is carried out: plainly, or within a fence. -/
structure Mode2 (P : Program) where
 fits : Array Oper → Prop
 op : Array Oper → (Exit → Act → World → Prop) → Nat → (Act → World → Prop) → Act → World → Prop
 step : ∀ {ops : Array Oper} {Q : Exit → Act → World → Prop} {i : Nat} {K : Act → World → Prop} {a : Act} {w : World} {o : Oper}, fits ops → ops[i]? = some o → Region.wanted o (yielded ops a.tmps) = true → o.wp P a w K Q → op ops Q i K a w
 skip : ∀ {ops : Array Oper} {Q : Exit → Act → World → Prop} {i : Nat} {K : Act → World → Prop} {a : Act} {w : World} {o : Oper}, fits ops → ops[i]? = some o → Region.wanted o (yielded ops a.tmps) = false → K (a.put o.dst undef) w → op ops Q i K a w
def plainMode (P : Program) : Mode2 P where
 fits _ := True
 op ops Q i K a w := wpOp P ops Q i K a w
 step := fun _ ho hw h => by
  unfold wpOp
  simp only [ho]
  rw [if_pos hw]
  exact .inl h
 skip := fun _ ho hw h => by
  unfold wpOp
  simp only [ho]
  rw [if_neg (by rw [hw]; decide)]
  exact h
theorem sched_op {P : Program} {ops : Array Oper} {m : Nat} {a0 : Act} {w0 : World} {p : Plan} {Q : Exit → Act → World → Prop} (M : Mode2 P) (hM : M.fits ops) (L : Laws p) (hc : Chk ops m a0.tmps.size) (hg : ∀ k, k < m → Good P ops m a0 w0 p k)
  {listed : Array Bool} {a : Act} {w : World} (h : SInv ops m a0 w0 p listed a w) {i : Nat} (him : i < m) (hun : listed.getD i true = false) (hdeps : ∀ j ∈ onsOf ops i, listed.getD j false = true) {K : Act → World → Prop}
  (hK : ∀ a' V, SInv ops m a0 w0 p (listed.setIfInBounds i true) a' V → K a' V) : M.op ops Q i K a w := by
 obtain ⟨o, d, ho, hd, hds⟩ := hc.op i him
 have good := hg i him a w (fun t ht => h.far t fun j hj hjt => by
  unfold still at ht
  have := List.all_eq_true.1 ht j (List.mem_range.2 hj)
  rw [hjt] at this
  simp at this) h.frame (fun j hj => h.rel j (h.pre hdeps j hj).1 (h.pre hdeps j hj).2)
 rw [opA_of ho] at good
 rcases good with ⟨hw, good⟩ | ⟨hw, h1, h2⟩
 ·exact M.step hM ho hw (good _ _ fun v V' hb hr hf => hK _ _ (h.next L hc him hun ho hdeps hd hds hb v hr hf))
 ·exact M.skip hM ho hw (hK _ _ (h.next L hc him hun ho hdeps hd hds (L.refl _) undef h1 (fun hf => by rw [h2] at hf; cases hf)))
def seqd (ops : Array Oper) (m : Nat) : Bool := (List.range (ops.size - m)).all (fun k => Region.ready .any ops (listedK ops.size (m + k)) == [m + k]) && Region.ready .any ops (listedK ops.size ops.size) == []
theorem listedK_set {n k : Nat} (h : k < n) : (listedK n k).setIfInBounds k true = listedK n (k + 1) := by
 unfold listedK
 simp only [List.setIfInBounds_toArray, Array.mk.injEq]
 rw [List.set_append_right _ _ (by simp), List.length_replicate, Nat.sub_self, show n - k = (n - (k + 1)) + 1 by omega, List.replicate_succ, List.set_cons_zero, List.replicate_succ', List.append_assoc]
 rfl
theorem wpAny_tail {P : Program} {ops : Array Oper} {Q : Exit → Act → World → Prop} {m : Nat} (hs : seqd ops m = true) : ∀ (f k : Nat) (a : Act) (w : World), k + f = ops.size - m → m ≤ ops.size → wpList P ops Q (ops.toList.drop (m + k)) a w → wpAny P .any ops Q f (listedK ops.size (m + k)) a w
 | 0, k, a, w, hk, hm, h => by
  unfold seqd at hs
  rw [Bool.and_eq_true] at hs
  have e : m + k = ops.size := by omega
  rw [e] at h ⊢
  rw [List.drop_of_length_le (by simp)] at h
  exact ⟨by simpa using hs.2, h⟩
 | f + 1, k, a, w, hk, hm, h => by
  have hs' := hs
  unfold seqd at hs
  rw [Bool.and_eq_true, List.all_eq_true] at hs
  have hr : Region.ready .any ops (listedK ops.size (m + k)) = [m + k] := by have := hs.1 k (List.mem_range.2 (by omega)); simpa using this
  have hlt : m + k < ops.size := by omega
  refine ⟨fun h0 => (by rw [hr] at h0; cases h0), fun i hi => ?_⟩
  rw [hr] at hi
  obtain rfl : i = m + k := by simpa using hi
  have ho : ops[m + k]? = some ops[m + k] := Array.getElem?_eq_getElem hlt
  have hl : ops.toList.drop (m + k) = ops[m + k] :: ops.toList.drop (m + (k + 1)) := by
   rw [List.drop_eq_getElem_cons (by simpa using hlt)]; rfl
  rw [hl] at h
  unfold wpList at h
  unfold wpOp
  simp only [ho]
  rw [listedK_set hlt]
  have ih := fun a w => wpAny_tail (P := P) (Q := Q) hs' f (k + 1) a w (by omega) hm
  split
  ·rename_i hw
   rw [if_pos hw] at h
   exact h.imp (Oper.wp_mono fun a w hh => ih a w hh) id
  ·rename_i hw
   rw [if_neg hw] at h
   exact ih _ _ h
/-- The next operation: while not all of the first part is listed, one of it may come up, and nothing else. -/
theorem ready_in {ops : Array Oper} {m : Nat} {a0 a : Act} {w0 w : World} {p : Plan} {listed : Array Bool} (h : SInv ops m a0 w0 p listed a w) (hc : Chk ops m a0.tmps.size) (hcl : cloB ops m = true) (hall : ¬ ∀ i, i < m → listed.getD i true = true) :
  Region.ready .any ops listed ≠ [] ∧ ∀ i ∈ Region.ready .any ops listed, i < m ∧ listed.getD i true = false ∧ ∀ j ∈ onsOf ops i, listed.getD j false = true := by
 constructor
 ·intro hr
  apply hall
  intro i
  induction i using Nat.strongRecOn with
  | ind i ihi =>
   intro him
   cases hl : listed.getD i true with
   | true => rfl
   | false =>
    obtain ⟨o, d, ho, _, _⟩ := hc.op i him
    have : i ∈ Region.ready .any ops listed := mem_ready.2 ⟨hl, o, ho, fun e he hb => by
     have hj : e.on ∈ onsOf ops i := by
      unfold onsOf; rw [ho]
      simp only [List.mem_map, List.mem_filter]
      exact ⟨e, ⟨by simpa using he, hb⟩, rfl⟩
     have hlt := hc.small i him _ hj
     have := ihi _ hlt (by omega)
     rwa [getD_tf (by rw [h.lsize]; have := hc.le; omega)] at this⟩
    rw [hr] at this; cases this
 ·intro i hi
  obtain ⟨hun, o, ho, hdep⟩ := mem_ready.1 hi
  have hdeps := onsOf_of ho hdep
  have hos : i < ops.size := by rw [← h.lsize]; exact getD_lt' hun
  by_cases him : i < m
  ·exact ⟨him, hun, hdeps⟩
  ·exfalso
   apply hall
   intro j hj
   have := clo_listed h.downAll 12 _ hdeps j (clo_spec hcl i (by omega) hos j hj)
   rw [getD_tf (getD_lt this)]; exact this
theorem zero_all {ops : Array Oper} {m : Nat} {a0 a : Act} {w0 w : World} {p : Plan} {listed : Array Bool} (h : SInv ops m a0 w0 p listed a w) (hle : m ≤ ops.size) (hn : listed.toList.count true = ops.size) : ∀ i, i < m → listed.getD i true = true := fun i hi => by
 have hl : i < listed.size := by rw [h.lsize]; omega
 have := count_all (l := listed.toList) (by rw [Array.length_toList, h.lsize]; omega) i (by simpa using hl)
 simp only [Array.getD_eq_getD_getElem?, Array.getElem?_eq_getElem hl, Option.getD_some]
 simpa using this
theorem countM {ops : Array Oper} {m : Nat} : (listedM ops m).toList.count true = m := by simp [listedM, List.count_replicate]
theorem wpAny_sched {P : Program} {ops : Array Oper} {m : Nat} {a0 : Act} {w0 : World} {p : Plan} {Q : Exit → Act → World → Prop} (L : Laws p) (hc : Chk ops m a0.tmps.size) (hcl : cloB ops m = true) (hg : ∀ k, k < m → Good P ops m a0 w0 p k)
  (hfin : ∀ a V, SInv ops m a0 w0 p (listedM ops m) a V → wpAny P .any ops Q (ops.size - m) (listedM ops m) a V) :
  ∀ (fuel : Nat) (listed : Array Bool) (a : Act) (w : World), SInv ops m a0 w0 p listed a w → listed.toList.count true + fuel = ops.size → wpAny P .any ops Q fuel listed a w := by
 intro fuel
 induction fuel with
 | zero =>
  intro listed a w h hn
  have e := listed_eq h hc.le (zero_all h hc.le (by omega))
  subst e
  have := hfin a w h
  rw [countM] at hn
  rw [show ops.size - m = 0 by omega] at this
  exact this
 | succ fuel ih =>
  intro listed a w h hn
  by_cases hall : ∀ i, i < m → listed.getD i true = true
  ·have e := listed_eq h hc.le hall
   subst e
   have := hfin a w h
   rw [countM] at hn
   rw [show ops.size - m = fuel + 1 by omega] at this
   exact this
  ·obtain ⟨h1, h2⟩ := ready_in h hc hcl hall
   refine ⟨fun hr => absurd hr h1, fun i hi => ?_⟩
   obtain ⟨him, hun, hdeps⟩ := h2 i hi
   exact sched_op (plainMode P) trivial L hc hg h him hun hdeps fun a' V h' => ih _ _ _ h' (by rw [count_set hun]; omega)
theorem sinv_start {ops : Array Oper} {m : Nat} {a0 : Act} {w0 w1 : World} {p : Plan} (HC : Chk ops m a0.tmps.size) (hb : p.Fr w0 w1) : SInv ops m a0 w0 p (Array.replicate ops.size false) a0 w1 := by
 have hf : ∀ i, i < ops.size → (Array.replicate ops.size false).getD i true = false := fun i hi => by simp [Array.getD_eq_getD_getElem?, Array.getElem?_replicate, hi]
 have hno : ∀ i, i < m → (Array.replicate ops.size false).getD i true = true → False := fun i hi hl => by
  rw [hf i (Nat.lt_of_lt_of_le hi HC.le)] at hl; cases hl
 exact ⟨rfl, rfl, by simp, fun t _ => rfl, fun i hi hl => (hno i hi hl).elim, fun i hi hl => (hno i hi hl).elim, fun i j hi hj _ _ _ hl => (hno i hi hl).elim, hb, fun i _ hi => hf i hi, fun i hi hl => (hno i hi hl).elim⟩
/-- The temporaries behind the first part. -/
def finL (x : Nat → Value) : Nat → List Tmp → Array Value → Array Value
 | _, [], A => A
 | k, d :: r, A => finL x (k + 1) r (A.setIfInBounds d (x k))
def chkD (ops : Array Oper) : Nat → List Tmp → Bool
 | _, [] => true
 | k, d :: r => dstOf ops k == some d && chkD ops (k + 1) r
theorem finL_eq {ops : Array Oper} {B : Array Value} {x : Nat → Value} : ∀ (D : List Tmp) (k : Nat) (A : Array Value), chkD ops k D = true → B.size = A.size →
  (∀ i d, D[i]? = some d → d < A.size → B.getD d undef = x (k + i)) → (∀ t, (∀ i, i < D.length → dstOf ops (k + i) ≠ some t) → B.getD t undef = A.getD t undef) → finL x k D A = B
 | [], k, A, _, hs, _, hf => by
  unfold finL
  refine (Array.ext hs fun i h1 h2 => ?_).symm
  have := hf i (fun _ h => absurd h (Nat.not_lt_zero _))
  simpa [Array.getD_eq_getD_getElem?, h1, h2] using this
 | d :: r, k, A, hd, hs, hv, hf => by
  unfold chkD at hd
  rw [Bool.and_eq_true] at hd
  have hdk : dstOf ops k = some d := by simpa using hd.1
  unfold finL
  refine finL_eq r (k + 1) _ hd.2 (by simp [hs]) (fun i e hi hlt => ?_) (fun t ht => ?_)
  ·have := hv (i + 1) e (by simpa using hi) (by simpa using hlt)
   rw [this]; congr 1; omega
  ·by_cases hlt : d < A.size
   ·rw [tget_set hlt]
    split
    ·rename_i e; subst e
     exact hv 0 t rfl hlt
    ·rename_i e
     refine hf t fun i hi hit => ?_
     cases i with
     | zero => rw [Nat.add_zero, hdk] at hit; injection hit with hit; exact e hit.symm
     | succ i => exact ht i (by simpa using hi) (by rw [← hit]; congr 1; omega)
   ·have hle : A.size ≤ d := Nat.le_of_not_lt hlt
    rw [Array.setIfInBounds_eq_of_size_le hle]
    by_cases e : t = d
    ·subst e
     simp [Array.getD_eq_getD_getElem?, Array.getElem?_eq_none (show B.size ≤ t from hs ▸ hle), Array.getElem?_eq_none hle]
    ·refine hf t fun i hi hit => ?_
     cases i with
     | zero => rw [Nat.add_zero, hdk] at hit; injection hit with hit; exact e hit.symm
     | succ i => exact ht i (by simpa using hi) (by rw [← hit]; congr 1; omega)
/-- What is known behind the first part. -/
structure SFin (ops : Array Oper) (m : Nat) (p : Plan) (x : Nat → Value) (w0 V : World) : Prop where
 rel : ∀ i, i < m → p.R i (mask ops i x) (x i) V
 new : ∀ i, i < m → p.fresh i = true → ∃ g, x i = .pointer (some ⟨g, 0, none⟩) ∧ w0.heap.size ≤ g ∧ g < V.heap.size
 apart : ∀ i j, i < m → j < m → p.fresh i = true → p.fresh j = true → i ≠ j → x i ≠ x j
 frame : p.Fr w0 V
theorem sinv_end {ops : Array Oper} {D : List Tmp} {a0 a : Act} {w0 V : World} {p : Plan} (hd : chkD ops 0 D = true) (HC : Chk ops D.length a0.tmps.size) (h : SInv ops D.length a0 w0 p (listedM ops D.length) a V) : SFin ops D.length p (at_ ops a) w0 V ∧ finL (at_ ops a) 0 D a0.tmps = a.tmps := by
 refine ⟨⟨fun i hi => h.rel i hi (listedM_at i hi), fun i hi hf => h.new i hi (listedM_at i hi) hf, fun i j hi hj fi fj hne => h.apart i j hi hj fi fj hne (listedM_at i hi) (listedM_at j hj), h.frame⟩, ?_⟩
 have hD : ∀ (D : List Tmp) (k i : Nat) (d : Tmp), chkD ops k D = true → D[i]? = some d → dstOf ops (k + i) = some d := by
  intro D
  induction D with
  | nil => intro k i d _ h; simp at h
  | cons e r ih =>
   intro k i d hk hi
   unfold chkD at hk
   rw [Bool.and_eq_true] at hk
   cases i with
   | zero => simp at hi; subst hi; simpa using hk.1
   | succ i => have := ih (k + 1) i d hk.2 (by simpa using hi); rwa [show k + 1 + i = k + (i + 1) by omega] at this
 refine finL_eq D 0 _ hd h.size (fun i d hi hlt => ?_) (fun t ht => ?_)
 ·have := hD D 0 i d hd hi
  unfold at_ tm
  rw [this]
 ·refine h.far t fun i hi hit => ?_
  have := ht i hi
  rw [Nat.zero_add] at this
  exact absurd hit this
theorem wp_sch {P : Program} {ops : Array Oper} {a0 : Act} {w0 : World} {Q : Exit → Act → World → Prop} {id : Nat} {draw : Bool} (p : Plan) (D : List Tmp) (L : Laws p) (hm : P.follows .mixedOrders = true) (hc : chk ops D.length a0.tmps.size = true) (hd : chkD ops 0 D = true) (hq : (!draw || (cloB ops D.length && seqd ops D.length)) = true)
  (hg : ∀ k, k < D.length → Good P ops D.length a0 w0 p k) (tl : List Oper) (ht : ops.toList.drop D.length = tl)
  (hfin : ∀ (x : Nat → Value) (V : World), SFin ops D.length p x w0 V → wpList P ops Q tl ⟨finL x 0 D a0.tmps, a0.defers⟩ V) :
  (Code.region id ops draw).wp P Q a0 w0 := by
 have HC := chk_spec hc
 have fin : ∀ a V, SInv ops D.length a0 w0 p (listedM ops D.length) a V → wpList P ops Q (ops.toList.drop D.length) a V := fun a V h => by
  obtain ⟨h1, h2⟩ := sinv_end hd HC h
  have := hfin _ V h1
  rw [h2, ← h.defers] at this
  rw [ht]; exact this
 cases draw with
 | true =>
  have hq2 : cloB ops D.length = true ∧ seqd ops D.length = true := by simpa using hq
  refine wp_region_any hm (wpAny_sched L HC hq2.1 hg (fun a V h => ?_) ops.size _ a0 w0.drew (sinv_start HC (L.drew _)) (by simp [List.count_replicate]))
  have := wpAny_tail (P := P) (Q := Q) hq2.2 (ops.size - D.length) 0 a V (by omega) HC.le (fin a V h)
  rw [Nat.add_zero, ← listedM_K] at this
  exact this
 | false =>
  refine wp_region ?_
  have key : ∀ (f k : Nat) (a : Act) (w : World), k + f = D.length → SInv ops D.length a0 w0 p (listedK ops.size k) a w → wpOps P ops Q (List.range' k (ops.size - k)) a w := by
   intro f
   induction f with
   | zero =>
    intro k a w hk h
    rw [Nat.add_zero] at hk
    subst hk
    have := fin a w h
    have e : wpOps P ops Q (List.range' D.length (ops.size - D.length)) = wpList P ops Q (ops.toList.drop D.length) := by
     have e1 := wpOps_eq_wpList (P := P) (Q := Q) (ops := ops) (ops.toList.drop D.length) D.length (fun j => by simp)
     have e2 : (ops.toList.drop D.length).length = ops.size - D.length := by simp
     rw [e2] at e1; exact e1
    rw [e]; exact this
   | succ f ih =>
    intro k a w hk h
    have hkm : k < D.length := by omega
    have hks : k < ops.size := Nat.lt_of_lt_of_le hkm HC.le
    rw [show ops.size - k = (ops.size - (k + 1)) + 1 by omega, List.range'_succ, wpOps_cons]
    refine sched_op (plainMode P) trivial L HC hg h hkm ?_ (fun j hj => ?_) (fun a' V h' => ?_)
    ·simp [listedK, Array.getD_eq_getD_getElem?, List.getElem?_append_right, List.getElem?_replicate, show 0 < ops.size - k by omega]
    ·have := HC.small k hkm j hj
     simp [listedK, Array.getD_eq_getD_getElem?, List.getElem?_append_left, this]
    ·rw [listedK_set hks] at h'
     exact ih (k + 1) a' V (by omega) h'
  rw [List.range_eq_range']
  have h0 : listedK ops.size 0 = Array.replicate ops.size false := by simp [listedK]
  exact key D.length 0 a0 w0 (by omega) (by rw [h0]; exact sinv_start HC (L.refl _))
/-! ## The same within a round of a range over a function. -/
theorem wpIn_of_wp {P : Program} {lp n : Nat} (o : Oper) (a : Act) (V : World) (K : Act → World → Prop) (Q : Exit → Act → World → Prop) (hd : ∀ c, o.op ≠ .defer c) (h : o.wp P a V K Q) : o.wpIn (Fence.wide.inRound lp) n P a V K Q := by
 unfold Oper.wpIn
 refine ⟨fun f _ => trivial, ?_⟩
 rw [Oper.semAt_plain _ _ _ hd]
 unfold Oper.wp at h
 generalize (execOp a.eval o).run P V = r at *
 cases r with
 | ok x w' =>
  cases x <;> simp only [Oper.upon, Oper.uponIn] at h ⊢ <;>
   first
    | exact h
    | exact ⟨fun hh => (by cases hh), CallsIn.inRound lp (callsIn_wide.2 (h.mono fun e w'' he => by cases e <;> exact he))⟩
    | exact ⟨fun hh => (by cases hh), fun c cs _ => let ⟨v, w2, r, s⟩ := h c cs; ⟨v, w2, r, stepsIn_wide.2 s⟩⟩
 | halt x w' => cases x <;> simp only [Oper.upon, Oper.uponIn] at h ⊢ <;> exact h
def noDefer (ops : Array Oper) : Bool := ops.all fun o => match o.op with | .defer _ => false | _ => true
theorem noDefer_spec {ops : Array Oper} (h : noDefer ops = true) {i : Nat} {o : Oper} (ho : ops[i]? = some o) (c : Call) : o.op ≠ .defer c := by
 intro e
 have hm : o ∈ ops := Array.mem_of_getElem? ho
 have := Array.all_eq_true_iff_forall_mem.1 h o hm
 rw [e] at this; cases this
def roundMode (P : Program) (lp n : Nat) : Mode2 P where
 fits ops := noDefer ops = true
 op ops Q i K a w := wpOpIn (Fence.wide.inRound lp) n P ops Q i K a w
 step := fun hM ho hw h => by
  unfold wpOpIn
  simp only [ho]
  rw [if_pos hw]
  exact wpIn_of_wp _ _ _ _ _ (fun c => noDefer_spec hM ho c) h
 skip := fun hM ho hw h => by
  unfold wpOpIn
  simp only [ho]
  rw [if_neg (by rw [hw]; decide)]
  exact ⟨fun _ _ => trivial, h⟩
theorem wpAny_tailIn {lp n : Nat} {P : Program} {ops : Array Oper} {Q : Exit → Act → World → Prop} {m : Nat} (hs : seqd ops m = true) : ∀ (f k : Nat) (a : Act) (w : World), k + f = ops.size - m → m ≤ ops.size → wpListIn (Fence.wide.inRound lp) n P ops Q (ops.toList.drop (m + k)) a w → wpAnyIn (Fence.wide.inRound lp) n P .any ops Q f (listedK ops.size (m + k)) a w
 | 0, k, a, w, hk, hm, h => by
  unfold seqd at hs
  rw [Bool.and_eq_true] at hs
  have e : m + k = ops.size := by omega
  rw [e] at h ⊢
  rw [List.drop_of_length_le (by simp)] at h
  exact ⟨by simpa using hs.2, h⟩
 | f + 1, k, a, w, hk, hm, h => by
  have hs' := hs
  unfold seqd at hs
  rw [Bool.and_eq_true, List.all_eq_true] at hs
  have hr : Region.ready .any ops (listedK ops.size (m + k)) = [m + k] := by have := hs.1 k (List.mem_range.2 (by omega)); simpa using this
  have hlt : m + k < ops.size := by omega
  refine ⟨fun h0 => (by rw [hr] at h0; cases h0), fun i hi => ?_⟩
  rw [hr] at hi
  obtain rfl : i = m + k := by simpa using hi
  have ho : ops[m + k]? = some ops[m + k] := Array.getElem?_eq_getElem hlt
  have hl : ops.toList.drop (m + k) = ops[m + k] :: ops.toList.drop (m + (k + 1)) := by
   rw [List.drop_eq_getElem_cons (by simpa using hlt)]; rfl
  rw [hl] at h
  unfold wpListIn at h
  unfold wpOpIn
  simp only [ho]
  rw [listedK_set hlt]
  have ih := fun a w => wpAny_tailIn (lp := lp) (n := n) (P := P) (Q := Q) hs' f (k + 1) a w (by omega) hm
  split
  ·rename_i hw
   rw [if_pos hw] at h
   exact Oper.wpIn_mono (fun a w hh => ih a w hh) h
  ·rename_i hw
   rw [if_neg hw] at h
   exact ⟨h.1, ih _ _ h.2⟩
theorem wpAny_schedIn {lp n : Nat} {P : Program} {ops : Array Oper} {m : Nat} {a0 : Act} {w0 : World} {p : Plan} {Q : Exit → Act → World → Prop} (hnd : noDefer ops = true) (L : Laws p) (hc : Chk ops m a0.tmps.size) (hcl : cloB ops m = true) (hg : ∀ k, k < m → Good P ops m a0 w0 p k)
  (hfin : ∀ a V, SInv ops m a0 w0 p (listedM ops m) a V → wpAnyIn (Fence.wide.inRound lp) n P .any ops Q (ops.size - m) (listedM ops m) a V) :
  ∀ (fuel : Nat) (listed : Array Bool) (a : Act) (w : World), SInv ops m a0 w0 p listed a w → listed.toList.count true + fuel = ops.size → wpAnyIn (Fence.wide.inRound lp) n P .any ops Q fuel listed a w := by
 intro fuel
 induction fuel with
 | zero =>
  intro listed a w h hn
  have e := listed_eq h hc.le (zero_all h hc.le (by omega))
  subst e
  have := hfin a w h
  rw [countM] at hn
  rw [show ops.size - m = 0 by omega] at this
  exact this
 | succ fuel ih =>
  intro listed a w h hn
  by_cases hall : ∀ i, i < m → listed.getD i true = true
  ·have e := listed_eq h hc.le hall
   subst e
   have := hfin a w h
   rw [countM] at hn
   rw [show ops.size - m = fuel + 1 by omega] at this
   exact this
  ·obtain ⟨h1, h2⟩ := ready_in h hc hcl hall
   refine ⟨fun hr => absurd hr h1, fun i hi => ?_⟩
   obtain ⟨him, hun, hdeps⟩ := h2 i hi
   exact sched_op (roundMode P lp n) hnd L hc hg h him hun hdeps fun a' V h' => ih _ _ _ h' (by rw [count_set hun]; omega)
end Go.Proofs.YtcfogpeinjehbaaDoor.Sch
end
