/-
  The contracts of scalar's less, add and bytes. Conditions: limbs of 64 bits; for add numbers below L, and L stands in its variable.
-/
import Derived.Test.YtebnkbeejkopaaaDoorScaOk
import Derived.Shelf.Spec.BitsCarry
set_option linter.unusedVariables false
set_option linter.unusedSimpArgs false
namespace Go.Proofs.YtebnkbeejkopaaaDoor
open Go Go.Proofs Go.RowKit F5

theorem sadd64_run (x y c r c' : Nat) (hr : r < M) (hc : c ≤ 1) (he : r + M * c' = x + y + c) (w : World) : (callFunc 24 #[.int .u64 (x : Int), .int .u64 (y : Int), .int .u64 (c : Int)]).run Tryd.prog w =
    .ok (.value (.tuple #[.int .u64 (r : Int), .int .u64 (c' : Int)])) w := by
  rw [run_callFunc_extern Tryd.func24 (by kernel_rfl) (by kernel_rfl) (by kernel_rfl) (e := add64Entry) (by kernel_rfl), run_add64 x y c (by omega) (by omega) (by omega) (by omega)]
  unfold M at hr he
  have e1 : ((x : Int) + (y : Int) + (c : Int)) % 18446744073709551616 = (r : Int) := by omega
  have e2 : ((x : Int) + (y : Int) + (c : Int)) / 18446744073709551616 = (c' : Int) := by omega
  rw [e1, e2]
  rfl
theorem ssub64_run (x y c r c' : Nat) (hr : r < M) (hx : x < M) (hy : y < M) (hc : c ≤ 1) (he : r + y + c = x + M * c') (w : World) : (callFunc 27 #[.int .u64 (x : Int), .int .u64 (y : Int), .int .u64 (c : Int)]).run Tryd.prog w =
    .ok (.value (.tuple #[.int .u64 (r : Int), .int .u64 (c' : Int)])) w := by
  rw [run_callFunc_extern Tryd.func27 (by kernel_rfl) (by kernel_rfl) (by kernel_rfl) (e := sub64Entry) (by kernel_rfl), run_sub64 x y c hc]
  unfold M at hr he hx hy
  have e1 : (x + 18446744073709551616 - y - c) % 18446744073709551616 = r := by omega
  have e2 : (if x < y + c then 1 else 0) = c' := by split <;> omega
  rw [e1, e2]
  rfl
theorem sadd_carry {x y c : Nat} (hx : x < M) (hy : y < M) (hc : c ≤ 1) : (x + y + c) / M ≤ 1 := by unfold M at *; omega
theorem ssub_step {x y c : Nat} (hx : x < M) (hy : y < M) (hc : c ≤ 1) : (x + M - y - c) % M + y + c = x + M * (if x < y + c then 1 else 0) := by
  unfold M at *; split <;> omega
theorem sborrow_le (x y c : Nat) : (if x < y + c then 1 else 0) ≤ 1 := by split <;> omega
theorem sval_take4 {b : Nat} {B : List Nat} (h : B.length = 4) : val b (B.take 4) = val b B := by rw [List.take_of_length_le (by omega)]

/-- A number as four limbs. -/
def limS (n : Nat) : Array Value := u64s (digs M n 4)
theorem limS_size (n : Nat) : (limS n).size = 4 := by rw [limS, u64s_size, digs_length]
theorem infoS4 : (Tryd.prog.info? 34).map (·.size) = some 4 := by kernel_rfl
theorem u64s_info {L : List Nat} (h : L.length = 4) : (Tryd.prog.info? 34).map (·.size) = some (u64s L).size := by rw [u64s_size, h]; exact infoS4
theorem LL_M : LL < M ^ 4 := by decide
theorem LL_M2 : 2 * LL < M ^ 4 := by decide
theorem limS_val {n : Nat} (h : n < LL) : val M (digs M n 4) = n := by rw [val_digs, Nat.mod_eq_of_lt (Nat.lt_trans h LL_M)]
theorem limS_all (n : Nat) : All M (digs M n 4) := digs_all (by decide) _ _

theorem sresults_row_tmp {fn : Func} {p u : Tmp} {ty : TypeId} {P : Program} (h : fn.results = #[.cell p ty, .tmp u]) (tmps : Array Value) (w : World) (g : Nat) (t : TypeId) (cs : Array Value) (v : Value) (e : TypeId) (n : Nat)
    (hp : tmps.getD p undef = .pointer (some ⟨g, 0, none⟩)) (hv : tmps.getD u undef = v) (hg : Blk w g t cs) (hu : P.underlying ty = some (.array n e)) (hi : (P.info? ty).map (·.size) = some cs.size) :
    (results fn tmps).run P w = .ok (.tuple #[.agg cs, v]) w := by
  rw [results_cell_tmp h, hp, hv]
  have hl := run_loadVar_row w g t ty cs (0, 0) _ hg hu rfl hi
  simp [asAddr, Result.andThen, hl]

/-- Three blocks, one behind the other. -/
theorem sthree (w : World) (a b c : Array Value) (T1 T2 T3 : TypeId) : Blk (((w.alloc (.cells a T1)).alloc (.cells b T2)).alloc (.cells c T3)) w.heap.size T1 a ∧ Blk (((w.alloc (.cells a T1)).alloc (.cells b T2)).alloc (.cells c T3)) (w.heap.size + 1) T2 b ∧
    Blk (((w.alloc (.cells a T1)).alloc (.cells b T2)).alloc (.cells c T3)) (w.heap.size + 2) T3 c ∧ Below w.heap.size w (((w.alloc (.cells a T1)).alloc (.cells b T2)).alloc (.cells c T3)) ∧ w.heap.size + 2 < (((w.alloc (.cells a T1)).alloc (.cells b T2)).alloc (.cells c T3)).heap.size := by
  refine ⟨((Blk.new w T1 a).alloc _).alloc _, ?_, ?_, (((Below.refl _ _).alloc (Nat.le_refl _) _).alloc (by simp) _).alloc (by simp; omega) _, by simp⟩
  · have := (Blk.new (w.alloc (.cells a T1)) T2 b).alloc (.cells c T3)
    rwa [show (w.alloc (.cells a T1)).heap.size = w.heap.size + 1 by simp] at this
  · have := Blk.new ((w.alloc (.cells a T1)).alloc (.cells b T2)) T3 c
    rwa [show ((w.alloc (.cells a T1)).alloc (.cells b T2)).heap.size = w.heap.size + 2 by simp] at this

abbrev zeros4 : Array Value := #[.int .u64 0, .int .u64 0, .int .u64 0, .int .u64 0]
def SAt (Y : List Nat) (w : World) (L : List Nat) (wr : World) : Prop :=
  L.length = 4 ∧ Blk wr w.heap.size 34 (u64s L) ∧ Blk wr (w.heap.size + 1) 34 (u64s Y) ∧ Blk wr (w.heap.size + 2) 34 zeros4 ∧ Below w.heap.size w wr
theorem SAt.drew {Y L : List Nat} {w wr : World} (h : SAt Y w L wr) : SAt Y w L wr.drew := ⟨h.1, h.2.1.drew, h.2.2.1.drew, h.2.2.2.1.drew, h.2.2.2.2.drew⟩
theorem SAt.set {Y L : List Nat} {w wr : World} (h : SAt Y w L wr) (k r : Nat) : SAt Y w (L.set k r) (wr.setCell ⟨w.heap.size, k, none⟩ (.int .u64 (r : Int))) := by
  obtain ⟨h1, h2, h3, h4, h5⟩ := h
  refine ⟨by simpa using h1, ?_, h3.far (by show w.heap.size + 1 ≠ w.heap.size; omega) _, h4.far (by show w.heap.size + 2 ≠ w.heap.size; omega) _, h5.setCell (by show w.heap.size ≤ w.heap.size; omega) _⟩
  have := h2.set_ k (.int .u64 (r : Int))
  rwa [u64s_set] at this
theorem SAt.start (w : World) (X Y : List Nat) (h : X.length = 4) : SAt Y w X (((w.alloc (.cells (u64s X) 34)).alloc (.cells (u64s Y) 34)).alloc (.cells zeros4 34)) := by
  obtain ⟨b1, b2, b3, hb, _⟩ := sthree w (u64s X) (u64s Y) zeros4 34 34 34
  exact ⟨h, b1, b2, b3, hb⟩

set_option maxHeartbeats 2000000 in
set_option maxRecDepth 100000 in
theorem sless_any (X Y : List Nat) (w : World) (hX4 : X.length = 4) (hX : All M X) (hY4 : Y.length = 4) (hY : All M Y) :
    Calls Tryd.prog 25 #[.agg (u64s X), .agg (u64s Y)] w fun e w' => (∃ L c, Less M X 4 L c (val M Y) ∧ c ≤ 1 ∧ e = .returned (.tuple #[.agg (u64s L), .bool (decide (c ≠ 0))])) ∧ Below w.heap.size w w' := by
  have hal : Tryd.prog.arrayLen 34 = 4 := by kernel_rfl
  have hel : Tryd.prog.elem 34 = 32 := by kernel_rfl
  have HX4 := Lib.hid hX4
  have HY4 := Lib.hid hY4
  have HX := Lib.hid hX
  have HY := Lib.hid hY
  have hs0 := Lib.hid (SAt.start w X Y hX4)
  obtain ⟨cx, hcx⟩ : ∃ c, Hid (c = u64s X) := ⟨_, Lib.hid rfl⟩
  obtain ⟨cy, hcy⟩ : ∃ c, Hid (c = u64s Y) := ⟨_, Lib.hid rfl⟩
  rw [← hcx.out, ← hcy.out] at hs0 ⊢
  clear hX4 hY4 hX hY
  go_enter Tryd.func25, Tryd.ntmps25
  go_wp2
  go_loopw [6, 8] (fun cv iv wr => ∃ k c L, k ≤ 4 ∧ c ≤ 1 ∧ cv = .int .u64 (c : Nat) ∧ iv = .int .i64 (k : Nat) ∧ Less M X k L c (val M (Y.take k)) ∧ SAt Y w L wr) (fun _ iv _ => 4 - (intOf iv).toNat)
  case atStart => exact ⟨0, 0, X, by omega, by omega, rfl, rfl, Less.zero HX.out, hs0.out⟩
  case round =>
    obtain ⟨k, c, L, hk, hc, rfl, rfl, hL, hs⟩ := hrel
    by_cases hlt : k < 4
    · have hL4 : L.length = 4 := hs.1
      have hx : wr.cell? ⟨w.heap.size, k, none⟩ = some (.int .u64 ((L.getD k 0 : Nat) : Int)) := (hs.2.1.cell _).trans (u64s_get _ _ (by omega))
      have hf := hs.2.1.frozen k
      have hy : wr.cell? ⟨w.heap.size + 1, k, none⟩ = some (.int .u64 ((Y.getD k 0 : Nat) : Int)) := (hs.2.2.1.cell _).trans (u64s_get _ _ (by rw [HY4.out]; omega))
      have hxl := hL.2.1.getD (by decide) k
      have hyl := HY.out.getD (by decide) k
      have hXk := hL.2.2.1 k (Nat.le_refl _)
      obtain ⟨x, hx'⟩ : ∃ x, Hid (x = L.getD k 0) := ⟨_, Lib.hid rfl⟩
      obtain ⟨y, hy'⟩ : ∃ y, Hid (y = Y.getD k 0) := ⟨_, Lib.hid rfl⟩
      rw [← hx'.out] at hx hxl hXk
      rw [← hy'.out] at hy hyl
      obtain ⟨r, hR⟩ : ∃ r, Hid (r = (x + M - y - c) % M) := ⟨_, Lib.hid rfl⟩
      obtain ⟨c', hC⟩ : ∃ c', Hid (c' = if x < y + c then 1 else 0) := ⟨_, Lib.hid rfl⟩
      have he : r + y + c = x + M * c' := by rw [hR.out, hC.out]; exact ssub_step hxl hyl hc
      have hrl : r < M := by rw [hR.out]; exact Nat.mod_lt _ (by decide)
      have hcl : c' ≤ 1 := by rw [hC.out]; exact sborrow_le _ _ _
      have hrun := ssub64_run x y c r c' hrl hxl hyl hc he
      have hnext : Hid (Less M X (k + 1) (L.set k r) c' (val M (Y.take (k + 1)))) := Lib.hid (by
        rw [val_take_succ _ _ _ (by rw [HY4.out]; exact hlt), ← hy'.out]
        exact hL.next (by rw [HX4.out]; exact hlt) hrl (by rw [← hXk]; exact he))
      have hsn := Lib.hid (hs.set k r)
      clear hL hs hXk he hL4
      go_wp2
      go_region
      have hnd := Lib.hid hsn.out.drew
      clear hsn
      go_wp2
      go_roundw
      case rel => exact ⟨k + 1, c', _, by omega, hcl, rfl, by go_num, hnext.out, hnd.out⟩
      case measure => simp [intOf]; omega
    · obtain rfl : k = 4 := by omega
      rw [sval_take4 HY4.out] at hL
      have HL := Lib.hid hL
      have HB := Lib.hid hs.2.2.2.2
      have b1 := Lib.hid hs.2.1
      have b3 := Lib.hid hs.2.2.2.1
      obtain ⟨R, hR⟩ : ∃ R, Hid (R = u64s L) := ⟨_, Lib.hid rfl⟩
      rw [← hR.out] at b1
      have hRi : Hid ((Tryd.prog.info? 34).map (·.size) = some R.size) := by rw [hR.out]; exact Lib.hid (u64s_info hs.1)
      have hR1 : Hid (R.all (·.oneCell') = true) := by rw [hR.out]; exact Lib.hid (u64s_one _)
      have hzz : Hid (zeros4.size = R.size) := by rw [hR.out, u64s_size, hs.1]; exact Lib.hid rfl
      obtain ⟨b, hb⟩ : ∃ b, Hid (b = decide (c ≠ 0)) := ⟨_, Lib.hid rfl⟩
      have hbt : ((c : Int) != 0) = b := by rw [hb.out]; rcases (show c = 0 ∨ c = 1 by omega) with rfl | rfl <;> rfl
      clear hL hs
      go_wp2_with (first | (refine wpList_load_row rfl 34 (.tmp 2) rfl w.heap.size rfl 34 R (0, 0) _ b1.out Tryd.underlying34 rfl hRi.out ?_) |
        (refine wpList_store_row rfl 34 (.tmp 4) (.tmp 25) rfl (w.heap.size + 2) R rfl rfl 34 _ b3.out hRi.out hzz.out hR1.out ?_))
      refine bodyPost_ret (v := .tuple #[.agg R, .bool b]) ?_ rfl ⟨⟨L, c, HL.out, hc, by rw [hR.out, hb.out]⟩, below_row HB.out (by omega) _⟩
      exact sresults_row_tmp Tryd.results25 _ _ (w.heap.size + 2) 34 R _ _ _ rfl rfl (b3.out.row R) Tryd.underlying34 hRi.out

/-- L's limbs stand in their variable. -/
def OrderAt (w : World) : Prop := 0 < w.heap.size ∧ ∀ j v, (limS LL)[j]? = some v → w.cell? ⟨0, 0 + j, none⟩ = some v
theorem OrderAt.old {w w' : World} (h : OrderAt w) (hb : Below w.heap.size w w') : OrderAt w' :=
  ⟨Nat.lt_of_lt_of_le h.1 hb.size, fun j v hj => (hb.cell (p := ⟨0, 0 + j, none⟩) h.1).trans (h.2 j v hj)⟩

theorem sadd_sum {n m c : Nat} {L : List Nat} (hn : n < LL) (hm : m < LL) (h : Part M (digs M n 4) 4 L c (val M (digs M m 4))) : L = digs M (n + m) 4 := by
  obtain ⟨h1, h2, _, h4⟩ := h
  rw [limS_val hn, limS_val hm] at h4
  have hl := val_lt L h2
  rw [h1, digs_length] at hl
  refine digs_of h2 (h1.trans (digs_length _ _ _)) ?_
  have h3 := LL_M2
  have hc : c = 0 := by
    rcases Nat.eq_zero_or_pos c with h | h
    · exact h
    · have := Nat.mul_le_mul_left (M ^ 4) h
      omega
  subst hc
  omega
theorem sadd_less {s c : Nat} {L : List Nat} (hs : s < 2 * LL) (hc : c ≤ 1) (h : Less M (digs M s 4) 4 L c (val M (digs M LL 4))) : (c = 1 ∧ s % LL = s) ∨ (c = 0 ∧ L = digs M (s % LL) 4) := by
  obtain ⟨h1, h2, _, h4⟩ := h
  have h3 := LL_M2
  rw [val_digs, val_digs, Nat.mod_eq_of_lt (by omega), Nat.mod_eq_of_lt (by omega)] at h4
  have hl := val_lt L h2
  rw [h1, digs_length] at hl
  rcases (show c = 0 ∨ c = 1 by omega) with rfl | rfl
  · refine .inr ⟨rfl, digs_of h2 (h1.trans (digs_length _ _ _)) ?_⟩
    rw [Nat.mod_eq_sub_mod (by omega), Nat.mod_eq_of_lt (by omega)]
    omega
  · exact .inl ⟨rfl, Nat.mod_eq_of_lt (by omega)⟩

set_option maxHeartbeats 2000000 in
set_option maxRecDepth 100000 in
theorem sadd_any (n m : Nat) (hn : n < LL) (hm : m < LL) (w : World) (hO : OrderAt w) :
    Calls Tryd.prog 19 #[.agg (limS n), .agg (limS m)] w fun e w' => e = .returned (.agg (limS ((n + m) % LL))) ∧ Below w.heap.size w w' := by
  have hal : Tryd.prog.arrayLen 34 = 4 := by kernel_rfl
  have hel : Tryd.prog.elem 34 = 32 := by kernel_rfl
  have HX := Lib.hid (limS_all n)
  have HY := Lib.hid (limS_all m)
  have HX4 : Hid ((digs M n 4).length = 4) := Lib.hid (digs_length _ _ _)
  have HY4 : Hid ((digs M m 4).length = 4) := Lib.hid (digs_length _ _ _)
  have hs0 := Lib.hid (SAt.start w (digs M n 4) (digs M m 4) (digs_length _ _ _))
  have HO := Lib.hid hO
  have Hn := Lib.hid hn
  have Hm := Lib.hid hm
  clear hn hm hO
  unfold limS
  obtain ⟨cx, hcx⟩ : ∃ c, Hid (c = u64s (digs M n 4)) := ⟨_, Lib.hid rfl⟩
  obtain ⟨cy, hcy⟩ : ∃ c, Hid (c = u64s (digs M m 4)) := ⟨_, Lib.hid rfl⟩
  obtain ⟨Z, hZ⟩ : ∃ R, Hid (R = u64s (digs M ((n + m) % LL) 4)) := ⟨_, Lib.hid rfl⟩
  rw [← hcx.out, ← hcy.out] at hs0 ⊢
  rw [← hZ.out]
  go_enter Tryd.func19, Tryd.ntmps19
  go_wp2
  go_loopw [5, 9] (fun cv iv wr => ∃ k c L, k ≤ 4 ∧ c ≤ 1 ∧ cv = .int .u64 (c : Nat) ∧ iv = .int .i64 (k : Nat) ∧ Part M (digs M n 4) k L c (val M ((digs M m 4).take k)) ∧ SAt (digs M m 4) w L wr) (fun _ iv _ => 4 - (intOf iv).toNat)
  case atStart => exact ⟨0, 0, _, by omega, by omega, rfl, rfl, Part.zero HX.out, hs0.out⟩
  case round =>
    obtain ⟨k, c, L, hk, hc, rfl, rfl, hL, hs⟩ := hrel
    by_cases hlt : k < 4
    · have hL4 : L.length = 4 := hs.1
      have hx : wr.cell? ⟨w.heap.size, k, none⟩ = some (.int .u64 ((L.getD k 0 : Nat) : Int)) := (hs.2.1.cell _).trans (u64s_get _ _ (by omega))
      have hf := hs.2.1.frozen k
      have hy : wr.cell? ⟨w.heap.size + 1, k, none⟩ = some (.int .u64 (((digs M m 4).getD k 0 : Nat) : Int)) := (hs.2.2.1.cell _).trans (u64s_get _ _ (by rw [HY4.out]; omega))
      have hxl := hL.2.1.getD (by decide) k
      have hyl := HY.out.getD (by decide) k
      have hXk := hL.2.2.1 k (Nat.le_refl _)
      obtain ⟨x, hx'⟩ : ∃ x, Hid (x = L.getD k 0) := ⟨_, Lib.hid rfl⟩
      obtain ⟨y, hy'⟩ : ∃ y, Hid (y = (digs M m 4).getD k 0) := ⟨_, Lib.hid rfl⟩
      rw [← hx'.out] at hx hxl hXk
      rw [← hy'.out] at hy hyl
      obtain ⟨r, hR⟩ : ∃ r, Hid (r = (x + y + c) % M) := ⟨_, Lib.hid rfl⟩
      obtain ⟨c', hC⟩ : ∃ c', Hid (c' = (x + y + c) / M) := ⟨_, Lib.hid rfl⟩
      have he : r + M * c' = x + y + c := by rw [hR.out, hC.out]; exact Nat.mod_add_div _ _
      have hrl : r < M := by rw [hR.out]; exact Nat.mod_lt _ (by decide)
      have hcl : c' ≤ 1 := by rw [hC.out]; exact sadd_carry hxl hyl hc
      have hrun := sadd64_run x y c r c' hrl hc he
      have hnext : Hid (Part M (digs M n 4) (k + 1) (L.set k r) c' (val M ((digs M m 4).take (k + 1)))) := Lib.hid (by
        rw [val_take_succ _ _ _ (by rw [HY4.out]; exact hlt), ← hy'.out]
        exact hL.next (by rw [HX4.out]; exact hlt) hrl (by rw [← hXk]; exact he))
      have hsn := Lib.hid (hs.set k r)
      clear hL hs hXk he hL4
      go_wp2
      go_region
      have hnd := Lib.hid hsn.out.drew
      clear hsn
      go_wp2
      go_roundw
      case rel => exact ⟨k + 1, c', _, by omega, hcl, rfl, by go_num, hnext.out, hnd.out⟩
      case measure => simp [intOf]; omega
    · obtain rfl : k = 4 := by omega
      rw [sval_take4 HY4.out] at hL
      have hs1 := hs.1
      obtain rfl := sadd_sum Hn.out Hm.out hL
      have hsum : Hid (n + m < 2 * LL) := Lib.hid (by have := Hn.out; have := Hm.out; omega)
      obtain ⟨s, hs'⟩ : ∃ s, Hid (s = n + m) := ⟨_, Lib.hid rfl⟩
      rw [← hs'.out] at hsum hs hZ
      obtain ⟨R, hR⟩ : ∃ R, Hid (R = u64s (digs M s 4)) := ⟨_, Lib.hid rfl⟩
      obtain ⟨oc, hoc⟩ : ∃ R, Hid (R = u64s (digs M LL 4)) := ⟨_, Lib.hid rfl⟩
      have b1 := hs.2.1
      rw [← hR.out] at b1
      have HB1 := Lib.hid b1
      have HS := Lib.hid hs
      have hRi : Hid ((Tryd.prog.info? 34).map (·.size) = some R.size) := by rw [hR.out]; exact Lib.hid (u64s_info (digs_length _ _ _))
      have hOi : Hid ((Tryd.prog.info? 34).map (·.size) = some oc.size) := by rw [hoc.out]; exact Lib.hid (u64s_info (digs_length _ _ _))
      have hR1 : Hid (R.all (·.oneCell') = true) := by rw [hR.out]; exact Lib.hid (u64s_one _)
      have hzz : Hid (zeros4.size = R.size) := by rw [hR.out, u64s_size, digs_length]; exact Lib.hid rfl
      have hZi : Hid ((Tryd.prog.info? 34).map (·.size) = some Z.size) := by rw [hZ.out]; exact Lib.hid (u64s_info (digs_length _ _ _))
      have hZ1 : Hid (Z.all (·.oneCell') = true) := by rw [hZ.out]; exact Lib.hid (u64s_one _)
      have hzZ : Hid (zeros4.size = Z.size) := by rw [hZ.out, u64s_size, digs_length]; exact Lib.hid rfl
      have hOr : Hid (∀ j v, oc[j]? = some v → wr.cell? ⟨0, 0 + j, none⟩ = some v) := by rw [hoc.out]; exact Lib.hid (HO.out.old hs.2.2.2.2).2
      have CL : Hid (Calls Tryd.prog 25 #[.agg R, .agg oc] wr fun e w' => (∃ L c, Less M (digs M s 4) 4 L c (val M (digs M LL 4)) ∧ c ≤ 1 ∧ e = .returned (.tuple #[.agg (u64s L), .bool (decide (c ≠ 0))])) ∧ Below wr.heap.size wr w') := by
        rw [hR.out, hoc.out]; exact Lib.hid (sless_any _ _ wr (digs_length _ _ _) (limS_all _) (digs_length _ _ _) (limS_all _))
      clear hL hs b1
      go_wp2_with (first | (refine wpList_load_row rfl 34 (.tmp 2) rfl w.heap.size rfl 34 R (0, 0) _ HB1.out Tryd.underlying34 rfl hRi.out ?_) |
        (refine wpList_load_at rfl 34 (.global 0) rfl 0 0 rfl 32 4 oc Tryd.underlying34 hOi.out hOr.out ?_))
      refine CL.out.mono ?_
      rintro e w2 ⟨⟨L2, c2, hL2, hc2, rfl⟩, hb2⟩
      have hcase := Lib.hid (sadd_less hsum.out hc2 hL2)
      obtain ⟨R2, hR2⟩ : ∃ R, Hid (R = u64s L2) := ⟨_, Lib.hid rfl⟩
      rw [← hR2.out]
      have hl2 : L2.length = 4 := hL2.1.trans (digs_length _ _ _)
      have hR2i : Hid ((Tryd.prog.info? 34).map (·.size) = some R2.size) := by rw [hR2.out]; exact Lib.hid (u64s_info hl2)
      have hR21 : Hid (R2.all (·.oneCell') = true) := by rw [hR2.out]; exact Lib.hid (u64s_one _)
      have hzz2 : Hid (zeros4.size = R2.size) := by rw [hR2.out, u64s_size, hl2]; exact Lib.hid rfl
      have B1 := Lib.hid ((HB1.out.old hb2).alloc (.cells R2 34))
      have B3 := Lib.hid ((HS.out.2.2.2.1.old hb2).alloc (.cells R2 34))
      have B4 := Lib.hid (Blk.new w2 34 R2)
      have HB := Lib.hid ((HS.out.2.2.2.2.trans (hb2.mono HS.out.2.2.2.2.size)).alloc (HS.out.2.2.2.2.trans (hb2.mono HS.out.2.2.2.2.size)).size (.cells R2 34))
      obtain ⟨b, hb⟩ : ∃ b, Hid (b = decide (c2 ≠ 0)) := ⟨_, Lib.hid rfl⟩
      rw [← hb.out]
      clear hL2 hb2 hl2
      rcases hcase.out with ⟨h1, h2⟩ | ⟨h1, h2⟩
      · have hbt : b = true := by rw [hb.out, h1]; rfl
        have hRZ : Hid (R = Z) := by rw [hR.out, hZ.out, h2]; exact Lib.hid rfl
        subst hbt
        clear h1 h2
        go_wp2_with (first | (refine wpList_store_row rfl 34 (.tmp 7) (.tmp 30) rfl w2.heap.size R2 rfl rfl 34 _ (heap_alloc_new w2 _) hR2i.out hzz2.out hR21.out ?_; rw [setRow_alloc1]) |
          (refine wpList_load_row rfl 34 (.tmp 2) rfl w.heap.size rfl 34 R (0, 0) _ B1.out Tryd.underlying34 rfl hRi.out ?_) |
          (refine wpList_store_row rfl 34 (.tmp 4) (.tmp 33) rfl (w.heap.size + 2) R rfl rfl 34 _ B3.out hRi.out hzz.out hR1.out ?_))
        refine bodyPost_ret (v := .agg R) ?_ rfl ⟨by rw [hRZ.out], below_row HB.out (by omega) _⟩
        exact results_cell_row Tryd.results19 _ _ (w.heap.size + 2) 34 R (0, 0) _ rfl (B3.out.row R) Tryd.underlying34 rfl hRi.out
      · have hbt : b = false := by rw [hb.out, h1]; rfl
        have hRZ : Hid (R2 = Z) := by rw [hR2.out, hZ.out, h2]; exact Lib.hid rfl
        subst hbt
        clear h1 h2
        go_wp2_with (first | (refine wpList_store_row rfl 34 (.tmp 7) (.tmp 30) rfl w2.heap.size R2 rfl rfl 34 _ (heap_alloc_new w2 _) hR2i.out hzz2.out hR21.out ?_; rw [setRow_alloc1]) |
          (refine wpList_load_row rfl 34 (.tmp 7) rfl w2.heap.size rfl 34 R2 (0, 0) _ B4.out Tryd.underlying34 rfl hR2i.out ?_) |
          (refine wpList_store_row rfl 34 (.tmp 4) (.tmp 34) rfl (w.heap.size + 2) R2 rfl rfl 34 _ B3.out hR2i.out hzz2.out hR21.out ?_))
        refine bodyPost_ret (v := .agg R2) ?_ rfl ⟨by rw [hRZ.out], below_row HB.out (by omega) _⟩
        exact results_cell_row Tryd.results19 _ _ (w.heap.size + 2) 34 R2 (0, 0) _ rfl (B3.out.row R2) Tryd.underlying34 rfl hR2i.out

theorem sbytes_limb (n k j : Nat) (hj : j < 8) : (n / M ^ k % M) / 2 ^ (j * 8) % 256 = n / 256 ^ (8 * k + j) % 256 := by
  have e1 : (256 : Nat) ^ (8 * k + j) = M ^ k * 256 ^ j := by
    rw [Nat.pow_add, Nat.pow_mul]
  have e2 : (2 : Nat) ^ (j * 8) = 256 ^ j := by rw [Nat.mul_comm, Nat.pow_mul]
  rw [e1, e2, ← Nat.div_div_eq_div_mul]
  generalize n / M ^ k = x
  have e3 : M = 256 ^ j * 256 ^ (8 - j) := by rw [← Nat.pow_add, show j + (8 - j) = 8 by omega]
  rw [e3, Nat.mod_mul_right_div_self]
  obtain ⟨d, hd⟩ : ∃ d, 8 - j = d + 1 := ⟨7 - j, by omega⟩
  rw [hd, Nat.pow_succ, Nat.mod_mul_left_mod]
theorem limS_get (n i : Nat) (h : i < 4) : (limS n)[i]? = some (.int .u64 ((n / M ^ i % M : Nat) : Int)) := by
  rw [limS, u64s_get _ _ (by rw [digs_length]; exact h), digs_getD _ _ _ _ h]
/-- the first k bytes are told. -/
def spart (l : List UInt8) (k : Nat) : List UInt8 := l.take k ++ List.replicate (32 - k) 0
theorem spart_length {l : List UInt8} {k : Nat} (h : l.length = 32) (hk : k ≤ 32) : (spart l k).length = 32 := by simp [spart]; omega
theorem sbytesA_set (l : List UInt8) (k : Nat) (x : UInt8) : (bytesA l).setIfInBounds k (.int .u8 (x.toNat : Int)) = bytesA (l.set k x) := by
  simp [bytesA, Lib.byteCells, List.map_set]
theorem spart_set {l : List UInt8} {k : Nat} (h : l.length = 32) (hk : k < 32) : (spart l k).set k (l.getD k 0) = spart l (k + 1) := by
  unfold spart
  have e1 : (l.take k).length = k := by simp; omega
  rw [List.set_append_right _ _ (by omega), e1, Nat.sub_self, show 32 - k = (32 - (k + 1)) + 1 by omega, List.replicate_succ, List.set_cons_zero]
  have hkl : k < l.length := by omega
  rw [List.take_succ_eq_append_getElem hkl, List.getD_eq_getElem?_getD, List.getElem?_eq_getElem hkl, List.append_assoc]
  rfl
theorem spart_all {l : List UInt8} (h : l.length = 32) : spart l 32 = l := by simp [spart, ← h]

def SBytesAt (n : Nat) (w : World) (k : Nat) (wr : World) : Prop :=
  Blk wr w.heap.size 34 (limS n) ∧ Blk wr (w.heap.size + 1) 24 (bytesA (List.replicate 32 0)) ∧ Blk wr (w.heap.size + 2) 24 (bytesA (spart (fbytes n) k)) ∧ Below w.heap.size w wr

set_option maxHeartbeats 2000000 in
set_option maxRecDepth 100000 in
theorem sbytes_any (n : Nat) (w : World) : Calls Tryd.prog 15 #[.agg (limS n)] w fun e w' => e = .returned (.agg (bytesA (fbytes n))) ∧ Below w.heap.size w w' := by
  have hal : Tryd.prog.arrayLen 34 = 4 := by kernel_rfl
  have hel : Tryd.prog.elem 34 = 32 := by kernel_rfl
  have hal2 : Tryd.prog.arrayLen 24 = 32 := by kernel_rfl
  have hel2 : Tryd.prog.elem 24 = 5 := by kernel_rfl
  obtain ⟨cn, hcn⟩ : ∃ c, Hid (c = limS n) := ⟨_, Lib.hid rfl⟩
  rw [← hcn.out]
  obtain ⟨z, hz⟩ : ∃ z, Hid (z = bytesA (List.replicate 32 0)) := ⟨_, Lib.hid rfl⟩
  have hz0 : ∀ W, (zeroValue 24).run Tryd.prog W = .ok (.agg z) W := by
    rw [hz.out]; exact (zero_of_info (n := 32) (by kernel_rfl)).1
  go_enter Tryd.func15, Tryd.ntmps15
  go_wp2
  go_loopw [4, 5] (fun _ iv wr => ∃ i, i ≤ 32 ∧ iv = .int .i64 (i : Nat) ∧ SBytesAt n w i wr) (fun _ iv _ => 32 - (intOf iv).toNat)
  case atStart =>
    refine ⟨0, by omega, rfl, ?_⟩
    obtain ⟨b1, b2, b3, hb, _⟩ := sthree w cn z z 34 24 24
    refine ⟨?_, ?_, ?_, hb⟩
    · rw [← hcn.out]; exact b1
    · rw [← hz.out]; exact b2
    · rw [show spart (fbytes n) 0 = List.replicate 32 0 from rfl, ← hz.out]
      exact b3
  case round =>
    obtain ⟨i, hi, rfl, b1, b2, b3, hb⟩ := hrel
    clear hz0
    by_cases hlt : i < 32
    · obtain ⟨k, hk⟩ : ∃ k, k = i / 8 := ⟨_, rfl⟩
      obtain ⟨j, hj⟩ : ∃ j, j = i % 8 := ⟨_, rfl⟩
      have hij : i = 8 * k + j := by omega
      have hk4 : k < 4 := by omega
      have hj8 : j < 8 := by omega
      have hdiv : (i : Int) / 8 = (k : Int) := by omega
      have hmod : (i : Int) % 8 = (j : Int) := by omega
      have hx : wr.cell? ⟨w.heap.size, k, none⟩ = some (.int .u64 ((n / M ^ k % M : Nat) : Int)) := (b1.cell k).trans (limS_get n k hk4)
      have hbl := sbytes_limb n k j hj8
      rw [← hij, ← fbytes_get n i hlt] at hbl
      obtain ⟨x, hX⟩ := named (n / M ^ k % M)
      rw [← hX.out] at hx hbl
      obtain ⟨y, hY⟩ : ∃ y, Hid (y = (fbytes n).getD i 0) := ⟨_, Lib.hid rfl⟩
      rw [← hY.out] at hbl
      have hc : ∃ u, wr.cell? ⟨w.heap.size + 2, i, none⟩ = some u := ⟨_, (b3.cell i).trans (Array.getElem?_eq_getElem (by rw [bytesA_size, spart_length (fbytes_length n) hi]; exact hlt))⟩
      obtain ⟨u, hu⟩ := hc
      have hf := b3.frozen i
      have hsh2 : IntKind.u8.wrap ((x : Int) / 2 ^ (j * 8)) = (y.toNat : Int) := by
        rw [IntKind.wrap_u8', ← hbl]; simp
      have hmin : min (j * 8) 64 = j * 8 := by omega
      have ht : ((j : Int) * 8).toNat = j * 8 := by omega
      have hnext : Hid (SBytesAt n w (i + 1) (wr.setCell ⟨w.heap.size + 2, i, none⟩ (.int .u8 (y.toNat : Int)))) := Lib.hid (by
        refine ⟨b1.far (by show w.heap.size ≠ w.heap.size + 2; omega) _, b2.far (by show w.heap.size + 1 ≠ w.heap.size + 2; omega) _, ?_, hb.setCell (by show w.heap.size ≤ w.heap.size + 2; omega) _⟩
        have := b3.set_ i (.int .u8 (y.toNat : Int))
        rwa [sbytesA_set, hY.out, spart_set (fbytes_length n) hlt, ← hY.out] at this)
      clear b1 b2 b3 hb hk hj hij hbl
      go_wp2
      exact ⟨⟨i + 1, by omega, by go_num, hnext.out⟩, by simp [intOf]; omega⟩
    · obtain rfl : i = 32 := by omega
      have b3' : Hid (Blk wr (w.heap.size + 2) 24 (bytesA (fbytes n))) := by rw [spart_all (fbytes_length n)] at b3; exact Lib.hid b3
      have hRi := Lib.hid (fbytes_info n)
      have hR1 : Hid ((bytesA (fbytes n)).all (·.oneCell') = true) := Lib.hid (bytesA_one _)
      have hzz : Hid ((bytesA (List.replicate 32 0)).size = (bytesA (fbytes n)).size) := Lib.hid (by rw [bytesA_size, bytesA_size, fbytes_length]; rfl)
      have B2 := Lib.hid b2
      have HBL := Lib.hid hb
      obtain ⟨R, hR⟩ : ∃ R, Hid (R = bytesA (fbytes n)) := ⟨_, Lib.hid rfl⟩
      rw [← hR.out] at b3' hRi hR1 hzz
      clear b1 b2 b3 hb
      go_wp2_with (first | (refine wpList_load_row rfl 24 (.tmp 3) rfl (w.heap.size + 2) rfl 24 R (0, 0) _ b3'.out Tryd.underlying24 rfl hRi.out ?_) |
        (refine wpList_store_row rfl 24 (.tmp 2) (.tmp 20) rfl (w.heap.size + 1) R rfl rfl 24 _ B2.out hRi.out hzz.out hR1.out ?_))
      refine bodyPost_ret (v := .agg R) ?_ rfl ⟨by rw [hR.out], below_row HBL.out (by omega) _⟩
      exact results_cell_row Tryd.results15 _ _ (w.heap.size + 1) 24 R (0, 0) _ rfl (B2.out.row R) Tryd.underlying24 rfl hRi.out
end Go.Proofs.YtebnkbeejkopaaaDoor
