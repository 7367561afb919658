/-
  The contracts of field's add, take and round. Conditions: the limbs lie whole in a block; the other ones are read as long as that block alone changes.
-/
import Derived.Test.YtphlehinjooncaaDoorFldBlk
set_option linter.unusedVariables false
set_option linter.unusedSimpArgs false
namespace Go.Proofs.YtphlehinjooncaaDoor
open Go Go.Proofs Go.RowKit F5

theorem u64s_mid (pre L post : List Nat) (o k : Nat) (ho : pre.length = o) (hk : k < L.length) : (u64s (pre ++ L ++ post))[o + k]? = some (.int .u64 ((L.getD k 0 : Nat) : Int)) := by
  subst ho
  rw [u64s_get _ _ (by simp; omega)]
  have e : (pre ++ L ++ post).getD (pre.length + k) 0 = L.getD k 0 := by
    simp only [List.getD_eq_getElem?_getD, List.append_assoc]
    rw [List.getElem?_append_right (by omega), Nat.add_sub_cancel_left, List.getElem?_append_left hk]
  rw [e]
theorem u64s_mid_set (pre L post : List Nat) (o k x : Nat) (ho : pre.length = o) (hk : k < L.length) : (u64s (pre ++ L ++ post)).setIfInBounds (o + k) (.int .u64 (x : Int)) = u64s (pre ++ L.set k x ++ post) := by
  subst ho
  rw [u64s_set]
  congr 1
  rw [List.append_assoc, List.set_append_right _ _ (by omega), Nat.add_sub_cancel_left, List.set_append_left _ _ hk, List.append_assoc]

theorem add64c_run (x y c r c' : Nat) (hr : r < M) (hc : c ≤ 1) (he : r + M * c' = x + y + c) (w : World) : (callFunc 38 #[.int .u64 (x : Int), .int .u64 (y : Int), .int .u64 (c : Int)]).run Tryd.prog w =
    .ok (.value (.tuple #[.int .u64 (r : Int), .int .u64 (c' : Int)])) w := by
  rw [run_callFunc_extern Tryd.func38 (by kernel_rfl) (by kernel_rfl) (by kernel_rfl) (e := add64Entry) (by kernel_rfl), run_add64 x y c (by omega) (by omega) (by omega) (by omega)]
  unfold M at hr he
  have e1 : ((x : Int) + (y : Int) + (c : Int)) % 18446744073709551616 = (r : Int) := by omega
  have e2 : ((x : Int) + (y : Int) + (c : Int)) / 18446744073709551616 = (c' : Int) := by omega
  rw [e1, e2]
  rfl
theorem sub64c_run (x y c r c' : Nat) (hr : r < M) (hx : x < M) (hy : y < M) (hc : c ≤ 1) (he : r + y + c = x + M * c') (w : World) : (callFunc 39 #[.int .u64 (x : Int), .int .u64 (y : Int), .int .u64 (c : Int)]).run Tryd.prog w =
    .ok (.value (.tuple #[.int .u64 (r : Int), .int .u64 (c' : Int)])) w := by
  rw [run_callFunc_extern Tryd.func39 (by kernel_rfl) (by kernel_rfl) (by kernel_rfl) (e := sub64Entry) (by kernel_rfl), run_sub64 x y c hc]
  unfold M at hr he hx hy
  have e1 : (x + 18446744073709551616 - y - c) % 18446744073709551616 = r := by omega
  have e2 : (if x < y + c then 1 else 0) = c' := by split <;> omega
  rw [e1, e2]
  rfl
theorem add_step (x y c : Nat) : (x + y + c) % M + M * ((x + y + c) / M) = x + y + c := Nat.mod_add_div _ _
theorem add_carry {x y c : Nat} (hx : x < M) (hy : y < M) (hc : c ≤ 1) : (x + y + c) / M ≤ 1 := by unfold M at *; omega

/-- The other limbs, as long as one block alone changes. -/
def Other (w : World) (g t : Nat) (pre post B : List Nat) (h oq : Nat) : Prop :=
  ∀ W L, L.length = 4 → Blk W g t (u64s (pre ++ L ++ post)) → w.grownBy W (some g) → ∀ j, j < 4 → W.cell? ⟨h, oq + j, none⟩ = some (.int .u64 ((B.getD j 0 : Nat) : Int))
def AddEnd (g t : Nat) (pre A B post : List Nat) (w : World) (e : Ending) (w' : World) : Prop :=
  e = .returned (.tuple #[]) ∧ ∃ L c, Part M A 4 L c (val M B) ∧ Blk w' g t (u64s (pre ++ L ++ post)) ∧ w.grownBy w' (some g)

def AddAt (g t : Nat) (pre A B post : List Nat) (w : World) (k c : Nat) (wr : World) : Prop :=
  ∃ L, Part M A k L c (val M (B.take k)) ∧ Blk wr g t (u64s (pre ++ L ++ post)) ∧ w.grownBy wr (some g)

theorem grown_drew {w w' : World} {row : Option Nat} (h : w.grownBy w' row) : w.grownBy w'.drew row := h.trans (grown_below (Below.refl _ _).drew row)
theorem AddAt.drew {g t : Nat} {pre A B post : List Nat} {w wr : World} {k c : Nat} (h : AddAt g t pre A B post w k c wr) : AddAt g t pre A B post w k c wr.drew := by
  obtain ⟨L, h1, h2, h3⟩ := h
  exact ⟨L, h1, h2.drew, grown_drew h3⟩
theorem val_take4 {b : Nat} {B : List Nat} (h : B.length = 4) : val b (B.take 4) = val b B := by rw [List.take_of_length_le (by omega)]

set_option maxHeartbeats 2000000 in
theorem add_any (g o t h oq : Nat) (pre A B post : List Nat) (w : World) (hB : Blk w g t (u64s (pre ++ A ++ post))) (ho : pre.length = o) (hA4 : A.length = 4) (hA : All M A) (hB4 : B.length = 4) (hBa : All M B)
    (hO : Other w g t pre post B h oq) :
    Calls Tryd.prog 31 #[.pointer (some ⟨g, o, none⟩), .pointer (some ⟨h, oq, none⟩)] w (AddEnd g t pre A B post w) := by
  have hal : Tryd.prog.arrayLen 26 = 4 := by kernel_rfl
  have hel : Tryd.prog.elem 26 = 23 := by kernel_rfl
  have HO := Lib.hid hO
  have HP := Lib.hid ho
  have HA4 := Lib.hid hA4
  have HB4 := Lib.hid hB4
  clear hO ho hA4 hB4
  go_enter Tryd.func31, Tryd.ntmps31
  go_wp2
  go_loopw [4, 6] (fun cv iv wr => ∃ k c, k ≤ 4 ∧ c ≤ 1 ∧ cv = .int .u64 (c : Nat) ∧ iv = .int .i64 (k : Nat) ∧ AddAt g t pre A B post w k c wr) (fun _ iv _ => 4 - (intOf iv).toNat)
  case atStart => exact ⟨0, 0, by omega, by omega, rfl, rfl, A, Part.zero hA, hB, World.grownBy.refl w _⟩
  case round =>
    obtain ⟨k, c, hk, hc, rfl, rfl, L, hL, hBr, hg⟩ := hrel
    clear hB
    by_cases hlt : k < 4
    · have hL4 : L.length = 4 := hL.1.trans HA4.out
      have hx : wr.cell? ⟨g, o + k, none⟩ = some (.int .u64 ((L.getD k 0 : Nat) : Int)) := (hBr.cell _).trans (u64s_mid _ _ _ _ _ HP.out (by omega))
      have hf := hBr.frozen (o + k)
      have hy := HO.out wr L hL4 hBr hg k hlt
      have hxl := hL.2.1.getD (by decide) k
      have hyl := hBa.getD (by decide) k
      have hAk := hL.2.2.1 k (Nat.le_refl _)
      obtain ⟨x, hX⟩ : ∃ x, Hid (x = L.getD k 0) := ⟨_, Lib.hid rfl⟩
      obtain ⟨y, hY⟩ : ∃ y, Hid (y = B.getD k 0) := ⟨_, Lib.hid rfl⟩
      rw [← hX.out] at hx hxl hAk
      rw [← hY.out] at hy hyl
      obtain ⟨r, hR⟩ : ∃ r, Hid (r = (x + y + c) % M) := ⟨_, Lib.hid rfl⟩
      obtain ⟨c', hC⟩ : ∃ c', Hid (c' = (x + y + c) / M) := ⟨_, Lib.hid rfl⟩
      have he : r + M * c' = x + y + c := by rw [hR.out, hC.out]; exact add_step x y c
      have hrl : r < M := by rw [hR.out]; exact Nat.mod_lt _ (by decide)
      have hcl : c' ≤ 1 := by rw [hC.out]; exact add_carry hxl hyl hc
      have hrun := add64c_run x y c r c' hrl hc he
      have hnext : Hid (AddAt g t pre A B post w (k + 1) c' (wr.setCell ⟨g, o + k, none⟩ (.int .u64 (r : Int)))) := Lib.hid (by
        refine ⟨L.set k r, ?_, ?_, hg.trans (grown_set wr g (o + k) _)⟩
        · rw [val_take_succ _ _ _ (by rw [HB4.out]; exact hlt), ← hY.out]
          exact hL.next (by rw [HA4.out]; exact hlt) hrl (by rw [← hAk]; exact he)
        · have := hBr.set_ (o + k) (.int .u64 (r : Int))
          rwa [u64s_mid_set _ _ _ _ _ _ HP.out (by omega)] at this)
      have HE := Lib.hid he
      clear hBr hg hL hAk he hA hBa hL4
      go_wp2
      go_region
      have hnd := Lib.hid hnext.out.drew
      clear hnext
      go_wp2
      go_roundw
      case rel => exact ⟨k + 1, c', by omega, hcl, rfl, by go_num, hnd.out⟩
      case measure => simp [intOf]; omega
    · obtain rfl : k = 4 := by omega
      rw [val_take4 HB4.out] at hL
      have hfin : Hid (∃ L c, Part M A 4 L c (val M B) ∧ Blk wr g t (u64s (pre ++ L ++ post)) ∧ w.grownBy wr (some g)) := Lib.hid ⟨L, c, hL, hBr, hg⟩
      clear hL hBr hg hA hBa
      go_wp2
      go_end0
      exact ⟨rfl, hfin.out⟩

/-- The prime's limbs stand in their variable. -/
def PrimeAt (w : World) : Prop := 1 < w.heap.size ∧ ∀ j v, (u64s (digs M P 4))[j]? = some v → w.cell? ⟨1, 0 + j, none⟩ = some v
theorem PrimeAt.old {w w' : World} (h : PrimeAt w) (hb : Below w.heap.size w w') : PrimeAt w' :=
  ⟨Nat.lt_of_lt_of_le h.1 hb.size, fun j v hj => (hb.cell (p := ⟨1, 0 + j, none⟩) h.1).trans (h.2 j v hj)⟩
theorem PrimeAt.grown {w w' : World} {g : Nat} (h : PrimeAt w) (hg : w.grownBy w' (some g)) (hne : g ≠ 1) : PrimeAt w' :=
  ⟨Nat.lt_of_lt_of_le h.1 hg.size, fun j v hj => (hg.cell_far ⟨1, 0 + j, none⟩ h.1 (fun e => hne (by injection e with e; exact e.symm))).trans (h.2 j v hj)⟩
theorem info4 : (Tryd.prog.info? 26).map (·.size) = some 4 := by kernel_rfl

/-- What is left behind a taking away. -/
def subP (a b : Nat) : Nat := if b ≤ a then a - b else (a + M ^ 4 - b + P) % M ^ 4
def LimbEnd (g t : Nat) (pre post : List Nat) (n : Nat) (w : World) (e : Ending) (w' : World) : Prop :=
  e = .returned (.tuple #[]) ∧ Blk w' g t (u64s (pre ++ digs M n 4 ++ post)) ∧ w.grownBy w' (some g)
def TakeAt (g t : Nat) (pre A B post : List Nat) (w : World) (k c : Nat) (wr : World) : Prop :=
  ∃ L, Less M A k L c (val M (B.take k)) ∧ Blk wr g t (u64s (pre ++ L ++ post)) ∧ w.grownBy wr (some g)
theorem TakeAt.drew {g t : Nat} {pre A B post : List Nat} {w wr : World} {k c : Nat} (h : TakeAt g t pre A B post w k c wr) : TakeAt g t pre A B post w k c wr.drew := by
  obtain ⟨L, h1, h2, h3⟩ := h
  exact ⟨L, h1, h2.drew, grown_drew h3⟩
theorem sub_step {x y c : Nat} (hx : x < M) (hy : y < M) (hc : c ≤ 1) : (x + M - y - c) % M + y + c = x + M * (if x < y + c then 1 else 0) := by
  unfold M at *; split <;> omega
theorem borrow_le (x y c : Nat) : (if x < y + c then 1 else 0) ≤ 1 := by split <;> omega

theorem take_none {A B L : List Nat} (hA4 : A.length = 4) (hB : All M B) (hB4 : B.length = 4) (hA : All M A) (h : Less M A 4 L 0 (val M B)) : L = digs M (subP (val M A) (val M B)) 4 := by
  obtain ⟨h1, h2, _, h4⟩ := h
  rw [Nat.mul_zero, Nat.add_zero] at h4
  refine digs_of h2 (h1.trans hA4) ?_
  unfold subP
  rw [if_pos (by omega)]; omega
theorem take_some {A B L L2 : List Nat} {c2 : Nat} (hA4 : A.length = 4) (hB : All M B) (hB4 : B.length = 4) (hA : All M A) (h : Less M A 4 L 1 (val M B)) (h2 : Part M L 4 L2 c2 (val M (digs M P 4))) : L2 = digs M (subP (val M A) (val M B)) 4 := by
  obtain ⟨h11, h12, _, h14⟩ := h
  obtain ⟨h21, h22, _, h24⟩ := h2
  have hl := val_lt L h12
  have hl2 := val_lt L2 h22
  rw [h11, hA4] at hl
  rw [h21, h11, hA4] at hl2
  have hb := val_lt B hB
  rw [hB4] at hb
  have hP : val M (digs M P 4) = P := by decide +kernel
  rw [hP] at h24
  refine digs_of h22 (h21.trans (h11.trans hA4)) ?_
  unfold subP
  rw [if_neg (by omega)]
  have e : val M A + M ^ 4 - val M B + P = val M L2 + M ^ 4 * c2 := by omega
  rw [e, Nat.add_mul_mod_self_left, Nat.mod_eq_of_lt hl2]

set_option maxHeartbeats 4000000 in
theorem take_any (g o t h oq : Nat) (pre A B post : List Nat) (w : World) (hB : Blk w g t (u64s (pre ++ A ++ post))) (ho : pre.length = o) (hA4 : A.length = 4) (hA : All M A) (hB4 : B.length = 4) (hBa : All M B)
    (hO : Other w g t pre post B h oq) (hg1 : g ≠ 1) (hP : PrimeAt w) :
    Calls Tryd.prog 32 #[.pointer (some ⟨g, o, none⟩), .pointer (some ⟨h, oq, none⟩)] w (LimbEnd g t pre post (subP (val M A) (val M B)) w) := by
  have hal : Tryd.prog.arrayLen 26 = 4 := by kernel_rfl
  have hel : Tryd.prog.elem 26 = 23 := by kernel_rfl
  have HO := Lib.hid hO
  have HP := Lib.hid ho
  have HA4 := Lib.hid hA4
  have HB4 := Lib.hid hB4
  have HPR := Lib.hid hP
  have HG1 := Lib.hid hg1
  have HAA := Lib.hid hA
  have HBB := Lib.hid hBa
  clear hO ho hA4 hB4 hP hg1
  go_enter Tryd.func32, Tryd.ntmps32
  go_wp2
  go_loopw [4, 7] (fun cv iv wr => ∃ k c, k ≤ 4 ∧ c ≤ 1 ∧ cv = .int .u64 (c : Nat) ∧ iv = .int .i64 (k : Nat) ∧ TakeAt g t pre A B post w k c wr) (fun _ iv _ => 4 - (intOf iv).toNat)
  case atStart => exact ⟨0, 0, by omega, by omega, rfl, rfl, A, Less.zero hA, hB, World.grownBy.refl w _⟩
  case round =>
    obtain ⟨k, c, hk, hc, rfl, rfl, L, hL, hBr, hg⟩ := hrel
    clear hB
    by_cases hlt : k < 4
    · have hL4 : L.length = 4 := hL.1.trans HA4.out
      have hx : wr.cell? ⟨g, o + k, none⟩ = some (.int .u64 ((L.getD k 0 : Nat) : Int)) := (hBr.cell _).trans (u64s_mid _ _ _ _ _ HP.out (by omega))
      have hf := hBr.frozen (o + k)
      have hy := HO.out wr L hL4 hBr hg k hlt
      have hxl := hL.2.1.getD (by decide) k
      have hyl := hBa.getD (by decide) k
      have hAk := hL.2.2.1 k (Nat.le_refl _)
      obtain ⟨x, hX⟩ : ∃ x, Hid (x = L.getD k 0) := ⟨_, Lib.hid rfl⟩
      obtain ⟨y, hY⟩ : ∃ y, Hid (y = B.getD k 0) := ⟨_, Lib.hid rfl⟩
      rw [← hX.out] at hx hxl hAk
      rw [← hY.out] at hy hyl
      obtain ⟨r, hR⟩ : ∃ r, Hid (r = (x + M - y - c) % M) := ⟨_, Lib.hid rfl⟩
      obtain ⟨c', hC⟩ : ∃ c', Hid (c' = if x < y + c then 1 else 0) := ⟨_, Lib.hid rfl⟩
      have he : r + y + c = x + M * c' := by rw [hR.out, hC.out]; exact sub_step hxl hyl hc
      have hrl : r < M := by rw [hR.out]; exact Nat.mod_lt _ (by decide)
      have hcl : c' ≤ 1 := by rw [hC.out]; exact borrow_le x y c
      have hrun := sub64c_run x y c r c' hrl hxl hyl hc he
      have hnext : Hid (TakeAt g t pre A B post w (k + 1) c' (wr.setCell ⟨g, o + k, none⟩ (.int .u64 (r : Int)))) := Lib.hid (by
        refine ⟨L.set k r, ?_, ?_, hg.trans (grown_set wr g (o + k) _)⟩
        · rw [val_take_succ _ _ _ (by rw [HB4.out]; exact hlt), ← hY.out]
          exact hL.next (by rw [HA4.out]; exact hlt) hrl (by rw [← hAk]; exact he)
        · have := hBr.set_ (o + k) (.int .u64 (r : Int))
          rwa [u64s_mid_set _ _ _ _ _ _ HP.out (by omega)] at this)
      have HE := Lib.hid he
      clear hBr hg hL hAk he hA hBa hL4
      go_wp2
      go_region
      have hnd := Lib.hid hnext.out.drew
      clear hnext
      go_wp2
      go_roundw
      case rel => exact ⟨k + 1, c', by omega, hcl, rfl, by go_num, hnd.out⟩
      case measure => simp [intOf]; omega
    · obtain rfl : k = 4 := by omega
      rw [val_take4 HB4.out] at hL
      rcases (show c = 0 ∨ c = 1 by omega) with rfl | rfl
      · have hfin : Hid (Blk wr g t (u64s (pre ++ digs M (subP (val M A) (val M B)) 4 ++ post)) ∧ w.grownBy wr (some g)) := Lib.hid ⟨take_none HA4.out hBa HB4.out hA hL ▸ hBr, hg⟩
        clear hL hBr hg hA hBa
        go_wp2
        go_end0
        exact ⟨rfl, hfin.out⟩
      · obtain ⟨pc, hpc⟩ : ∃ pc, Hid (pc = u64s (digs M P 4)) := ⟨_, Lib.hid rfl⟩
        have hps : Hid ((Tryd.prog.info? 26).map (·.size) = some pc.size) := by show _ = _; rw [hpc.out, u64s_size, digs_length]; exact info4
        have hp1 : Hid (pc.all (·.oneCell') = true) := by show _ = _; rw [hpc.out]; exact u64s_one _
        have hpz : Hid ((#[.int .u64 0, .int .u64 0, .int .u64 0, .int .u64 0] : Array Value).size = pc.size) := by show _ = _; rw [hpc.out, u64s_size, digs_length]; rfl
        have hpr := HPR.out.grown hg HG1.out
        have hpr2 : Hid (∀ j v, pc[j]? = some v → wr.cell? ⟨1, 0 + j, none⟩ = some v) := by rw [hpc.out]; exact Lib.hid hpr.2
        have HBr := Lib.hid hBr
        have HL := Lib.hid hL
        have HG := Lib.hid hg
        clear hL hBr hg hA hBa hpr
        go_wp2_with (first | (refine wpList_load_at rfl 26 (.global 1) rfl 1 0 rfl 23 4 pc Tryd.underlying26 hps.out hpr2.out ?_) |
          (refine wpList_store_row rfl 26 (.tmp 6) (.tmp 32) rfl wr.heap.size pc rfl rfl 26 _ (heap_alloc_new wr _) hps.out hpz.out hp1.out ?_; rw [setRow_alloc1]))
        have hBn := HBr.out.alloc (.cells pc 26)
        have hlt := HBr.out.lt
        have hnew := Blk.new wr 26 pc
        refine (add_any g o t wr.heap.size 0 pre L (digs M P 4) post _ hBn HP.out (HL.out.1.trans HA4.out) HL.out.2.1 (digs_length _ _ _) (digs_all (by decide) _ _) ?_).mono ?_
        · intro W L' _ hb hgW j hj
          rw [Nat.zero_add, (hnew.grown hgW (by intro e; injection e with e; omega)).cell, hpc.out, u64s_get _ _ (by rw [digs_length]; exact hj)]
        rintro e w2 ⟨rfl, L2, c2, hL2, hB2, hg2⟩
        have hfin : Hid (Blk w2 g t (u64s (pre ++ digs M (subP (val M A) (val M B)) 4 ++ post)) ∧ w.grownBy w2 (some g)) := Lib.hid ⟨take_some HA4.out HBB.out HB4.out HAA.out HL.out hL2 ▸ hB2, HG.out.trans ((grown_below ((Below.refl _ _).alloc (Nat.le_refl _) _) _).trans hg2)⟩
        clear hL2 hB2 hg2 hBn hnew
        go_wp2
        go_end0
        exact ⟨rfl, hfin.out⟩
end Go.Proofs.YtphlehinjooncaaDoor
