/-
  The walk of the law FieldLaws. Condition: the limbs of the prime, and of turn, stand in their variables.
-/
import Derived.Test.YtphlehinjooncaaDoorFldTwo
import Derived.Test.YtphlehinjooncaaDoorFldSumsW
set_option linter.unusedVariables false
set_option linter.unusedSimpArgs false
namespace Go.Proofs.YtphlehinjooncaaDoor
open Go Go.Proofs Go.RowKit F5

theorem law1 (n m : Nat) : (n + m) % P = (m + n) % P := by rw [Nat.add_comm]
theorem law2 (n m : Nat) : n * m % P = m * n % P := by rw [Nat.mul_comm]
theorem law3 (n m k : Nat) : ((n + m) % P + k) % P = (n + (m + k) % P) % P := by rw [Nat.mod_add_mod, Nat.add_mod_mod, Nat.add_assoc]
theorem law4 (n m k : Nat) : n * m % P * k % P = n * (m * k % P) % P := by rw [Nat.mod_mul_mod, Nat.mul_mod_mod, Nat.mul_assoc]
theorem law5 (n m k : Nat) : n * ((m + k) % P) % P = (n * m % P + n * k % P) % P := by rw [Nat.mul_mod_mod, Nat.mul_add, Nat.add_mod]
theorem law6 {n m : Nat} (hn : n < P) (hm : m < P) : ((n + P - m) % P + m) % P = n := by
  rw [Nat.mod_add_mod, show n + P - m + m = n + P by omega, Nat.add_mod_right, Nat.mod_eq_of_lt hn]
theorem two_row (w1 : World) (z cx cu : Array Value) : Blk ((w1.alloc (.cells #[.int .u64 0, .int .u64 0, .int .u64 0, .int .u64 0] 28)).alloc (.cells z 35)) w1.heap.size 28 #[.int .u64 0, .int .u64 0, .int .u64 0, .int .u64 0] ∧
    Blk (((w1.alloc (.cells #[.int .u64 0, .int .u64 0, .int .u64 0, .int .u64 0] 28)).alloc (.cells z 35)).setRow w1.heap.size cx) (w1.heap.size + 1) 35 z ∧
    Blk ((((w1.alloc (.cells #[.int .u64 0, .int .u64 0, .int .u64 0, .int .u64 0] 28)).alloc (.cells z 35)).setRow w1.heap.size cx).setRow (w1.heap.size + 1) cu) w1.heap.size 28 cx ∧
    Below w1.heap.size w1 ((((w1.alloc (.cells #[.int .u64 0, .int .u64 0, .int .u64 0, .int .u64 0] 28)).alloc (.cells z 35)).setRow w1.heap.size cx).setRow (w1.heap.size + 1) cu) := by
  obtain ⟨n7, n8⟩ := two_new2 w1 #[.int .u64 0, .int .u64 0, .int .u64 0, .int .u64 0] z
  have n8' := n8.rowFar (g' := w1.heap.size) (by omega) cx
  exact ⟨n7, n8', (n7.row cx).rowFar (by omega) cu, below_row (below_row (((Below.refl _ _).alloc (Nat.le_refl _) _).alloc (by simp) _) (Nat.le_refl _) cx) (by omega) cu⟩

set_option maxHeartbeats 32000000 in
set_option maxRecDepth 100000 in
theorem laws_walk (va vb vc : Nat) (hva : va < 2 ^ 256) (hvb : vb < 2 ^ 256) (hvc : vc < 2 ^ 256) (w : World) (hP : PrimeAt w) (hT : TurnAt w) :
    Calls Tryd.prog 6 #[.agg (bytesA (fbytes va)), .agg (bytesA (fbytes vb)), .agg (bytesA (fbytes vc))] w fun e w' => e = .returned (.bool true) ∧ Below w.heap.size w w' := by
  have HP := Lib.hid hP
  have HT := Lib.hid hT
  obtain ⟨z, hz⟩ : ∃ z, Hid (z = limF 0) := ⟨_, Lib.hid rfl⟩
  have hz0 : ∀ W, (zeroValue 35).run Tryd.prog W = .ok (.agg z) W := by
    rw [hz.out, ← zero16]; exact (zero_of_info (n := 16) (by kernel_rfl)).1
  have ou0 := Lib.hid (limA_ok (uOf va))
  have of0 := Lib.hid (limF_ok (va % P) z hz.out)
  have CT0 : Hid (∀ W, PrimeAt W → Calls Tryd.prog 16 #[.agg (bytesA (fbytes va))] W fun e w' => e = .returned (.tuple #[.agg (limA (uOf va)), .agg (limF (va % P)), .bool (decide (va < P))]) ∧ Below W.heap.size W w') := Lib.hid fun W hW => two_any va hva W hW
  obtain ⟨b0, hb0⟩ : ∃ b, Hid (b = decide (va < P)) := ⟨_, Lib.hid rfl⟩
  rw [← hb0.out] at CT0
  obtain ⟨ca0, hca0⟩ : ∃ x, Hid (x = bytesA (fbytes va)) := ⟨_, Lib.hid rfl⟩
  have hia0 : Hid ((Tryd.prog.info? 41).map (·.size) = some ca0.size) := by rw [hca0.out]; exact Lib.hid (fbytes_info va)
  rw [← hca0.out] at CT0 ⊢
  obtain ⟨cx0, hcx0⟩ : ∃ x, Hid (x = limA (uOf va)) := ⟨_, Lib.hid rfl⟩
  obtain ⟨cu0, hcu0⟩ : ∃ x, Hid (x = limF (va % P)) := ⟨_, Lib.hid rfl⟩
  rw [← hcx0.out] at ou0 CT0
  rw [← hcu0.out] at of0 CT0
  have ou1 := Lib.hid (limA_ok (uOf vb))
  have of1 := Lib.hid (limF_ok (vb % P) z hz.out)
  have CT1 : Hid (∀ W, PrimeAt W → Calls Tryd.prog 16 #[.agg (bytesA (fbytes vb))] W fun e w' => e = .returned (.tuple #[.agg (limA (uOf vb)), .agg (limF (vb % P)), .bool (decide (vb < P))]) ∧ Below W.heap.size W w') := Lib.hid fun W hW => two_any vb hvb W hW
  obtain ⟨b1, hb1⟩ : ∃ b, Hid (b = decide (vb < P)) := ⟨_, Lib.hid rfl⟩
  rw [← hb1.out] at CT1
  obtain ⟨ca1, hca1⟩ : ∃ x, Hid (x = bytesA (fbytes vb)) := ⟨_, Lib.hid rfl⟩
  have hia1 : Hid ((Tryd.prog.info? 41).map (·.size) = some ca1.size) := by rw [hca1.out]; exact Lib.hid (fbytes_info vb)
  rw [← hca1.out] at CT1 ⊢
  obtain ⟨cx1, hcx1⟩ : ∃ x, Hid (x = limA (uOf vb)) := ⟨_, Lib.hid rfl⟩
  obtain ⟨cu1, hcu1⟩ : ∃ x, Hid (x = limF (vb % P)) := ⟨_, Lib.hid rfl⟩
  rw [← hcx1.out] at ou1 CT1
  rw [← hcu1.out] at of1 CT1
  have ou2 := Lib.hid (limA_ok (uOf vc))
  have of2 := Lib.hid (limF_ok (vc % P) z hz.out)
  have CT2 : Hid (∀ W, PrimeAt W → Calls Tryd.prog 16 #[.agg (bytesA (fbytes vc))] W fun e w' => e = .returned (.tuple #[.agg (limA (uOf vc)), .agg (limF (vc % P)), .bool (decide (vc < P))]) ∧ Below W.heap.size W w') := Lib.hid fun W hW => two_any vc hvc W hW
  obtain ⟨b2, hb2⟩ : ∃ b, Hid (b = decide (vc < P)) := ⟨_, Lib.hid rfl⟩
  rw [← hb2.out] at CT2
  obtain ⟨ca2, hca2⟩ : ∃ x, Hid (x = bytesA (fbytes vc)) := ⟨_, Lib.hid rfl⟩
  have hia2 : Hid ((Tryd.prog.info? 41).map (·.size) = some ca2.size) := by rw [hca2.out]; exact Lib.hid (fbytes_info vc)
  rw [← hca2.out] at CT2 ⊢
  obtain ⟨cx2, hcx2⟩ : ∃ x, Hid (x = limA (uOf vc)) := ⟨_, Lib.hid rfl⟩
  obtain ⟨cu2, hcu2⟩ : ∃ x, Hid (x = limF (vc % P)) := ⟨_, Lib.hid rfl⟩
  rw [← hcx2.out] at ou2 CT2
  rw [← hcu2.out] at of2 CT2
  obtain ⟨x0, x1, x2, xb, _⟩ := (show Blk (((w.alloc (.cells ca0 41)).alloc (.cells ca1 41)).alloc (.cells ca2 41)) w.heap.size 41 ca0 ∧ Blk (((w.alloc (.cells ca0 41)).alloc (.cells ca1 41)).alloc (.cells ca2 41)) (w.heap.size + 1) 41 ca1 ∧ Blk (((w.alloc (.cells ca0 41)).alloc (.cells ca1 41)).alloc (.cells ca2 41)) (w.heap.size + 2) 41 ca2 ∧ Below w.heap.size w (((w.alloc (.cells ca0 41)).alloc (.cells ca1 41)).alloc (.cells ca2 41)) ∧ True by
    have h1 := ((Blk.new w 41 ca0).alloc (.cells ca1 41)).alloc (.cells ca2 41)
    have h2 := (Blk.new (w.alloc (.cells ca0 41)) 41 ca1).alloc (.cells ca2 41)
    have h3 := Blk.new ((w.alloc (.cells ca0 41)).alloc (.cells ca1 41)) 41 ca2
    rw [show (w.alloc (.cells ca0 41)).heap.size = w.heap.size + 1 by simp] at h2
    rw [show ((w.alloc (.cells ca0 41)).alloc (.cells ca1 41)).heap.size = w.heap.size + 2 by simp] at h3
    exact ⟨h1, h2, h3, (((Below.refl _ _).alloc (Nat.le_refl _) _).alloc (by simp) _).alloc (by simp; omega) _, trivial⟩)
  clear hP hT hva hvb hvc
  go_enter Tryd.func6, Tryd.ntmps6
  go_upto_region 1 with fail
  generalize ((w.alloc (.cells ca0 41)).alloc (.cells ca1 41)).alloc (.cells ca2 41) = W at *
  have X0 := Lib.hid x0
  have X1 := Lib.hid x1
  have X2 := Lib.hid x2
  have HB := Lib.hid xb
  clear x0 x1 x2 xb
  go_upto_region 2 with (first | (refine wpList_load_row rfl 41 (.tmp 3) rfl w.heap.size rfl 41 ca0 (0, 0) _ X0.out Tryd.underlying41 rfl hia0.out ?_))
  refine (CT0.out _ (HP.out.old HB.out)).mono ?_
  rintro e w10 ⟨rfl, hbb⟩
  obtain ⟨r1, r2, r3, r4⟩ := two_row w10 z cx0 cu0
  have hbc := hbb.trans (r4.mono hbb.size)
  have X1 := Lib.hid (X1.out.old hbc)
  have X2 := Lib.hid (X2.out.old hbc)
  have E0 := Lib.hid r3
  have HB := Lib.hid (HB.out.trans (hbc.mono HB.out.size))
  have R1 := Lib.hid r1
  have R2 := Lib.hid r2
  clear hbb r1 r2 r3 r4 hbc
  go_upto_region 2 with (first | (refine wpList_store_row rfl 28 (.tmp 7) (.tmp 21) rfl w10.heap.size cx0 rfl rfl 28 _ R1.out ou0.out.1 ou0.out.2.2 ou0.out.2.1 ?_) |
    (refine wpList_store_row rfl 35 (.tmp 8) (.tmp 22) rfl (w10.heap.size + 1) cu0 rfl rfl 35 z R2.out of0.out.1 of0.out.2.2 of0.out.2.1 ?_))
  clear R1 R2
  generalize (((w10.alloc (.cells #[.int .u64 0, .int .u64 0, .int .u64 0, .int .u64 0] 28)).alloc (.cells z 35)).setRow w10.heap.size cx0).setRow (w10.heap.size + 1) cu0 = W0 at *
  generalize w10.heap.size + 1 = gf0 at *
  generalize w10.heap.size = g7 at *
  go_upto_region 3 with (first | (refine wpList_load_row rfl 41 (.tmp 4) rfl (w.heap.size + 1) rfl 41 ca1 (0, 0) _ X1.out Tryd.underlying41 rfl hia1.out ?_))
  refine (CT1.out _ (HP.out.old HB.out)).mono ?_
  rintro e w11 ⟨rfl, hbb⟩
  obtain ⟨r1, r2, r3, r4⟩ := two_row w11 z cx1 cu1
  have hbc := hbb.trans (r4.mono hbb.size)
  have X2 := Lib.hid (X2.out.old hbc)
  have X1 := Lib.hid (X1.out.old hbc)
  have E0 := Lib.hid (E0.out.old hbc)
  have E1 := Lib.hid r3
  have HB := Lib.hid (HB.out.trans (hbc.mono HB.out.size))
  have R1 := Lib.hid r1
  have R2 := Lib.hid r2
  clear hbb r1 r2 r3 r4 hbc
  go_upto_region 3 with (first | (refine wpList_store_row rfl 28 (.tmp 10) (.tmp 27) rfl w11.heap.size cx1 rfl rfl 28 _ R1.out ou1.out.1 ou1.out.2.2 ou1.out.2.1 ?_) |
    (refine wpList_store_row rfl 35 (.tmp 11) (.tmp 28) rfl (w11.heap.size + 1) cu1 rfl rfl 35 z R2.out of1.out.1 of1.out.2.2 of1.out.2.1 ?_))
  clear R1 R2
  generalize (((w11.alloc (.cells #[.int .u64 0, .int .u64 0, .int .u64 0, .int .u64 0] 28)).alloc (.cells z 35)).setRow w11.heap.size cx1).setRow (w11.heap.size + 1) cu1 = W1 at *
  generalize w11.heap.size + 1 = gf1 at *
  generalize w11.heap.size = g10 at *
  go_upto_region 4 with (first | (refine wpList_load_row rfl 41 (.tmp 5) rfl (w.heap.size + 2) rfl 41 ca2 (0, 0) _ X2.out Tryd.underlying41 rfl hia2.out ?_))
  refine (CT2.out _ (HP.out.old HB.out)).mono ?_
  rintro e w12 ⟨rfl, hbb⟩
  obtain ⟨r1, r2, r3, r4⟩ := two_row w12 z cx2 cu2
  have hbc := hbb.trans (r4.mono hbb.size)
  have X2 := Lib.hid (X2.out.old hbc)
  have E0 := Lib.hid (E0.out.old hbc)
  have E1 := Lib.hid (E1.out.old hbc)
  have E2 := Lib.hid r3
  have HB := Lib.hid (HB.out.trans (hbc.mono HB.out.size))
  have R1 := Lib.hid r1
  have R2 := Lib.hid r2
  clear hbb r1 r2 r3 r4 hbc
  go_upto_region 4 with (first | (refine wpList_store_row rfl 28 (.tmp 13) (.tmp 33) rfl w12.heap.size cx2 rfl rfl 28 _ R1.out ou2.out.1 ou2.out.2.2 ou2.out.2.1 ?_) |
    (refine wpList_store_row rfl 35 (.tmp 14) (.tmp 34) rfl (w12.heap.size + 1) cu2 rfl rfl 35 z R2.out of2.out.1 of2.out.2.2 of2.out.2.1 ?_))
  clear R1 R2
  generalize (((w12.alloc (.cells #[.int .u64 0, .int .u64 0, .int .u64 0, .int .u64 0] 28)).alloc (.cells z 35)).setRow w12.heap.size cx2).setRow (w12.heap.size + 1) cu2 = W2 at *
  generalize w12.heap.size + 1 = gf2 at *
  generalize w12.heap.size = g13 at *
  cases hc0 : b0
  · clear hc0
    go_wp2_with fail
    refine (awake_any _ (HP.out.old HB.out)).mono ?_
    rintro e w3 ⟨rfl, hbb⟩
    have hbe := Lib.hid (HB.out.trans (hbb.mono HB.out.size))
    clear hbb
    go_wp2
    go_ret
    exact ⟨rfl, hbe.out⟩
  cases hc1 : b1
  · clear hc0 hc1
    go_wp2_with fail
    refine (awake_any _ (HP.out.old HB.out)).mono ?_
    rintro e w3 ⟨rfl, hbb⟩
    have hbe := Lib.hid (HB.out.trans (hbb.mono HB.out.size))
    clear hbb
    go_wp2
    go_ret
    exact ⟨rfl, hbe.out⟩
  cases hc2 : b2
  · clear hc0 hc1 hc2
    go_wp2_with fail
    refine (awake_any _ (HP.out.old HB.out)).mono ?_
    rintro e w3 ⟨rfl, hbb⟩
    have hbe := Lib.hid (HB.out.trans (hbb.mono HB.out.size))
    clear hbb
    go_wp2
    go_ret
    exact ⟨rfl, hbe.out⟩
  have hva : va < P := by have := hb0.out; rw [hc0] at this; simpa using this.symm
  have hvb : vb < P := by have := hb1.out; rw [hc1] at this; simpa using this.symm
  have hvc : vc < P := by have := hb2.out; rw [hc2] at this; simpa using this.symm
  have eA : Hid (Blk W2 g7 28 (limA va)) := by have := E0.out; rw [hcx0.out, uOf, if_pos hva] at this; exact Lib.hid this
  have eB : Hid (Blk W2 g10 28 (limA vb)) := by have := E1.out; rw [hcx1.out, uOf, if_pos hvb] at this; exact Lib.hid this
  have eC : Hid (Blk W2 g13 28 (limA vc)) := by have := E2.out; rw [hcx2.out, uOf, if_pos hvc] at this; exact Lib.hid this
  have HVA := Lib.hid hva
  have HVB := Lib.hid hvb
  have HVC := Lib.hid hvc
  have HPW : Hid (PrimeAt W2) := Lib.hid (HP.out.old HB.out)
  have HTW : Hid (TurnAt W2) := Lib.hid (HT.out.old HB.out)
  have oa := Lib.hid (limA_ok2 va)
  have ob := Lib.hid (limA_ok2 vb)
  have oc := Lib.hid (limA_ok2 vc)
  clear hc0 hc1 hc2 hva hvb hvc hb0 hb1 hb2 E0 E1 E2 hcx0 hcx1 hcx2 hcu0 hcu1 hcu2 CT0 CT1 CT2 ou0 ou1 ou2 of0 of1 of2 hia0 hia1 hia2 hca0 hca1 hca2
  obtain ⟨r49, hr49⟩ := named ((va + vb) % P)
  have hl49 : Hid (r49 < P) := by rw [hr49.out]; exact Lib.hid (Nat.mod_lt _ P_pos)
  have C49 : Hid (∀ V, PrimeAt V → Calls Tryd.prog 17 #[.agg (limA va), .agg (limA vb)] V fun e w' => e = .returned (.agg (limA r49)) ∧ Below V.heap.size V w') := Lib.hid fun V hV => by
    rw [hr49.out]; exact add_e va vb HVA.out HVB.out V hV
  obtain ⟨r52, hr52⟩ := named ((vb + va) % P)
  have hl52 : Hid (r52 < P) := by rw [hr52.out]; exact Lib.hid (Nat.mod_lt _ P_pos)
  have C52 : Hid (∀ V, PrimeAt V → Calls Tryd.prog 17 #[.agg (limA vb), .agg (limA va)] V fun e w' => e = .returned (.agg (limA r52)) ∧ Below V.heap.size V w') := Lib.hid fun V hV => by
    rw [hr52.out]; exact add_e vb va HVB.out HVA.out V hV
  have C53 : Hid (∀ V, Calls Tryd.prog 13 #[.agg (limA r49), .agg (limA r52)] V fun e w' => e = .returned (.bool true) ∧ Below V.heap.size V w') := Lib.hid fun V => same_t r49 r52 hl49.out (by rw [hr49.out, hr52.out]; exact law1 _ _) V
  obtain ⟨r58, hr58⟩ := named (va * vb % P)
  have hl58 : Hid (r58 < P) := by rw [hr58.out]; exact Lib.hid (Nat.mod_lt _ P_pos)
  have C58 : Hid (∀ V, PrimeAt V → Calls Tryd.prog 21 #[.agg (limA va), .agg (limA vb)] V fun e w' => e = .returned (.agg (limA r58)) ∧ Below V.heap.size V w') := Lib.hid fun V hV => by
    rw [hr58.out]; exact mul_e va vb HVA.out HVB.out V hV
  obtain ⟨r61, hr61⟩ := named (vb * va % P)
  have hl61 : Hid (r61 < P) := by rw [hr61.out]; exact Lib.hid (Nat.mod_lt _ P_pos)
  have C61 : Hid (∀ V, PrimeAt V → Calls Tryd.prog 21 #[.agg (limA vb), .agg (limA va)] V fun e w' => e = .returned (.agg (limA r61)) ∧ Below V.heap.size V w') := Lib.hid fun V hV => by
    rw [hr61.out]; exact mul_e vb va HVB.out HVA.out V hV
  have C62 : Hid (∀ V, Calls Tryd.prog 13 #[.agg (limA r58), .agg (limA r61)] V fun e w' => e = .returned (.bool true) ∧ Below V.heap.size V w') := Lib.hid fun V => same_t r58 r61 hl58.out (by rw [hr58.out, hr61.out]; exact law2 _ _) V
  obtain ⟨r68, hr68⟩ := named ((va + vb) % P)
  have hl68 : Hid (r68 < P) := by rw [hr68.out]; exact Lib.hid (Nat.mod_lt _ P_pos)
  have C68 : Hid (∀ V, PrimeAt V → Calls Tryd.prog 17 #[.agg (limA va), .agg (limA vb)] V fun e w' => e = .returned (.agg (limA r68)) ∧ Below V.heap.size V w') := Lib.hid fun V hV => by
    rw [hr68.out]; exact add_e va vb HVA.out HVB.out V hV
  obtain ⟨r70, hr70⟩ := named ((r68 + vc) % P)
  have hl70 : Hid (r70 < P) := by rw [hr70.out]; exact Lib.hid (Nat.mod_lt _ P_pos)
  have C70 : Hid (∀ V, PrimeAt V → Calls Tryd.prog 17 #[.agg (limA r68), .agg (limA vc)] V fun e w' => e = .returned (.agg (limA r70)) ∧ Below V.heap.size V w') := Lib.hid fun V hV => by
    rw [hr70.out]; exact add_e r68 vc hl68.out HVC.out V hV
  obtain ⟨r74, hr74⟩ := named ((vb + vc) % P)
  have hl74 : Hid (r74 < P) := by rw [hr74.out]; exact Lib.hid (Nat.mod_lt _ P_pos)
  have C74 : Hid (∀ V, PrimeAt V → Calls Tryd.prog 17 #[.agg (limA vb), .agg (limA vc)] V fun e w' => e = .returned (.agg (limA r74)) ∧ Below V.heap.size V w') := Lib.hid fun V hV => by
    rw [hr74.out]; exact add_e vb vc HVB.out HVC.out V hV
  obtain ⟨r75, hr75⟩ := named ((va + r74) % P)
  have hl75 : Hid (r75 < P) := by rw [hr75.out]; exact Lib.hid (Nat.mod_lt _ P_pos)
  have C75 : Hid (∀ V, PrimeAt V → Calls Tryd.prog 17 #[.agg (limA va), .agg (limA r74)] V fun e w' => e = .returned (.agg (limA r75)) ∧ Below V.heap.size V w') := Lib.hid fun V hV => by
    rw [hr75.out]; exact add_e va r74 HVA.out hl74.out V hV
  have C76 : Hid (∀ V, Calls Tryd.prog 13 #[.agg (limA r70), .agg (limA r75)] V fun e w' => e = .returned (.bool true) ∧ Below V.heap.size V w') := Lib.hid fun V => same_t r70 r75 hl70.out (by rw [hr70.out, hr68.out, hr75.out, hr74.out]; exact law3 _ _ _) V
  obtain ⟨r82, hr82⟩ := named (va * vb % P)
  have hl82 : Hid (r82 < P) := by rw [hr82.out]; exact Lib.hid (Nat.mod_lt _ P_pos)
  have C82 : Hid (∀ V, PrimeAt V → Calls Tryd.prog 21 #[.agg (limA va), .agg (limA vb)] V fun e w' => e = .returned (.agg (limA r82)) ∧ Below V.heap.size V w') := Lib.hid fun V hV => by
    rw [hr82.out]; exact mul_e va vb HVA.out HVB.out V hV
  obtain ⟨r84, hr84⟩ := named (r82 * vc % P)
  have hl84 : Hid (r84 < P) := by rw [hr84.out]; exact Lib.hid (Nat.mod_lt _ P_pos)
  have C84 : Hid (∀ V, PrimeAt V → Calls Tryd.prog 21 #[.agg (limA r82), .agg (limA vc)] V fun e w' => e = .returned (.agg (limA r84)) ∧ Below V.heap.size V w') := Lib.hid fun V hV => by
    rw [hr84.out]; exact mul_e r82 vc hl82.out HVC.out V hV
  obtain ⟨r88, hr88⟩ := named (vb * vc % P)
  have hl88 : Hid (r88 < P) := by rw [hr88.out]; exact Lib.hid (Nat.mod_lt _ P_pos)
  have C88 : Hid (∀ V, PrimeAt V → Calls Tryd.prog 21 #[.agg (limA vb), .agg (limA vc)] V fun e w' => e = .returned (.agg (limA r88)) ∧ Below V.heap.size V w') := Lib.hid fun V hV => by
    rw [hr88.out]; exact mul_e vb vc HVB.out HVC.out V hV
  obtain ⟨r89, hr89⟩ := named (va * r88 % P)
  have hl89 : Hid (r89 < P) := by rw [hr89.out]; exact Lib.hid (Nat.mod_lt _ P_pos)
  have C89 : Hid (∀ V, PrimeAt V → Calls Tryd.prog 21 #[.agg (limA va), .agg (limA r88)] V fun e w' => e = .returned (.agg (limA r89)) ∧ Below V.heap.size V w') := Lib.hid fun V hV => by
    rw [hr89.out]; exact mul_e va r88 HVA.out hl88.out V hV
  have C90 : Hid (∀ V, Calls Tryd.prog 13 #[.agg (limA r84), .agg (limA r89)] V fun e w' => e = .returned (.bool true) ∧ Below V.heap.size V w') := Lib.hid fun V => same_t r84 r89 hl84.out (by rw [hr84.out, hr82.out, hr89.out, hr88.out]; exact law4 _ _ _) V
  obtain ⟨r97, hr97⟩ := named ((vb + vc) % P)
  have hl97 : Hid (r97 < P) := by rw [hr97.out]; exact Lib.hid (Nat.mod_lt _ P_pos)
  have C97 : Hid (∀ V, PrimeAt V → Calls Tryd.prog 17 #[.agg (limA vb), .agg (limA vc)] V fun e w' => e = .returned (.agg (limA r97)) ∧ Below V.heap.size V w') := Lib.hid fun V hV => by
    rw [hr97.out]; exact add_e vb vc HVB.out HVC.out V hV
  obtain ⟨r98, hr98⟩ := named (va * r97 % P)
  have hl98 : Hid (r98 < P) := by rw [hr98.out]; exact Lib.hid (Nat.mod_lt _ P_pos)
  have C98 : Hid (∀ V, PrimeAt V → Calls Tryd.prog 21 #[.agg (limA va), .agg (limA r97)] V fun e w' => e = .returned (.agg (limA r98)) ∧ Below V.heap.size V w') := Lib.hid fun V hV => by
    rw [hr98.out]; exact mul_e va r97 HVA.out hl97.out V hV
  obtain ⟨r101, hr101⟩ := named (va * vb % P)
  have hl101 : Hid (r101 < P) := by rw [hr101.out]; exact Lib.hid (Nat.mod_lt _ P_pos)
  have C101 : Hid (∀ V, PrimeAt V → Calls Tryd.prog 21 #[.agg (limA va), .agg (limA vb)] V fun e w' => e = .returned (.agg (limA r101)) ∧ Below V.heap.size V w') := Lib.hid fun V hV => by
    rw [hr101.out]; exact mul_e va vb HVA.out HVB.out V hV
  obtain ⟨r104, hr104⟩ := named (va * vc % P)
  have hl104 : Hid (r104 < P) := by rw [hr104.out]; exact Lib.hid (Nat.mod_lt _ P_pos)
  have C104 : Hid (∀ V, PrimeAt V → Calls Tryd.prog 21 #[.agg (limA va), .agg (limA vc)] V fun e w' => e = .returned (.agg (limA r104)) ∧ Below V.heap.size V w') := Lib.hid fun V hV => by
    rw [hr104.out]; exact mul_e va vc HVA.out HVC.out V hV
  obtain ⟨r105, hr105⟩ := named ((r101 + r104) % P)
  have hl105 : Hid (r105 < P) := by rw [hr105.out]; exact Lib.hid (Nat.mod_lt _ P_pos)
  have C105 : Hid (∀ V, PrimeAt V → Calls Tryd.prog 17 #[.agg (limA r101), .agg (limA r104)] V fun e w' => e = .returned (.agg (limA r105)) ∧ Below V.heap.size V w') := Lib.hid fun V hV => by
    rw [hr105.out]; exact add_e r101 r104 hl101.out hl104.out V hV
  have C106 : Hid (∀ V, Calls Tryd.prog 13 #[.agg (limA r98), .agg (limA r105)] V fun e w' => e = .returned (.bool true) ∧ Below V.heap.size V w') := Lib.hid fun V => same_t r98 r105 hl98.out (by rw [hr98.out, hr97.out, hr105.out, hr101.out, hr104.out]; exact law5 _ _ _) V
  obtain ⟨r112, hr112⟩ := named ((va + P - vb) % P)
  have hl112 : Hid (r112 < P) := by rw [hr112.out]; exact Lib.hid (Nat.mod_lt _ P_pos)
  have C112 : Hid (∀ V, PrimeAt V → Calls Tryd.prog 19 #[.agg (limA va), .agg (limA vb)] V fun e w' => e = .returned (.agg (limA r112)) ∧ Below V.heap.size V w') := Lib.hid fun V hV => by
    rw [hr112.out]; exact sub_e va vb HVA.out HVB.out V hV
  obtain ⟨r114, hr114⟩ := named ((r112 + vb) % P)
  have hl114 : Hid (r114 < P) := by rw [hr114.out]; exact Lib.hid (Nat.mod_lt _ P_pos)
  have C114 : Hid (∀ V, PrimeAt V → Calls Tryd.prog 17 #[.agg (limA r112), .agg (limA vb)] V fun e w' => e = .returned (.agg (limA r114)) ∧ Below V.heap.size V w') := Lib.hid fun V hV => by
    rw [hr114.out]; exact add_e r112 vb hl112.out HVB.out V hV
  have C116 : Hid (∀ V, Calls Tryd.prog 13 #[.agg (limA r114), .agg (limA va)] V fun e w' => e = .returned (.bool true) ∧ Below V.heap.size V w') := Lib.hid fun V => same_t r114 va hl114.out (by rw [hr114.out, hr112.out]; exact law6 HVA.out HVB.out) V
  go_upto_region 6 with fail
  (try simp only [Act.put, List.setIfInBounds_toArray, List.set_cons_zero, List.set_cons_succ])
  refine wp_region_held_drew (S := fun V => Below W2.heap.size W2 V) (by kernel_rfl) (Below.refl _ _).drew (fun hHeld => ?_)
  have HB0 := Lib.hid ((Below.refl W2.heap.size W2).drew)
  generalize W2.drew = V0 at *
  refine' wpAnyH_take (i := 0) (oi := _) (v := .agg (limA va)) ?hit1 ?hst1 ?hft1 ?hrt1 ?hQt1 ?hyt1 ?hSt1 ?_
  case hit1 => (simp only [List.getElem?_toArray, List.getElem?_cons_succ, List.getElem?_cons_zero]; rfl)
  case hst1 => kernel_rfl
  case hft1 => kernel_rfl
  case hrt1 => kernel_rfl
  case hQt1 => exact fun _ _ _ h => h
  case hSt1 => assumption
  case hyt1 =>
    refine Or.inl ⟨by rfl, ?_⟩
    intro W hS
    exact quiet_load_row 28 (.tmp 7) _ rfl 28 (limA va) _ (eA.out.old hS) Tryd.underlying28 rfl oa.out.1 rfl
  (try simp only [Act.put, List.setIfInBounds_toArray, List.set_cons_zero, List.set_cons_succ])
  refine' wpAnyH_take (i := 1) (oi := _) (v := .agg (limA vb)) ?hit2 ?hst2 ?hft2 ?hrt2 ?hQt2 ?hyt2 ?hSt2 ?_
  case hit2 => (simp only [List.getElem?_toArray, List.getElem?_cons_succ, List.getElem?_cons_zero]; rfl)
  case hst2 => kernel_rfl
  case hft2 => kernel_rfl
  case hrt2 => kernel_rfl
  case hQt2 => exact fun _ _ _ h => h
  case hSt2 => assumption
  case hyt2 =>
    refine Or.inl ⟨by rfl, ?_⟩
    intro W hS
    exact quiet_load_row 28 (.tmp 10) _ rfl 28 (limA vb) _ (eB.out.old hS) Tryd.underlying28 rfl ob.out.1 rfl
  (try simp only [Act.put, List.setIfInBounds_toArray, List.set_cons_zero, List.set_cons_succ])
  refine' wpAnyH_take (i := 3) (oi := _) (v := .agg (limA vb)) ?hit3 ?hst3 ?hft3 ?hrt3 ?hQt3 ?hyt3 ?hSt3 ?_
  case hit3 => (simp only [List.getElem?_toArray, List.getElem?_cons_succ, List.getElem?_cons_zero]; rfl)
  case hst3 => kernel_rfl
  case hft3 => kernel_rfl
  case hrt3 => kernel_rfl
  case hQt3 => exact fun _ _ _ h => h
  case hSt3 => assumption
  case hyt3 =>
    refine Or.inl ⟨by rfl, ?_⟩
    intro W hS
    exact quiet_load_row 28 (.tmp 10) _ rfl 28 (limA vb) _ (eB.out.old hS) Tryd.underlying28 rfl ob.out.1 rfl
  (try simp only [Act.put, List.setIfInBounds_toArray, List.set_cons_zero, List.set_cons_succ])
  refine' wpAnyH_take (i := 4) (oi := _) (v := .agg (limA va)) ?hit4 ?hst4 ?hft4 ?hrt4 ?hQt4 ?hyt4 ?hSt4 ?_
  case hit4 => (simp only [List.getElem?_toArray, List.getElem?_cons_succ, List.getElem?_cons_zero]; rfl)
  case hst4 => kernel_rfl
  case hft4 => kernel_rfl
  case hrt4 => kernel_rfl
  case hQt4 => exact fun _ _ _ h => h
  case hSt4 => assumption
  case hyt4 =>
    refine Or.inl ⟨by rfl, ?_⟩
    intro W hS
    exact quiet_load_row 28 (.tmp 7) _ rfl 28 (limA va) _ (eA.out.old hS) Tryd.underlying28 rfl oa.out.1 rfl
  (try simp only [Act.put, List.setIfInBounds_toArray, List.set_cons_zero, List.set_cons_succ])
  refine wpAnyH_ready (rs := [2]) (by kernel_rfl) (by simp) ?_
  refine' (AllReadyH.cons (o := _) ?hir5_2 (fun K hK => ?br5_2) AllReadyH.nil)
  case hir5_2 => (simp only [List.getElem?_toArray, List.getElem?_cons_succ, List.getElem?_cons_zero]; rfl)
  case br5_2 =>
    go_simp
    refine (C49.out _ (HPW.out.old HB0.out)).mono ?_
    rintro e w6 ⟨rfl, hb6⟩
    have H6 := Lib.hid (HB0.out.trans (hb6.mono HB0.out.size))
    clear hb6
    go_wp2_with fail
    refine hK.out _ _ ?_ (fun hHeld => ?_)
    exact H6.out
    clear hK K
    (try simp only [Act.put, List.setIfInBounds_toArray, List.set_cons_zero, List.set_cons_succ])
    refine wpAnyH_ready (rs := [5]) (by kernel_rfl) (by simp) ?_
    refine' (AllReadyH.cons (o := _) ?hir7_5 (fun K hK => ?br7_5) AllReadyH.nil)
    case hir7_5 => (simp only [List.getElem?_toArray, List.getElem?_cons_succ, List.getElem?_cons_zero]; rfl)
    case br7_5 =>
      go_simp
      refine (C52.out _ (HPW.out.old H6.out)).mono ?_
      rintro e w8 ⟨rfl, hb8⟩
      have H8 := Lib.hid (H6.out.trans (hb8.mono H6.out.size))
      clear hb8
      go_wp2_with fail
      refine hK.out _ _ ?_ (fun hHeld => ?_)
      exact H8.out
      clear hK K
      (try simp only [Act.put, List.setIfInBounds_toArray, List.set_cons_zero, List.set_cons_succ])
      refine wpAnyH_ready (rs := [6]) (by kernel_rfl) (by simp) ?_
      refine' (AllReadyH.cons (o := _) ?hir9_6 (fun K hK => ?br9_6) AllReadyH.nil)
      case hir9_6 => (simp only [List.getElem?_toArray, List.getElem?_cons_succ, List.getElem?_cons_zero]; rfl)
      case br9_6 =>
        go_simp
        refine (C53.out _).mono ?_
        rintro e w10 ⟨rfl, hb10⟩
        have H10 := Lib.hid (H8.out.trans (hb10.mono H8.out.size))
        clear hb10
        go_wp2_with fail
        refine hK.out _ _ ?_ (fun hHeld => ?_)
        exact H10.out
        clear hK K
        (try simp only [Act.put, List.setIfInBounds_toArray, List.set_cons_zero, List.set_cons_succ])
        refine' wpAnyH_take (i := 7) (oi := _) (v := _) ?hit11 ?hst11 ?hft11 ?hrt11 ?hQt11 ?hyt11 ?hSt11 ?_
        case hit11 => (simp only [List.getElem?_toArray, List.getElem?_cons_succ, List.getElem?_cons_zero]; rfl)
        case hst11 => kernel_rfl
        case hft11 => kernel_rfl
        case hrt11 => kernel_rfl
        case hQt11 => exact fun _ _ _ h => h
        case hSt11 => assumption
        case hyt11 =>
          refine Or.inl ⟨by rfl, ?_⟩
          intro w hSw
          (try dsimp only at hSw)
          go_simp
          all_goals (with_reducible rfl)
        (try simp only [Act.put, List.setIfInBounds_toArray, List.set_cons_zero, List.set_cons_succ])
        refine' wpAnyH_take (i := 8) (oi := _) (v := _) ?hit12 ?hst12 ?hft12 ?hrt12 ?hQt12 ?hyt12 ?hSt12 ?_
        case hit12 => (simp only [List.getElem?_toArray, List.getElem?_cons_succ, List.getElem?_cons_zero]; rfl)
        case hst12 => kernel_rfl
        case hft12 => kernel_rfl
        case hrt12 => kernel_rfl
        case hQt12 => exact fun _ _ _ h => h
        case hSt12 => assumption
        case hyt12 =>
          refine Or.inl ⟨by rfl, ?_⟩
          intro w hSw
          (try dsimp only at hSw)
          go_simp
          all_goals (with_reducible rfl)
        (try simp only [Act.put, List.setIfInBounds_toArray, List.set_cons_zero, List.set_cons_succ])
        refine' wpAnyH_take (i := 9) (oi := _) (v := .agg (limA va)) ?hit13 ?hst13 ?hft13 ?hrt13 ?hQt13 ?hyt13 ?hSt13 ?_
        case hit13 => (simp only [List.getElem?_toArray, List.getElem?_cons_succ, List.getElem?_cons_zero]; rfl)
        case hst13 => kernel_rfl
        case hft13 => kernel_rfl
        case hrt13 => kernel_rfl
        case hQt13 => exact fun _ _ _ h => h
        case hSt13 => assumption
        case hyt13 =>
          refine Or.inl ⟨by rfl, ?_⟩
          intro W hS
          exact quiet_load_row 28 (.tmp 7) _ rfl 28 (limA va) _ (eA.out.old hS) Tryd.underlying28 rfl oa.out.1 rfl
        (try simp only [Act.put, List.setIfInBounds_toArray, List.set_cons_zero, List.set_cons_succ])
        refine' wpAnyH_take (i := 10) (oi := _) (v := .agg (limA vb)) ?hit14 ?hst14 ?hft14 ?hrt14 ?hQt14 ?hyt14 ?hSt14 ?_
        case hit14 => (simp only [List.getElem?_toArray, List.getElem?_cons_succ, List.getElem?_cons_zero]; rfl)
        case hst14 => kernel_rfl
        case hft14 => kernel_rfl
        case hrt14 => kernel_rfl
        case hQt14 => exact fun _ _ _ h => h
        case hSt14 => assumption
        case hyt14 =>
          refine Or.inl ⟨by rfl, ?_⟩
          intro W hS
          exact quiet_load_row 28 (.tmp 10) _ rfl 28 (limA vb) _ (eB.out.old hS) Tryd.underlying28 rfl ob.out.1 rfl
        (try simp only [Act.put, List.setIfInBounds_toArray, List.set_cons_zero, List.set_cons_succ])
        refine' wpAnyH_take (i := 12) (oi := _) (v := .agg (limA vb)) ?hit15 ?hst15 ?hft15 ?hrt15 ?hQt15 ?hyt15 ?hSt15 ?_
        case hit15 => (simp only [List.getElem?_toArray, List.getElem?_cons_succ, List.getElem?_cons_zero]; rfl)
        case hst15 => kernel_rfl
        case hft15 => kernel_rfl
        case hrt15 => kernel_rfl
        case hQt15 => exact fun _ _ _ h => h
        case hSt15 => assumption
        case hyt15 =>
          refine Or.inl ⟨by rfl, ?_⟩
          intro W hS
          exact quiet_load_row 28 (.tmp 10) _ rfl 28 (limA vb) _ (eB.out.old hS) Tryd.underlying28 rfl ob.out.1 rfl
        (try simp only [Act.put, List.setIfInBounds_toArray, List.set_cons_zero, List.set_cons_succ])
        refine' wpAnyH_take (i := 13) (oi := _) (v := .agg (limA va)) ?hit16 ?hst16 ?hft16 ?hrt16 ?hQt16 ?hyt16 ?hSt16 ?_
        case hit16 => (simp only [List.getElem?_toArray, List.getElem?_cons_succ, List.getElem?_cons_zero]; rfl)
        case hst16 => kernel_rfl
        case hft16 => kernel_rfl
        case hrt16 => kernel_rfl
        case hQt16 => exact fun _ _ _ h => h
        case hSt16 => assumption
        case hyt16 =>
          refine Or.inl ⟨by rfl, ?_⟩
          intro W hS
          exact quiet_load_row 28 (.tmp 7) _ rfl 28 (limA va) _ (eA.out.old hS) Tryd.underlying28 rfl oa.out.1 rfl
        (try simp only [Act.put, List.setIfInBounds_toArray, List.set_cons_zero, List.set_cons_succ])
        refine wpAnyH_ready (rs := [11]) (by kernel_rfl) (by simp) ?_
        refine' (AllReadyH.cons (o := _) ?hir17_11 (fun K hK => ?br17_11) AllReadyH.nil)
        case hir17_11 => (simp only [List.getElem?_toArray, List.getElem?_cons_succ, List.getElem?_cons_zero]; rfl)
        case br17_11 =>
          go_simp
          refine (C58.out _ (HPW.out.old H10.out)).mono ?_
          rintro e w18 ⟨rfl, hb18⟩
          have H18 := Lib.hid (H10.out.trans (hb18.mono H10.out.size))
          clear hb18
          go_wp2_with fail
          refine hK.out _ _ ?_ (fun hHeld => ?_)
          exact H18.out
          clear hK K
          (try simp only [Act.put, List.setIfInBounds_toArray, List.set_cons_zero, List.set_cons_succ])
          refine wpAnyH_ready (rs := [14]) (by kernel_rfl) (by simp) ?_
          refine' (AllReadyH.cons (o := _) ?hir19_14 (fun K hK => ?br19_14) AllReadyH.nil)
          case hir19_14 => (simp only [List.getElem?_toArray, List.getElem?_cons_succ, List.getElem?_cons_zero]; rfl)
          case br19_14 =>
            go_simp
            refine (C61.out _ (HPW.out.old H18.out)).mono ?_
            rintro e w20 ⟨rfl, hb20⟩
            have H20 := Lib.hid (H18.out.trans (hb20.mono H18.out.size))
            clear hb20
            go_wp2_with fail
            refine hK.out _ _ ?_ (fun hHeld => ?_)
            exact H20.out
            clear hK K
            (try simp only [Act.put, List.setIfInBounds_toArray, List.set_cons_zero, List.set_cons_succ])
            refine wpAnyH_ready (rs := [15]) (by kernel_rfl) (by simp) ?_
            refine' (AllReadyH.cons (o := _) ?hir21_15 (fun K hK => ?br21_15) AllReadyH.nil)
            case hir21_15 => (simp only [List.getElem?_toArray, List.getElem?_cons_succ, List.getElem?_cons_zero]; rfl)
            case br21_15 =>
              go_simp
              refine (C62.out _).mono ?_
              rintro e w22 ⟨rfl, hb22⟩
              have H22 := Lib.hid (H20.out.trans (hb22.mono H20.out.size))
              clear hb22
              go_wp2_with fail
              refine hK.out _ _ ?_ (fun hHeld => ?_)
              exact H22.out
              clear hK K
              (try simp only [Act.put, List.setIfInBounds_toArray, List.set_cons_zero, List.set_cons_succ])
              refine' wpAnyH_take (i := 16) (oi := _) (v := _) ?hit23 ?hst23 ?hft23 ?hrt23 ?hQt23 ?hyt23 ?hSt23 ?_
              case hit23 => (simp only [List.getElem?_toArray, List.getElem?_cons_succ, List.getElem?_cons_zero]; rfl)
              case hst23 => kernel_rfl
              case hft23 => kernel_rfl
              case hrt23 => kernel_rfl
              case hQt23 => exact fun _ _ _ h => h
              case hSt23 => assumption
              case hyt23 =>
                refine Or.inl ⟨by rfl, ?_⟩
                intro w hSw
                (try dsimp only at hSw)
                go_simp
                all_goals (with_reducible rfl)
              (try simp only [Act.put, List.setIfInBounds_toArray, List.set_cons_zero, List.set_cons_succ])
              refine' wpAnyH_take (i := 17) (oi := _) (v := _) ?hit24 ?hst24 ?hft24 ?hrt24 ?hQt24 ?hyt24 ?hSt24 ?_
              case hit24 => (simp only [List.getElem?_toArray, List.getElem?_cons_succ, List.getElem?_cons_zero]; rfl)
              case hst24 => kernel_rfl
              case hft24 => kernel_rfl
              case hrt24 => kernel_rfl
              case hQt24 => exact fun _ _ _ h => h
              case hSt24 => assumption
              case hyt24 =>
                refine Or.inl ⟨by rfl, ?_⟩
                intro w hSw
                (try dsimp only at hSw)
                go_simp
                all_goals (with_reducible rfl)
              (try simp only [Act.put, List.setIfInBounds_toArray, List.set_cons_zero, List.set_cons_succ])
              refine' wpAnyH_take (i := 18) (oi := _) (v := _) ?hit25 ?hst25 ?hft25 ?hrt25 ?hQt25 ?hyt25 ?hSt25 ?_
              case hit25 => (simp only [List.getElem?_toArray, List.getElem?_cons_succ, List.getElem?_cons_zero]; rfl)
              case hst25 => kernel_rfl
              case hft25 => kernel_rfl
              case hrt25 => kernel_rfl
              case hQt25 => exact fun _ _ _ h => h
              case hSt25 => assumption
              case hyt25 =>
                refine Or.inl ⟨by rfl, ?_⟩
                intro w hSw
                (try dsimp only at hSw)
                go_simp
                all_goals (with_reducible rfl)
              (try simp only [Act.put, List.setIfInBounds_toArray, List.set_cons_zero, List.set_cons_succ])
              refine' wpAnyH_take (i := 19) (oi := _) (v := .agg (limA va)) ?hit26 ?hst26 ?hft26 ?hrt26 ?hQt26 ?hyt26 ?hSt26 ?_
              case hit26 => (simp only [List.getElem?_toArray, List.getElem?_cons_succ, List.getElem?_cons_zero]; rfl)
              case hst26 => kernel_rfl
              case hft26 => kernel_rfl
              case hrt26 => kernel_rfl
              case hQt26 => exact fun _ _ _ h => h
              case hSt26 => assumption
              case hyt26 =>
                refine Or.inl ⟨by rfl, ?_⟩
                intro W hS
                exact quiet_load_row 28 (.tmp 7) _ rfl 28 (limA va) _ (eA.out.old hS) Tryd.underlying28 rfl oa.out.1 rfl
              (try simp only [Act.put, List.setIfInBounds_toArray, List.set_cons_zero, List.set_cons_succ])
              refine' wpAnyH_take (i := 20) (oi := _) (v := .agg (limA vb)) ?hit27 ?hst27 ?hft27 ?hrt27 ?hQt27 ?hyt27 ?hSt27 ?_
              case hit27 => (simp only [List.getElem?_toArray, List.getElem?_cons_succ, List.getElem?_cons_zero]; rfl)
              case hst27 => kernel_rfl
              case hft27 => kernel_rfl
              case hrt27 => kernel_rfl
              case hQt27 => exact fun _ _ _ h => h
              case hSt27 => assumption
              case hyt27 =>
                refine Or.inl ⟨by rfl, ?_⟩
                intro W hS
                exact quiet_load_row 28 (.tmp 10) _ rfl 28 (limA vb) _ (eB.out.old hS) Tryd.underlying28 rfl ob.out.1 rfl
              (try simp only [Act.put, List.setIfInBounds_toArray, List.set_cons_zero, List.set_cons_succ])
              refine' wpAnyH_take (i := 22) (oi := _) (v := .agg (limA vc)) ?hit28 ?hst28 ?hft28 ?hrt28 ?hQt28 ?hyt28 ?hSt28 ?_
              case hit28 => (simp only [List.getElem?_toArray, List.getElem?_cons_succ, List.getElem?_cons_zero]; rfl)
              case hst28 => kernel_rfl
              case hft28 => kernel_rfl
              case hrt28 => kernel_rfl
              case hQt28 => exact fun _ _ _ h => h
              case hSt28 => assumption
              case hyt28 =>
                refine Or.inl ⟨by rfl, ?_⟩
                intro W hS
                exact quiet_load_row 28 (.tmp 13) _ rfl 28 (limA vc) _ (eC.out.old hS) Tryd.underlying28 rfl oc.out.1 rfl
              (try simp only [Act.put, List.setIfInBounds_toArray, List.set_cons_zero, List.set_cons_succ])
              refine' wpAnyH_take (i := 24) (oi := _) (v := .agg (limA va)) ?hit29 ?hst29 ?hft29 ?hrt29 ?hQt29 ?hyt29 ?hSt29 ?_
              case hit29 => (simp only [List.getElem?_toArray, List.getElem?_cons_succ, List.getElem?_cons_zero]; rfl)
              case hst29 => kernel_rfl
              case hft29 => kernel_rfl
              case hrt29 => kernel_rfl
              case hQt29 => exact fun _ _ _ h => h
              case hSt29 => assumption
              case hyt29 =>
                refine Or.inl ⟨by rfl, ?_⟩
                intro W hS
                exact quiet_load_row 28 (.tmp 7) _ rfl 28 (limA va) _ (eA.out.old hS) Tryd.underlying28 rfl oa.out.1 rfl
              (try simp only [Act.put, List.setIfInBounds_toArray, List.set_cons_zero, List.set_cons_succ])
              refine' wpAnyH_take (i := 25) (oi := _) (v := .agg (limA vb)) ?hit30 ?hst30 ?hft30 ?hrt30 ?hQt30 ?hyt30 ?hSt30 ?_
              case hit30 => (simp only [List.getElem?_toArray, List.getElem?_cons_succ, List.getElem?_cons_zero]; rfl)
              case hst30 => kernel_rfl
              case hft30 => kernel_rfl
              case hrt30 => kernel_rfl
              case hQt30 => exact fun _ _ _ h => h
              case hSt30 => assumption
              case hyt30 =>
                refine Or.inl ⟨by rfl, ?_⟩
                intro W hS
                exact quiet_load_row 28 (.tmp 10) _ rfl 28 (limA vb) _ (eB.out.old hS) Tryd.underlying28 rfl ob.out.1 rfl
              (try simp only [Act.put, List.setIfInBounds_toArray, List.set_cons_zero, List.set_cons_succ])
              refine' wpAnyH_take (i := 26) (oi := _) (v := .agg (limA vc)) ?hit31 ?hst31 ?hft31 ?hrt31 ?hQt31 ?hyt31 ?hSt31 ?_
              case hit31 => (simp only [List.getElem?_toArray, List.getElem?_cons_succ, List.getElem?_cons_zero]; rfl)
              case hst31 => kernel_rfl
              case hft31 => kernel_rfl
              case hrt31 => kernel_rfl
              case hQt31 => exact fun _ _ _ h => h
              case hSt31 => assumption
              case hyt31 =>
                refine Or.inl ⟨by rfl, ?_⟩
                intro W hS
                exact quiet_load_row 28 (.tmp 13) _ rfl 28 (limA vc) _ (eC.out.old hS) Tryd.underlying28 rfl oc.out.1 rfl
              (try simp only [Act.put, List.setIfInBounds_toArray, List.set_cons_zero, List.set_cons_succ])
              refine wpAnyH_ready (rs := [21]) (by kernel_rfl) (by simp) ?_
              refine' (AllReadyH.cons (o := _) ?hir32_21 (fun K hK => ?br32_21) AllReadyH.nil)
              case hir32_21 => (simp only [List.getElem?_toArray, List.getElem?_cons_succ, List.getElem?_cons_zero]; rfl)
              case br32_21 =>
                go_simp
                refine (C68.out _ (HPW.out.old H22.out)).mono ?_
                rintro e w33 ⟨rfl, hb33⟩
                have H33 := Lib.hid (H22.out.trans (hb33.mono H22.out.size))
                clear hb33
                go_wp2_with fail
                refine hK.out _ _ ?_ (fun hHeld => ?_)
                exact H33.out
                clear hK K
                (try simp only [Act.put, List.setIfInBounds_toArray, List.set_cons_zero, List.set_cons_succ])
                refine wpAnyH_ready (rs := [23]) (by kernel_rfl) (by simp) ?_
                refine' (AllReadyH.cons (o := _) ?hir34_23 (fun K hK => ?br34_23) AllReadyH.nil)
                case hir34_23 => (simp only [List.getElem?_toArray, List.getElem?_cons_succ, List.getElem?_cons_zero]; rfl)
                case br34_23 =>
                  go_simp
                  refine (C70.out _ (HPW.out.old H33.out)).mono ?_
                  rintro e w35 ⟨rfl, hb35⟩
                  have H35 := Lib.hid (H33.out.trans (hb35.mono H33.out.size))
                  clear hb35
                  go_wp2_with fail
                  refine hK.out _ _ ?_ (fun hHeld => ?_)
                  exact H35.out
                  clear hK K
                  (try simp only [Act.put, List.setIfInBounds_toArray, List.set_cons_zero, List.set_cons_succ])
                  refine wpAnyH_ready (rs := [27]) (by kernel_rfl) (by simp) ?_
                  refine' (AllReadyH.cons (o := _) ?hir36_27 (fun K hK => ?br36_27) AllReadyH.nil)
                  case hir36_27 => (simp only [List.getElem?_toArray, List.getElem?_cons_succ, List.getElem?_cons_zero]; rfl)
                  case br36_27 =>
                    go_simp
                    refine (C74.out _ (HPW.out.old H35.out)).mono ?_
                    rintro e w37 ⟨rfl, hb37⟩
                    have H37 := Lib.hid (H35.out.trans (hb37.mono H35.out.size))
                    clear hb37
                    go_wp2_with fail
                    refine hK.out _ _ ?_ (fun hHeld => ?_)
                    exact H37.out
                    clear hK K
                    (try simp only [Act.put, List.setIfInBounds_toArray, List.set_cons_zero, List.set_cons_succ])
                    refine wpAnyH_ready (rs := [28]) (by kernel_rfl) (by simp) ?_
                    refine' (AllReadyH.cons (o := _) ?hir38_28 (fun K hK => ?br38_28) AllReadyH.nil)
                    case hir38_28 => (simp only [List.getElem?_toArray, List.getElem?_cons_succ, List.getElem?_cons_zero]; rfl)
                    case br38_28 =>
                      go_simp
                      refine (C75.out _ (HPW.out.old H37.out)).mono ?_
                      rintro e w39 ⟨rfl, hb39⟩
                      have H39 := Lib.hid (H37.out.trans (hb39.mono H37.out.size))
                      clear hb39
                      go_wp2_with fail
                      refine hK.out _ _ ?_ (fun hHeld => ?_)
                      exact H39.out
                      clear hK K
                      (try simp only [Act.put, List.setIfInBounds_toArray, List.set_cons_zero, List.set_cons_succ])
                      refine wpAnyH_ready (rs := [29]) (by kernel_rfl) (by simp) ?_
                      refine' (AllReadyH.cons (o := _) ?hir40_29 (fun K hK => ?br40_29) AllReadyH.nil)
                      case hir40_29 => (simp only [List.getElem?_toArray, List.getElem?_cons_succ, List.getElem?_cons_zero]; rfl)
                      case br40_29 =>
                        go_simp
                        refine (C76.out _).mono ?_
                        rintro e w41 ⟨rfl, hb41⟩
                        have H41 := Lib.hid (H39.out.trans (hb41.mono H39.out.size))
                        clear hb41
                        go_wp2_with fail
                        refine hK.out _ _ ?_ (fun hHeld => ?_)
                        exact H41.out
                        clear hK K
                        (try simp only [Act.put, List.setIfInBounds_toArray, List.set_cons_zero, List.set_cons_succ])
                        refine' wpAnyH_take (i := 30) (oi := _) (v := _) ?hit42 ?hst42 ?hft42 ?hrt42 ?hQt42 ?hyt42 ?hSt42 ?_
                        case hit42 => (simp only [List.getElem?_toArray, List.getElem?_cons_succ, List.getElem?_cons_zero]; rfl)
                        case hst42 => kernel_rfl
                        case hft42 => kernel_rfl
                        case hrt42 => kernel_rfl
                        case hQt42 => exact fun _ _ _ h => h
                        case hSt42 => assumption
                        case hyt42 =>
                          refine Or.inl ⟨by rfl, ?_⟩
                          intro w hSw
                          (try dsimp only at hSw)
                          go_simp
                          all_goals (with_reducible rfl)
                        (try simp only [Act.put, List.setIfInBounds_toArray, List.set_cons_zero, List.set_cons_succ])
                        refine' wpAnyH_take (i := 31) (oi := _) (v := _) ?hit43 ?hst43 ?hft43 ?hrt43 ?hQt43 ?hyt43 ?hSt43 ?_
                        case hit43 => (simp only [List.getElem?_toArray, List.getElem?_cons_succ, List.getElem?_cons_zero]; rfl)
                        case hst43 => kernel_rfl
                        case hft43 => kernel_rfl
                        case hrt43 => kernel_rfl
                        case hQt43 => exact fun _ _ _ h => h
                        case hSt43 => assumption
                        case hyt43 =>
                          refine Or.inl ⟨by rfl, ?_⟩
                          intro w hSw
                          (try dsimp only at hSw)
                          go_simp
                          all_goals (with_reducible rfl)
                        (try simp only [Act.put, List.setIfInBounds_toArray, List.set_cons_zero, List.set_cons_succ])
                        refine' wpAnyH_take (i := 32) (oi := _) (v := _) ?hit44 ?hst44 ?hft44 ?hrt44 ?hQt44 ?hyt44 ?hSt44 ?_
                        case hit44 => (simp only [List.getElem?_toArray, List.getElem?_cons_succ, List.getElem?_cons_zero]; rfl)
                        case hst44 => kernel_rfl
                        case hft44 => kernel_rfl
                        case hrt44 => kernel_rfl
                        case hQt44 => exact fun _ _ _ h => h
                        case hSt44 => assumption
                        case hyt44 =>
                          refine Or.inl ⟨by rfl, ?_⟩
                          intro w hSw
                          (try dsimp only at hSw)
                          go_simp
                          all_goals (with_reducible rfl)
                        (try simp only [Act.put, List.setIfInBounds_toArray, List.set_cons_zero, List.set_cons_succ])
                        refine' wpAnyH_take (i := 33) (oi := _) (v := .agg (limA va)) ?hit45 ?hst45 ?hft45 ?hrt45 ?hQt45 ?hyt45 ?hSt45 ?_
                        case hit45 => (simp only [List.getElem?_toArray, List.getElem?_cons_succ, List.getElem?_cons_zero]; rfl)
                        case hst45 => kernel_rfl
                        case hft45 => kernel_rfl
                        case hrt45 => kernel_rfl
                        case hQt45 => exact fun _ _ _ h => h
                        case hSt45 => assumption
                        case hyt45 =>
                          refine Or.inl ⟨by rfl, ?_⟩
                          intro W hS
                          exact quiet_load_row 28 (.tmp 7) _ rfl 28 (limA va) _ (eA.out.old hS) Tryd.underlying28 rfl oa.out.1 rfl
                        (try simp only [Act.put, List.setIfInBounds_toArray, List.set_cons_zero, List.set_cons_succ])
                        refine' wpAnyH_take (i := 34) (oi := _) (v := .agg (limA vb)) ?hit46 ?hst46 ?hft46 ?hrt46 ?hQt46 ?hyt46 ?hSt46 ?_
                        case hit46 => (simp only [List.getElem?_toArray, List.getElem?_cons_succ, List.getElem?_cons_zero]; rfl)
                        case hst46 => kernel_rfl
                        case hft46 => kernel_rfl
                        case hrt46 => kernel_rfl
                        case hQt46 => exact fun _ _ _ h => h
                        case hSt46 => assumption
                        case hyt46 =>
                          refine Or.inl ⟨by rfl, ?_⟩
                          intro W hS
                          exact quiet_load_row 28 (.tmp 10) _ rfl 28 (limA vb) _ (eB.out.old hS) Tryd.underlying28 rfl ob.out.1 rfl
                        (try simp only [Act.put, List.setIfInBounds_toArray, List.set_cons_zero, List.set_cons_succ])
                        refine' wpAnyH_take (i := 36) (oi := _) (v := .agg (limA vc)) ?hit47 ?hst47 ?hft47 ?hrt47 ?hQt47 ?hyt47 ?hSt47 ?_
                        case hit47 => (simp only [List.getElem?_toArray, List.getElem?_cons_succ, List.getElem?_cons_zero]; rfl)
                        case hst47 => kernel_rfl
                        case hft47 => kernel_rfl
                        case hrt47 => kernel_rfl
                        case hQt47 => exact fun _ _ _ h => h
                        case hSt47 => assumption
                        case hyt47 =>
                          refine Or.inl ⟨by rfl, ?_⟩
                          intro W hS
                          exact quiet_load_row 28 (.tmp 13) _ rfl 28 (limA vc) _ (eC.out.old hS) Tryd.underlying28 rfl oc.out.1 rfl
                        (try simp only [Act.put, List.setIfInBounds_toArray, List.set_cons_zero, List.set_cons_succ])
                        refine' wpAnyH_take (i := 38) (oi := _) (v := .agg (limA va)) ?hit48 ?hst48 ?hft48 ?hrt48 ?hQt48 ?hyt48 ?hSt48 ?_
                        case hit48 => (simp only [List.getElem?_toArray, List.getElem?_cons_succ, List.getElem?_cons_zero]; rfl)
                        case hst48 => kernel_rfl
                        case hft48 => kernel_rfl
                        case hrt48 => kernel_rfl
                        case hQt48 => exact fun _ _ _ h => h
                        case hSt48 => assumption
                        case hyt48 =>
                          refine Or.inl ⟨by rfl, ?_⟩
                          intro W hS
                          exact quiet_load_row 28 (.tmp 7) _ rfl 28 (limA va) _ (eA.out.old hS) Tryd.underlying28 rfl oa.out.1 rfl
                        (try simp only [Act.put, List.setIfInBounds_toArray, List.set_cons_zero, List.set_cons_succ])
                        refine' wpAnyH_take (i := 39) (oi := _) (v := .agg (limA vb)) ?hit49 ?hst49 ?hft49 ?hrt49 ?hQt49 ?hyt49 ?hSt49 ?_
                        case hit49 => (simp only [List.getElem?_toArray, List.getElem?_cons_succ, List.getElem?_cons_zero]; rfl)
                        case hst49 => kernel_rfl
                        case hft49 => kernel_rfl
                        case hrt49 => kernel_rfl
                        case hQt49 => exact fun _ _ _ h => h
                        case hSt49 => assumption
                        case hyt49 =>
                          refine Or.inl ⟨by rfl, ?_⟩
                          intro W hS
                          exact quiet_load_row 28 (.tmp 10) _ rfl 28 (limA vb) _ (eB.out.old hS) Tryd.underlying28 rfl ob.out.1 rfl
                        (try simp only [Act.put, List.setIfInBounds_toArray, List.set_cons_zero, List.set_cons_succ])
                        refine' wpAnyH_take (i := 40) (oi := _) (v := .agg (limA vc)) ?hit50 ?hst50 ?hft50 ?hrt50 ?hQt50 ?hyt50 ?hSt50 ?_
                        case hit50 => (simp only [List.getElem?_toArray, List.getElem?_cons_succ, List.getElem?_cons_zero]; rfl)
                        case hst50 => kernel_rfl
                        case hft50 => kernel_rfl
                        case hrt50 => kernel_rfl
                        case hQt50 => exact fun _ _ _ h => h
                        case hSt50 => assumption
                        case hyt50 =>
                          refine Or.inl ⟨by rfl, ?_⟩
                          intro W hS
                          exact quiet_load_row 28 (.tmp 13) _ rfl 28 (limA vc) _ (eC.out.old hS) Tryd.underlying28 rfl oc.out.1 rfl
                        (try simp only [Act.put, List.setIfInBounds_toArray, List.set_cons_zero, List.set_cons_succ])
                        refine wpAnyH_ready (rs := [35]) (by kernel_rfl) (by simp) ?_
                        refine' (AllReadyH.cons (o := _) ?hir51_35 (fun K hK => ?br51_35) AllReadyH.nil)
                        case hir51_35 => (simp only [List.getElem?_toArray, List.getElem?_cons_succ, List.getElem?_cons_zero]; rfl)
                        case br51_35 =>
                          go_simp
                          refine (C82.out _ (HPW.out.old H41.out)).mono ?_
                          rintro e w52 ⟨rfl, hb52⟩
                          have H52 := Lib.hid (H41.out.trans (hb52.mono H41.out.size))
                          clear hb52
                          go_wp2_with fail
                          refine hK.out _ _ ?_ (fun hHeld => ?_)
                          exact H52.out
                          clear hK K
                          (try simp only [Act.put, List.setIfInBounds_toArray, List.set_cons_zero, List.set_cons_succ])
                          refine wpAnyH_ready (rs := [37]) (by kernel_rfl) (by simp) ?_
                          refine' (AllReadyH.cons (o := _) ?hir53_37 (fun K hK => ?br53_37) AllReadyH.nil)
                          case hir53_37 => (simp only [List.getElem?_toArray, List.getElem?_cons_succ, List.getElem?_cons_zero]; rfl)
                          case br53_37 =>
                            go_simp
                            refine (C84.out _ (HPW.out.old H52.out)).mono ?_
                            rintro e w54 ⟨rfl, hb54⟩
                            have H54 := Lib.hid (H52.out.trans (hb54.mono H52.out.size))
                            clear hb54
                            go_wp2_with fail
                            refine hK.out _ _ ?_ (fun hHeld => ?_)
                            exact H54.out
                            clear hK K
                            (try simp only [Act.put, List.setIfInBounds_toArray, List.set_cons_zero, List.set_cons_succ])
                            refine wpAnyH_ready (rs := [41]) (by kernel_rfl) (by simp) ?_
                            refine' (AllReadyH.cons (o := _) ?hir55_41 (fun K hK => ?br55_41) AllReadyH.nil)
                            case hir55_41 => (simp only [List.getElem?_toArray, List.getElem?_cons_succ, List.getElem?_cons_zero]; rfl)
                            case br55_41 =>
                              go_simp
                              refine (C88.out _ (HPW.out.old H54.out)).mono ?_
                              rintro e w56 ⟨rfl, hb56⟩
                              have H56 := Lib.hid (H54.out.trans (hb56.mono H54.out.size))
                              clear hb56
                              go_wp2_with fail
                              refine hK.out _ _ ?_ (fun hHeld => ?_)
                              exact H56.out
                              clear hK K
                              (try simp only [Act.put, List.setIfInBounds_toArray, List.set_cons_zero, List.set_cons_succ])
                              refine wpAnyH_ready (rs := [42]) (by kernel_rfl) (by simp) ?_
                              refine' (AllReadyH.cons (o := _) ?hir57_42 (fun K hK => ?br57_42) AllReadyH.nil)
                              case hir57_42 => (simp only [List.getElem?_toArray, List.getElem?_cons_succ, List.getElem?_cons_zero]; rfl)
                              case br57_42 =>
                                go_simp
                                refine (C89.out _ (HPW.out.old H56.out)).mono ?_
                                rintro e w58 ⟨rfl, hb58⟩
                                have H58 := Lib.hid (H56.out.trans (hb58.mono H56.out.size))
                                clear hb58
                                go_wp2_with fail
                                refine hK.out _ _ ?_ (fun hHeld => ?_)
                                exact H58.out
                                clear hK K
                                (try simp only [Act.put, List.setIfInBounds_toArray, List.set_cons_zero, List.set_cons_succ])
                                refine wpAnyH_ready (rs := [43]) (by kernel_rfl) (by simp) ?_
                                refine' (AllReadyH.cons (o := _) ?hir59_43 (fun K hK => ?br59_43) AllReadyH.nil)
                                case hir59_43 => (simp only [List.getElem?_toArray, List.getElem?_cons_succ, List.getElem?_cons_zero]; rfl)
                                case br59_43 =>
                                  go_simp
                                  refine (C90.out _).mono ?_
                                  rintro e w60 ⟨rfl, hb60⟩
                                  have H60 := Lib.hid (H58.out.trans (hb60.mono H58.out.size))
                                  clear hb60
                                  go_wp2_with fail
                                  refine hK.out _ _ ?_ (fun hHeld => ?_)
                                  exact H60.out
                                  clear hK K
                                  (try simp only [Act.put, List.setIfInBounds_toArray, List.set_cons_zero, List.set_cons_succ])
                                  refine' wpAnyH_take (i := 44) (oi := _) (v := _) ?hit61 ?hst61 ?hft61 ?hrt61 ?hQt61 ?hyt61 ?hSt61 ?_
                                  case hit61 => (simp only [List.getElem?_toArray, List.getElem?_cons_succ, List.getElem?_cons_zero]; rfl)
                                  case hst61 => kernel_rfl
                                  case hft61 => kernel_rfl
                                  case hrt61 => kernel_rfl
                                  case hQt61 => exact fun _ _ _ h => h
                                  case hSt61 => assumption
                                  case hyt61 =>
                                    refine Or.inl ⟨by rfl, ?_⟩
                                    intro w hSw
                                    (try dsimp only at hSw)
                                    go_simp
                                    all_goals (with_reducible rfl)
                                  (try simp only [Act.put, List.setIfInBounds_toArray, List.set_cons_zero, List.set_cons_succ])
                                  refine' wpAnyH_take (i := 45) (oi := _) (v := _) ?hit62 ?hst62 ?hft62 ?hrt62 ?hQt62 ?hyt62 ?hSt62 ?_
                                  case hit62 => (simp only [List.getElem?_toArray, List.getElem?_cons_succ, List.getElem?_cons_zero]; rfl)
                                  case hst62 => kernel_rfl
                                  case hft62 => kernel_rfl
                                  case hrt62 => kernel_rfl
                                  case hQt62 => exact fun _ _ _ h => h
                                  case hSt62 => assumption
                                  case hyt62 =>
                                    refine Or.inl ⟨by rfl, ?_⟩
                                    intro w hSw
                                    (try dsimp only at hSw)
                                    go_simp
                                    all_goals (with_reducible rfl)
                                  (try simp only [Act.put, List.setIfInBounds_toArray, List.set_cons_zero, List.set_cons_succ])
                                  refine' wpAnyH_take (i := 46) (oi := _) (v := _) ?hit63 ?hst63 ?hft63 ?hrt63 ?hQt63 ?hyt63 ?hSt63 ?_
                                  case hit63 => (simp only [List.getElem?_toArray, List.getElem?_cons_succ, List.getElem?_cons_zero]; rfl)
                                  case hst63 => kernel_rfl
                                  case hft63 => kernel_rfl
                                  case hrt63 => kernel_rfl
                                  case hQt63 => exact fun _ _ _ h => h
                                  case hSt63 => assumption
                                  case hyt63 =>
                                    refine Or.inl ⟨by rfl, ?_⟩
                                    intro w hSw
                                    (try dsimp only at hSw)
                                    go_simp
                                    all_goals (with_reducible rfl)
                                  (try simp only [Act.put, List.setIfInBounds_toArray, List.set_cons_zero, List.set_cons_succ])
                                  refine' wpAnyH_take (i := 47) (oi := _) (v := .agg (limA va)) ?hit64 ?hst64 ?hft64 ?hrt64 ?hQt64 ?hyt64 ?hSt64 ?_
                                  case hit64 => (simp only [List.getElem?_toArray, List.getElem?_cons_succ, List.getElem?_cons_zero]; rfl)
                                  case hst64 => kernel_rfl
                                  case hft64 => kernel_rfl
                                  case hrt64 => kernel_rfl
                                  case hQt64 => exact fun _ _ _ h => h
                                  case hSt64 => assumption
                                  case hyt64 =>
                                    refine Or.inl ⟨by rfl, ?_⟩
                                    intro W hS
                                    exact quiet_load_row 28 (.tmp 7) _ rfl 28 (limA va) _ (eA.out.old hS) Tryd.underlying28 rfl oa.out.1 rfl
                                  (try simp only [Act.put, List.setIfInBounds_toArray, List.set_cons_zero, List.set_cons_succ])
                                  refine' wpAnyH_take (i := 48) (oi := _) (v := .agg (limA vb)) ?hit65 ?hst65 ?hft65 ?hrt65 ?hQt65 ?hyt65 ?hSt65 ?_
                                  case hit65 => (simp only [List.getElem?_toArray, List.getElem?_cons_succ, List.getElem?_cons_zero]; rfl)
                                  case hst65 => kernel_rfl
                                  case hft65 => kernel_rfl
                                  case hrt65 => kernel_rfl
                                  case hQt65 => exact fun _ _ _ h => h
                                  case hSt65 => assumption
                                  case hyt65 =>
                                    refine Or.inl ⟨by rfl, ?_⟩
                                    intro W hS
                                    exact quiet_load_row 28 (.tmp 10) _ rfl 28 (limA vb) _ (eB.out.old hS) Tryd.underlying28 rfl ob.out.1 rfl
                                  (try simp only [Act.put, List.setIfInBounds_toArray, List.set_cons_zero, List.set_cons_succ])
                                  refine' wpAnyH_take (i := 49) (oi := _) (v := .agg (limA vc)) ?hit66 ?hst66 ?hft66 ?hrt66 ?hQt66 ?hyt66 ?hSt66 ?_
                                  case hit66 => (simp only [List.getElem?_toArray, List.getElem?_cons_succ, List.getElem?_cons_zero]; rfl)
                                  case hst66 => kernel_rfl
                                  case hft66 => kernel_rfl
                                  case hrt66 => kernel_rfl
                                  case hQt66 => exact fun _ _ _ h => h
                                  case hSt66 => assumption
                                  case hyt66 =>
                                    refine Or.inl ⟨by rfl, ?_⟩
                                    intro W hS
                                    exact quiet_load_row 28 (.tmp 13) _ rfl 28 (limA vc) _ (eC.out.old hS) Tryd.underlying28 rfl oc.out.1 rfl
                                  (try simp only [Act.put, List.setIfInBounds_toArray, List.set_cons_zero, List.set_cons_succ])
                                  refine' wpAnyH_take (i := 52) (oi := _) (v := .agg (limA va)) ?hit67 ?hst67 ?hft67 ?hrt67 ?hQt67 ?hyt67 ?hSt67 ?_
                                  case hit67 => (simp only [List.getElem?_toArray, List.getElem?_cons_succ, List.getElem?_cons_zero]; rfl)
                                  case hst67 => kernel_rfl
                                  case hft67 => kernel_rfl
                                  case hrt67 => kernel_rfl
                                  case hQt67 => exact fun _ _ _ h => h
                                  case hSt67 => assumption
                                  case hyt67 =>
                                    refine Or.inl ⟨by rfl, ?_⟩
                                    intro W hS
                                    exact quiet_load_row 28 (.tmp 7) _ rfl 28 (limA va) _ (eA.out.old hS) Tryd.underlying28 rfl oa.out.1 rfl
                                  (try simp only [Act.put, List.setIfInBounds_toArray, List.set_cons_zero, List.set_cons_succ])
                                  refine' wpAnyH_take (i := 53) (oi := _) (v := .agg (limA vb)) ?hit68 ?hst68 ?hft68 ?hrt68 ?hQt68 ?hyt68 ?hSt68 ?_
                                  case hit68 => (simp only [List.getElem?_toArray, List.getElem?_cons_succ, List.getElem?_cons_zero]; rfl)
                                  case hst68 => kernel_rfl
                                  case hft68 => kernel_rfl
                                  case hrt68 => kernel_rfl
                                  case hQt68 => exact fun _ _ _ h => h
                                  case hSt68 => assumption
                                  case hyt68 =>
                                    refine Or.inl ⟨by rfl, ?_⟩
                                    intro W hS
                                    exact quiet_load_row 28 (.tmp 10) _ rfl 28 (limA vb) _ (eB.out.old hS) Tryd.underlying28 rfl ob.out.1 rfl
                                  (try simp only [Act.put, List.setIfInBounds_toArray, List.set_cons_zero, List.set_cons_succ])
                                  refine' wpAnyH_take (i := 55) (oi := _) (v := .agg (limA va)) ?hit69 ?hst69 ?hft69 ?hrt69 ?hQt69 ?hyt69 ?hSt69 ?_
                                  case hit69 => (simp only [List.getElem?_toArray, List.getElem?_cons_succ, List.getElem?_cons_zero]; rfl)
                                  case hst69 => kernel_rfl
                                  case hft69 => kernel_rfl
                                  case hrt69 => kernel_rfl
                                  case hQt69 => exact fun _ _ _ h => h
                                  case hSt69 => assumption
                                  case hyt69 =>
                                    refine Or.inl ⟨by rfl, ?_⟩
                                    intro W hS
                                    exact quiet_load_row 28 (.tmp 7) _ rfl 28 (limA va) _ (eA.out.old hS) Tryd.underlying28 rfl oa.out.1 rfl
                                  (try simp only [Act.put, List.setIfInBounds_toArray, List.set_cons_zero, List.set_cons_succ])
                                  refine' wpAnyH_take (i := 56) (oi := _) (v := .agg (limA vc)) ?hit70 ?hst70 ?hft70 ?hrt70 ?hQt70 ?hyt70 ?hSt70 ?_
                                  case hit70 => (simp only [List.getElem?_toArray, List.getElem?_cons_succ, List.getElem?_cons_zero]; rfl)
                                  case hst70 => kernel_rfl
                                  case hft70 => kernel_rfl
                                  case hrt70 => kernel_rfl
                                  case hQt70 => exact fun _ _ _ h => h
                                  case hSt70 => assumption
                                  case hyt70 =>
                                    refine Or.inl ⟨by rfl, ?_⟩
                                    intro W hS
                                    exact quiet_load_row 28 (.tmp 13) _ rfl 28 (limA vc) _ (eC.out.old hS) Tryd.underlying28 rfl oc.out.1 rfl
                                  (try simp only [Act.put, List.setIfInBounds_toArray, List.set_cons_zero, List.set_cons_succ])
                                  refine wpAnyH_ready (rs := [50]) (by kernel_rfl) (by simp) ?_
                                  refine' (AllReadyH.cons (o := _) ?hir71_50 (fun K hK => ?br71_50) AllReadyH.nil)
                                  case hir71_50 => (simp only [List.getElem?_toArray, List.getElem?_cons_succ, List.getElem?_cons_zero]; rfl)
                                  case br71_50 =>
                                    go_simp
                                    refine (C97.out _ (HPW.out.old H60.out)).mono ?_
                                    rintro e w72 ⟨rfl, hb72⟩
                                    have H72 := Lib.hid (H60.out.trans (hb72.mono H60.out.size))
                                    clear hb72
                                    go_wp2_with fail
                                    refine hK.out _ _ ?_ (fun hHeld => ?_)
                                    exact H72.out
                                    clear hK K
                                    (try simp only [Act.put, List.setIfInBounds_toArray, List.set_cons_zero, List.set_cons_succ])
                                    refine wpAnyH_ready (rs := [51]) (by kernel_rfl) (by simp) ?_
                                    refine' (AllReadyH.cons (o := _) ?hir73_51 (fun K hK => ?br73_51) AllReadyH.nil)
                                    case hir73_51 => (simp only [List.getElem?_toArray, List.getElem?_cons_succ, List.getElem?_cons_zero]; rfl)
                                    case br73_51 =>
                                      go_simp
                                      refine (C98.out _ (HPW.out.old H72.out)).mono ?_
                                      rintro e w74 ⟨rfl, hb74⟩
                                      have H74 := Lib.hid (H72.out.trans (hb74.mono H72.out.size))
                                      clear hb74
                                      go_wp2_with fail
                                      refine hK.out _ _ ?_ (fun hHeld => ?_)
                                      exact H74.out
                                      clear hK K
                                      (try simp only [Act.put, List.setIfInBounds_toArray, List.set_cons_zero, List.set_cons_succ])
                                      refine wpAnyH_ready (rs := [54]) (by kernel_rfl) (by simp) ?_
                                      refine' (AllReadyH.cons (o := _) ?hir75_54 (fun K hK => ?br75_54) AllReadyH.nil)
                                      case hir75_54 => (simp only [List.getElem?_toArray, List.getElem?_cons_succ, List.getElem?_cons_zero]; rfl)
                                      case br75_54 =>
                                        go_simp
                                        refine (C101.out _ (HPW.out.old H74.out)).mono ?_
                                        rintro e w76 ⟨rfl, hb76⟩
                                        have H76 := Lib.hid (H74.out.trans (hb76.mono H74.out.size))
                                        clear hb76
                                        go_wp2_with fail
                                        refine hK.out _ _ ?_ (fun hHeld => ?_)
                                        exact H76.out
                                        clear hK K
                                        (try simp only [Act.put, List.setIfInBounds_toArray, List.set_cons_zero, List.set_cons_succ])
                                        refine wpAnyH_ready (rs := [57]) (by kernel_rfl) (by simp) ?_
                                        refine' (AllReadyH.cons (o := _) ?hir77_57 (fun K hK => ?br77_57) AllReadyH.nil)
                                        case hir77_57 => (simp only [List.getElem?_toArray, List.getElem?_cons_succ, List.getElem?_cons_zero]; rfl)
                                        case br77_57 =>
                                          go_simp
                                          refine (C104.out _ (HPW.out.old H76.out)).mono ?_
                                          rintro e w78 ⟨rfl, hb78⟩
                                          have H78 := Lib.hid (H76.out.trans (hb78.mono H76.out.size))
                                          clear hb78
                                          go_wp2_with fail
                                          refine hK.out _ _ ?_ (fun hHeld => ?_)
                                          exact H78.out
                                          clear hK K
                                          (try simp only [Act.put, List.setIfInBounds_toArray, List.set_cons_zero, List.set_cons_succ])
                                          refine wpAnyH_ready (rs := [58]) (by kernel_rfl) (by simp) ?_
                                          refine' (AllReadyH.cons (o := _) ?hir79_58 (fun K hK => ?br79_58) AllReadyH.nil)
                                          case hir79_58 => (simp only [List.getElem?_toArray, List.getElem?_cons_succ, List.getElem?_cons_zero]; rfl)
                                          case br79_58 =>
                                            go_simp
                                            refine (C105.out _ (HPW.out.old H78.out)).mono ?_
                                            rintro e w80 ⟨rfl, hb80⟩
                                            have H80 := Lib.hid (H78.out.trans (hb80.mono H78.out.size))
                                            clear hb80
                                            go_wp2_with fail
                                            refine hK.out _ _ ?_ (fun hHeld => ?_)
                                            exact H80.out
                                            clear hK K
                                            (try simp only [Act.put, List.setIfInBounds_toArray, List.set_cons_zero, List.set_cons_succ])
                                            refine wpAnyH_ready (rs := [59]) (by kernel_rfl) (by simp) ?_
                                            refine' (AllReadyH.cons (o := _) ?hir81_59 (fun K hK => ?br81_59) AllReadyH.nil)
                                            case hir81_59 => (simp only [List.getElem?_toArray, List.getElem?_cons_succ, List.getElem?_cons_zero]; rfl)
                                            case br81_59 =>
                                              go_simp
                                              refine (C106.out _).mono ?_
                                              rintro e w82 ⟨rfl, hb82⟩
                                              have H82 := Lib.hid (H80.out.trans (hb82.mono H80.out.size))
                                              clear hb82
                                              go_wp2_with fail
                                              refine hK.out _ _ ?_ (fun hHeld => ?_)
                                              exact H82.out
                                              clear hK K
                                              (try simp only [Act.put, List.setIfInBounds_toArray, List.set_cons_zero, List.set_cons_succ])
                                              refine' wpAnyH_take (i := 60) (oi := _) (v := _) ?hit83 ?hst83 ?hft83 ?hrt83 ?hQt83 ?hyt83 ?hSt83 ?_
                                              case hit83 => (simp only [List.getElem?_toArray, List.getElem?_cons_succ, List.getElem?_cons_zero]; rfl)
                                              case hst83 => kernel_rfl
                                              case hft83 => kernel_rfl
                                              case hrt83 => kernel_rfl
                                              case hQt83 => exact fun _ _ _ h => h
                                              case hSt83 => assumption
                                              case hyt83 =>
                                                refine Or.inl ⟨by rfl, ?_⟩
                                                intro w hSw
                                                (try dsimp only at hSw)
                                                go_simp
                                                all_goals (with_reducible rfl)
                                              (try simp only [Act.put, List.setIfInBounds_toArray, List.set_cons_zero, List.set_cons_succ])
                                              refine' wpAnyH_take (i := 61) (oi := _) (v := _) ?hit84 ?hst84 ?hft84 ?hrt84 ?hQt84 ?hyt84 ?hSt84 ?_
                                              case hit84 => (simp only [List.getElem?_toArray, List.getElem?_cons_succ, List.getElem?_cons_zero]; rfl)
                                              case hst84 => kernel_rfl
                                              case hft84 => kernel_rfl
                                              case hrt84 => kernel_rfl
                                              case hQt84 => exact fun _ _ _ h => h
                                              case hSt84 => assumption
                                              case hyt84 =>
                                                refine Or.inl ⟨by rfl, ?_⟩
                                                intro w hSw
                                                (try dsimp only at hSw)
                                                go_simp
                                                all_goals (with_reducible rfl)
                                              (try simp only [Act.put, List.setIfInBounds_toArray, List.set_cons_zero, List.set_cons_succ])
                                              refine' wpAnyH_take (i := 62) (oi := _) (v := _) ?hit85 ?hst85 ?hft85 ?hrt85 ?hQt85 ?hyt85 ?hSt85 ?_
                                              case hit85 => (simp only [List.getElem?_toArray, List.getElem?_cons_succ, List.getElem?_cons_zero]; rfl)
                                              case hst85 => kernel_rfl
                                              case hft85 => kernel_rfl
                                              case hrt85 => kernel_rfl
                                              case hQt85 => exact fun _ _ _ h => h
                                              case hSt85 => assumption
                                              case hyt85 =>
                                                refine Or.inl ⟨by rfl, ?_⟩
                                                intro w hSw
                                                (try dsimp only at hSw)
                                                go_simp
                                                all_goals (with_reducible rfl)
                                              (try simp only [Act.put, List.setIfInBounds_toArray, List.set_cons_zero, List.set_cons_succ])
                                              refine' wpAnyH_take (i := 63) (oi := _) (v := .agg (limA va)) ?hit86 ?hst86 ?hft86 ?hrt86 ?hQt86 ?hyt86 ?hSt86 ?_
                                              case hit86 => (simp only [List.getElem?_toArray, List.getElem?_cons_succ, List.getElem?_cons_zero]; rfl)
                                              case hst86 => kernel_rfl
                                              case hft86 => kernel_rfl
                                              case hrt86 => kernel_rfl
                                              case hQt86 => exact fun _ _ _ h => h
                                              case hSt86 => assumption
                                              case hyt86 =>
                                                refine Or.inl ⟨by rfl, ?_⟩
                                                intro W hS
                                                exact quiet_load_row 28 (.tmp 7) _ rfl 28 (limA va) _ (eA.out.old hS) Tryd.underlying28 rfl oa.out.1 rfl
                                              (try simp only [Act.put, List.setIfInBounds_toArray, List.set_cons_zero, List.set_cons_succ])
                                              refine' wpAnyH_take (i := 64) (oi := _) (v := .agg (limA vb)) ?hit87 ?hst87 ?hft87 ?hrt87 ?hQt87 ?hyt87 ?hSt87 ?_
                                              case hit87 => (simp only [List.getElem?_toArray, List.getElem?_cons_succ, List.getElem?_cons_zero]; rfl)
                                              case hst87 => kernel_rfl
                                              case hft87 => kernel_rfl
                                              case hrt87 => kernel_rfl
                                              case hQt87 => exact fun _ _ _ h => h
                                              case hSt87 => assumption
                                              case hyt87 =>
                                                refine Or.inl ⟨by rfl, ?_⟩
                                                intro W hS
                                                exact quiet_load_row 28 (.tmp 10) _ rfl 28 (limA vb) _ (eB.out.old hS) Tryd.underlying28 rfl ob.out.1 rfl
                                              (try simp only [Act.put, List.setIfInBounds_toArray, List.set_cons_zero, List.set_cons_succ])
                                              refine' wpAnyH_take (i := 66) (oi := _) (v := .agg (limA vb)) ?hit88 ?hst88 ?hft88 ?hrt88 ?hQt88 ?hyt88 ?hSt88 ?_
                                              case hit88 => (simp only [List.getElem?_toArray, List.getElem?_cons_succ, List.getElem?_cons_zero]; rfl)
                                              case hst88 => kernel_rfl
                                              case hft88 => kernel_rfl
                                              case hrt88 => kernel_rfl
                                              case hQt88 => exact fun _ _ _ h => h
                                              case hSt88 => assumption
                                              case hyt88 =>
                                                refine Or.inl ⟨by rfl, ?_⟩
                                                intro W hS
                                                exact quiet_load_row 28 (.tmp 10) _ rfl 28 (limA vb) _ (eB.out.old hS) Tryd.underlying28 rfl ob.out.1 rfl
                                              (try simp only [Act.put, List.setIfInBounds_toArray, List.set_cons_zero, List.set_cons_succ])
                                              refine' wpAnyH_take (i := 68) (oi := _) (v := .agg (limA va)) ?hit89 ?hst89 ?hft89 ?hrt89 ?hQt89 ?hyt89 ?hSt89 ?_
                                              case hit89 => (simp only [List.getElem?_toArray, List.getElem?_cons_succ, List.getElem?_cons_zero]; rfl)
                                              case hst89 => kernel_rfl
                                              case hft89 => kernel_rfl
                                              case hrt89 => kernel_rfl
                                              case hQt89 => exact fun _ _ _ h => h
                                              case hSt89 => assumption
                                              case hyt89 =>
                                                refine Or.inl ⟨by rfl, ?_⟩
                                                intro W hS
                                                exact quiet_load_row 28 (.tmp 7) _ rfl 28 (limA va) _ (eA.out.old hS) Tryd.underlying28 rfl oa.out.1 rfl
                                              (try simp only [Act.put, List.setIfInBounds_toArray, List.set_cons_zero, List.set_cons_succ])
                                              refine wpAnyH_ready (rs := [65]) (by kernel_rfl) (by simp) ?_
                                              refine' (AllReadyH.cons (o := _) ?hir90_65 (fun K hK => ?br90_65) AllReadyH.nil)
                                              case hir90_65 => (simp only [List.getElem?_toArray, List.getElem?_cons_succ, List.getElem?_cons_zero]; rfl)
                                              case br90_65 =>
                                                go_simp
                                                refine (C112.out _ (HPW.out.old H82.out)).mono ?_
                                                rintro e w91 ⟨rfl, hb91⟩
                                                have H91 := Lib.hid (H82.out.trans (hb91.mono H82.out.size))
                                                clear hb91
                                                go_wp2_with fail
                                                refine hK.out _ _ ?_ (fun hHeld => ?_)
                                                exact H91.out
                                                clear hK K
                                                (try simp only [Act.put, List.setIfInBounds_toArray, List.set_cons_zero, List.set_cons_succ])
                                                refine wpAnyH_ready (rs := [67]) (by kernel_rfl) (by simp) ?_
                                                refine' (AllReadyH.cons (o := _) ?hir92_67 (fun K hK => ?br92_67) AllReadyH.nil)
                                                case hir92_67 => (simp only [List.getElem?_toArray, List.getElem?_cons_succ, List.getElem?_cons_zero]; rfl)
                                                case br92_67 =>
                                                  go_simp
                                                  refine (C114.out _ (HPW.out.old H91.out)).mono ?_
                                                  rintro e w93 ⟨rfl, hb93⟩
                                                  have H93 := Lib.hid (H91.out.trans (hb93.mono H91.out.size))
                                                  clear hb93
                                                  go_wp2_with fail
                                                  refine hK.out _ _ ?_ (fun hHeld => ?_)
                                                  exact H93.out
                                                  clear hK K
                                                  (try simp only [Act.put, List.setIfInBounds_toArray, List.set_cons_zero, List.set_cons_succ])
                                                  refine wpAnyH_ready (rs := [69]) (by kernel_rfl) (by simp) ?_
                                                  refine' (AllReadyH.cons (o := _) ?hir94_69 (fun K hK => ?br94_69) AllReadyH.nil)
                                                  case hir94_69 => (simp only [List.getElem?_toArray, List.getElem?_cons_succ, List.getElem?_cons_zero]; rfl)
                                                  case br94_69 =>
                                                    go_simp
                                                    refine (C116.out _).mono ?_
                                                    rintro e w95 ⟨rfl, hb95⟩
                                                    have H95 := Lib.hid (H93.out.trans (hb95.mono H93.out.size))
                                                    clear hb95
                                                    go_wp2_with fail
                                                    refine hK.out _ _ ?_ (fun hHeld => ?_)
                                                    exact H95.out
                                                    clear hK K
                                                    (try simp only [Act.put, List.setIfInBounds_toArray, List.set_cons_zero, List.set_cons_succ])
                                                    refine' wpAnyH_take (i := 70) (oi := _) (v := _) ?hit96 ?hst96 ?hft96 ?hrt96 ?hQt96 ?hyt96 ?hSt96 ?_
                                                    case hit96 => (simp only [List.getElem?_toArray, List.getElem?_cons_succ, List.getElem?_cons_zero]; rfl)
                                                    case hst96 => kernel_rfl
                                                    case hft96 => kernel_rfl
                                                    case hrt96 => kernel_rfl
                                                    case hQt96 => exact fun _ _ _ h => h
                                                    case hSt96 => assumption
                                                    case hyt96 =>
                                                      refine Or.inl ⟨by rfl, ?_⟩
                                                      intro w hSw
                                                      (try dsimp only at hSw)
                                                      go_simp
                                                      all_goals (with_reducible rfl)
                                                    (try simp only [Act.put, List.setIfInBounds_toArray, List.set_cons_zero, List.set_cons_succ])
                                                    refine' wpAnyH_take (i := 71) (oi := _) (v := _) ?hit97 ?hst97 ?hft97 ?hrt97 ?hQt97 ?hyt97 ?hSt97 ?_
                                                    case hit97 => (simp only [List.getElem?_toArray, List.getElem?_cons_succ, List.getElem?_cons_zero]; rfl)
                                                    case hst97 => kernel_rfl
                                                    case hft97 => kernel_rfl
                                                    case hrt97 => kernel_rfl
                                                    case hQt97 => exact fun _ _ _ h => h
                                                    case hSt97 => assumption
                                                    case hyt97 =>
                                                      refine Or.inl ⟨by rfl, ?_⟩
                                                      intro w hSw
                                                      (try dsimp only at hSw)
                                                      go_simp
                                                      all_goals (with_reducible rfl)
                                                    (try simp only [Act.put, List.setIfInBounds_toArray, List.set_cons_zero, List.set_cons_succ])
                                                    refine wpAnyH_done (by kernel_rfl) ?_ _
                                                    have FA := Lib.hid (eA.out.old H95.out)
                                                    have FP := Lib.hid (HPW.out.old H95.out)
                                                    have FT := Lib.hid (HTW.out.old H95.out)
                                                    have FB := Lib.hid (HB.out.trans (H95.out.mono HB.out.size))
                                                    clear hHeld
                                                    obtain ⟨hh, hor⟩ := root_of_sq HVA.out
                                                    have hdh : decide (hasRoot (va * va % P)) = true := by simpa using hh
                                                    obtain ⟨s, hs⟩ := named (va * va % P)
                                                    obtain ⟨r, hr⟩ := named (root (va * va % P))
                                                    rw [← hr.out] at hor
                                                    have hrl : r < P := by rw [hr.out]; exact root_lt _
                                                    have CM : Hid (∀ V, PrimeAt V → Calls Tryd.prog 21 #[.agg (limA va), .agg (limA va)] V fun e w' => e = .returned (.agg (limA s)) ∧ Below V.heap.size V w') := Lib.hid fun V hV => by
                                                      rw [hs.out]; exact mul_e va va HVA.out HVA.out V hV
                                                    have CR : Hid (∀ V, PrimeAt V → TurnAt V → Calls Tryd.prog 24 #[.agg (limA s)] V fun e w' => e = .returned (.tuple #[.agg (limA r), .bool true]) ∧ Below V.heap.size V w') := Lib.hid fun V hV hT => by
                                                      have := root_e (va * va % P) V (Nat.mod_lt _ P_pos) hV hT
                                                      rw [hdh, ← hr.out, ← hs.out] at this
                                                      exact this
                                                    obtain ⟨bq, hbq⟩ : ∃ b, Hid (b = decide (r = va)) := ⟨_, Lib.hid rfl⟩
                                                    have CS : Hid (∀ V, Calls Tryd.prog 13 #[.agg (limA r), .agg (limA va)] V fun e w' => e = .returned (.bool bq) ∧ Below V.heap.size V w') := Lib.hid fun V => by
                                                      rw [hbq.out]; exact same_e r va hrl HVA.out V
                                                    have CA : Hid (bq = false → ∀ V, PrimeAt V → Calls Tryd.prog 17 #[.agg (limA r), .agg (limA va)] V fun e w' => e = .returned (.agg (limA 0)) ∧ Below V.heap.size V w') := Lib.hid fun hq V hV => by
                                                      have h0 : (r + va) % P = 0 := hor.resolve_left (by have := hbq.out; rw [hq] at this; simpa using this.symm)
                                                      have := add_e r va hrl HVA.out V hV
                                                      rwa [h0] at this
                                                    have hor2 := Lib.hid hor
                                                    have hrl2 := Lib.hid hrl
                                                    have or := Lib.hid (limA_ok r)
                                                    clear hh hor hdh hrl
                                                    go_upto_region 9 with (first | (refine wpList_load_row rfl 28 (.tmp 7) rfl g7 rfl 28 (limA va) (0, 0) _ FA.out Tryd.underlying28 rfl oa.out.1 ?_))
                                                    refine (CM.out _ FP.out).mono ?_
                                                    rintro e w4 ⟨rfl, hbb⟩
                                                    have FA := Lib.hid (FA.out.old hbb)
                                                    have FP := Lib.hid (FP.out.old hbb)
                                                    have FT := Lib.hid (FT.out.old hbb)
                                                    have FB := Lib.hid (FB.out.trans (hbb.mono FB.out.size))
                                                    clear hbb
                                                    go_upto_region 9 with fail
                                                    refine (CR.out _ FP.out FT.out).mono ?_
                                                    rintro e w5 ⟨rfl, hbb⟩
                                                    have FA := Lib.hid ((FA.out.old hbb).alloc (.cells (limA r) 28))
                                                    have FP := Lib.hid ((FP.out.old hbb).old ((Below.refl _ _).alloc (Nat.le_refl _) (.cells (limA r) 28)))
                                                    have FB := Lib.hid ((FB.out.trans (hbb.mono FB.out.size)).alloc (FB.out.trans (hbb.mono FB.out.size)).size (.cells (limA r) 28))
                                                    have FR := Lib.hid (Blk.new w5 28 (limA r))
                                                    clear hbb
                                                    go_upto_region 9 with (first | (refine wpList_store_row rfl 28 (.tmp 16) (.tmp 124) rfl w5.heap.size (limA r) rfl rfl 28 _ (heap_alloc_new w5 _) or.out.1 or.out.2.2 or.out.2.1 ?_; rw [setRow_alloc1]))
                                                    generalize w5.alloc (.cells (limA r) 28) = W5 at *
                                                    generalize w5.heap.size = g16 at *
                                                    go_wp2_with (first | (refine wpList_load_lim (by rfl) 28 (.tmp 16) rfl g16 rfl 28 (limA r) _ FR.out Tryd.underlying28 rfl or.out.1 ?_) |
                                                      (refine wpList_load_lim (by rfl) 28 (.tmp 7) rfl g7 rfl 28 (limA va) _ FA.out Tryd.underlying28 rfl oa.out.1 ?_))
                                                    refine (CS.out _).mono ?_
                                                    rintro e w6 ⟨rfl, hbb⟩
                                                    have FA := Lib.hid (FA.out.old hbb)
                                                    have FR := Lib.hid (FR.out.old hbb)
                                                    have FP := Lib.hid (FP.out.old hbb)
                                                    have FB := Lib.hid (FB.out.trans (hbb.mono FB.out.size))
                                                    clear hbb
                                                    cases hq : bq
                                                    · have CA2 := Lib.hid (CA.out hq)
                                                      clear hq
                                                      go_wp2_with (first | (refine wpList_load_lim (by rfl) 28 (.tmp 16) rfl g16 rfl 28 (limA r) _ FR.out Tryd.underlying28 rfl or.out.1 ?_) |
                                                        (refine wpList_load_lim (by rfl) 28 (.tmp 7) rfl g7 rfl 28 (limA va) _ FA.out Tryd.underlying28 rfl oa.out.1 ?_))
                                                      refine (CA2.out _ FP.out).mono ?_
                                                      rintro e w7 ⟨rfl, hbb⟩
                                                      have FP := Lib.hid (FP.out.old hbb)
                                                      have FB := Lib.hid (FB.out.trans (hbb.mono FB.out.size))
                                                      clear hbb
                                                      go_wp2_with fail
                                                      refine (same_zero _).mono ?_
                                                      rintro e w8 ⟨rfl, hbb⟩
                                                      have FP := Lib.hid (FP.out.old hbb)
                                                      have FB := Lib.hid (FB.out.trans (hbb.mono FB.out.size))
                                                      clear hbb
                                                      go_wp2_with fail
                                                      refine (awake_any _ FP.out).mono ?_
                                                      rintro e w9 ⟨rfl, hbb⟩
                                                      have FB := Lib.hid (FB.out.trans (hbb.mono FB.out.size))
                                                      clear hbb
                                                      go_wp2
                                                      go_ret
                                                      exact ⟨rfl, FB.out⟩
                                                    · clear hq
                                                      go_wp2_with fail
                                                      refine (awake_any _ FP.out).mono ?_
                                                      rintro e w9 ⟨rfl, hbb⟩
                                                      have FB := Lib.hid (FB.out.trans (hbb.mono FB.out.size))
                                                      clear hbb
                                                      go_wp2
                                                      go_ret
                                                      exact ⟨rfl, FB.out⟩
end Go.Proofs.YtphlehinjooncaaDoor
