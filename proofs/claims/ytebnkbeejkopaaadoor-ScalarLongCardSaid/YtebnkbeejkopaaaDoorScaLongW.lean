/-
  The walk of the law ScalarLong. Condition: the program's numbers modulo L are as they must be.
-/
import Derived.Test.YtebnkbeejkopaaaDoorScaReducesW
import Derived.Test.YtebnkbeejkopaaaDoorAppZero
set_option linter.unusedVariables false
set_option linter.unusedSimpArgs false
namespace Go.Proofs.YtebnkbeejkopaaaDoor
open Go Go.Proofs Go.RowKit F5

theorem bval_append (a b : List UInt8) : bval (a ++ b) = bval a + 256 ^ a.length * bval b := by
  unfold bval
  rw [List.map_append, val_append, List.length_map]
theorem bval_zeros (l : List UInt8) (m : Nat) : bval (l ++ List.replicate m 0) = bval l := by
  rw [bval_append]
  have h : bval (List.replicate m 0) = 0 := by
    unfold bval
    rw [List.map_replicate]
    exact val_zeros 256 m
  rw [h]; simp
theorem cells_zeros (l : List UInt8) (m : Nat) : Lib.byteCells l ++ List.replicate m (Value.int .u8 0) = Lib.byteCells (l ++ List.replicate m 0) := by
  rw [Lib.byteCells_append]
  congr 1
  simp [Lib.byteCells]
/-- a number and another one, byte by byte. -/
structure MoreL (X Y : List UInt8) (k c : Nat) (out : List UInt8) : Prop where
  len : out.length = k
  cw : c ≤ 1
  eq : bval out + 256 ^ k * c = bval (X.take k) + bval (Y.take k)
theorem MoreL.zero (X Y : List UInt8) : MoreL X Y 0 0 [] := ⟨rfl, by omega, by simp [bval, val]⟩
theorem MoreL.next {X Y out : List UInt8} {k c s : Nat} (h : MoreL X Y k c out) (hX : k < X.length) (hY : k < Y.length) (hs : s = (X.getD k 0).toNat + (Y.getD k 0).toNat + c) : MoreL X Y (k + 1) (s / 256) (out ++ [UInt8.ofNat (s % 256)]) := by
  obtain ⟨h1, h2, h3⟩ := h
  have hx := (X.getD k 0).toNat_lt
  have hy := (Y.getD k 0).toNat_lt
  refine ⟨by simp [h1], by omega, ?_⟩
  rw [bval_append, h1, bval_take X k hX, bval_take Y k hY, Nat.pow_succ]
  have e0 : bval [UInt8.ofNat (s % 256)] = s % 256 := by
    unfold bval
    simp [val]
  rw [e0]
  generalize (X.getD k 0).toNat = x at *
  generalize (Y.getD k 0).toNat = y at *
  have e : s % 256 + 256 * (s / 256) = x + y + c := by rw [← hs]; exact Nat.mod_add_div _ _
  have e2 := congrArg (256 ^ k * ·) e
  simp only [Nat.mul_add] at e2
  rw [Nat.mul_assoc]
  omega
theorem MoreL.done {v c : Nat} {out : List UInt8} (h : MoreL (fbytes v) (fbytes LL) 32 c out) (hv : v < LL) : bval out = v + LL := by
  obtain ⟨h1, h2, h3⟩ := h
  rw [List.take_of_length_le (by rw [fbytes_length]; omega), List.take_of_length_le (by rw [fbytes_length]; omega), bval_fbytes (Nat.lt_trans hv LL_256), bval_fbytes LL_256] at h3
  have hlt : v + LL < 256 ^ 32 := Nat.lt_trans (show v + LL < 2 * LL by omega) (by decide)
  rcases (show c = 0 ∨ c = 1 by omega) with rfl | rfl
  · omega
  · omega

set_option maxHeartbeats 16000000 in
set_option maxRecDepth 100000 in
theorem long_walk {Q : World → Prop} (H : ScaOk Q) (A : Option Addr) (n c q : Nat) (l : List UInt8) (w : World) (hr : Reads w w.heap.size 1 A n (Lib.byteCells l)) (hnc : n ≤ c) (hm : c ≤ maxLen) (hq : q < 256) (hQ : Q w) :
    Calls Tryd.prog 6 #[.slice A n c, .int .u8 (q : Int)] w fun e w' => e = .returned (.bool true) ∧ Below w.heap.size w w' := by
  obtain ⟨z, hz⟩ : ∃ z, Hid (z = bytesA (List.replicate 32 0)) := ⟨_, Lib.hid rfl⟩
  have hz0 : ∀ W, (zeroValue 24).run Tryd.prog W = .ok (.agg z) W := by
    rw [hz.out]; exact (zero_of_info (n := 32) (by kernel_rfl)).1
  obtain ⟨ib, hib, hzb0, hzb1, hzb2⟩ := info_parts infoByte
  have HIB := Lib.hid hib
  have hl : l.length = n := by have := hr.1; rw [Lib.byteCells_length] at this; omega
  have HR := Lib.hid hr
  have HQ := Lib.hid hQ
  have HM := Lib.hid hm
  have HB := Lib.hid (Below.refl w.heap.size w)
  clear hr hQ hm hib
  by_cases hn : 100 < n
  · have hn' : (100 : Int) < (n : Int) := by omega
    go_enter Tryd.func6, Tryd.ntmps6
    go_wp2_with fail
    refine (awake6_any H _ (H.old HQ.out HB.out)).mono ?_
    rintro e w3 ⟨rfl, hbb⟩
    have hbe := Lib.hid (HB.out.trans (hbb.mono HB.out.size))
    clear hbb
    go_wp2
    go_ret
    exact ⟨rfl, hbe.out⟩
  have hn' : ¬ (100 : Int) < (n : Int) := by omega
  obtain ⟨m, hmm⟩ := named (q % 50)
  have m1 : (q : Int) % 50 = (m : Int) := by rw [hmm.out]; omega
  have m2 : (q : Int).tmod 50 = (m : Int) := by rw [Int.tmod_eq_emod_of_nonneg (by omega)]; omega
  have m3 : IntKind.u8.wrap (m : Int) = (m : Int) := by rw [IntKind.wrap_u8', hmm.out]; omega
  have hm50 : m < 50 := by rw [hmm.out]; omega
  have CR : Hid (∀ V, Reads V V.heap.size 1 A n (Lib.byteCells l) → Q V → Calls Tryd.prog 8 #[.slice A n c] V fun e w' => e = .returned (.agg (bytesA (fbytes (bval l % LL)))) ∧ Below V.heap.size V w') := Lib.hid fun V h1 h2 => H.reduce A n c l V (by omega) hnc HM.out h1 h2
  have CR2 : Hid (∀ A2 c2 V, n + m ≤ c2 → c2 ≤ maxLen → Reads V V.heap.size 1 A2 (n + m) (Lib.byteCells (l ++ List.replicate m 0)) → Q V → Calls Tryd.prog 8 #[.slice A2 (n + m : Nat) c2] V fun e w' => e = .returned (.agg (bytesA (fbytes (bval l % LL)))) ∧ Below V.heap.size V w') := Lib.hid fun A2 c2 V k1 k2 h1 h2 => by
    have := H.reduce A2 (n + m) c2 _ V (by omega) k1 k2 h1 h2
    rwa [bval_zeros] at this
  obtain ⟨v, hv⟩ := named (bval l % LL)
  have hvl : v < LL := by rw [hv.out]; exact Nat.mod_lt _ LL_pos
  rw [← hv.out] at CR CR2
  have CR3 : Hid (∀ A2 c2 out V, out.length = 32 → bval out = v + LL → 32 ≤ c2 → c2 ≤ maxLen → Reads V V.heap.size 1 A2 32 (Lib.byteCells out) → Q V → Calls Tryd.prog 8 #[.slice A2 32 c2] V fun e w' => e = .returned (.agg (bytesA (fbytes v))) ∧ Below V.heap.size V w') := Lib.hid fun A2 c2 out V k0 kb k1 k2 h1 h2 => by
    have := H.reduce A2 32 c2 _ V (by omega) k1 k2 h1 h2
    rwa [kb, Nat.add_mod_right, Nat.mod_eq_of_lt hvl] at this
  have CM3 : Hid (∀ A2 c2 out V, out.length = 32 → bval out = v + LL → 32 ≤ c2 → c2 ≤ maxLen → Reads V V.heap.size 1 A2 32 (Lib.byteCells out) → Q V → Calls Tryd.prog 10 #[.slice A2 32 c2] V fun e w' => e = .returned (.bool false) ∧ Below V.heap.size V w') := Lib.hid fun A2 c2 out V k0 kb k1 k2 h1 h2 => by
    have := H.may A2 32 c2 _ V (by omega) k1 k2 h1 h2
    rwa [show mayB out = false from decide_eq_false (fun h => by have := h.2; omega)] at this
  have okv : Hid ((Tryd.prog.info? 24).map (·.size) = some (bytesA (fbytes v)).size ∧ (bytesA (fbytes v)).all (·.oneCell') = true ∧ z.size = (bytesA (fbytes v)).size) := Lib.hid ⟨fbytes_info _, bytesA_one _, by rw [hz.out, bytesA_size, bytesA_size, fbytes_length]; rfl⟩
  have HVL := Lib.hid hvl
  clear hn hv hvl hmm
  go_enter Tryd.func6, Tryd.ntmps6
  go_upto_region 4 with fail
  refine (CR.out _ HR.out HQ.out).mono ?_
  rintro e w0 ⟨rfl, hb1⟩
  have hb2 := hb1.trans ((below_new1 w0 (.cells (bytesA (fbytes v)) 24)).mono hb1.size)
  have e5 := Lib.hid (Blk.new w0 24 (bytesA (fbytes v)))
  have HB := Lib.hid hb2
  have HR1 := Lib.hid ((HR.out.below hb2).more hb2.size)
  have HQ1 := Lib.hid (H.old HQ.out hb2)
  clear hb1 hb2
  go_upto_region 4 with (first | (refine wpList_store_row rfl 24 (.tmp 5) (.tmp 17) rfl w0.heap.size (bytesA (fbytes v)) rfl rfl 24 z (heap_alloc_new w0 _) okv.out.1 okv.out.2.2 okv.out.2.1 ?_; rw [setRow_alloc1]))
  generalize w0.alloc (.cells (bytesA (fbytes v)) 24) = w1 at *
  generalize w0.heap.size = g5 at *
  have hown0 := owns_empty w1
  have hb3 := below_new1 w1 (.cells #[] 5)
  have hrA := HR1.out.below hb3
  go_upto_region 5 with (first | (at_builtin; refine wpList_append_any _ rfl (.tmp 18) (.tmp 19) 22 rfl w1.heap.size 5 ib (.int .u8 0) 1 1 Tryd.underlying22 HIB.out hzb0 hzb1 hzb2 rfl (by omega) _ 0 [] rfl hown0 _ A n c (Lib.byteCells l) rfl hrA (Lib.byteCells_one _) (by unfold maxLen; omega) (by omega) (by simp) ?_; intro v5 w5 hown5 hg5 hv5) | (at_builtin; refine wpList_append_zeros _ rfl (.tmp 20) (.tmp 22) 22 5 rfl w1.heap.size 5 ib (.int .u8 0) 1 .u8 .u8 Tryd.underlying22 Tryd.underlying5 HIB.out hzb0 hzb1 hzb2 rfl rfl (by omega) _ (0 + n) _ rfl hown5 m rfl (by omega) (by have := hg5.size; simp at this; omega) ?_; intro v6 w6 hown6 hg6 hv6))
  rw [List.nil_append, Nat.zero_add, cells_zeros] at hown6
  have hb5 := (hb3.grown hg5 (by simp) (fun k hk => by have := (hown0.lt k hk).1; omega))
  have hb6 := (hb5.grown hg6 hb5.size (fun k hk => by have := (hown5.lt k hk).1; omega))
  obtain ⟨A6, c6, rfl, k1, k2⟩ := own_slice hown6
  have hr6 := Reads.of_own hown6
  have HQ6 := Lib.hid (H.old HQ1.out hb6)
  have HB6 := Lib.hid (HB.out.trans (hb6.mono HB.out.size))
  have e5 := Lib.hid (e5.out.old hb6)
  have CRX := Lib.hid (CR2.out A6 c6 w6 k1 k2 hr6 HQ6.out)
  clear hown0 hb3 hrA hown5 hg5 hv5 hown6 hg6 hv6 hb5 hb6 hr6 HR1 k1 k2
  try simp only [Nat.zero_add]
  refine CRX.out.mono ?_
  rintro e w7 ⟨rfl, hb7⟩
  have hb8 := hb7.trans ((below_new1 w7 (.cells (bytesA (fbytes v)) 24)).mono hb7.size)
  have e6 := Lib.hid (Blk.new w7 24 (bytesA (fbytes v)))
  have e5 := Lib.hid (e5.out.old hb8)
  have HB7 := Lib.hid (HB6.out.trans (hb8.mono HB6.out.size))
  have HQ7 := Lib.hid (H.old HQ6.out hb8)
  clear hb7 hb8 m1 m2 m3 hn'
  go_upto_region 5 with (first | (refine wpList_store_row rfl 24 (.tmp 6) (.tmp 24) rfl w7.heap.size (bytesA (fbytes v)) rfl rfl 24 z (heap_alloc_new w7 _) okv.out.1 okv.out.2.2 okv.out.2.1 ?_; rw [setRow_alloc1]))
  generalize w7.alloc (.cells (bytesA (fbytes v)) 24) = W7 at *
  generalize w7.heap.size = g6 at *
  have hz8 : (W7.alloc (.cells #[.int .u8 237, .int .u8 211, .int .u8 245, .int .u8 92, .int .u8 26, .int .u8 99, .int .u8 18, .int .u8 88, .int .u8 214, .int .u8 156, .int .u8 247, .int .u8 162, .int .u8 222, .int .u8 249, .int .u8 222, .int .u8 20, .int .u8 0, .int .u8 0, .int .u8 0, .int .u8 0, .int .u8 0, .int .u8 0, .int .u8 0, .int .u8 0, .int .u8 0, .int .u8 0, .int .u8 0, .int .u8 0, .int .u8 0, .int .u8 0, .int .u8 0, .int .u8 16] 5)).heap.size = W7.heap.size + 1 := by simp
  have hb8 := below_new1 W7 (.cells #[.int .u8 237, .int .u8 211, .int .u8 245, .int .u8 92, .int .u8 26, .int .u8 99, .int .u8 18, .int .u8 88, .int .u8 214, .int .u8 156, .int .u8 247, .int .u8 162, .int .u8 222, .int .u8 249, .int .u8 222, .int .u8 20, .int .u8 0, .int .u8 0, .int .u8 0, .int .u8 0, .int .u8 0, .int .u8 0, .int .u8 0, .int .u8 0, .int .u8 0, .int .u8 0, .int .u8 0, .int .u8 0, .int .u8 0, .int .u8 0, .int .u8 0, .int .u8 16] 5)
  have eL0 := Blk.new W7 5 #[.int .u8 237, .int .u8 211, .int .u8 245, .int .u8 92, .int .u8 26, .int .u8 99, .int .u8 18, .int .u8 88, .int .u8 214, .int .u8 156, .int .u8 247, .int .u8 162, .int .u8 222, .int .u8 249, .int .u8 222, .int .u8 20, .int .u8 0, .int .u8 0, .int .u8 0, .int .u8 0, .int .u8 0, .int .u8 0, .int .u8 0, .int .u8 0, .int .u8 0, .int .u8 0, .int .u8 0, .int .u8 0, .int .u8 0, .int .u8 0, .int .u8 0, .int .u8 16]
  have hoe := owns_empty (W7.alloc (.cells #[.int .u8 237, .int .u8 211, .int .u8 245, .int .u8 92, .int .u8 26, .int .u8 99, .int .u8 18, .int .u8 88, .int .u8 214, .int .u8 156, .int .u8 247, .int .u8 162, .int .u8 222, .int .u8 249, .int .u8 222, .int .u8 20, .int .u8 0, .int .u8 0, .int .u8 0, .int .u8 0, .int .u8 0, .int .u8 0, .int .u8 0, .int .u8 0, .int .u8 0, .int .u8 0, .int .u8 0, .int .u8 0, .int .u8 0, .int .u8 0, .int .u8 0, .int .u8 16] 5))
  have hb9 := below_new1 (W7.alloc (.cells #[.int .u8 237, .int .u8 211, .int .u8 245, .int .u8 92, .int .u8 26, .int .u8 99, .int .u8 18, .int .u8 88, .int .u8 214, .int .u8 156, .int .u8 247, .int .u8 162, .int .u8 222, .int .u8 249, .int .u8 222, .int .u8 20, .int .u8 0, .int .u8 0, .int .u8 0, .int .u8 0, .int .u8 0, .int .u8 0, .int .u8 0, .int .u8 0, .int .u8 0, .int .u8 0, .int .u8 0, .int .u8 0, .int .u8 0, .int .u8 0, .int .u8 0, .int .u8 16] 5)) (.cells #[] 5)
  rw [hz8] at hoe
  go_wp2_with fail
  generalize W7.alloc (.cells #[.int .u8 237, .int .u8 211, .int .u8 245, .int .u8 92, .int .u8 26, .int .u8 99, .int .u8 18, .int .u8 88, .int .u8 214, .int .u8 156, .int .u8 247, .int .u8 162, .int .u8 222, .int .u8 249, .int .u8 222, .int .u8 20, .int .u8 0, .int .u8 0, .int .u8 0, .int .u8 0, .int .u8 0, .int .u8 0, .int .u8 0, .int .u8 0, .int .u8 0, .int .u8 0, .int .u8 0, .int .u8 0, .int .u8 0, .int .u8 0, .int .u8 0, .int .u8 16] 5) = W8 at *
  rw [LL_lit] at eL0
  have eL := Lib.hid eL0
  have e5 := Lib.hid (e5.out.old hb8)
  have e6 := Lib.hid (e6.out.old hb8)
  have HB8 := Lib.hid (HB7.out.trans (hb8.mono HB7.out.size))
  have HQ8 := Lib.hid (H.old HQ7.out hb8)
  have HZ8 := Lib.hid hz8
  clear hb8 eL0 hz8
  generalize W8.alloc (.cells #[] 5) = W9 at *
  obtain ⟨gl, hgl⟩ := named W7.heap.size
  rw [← hgl.out] at eL ⊢
  obtain ⟨gb, hgb⟩ := named (W7.heap.size + 1)
  rw [← hgb.out] at hoe HZ8
  rw [show gl + 1 = gb by rw [hgl.out, hgb.out]]
  go_loopg [8, 9, 10] 32 (fun gg ov cv iv wr => ∃ (k cc : Nat) (out : List UInt8), cv = .int .i64 (cc : Int) ∧ iv = .int .i64 (k : Int) ∧ gg + k = 32 ∧ MoreL (fbytes v) (fbytes LL) k cc out ∧ wr.ownsRow gb 5 1 ov k (Lib.byteCells out) ∧ Below W8.heap.size W8 wr)
  case atStart => exact ⟨0, 0, [], rfl, rfl, rfl, MoreL.zero _ _, hoe, hb9⟩
  case round =>
    obtain ⟨k, cc, out, rfl, rfl, hgk, hO, hown, hbel⟩ := hrel
    clear hoe hb9
    by_cases hlt : k < 32
    · have hx := ((e5.out.old hbel).cell k).trans (bytesA_get (fbytes v) k (by rw [fbytes_length]; exact hlt))
      have hy := ((eL.out.old hbel).cell k).trans (bytesA_get (fbytes LL) k (by rw [fbytes_length]; exact hlt))
      have hcw := hO.cw
      have hnx : Hid (∀ s, s = ((fbytes v).getD k 0).toNat + ((fbytes LL).getD k 0).toNat + cc → MoreL (fbytes v) (fbytes LL) (k + 1) (s / 256) (out ++ [UInt8.ofNat (s % 256)])) := Lib.hid fun s hs => hO.next (by rw [fbytes_length]; exact hlt) (by rw [fbytes_length]; exact hlt) hs
      have hx1 := ((fbytes v).getD k 0).toNat_lt
      have hy1 := ((fbytes LL).getD k 0).toNat_lt
      obtain ⟨x, hX⟩ := named ((fbytes v).getD k 0).toNat
      obtain ⟨y, hY⟩ := named ((fbytes LL).getD k 0).toNat
      rw [← hX.out, ← hY.out] at hnx
      rw [← hX.out] at hx hx1
      rw [← hY.out] at hy hy1
      obtain ⟨p, hp⟩ := named (x + y)
      obtain ⟨s, hs⟩ := named (p + cc)
      obtain ⟨r, hr⟩ := named (s % 256)
      obtain ⟨f, hf⟩ := named (s / 256)
      obtain ⟨yb, hyb⟩ : ∃ b : UInt8, Hid (b = UInt8.ofNat (s % 256)) := ⟨_, Lib.hid rfl⟩
      have hybn : Hid (yb.toNat = r) := Lib.hid (by rw [hyb.out, hr.out, UInt8.toNat_ofNat']; omega)
      have cx : IntKind.i64.wrap (x : Int) = (x : Int) := IntWalk.i64_in _ (by omega)
      have cy : IntKind.i64.wrap (y : Int) = (y : Int) := IntWalk.i64_in _ (by omega)
      have cp : IntKind.i64.wrap ((x : Int) + (y : Int)) = (p : Int) := by rw [IntWalk.i64_in _ (by omega), hp.out]; rfl
      have cs : IntKind.i64.wrap ((p : Int) + (cc : Int)) = (s : Int) := by rw [IntWalk.i64_in _ (by rw [hp.out]; omega), hs.out]; rfl
      have f1 : (s : Int) / 256 = (f : Int) := by rw [hf.out]; omega
      have f2 : (s : Int).tdiv 256 = (f : Int) := by rw [Int.tdiv_eq_ediv_of_nonneg (by omega)]; omega
      have f3 : (s : Int) % 256 = (r : Int) := by rw [hr.out]; omega
      have f4 : (s : Int).tmod 256 = (r : Int) := by rw [Int.tmod_eq_emod_of_nonneg (by omega)]; omega
      have f5 : IntKind.i64.wrap (r : Int) = (r : Int) := IntWalk.i64_in _ (by rw [hr.out]; omega)
      have f6 : IntKind.i64.wrap (f : Int) = (f : Int) := IntWalk.i64_in _ (by rw [hf.out, hs.out, hp.out]; omega)
      have f7 : IntKind.u8.wrap (r : Int) = (yb.toNat : Int) := by rw [IntKind.wrap_u8', hybn.out, hr.out]; omega
      have HN : Hid (MoreL (fbytes v) (fbytes LL) (k + 1) f (out ++ [yb])) := Lib.hid (by
        rw [hf.out, hyb.out]
        exact hnx.out s (by rw [hs.out, hp.out]))
      have hki : (k : Int) < 32 := by omega
      have hwk : IntKind.i64.wrap ((k : Int) + 1) = (k : Int) + 1 := IntWalk.i64_in _ (by omega)
      have HBEL := Lib.hid hbel
      have HOWN := Lib.hid hown
      have hz := hbel.size
      clear hbel hown hO hnx hx1 hy1 hcw hyb
      go_wp2_with fail
      go_quiet (fail)
      have hown1 : (wr.drewN nq).ownsRow gb 5 1 _ k (Lib.byteCells out) := HOWN.out
      have hb1 := HBEL.out.trans ((below_drewNs wr nq).mono hz)
      have hz1' := hb1.size
      clear hx hy
      generalize wr.drewN nq = w2 at *
      have hrd := reads_bytes w2 [yb]
      rw [show bytesA [yb] = #[.int .u8 (yb.toNat : Int)] from rfl] at hrd
      have HB1 := Lib.hid hb1
      have HOW1 := Lib.hid hown1
      have hown2 := own_old64 hown1 (below_new1 w2 (.cells #[.int .u8 (yb.toNat : Int)] 5))
      have HZ9 := HZ8.out
      clear hb1 hown1
      go_wp2_with (at_builtin; refine wpList_append_any _ rfl (.tmp 43) (.tmp 47) 22 rfl gb 5 ib (.int .u8 0) 1 1 Tryd.underlying22 HIB.out hzb0 hzb1 hzb2 rfl (by omega) _ k (Lib.byteCells out) rfl hown2 _ _ 1 _ (Lib.byteCells [yb]) rfl hrd (Lib.byteCells_one _) (by unfold maxLen; omega) (by omega) (by simp; omega) ?_; intro v5 w5 hown5 hg5 hv5)
      have hb5 := Lib.hid (own_grow HOW1.out (by rw [HZ8.out]; omega) HB1.out (below_new1 w2 _) hg5)
      rw [← Lib.byteCells_append] at hown5
      have HOW5 := Lib.hid hown5
      clear hown5 hg5 hv5 hrd hown2
      go_wp2_with fail
      go_roundg (gk - 1)
      case measure => omega
      case rel => exact ⟨k + 1, f, out ++ [yb], rfl, by go_num, by omega, HN.out, HOW5.out, hb5.out⟩
    · obtain rfl : k = 32 := by omega
      have hbv := hO.done HVL.out
      have hol := hO.len
      obtain ⟨An, cn, rfl, k1, k2⟩ := own_slice hown
      have hrn := Reads.of_own hown
      have E5 := Lib.hid (e5.out.old hbel)
      have E6 := Lib.hid (e6.out.old hbel)
      have HQR := Lib.hid (H.old HQ8.out hbel)
      have HBR := Lib.hid (HB8.out.trans (hbel.mono HB8.out.size))
      have C3 := Lib.hid (fun V h => CR3.out An cn out V hol hbv k1 k2 h)
      have C4 := Lib.hid (fun V h => CM3.out An cn out V hol hbv k1 k2 h)
      have HRN := Lib.hid hrn
      clear hbel hown hO hbv hol hrn k1 k2 hgk hlt hz0
      go_upto_region 14 with fail
      (try simp only [Act.put, List.setIfInBounds_toArray, List.set_cons_zero, List.set_cons_succ])
      refine wp_region_held_drew (S := fun V => Below wr.heap.size wr V) (by kernel_rfl) (Below.refl _ _).drew (fun hHeld => ?_)
      have HBwr := Lib.hid ((Below.refl wr.heap.size wr).drew)
      generalize wr.drew = Vwr at *
      refine' wpAnyH_take (i := 0) (oi := _) (v := .agg (bytesA (fbytes v))) ?hit190 ?hst190 ?hft190 ?hrt190 ?hQt190 ?hyt190 ?hSt190 ?_
      case hit190 => (simp only [List.getElem?_toArray, List.getElem?_cons_succ, List.getElem?_cons_zero]; rfl)
      case hst190 => kernel_rfl
      case hft190 => kernel_rfl
      case hrt190 => kernel_rfl
      case hQt190 => exact fun _ _ _ h => h
      case hSt190 => assumption
      case hyt190 =>
        refine Or.inl ⟨by rfl, ?_⟩
        intro W hS
        exact quiet_load_row 24 (.tmp 5) _ rfl 24 (bytesA (fbytes v)) _ (E5.out.old hS) Tryd.underlying24 rfl okv.out.1 rfl
      (try simp only [Act.put, List.setIfInBounds_toArray, List.set_cons_zero, List.set_cons_succ])
      refine' wpAnyH_take (i := 1) (oi := _) (v := .agg (bytesA (fbytes v))) ?hit191 ?hst191 ?hft191 ?hrt191 ?hQt191 ?hyt191 ?hSt191 ?_
      case hit191 => (simp only [List.getElem?_toArray, List.getElem?_cons_succ, List.getElem?_cons_zero]; rfl)
      case hst191 => kernel_rfl
      case hft191 => kernel_rfl
      case hrt191 => kernel_rfl
      case hQt191 => exact fun _ _ _ h => h
      case hSt191 => assumption
      case hyt191 =>
        refine Or.inl ⟨by rfl, ?_⟩
        intro W hS
        exact quiet_load_row 24 (.tmp 6) _ rfl 24 (bytesA (fbytes v)) _ (E6.out.old hS) Tryd.underlying24 rfl okv.out.1 rfl
      (try simp only [Act.put, List.setIfInBounds_toArray, List.set_cons_zero, List.set_cons_succ])
      refine' wpAnyH_take (i := 2) (oi := _) (v := .bool true) ?hit192 ?hst192 ?hft192 ?hrt192 ?hQt192 ?hyt192 ?hSt192 ?_
      case hit192 => (simp only [List.getElem?_toArray, List.getElem?_cons_succ, List.getElem?_cons_zero]; rfl)
      case hst192 => kernel_rfl
      case hft192 => kernel_rfl
      case hrt192 => kernel_rfl
      case hQt192 => exact fun _ _ _ h => h
      case hSt192 => assumption
      case hyt192 =>
        refine Or.inl ⟨by rfl, ?_⟩
        intro W hS
        exact quiet_eqb_bytes W (.tmp 51) (.tmp 52) _ (fbytes v) (fbytes v) true (decide_eq_true rfl) (fbytes_length _) (fbytes_length _) rfl rfl rfl
      (try simp only [Act.put, List.setIfInBounds_toArray, List.set_cons_zero, List.set_cons_succ])
      refine' wpAnyH_take (i := 3) (oi := _) (v := _) ?hit193 ?hst193 ?hft193 ?hrt193 ?hQt193 ?hyt193 ?hSt193 ?_
      case hit193 => (simp only [List.getElem?_toArray, List.getElem?_cons_succ, List.getElem?_cons_zero]; rfl)
      case hst193 => kernel_rfl
      case hft193 => kernel_rfl
      case hrt193 => kernel_rfl
      case hQt193 => exact fun _ _ _ h => h
      case hSt193 => assumption
      case hyt193 =>
        refine Or.inl ⟨by rfl, ?_⟩
        intro w hSw
        (try dsimp only at hSw)
        go_simp
        all_goals (with_reducible rfl)
      (try simp only [Act.put, List.setIfInBounds_toArray, List.set_cons_zero, List.set_cons_succ])
      refine' wpAnyH_take (i := 4) (oi := _) (v := _) ?hit194 ?hst194 ?hft194 ?hrt194 ?hQt194 ?hyt194 ?hSt194 ?_
      case hit194 => (simp only [List.getElem?_toArray, List.getElem?_cons_succ, List.getElem?_cons_zero]; rfl)
      case hst194 => kernel_rfl
      case hft194 => kernel_rfl
      case hrt194 => kernel_rfl
      case hQt194 => exact fun _ _ _ h => h
      case hSt194 => assumption
      case hyt194 =>
        refine Or.inl ⟨by rfl, ?_⟩
        intro w hSw
        (try dsimp only at hSw)
        go_simp
        all_goals (with_reducible rfl)
      (try simp only [Act.put, List.setIfInBounds_toArray, List.set_cons_zero, List.set_cons_succ])
      refine' wpAnyH_take (i := 6) (oi := _) (v := .agg (bytesA (fbytes v))) ?hit195 ?hst195 ?hft195 ?hrt195 ?hQt195 ?hyt195 ?hSt195 ?_
      case hit195 => (simp only [List.getElem?_toArray, List.getElem?_cons_succ, List.getElem?_cons_zero]; rfl)
      case hst195 => kernel_rfl
      case hft195 => kernel_rfl
      case hrt195 => kernel_rfl
      case hQt195 => exact fun _ _ _ h => h
      case hSt195 => assumption
      case hyt195 =>
        refine Or.inl ⟨by rfl, ?_⟩
        intro W hS
        exact quiet_load_row 24 (.tmp 5) _ rfl 24 (bytesA (fbytes v)) _ (E5.out.old hS) Tryd.underlying24 rfl okv.out.1 rfl
      (try simp only [Act.put, List.setIfInBounds_toArray, List.set_cons_zero, List.set_cons_succ])
      refine wpAnyH_ready (rs := [5]) (by kernel_rfl) (by simp) ?_
      refine' (AllReadyH.cons (o := _) ?hir196_5 (fun K hK => ?br196_5) AllReadyH.nil)
      case hir196_5 => (simp only [List.getElem?_toArray, List.getElem?_cons_succ, List.getElem?_cons_zero]; rfl)
      case br196_5 =>
        go_simp
        refine (C3.out _ ((HRN.out.below HBwr.out).more HBwr.out.size) (H.old HQR.out HBwr.out)).mono ?_
        rintro e w197 ⟨rfl, hb197⟩
        have H197 := Lib.hid (HBwr.out.trans (hb197.mono HBwr.out.size))
        clear hb197
        go_wp2_with fail
        refine hK.out _ _ ?_ (fun hHeld => ?_)
        exact H197.out
        clear hK K
        (try simp only [Act.put, List.setIfInBounds_toArray, List.set_cons_zero, List.set_cons_succ])
        refine' wpAnyH_take (i := 7) (oi := _) (v := .bool true) ?hit198 ?hst198 ?hft198 ?hrt198 ?hQt198 ?hyt198 ?hSt198 ?_
        case hit198 => (simp only [List.getElem?_toArray, List.getElem?_cons_succ, List.getElem?_cons_zero]; rfl)
        case hst198 => kernel_rfl
        case hft198 => kernel_rfl
        case hrt198 => kernel_rfl
        case hQt198 => exact fun _ _ _ h => h
        case hSt198 => assumption
        case hyt198 =>
          refine Or.inl ⟨by rfl, ?_⟩
          intro W hS
          exact quiet_eqb_bytes W (.tmp 56) (.tmp 57) _ (fbytes v) (fbytes v) true (decide_eq_true rfl) (fbytes_length _) (fbytes_length _) rfl rfl rfl
        (try simp only [Act.put, List.setIfInBounds_toArray, List.set_cons_zero, List.set_cons_succ])
        refine' wpAnyH_take (i := 8) (oi := _) (v := _) ?hit199 ?hst199 ?hft199 ?hrt199 ?hQt199 ?hyt199 ?hSt199 ?_
        case hit199 => (simp only [List.getElem?_toArray, List.getElem?_cons_succ, List.getElem?_cons_zero]; rfl)
        case hst199 => kernel_rfl
        case hft199 => kernel_rfl
        case hrt199 => kernel_rfl
        case hQt199 => exact fun _ _ _ h => h
        case hSt199 => assumption
        case hyt199 =>
          refine Or.inl ⟨by rfl, ?_⟩
          intro w hSw
          (try dsimp only at hSw)
          go_simp
          all_goals (with_reducible rfl)
        (try simp only [Act.put, List.setIfInBounds_toArray, List.set_cons_zero, List.set_cons_succ])
        refine' wpAnyH_take (i := 9) (oi := _) (v := _) ?hit200 ?hst200 ?hft200 ?hrt200 ?hQt200 ?hyt200 ?hSt200 ?_
        case hit200 => (simp only [List.getElem?_toArray, List.getElem?_cons_succ, List.getElem?_cons_zero]; rfl)
        case hst200 => kernel_rfl
        case hft200 => kernel_rfl
        case hrt200 => kernel_rfl
        case hQt200 => exact fun _ _ _ h => h
        case hSt200 => assumption
        case hyt200 =>
          refine Or.inl ⟨by rfl, ?_⟩
          intro w hSw
          (try dsimp only at hSw)
          go_simp
          all_goals (with_reducible rfl)
        (try simp only [Act.put, List.setIfInBounds_toArray, List.set_cons_zero, List.set_cons_succ])
        refine' wpAnyH_take (i := 10) (oi := _) (v := _) ?hit201 ?hst201 ?hft201 ?hrt201 ?hQt201 ?hyt201 ?hSt201 ?_
        case hit201 => (simp only [List.getElem?_toArray, List.getElem?_cons_succ, List.getElem?_cons_zero]; rfl)
        case hst201 => kernel_rfl
        case hft201 => kernel_rfl
        case hrt201 => kernel_rfl
        case hQt201 => exact fun _ _ _ h => h
        case hSt201 => assumption
        case hyt201 =>
          refine Or.inl ⟨by rfl, ?_⟩
          intro w hSw
          (try dsimp only at hSw)
          go_simp
          all_goals (with_reducible rfl)
        (try simp only [Act.put, List.setIfInBounds_toArray, List.set_cons_zero, List.set_cons_succ])
        refine wpAnyH_ready (rs := [11]) (by kernel_rfl) (by simp) ?_
        refine' (AllReadyH.cons (o := _) ?hir202_11 (fun K hK => ?br202_11) AllReadyH.nil)
        case hir202_11 => (simp only [List.getElem?_toArray, List.getElem?_cons_succ, List.getElem?_cons_zero]; rfl)
        case br202_11 =>
          go_simp
          refine (C4.out _ ((HRN.out.below H197.out).more H197.out.size) (H.old HQR.out H197.out)).mono ?_
          rintro e w203 ⟨rfl, hb203⟩
          have H203 := Lib.hid (H197.out.trans (hb203.mono H197.out.size))
          clear hb203
          go_wp2_with fail
          refine hK.out _ _ ?_ (fun hHeld => ?_)
          exact H203.out
          clear hK K
          (try simp only [Act.put, List.setIfInBounds_toArray, List.set_cons_zero, List.set_cons_succ])
          refine' wpAnyH_take (i := 12) (oi := _) (v := _) ?hit204 ?hst204 ?hft204 ?hrt204 ?hQt204 ?hyt204 ?hSt204 ?_
          case hit204 => (simp only [List.getElem?_toArray, List.getElem?_cons_succ, List.getElem?_cons_zero]; rfl)
          case hst204 => kernel_rfl
          case hft204 => kernel_rfl
          case hrt204 => kernel_rfl
          case hQt204 => exact fun _ _ _ h => h
          case hSt204 => assumption
          case hyt204 =>
            refine Or.inl ⟨by rfl, ?_⟩
            intro w hSw
            (try dsimp only at hSw)
            go_simp
            all_goals (with_reducible rfl)
          (try simp only [Act.put, List.setIfInBounds_toArray, List.set_cons_zero, List.set_cons_succ])
          refine' wpAnyH_take (i := 13) (oi := _) (v := _) ?hit205 ?hst205 ?hft205 ?hrt205 ?hQt205 ?hyt205 ?hSt205 ?_
          case hit205 => (simp only [List.getElem?_toArray, List.getElem?_cons_succ, List.getElem?_cons_zero]; rfl)
          case hst205 => kernel_rfl
          case hft205 => kernel_rfl
          case hrt205 => kernel_rfl
          case hQt205 => exact fun _ _ _ h => h
          case hSt205 => assumption
          case hyt205 =>
            refine Or.inl ⟨by rfl, ?_⟩
            intro w hSw
            (try dsimp only at hSw)
            go_simp
            all_goals (with_reducible rfl)
          (try simp only [Act.put, List.setIfInBounds_toArray, List.set_cons_zero, List.set_cons_succ])
          refine' wpAnyH_take (i := 14) (oi := _) (v := _) ?hit206 ?hst206 ?hft206 ?hrt206 ?hQt206 ?hyt206 ?hSt206 ?_
          case hit206 => (simp only [List.getElem?_toArray, List.getElem?_cons_succ, List.getElem?_cons_zero]; rfl)
          case hst206 => kernel_rfl
          case hft206 => kernel_rfl
          case hrt206 => kernel_rfl
          case hQt206 => exact fun _ _ _ h => h
          case hSt206 => assumption
          case hyt206 =>
            refine Or.inl ⟨by rfl, ?_⟩
            intro w hSw
            (try dsimp only at hSw)
            go_simp
            all_goals (with_reducible rfl)
          (try simp only [Act.put, List.setIfInBounds_toArray, List.set_cons_zero, List.set_cons_succ])
          refine wpAnyH_ready (rs := [15]) (by kernel_rfl) (by simp) ?_
          refine' (AllReadyH.cons (o := _) ?hir207_15 (fun K hK => ?br207_15) AllReadyH.nil)
          case hir207_15 => (simp only [List.getElem?_toArray, List.getElem?_cons_succ, List.getElem?_cons_zero]; rfl)
          case br207_15 =>
            go_simp
            refine (awake6_any H _ (H.old HQR.out H203.out)).mono ?_
            rintro e w208 ⟨rfl, hb208⟩
            have H208 := Lib.hid (H203.out.trans (hb208.mono H203.out.size))
            clear hb208
            go_wp2_with fail
            refine hK.out _ _ ?_ (fun hHeld => ?_)
            exact H208.out
            clear hK K
            (try simp only [Act.put, List.setIfInBounds_toArray, List.set_cons_zero, List.set_cons_succ])
            refine' wpAnyH_take (i := 16) (oi := _) (v := _) ?hit209 ?hst209 ?hft209 ?hrt209 ?hQt209 ?hyt209 ?hSt209 ?_
            case hit209 => (simp only [List.getElem?_toArray, List.getElem?_cons_succ, List.getElem?_cons_zero]; rfl)
            case hst209 => kernel_rfl
            case hft209 => kernel_rfl
            case hrt209 => kernel_rfl
            case hQt209 => exact fun _ _ _ h => h
            case hSt209 => assumption
            case hyt209 =>
              refine Or.inl ⟨by rfl, ?_⟩
              intro w hSw
              (try dsimp only at hSw)
              go_simp
              all_goals (with_reducible rfl)
            (try simp only [Act.put, List.setIfInBounds_toArray, List.set_cons_zero, List.set_cons_succ])
            refine' wpAnyH_take (i := 17) (oi := _) (v := _) ?hit210 ?hst210 ?hft210 ?hrt210 ?hQt210 ?hyt210 ?hSt210 ?_
            case hit210 => (simp only [List.getElem?_toArray, List.getElem?_cons_succ, List.getElem?_cons_zero]; rfl)
            case hst210 => kernel_rfl
            case hft210 => kernel_rfl
            case hrt210 => kernel_rfl
            case hQt210 => exact fun _ _ _ h => h
            case hSt210 => assumption
            case hyt210 =>
              refine Or.inl ⟨by rfl, ?_⟩
              intro w hSw
              (try dsimp only at hSw)
              go_simp
              all_goals (with_reducible rfl)
            (try simp only [Act.put, List.setIfInBounds_toArray, List.set_cons_zero, List.set_cons_succ])
            refine wpAnyH_done (by kernel_rfl) ?_ _
            have hbe := Lib.hid (HBR.out.trans (H208.out.mono HBR.out.size))
            clear hHeld
            go_wp2_with fail
            go_ret
            exact ⟨rfl, hbe.out⟩
end Go.Proofs.YtebnkbeejkopaaaDoor
