/-
  The contracts of the reference's Of, Bytes and Raw. Conditions: a number below 2^64; 32 bytes.
-/
import Derived.Test.YtphlehinjooncaaDoorFldFit
import Derived.Test.YtphlehinjooncaaDoorFldRefM
import Derived.Test.YtphlehinjooncaaDoorFldEq
import Derived.Test.YtphlehinjooncaaDoorFldBytes
import Derived.Test.YtphlehinjooncaaDoorStr
import Derived.Deep.RegionHeld3
set_option linter.unusedVariables false
set_option linter.unusedSimpArgs false
namespace Go.Proofs.YtphlehinjooncaaDoor
open Go Go.Proofs Go.RowKit F5

/-- A number as 16 limbs. -/
def limF (n : Nat) : Array Value := u64s (digs B n 16)
def refV (n : Nat) : Value := .agg (limF n)
theorem limF_one (n : Nat) : (limF n).all (·.oneCell') = true := u64s_one _
theorem limF_info (n : Nat) : (Tryd.prog.info? 35).map (·.size) = some (limF n).size := u64s_info (digs_length _ _ _)
theorem limF_size (n : Nat) : (limF n).size = 16 := by rw [limF, u64s_size, digs_length]
theorem digs0 : digs B 0 16 = List.replicate 16 0 := by decide +kernel
theorem zero16 : u64s (List.replicate 16 0) = limF 0 := by rw [limF, digs0]

def OfAt (n k m : Nat) (w wr : World) : Prop :=
  m = n / B ^ k ∧ Blk wr (w.heap.size + 1) 35 (u64s (partN (digs B n 16) k)) ∧ Blk wr w.heap.size 35 (limF 0) ∧ Below w.heap.size w wr

set_option maxHeartbeats 2000000 in
set_option maxRecDepth 100000 in
theorem refOf_any (n : Nat) (hn : n < M) (w : World) : Calls Tryd.prog 12 #[.int .u64 (n : Int)] w fun e w' => e = .returned (refV n) ∧ Below w.heap.size w w' := by
  have hal : Tryd.prog.arrayLen 35 = 16 := by kernel_rfl
  have hel : Tryd.prog.elem 35 = 23 := by kernel_rfl
  obtain ⟨z, hz⟩ : ∃ z, Hid (z = limF 0) := ⟨_, Lib.hid rfl⟩
  have hz0 : ∀ W, (zeroValue 35).run Tryd.prog W = .ok (.agg z) W := by
    rw [hz.out, ← zero16]; exact (zero_of_info (n := 16) (by kernel_rfl)).1
  have hHN := Lib.hid hn
  go_enter Tryd.func12, Tryd.ntmps12
  have hzi : Hid ((Tryd.prog.info? 35).map (·.size) = some z.size) := by rw [hz.out]; exact Lib.hid (limF_info 0)
  have hz1 : Hid (z.all (·.oneCell') = true) := by rw [hz.out]; exact Lib.hid (limF_one 0)
  go_wp2_with (first | (refine wpList_store_row rfl 35 (.tmp 3) (.tmp 5) rfl (w.heap.size + 1) z rfl rfl 35 z (heap_alloc2_new w _ _) hzi.out rfl hz1.out ?_; rw [setRow_alloc2]))
  go_loopg [0, 4] 4 (fun g nv iv wr => ∃ k m, nv = .int .u64 (m : Nat) ∧ iv = .int .i64 (k : Nat) ∧ g + k = 4 ∧ OfAt n k m w wr)
  case atStart =>
    refine ⟨0, n, rfl, rfl, rfl, by simp, ?_, ?_, ((Below.refl _ _).alloc (Nat.le_refl _) _).alloc (by simp) _⟩
    · rw [partN_zero, digs_length, zero16, ← hz.out]; exact heap_alloc2_new w _ _
    · rw [← hz.out]; exact (Blk.new w _ z).alloc _
  case round =>
    obtain ⟨k, m, rfl, rfl, hg, hm, b1, b2, hb⟩ := hrel
    by_cases hlt : k < 4
    · obtain ⟨q, hq⟩ := named (m / 65536)
      obtain ⟨r, hr⟩ := named (m % 65536)
      have hml : m ≤ 18446744073709551615 := by
        have := Nat.div_le_self n (B ^ k)
        have := hHN.out
        unfold M at this
        omega
      have d1 : (m : Int) / 65536 = (q : Int) := by rw [hq.out]; omega
      have d2 : (m : Int).tdiv 65536 = (q : Int) := by rw [Int.tdiv_eq_ediv_of_nonneg (by omega)]; omega
      have d3 : (m : Int) % 65536 = (r : Int) := by rw [hr.out]; omega
      have d4 : (m : Int).tmod 65536 = (r : Int) := by rw [Int.tmod_eq_emod_of_nonneg (by omega)]; omega
      have wq : IntKind.u64.wrap (q : Int) = (q : Int) := by rw [IntKind.wrap_u64, hq.out]; omega
      have hx := b1.u64 k (by rw [partN_length (by rw [digs_length]; omega), digs_length]; omega)
      have hf := b1.frozen k
      have hn2 : Hid (OfAt n (k + 1) q w (wr.setCell ⟨w.heap.size + 1, k, none⟩ (.int .u64 (r : Int)))) := Lib.hid (by
        refine ⟨by rw [hq.out, hm, Nat.div_div_eq_div_mul, ← Nat.pow_succ], ?_, b2.far (by show w.heap.size ≠ w.heap.size + 1; omega) _, hb.setCell (by show w.heap.size ≤ w.heap.size + 1; omega) _⟩
        have := b1.u64set k r
        have e : r = (digs B n 16).getD k 0 := by rw [digs_getD _ _ _ _ (by omega), ← hm, hr.out]
        rw [e, partN_set (by rw [digs_length]; omega)] at this
        rw [e]; exact this)
      obtain ⟨u, hu⟩ := named ((partN (digs B n 16) k).getD k 0)
      rw [← hu.out] at hx
      have HM := Lib.hid hm
      clear b1 b2 hb hm
      go_wp2
      go_roundg (gk - 1)
      case measure => omega
      case rel => exact ⟨k + 1, q, rfl, by go_num, by omega, hn2.out⟩
    · obtain rfl : k = 4 := by omega
      rw [part4 hHN.out] at b1
      have B1 : Hid (Blk wr (w.heap.size + 1) 35 (limF n)) := Lib.hid b1
      have B2 := Lib.hid b2
      have HBL := Lib.hid hb
      have hRi := Lib.hid (limF_info n)
      have hR1 := Lib.hid (limF_one n)
      have hzz : Hid ((limF 0).size = (limF n).size) := Lib.hid (by rw [limF_size, limF_size])
      clear b1 b2 hb hz0 hg
      go_wp2_with (first | (refine wpList_load_row rfl 35 (.tmp 3) rfl (w.heap.size + 1) rfl 35 (limF n) (0, 0) _ B1.out Tryd.underlying35 rfl hRi.out ?_) |
        (refine wpList_store_row rfl 35 (.tmp 2) (.tmp 16) rfl w.heap.size (limF n) rfl rfl 35 _ B2.out hRi.out hzz.out hR1.out ?_))
      refine bodyPost_ret (v := .agg (limF n)) ?_ rfl ⟨rfl, below_row HBL.out (Nat.le_refl _) _⟩
      exact results_cell_row Tryd.results12 _ _ w.heap.size 35 _ (0, 0) _ rfl (B2.out.row _) Tryd.underlying35 rfl hRi.out

theorem own_form_cap {w : World} {base size n : Nat} {e : TypeId} {v : Value} {xs : List Value} (h : w.ownsRow base e size v n xs) : ∃ A c, v = .slice A n c ∧ n ≤ c := by
  rcases h.2 with ⟨h1, h2⟩ | ⟨g, cap, cur, hv, _, _, hc, _⟩
  · exact ⟨none, 0, by rw [h1, h2], by omega⟩
  · exact ⟨_, _, hv, hc⟩
theorem reads_two (w : World) (x y : UInt8) : Reads (w.alloc (.cells #[.int .u8 x.toNat, .int .u8 y.toNat] 5)) (w.heap.size + 1) 1 (some ⟨w.heap.size, 0, none⟩) 2 (Lib.byteCells [x, y]) := by
  refine ⟨rfl, fun _ => ⟨_, rfl, by simp, fun j u hj => ?_⟩⟩
  match j, hj with
  | 0, hj =>
    simp [Lib.byteCells] at hj
    subst hj
    show World.cell? _ ⟨w.heap.size, 0, none⟩ = _
    rw [Lib.cell_of_heap (heap_alloc_new w _)]; rfl
  | 1, hj =>
    simp [Lib.byteCells] at hj
    subst hj
    show World.cell? _ ⟨w.heap.size, 1, none⟩ = _
    rw [Lib.cell_of_heap (heap_alloc_new w _)]; rfl
theorem fbytes_two (n i : Nat) (hi : i < 16) : (fbytes n).take (2 * (i + 1)) = (fbytes n).take (2 * i) ++ [(fbytes n).getD (2 * i) 0, (fbytes n).getD (2 * i + 1) 0] := by
  have h1 : 2 * i < (fbytes n).length := by rw [fbytes_length]; omega
  have h2 : 2 * i + 1 < (fbytes n).length := by rw [fbytes_length]; omega
  rw [show 2 * (i + 1) = (2 * i + 1) + 1 by omega, List.take_succ_eq_append_getElem h2, List.take_succ_eq_append_getElem h1, List.append_assoc]
  simp [List.getD, List.getElem?_eq_getElem h1, List.getElem?_eq_getElem h2]

def BytesEnd (n : Nat) (w : World) (e : Ending) (w' : World) : Prop := ∃ v, e = .returned v ∧ w'.ownsRow (w.heap.size + 1) 5 1 v 32 (Lib.byteCells (fbytes n)) ∧ Below w.heap.size w w'

set_option maxHeartbeats 4000000 in
set_option maxRecDepth 100000 in
theorem refBytes_any (n : Nat) (w : World) : Calls Tryd.prog 29 #[refV n] w (BytesEnd n w) := by
  have hal : Tryd.prog.arrayLen 35 = 16 := by kernel_rfl
  have hel : Tryd.prog.elem 35 = 23 := by kernel_rfl
  obtain ⟨i0, hi, hz0, hz1, hz2⟩ := info_parts infoByte
  unfold refV
  obtain ⟨cn, hcn⟩ : ∃ c, Hid (c = limF n) := ⟨_, Lib.hid rfl⟩
  rw [← hcn.out]
  have hoe := owns_empty (w.alloc (.cells cn 35))
  rw [show (w.alloc (.cells cn 35)).heap.size = w.heap.size + 1 by simp] at hoe
  go_enter Tryd.func29, Tryd.ntmps29
  go_wp2
  go_loopw [3, 4] (fun v iv wr => ∃ k : Nat, k ≤ 16 ∧ iv = .int .i64 (k : Nat) ∧ wr.ownsRow (w.heap.size + 1) 5 1 v (2 * k) (Lib.byteCells ((fbytes n).take (2 * k))) ∧ Blk wr w.heap.size 35 (limF n) ∧ Below w.heap.size w wr) (fun _ iv _ => 16 - (intOf iv).toNat)
  case atStart => exact ⟨0, Nat.zero_le _, rfl, hoe, by rw [← hcn.out]; exact (Blk.new w _ cn).alloc _, ((Below.refl _ _).alloc (Nat.le_refl _) _).alloc (by simp) _⟩
  case round =>
    obtain ⟨k, hk, rfl, hown, hb1, hbel⟩ := hrel
    clear hoe
    have hsz := hbel.size
    by_cases hlt : k < 16
    · have hx : wr.cell? ⟨w.heap.size, k, none⟩ = some (.int .u64 (((digs B n 16).getD k 0 : Nat) : Int)) := hb1.u64 k (by rw [digs_length]; exact hlt)
      rw [digs_getD _ _ _ _ hlt, limb_bytes] at hx
      have hy0 := fbytes_get n (2 * k) (by omega)
      have hy1 := fbytes_get n (2 * k + 1) (by omega)
      have HT := Lib.hid (fbytes_two n k hlt)
      obtain ⟨y0, hY0⟩ : ∃ y, Hid (y = (fbytes n).getD (2 * k) 0) := ⟨_, Lib.hid rfl⟩
      obtain ⟨y1, hY1⟩ : ∃ y, Hid (y = (fbytes n).getD (2 * k + 1) 0) := ⟨_, Lib.hid rfl⟩
      rw [← hY0.out] at hy0 HT
      rw [← hY1.out] at hy1 HT
      rw [← hy0, ← hy1] at hx
      have l0 := y0.toNat_lt
      have l1 := y1.toNat_lt
      obtain ⟨x, hX⟩ := named (y0.toNat + 256 * y1.toNat)
      rw [← hX.out] at hx
      obtain ⟨p, hp⟩ := named (x / 256)
      obtain ⟨q, hq⟩ := named (x % 256)
      have d1 : (x : Int) / 256 = (p : Int) := by rw [hp.out]; omega
      have d2 : (x : Int).tdiv 256 = (p : Int) := by rw [Int.tdiv_eq_ediv_of_nonneg (by omega)]; omega
      have d3 : (x : Int) % 256 = (q : Int) := by rw [hq.out]; omega
      have d4 : (x : Int).tmod 256 = (q : Int) := by rw [Int.tmod_eq_emod_of_nonneg (by omega)]; omega
      have w0 : IntKind.u8.wrap (q : Int) = (y0.toNat : Int) := by rw [IntKind.wrap_u8', hq.out, hX.out]; omega
      have w1 : IntKind.u8.wrap (p : Int) = (y1.toNat : Int) := by rw [IntKind.wrap_u8', hp.out, hX.out]; omega
      have w2 : IntKind.u64.wrap (p : Int) = (p : Int) := by rw [IntKind.wrap_u64, hp.out, hX.out]; omega
      have w3 : IntKind.u64.wrap (q : Int) = (q : Int) := by rw [IntKind.wrap_u64, hq.out, hX.out]; omega
      have hrd := reads_two wr y0 y1
      have hwl : Hid (w.heap.size < wr.heap.size) := Lib.hid hb1.lt
      have HB1 := Lib.hid hb1
      clear hy0 hy1 hb1
      go_wp2_with fail
      go_region_held3 (fun w' => w'.cell? ⟨w.heap.size, k, none⟩ = some (Value.int .u64 (x : Int)))
        (first
          | go_keep
          | (rw [World.cell?_of_block (hgrow1.block w.heap.size (by have := hwl.out; simp; omega) (fun e => by have h9 := (hown.lt _ e.symm).1; omega))]; assumption))
        ((refine step_append_any _ (by rfl) _ _ 22 (by rfl) (w.heap.size + 1) 5 i0 (.int .u8 0) 1 1 Tryd.underlying22 hi hz0 hz1 hz2 rfl (by decide) _ _ _ (by rfl) ((hown.alloc _).drew) (wr.heap.size + 1) _ 2 2 (Lib.byteCells [y0, y1]) (by rfl) (by exact hrd) (Lib.byteCells_one _) (by unfold maxLen; omega) (by omega) (by have := hwl.out; simp; omega) ?_; intro v1 w1 hown1 hgrow1 hat1))
      all_goals
        have hown2 : w1.ownsRow (w.heap.size + 1) 5 1 v1 (2 * (k + 1)) (Lib.byteCells ((fbytes n).take (2 * (k + 1)))) := by
          rw [HT.out, Lib.byteCells_append, show 2 * (k + 1) = 2 * k + 2 by omega]
          exact hown1
        have hbel2 : Below w.heap.size w w1 := ((hbel.alloc hsz _).drew).grown hgrow1 (by simp; omega) (fun k hk => by have := (hown.lt k hk).1; omega)
        have hb2 : Blk w1 w.heap.size 35 (limF n) := ((HB1.out.alloc _).drew).grown hgrow1 (fun e => by have h9 := (hown.lt _ e.symm).1; omega)
        clear hown hown1 hgrow1 hat1 hrd
        go_wp2
        go_roundw
        case rel => exact ⟨k + 1, by omega, by go_num, hown2, hb2, hbel2⟩
        case measure => simp [intOf]; omega
    · obtain rfl : k = 16 := by omega
      rw [show 2 * 16 = 32 from rfl, List.take_of_length_le (by rw [fbytes_length]; omega)] at hown
      have HO := Lib.hid hown
      have HBL := Lib.hid hbel
      clear hown hb1 hbel
      go_wp2
      go_ret
      exact ⟨u3, rfl, HO.out, HBL.out⟩
end Go.Proofs.YtphlehinjooncaaDoor
