/-
  The contract of the document's filled (package greffierref04): bytes with what is filled up. Conditions: at most 2^39 bytes.
-/
import Derived.Test.YtblielcmjdnlfaaShaRef1
set_option linter.unusedVariables false
namespace Go.Proofs.Ytblielcmjdnlfaa
open Go Go.Proofs Go.RowKit Sha5

/-- the count's bytes, the last k of them told. -/
def eb (x k : Nat) : List UInt8 := List.replicate (16 - k) 0 ++ (wordBytes x).drop (8 - k)
theorem eb_step (x k : Nat) (hk : k < 8) : (eb x k).set (15 - k) (Sha5.byteOf x (7 - k)) = eb x (k + 1) := by
  match k, hk with
  | 0, _ => rfl
  | 1, _ => rfl
  | 2, _ => rfl
  | 3, _ => rfl
  | 4, _ => rfl
  | 5, _ => rfl
  | 6, _ => rfl
  | 7, _ => rfl
theorem eb_length (x k : Nat) (hk : k ≤ 8) : (eb x k).length = 16 := by simp [eb, wordBytes_length]; omega
theorem eb_all (x n : Nat) (hx : x = 8 * n) (hn : x < M) : eb x 8 = wordBytes (8 * n / M) ++ wordBytes (8 * n % M) := by
  have h1 : 8 * n / M = 0 := Nat.div_eq_of_lt (by omega)
  have h2 : 8 * n % M = 8 * n := Nat.mod_eq_of_lt (by omega)
  rw [h1, h2, ← hx]; rfl
theorem bytesA_set (l : List UInt8) (i : Nat) (y : UInt8) : (bytesA l).setIfInBounds i (.int .u8 (y.toNat : Int)) = bytesA (l.set i y) := by
  simp [bytesA, Lib.byteCells, List.map_set]
theorem madeBytes : madeCells #[Value.int .u8 0] 16 = bytesA (eb 0 0) := by kernel_rfl

theorem reads_block (w : World) (l : List UInt8) : Reads (w.alloc (.cells (bytesA l) 5)) (w.heap.size + 1) 1 (some ⟨w.heap.size, 0, none⟩) l.length (Lib.byteCells l) := by
  refine ⟨by simp [Lib.byteCells_length], fun _ => ⟨_, rfl, by simp, fun j u hj => ?_⟩⟩
  rw [show (⟨w.heap.size, 0, none⟩ : Addr).add j = ⟨w.heap.size, j, none⟩ from by unfold Addr.add; split <;> simp_all]
  rw [(Blk.new w 5 (bytesA l)).cell, bytesA, List.getElem?_toArray]
  exact hj

set_option maxHeartbeats 4000000 in
set_option maxRecDepth 100000 in
theorem refFilled_any (A : Option Addr) (n c B : Nat) (l : List UInt8) (w : World) (hr : Reads w B 1 A n (Lib.byteCells l)) (hn : n ≤ 549755813888) (hBw : B ≤ w.heap.size) :
    Calls Try.prog 17 #[.slice A n c] w (GrowEnd w.heap.size (filled l) w) := by
  have hl : l.length = n := by have := hr.1; simpa [Lib.byteCells_length] using this
  have HL := Lib.hid hl
  clear hl
  obtain ⟨i0, hi, hz0, hz1, hz2⟩ := info_parts infoByte
  have hoe := owns_empty w
  have hr0 := hr.alloc hBw (.cells #[] 5)
  have hbe : Below w.heap.size w (w.alloc (.cells #[] 5)) := (Below.refl _ _).alloc (Nat.le_refl _) _
  go_enter Try.func17, Try.ntmps17
  go_wp2_with (at_builtin; refine wpList_append_any _ rfl (.tmp 7) (.tmp 8) 27 rfl w.heap.size 5 i0 (.int .u8 0) 1 1 Try.underlying27 hi hz0 hz1 hz2 rfl (by decide) _ 0 [] rfl hoe B A n c (Lib.byteCells l) rfl hr0 (Lib.byteCells_one _) (by unfold maxLen; omega) (by omega) (by simp) ?_)
  intro v1 w1 ho1 hg1 _
  have hb1 : Below w.heap.size w w1 := hbe.grown hg1 (by simp) (fun k hk => (hoe.lt k hk).1)
  clear hoe hr0 hbe hg1
  have hs1 := hb1.size
  have hr1 := Lib.hid (reads_one w1 128 (0, 0))
  go_wp2_with (at_builtin; refine wpList_append_any _ rfl (.tmp 10) (.tmp 11) 27 rfl w.heap.size 5 i0 (.int .u8 0) 1 1 Try.underlying27 hi hz0 hz1 hz2 rfl (by decide) _ _ _ rfl (ho1.alloc _) (w1.heap.size + 1) _ 1 1 (Lib.byteCells [128]) rfl hr1.out (Lib.byteCells_one _) (by unfold maxLen; omega) (by omega) (by simp; omega) ?_)
  intro v2 w2 ho2 hg2 _
  have hb2 : Below w.heap.size w w2 := (hb1.alloc hs1 _).grown hg2 (by simp; omega) (fun k hk => (ho1.lt k hk).1)
  have ho2' : Hid (w2.ownsRow w.heap.size 5 1 v2 (n + 1) (Lib.byteCells (l ++ 128 :: List.replicate 0 0))) := by
    show World.ownsRow _ _ _ _ _ _ _
    rw [List.replicate_zero, Lib.byteCells_append]; exact ho2
  have HB2 := Lib.hid hb2
  obtain ⟨Z, hZ⟩ := named (zerosN n)
  have hZl : Z < 128 := by rw [hZ.out]; exact zerosN_lt n
  obtain ⟨A2, c2, rfl, _⟩ := own_form_cap ho2
  clear ho1 hg2 hr1 hb1 hb2 ho2 hs1
  go_wp2_with fail
  go_loopw [3] (fun v wr => ∃ (k m : Nat) (A3 : Option Addr) (c3 : Nat), k ≤ Z ∧ m ≤ n + 1 + k ∧ n + 1 + k ≤ m ∧ v = .slice A3 m c3 ∧ wr.ownsRow w.heap.size 5 1 (.slice A3 m c3) m (Lib.byteCells (l ++ 128 :: List.replicate k 0)) ∧ Below w.heap.size w wr) (fun v _ => match v with | .slice _ m _ => n + 1 + 200 - m | _ => 0)
  case atStart => exact ⟨0, n + 1, A2, c2, Nat.zero_le _, Nat.le_refl _, Nat.le_refl _, rfl, ho2'.out, HB2.out⟩
  case round =>
    obtain ⟨k, m, A3, c3, hk, hm1, hm2, rfl, ho3, hb3⟩ := hrel
    clear ho2' HB2
    obtain rfl : m = n + 1 + k := by omega
    have hs3 := hb3.size
    by_cases hlt : k < Z
    · have hq : (((((n + 1 + k : Nat) : Int)) % 128) != 112) = true := by
        have := zerosN_least n k (by rw [← hZ.out]; exact hlt)
        simp; omega
      obtain ⟨L, hL⟩ := named (n + 1 + k)
      rw [← hL.out] at hq ho3 ⊢
      have hLl : L ≤ n + 129 := by rw [hL.out]; omega
      have hr3 := Lib.hid (reads_one wr 0 (0, 0))
      go_wp2_with (at_builtin; refine wpList_append_any _ rfl (.tmp 17) (.tmp 18) 27 rfl w.heap.size 5 i0 (.int .u8 0) 1 1 Try.underlying27 hi hz0 hz1 hz2 rfl (by decide) _ _ _ rfl (ho3.alloc _) (wr.heap.size + 1) _ 1 1 (Lib.byteCells [0]) rfl hr3.out (Lib.byteCells_one _) (by unfold maxLen; omega) (by omega) (by simp; omega) ?_)
      intro v4 w4 ho4 hg4 _
      have hb4 : Below w.heap.size w w4 := (hb3.alloc hs3 _).grown hg4 (by simp; omega) (fun k hk => (ho3.lt k hk).1)
      obtain ⟨A4, c4, rfl, _⟩ := own_form_cap ho4
      have ho5 : Hid (w4.ownsRow w.heap.size 5 1 (.slice A4 (L + 1) c4) (L + 1) (Lib.byteCells (l ++ 128 :: List.replicate (k + 1) 0))) := by
        have e1 : l ++ 128 :: List.replicate (k + 1) 0 = (l ++ 128 :: List.replicate k 0) ++ [0] := by
          rw [List.replicate_succ', List.append_assoc]; rfl
        show World.ownsRow _ _ _ _ _ _ _
        rw [e1, Lib.byteCells_append]; exact ho4
      clear ho4 hg4 hr3 ho3
      go_wp2_with fail
      go_roundw
      case rel => exact ⟨k + 1, L + 1, A4, c4, by omega, by have := hL.out; omega, by have := hL.out; omega, rfl, ho5.out, hb4⟩
      case measure => show n + 1 + 200 - (L + 1) < n + 1 + 200 - L; omega
    · obtain rfl : k = Z := by omega
      have hq : (((((n + 1 + k : Nat) : Int)) % 128) != 112) = false := by
        have := zerosN_spec n
        rw [← hZ.out] at this
        simp; omega
      obtain ⟨L, hL⟩ := named (n + 1 + k)
      rw [← hL.out] at hq ho3 ⊢
      have hLl : L ≤ n + 129 := by rw [hL.out]; omega
      obtain ⟨x, hx⟩ := named (8 * n)
      have hxl : x < M := by rw [hx.out]; unfold M; omega
      have hx2 : 8 * (n : Int) = (x : Int) := by rw [hx.out]; simp
      have hmk : ∀ W : World, (Instr.makeSlice 27 (.int .i64 16) (.int .i64 16)).run Try.prog W = .ok (.slice (some ⟨W.heap.size, 0, none⟩) 16 16) (W.alloc (.cells (bytesA (eb 0 0)) 5)) := fun W => by
        rw [← madeBytes]
        exact run_make_row' (P := Try.prog) 27 5 (.int .u8 0) 1 Try.underlying27 infoByte rfl .i64 .i64 16 (by omega) (by omega) W
      have hxi : (x : Int) ≤ 4398046511104 := by omega
      have HO3 := Lib.hid ho3
      have HB3 := Lib.hid hb3
      obtain ⟨E0, hE0⟩ : ∃ E0, Hid (E0 = bytesA (eb 0 0)) := ⟨_, Lib.hid rfl⟩
      rw [← hE0.out] at hmk
      clear ho3 hb3 hm1 hm2
      go_wp2_with fail
      clear hmk
      go_loopw [4, 6] (fun nv iv w2 => ∃ (j y : Nat) (d : Array Value), 7 ≤ j ∧ j ≤ 15 ∧ iv = .int .i64 (j : Nat) ∧ nv = .int .i64 (y : Nat) ∧ Hid (y = x / 2 ^ (8 * (15 - j))) ∧ Hid (d = bytesA (eb x (15 - j))) ∧ w2 = wr.alloc (.cells d 5)) (fun _ iv _ => (intOf iv).toNat)
      case atStart => exact ⟨15, x, E0, by omega, by omega, rfl, rfl, Lib.hid (by simp), Lib.hid (by rw [hE0.out]; rfl), rfl⟩
      case round =>
        obtain ⟨j, y, d, hj1, hj2, rfl, rfl, hy, hd, rfl⟩ := hrel
        have hyl : y ≤ 4398046511104 := by
          have : y ≤ x := by rw [hy.out]; exact Nat.div_le_self _ _
          omega
        by_cases hj8 : 8 ≤ j
        · have hstep := eb_step x (15 - j) (by omega)
          rw [show 15 - (15 - j) = j by omega, show 7 - (15 - j) = j - 8 by omega, show 15 - j + 1 = 15 - (j - 1) by omega] at hstep
          have hbt := byteOf_nat x (j - 8)
          rw [show 56 - 8 * (j - 8) = 8 * (15 - j) by omega, ← hy.out] at hbt
          generalize Sha5.byteOf x (j - 8) = bt at *
          have hset : Hid (d.setIfInBounds j (.int .u8 (bt.toNat : Int)) = bytesA (eb x (15 - (j - 1)))) := by
            show _ = _
            rw [hd.out, bytesA_set, hstep]
          have hyn : Hid (y / 256 = x / 2 ^ (8 * (15 - (j - 1)))) := by
            show _ = _
            rw [hy.out, Nat.div_div_eq_div_mul, show 8 * (15 - (j - 1)) = 8 * (15 - j) + 8 by omega, Nat.pow_add]
          have hds : d.size = 16 := by rw [hd.out, bytesA_size, eb_length x _ (by omega)]
          have hdj : ∃ u, d[j]? = some u := ⟨_, Array.getElem?_eq_getElem (by omega)⟩
          obtain ⟨u, hdj⟩ := hdj
          have hb1 : (y : Int) % 256 = (bt.toNat : Int) := by rw [hbt]; simp
          have hb2 : IntKind.u8.wrap (bt.toNat : Int) = (bt.toNat : Int) := by rw [IntKind.wrap_u8']; have := bt.toNat_lt; omega
          clear hstep hbt hds
          go_wp2
          exact ⟨⟨j - 1, y / 256, _, by omega, by omega, by rw [show ((j : Int) - 1) = ((j - 1 : Nat) : Int) from by omega], by simp, hyn, hset, rfl⟩, by simp [intOf]; omega⟩
        · obtain rfl : j = 7 := by omega
          have hd8 : Hid (d = bytesA (eb x 8)) := hd
          have hrd := reads_block wr (eb x 8)
          rw [← hd8.out, eb_length x 8 (by omega)] at hrd
          have hs3 := HB3.out.size
          go_wp2_with (at_builtin; refine wpList_append_any _ rfl (.tmp 36) (.tmp 37) 27 rfl w.heap.size 5 i0 (.int .u8 0) 1 1 Try.underlying27 hi hz0 hz1 hz2 rfl (by decide) _ _ _ rfl (HO3.out.alloc _) (wr.heap.size + 1) _ 16 16 (Lib.byteCells (eb x 8)) rfl hrd (Lib.byteCells_one _) (by unfold maxLen; omega) (by omega) (by simp; omega) ?_)
          intro v5 w5 ho5 hg5 _
          have hb5 : Below w.heap.size w w5 := (HB3.out.alloc hs3 _).grown hg5 (by simp; omega) (fun k hk => (HO3.out.lt k hk).1)
          have hfin : Hid (w5.ownsRow w.heap.size 5 1 v5 (filled l).length (Lib.byteCells (filled l))) := by
            have e1 : filled l = (l ++ 128 :: List.replicate k 0) ++ eb x 8 := by
              unfold filled
              rw [HL.out, ← hZ.out, eb_all x n hx.out hxl, List.append_assoc]; rfl
            have e2 : (filled l).length = L + 16 := by
              rw [e1, List.length_append, eb_length x 8 (by omega), List.length_append, HL.out, hL.out]; simp; omega
            show World.ownsRow _ _ _ _ _ _ _
            rw [e2, e1, Lib.byteCells_append]; exact ho5
          clear ho5 hg5 hrd
          go_wp2
          go_ret
          exact ⟨v5, rfl, hfin.out, hb5⟩
end Go.Proofs.Ytblielcmjdnlfaa
