/-
  The contracts of sha's Of, of Sum of a nil hash, and of the law file's awake. Conditions: at most 2^38 bytes.
-/
import Derived.Test.YtblielcmjdnlfaaShaSum
set_option linter.unusedVariables false
namespace Go.Proofs.Ytblielcmjdnlfaa
open Go Go.Proofs Go.RowKit Sha5

/-- A slice of slices of bytes reads as these lists. -/
def RowsR (w : World) (B : Nat) (A : Option Addr) (n : Nat) (ls : List (List UInt8)) : Prop :=
  ls.length = n ∧ ∀ i, i < n → ∃ ad Ai ni ci, A = some ad ∧ ad.block < B ∧ w.cell? (ad.add i) = some (.slice Ai ni ci) ∧ Reads w B 1 Ai ni (Lib.byteCells (ls.getD i [])) ∧ ni ≤ ci
theorem RowsR.old {w w' : World} {B n : Nat} {A : Option Addr} {ls : List (List UInt8)} (h : RowsR w B A n ls) (hb : Below w.heap.size w w') (hB : B ≤ w.heap.size) : RowsR w' B A n ls :=
  ⟨h.1, fun i hi => by
    obtain ⟨ad, Ai, ni, ci, h1, h2, h3, h4, h5⟩ := h.2 i hi
    exact ⟨ad, Ai, ni, ci, h1, h2, (hb.cell (by rw [block_of_add]; omega)).trans h3, h4.keep (fun p hp => hb.cell (by omega)), h5⟩⟩
theorem RowsR.nil_ (w : World) (B : Nat) : RowsR w B none 0 [] := ⟨rfl, fun i hi => absurd hi (by omega)⟩
theorem src_reads {w : World} {B g : Nat} {A : Option Addr} {n : Nat} {l : List UInt8} (h : Reads w B 1 A n (Lib.byteCells l)) (hB : B ≤ g) (hw : B ≤ w.heap.size) : Src w g A n l :=
  ⟨by have := h.1; simpa [Lib.byteCells_length] using this, fun hn => by
    obtain ⟨ad, e, h1, h2⟩ := h.2 hn
    exact ⟨ad, e, by omega, by omega, h2⟩⟩
theorem flatten_take (ls : List (List UInt8)) (k : Nat) (hk : k < ls.length) : (ls.take (k + 1)).flatten = (ls.take k).flatten ++ ls.getD k [] := by
  rw [List.take_succ_eq_append_getElem hk, List.flatten_append, List.getD_eq_getElem?_getD, List.getElem?_eq_getElem hk]
  simp
theorem flatten_le (ls : List (List UInt8)) (k : Nat) : (ls.take k).flatten.length ≤ ls.flatten.length := by
  have h : ls.flatten = (ls.take k).flatten ++ (ls.drop k).flatten := by rw [← List.flatten_append, List.take_append_drop]
  rw [h, List.length_append]; omega

def SumEnd (D : List UInt8) (w : World) (e : Ending) (w' : World) : Prop := e = .returned (.agg (bytesA (sumOf D))) ∧ Below w.heap.size w w'

set_option maxHeartbeats 4000000 in
set_option maxRecDepth 100000 in
theorem of_any (A : Option Addr) (n c B : Nat) (ls : List (List UInt8)) (w : World) (hr : RowsR w B A n ls) (hB : B ≤ w.heap.size) (hN : ls.flatten.length ≤ 274877906944) (hn : n ≤ 4611686018427387904) :
    Calls Try.prog 9 #[.slice A n c] w (SumEnd ls.flatten w) := by
  obtain ⟨z, hz⟩ : ∃ z, Hid (z = (Array.replicate 64 (Value.int .u8 0))) := ⟨_, Lib.hid rfl⟩
  have hz0 : ∀ W, (zeroValue 25).run Try.prog W = .ok (.agg z) W := by
    rw [hz.out]; exact (zero_of_info (n := 64) (by kernel_rfl)).1
  have hzs : Hid (z.size = 64) := by show _ = _; rw [hz.out]; simp
  have hlen := Lib.hid hr.1
  have HR := Lib.hid hr
  obtain ⟨R, hR⟩ : ∃ R, Hid (R = bytesA (sumOf ls.flatten)) := ⟨_, Lib.hid rfl⟩
  have hbs : Hid ((Try.prog.info? 25).map (·.size) = some R.size) := by
    show _ = _; rw [hR.out, bytesA_size, sumOf_length]; exact info25
  have hb1 : Hid (R.all (·.oneCell') = true) := by show _ = _; rw [hR.out]; exact bytesA_one _
  have hzz : Hid (z.size = R.size) := by show _ = _; rw [hzs.out, hR.out, bytesA_size, sumOf_length]
  clear hr
  go_enter Try.func9, Try.ntmps9
  go_wp2_with fail
  refine (new_any _).mono ?_
  rintro e w1 ⟨g, rfl, hg1, hH1, hbel1⟩
  have hb0 : Below w.heap.size w (w.alloc (.cells z 25)) := (Below.refl _ _).alloc (Nat.le_refl _) _
  have hz1 := Lib.hid ((Blk.new w 25 z).old hbel1)
  have hbw := Lib.hid (hb0.trans (hbel1.mono hb0.size))
  have hgw : w.heap.size < g := by simp at hg1; omega
  have HH1 := Lib.hid hH1
  clear hH1 hbel1 hb0 hg1 hz0
  go_wp2_with fail
  go_loopg [5, 9] n (fun gh _ iv wr => ∃ k : Nat, gh + k = n ∧ iv = .int .i64 (k : Nat) ∧ HashAt wr g (ls.take k).flatten ∧ Blk wr w.heap.size 25 z ∧ Below w.heap.size w wr)
  case atStart => exact ⟨0, by omega, rfl, HH1.out, hz1.out, hbw.out⟩
  case round =>
    obtain ⟨k, hk0, rfl, hHk, hzk, hbk⟩ := hrel
    have HK0 := Lib.hid hk0
    have HHK := Lib.hid hHk
    have HZK := Lib.hid hzk
    have HBK := Lib.hid hbk
    clear hk0 hHk hzk hbk
    by_cases hlt : k < n
    · obtain ⟨ad, Ai, ni, ci, rfl, h2, h3, h4, h5⟩ := ((HR.out).old HBK.out hB).2 k hlt
      have hft := flatten_take ls k (by rw [hlen.out]; exact hlt)
      have hfl := flatten_le ls (k + 1)
      rw [hft, List.length_append] at hfl
      have hsr := src_reads (g := g) h4 (by omega) (by have := HBK.out.size; omega)
      have hW := Lib.hid (write_any g _ _ Ai ni ci wr HHK.out hsr h5 (by rw [← hsr.1]; omega))
      have HFT := Lib.hid hft
      clear h4 hsr hft hfl
      go_wp2_with fail
      refine hW.out.mono ?_
      rintro e w2 ⟨rfl, hH2, hg2⟩
      have hz2 := Lib.hid (HZK.out.grown hg2 (by intro e; injection e with e; omega))
      have hb2 := Lib.hid (HBK.out.grown hg2 HBK.out.size (by intro j hj; injection hj with hj; omega))
      rw [← HFT.out] at hH2
      have hH3 := Lib.hid hH2
      clear hH2 hg2
      go_wp2_with fail
      go_roundg (gk - 1)
      case measure => have := HK0.out; omega
      case rel => exact ⟨k + 1, by have := HK0.out; omega, by go_num, hH3.out, hz2.out, hb2.out⟩
    · obtain rfl : k = n := by have := HK0.out; omega
      have hall : (ls.take k).flatten = ls.flatten := by rw [List.take_of_length_le (by rw [hlen.out]; omega)]
      have hS := sum_any g _ wr HHK.out (by rw [hall]; omega)
      rw [hall, ← hR.out] at hS
      have HS := Lib.hid hS
      clear hS hall
      go_wp2_with fail
      refine HS.out.mono ?_
      rintro e w2 ⟨rfl, hb2⟩
      have HZ2 := Lib.hid (HZK.out.old hb2)
      have HB2 := Lib.hid (HBK.out.trans (hb2.mono HBK.out.size))
      clear hb2
      go_wp2_with (first | (refine wpList_store_row rfl 25 (.tmp 2) (.tmp 18) rfl w.heap.size R rfl rfl 25 z HZ2.out hbs.out hzz.out hb1.out ?_) | fail)
      refine bodyPost_ret (v := .agg R) ?_ rfl ⟨by rw [hR.out], below_row HB2.out (Nat.le_refl _) _⟩
      exact results_cell_row Try.results9 _ _ w.heap.size 25 R (0, 0) _ rfl (HZ2.out.row R) Try.underlying25 rfl hbs.out

set_option maxHeartbeats 4000000 in
set_option maxRecDepth 100000 in
theorem sum_nil (w : World) : Calls Try.prog 14 #[.pointer none] w (SumEnd [] w) := by
  obtain ⟨z, hz⟩ : ∃ z, Hid (z = (Array.replicate 64 (Value.int .u8 0))) := ⟨_, Lib.hid rfl⟩
  have hz0 : ∀ W, (zeroValue 25).run Try.prog W = .ok (.agg z) W := by
    rw [hz.out]; exact (zero_of_info (n := 64) (by kernel_rfl)).1
  have hzs : Hid (z.size = 64) := by show _ = _; rw [hz.out]; simp
  obtain ⟨R, hR⟩ : ∃ R, Hid (R = bytesA (sumOf [])) := ⟨_, Lib.hid rfl⟩
  have hbs : Hid ((Try.prog.info? 25).map (·.size) = some R.size) := by
    show _ = _; rw [hR.out, bytesA_size, sumOf_length]; exact info25
  have hb1 : Hid (R.all (·.oneCell') = true) := by show _ = _; rw [hR.out]; exact bytesA_one _
  have hzz : Hid (z.size = R.size) := by show _ = _; rw [hzs.out, hR.out, bytesA_size, sumOf_length]
  go_enter Try.func14, Try.ntmps14
  go_wp2_with fail
  refine (of_any none 0 0 0 [] _ (RowsR.nil_ _ _) (Nat.zero_le _) (by simp) (by omega)).mono ?_
  rintro e w2 ⟨rfl, hb2⟩
  have hb0 : Below w.heap.size w (w.alloc (.cells z 25)) := (Below.refl _ _).alloc (Nat.le_refl _) _
  have HZ2 := Lib.hid ((Blk.new w 25 z).old hb2)
  have HB2 := Lib.hid (hb0.trans (hb2.mono hb0.size))
  rw [show ([] : List (List UInt8)).flatten = [] from rfl, ← hR.out]
  clear hb2 hb0 hz0
  go_wp2_with (first | (refine wpList_store_row rfl 25 (.tmp 2) (.tmp 6) rfl w.heap.size R rfl rfl 25 z HZ2.out hbs.out hzz.out hb1.out ?_) | fail)
  refine bodyPost_ret (v := .agg R) ?_ rfl ⟨by rw [hR.out], below_row HB2.out (Nat.le_refl _) _⟩
  exact results_cell_row Try.results14 _ _ w.heap.size 25 R (0, 0) _ rfl (HZ2.out.row R) Try.underlying25 rfl hbs.out
end Go.Proofs.Ytblielcmjdnlfaa
