/-
  The contract of sha's Write: bytes come behind what was written. Conditions: the bytes lie in another block than the hash; all in all at most 2^40 bytes.
-/
import Derived.Test.YtblielcmjdnlfaaShaStir
import Derived.Test.YtblielcmjdnlfaaShaDataM
import Derived.Laws.CopyOwn
set_option linter.unusedVariables false
set_option linter.unusedSimpArgs false
namespace Go.Proofs.Ytblielcmjdnlfaa
open Go Go.Proofs Go.RowKit Sha5

set_option maxHeartbeats 400000 in
theorem filled_any (g N : Nat) (w : World) (hc : w.cell? ⟨g, 216, none⟩ = some (.int .u64 (N : Int))) (hN : N ≤ 1099511627776) :
    Calls Try.prog 22 #[.pointer (some ⟨g, 0, none⟩)] w fun e w' => e = .returned (.int .i64 ((N % 128 : Nat) : Int)) ∧ w = w' := by
  go_enter Try.func22, Try.ntmps22
  go_wp2
  go_ret
  refine ⟨ret_int ?_, rfl⟩
  omega

/-- A slice that is read lies in no block of the hash's. -/
def Src (w : World) (g : Nat) (A : Option Addr) (n : Nat) (l : List UInt8) : Prop :=
  l.length = n ∧ (0 < n → ∃ ad, A = some ad ∧ ad.block ≠ g ∧ ad.block < w.heap.size ∧ ∀ j u, (Lib.byteCells l)[j]? = some u → w.cell? (ad.add j) = some u)
theorem Src.grown {w w' : World} {g n : Nat} {A : Option Addr} {l : List UInt8} (h : Src w g A n l) (hg : w.grownBy w' (some g)) : Src w' g A n l :=
  ⟨h.1, fun hn => by
    obtain ⟨ad, e, h1, h2, h3⟩ := h.2 hn
    exact ⟨ad, e, h1, Nat.lt_of_lt_of_le h2 hg.size, fun j u hu => (hg.cell_far (ad.add j) (by rw [block_of_add]; exact h2) (by rw [block_of_add]; intro e; injection e with e; exact h1 e)).trans (h3 j u hu)⟩⟩
theorem byteCells_one (l : List UInt8) : ∀ v ∈ Lib.byteCells l, v.oneCell' = true := by
  intro v hv
  simp only [Lib.byteCells, List.mem_map] at hv
  obtain ⟨b, _, rfl⟩ := hv
  rfl
theorem byteCells_drop (l : List UInt8) (k : Nat) : Lib.byteCells (l.drop k) = (Lib.byteCells l).drop k := by simp [Lib.byteCells, List.map_drop]
theorem byteCells_take (l : List UInt8) (k : Nat) : Lib.byteCells (l.take k) = (Lib.byteCells l).take k := by simp [Lib.byteCells, List.map_take]
theorem Src.cut {w : World} {g n k c : Nat} {A : Option Addr} {l : List UInt8} (h : Src w g A n l) (hk : k ≤ n) (hc : n ≤ c) : Src w g (if c = k then A else A.map (·.add k)) (n - k) (l.drop k) := by
  refine ⟨by rw [List.length_drop, h.1], fun hn => ?_⟩
  obtain ⟨ad, rfl, h1, h2, h3⟩ := h.2 (by omega)
  rw [if_neg (by omega)]
  refine ⟨ad.add k, rfl, by rw [block_of_add]; exact h1, by rw [block_of_add]; exact h2, fun j u hu => ?_⟩
  rw [add_of_add]
  exact h3 _ u (by rw [byteCells_drop, List.getElem?_drop] at hu; exact hu)

def HashAt (w : World) (g : Nat) (D : List UInt8) : Prop := ∃ s b, Blk w g 48 (hashA s.list b D.length) ∧ HashOk s b D
theorem HashAt.drew {w w' : World} {g : Nat} {D : List UInt8} (h : HashAt w g D) (hd : Below w.heap.size w w') : HashAt w' g D := by
  obtain ⟨s, b, h1, h2⟩ := h
  exact ⟨s, b, h1.old hd, h2⟩
def WriteEnd (g : Nat) (D l : List UInt8) (w : World) (e : Ending) (w' : World) : Prop := e = .returned (.tuple #[]) ∧ HashAt w' g (D ++ l) ∧ w.grownBy w' (some g)

theorem hashA_laid (l : List Nat) (b x : List UInt8) (n f : Nat) (hl : l.length = 8) (hb : b.length = 128) (hf : f + x.length ≤ 128) :
    ((hashA l b n).toList.take (88 + f) ++ (Lib.byteCells x ++ (hashA l b n).toList.drop (88 + f + (Lib.byteCells x).length))).toArray = hashA l (laid b x f) n := by
  have e1 : l.map u64v ++ (KS.map u64v ++ (Lib.byteCells b ++ [u64v n])) = (l.map u64v ++ KS.map u64v) ++ (Lib.byteCells b ++ [u64v n]) := by rw [List.append_assoc]
  have e2 : (l.map u64v ++ KS.map u64v).length = 88 := by simp [hl, KS_length]
  have e3 : (Lib.byteCells b).length = 128 := by rw [Lib.byteCells_length, hb]
  unfold hashA hashL
  rw [e1, Lib.byteCells_length]
  simp only [List.toList_toArray]
  congr 1
  rw [List.take_append, e2, List.take_of_length_le (by omega), show 88 + f - 88 = f by omega, List.take_append_of_le_length (by omega),
    List.drop_append, e2, List.drop_of_length_le (show (l.map u64v ++ KS.map u64v).length ≤ 88 + f + x.length by omega), show 88 + f + x.length - 88 = f + x.length by omega, List.drop_append_of_le_length (by omega), List.nil_append]
  unfold laid
  simp [Lib.byteCells, List.map_take, List.map_drop]

theorem results_none {fn : Func} (h : fn.results = #[]) (tmps : Array Value) (P : Program) (w : World) : (results fn tmps).run P w = .ok (.tuple #[]) w := by simp [results, h]

set_option maxHeartbeats 4000000 in
set_option maxRecDepth 100000 in
theorem write_any (g : Nat) (D l : List UInt8) (A : Option Addr) (n c : Nat) (w : World) (hH : HashAt w g D) (hs : Src w g A n l) (hnc : n ≤ c) (hN : D.length + n ≤ 1099511627776) :
    Calls Try.prog 13 #[.pointer (some ⟨g, 0, none⟩), .slice A n c] w (WriteEnd g D l w) := by
  have hl := hs.1
  have HL := Lib.hid hl
  clear hl
  go_enter Try.func13, Try.ntmps13
  go_wp2
  go_loopw [1, 4] (fun b _ wr => ∃ A' n' c' k, b = .slice A' n' c' ∧ n' ≤ c' ∧ n' + k = n ∧ Src wr g A' n' (l.drop k) ∧ HashAt wr g (D ++ l.take k) ∧ w.grownBy wr (some g)) (fun b _ _ => match b with | .slice _ n' _ => n' | _ => 0)
  case atStart => exact ⟨A, n, c, 0, rfl, hnc, rfl, hs, by simpa using hH, World.grownBy.refl w _⟩
  case round =>
    obtain ⟨A', n', c', k, rfl, hnc', hk, hs', hH', hg'⟩ := hrel
    clear hs hH
    by_cases hpos : 0 < n'
    · obtain ⟨s, b, hB, hok⟩ := hH'
      have hDl : (D ++ l.take k).length = D.length + k := by rw [List.length_append, List.length_take, HL.out]; omega
      obtain ⟨Dk, hDk⟩ : ∃ Dk, Hid (Dk = D ++ l.take k) := ⟨_, Lib.hid rfl⟩
      rw [← hDk.out] at hB hok hDl
      obtain ⟨f, hf⟩ := named (Dk.length % 128)
      obtain ⟨m, hm⟩ := named (Nat.min n' (128 - f))
      obtain ⟨N, hNn⟩ := named Dk.length
      have hf128 : f < 128 := by rw [hf.out]; omega
      have hm1 : 0 < m := by rw [hm.out]; show 0 < min _ _; omega
      have hm2 : m ≤ n' := by rw [hm.out]; exact Nat.min_le_left _ _
      have hm3 : f + m ≤ 128 := by
        have : m ≤ 128 - f := by rw [hm.out]; exact Nat.min_le_right _ _
        omega
      obtain ⟨ad, hA, had1, had2, had3⟩ := hs'.2 hpos
      have HA := Lib.hid hA
      clear hA
      obtain ⟨x, hx⟩ : ∃ x, Hid (x = (l.drop k).take m) := ⟨_, Lib.hid rfl⟩
      have hxl : x.length = m := by rw [hx.out, List.length_take, hs'.1]; omega
      have hsrc : ∀ j v, (Lib.byteCells x)[j]? = some v → wr.cell? (ad.add j) = some v := fun j v hj => by
        refine had3 j v ?_
        rw [hx.out, byteCells_take, List.getElem?_take] at hj
        split at hj
        · exact hj
        · cases hj
      have hcnt : wr.cell? ⟨g, 216, none⟩ = some (.int .u64 (N : Int)) := by rw [hB.cell, hNn.out]; exact hashA_count _ _ _ rfl hok.1
      have hN40 : N ≤ 1099511627776 := by rw [hNn.out, hDl]; omega
      have hfill : ∀ W : World, W.cell? ⟨g, 216, none⟩ = some (.int .u64 (N : Int)) → Calls Try.prog 22 #[.pointer (some ⟨g, 0, none⟩)] W fun e w' => e = .returned (.int .i64 (f : Int)) ∧ w' = W := fun W hW =>
        (filled_any g N W hW hN40).mono fun e w' ⟨h, h'⟩ => ⟨by rw [h, hf.out, hNn.out], h'.symm⟩
      have hfill2 : ∀ W : World, W.cell? ⟨g, 216, none⟩ = some (.int .u64 ((N + m : Nat) : Int)) → Calls Try.prog 22 #[.pointer (some ⟨g, 0, none⟩)] W fun e w' => e = .returned (.int .i64 (((N + m) % 128 : Nat) : Int)) ∧ W = w' := fun W hW =>
        filled_any g (N + m) W hW (by rw [hNn.out, hDl]; omega)
      have HF2 := Lib.hid hfill2
      have hq1 : D ++ l.take (k + m) = Dk ++ x := by rw [hDk.out, hx.out, List.append_assoc, ← List.take_add]
      have hq2 : l.drop (k + m) = (l.drop k).drop m := by rw [List.drop_drop]
      have HQ1 := Lib.hid hq1
      have HQ2 := Lib.hid hq2
      have hlen : (Dk ++ x).length = N + m := by rw [List.length_append, hxl, hNn.out]
      have HLEN := Lib.hid hlen
      clear hfill2 hq1 hq2 hlen
      have HCT : Hid (c' = m → ∀ W, wr.grownBy W (some g) → Src W g A' (n' - m) (l.drop (k + m))) := Lib.hid fun e W hW => by
        have := (hs'.grown hW).cut hm2 hnc'
        rw [if_pos e] at this; rw [HQ2.out]; exact this
      have HCF : Hid (¬ c' = m → ∀ W, wr.grownBy W (some g) → Src W g (A'.map (·.add m)) (n' - m) (l.drop (k + m))) := Lib.hid fun e W hW => by
        have := (hs'.grown hW).cut hm2 hnc'
        rw [if_neg e] at this; rw [HQ2.out]; exact this
      have HF := Lib.hid hfill
      have HSRC := Lib.hid hsrc
      have HB := Lib.hid hB
      have HOK := Lib.hid hok
      have HDL := Lib.hid hDl
      have HXL := Lib.hid hxl
      have HCN := Lib.hid hcnt
      have HSC := Lib.hid hs'
      have HAD := Lib.hid had1
      have HG := Lib.hid hg'
      clear hfill hsrc hB hok hDl hxl had3 hs' hcnt had1 hg'
      have hal : Try.prog.arrayLen 46 = 128 := by kernel_rfl
      have hel : Try.prog.elem 46 = 5 := by kernel_rfl
      have hn128 : ¬ 128 = f := by omega
      have hf0 : (0 : Int) ≤ (f : Int) := by omega
      have hf1 : (f : Int) ≤ 128 := by omega
      go_wp2_with fail
      refine wp_region_still_tail 7 (by kernel_rfl) (by kernel_rfl) ?_
      simp only [List.take_succ_cons, List.take_zero, List.drop_succ_cons, List.drop_zero]
      repeat still_step
      still_call (HF.out _ HCN.out)
      repeat still_step
      refine wpStill_nil ?_
      change wpList _ _ _ _ _ wr.drew
      refine wpList_copy_own rfl (.tmp 15) (.tmp 16) 27 27 rfl 5 Try.underlying27 (by kernel_rfl) g (88 + f) (128 - f) (128 - f) ad n' c' rfl (by show Value.slice A' n' c' = _; rw [HA.out]) (hashA s.list b Dk.length) 48 HB.out.drew (Lib.byteCells x) (by rw [Lib.byteCells_length, HXL.out, hm.out]) HSRC.out (by rw [hashA_size _ _ _ rfl HOK.out.1, Lib.byteCells_length, HXL.out]; omega) (byteCells_one x) ?_
      rw [hashA_laid _ _ _ _ _ rfl HOK.out.1 (by rw [HXL.out]; exact hm3)]
      have hB1 := HB.out.drew.row (hashA s.list (laid b x f) Dk.length)
      have hg1 : wr.grownBy (wr.drew.setRow g (hashA s.list (laid b x f) Dk.length)) (some g) :=
        ⟨rfl, rfl, rfl, by simp, fun j hj hne => setRow_other wr.drew g j _ (fun e => hne (by rw [e]))⟩
      generalize wr.drew.setRow g (hashA s.list (laid b x f) Dk.length) = w1 at *
      rw [Lib.byteCells_length, HXL.out]
      have hbl : Hid ((laid b x f).length = 128) := by show _ = _; rw [laid_length _ _ _ (by rw [HXL.out, HOK.out.1]; exact hm3), HOK.out.1]
      rw [← hNn.out] at hB1
      have hcn1 : w1.cell? ⟨g, 216, none⟩ = some (.int .u64 (N : Int)) := (hB1.cell _).trans (hashA_count _ _ _ rfl hbl.out)
      have hfz : w1.frozen? ⟨g, 216, none⟩ = false := hB1.frozen 216
      have hB2 := hB1.set_ 216 (.int .u64 ((N + m : Nat) : Int))
      rw [hashA_setCount _ _ _ _ rfl hbl.out] at hB2
      have hg2 := hg1.trans (grown_set w1 g 216 (.int .u64 ((N + m : Nat) : Int)))
      have hcn2 := (hB2.cell 216).trans (hashA_count _ _ _ rfl hbl.out)
      have HB2 := Lib.hid hB2
      have HG2 := Lib.hid hg2
      have HC2 := Lib.hid hcn2
      clear hB1 hg1 hB2 hg2 hcn2
      have hwsum : IntKind.u64.wrap ((N : Int) + (m : Int)) = ((N + m : Nat) : Int) := by
        rw [IntKind.wrap_u64]; omega
      by_cases hfull : f + m = 128
      · have hfz2 : (N + m) % 128 = 0 := by
          have := hf.out; have := hNn.out; omega
        have HF3 := HF2.out _ HC2.out
        rw [hfz2] at HF3
        have HF4 := Lib.hid HF3
        have hokn := HOK.out.full (x := x) (by rw [HXL.out, ← hf.out]; exact hfull)
        rw [← hf.out] at hokn
        have HOKN := Lib.hid hokn
        clear hokn HF3 hfz2
        have HST := Lib.hid (stir_any g s (laid b x f) (N + m) _ HB2.out hbl.out HOK.out.ok)
        have hmpos : n' - m < n' := by omega
        go_wp2_with fail
        all_goals
          refine HF4.out.mono ?_
          rintro e w3 ⟨rfl, rfl⟩
          go_wp2_with fail
          refine HST.out.mono ?_
          rintro e w4 ⟨rfl, hB4, hg4⟩
          have hH4 : Hid (HashAt w4 g (D ++ l.take (k + m))) := Lib.hid ⟨_, _, by rw [HQ1.out, HLEN.out]; exact hB4, by rw [HQ1.out]; exact HOKN.out⟩
          have hg5 := Lib.hid ((HG2.out).trans hg4)
          clear hB4 hg4
          go_wp2_with fail
          first
            | exact ⟨⟨_, _, _, k + m, rfl, by omega, by omega, HCT.out (by assumption) _ hg5.out, hH4.out, HG.out.trans hg5.out⟩, hmpos⟩
            | exact ⟨⟨_, _, _, k + m, rfl, by omega, by omega, HCF.out (by assumption) _ hg5.out, hH4.out, HG.out.trans hg5.out⟩, hmpos⟩
      · have hfz2 : ¬ (N + m) % 128 = 0 := by
          have := hf.out; have := hNn.out; omega
        obtain ⟨q, hq⟩ := named ((N + m) % 128)
        rw [← hq.out] at hfz2
        have hq0 : ((q : Int) == 0) = false := by simp; omega
        have HF3 := HF2.out _ HC2.out
        rw [← hq.out] at HF3
        have HF4 := Lib.hid HF3
        have hokn := HOK.out.more (x := x) (by rw [HXL.out, ← hf.out]; exact hm3) (by rw [HXL.out, ← hNn.out, ← hq.out]; exact hfz2)
        rw [← hf.out] at hokn
        have hH4 : Hid (HashAt (w1.setCell ⟨g, 216, none⟩ (.int .u64 ((N + m : Nat) : Int))) g (D ++ l.take (k + m))) := Lib.hid ⟨_, _, by rw [HQ1.out, HLEN.out]; exact HB2.out, by rw [HQ1.out]; exact hokn⟩
        have hg5 := HG2
        clear hokn HF3
        have hmpos : n' - m < n' := by omega
        go_wp2_with fail
        all_goals
          refine HF4.out.mono ?_
          rintro e w3 ⟨rfl, rfl⟩
          go_wp2_with fail
          first
            | exact ⟨⟨_, _, _, k + m, rfl, by omega, by omega, HCT.out (by assumption) _ hg5.out, hH4.out, HG.out.trans hg5.out⟩, hmpos⟩
            | exact ⟨⟨_, _, _, k + m, rfl, by omega, by omega, HCF.out (by assumption) _ hg5.out, hH4.out, HG.out.trans hg5.out⟩, hmpos⟩
    · obtain rfl : n' = 0 := by omega
      have hk' : k = n := by omega
      have hfin : Hid (HashAt wr g (D ++ l)) := by
        have e : l.take k = l := List.take_of_length_le (by rw [HL.out]; omega)
        rw [e] at hH'
        exact hH'
      clear hH' hs'
      go_wp2
      go_end0
      exact ⟨rfl, hfin.out, hg'⟩

set_option maxHeartbeats 400000 in
theorem write_nil (A : Option Addr) (n c : Nat) (w : World) : Calls Try.prog 13 #[.pointer none, .slice A n c] w fun e w' => e = .returned (.tuple #[]) ∧ w = w' := by
  go_enter Try.func13, Try.ntmps13
  go_wp2
  all_goals (refine bodyPost_ret (results_none rfl _ _ _) rfl ?_; exact ⟨rfl, rfl⟩)
end Go.Proofs.Ytblielcmjdnlfaa
