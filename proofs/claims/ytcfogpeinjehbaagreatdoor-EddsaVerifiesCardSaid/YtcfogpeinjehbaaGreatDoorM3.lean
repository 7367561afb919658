/-
  Several texts in one: ShaRef3, RowBytes, ShaRowsW, FldRefA, FldRefMul, FldPow, FldRoot, FldRefPow, FldRefRoot, PtF, PtRef1, PtRoot, PtVal, PtZero, PtRef2. Conditions: those that each theorem states.
-/
import Derived.Test.YtcfogpeinjehbaaGreatDoorM2
import Derived.StillTailTactics
import Derived.Deep.LoopGhost
import Derived.Deep.RegionHeld3
import Derived.OpenShut
import Derived.Deep.Matrix
import Derived.Deep.DeepCutAuto
import Derived.Deep.CutBlock
set_option linter.unusedVariables false
set_option linter.unusedSimpArgs false
open Go.Lib (hid)
open Go.Proofs.YtcfogpeinjehbaaGreatDoor (zA zB zC zD zE zF)

section
namespace Go.Proofs.YtcfogpeinjehbaaGreatDoor.Sha
open Go Go.Proofs Go.RowKit Sha5
theorem info36 : (Tryz.prog.info? 40).map (fun i => (i.zero, i.size, i.bytes)) = some (some (.int .u64 0), 1, 8) := by kernel_rfl
theorem madeWords : madeCells #[Value.int .u64 0] 80 = u64s (List.replicate 80 0) := by kernel_rfl
theorem first_st (w : World) : Calls Tryz.prog 81 #[] w fun e w' => e = .returned (.agg (stA H0)) ∧ Below w.heap.size w w' := first_any w
theorem turn_same (x n : Nat) (hx : x < M) (h0 : 0 < n) (h1 : n < 64) (w : World) :
  Calls Tryz.prog 84 #[.int .u64 (x : Int), .int .u64 (n : Int)] w fun e w' => e = .returned (.int .u64 (rot x n : Nat)) ∧ w' = w :=
 (turn_any x n hx h0 h1 w).mono fun _ _ ⟨h, h'⟩ => ⟨h, h'.symm⟩
theorem stA_get (s : St) (i : Nat) (h : i < 8) : (stA s)[i]? = some (.int .u64 ((s.list.getD i 0 : Nat) : Int)) := by rw [stA_eq]; exact u64s_get _ _ h
theorem owns_more {w : World} {B B' : Nat} {v : Value} {n : Nat} {xs : List Value} (h : w.ownsRow B 5 1 v n xs) (hB : B' ≤ B) : w.ownsRow B' 5 1 v n xs := by
 refine ⟨h.1, ?_⟩
 rcases h.2 with h1 | ⟨g, cap, cur, h1, h2, h3⟩
 ·exact .inl h1
 ·exact .inr ⟨g, cap, cur, h1, by omega, h3⟩
/-- in the loop over the blocks. -/
def Out (gs gk : Nat) (A : Option Addr) (L : Nat) (all : List UInt8) (w : World) (k : Nat) (wr : World) : Prop :=
 Blk wr gs 116 (stA (blocks KS H0 all k)) ∧ Blk wr gk 118 (u64s KS) ∧ Src wr gs A L all ∧ Below w.heap.size w wr
theorem Out.old {gs gk L k : Nat} {A : Option Addr} {all : List UInt8} {w wr w' : World} (h : Out gs gk A L all w k wr) (hb : Below wr.heap.size wr w') : Out gs gk A L all w k w' :=
 ⟨h.1.old hb, h.2.1.old hb, h.2.2.1.grown (grown_below hb _), h.2.2.2.trans (hb.mono h.2.2.2.size)⟩
theorem filled_blocks (l : List UInt8) : ∃ q, (filled l).length = 128 * q := by
 unfold filled
 have h := zerosN_spec l.length
 refine ⟨(l.length + 1 + zerosN l.length + 16) / 128, ?_⟩
 simp only [List.length_append, List.length_cons, List.length_replicate, wordBytes, List.length_map, List.length_range]
 omega
theorem filled_length (l : List UInt8) : (filled l).length ≤ l.length + 145 := by
 unfold filled
 have h := zerosN_lt l.length
 simp only [List.length_append, List.length_cons, List.length_replicate, wordBytes, List.length_map, List.length_range]
 omega
set_option maxHeartbeats 8000000 in
set_option maxRecDepth 1000000 in
theorem refSum_any (A : Option Addr) (n c B : Nat) (l : List UInt8) (w : World) (hr : Reads w B 1 A n (Lib.byteCells l)) (hn : n ≤ 274877906944) (hBw : B ≤ w.heap.size) :
  Calls Tryz.prog 51 #[.slice A n c] w (GrowEnd w.heap.size (sumOf l) w) := by
 have hl : l.length = n := by have := hr.1; simpa [Lib.byteCells_length] using this
 obtain ⟨all, hall⟩ : ∃ all, Hid (all = filled l) := ⟨_, hid rfl⟩
 obtain ⟨q, hq⟩ : ∃ q, Hid (all.length = 128 * q) := by
  obtain ⟨q, hq⟩ := filled_blocks l
  exact ⟨q, hid (by rw [hall.out]; exact hq)⟩
 have hlen : all.length ≤ n + 145 := by rw [hall.out, ← hl]; exact filled_length l
 have HLEN := hid hlen
 clear hlen hl
 obtain ⟨z, hz⟩ : ∃ z, Hid (z = u64s (List.replicate 80 0)) := ⟨_, hid rfl⟩
 have hz0 : ∀ W, (zeroValue 118).run Tryz.prog W = .ok (.agg z) W := by
  rw [hz.out]; exact (zero_of_info (n := 80) (by kernel_rfl)).1
 obtain ⟨K, hK⟩ : ∃ K, Hid (K = u64s KS) := ⟨_, hid rfl⟩
 have hKs : Hid ((Tryz.prog.info? 118).map (·.size) = some K.size) := by
  show _ = _; rw [hK.out, u64s_size, KS_length]; exact info39
 have hKo : Hid (K.all (·.oneCell') = true) := by show _ = _; rw [hK.out]; exact u64s_one _
 have hKz : Hid (z.size = K.size) := by show _ = _; rw [hz.out, hK.out, u64s_size, u64s_size, KS_length]; rfl
 go_enter Tryz.func51, Tryz.ntmps51
 go_wp2_with fail
 refine (first_st _).mono ?_
 rintro e w1 ⟨rfl, hb1⟩
 have hs1 := hb1.size
 go_wp2_with (first | (refine wpList_store_row rfl 116 (.tmp 3) (.tmp 21) rfl w1.heap.size (stA H0) rfl rfl 116 _ (heap_alloc_new w1 _) info37 rfl (u64s_one H0.list) ?_; rw [setRow_alloc1]))
 have hB2 : Blk (w1.alloc (.cells (stA H0) 116)) w1.heap.size 116 (stA H0) := Blk.new _ _ _
 have hb2 : Below w.heap.size w (w1.alloc (.cells (stA H0) 116)) := hb1.alloc hs1 _
 have hz2 : w1.heap.size < (w1.alloc (.cells (stA H0) 116)).heap.size := by simp
 obtain ⟨gs, hgs⟩ : ∃ gs, gs = w1.heap.size := ⟨_, rfl⟩
 rw [← hgs] at hB2 hz2 hs1 ⊢
 generalize w1.alloc (.cells (stA H0) 116) = w2 at *
 clear hb1 hgs
 refine (refConstants_any _).mono ?_
 rintro e w3 ⟨rfl, hb3⟩
 rw [← hK.out]
 have hB3 := hB2.old hb3
 have hb4 := hb2.trans (hb3.mono hb2.size)
 have hz3 : gs < w3.heap.size := Nat.lt_of_lt_of_le hz2 hb3.size
 clear hB2 hb2 hz2 hb3
 go_wp2_with (first | (refine wpList_store_row rfl 118 (.tmp 4) (.tmp 22) rfl w3.heap.size K rfl rfl 118 z (heap_alloc_new w3 _) hKs.out hKz.out hKo.out ?_; rw [setRow_alloc1]))
 clear hz0
 have hB5 := hB3.alloc (.cells K 118)
 have hK5 : Blk (w3.alloc (.cells K 118)) w3.heap.size 118 K := Blk.new _ _ _
 have hb5 : Below w.heap.size w (w3.alloc (.cells K 118)) := hb4.alloc hb4.size _
 obtain ⟨gkk, hgk⟩ : ∃ gkk, gkk = w3.heap.size := ⟨_, rfl⟩
 rw [← hgk] at hK5 hz3 ⊢
 generalize w3.alloc (.cells K 118) = w5 at *
 clear hB3 hb4 hgk
 have hgsk : gs ≠ gkk := by omega
 have hF := refFilled_any A n c B l w5 (hr.keep (fun p hp => hb5.cell (by omega))) (by omega) (by have := hb5.size; omega)
 rw [← hall.out] at hF
 have HF := hid hF
 have HB5 := hid hB5
 have HK5 := hid hK5
 have HH5 := hid hb5
 clear hF hB5 hK5 hb5
 go_wp2_with fail
 refine HF.out.mono ?_
 rintro e w6 ⟨v6, rfl, ho6, hb6⟩
 obtain ⟨A6, c6, rfl, hc6⟩ := own_form_cap ho6
 have hgs5 := HB5.out.lt
 have hgk5 := HK5.out.lt
 have hout : Hid (Out gs gkk A6 all.length all w 0 w6) := hid ⟨HB5.out.old hb6, by rw [← hK.out]; exact HK5.out.old hb6, src_own ho6 hgs5, HH5.out.trans (hb6.mono HH5.out.size)⟩
 obtain ⟨L, hL⟩ := named all.length
 have hLl : L ≤ 274877908000 := by have := hL.out; have := HLEN.out; omega
 rw [← hL.out] at hout hc6 ⊢
 clear ho6 hb6
 have hmk : ∀ W : World, (Instr.makeSlice 96 (.int .i64 80) (.int .i64 80)).run Tryz.prog W = .ok (.slice (some ⟨W.heap.size, 0, none⟩) 80 80) (W.alloc (.cells z 40)) := fun W => by
  rw [hz.out, ← madeWords]
  exact run_make_row' (P := Tryz.prog) 96 40 (.int .u64 0) 8 Tryz.underlying96 info36 rfl .i64 .i64 80 (by omega) (by omega) W
 go_wp2_with fail
 go_loopg [6] L (fun g0 at_ wr => ∃ (k a : Nat), g0 + a = L ∧ a ≤ 128 * k ∧ 128 * k ≤ a ∧ at_ = .int .i64 (a : Nat) ∧ Out gs gkk A6 L all w k wr)
 case atStart => exact ⟨0, 0, by omega, by omega, by omega, rfl, hout.out⟩
 case round =>
  obtain ⟨k, a, ha1, ha2, ha3, rfl, ho⟩ := hrel
  clear hout
  obtain ⟨W0, rfl⟩ : ∃ W0, W0 = wr := ⟨wr, rfl⟩
  by_cases hlt : a < L
  ·have hblk : 128 * k + 128 ≤ all.length := by have := hq.out; have := hL.out; omega
   obtain ⟨G, hG⟩ : ∃ G, Hid (gk = G + 128 ∧ G + (a + 128) = L) := ⟨gk - 128, hid ⟨by have := hL.out; omega, by have := hL.out; omega⟩⟩
   obtain ⟨b, hb⟩ : ∃ b, Hid (b = (all.drop (128 * k)).take 128) := ⟨_, hid rfl⟩
   have hbl : Hid (b.length = 128) := by show _ = _; rw [hb.out]; simp; omega
   obtain ⟨ad, rfl, had1, had2, had3⟩ := ho.2.2.1.2 (by omega)
   have hby : Hid (∀ (w8 : World) (i : Nat), Below W0.heap.size W0 w8 → i < 128 → w8.cell? (ad.add (a + i)) = some (.int .u8 ((b.getD i 0).toNat : Int))) := hid fun w8 i hb8 hi => by
    have e1 : (Lib.byteCells all)[a + i]? = some (.int .u8 ((b.getD i 0).toNat : Int)) := by
     have hai : a + i < all.length := by omega
     have e2 : b.getD i 0 = all.getD (a + i) 0 := by
      rw [hb.out, List.getD_eq_getElem?_getD, List.getD_eq_getElem?_getD, List.getElem?_take, if_pos hi, List.getElem?_drop, show 128 * k + i = a + i by omega]
     rw [e2]
     simp [Lib.byteCells, List.getD, List.getElem?_eq_getElem hai]
    exact (hb8.cell (by rw [block_of_add]; exact had2)).trans (had3 _ _ e1)
   have hob := hid ho
   clear had1 had2 had3
   have hnew : Below W0.heap.size W0 (W0.alloc (.cells z 40)) := (Below.refl _ _).alloc (Nat.le_refl _) _
   have hT0 : Hid (∃ d, Blk (W0.alloc (.cells z 40)) W0.heap.size 40 d ∧ d = u64s (partW b 0) ∧ Below W0.heap.size W0 (W0.alloc (.cells z 40))) :=
    hid ⟨z, Blk.new _ _ _, by rw [hz.out, partW_zero], hnew⟩
   clear ho hnew
   go_wp2_with fail
   clear hmk
   go_loopw [8, 9] (fun tv _ w7 => ∃ t : Nat, t ≤ 16 ∧ tv = .int .i64 (t : Nat) ∧ ∃ d, Blk w7 W0.heap.size 40 d ∧ d = u64s (partW b (8 * t)) ∧ Below W0.heap.size W0 w7) (fun tv _ _ => 16 - (intOf tv).toNat)
   case atStart => exact ⟨0, by omega, rfl, hT0.out⟩
   case round =>
    obtain ⟨t, ht, rfl, hd7⟩ := hrel
    by_cases ht16 : t < 16
    ·have HD7 := hid hd7
     clear hd7
     have hdt : decide ((t : Int) < 16) = true := by simp; omega
     go_wp2_with fail
     go_loopg [9] 8 (fun gi iv w8 => ∃ i : Nat, gi + i = 8 ∧ iv = .int .i64 (i : Nat) ∧ ∃ d, Blk w8 W0.heap.size 40 d ∧ d = u64s (partW b (8 * t + i)) ∧ Below W0.heap.size W0 w8)
     case atStart => exact ⟨0, by omega, rfl, HD7.out⟩
     case round =>
      obtain ⟨i, hi8, rfl, d, hBd, hd, hbw⟩ := hrel
      have HI8 := hid hi8
      clear hi8
      by_cases hi7 : i < 8
      ·have hstep := partW_step b (8 * t + i) (by rw [hbl.out]; omega) (by rw [hbl.out]; omega)
       rw [show (8 * t + i) / 8 = t by omega] at hstep
       have hxl : (partW b (8 * t + i)).getD t 0 < M := by rw [partW_get b _ t (by omega)]; exact wordOf_lt _
       have hdk : d[t]? = some (.int .u64 (((partW b (8 * t + i)).getD t 0 : Nat) : Int)) := by
        rw [hd]; exact u64s_get _ _ (by rw [partW_length]; omega)
       have hcell := (hBd.cell t).trans hdk
       have hfz := hBd.frozen t
       have hbyt := hby.out _ (8 * t + i) hbw (by omega)
       rw [show a + (8 * t + i) = a + 8 * t + i by omega] at hbyt
       have hyl := (b.getD (8 * t + i) 0).toNat_lt
       generalize (b.getD (8 * t + i) 0).toNat = y at *
       generalize (partW b (8 * t + i)).getD t 0 = x at *
       obtain ⟨x2, hx2⟩ := named (256 * x % M)
       obtain ⟨o, ho2⟩ := named ((x2 + y) % M)
       have e1 : IntKind.u64.wrap (256 * (x : Int)) = (x2 : Int) := wrap_mul 256 x x2 hx2.out
       have e2 := wrap_sum x2 y o ho2.out
       have hoo : o = (256 * x + y) % M := by rw [ho2.out, hx2.out, Nat.mod_add_mod]
       have hset := hBd.set_ t (.int .u64 (o : Int))
       rw [hd, u64s_set, hoo, hstep, ← hoo] at hset
       have hb8 := hbw.setCell (p := ⟨W0.heap.size, t, none⟩) (Nat.le_refl _) (.int .u64 (o : Int))
       have HS := hid hset
       have HB8 := hid hb8
       clear hset hb8 hoo hstep hdk hd hBd hbw
       have t1 : ((a : Int) + 8 * (t : Int) + (i : Int)).toNat = a + 8 * t + i := by omega
       have t2 : IntKind.i64.wrap (8 * (t : Int)) = 8 * (t : Int) := IntWalk.i64_in _ (by omega)
       have t3 : IntKind.i64.wrap ((a : Int) + 8 * (t : Int)) = (a : Int) + 8 * (t : Int) := IntWalk.i64_in _ (by omega)
       have t4 : IntKind.i64.wrap ((a : Int) + 8 * (t : Int) + (i : Int)) = (a : Int) + 8 * (t : Int) + (i : Int) := IntWalk.i64_in _ (by omega)
       have t5 : (0 : Int) ≤ (a : Int) + 8 * (t : Int) + (i : Int) := by omega
       have t6 : (a : Int) + 8 * (t : Int) + (i : Int) < (L : Int) := by have := hL.out; omega
       have t7 : (0 : Int) ≤ (t : Int) := by omega
       have t8 : (t : Int) < 80 := by omega
       go_wp2_with fail
       go_still_tail 19, (by kernel_rfl)
       change wpList _ _ _ _ _ wr.drew
       go_wp2_with fail
       go_roundg (gk - 1)
       case measure => have := HI8.out; omega
       case rel => exact ⟨i + 1, by have := HI8.out; omega, by go_num, _, HS.out.drew, rfl, HB8.out.drew⟩
      ·obtain rfl : i = 8 := by have := HI8.out; omega
       have hd9 : Hid (∃ d, Blk wr W0.heap.size 40 d ∧ d = u64s (partW b (8 * (t + 1))) ∧ Below W0.heap.size W0 wr) := hid ⟨d, hBd, hd, hbw⟩
       clear hBd hd hbw
       go_wp2_with fail
       go_roundw
       case rel => exact ⟨t + 1, by omega, by go_num, hd9.out⟩
       case measure => simp [intOf]; omega
    ·obtain rfl : t = 16 := by omega
     obtain ⟨d7, hB7, hd7e, hb7⟩ := hd7
     have hGW : Hid (∃ d, Blk wr W0.heap.size 40 d ∧ d = u64s (grownW b (16 - 16)) ∧ Below W0.heap.size W0 wr) := hid ⟨d7, hB7, by rw [hd7e, partW_all b hbl.out]; rfl, hb7⟩
     clear hB7 hd7e hb7 hT0
     go_wp2_with fail
     go_loopg [10, 11, 12] 64 (fun gm mv _ _ w8 => ∃ m : Nat, gm + m = 80 ∧ 16 ≤ m ∧ mv = .int .i64 (m : Nat) ∧ ∃ d, Blk w8 W0.heap.size 40 d ∧ d = u64s (grownW b (m - 16)) ∧ Below W0.heap.size W0 w8)
     case atStart => exact ⟨16, by omega, by omega, rfl, hGW.out⟩
     case round =>
      obtain ⟨m, hm0, hm1, rfl, d', hB, hd', hbw⟩ := hrel
      have HM0 := hid hm0
      clear hm0
      by_cases hlt2 : m < 80
      ·have hstep := grownW_step b (m - 16) (by omega)
       rw [show 14 + (m - 16) = m - 2 by omega, show 9 + (m - 16) = m - 7 by omega, show 1 + (m - 16) = m - 15 by omega, show 16 + (m - 16) = m by omega, show m - 16 + 1 = m + 1 - 16 by omega] at hstep
       have hlw : ∀ t, (grownW b (m - 16)).getD t 0 < M := fun t => getD_lt (fun x hx => by
        rw [grownW, List.mem_append] at hx
        rcases hx with h | h
        ·exact schedN_lt b _ x h
        ·rw [(List.mem_replicate.1 h).2]; decide) t
       have hg : ∀ t, t < 80 → wr.cell? ⟨W0.heap.size, t, none⟩ = some (.int .u64 (((grownW b (m - 16)).getD t 0 : Nat) : Int)) := fun t ht => by
        rw [hB.cell, hd']; exact u64s_get _ _ (by rw [grownW_length _ _ (by omega)]; exact ht)
       have h2 := hg (m - 2) (by omega)
       have h7 := hg (m - 7) (by omega)
       have h15 := hg (m - 15) (by omega)
       have h16 := hg (m - 16) (by omega)
       have h0 := hg m (by omega)
       have hfz := hB.frozen m
       have l2 := hlw (m - 2)
       have l7 := hlw (m - 7)
       have l15 := hlw (m - 15)
       have l16 := hlw (m - 16)
       generalize (grownW b (m - 16)).getD (m - 2) 0 = x2 at *
       generalize (grownW b (m - 16)).getD (m - 7) 0 = x7 at *
       generalize (grownW b (m - 16)).getD (m - 15) 0 = x15 at *
       generalize (grownW b (m - 16)).getD (m - 16) 0 = x16 at *
       generalize (grownW b (m - 16)).getD m 0 = x0 at *
       obtain ⟨r1, hr1⟩ := named (rot x2 19)
       obtain ⟨r2, hr2⟩ := named (rot x2 61)
       obtain ⟨r3, hr3⟩ := named (r1 ^^^ r2)
       obtain ⟨r4, hr4⟩ := named (x2 / 2 ^ 6)
       obtain ⟨a1, ha1'⟩ := named (r3 ^^^ r4)
       obtain ⟨a2, ha2'⟩ := named ((a1 + x7) % M)
       obtain ⟨s1', hs1'⟩ := named (rot x15 1)
       obtain ⟨s2', hs2'⟩ := named (rot x15 8)
       obtain ⟨s3', hs3'⟩ := named (s1' ^^^ s2')
       obtain ⟨s4', hs4'⟩ := named (x15 / 2 ^ 7)
       obtain ⟨a3, ha3'⟩ := named (s3' ^^^ s4')
       obtain ⟨a4, ha4'⟩ := named ((a2 + a3) % M)
       obtain ⟨a5, ha5'⟩ := named ((a4 + x16) % M)
       have lr1 : r1 < M := by rw [hr1.out]; exact rot_lt l2 (by omega)
       have lr2 : r2 < M := by rw [hr2.out]; exact rot_lt l2 (by omega)
       have lr3 : r3 < M := by rw [hr3.out]; exact xor_lt lr1 lr2
       have lr4 : r4 < M := by rw [hr4.out]; exact shr_lt 6 l2
       have ls1 : s1' < M := by rw [hs1'.out]; exact rot_lt l15 (by omega)
       have ls2 : s2' < M := by rw [hs2'.out]; exact rot_lt l15 (by omega)
       have ls3 : s3' < M := by rw [hs3'.out]; exact xor_lt ls1 ls2
       have ls4 : s4' < M := by rw [hs4'.out]; exact shr_lt 7 l15
       have f1 := bits_xor_u64_nat r1 r2 lr1 lr2
       rw [← hr3.out] at f1
       have f2 := bits_xor_u64_nat r3 r4 lr3 lr4
       rw [← ha1'.out] at f2
       have f3 := bits_xor_u64_nat s1' s2' ls1 ls2
       rw [← hs3'.out] at f3
       have f4 := bits_xor_u64_nat s3' s4' ls3 ls4
       rw [← ha3'.out] at f4
       have f5 : (x2 : Int) / 64 = (r4 : Int) := by rw [hr4.out]; simp
       have f6 : (x15 : Int) / 128 = (s4' : Int) := by rw [hs4'.out]; simp
       have e1 := wrap_sum a1 x7 a2 ha2'.out
       have e2 := wrap_sum a2 a3 a4 ha4'.out
       have e3 := wrap_sum a4 x16 a5 ha5'.out
       have q1 : a1 = s1 x2 := by rw [ha1'.out, hr3.out, hr4.out, hr1.out, hr2.out]; rfl
       have q3 : a3 = s0 x15 := by rw [ha3'.out, hs3'.out, hs4'.out, hs1'.out, hs2'.out]; rfl
       have hset := hB.set_ m (.int .u64 (a5 : Int))
       have hnew : (grownW b (m - 16)).set m a5 = grownW b (m + 1 - 16) := by
        rw [← hstep, ha5'.out, ha4'.out, ha2'.out, q1, q3]
        simp only [Nat.mod_add_mod, Nat.add_mod_mod]
       rw [hd', u64s_set, hnew] at hset
       have hb8 := hbw.setCell (p := ⟨W0.heap.size, m, none⟩) (Nat.le_refl _) (.int .u64 (a5 : Int))
       have HS := hid hset
       have HB8 := hid hb8
       clear hset hb8 hnew hstep hlw hg hB hd' hbw q1 q3 lr1 lr2 lr3 lr4 ls1 ls2 ls3 ls4 l7 l16
       have C1 : Hid (∀ W : World, Calls Tryz.prog 84 #[.int .u64 (x2 : Int), .int .u64 19] W fun e w' => e = .returned (.int .u64 (r1 : Int)) ∧ w' = W) := hid fun W => (turn_same x2 19 l2 (by omega) (by omega) W).mono fun e w' ⟨h, h'⟩ => ⟨by rw [h, hr1.out], h'⟩
       have C2 : Hid (∀ W : World, Calls Tryz.prog 84 #[.int .u64 (x2 : Int), .int .u64 61] W fun e w' => e = .returned (.int .u64 (r2 : Int)) ∧ w' = W) := hid fun W => (turn_same x2 61 l2 (by omega) (by omega) W).mono fun e w' ⟨h, h'⟩ => ⟨by rw [h, hr2.out], h'⟩
       have C3 : Hid (∀ W : World, Calls Tryz.prog 84 #[.int .u64 (x15 : Int), .int .u64 1] W fun e w' => e = .returned (.int .u64 (s1' : Int)) ∧ w' = W) := hid fun W => (turn_same x15 1 l15 (by omega) (by omega) W).mono fun e w' ⟨h, h'⟩ => ⟨by rw [h, hs1'.out], h'⟩
       have C4 : Hid (∀ W : World, Calls Tryz.prog 84 #[.int .u64 (x15 : Int), .int .u64 8] W fun e w' => e = .returned (.int .u64 (s2' : Int)) ∧ w' = W) := hid fun W => (turn_same x15 8 l15 (by omega) (by omega) W).mono fun e w' ⟨h, h'⟩ => ⟨by rw [h, hs2'.out], h'⟩
       clear l2 l15
       have k2 : ((m : Int) - 2).toNat = m - 2 := by omega
       have k7 : ((m : Int) - 7).toNat = m - 7 := by omega
       have k15 : ((m : Int) - 15).toNat = m - 15 := by omega
       have k16 : ((m : Int) - 16).toNat = m - 16 := by omega
       have w2 : IntKind.i64.wrap ((m : Int) - 2) = (m : Int) - 2 := IntWalk.i64_in _ (by omega)
       have p2 : (0 : Int) ≤ (m : Int) - 2 := by omega
       have q2' : (2 : Int) ≤ (m : Int) := by omega
       have r2' : (m : Int) - 2 < 80 := by omega
       have w7 : IntKind.i64.wrap ((m : Int) - 7) = (m : Int) - 7 := IntWalk.i64_in _ (by omega)
       have p7 : (0 : Int) ≤ (m : Int) - 7 := by omega
       have q7' : (7 : Int) ≤ (m : Int) := by omega
       have r7' : (m : Int) - 7 < 80 := by omega
       have w15 : IntKind.i64.wrap ((m : Int) - 15) = (m : Int) - 15 := IntWalk.i64_in _ (by omega)
       have p15 : (0 : Int) ≤ (m : Int) - 15 := by omega
       have q15' : (15 : Int) ≤ (m : Int) := by omega
       have r15' : (m : Int) - 15 < 80 := by omega
       have w16 : IntKind.i64.wrap ((m : Int) - 16) = (m : Int) - 16 := IntWalk.i64_in _ (by omega)
       have p16 : (0 : Int) ≤ (m : Int) - 16 := by omega
       have q16' : (16 : Int) ≤ (m : Int) := by omega
       have r16' : (m : Int) - 16 < 80 := by omega
       have rm : (m : Int) < 80 := by omega
       have pm : (16 : Int) ≤ (m : Int) := by omega
       go_wp2_with fail
       refine wp_region_still_tail 32 (by kernel_rfl) (by kernel_rfl) ?_
       simp only [List.take_succ_cons, List.take_zero, List.drop_succ_cons, List.drop_zero]
       repeat still_step
       still_call (C1.out _)
       repeat still_step
       still_call (C2.out _)
       repeat still_step
       still_call (C3.out _)
       repeat still_step
       still_call (C4.out _)
       repeat still_step
       try refine wpStill_nil ?_
       change wpList _ _ _ _ _ wr.drew
       go_wp2_with fail
       go_roundg (gk - 1)
       case measure => have := HM0.out; omega
       case rel => exact ⟨m + 1, by have := HM0.out; omega, by omega, by go_num, _, HS.out.drew, rfl, HB8.out.drew⟩
      ·obtain rfl : m = 80 := by have := HM0.out; omega
       obtain ⟨s0, hs0⟩ : ∃ s0, Hid (s0 = blocks KS H0 all k) := ⟨_, hid rfl⟩
       have hok0 : s0.ok := by rw [hs0.out]; exact blocks_ok H0_ok k
       have hout2 := hob.out.old hbw
       have hgs2 := hout2.1
       rw [← hs0.out] at hgs2
       rw [show (80 - 16) = 64 from rfl, grownW_all] at hd'
       have HO2 := hid hout2
       have HGS := hid hgs2
       have hB' : Hid (Blk wr W0.heap.size 40 (u64s (sched b))) := hid (by rw [← hd']; exact hB)
       have hgv : Hid (Blk (wr.alloc (.cells (stA s0) 116)) wr.heap.size 116 (stA (rounds KS (sched b) s0 0)) ∧ Below wr.heap.size wr (wr.alloc (.cells (stA s0) 116))) := hid ⟨Blk.new _ _ _, (Below.refl _ _).alloc (Nat.le_refl _) _⟩
       have HBW := hid hbw
       clear hB hd' hbw hout2 hgs2 hGW
       go_wp2_with (first | (refine wpList_load_row rfl 116 (.tmp 3) rfl gs rfl 116 (stA s0) (0, 0) _ HGS.out Tryz.underlying116 rfl info37 ?_) |
        (refine wpList_store_row rfl 116 (.tmp 13) (.tmp 105) rfl wr.heap.size (stA s0) rfl rfl 116 _ (heap_alloc_new wr _) info37 rfl (u64s_one s0.list) ?_; rw [setRow_alloc1]))
       obtain ⟨W1, rfl⟩ : ∃ W1, W1 = wr := ⟨wr, rfl⟩
       generalize W1.alloc (.cells (stA s0) 116) = W2 at *
       generalize stA s0 = a105
       go_loopg [14, 15, 16] 80 (fun gr rv _ _ w9 => ∃ r : Nat, gr + r = 80 ∧ rv = .int .i64 (r : Nat) ∧ Blk w9 W1.heap.size 116 (stA (rounds KS (sched b) s0 r)) ∧ Below W1.heap.size W1 w9)
       case atStart => exact ⟨0, by omega, rfl, hgv.out⟩
       case round =>
        obtain ⟨r, hr0, rfl, hBv, hbv⟩ := hrel
        have HR0 := hid hr0
        clear hr0
        by_cases hlt3 : r < 80
        ·have hwc : wr.cell? ⟨W0.heap.size, r, none⟩ = some (.int .u64 (((sched b).getD r 0 : Nat) : Int)) := ((hB'.out.old hbv).cell r).trans (u64s_get _ _ (by rw [sched_length]; exact hlt3))
         have hkc : wr.cell? ⟨gkk, r, none⟩ = some (.int .u64 ((KS.getD r 0 : Nat) : Int)) := ((HO2.out.2.1.old hbv).cell r).trans (u64s_get _ _ (by rw [KS_length]; exact hlt3))
         have hwl : (sched b).getD r 0 < M := getD_lt (sched_lt b) r
         have hkl := KS_lt r
         have hro := rounds_ok (K := KS) (W := sched b) hok0 r
         have hnext : Hid (rounds KS (sched b) s0 (r + 1) = round (rounds KS (sched b) s0 r) (KS.getD r 0) ((sched b).getD r 0)) := rfl
         have hcs := fun i => hBv.cell i
         obtain ⟨v, hv⟩ : ∃ v, Hid (v = rounds KS (sched b) s0 r) := ⟨_, hid rfl⟩
         rw [← hv.out] at hro hnext hcs hBv
         obtain ⟨l0, l1, l2, l3, l4, l5, l6, l7⟩ := hro
         have c0 : wr.cell? ⟨W1.heap.size, 0, none⟩ = some (.int .u64 (v.a : Int)) := hcs 0
         have c1 : wr.cell? ⟨W1.heap.size, 1, none⟩ = some (.int .u64 (v.b : Int)) := hcs 1
         have c2 : wr.cell? ⟨W1.heap.size, 2, none⟩ = some (.int .u64 (v.c : Int)) := hcs 2
         have c3 : wr.cell? ⟨W1.heap.size, 3, none⟩ = some (.int .u64 (v.d : Int)) := hcs 3
         have c4 : wr.cell? ⟨W1.heap.size, 4, none⟩ = some (.int .u64 (v.e : Int)) := hcs 4
         have c5 : wr.cell? ⟨W1.heap.size, 5, none⟩ = some (.int .u64 (v.f : Int)) := hcs 5
         have c6' : wr.cell? ⟨W1.heap.size, 6, none⟩ = some (.int .u64 (v.g : Int)) := hcs 6
         have c7 : wr.cell? ⟨W1.heap.size, 7, none⟩ = some (.int .u64 (v.h : Int)) := hcs 7
         clear hcs
         generalize (sched b).getD r 0 = wd at *
         generalize KS.getD r 0 = kc at *
         obtain ⟨r1, hr1⟩ := named (rot v.e 14)
         obtain ⟨r2, hr2⟩ := named (rot v.e 18)
         obtain ⟨r3, hr3⟩ := named (r1 ^^^ r2)
         obtain ⟨r4, hr4⟩ := named (rot v.e 41)
         obtain ⟨x1, hx1⟩ := named (r3 ^^^ r4)
         obtain ⟨y1, hy1⟩ := named (v.e &&& v.f)
         obtain ⟨y2, hy2⟩ := named (v.e ^^^ (M - 1))
         obtain ⟨y3, hy3⟩ := named (y2 &&& v.g)
         obtain ⟨x2, hx2⟩ := named (y1 ^^^ y3)
         obtain ⟨u1, hu1⟩ := named ((v.h + x1) % M)
         obtain ⟨u2, hu2⟩ := named ((u1 + x2) % M)
         obtain ⟨u3, hu3⟩ := named ((u2 + kc) % M)
         obtain ⟨u4, hu4⟩ := named ((u3 + wd) % M)
         obtain ⟨p1, hp1⟩ := named (rot v.a 28)
         obtain ⟨p2, hp2⟩ := named (rot v.a 34)
         obtain ⟨p3, hp3⟩ := named (p1 ^^^ p2)
         obtain ⟨p4, hp4⟩ := named (rot v.a 39)
         obtain ⟨x3, hx3⟩ := named (p3 ^^^ p4)
         obtain ⟨m1, hm1'⟩ := named (v.a &&& v.b)
         obtain ⟨m2, hm2'⟩ := named (v.a &&& v.c)
         obtain ⟨m3, hm3'⟩ := named (m1 ^^^ m2)
         obtain ⟨m4, hm4'⟩ := named (v.b &&& v.c)
         obtain ⟨x4, hx4⟩ := named (m3 ^^^ m4)
         obtain ⟨u5, hu5⟩ := named ((x3 + x4) % M)
         obtain ⟨na, hna⟩ := named ((u4 + u5) % M)
         obtain ⟨ne, hne⟩ := named ((v.d + u4) % M)
         have lr1 : r1 < M := by rw [hr1.out]; exact rot_lt l4 (by omega)
         have lr2 : r2 < M := by rw [hr2.out]; exact rot_lt l4 (by omega)
         have lr3 : r3 < M := by rw [hr3.out]; exact xor_lt lr1 lr2
         have lr4 : r4 < M := by rw [hr4.out]; exact rot_lt l4 (by omega)
         have ly1 : y1 < M := by rw [hy1.out]; exact and_lt l5
         have ly2 : y2 < M := by rw [hy2.out]; exact xor_lt l4 (by decide)
         have ly3 : y3 < M := by rw [hy3.out]; exact and_lt l6
         have lp1 : p1 < M := by rw [hp1.out]; exact rot_lt l0 (by omega)
         have lp2 : p2 < M := by rw [hp2.out]; exact rot_lt l0 (by omega)
         have lp3 : p3 < M := by rw [hp3.out]; exact xor_lt lp1 lp2
         have lp4 : p4 < M := by rw [hp4.out]; exact rot_lt l0 (by omega)
         have lm1 : m1 < M := by rw [hm1'.out]; exact and_lt l1
         have lm2 : m2 < M := by rw [hm2'.out]; exact and_lt l2
         have lm3 : m3 < M := by rw [hm3'.out]; exact xor_lt lm1 lm2
         have lm4 : m4 < M := by rw [hm4'.out]; exact and_lt l2
         have f1 := bits_xor_u64_nat r1 r2 lr1 lr2
         have f2 := bits_xor_u64_nat r3 r4 lr3 lr4
         have f3 := bits_and_u64_nat v.e v.f l4 l5
         have f4 : bits .xor .u64 (v.e : Int) 18446744073709551615 = (y2 : Int) := by rw [hy2.out]; exact bits_xor_u64_nat v.e (M - 1) l4 (by decide)
         have f5 := bits_and_u64_nat y2 v.g ly2 l6
         have f6 := bits_xor_u64_nat y1 y3 ly1 ly3
         have f7 := bits_xor_u64_nat p1 p2 lp1 lp2
         have f8 := bits_xor_u64_nat p3 p4 lp3 lp4
         have f9 := bits_and_u64_nat v.a v.b l0 l1
         have f10 := bits_and_u64_nat v.a v.c l0 l2
         have f11 := bits_xor_u64_nat m1 m2 lm1 lm2
         have f12 := bits_and_u64_nat v.b v.c l1 l2
         have f13 := bits_xor_u64_nat m3 m4 lm3 lm4
         rw [← hr3.out] at f1
         rw [← hx1.out] at f2
         rw [← hy1.out] at f3
         rw [← hy3.out] at f5
         rw [← hx2.out] at f6
         rw [← hp3.out] at f7
         rw [← hx3.out] at f8
         rw [← hm1'.out] at f9
         rw [← hm2'.out] at f10
         rw [← hm3'.out] at f11
         rw [← hm4'.out] at f12
         rw [← hx4.out] at f13
         have e1 := wrap_sum v.h x1 u1 hu1.out
         have e2 := wrap_sum u1 x2 u2 hu2.out
         have e3 := wrap_sum u2 kc u3 hu3.out
         have e4 := wrap_sum u3 wd u4 hu4.out
         have e5 := wrap_sum x3 x4 u5 hu5.out
         have e6 := wrap_sum u4 u5 na hna.out
         have e7 := wrap_sum v.d u4 ne hne.out
         have hrn : Hid (rounds KS (sched b) s0 (r + 1) = ⟨na, v.a, v.b, v.c, ne, v.e, v.f, v.g⟩) := by
          show _ = _
          have q0 : x2 = ch v.e v.f v.g := by rw [hx2.out, hy1.out, hy3.out, hy2.out]; exact ch_xor _ _ _ l4 l5
          have q1 : u4 = t1 v kc wd := by rw [hu4.out, hu3.out, hu2.out, hu1.out, q0, hx1.out, hr3.out, hr1.out, hr2.out, hr4.out]; exact t1_eq v kc wd
          have q2 : u5 = t2 v := by
           rw [hu5.out, hx3.out, hx4.out, hp3.out, hp1.out, hp2.out, hp4.out, hm3'.out, hm1'.out, hm2'.out, hm4'.out, maj_xor]; rfl
          rw [hnext.out, hna.out, hne.out, q1, q2]; rfl
         have C1 : Hid (∀ W : World, Calls Tryz.prog 84 #[.int .u64 (v.e : Int), .int .u64 14] W fun e w' => e = .returned (.int .u64 (r1 : Int)) ∧ w' = W) := hid fun W => (turn_same v.e 14 l4 (by omega) (by omega) W).mono fun e w' ⟨h, h'⟩ => ⟨by rw [h, hr1.out], h'⟩
         have C2 : Hid (∀ W : World, Calls Tryz.prog 84 #[.int .u64 (v.e : Int), .int .u64 18] W fun e w' => e = .returned (.int .u64 (r2 : Int)) ∧ w' = W) := hid fun W => (turn_same v.e 18 l4 (by omega) (by omega) W).mono fun e w' ⟨h, h'⟩ => ⟨by rw [h, hr2.out], h'⟩
         have C3 : Hid (∀ W : World, Calls Tryz.prog 84 #[.int .u64 (v.e : Int), .int .u64 41] W fun e w' => e = .returned (.int .u64 (r4 : Int)) ∧ w' = W) := hid fun W => (turn_same v.e 41 l4 (by omega) (by omega) W).mono fun e w' ⟨h, h'⟩ => ⟨by rw [h, hr4.out], h'⟩
         have C4 : Hid (∀ W : World, Calls Tryz.prog 84 #[.int .u64 (v.a : Int), .int .u64 28] W fun e w' => e = .returned (.int .u64 (p1 : Int)) ∧ w' = W) := hid fun W => (turn_same v.a 28 l0 (by omega) (by omega) W).mono fun e w' ⟨h, h'⟩ => ⟨by rw [h, hp1.out], h'⟩
         have C5 : Hid (∀ W : World, Calls Tryz.prog 84 #[.int .u64 (v.a : Int), .int .u64 34] W fun e w' => e = .returned (.int .u64 (p2 : Int)) ∧ w' = W) := hid fun W => (turn_same v.a 34 l0 (by omega) (by omega) W).mono fun e w' ⟨h, h'⟩ => ⟨by rw [h, hp2.out], h'⟩
         have C6 : Hid (∀ W : World, Calls Tryz.prog 84 #[.int .u64 (v.a : Int), .int .u64 39] W fun e w' => e = .returned (.int .u64 (p4 : Int)) ∧ w' = W) := hid fun W => (turn_same v.a 39 l0 (by omega) (by omega) W).mono fun e w' ⟨h, h'⟩ => ⟨by rw [h, hp4.out], h'⟩
         clear l0 l1 l2 l3 l4 l5 l6 l7 hkl hwl hnext lr1 lr2 lr3 lr4 ly1 ly2 ly3 lp1 lp2 lp3 lp4 lm1 lm2 lm3 lm4
         have HBV := hid hBv
         have HBB := hid hbv
         clear hBv hbv
         have pk : (0 : Int) ≤ (r : Int) := by omega
         have rk : (r : Int) < 80 := by omega
         go_wp2_with fail
         go_quiet ((first | (go_at_call 84; with_reducible exact Calls.quiet_of_same (C1.out _)) | (go_at_call 84; with_reducible exact Calls.quiet_of_same (C2.out _)) | (go_at_call 84; with_reducible exact Calls.quiet_of_same (C3.out _))))
         go_wp2_with fail
         go_quiet ((first | (go_at_call 84; with_reducible exact quiet_add_same (C4.out _)) | (go_at_call 84; with_reducible exact quiet_add_same (C5.out _)) | (go_at_call 84; with_reducible exact quiet_add_same (C6.out _))))
         have hrr : ∀ q, Blk (wr.drewN q) W1.heap.size 116 (stA v) := fun q => HBV.out.drewN q
         have hbb : ∀ q, Below W1.heap.size W1 (wr.drewN q) := fun q => HBB.out.trans ((Drew.below ⟨q, rfl⟩).mono HBB.out.size)
         have HRR := hid hrr
         have HBQ := hid hbb
         clear hrr hbb
         go_wp2_with (first | (refine wpList_store_row rfl 116 (.tmp 13) (.tmp 194) rfl W1.heap.size (stA ⟨na, v.a, v.b, v.c, ne, v.e, v.f, v.g⟩) rfl rfl 116 (stA v) (HRR.out _) info37 rfl (u64s_one (St.list ⟨na, v.a, v.b, v.c, ne, v.e, v.f, v.g⟩)) ?_))
         go_roundg (gk - 1)
         case measure => have := HR0.out; omega
         case rel => exact ⟨r + 1, by have := HR0.out; omega, by go_num, by rw [hrn.out]; exact (HRR.out _).row _, below_row (HBQ.out _) (Nat.le_refl _) _⟩
        ·obtain rfl : r = 80 := by have := HR0.out; omega
         have hbk : Hid (blocks KS H0 all (k + 1) = addSt s0 (rounds KS (sched b) s0 80)) := by
          show stir KS (blocks KS H0 all k) ((all.drop (128 * k)).take 128) = _
          rw [← hb.out, ← hs0.out]; rfl
         have hvo := rounds_ok (K := KS) (W := sched b) hok0 80
         obtain ⟨v, hv⟩ : ∃ v, Hid (v = rounds KS (sched b) s0 80) := ⟨_, hid rfl⟩
         rw [← hv.out] at hbk hvo hBv
         have hgvs : W1.heap.size ≠ gs := by have := HGS.out.lt; omega
         have hS0 : Hid (Blk wr gs 116 (u64s (mixed s0 v 0))) := hid (HGS.out.old hbv)
         have hO3 := hid (HO2.out.old hbv)
         have HV := hid hBv
         have hvl := fun i => list_lt hvo i
         have hsl := fun i => list_lt hok0 i
         have HVL := hid hvl
         have HSL := hid hsl
         have hwv : Hid (W1.heap.size < wr.heap.size) := hBv.lt
         clear hBv hbv hvl hsl hvo hok0
         go_wp2_with fail
         obtain ⟨W3, rfl⟩ : ∃ W3, W3 = wr := ⟨wr, rfl⟩
         go_loopg [17] 8 (fun gi iv w9 => ∃ i : Nat, gi + i = 8 ∧ iv = .int .i64 (i : Nat) ∧ Blk w9 gs 116 (u64s (mixed s0 v i)) ∧ W3.grownBy w9 (some gs))
         case atStart => exact ⟨0, by omega, rfl, hS0.out, World.grownBy.refl _ _⟩
         case round =>
          obtain ⟨i, hi0, rfl, hBi, hgi⟩ := hrel
          have HI0 := hid hi0
          clear hi0
          by_cases hlt4 : i < 8
          ·have hcell : wr.cell? ⟨gs, i, none⟩ = some (.int .u64 ((s0.list.getD i 0 : Nat) : Int)) := by
            rw [hBi.cell, u64s_get _ _ (by rw [mixed_length s0 v i (by omega)]; exact hlt4), mixed_get s0 v i hlt4]
           have hcelv : wr.cell? ⟨W1.heap.size, i, none⟩ = some (.int .u64 ((v.list.getD i 0 : Nat) : Int)) :=
            ((HV.out.grown hgi (by intro e; injection e with e; exact hgvs e)).cell i).trans (stA_get _ _ hlt4)
           have hfz := hBi.frozen i
           have hset := hBi.set_ i (.int .u64 (((s0.list.getD i 0 + v.list.getD i 0) % M : Nat) : Int))
           rw [u64s_set, mixed_step s0 v i hlt4] at hset
           have hg3 := hgi.trans (grown_set wr gs i (.int .u64 (((s0.list.getD i 0 + v.list.getD i 0) % M : Nat) : Int)))
           have hl1 := HSL.out i
           have hl2 := HVL.out i
           generalize s0.list.getD i 0 = x at *
           generalize v.list.getD i 0 = y at *
           obtain ⟨zz, hzz⟩ := named ((x + y) % M)
           have e1 := wrap_sum x y zz hzz.out
           rw [← hzz.out] at hset hg3
           have HS := hid hset
           have HG := hid hg3
           clear hset hg3 hBi hgi
           have pk : (0 : Int) ≤ (i : Int) := by omega
           have rk : (i : Int) < 8 := by omega
           go_wp2_with fail
           go_still_tail 9, (by kernel_rfl)
           change wpList _ _ _ _ _ wr.drew
           go_wp2_with fail
           go_roundg (gk - 1)
           case measure => have := HI0.out; omega
           case rel => exact ⟨i + 1, by have := HI0.out; omega, by go_num, HS.out.drew, HG.out.trans (grown_below (Below.refl _ _).drew _)⟩
          ·obtain rfl : i = 8 := by have := HI0.out; omega
           have hOn : Hid (Out gs gkk (some ad) L all w (k + 1) wr) := by
            have o1 : Blk wr gs 116 (stA (blocks KS H0 all (k + 1))) := by rw [hbk.out, stA_eq, ← mixed_all]; exact hBi
            have o2 := hO3.out.2.1.grown hgi (by intro e; injection e with e; exact hgsk e.symm)
            have o4 : Below w.heap.size w wr := hO3.out.2.2.2.grown hgi hO3.out.2.2.2.size (by intro j hj; injection hj with hj; omega)
            exact ⟨o1, o2, hO3.out.2.2.1.grown hgi, o4⟩
           clear hBi hgi
           go_wp2_with fail
           go_roundg G
           case measure => have := hG.out; omega
           case rel => exact ⟨k + 1, a + 128, by have := hG.out; omega, by omega, by omega, by go_num, hOn.out⟩
  ·obtain rfl : a = L := by omega
   have hkq : k = all.length / 128 := by have := hL.out; omega
   obtain ⟨sF, hsF⟩ : ∃ sF, Hid (sF = blocks KS H0 all k) := ⟨_, hid rfl⟩
   have hsum : Hid (sumOf l = sF.list.flatMap wordBytes) := by
    show _ = _
    unfold sumOf sumWith
    rw [hsF.out, hkq, hall.out]
   have hok : sF.ok := by rw [hsF.out]; exact blocks_ok H0_ok k
   have hSt := ho.1
   rw [← hsF.out] at hSt
   have HST := hid hSt
   have HWB := hid ho.2.2.2
   have hfl := fun i => list_lt hok i
   have HFL := hid hfl
   have hgl := hSt.lt
   obtain ⟨i0, hi, hz0, hz1, hz2⟩ := info_parts infoByte
   have hoe := hid (owns_empty W0)
   have hbe : Hid (Below W0.heap.size W0 (W0.alloc (.cells #[] 5))) := hid ((Below.refl _ _).alloc (Nat.le_refl _) _)
   clear ho hSt hok hfl hmk
   go_wp2_with fail
   go_loopg [18, 19, 20] 8 (fun gi vv iv _ w9 => ∃ i : Nat, gi + i = 8 ∧ iv = .int .i64 (i : Nat) ∧ w9.ownsRow W0.heap.size 5 1 vv (8 * i) (Lib.byteCells ((sF.list.take i).flatMap wordBytes)) ∧ Below W0.heap.size W0 w9)
   case atStart => exact ⟨0, by omega, rfl, hoe.out, hbe.out⟩
   case round =>
    obtain ⟨i, hi0, rfl, hown, hbw⟩ := hrel
    have HI0 := hid hi0
    clear hi0
    by_cases hlt4 : i < 8
    ·obtain ⟨G8, hG8⟩ : ∃ G8, Hid (gk = G8 + 1 ∧ G8 + (i + 1) = 8) := ⟨gk - 1, hid ⟨by have := HI0.out; omega, by have := HI0.out; omega⟩⟩
     have hdt : decide ((i : Int) < 8) = true := by simp; omega
     have hft := flat_take sF.list i hlt4
     have hxl := HFL.out i
     have HOW := hid hown
     have HBW := hid hbw
     have hgc : ∀ W, Below W0.heap.size W0 W → W.cell? ⟨gs, i, none⟩ = some (.int .u64 ((sF.list.getD i 0 : Nat) : Int)) := fun W hW => ((HST.out.old hW).cell i).trans (stA_get _ _ hlt4)
     generalize sF.list.getD i 0 = x at *
     have HGC := hid hgc
     have HFT := hid hft
     clear hgc hft hown hbw
     go_wp2_with fail
     go_loopg [18, 20] 8 (fun gj vv sv w9 => ∃ j : Nat, gj + j = 8 ∧ sv = .int .i64 (56 - 8 * (j : Int)) ∧ w9.ownsRow W0.heap.size 5 1 vv (8 * i + j) (Lib.byteCells ((sF.list.take i).flatMap wordBytes ++ (wordBytes x).take j)) ∧ Below W0.heap.size W0 w9)
     case atStart => exact ⟨0, by omega, rfl, by simpa using HOW.out, HBW.out⟩
     case round =>
      obtain ⟨j, hj0, rfl, hown, hbw⟩ := hrel
      have HJ0 := hid hj0
      clear hj0
      have hsz := hbw.size
      by_cases hlt5 : j < 8
      ·have hbt := byteOf_nat x j
       have HT := hid (wordBytes_take x j hlt5)
       obtain ⟨y, hy⟩ : ∃ y, Hid (y = Sha5.byteOf x j) := ⟨_, hid rfl⟩
       rw [← hy.out] at hbt HT
       have hcell := HGC.out _ hbw
       have hsh2 : IntKind.u8.wrap ((x : Int) / 2 ^ (56 - 8 * j)) = (y.toNat : Int) := by
        rw [IntKind.wrap_u8', hbt]; simp
       have ht : (56 - 8 * (j : Int)).toNat = 56 - 8 * j := by omega
       have hmin : min (56 - 8 * j) 64 = 56 - 8 * j := by omega
       have hs0' : (0 : Int) ≤ 56 - 8 * (j : Int) := by omega
       have hs1' : 56 - 8 * (j : Int) ≤ 56 := by omega
       have hwr : IntKind.u64.wrap (56 - 8 * (j : Int)) = 56 - 8 * (j : Int) := by rw [IntKind.wrap_u64]; omega
       have hw8 : IntKind.i64.wrap (56 - 8 * (j : Int) - 8) = 56 - 8 * (j : Int) - 8 := IntWalk.i64_in _ (by omega)
       have hr3 := hid (reads_one wr y (0, 0))
       clear hbt hy
       go_wp2_with (at_builtin; refine wpList_append_any _ rfl (.tmp 217) (.tmp 225) 22 rfl W0.heap.size 5 i0 (.int .u8 0) 1 1 Tryz.underlying22 hi hz0 hz1 hz2 rfl (by decide) _ _ _ rfl (hown.alloc _) (wr.heap.size + 1) _ 1 1 (Lib.byteCells [y]) rfl hr3.out (Lib.byteCells_one _) (by unfold maxLen; omega) (by omega) (by simp; omega) ?_)
       intro v4 w4 ho4 hg4 _
       have hb4 : Below W0.heap.size W0 w4 := (hbw.alloc hsz _).grown hg4 (by simp; omega) (fun k hk => (hown.lt k hk).1)
       have ho5 : Hid (w4.ownsRow W0.heap.size 5 1 v4 (8 * i + (j + 1)) (Lib.byteCells ((sF.list.take i).flatMap wordBytes ++ (wordBytes x).take (j + 1)))) := by
        show World.ownsRow _ _ _ _ _ _ _
        rw [HT.out, ← List.append_assoc, Lib.byteCells_append ((sF.list.take i).flatMap wordBytes ++ (wordBytes x).take j), ← Nat.add_assoc]
        exact ho4
       clear ho4 hg4 hr3 hown hcell
       go_wp2_with fail
       go_roundg (gk - 1)
       case measure => have := HJ0.out; omega
       case rel => exact ⟨j + 1, by have := HJ0.out; omega, by rw [show (56 - 8 * (j : Int) - 8) = 56 - 8 * ((j + 1 : Nat) : Int) from by omega], ho5.out, hb4⟩
      ·obtain rfl : j = 8 := by have := HJ0.out; omega
       have ho6 : Hid (wr.ownsRow W0.heap.size 5 1 u18 (8 * (i + 1)) (Lib.byteCells ((sF.list.take (i + 1)).flatMap wordBytes))) := by
        show World.ownsRow _ _ _ _ _ _ _
        have e8 : (wordBytes x).take 8 = wordBytes x := List.take_of_length_le (by rw [wordBytes_length]; omega)
        rw [HFT.out, ← e8, show 8 * (i + 1) = 8 * i + 8 by omega]; exact hown
       clear hown
       go_wp2_with fail
       go_roundg G8
       case measure => have := hG8.out; omega
       case rel => exact ⟨i + 1, hG8.out.2, by go_num, ho6.out, hbw⟩
    ·obtain rfl : i = 8 := by have := HI0.out; omega
     have hfin : Hid (wr.ownsRow w.heap.size 5 1 u18 (sumOf l).length (Lib.byteCells (sumOf l))) := by
      show World.ownsRow _ _ _ _ _ _ _
      rw [hsum.out, flat_length]
      exact owns_more hown HWB.out.size
     have hbf := HWB.out.trans (hbw.mono HWB.out.size)
     clear hown hbw
     go_wp2
     go_ret
     exact ⟨u18, rfl, hfin.out, hbf⟩
end Go.Proofs.YtcfogpeinjehbaaGreatDoor.Sha
end

section
namespace Go.Proofs.YtcfogpeinjehbaaGreatDoor
open Go Go.Proofs Go.RowKit
/-- WHAT THE WALK IS TOLD OF A SLICE OF INTEGERS THAT CAME IN: it is nil; or it leads to a row of 'cap' cells, the numbers 'zs' (the first 'len' are its elements, the rest its spare room), each fitting its kind. -/
def IsRow (k : IntKind) (w : World) (a : Option Addr) (len cap : Nat) (zs : List Int) : Prop :=
 (a = none ∧ len = 0 ∧ cap = 0 ∧ zs = []) ∨
 ∃ x, a = some x ∧ len ≤ cap ∧ cap ≤ maxLen ∧ zs.length = cap ∧ (∀ i, i < zs.length → w.cell? (x.add i) = some (.int k (zs.getD i 0))) ∧ ∀ n ∈ zs, (Lit.int k n).wf = true
def bytesOf (len : Nat) (zs : List Int) : List UInt8 := (zs.take len).map fun z => z.toNat.toUInt8
theorem reads_of_row {w : World} {a : Option Addr} {len cap : Nat} {zs : List Int} (h : IsRow .u8 w a len cap zs) : Reads w w.heap.size 1 a len (Lib.byteCells (bytesOf len zs)) ∧ len ≤ cap ∧ cap ≤ maxLen := by
 rcases h with ⟨rfl, rfl, rfl, rfl⟩ | ⟨x, rfl, hl, hm, hz, hc, hw⟩
 ·exact ⟨⟨by simp [bytesOf, Lib.byteCells], fun h => absurd h (by omega)⟩, Nat.le_refl _, by unfold maxLen; omega⟩
 ·refine ⟨⟨?_, fun hn => ⟨x, rfl, ?_, ?_⟩⟩, hl, hm⟩
  ·simp [bytesOf, Lib.byteCells_length]; omega
  ·have := hc 0 (by omega)
   rcases Nat.lt_or_ge x.block w.heap.size with h' | h'
   ·exact h'
   ·rw [World.cell?] at this
    have e : (x.add 0).block = x.block := block_of_add x 0
    rw [e, Array.getElem?_eq_none h'] at this
    simp at this
  ·intro j u hu
   have hj : j < (zs.take len).length := by
    have := (List.getElem?_eq_some_iff.1 hu).1
    simpa [bytesOf, Lib.byteCells] using this
   have hjz : j < zs.length := by simp at hj; omega
   rw [hc j hjz]
   simp only [bytesOf, Lib.byteCells, List.map_map, List.getElem?_map, List.getElem?_eq_getElem hj, Option.map_some, Option.some.injEq, Function.comp_apply] at hu
   rw [← hu, List.getElem_take]
   have hb := hw zs[j] (List.getElem_mem hjz)
   have hb2 := bounds_u8 hb
   have e1 : zs.getD j 0 = zs[j] := by simp [List.getD, List.getElem?_eq_getElem hjz]
   rw [e1]
   congr 2
   simp
   omega
end Go.Proofs.YtcfogpeinjehbaaGreatDoor
end

section
namespace Go.Proofs.YtcfogpeinjehbaaGreatDoor.Sha
open Go Go.Proofs Go.RowKit Sha5
theorem RowsR.reads_len {w : World} {B n : Nat} {A : Option Addr} {ls : List (List UInt8)} (h : RowsR w B A n ls) (i : Nat) (hi : i < n) : ∃ ad Ai ni ci, A = some ad ∧ ad.block < B ∧ w.cell? (ad.add i) = some (.slice Ai ni ci) ∧ Reads w B 1 Ai ni (Lib.byteCells (ls.getD i [])) ∧ ni ≤ ci ∧ (ls.getD i []).length = ni := by
 obtain ⟨ad, Ai, ni, ci, h1, h2, h3, h4, h5⟩ := h.2 i hi
 exact ⟨ad, Ai, ni, ci, h1, h2, h3, h4, h5, by have := h4.1; simpa [Lib.byteCells_length] using this⟩
set_option maxHeartbeats 2000000 in
set_option maxRecDepth 100000 in
theorem join_any (A : Option Addr) (n c B : Nat) (ls : List (List UInt8)) (w : World) (hr : RowsR w B A n ls) (hB : B ≤ w.heap.size) (hN : ls.flatten.length ≤ 274877906944) (hn : n ≤ 4611686018427387904) :
  Calls Tryz.prog 61 #[.slice A n c] w (GrowEnd w.heap.size ls.flatten w) := by
 have HR := hid hr
 have HLS := hid hr.1
 clear hr
 obtain ⟨i0, hi, hz0, hz1, hz2⟩ := info_parts infoByte
 have hoe := hid (owns_empty w)
 have hbe : Hid (Below w.heap.size w (w.alloc (.cells #[] 5))) := hid ((Below.refl _ _).alloc (Nat.le_refl _) _)
 go_enter Tryz.func61, Tryz.ntmps61
 go_wp2_with fail
 go_loopg [3, 4, 8] n (fun gh vv _ iv wr => ∃ k : Nat, gh + k = n ∧ iv = .int .i64 (k : Nat) ∧ wr.ownsRow w.heap.size 5 1 vv (ls.take k).flatten.length (Lib.byteCells (ls.take k).flatten) ∧ Below w.heap.size w wr)
 case atStart => exact ⟨0, by omega, rfl, hoe.out, hbe.out⟩
 case round =>
  obtain ⟨k, hk0, rfl, hown, hbel⟩ := hrel
  have HK0 := hid hk0
  clear hk0
  have hsz := hbel.size
  by_cases hlt : k < n
  ·obtain ⟨ad, Ai, ni, ci, rfl, h2, h3, h4, h5, h6⟩ := (HR.out.old hbel hB).reads_len k hlt
   have hft := flatten_take ls k (by rw [HLS.out]; exact hlt)
   have hfl := flatten_le ls (k + 1)
   have hfl2 := hft
   have hlen : (ls.take (k + 1)).flatten.length = (ls.take k).flatten.length + ni := by rw [hft, List.length_append, h6]
   rw [hlen] at hfl
   have HFT := hid hft
   have HLEN := hid hlen
   have HRD := hid h4
   clear hft hfl2 hlen h6 h4
   go_wp2_with (at_builtin; refine wpList_append_any _ rfl (.tmp 11) (.tmp 15) 22 rfl w.heap.size 5 i0 (.int .u8 0) 1 1 Tryz.underlying22 hi hz0 hz1 hz2 rfl (by decide) _ _ _ rfl hown B Ai ni ci (Lib.byteCells (ls.getD k [])) rfl HRD.out (Lib.byteCells_one _) (by unfold maxLen; omega) (by omega) hsz ?_)
   intro v4 w4 ho4 hg4 _
   have hb4 : Below w.heap.size w w4 := hbel.grown hg4 hsz (fun j hj => (hown.lt j hj).1)
   have ho5 : Hid (w4.ownsRow w.heap.size 5 1 v4 (ls.take (k + 1)).flatten.length (Lib.byteCells (ls.take (k + 1)).flatten)) := by
    show World.ownsRow _ _ _ _ _ _ _
    rw [HLEN.out, HFT.out, Lib.byteCells_append, List.getD_eq_getElem?_getD, List.length_flatten, List.map_take]; exact ho4
   clear ho4 hg4 hown
   go_wp2_with fail
   go_roundg (gk - 1)
   case measure => have := HK0.out; omega
   case rel => exact ⟨k + 1, by have := HK0.out; omega, by go_num, ho5.out, hb4⟩
  ·obtain rfl : k = n := by have := HK0.out; omega
   have hall : (ls.take k).flatten = ls.flatten := by rw [List.take_of_length_le (by rw [HLS.out]; omega)]
   have HO : Hid (wr.ownsRow w.heap.size 5 1 u3 ls.flatten.length (Lib.byteCells ls.flatten)) := by
    show World.ownsRow _ _ _ _ _ _ _
    rw [← hall]; exact hown
   clear hown hall
   go_wp2
   go_ret
   exact ⟨u3, rfl, HO.out, hbel⟩
end Go.Proofs.YtcfogpeinjehbaaGreatDoor.Sha
end

section
namespace Go.Proofs.YtcfogpeinjehbaaGreatDoor
open Go Go.Proofs Go.RowKit F5
/-- Three new blocks of limbs. -/
def Two3 (w : World) (a b c : Array Value) (wr : World) : Prop :=
 Blk wr w.heap.size 54 a ∧ Blk wr (w.heap.size + 1) 54 b ∧ Blk wr (w.heap.size + 2) 54 c ∧ Below w.heap.size w wr
theorem Two3.drew {w wr : World} {a b c : Array Value} (h : Two3 w a b c wr) : Two3 w a b c wr.drew := ⟨h.1.drew, h.2.1.drew, h.2.2.1.drew, h.2.2.2.drew⟩
theorem Two3.next {w wr w' : World} {a b c : Array Value} (h : Two3 w a b c wr) (hb : Below wr.heap.size wr w') : Two3 w a b c w' :=
 ⟨h.1.old hb, h.2.1.old hb, h.2.2.1.old hb, h.2.2.2.trans (hb.mono h.2.2.2.size)⟩
theorem Two3.set {w wr : World} {L : List Nat} {b c : Array Value} (h : Two3 w (u64s L) b c wr) (i s : Nat) : Two3 w (u64s (L.set i s)) b c (wr.setCell ⟨w.heap.size, i, none⟩ (.int .u64 (s : Int))) :=
 ⟨h.1.u64set i s, h.2.1.far (by show w.heap.size + 1 ≠ w.heap.size; omega) _, h.2.2.1.far (by show w.heap.size + 2 ≠ w.heap.size; omega) _, h.2.2.2.setCell (by show w.heap.size ≤ w.heap.size; omega) _⟩
theorem Two3.new (w : World) (a b c : Array Value) : Two3 w a b c (((w.alloc (.cells a 54)).alloc (.cells b 54)).alloc (.cells c 54)) := by
 obtain ⟨b1, b2, _, hb, _⟩ := three_blks w a b b 54
 have h1 : Blk ((w.alloc (.cells a 54)).alloc (.cells b 54)) w.heap.size 54 a := (Blk.new w 54 a).alloc _
 have h2 : Blk ((w.alloc (.cells a 54)).alloc (.cells b 54)) (w.heap.size + 1) 54 b := by
  have := Blk.new (w.alloc (.cells a 54)) 54 b
  rwa [show (w.alloc (.cells a 54)).heap.size = w.heap.size + 1 by simp] at this
 have h3 := Blk.new ((w.alloc (.cells a 54)).alloc (.cells b 54)) 54 c
 rw [show ((w.alloc (.cells a 54)).alloc (.cells b 54)).heap.size = w.heap.size + 2 by simp] at h3
 exact ⟨h1.alloc _, h2.alloc _, h3, (((Below.refl _ _).alloc (Nat.le_refl _) _).alloc (by simp) _).alloc (by simp; omega) _⟩
set_option maxHeartbeats 4000000 in
set_option maxRecDepth 100000 in
theorem refAdd_any (n m : Nat) (hn : n < 2 ^ 256) (hm : m < 2 ^ 256) (w : World) :
  Calls Tryz.prog 87 #[refV n, refV m] w fun e w' => e = .returned (refV ((n + m) % P)) ∧ Below w.heap.size w w' := by
 have hal : Tryz.prog.arrayLen 54 = 16 := by kernel_rfl
 have hel : Tryz.prog.elem 54 = 40 := by kernel_rfl
 unfold refV
 obtain ⟨cn, hcn⟩ : ∃ c, Hid (c = limF n) := ⟨_, hid rfl⟩
 obtain ⟨cm, hcm⟩ : ∃ c, Hid (c = limF m) := ⟨_, hid rfl⟩
 rw [← hcn.out, ← hcm.out]
 obtain ⟨z, hz⟩ : ∃ z, Hid (z = limF 0) := ⟨_, hid rfl⟩
 have hz0 : ∀ W, (zeroValue 54).run Tryz.prog W = .ok (.agg z) W := by
  rw [hz.out, ← zero16]; exact (zero_of_info (n := 16) (by kernel_rfl)).1
 have HM := hid hm
 have HN := hid hn
 clear hm hn
 go_enter Tryz.func87, Tryz.ntmps87
 go_wp2
 have h3 := Two3.new w cn cm z
 generalize ((w.alloc (.cells cn 54)).alloc (.cells cm 54)).alloc (.cells z 54) = W at *
 rw [hcn.out, hcm.out] at h3
 go_loopg [5] 16 (fun g iv wr => ∃ i L, iv = .int .i64 (i : Nat) ∧ g + i = 16 ∧ AddL n m i L ∧ Two3 w (u64s L) (limF m) z wr)
 case atStart => exact ⟨0, digs B n 16, rfl, rfl, AddL.zero HN.out, h3⟩
 case round =>
  obtain ⟨i, L, rfl, hg, hL, hT⟩ := hrel
  clear h3
  by_cases hlt : i < 16
  ·have hx := hT.1.u64 i (by rw [hL.1]; exact hlt)
   have hy : wr.cell? ⟨w.heap.size + 1, i, none⟩ = some (.int .u64 (((digs B m 16).getD i 0 : Nat) : Int)) := hT.2.1.u64 i (by rw [digs_length]; exact hlt)
   rw [digs_at hlt] at hy
   have hf := hT.1.frozen i
   obtain ⟨s, hs⟩ := named (L.getD i 0 + m / B ^ i % B)
   have hxl := hL.2.1 i
   have hyl := lim_lt m i
   have hnl := hL.next hlt
   rw [← hs.out] at hnl
   obtain ⟨x, hX⟩ := named (L.getD i 0)
   obtain ⟨y, hY⟩ := named (m / B ^ i % B)
   rw [← hX.out] at hx hxl
   rw [← hY.out] at hy hyl
   have hxs : s = x + y := by rw [hs.out, hX.out, hY.out]
   have cs := wrap_sum x y s (by rw [hxs]; unfold M; unfold B at hyl; omega)
   have HNL := hid hnl
   have n1 := hid (hT.set i s)
   clear hT hL hnl hxs hxl hyl hz0
   go_wp2
   go_region
   have hnd := hid n1.out.drew
   clear n1
   go_wp2
   go_roundg (gk - 1)
   case measure => omega
   case rel => exact ⟨i + 1, L.set i s, by go_num, by omega, HNL.out, hnd.out⟩
  ·obtain rfl : i = 16 := by omega
   obtain ⟨hl, hsm, hv⟩ := hL.done HM.out
   have hRi := hid (u64s_info hl)
   have HT := hid hT
   have HL := hid hl
   have HS := hid hsm
   clear hT hL hl hsm hz0
   go_wp2_with (first | (refine wpList_load_row rfl 54 (.tmp 2) rfl w.heap.size rfl 54 (u64s L) (0, 0) _ HT.out.1 Tryz.underlying54 rfl hRi.out ?_))
   refine (fit_any L HL.out HS.out _).mono ?_
   rintro e w1 ⟨rfl, hb1⟩
   rw [hv, show u64s (digs B ((n + m) % P) 16) = limF ((n + m) % P) from rfl]
   have HT1 := hid (HT.out.next hb1)
   clear hb1 hv
   have hRi2 := hid (limF_info ((n + m) % P))
   have hR12 := hid (limF_one ((n + m) % P))
   have hzz : Hid (z.size = (limF ((n + m) % P)).size) := hid (by rw [hz.out, limF_size, limF_size])
   obtain ⟨R, hR⟩ : ∃ R, Hid (R = limF ((n + m) % P)) := ⟨_, hid rfl⟩
   rw [← hR.out] at hRi2 hR12 hzz ⊢
   go_wp2_with (first | (refine wpList_store_row rfl 54 (.tmp 4) (.tmp 20) rfl (w.heap.size + 2) R rfl rfl 54 z HT1.out.2.2.1 hRi2.out hzz.out hR12.out ?_))
   refine bodyPost_ret (v := .agg R) ?_ rfl ⟨by rw [hR.out], below_row HT1.out.2.2.2 (by omega) _⟩
   exact results_cell_row Tryz.results87 _ _ (w.heap.size + 2) 54 R (0, 0) _ rfl ((HT1.out.2.2.1).row R) Tryz.underlying54 rfl hRi2.out
theorem digsP : digs B P 16 = [65517, 65535, 65535, 65535, 65535, 65535, 65535, 65535, 65535, 65535, 65535, 65535, 65535, 65535, 65535, 32767] := by decide +kernel
theorem limFP : (#[.int .u64 65517, .int .u64 65535, .int .u64 65535, .int .u64 65535, .int .u64 65535, .int .u64 65535, .int .u64 65535, .int .u64 65535, .int .u64 65535, .int .u64 65535, .int .u64 65535, .int .u64 65535, .int .u64 65535, .int .u64 65535, .int .u64 65535, .int .u64 32767] : Array Value) = limF P := by
 rw [limF, digsP]; rfl
theorem limFZ : (#[.int .u64 0, .int .u64 0, .int .u64 0, .int .u64 0, .int .u64 0, .int .u64 0, .int .u64 0, .int .u64 0, .int .u64 0, .int .u64 0, .int .u64 0, .int .u64 0, .int .u64 0, .int .u64 0, .int .u64 0, .int .u64 0] : Array Value) = limF 0 := by
 rw [← zero16]; rfl
set_option maxHeartbeats 4000000 in
set_option maxRecDepth 100000 in
theorem refNeg_any (n : Nat) (hn : n < P) (w : World) :
  Calls Tryz.prog 69 #[refV n] w fun e w' => e = .returned (refV ((P - n) % P)) ∧ Below w.heap.size w w' := by
 have hal : Tryz.prog.arrayLen 54 = 16 := by kernel_rfl
 have hel : Tryz.prog.elem 54 = 40 := by kernel_rfl
 unfold refV
 obtain ⟨cn, hcn⟩ : ∃ c, Hid (c = limF n) := ⟨_, hid rfl⟩
 rw [← hcn.out]
 obtain ⟨z, hz⟩ : ∃ z, Hid (z = limF 0) := ⟨_, hid rfl⟩
 have HN := hid hn
 have HN2 : Hid (n < 2 ^ 256) := hid (Nat.lt_trans hn (by decide))
 clear hn
 go_enter Tryz.func69, Tryz.ntmps69
 go_wp2
 rw [limFP, limFZ, ← hz.out]
 have h3 := Two3.new w cn z (limF P)
 generalize ((w.alloc (.cells cn 54)).alloc (.cells z 54)).alloc (.cells (limF P) 54) = W at *
 rw [hcn.out] at h3
 obtain ⟨zp, hzp⟩ : ∃ zp, Hid (zp = limF P) := ⟨_, hid rfl⟩
 rw [← hzp.out]
 go_loopg [4, 5] 16 (fun g bv iv wr => ∃ i b L, bv = .int .u64 (b : Nat) ∧ iv = .int .i64 (i : Nat) ∧ g + i = 16 ∧ NegL n i b L ∧ Two3 w (u64s L) z (limF P) wr)
 case atStart => exact ⟨0, 0, digs B n 16, rfl, rfl, rfl, NegL.zero HN2.out, h3⟩
 case round =>
  obtain ⟨i, b, L, rfl, rfl, hg, hL, hT⟩ := hrel
  clear h3
  by_cases hlt : i < 16
  ·have hx := hT.1.u64 i (by rw [hL.1]; exact hlt)
   have hy : wr.cell? ⟨w.heap.size + 2, i, none⟩ = some (.int .u64 (((digs B P 16).getD i 0 : Nat) : Int)) := hT.2.2.1.u64 i (by rw [digs_length]; exact hlt)
   rw [digs_at hlt] at hy
   have hf := hT.1.frozen i
   have hxl : L.getD i 0 < B := hL.2.1.getD (by decide) i
   have hyl := lim_lt P i
   have hb1 := hL.2.2.2.1
   obtain ⟨x, hX⟩ := named (L.getD i 0)
   obtain ⟨y, hY⟩ := named (P / B ^ i % B)
   rw [← hX.out] at hx hxl
   rw [← hY.out] at hy hyl
   have hxl : x ≤ 65535 := by unfold B at hxl; omega
   have hyl : y ≤ 65535 := by unfold B at hyl; omega
   obtain ⟨q1, hq1⟩ := named (y + 65536)
   obtain ⟨q2, hq2⟩ := named (q1 - x)
   obtain ⟨q3, hq3⟩ := named (q2 - b)
   obtain ⟨d, hd⟩ := named (q3 / 65536)
   obtain ⟨r, hr⟩ := named (q3 % 65536)
   obtain ⟨b2, hb2⟩ := named (1 - d)
   have c1 : IntKind.u64.wrap ((y : Int) + 65536) = (q1 : Int) := by rw [IntKind.wrap_u64, hq1.out]; omega
   have c2 : IntKind.u64.wrap ((q1 : Int) - (x : Int)) = (q2 : Int) := by rw [IntKind.wrap_u64, hq2.out, hq1.out]; omega
   have c3 : IntKind.u64.wrap ((q2 : Int) - (b : Int)) = (q3 : Int) := by rw [IntKind.wrap_u64, hq3.out, hq2.out, hq1.out]; omega
   have c4 : IntKind.u64.wrap (1 - (d : Int)) = (b2 : Int) := by rw [IntKind.wrap_u64, hb2.out, hd.out, hq3.out, hq2.out, hq1.out]; omega
   have c5 : IntKind.u64.wrap (d : Int) = (d : Int) := by rw [IntKind.wrap_u64, hd.out, hq3.out, hq2.out, hq1.out]; omega
   have d1 : (q3 : Int) / 65536 = (d : Int) := by rw [hd.out]; omega
   have d2 : (q3 : Int).tdiv 65536 = (d : Int) := by rw [Int.tdiv_eq_ediv_of_nonneg (by omega)]; omega
   have d3 : (q3 : Int) % 65536 = (r : Int) := by rw [hr.out]; omega
   have d4 : (q3 : Int).tmod 65536 = (r : Int) := by rw [Int.tmod_eq_emod_of_nonneg (by omega)]; omega
   have hnl : NegL n (i + 1) b2 (L.set i r) := by
    have := hL.next (n := q3) hlt (by rw [← hX.out, ← hY.out, hq3.out, hq2.out, hq1.out]; omega)
    rw [hb2.out, hd.out, hr.out]; exact this
   have HNL := hid hnl
   have n1 := hid (hT.drew.set i r)
   clear hT hL hnl hxl hyl hb1
   go_wp2
   go_region
   go_wp2
   go_roundg (gk - 1)
   case measure => omega
   case rel => exact ⟨i + 1, b2, L.set i r, rfl, by go_num, by omega, HNL.out, n1.out⟩
  ·obtain rfl : i = 16 := by omega
   obtain ⟨hl, hsm, hv⟩ := hL.done HN.out
   have hRi := hid (u64s_info hl)
   have HT := hid hT
   have HL := hid hl
   have HS := hid hsm
   clear hT hL hl hsm
   go_wp2_with (first | (refine wpList_load_row rfl 54 (.tmp 1) rfl w.heap.size rfl 54 (u64s L) (0, 0) _ HT.out.1 Tryz.underlying54 rfl hRi.out ?_))
   refine (fit_any L HL.out HS.out _).mono ?_
   rintro e w1 ⟨rfl, hb1⟩
   rw [hv, show u64s (digs B ((P - n) % P) 16) = limF ((P - n) % P) from rfl]
   have HT1 := hid (HT.out.next hb1)
   clear hb1 hv
   have hRi2 := hid (limF_info ((P - n) % P))
   have hR12 := hid (limF_one ((P - n) % P))
   have hzz : Hid (z.size = (limF ((P - n) % P)).size) := hid (by rw [hz.out, limF_size, limF_size])
   obtain ⟨R, hR⟩ : ∃ R, Hid (R = limF ((P - n) % P)) := ⟨_, hid rfl⟩
   rw [← hR.out] at hRi2 hR12 hzz ⊢
   go_wp2_with (first | (refine wpList_store_row rfl 54 (.tmp 2) (.tmp 30) rfl (w.heap.size + 1) R rfl rfl 54 z HT1.out.2.1 hRi2.out hzz.out hR12.out ?_))
   refine bodyPost_ret (v := .agg R) ?_ rfl ⟨by rw [hR.out], below_row HT1.out.2.2.2 (by omega) _⟩
   exact results_cell_row Tryz.results69 _ _ (w.heap.size + 1) 54 R (0, 0) _ rfl ((HT1.out.2.1).row R) Tryz.underlying54 rfl hRi2.out
set_option maxHeartbeats 4000000 in
set_option maxRecDepth 100000 in
theorem refSub_any (n m : Nat) (hn : n < 2 ^ 256) (hm : m < P) (w : World) :
  Calls Tryz.prog 88 #[refV n, refV m] w fun e w' => e = .returned (refV ((n + (P - m) % P) % P)) ∧ Below w.heap.size w w' := by
 unfold refV
 obtain ⟨cn, hcn⟩ : ∃ c, Hid (c = limF n) := ⟨_, hid rfl⟩
 obtain ⟨cm, hcm⟩ : ∃ c, Hid (c = limF m) := ⟨_, hid rfl⟩
 rw [← hcn.out, ← hcm.out]
 obtain ⟨z, hz⟩ : ∃ z, Hid (z = limF 0) := ⟨_, hid rfl⟩
 have hz0 : ∀ W, (zeroValue 54).run Tryz.prog W = .ok (.agg z) W := by
  rw [hz.out, ← zero16]; exact (zero_of_info (n := 16) (by kernel_rfl)).1
 have HM := hid hm
 have HN := hid hn
 clear hm hn
 have hN : ∀ W, Calls Tryz.prog 69 #[.agg cm] W fun e w' => e = .returned (.agg (limF ((P - m) % P))) ∧ Below W.heap.size W w' := fun W => by rw [hcm.out]; exact refNeg_any m HM.out W
 have hA : ∀ W, Calls Tryz.prog 87 #[.agg cn, .agg (limF ((P - m) % P))] W fun e w' => e = .returned (.agg (limF ((n + (P - m) % P) % P))) ∧ Below W.heap.size W w' := fun W => by
  rw [hcn.out]; exact refAdd_any n ((P - m) % P) HN.out (Nat.lt_trans (Nat.mod_lt _ (by decide)) (by decide)) W
 have CN := hid hN
 have CA := hid hA
 have hni : Hid ((Tryz.prog.info? 54).map (·.size) = some cn.size) := by rw [hcn.out]; exact hid (limF_info n)
 have hmi : Hid ((Tryz.prog.info? 54).map (·.size) = some cm.size) := by rw [hcm.out]; exact hid (limF_info m)
 have hRi2 : Hid ((Tryz.prog.info? 54).map (·.size) = some (limF ((n + (P - m) % P) % P)).size) := hid (limF_info _)
 have hR12 : Hid ((limF ((n + (P - m) % P) % P)).all (·.oneCell') = true) := hid (limF_one _)
 have hzz : Hid (z.size = (limF ((n + (P - m) % P) % P)).size) := hid (by rw [hz.out, limF_size, limF_size])
 generalize limF ((n + (P - m) % P) % P) = R at *
 clear hN hA
 obtain ⟨Y, hY⟩ : ∃ Y, Hid (Y = limF ((P - m) % P)) := ⟨_, hid rfl⟩
 rw [← hY.out] at CN CA
 go_enter Tryz.func88, Tryz.ntmps88
 go_wp2_with fail
 have h3 := Two3.new w cn cm z
 generalize ((w.alloc (.cells cn 54)).alloc (.cells cm 54)).alloc (.cells z 54) = W at *
 have H3 := hid h3.drew
 refine wp_region_held_drew (S := fun W => Blk W w.heap.size 54 cn ∧ Blk W (w.heap.size + 1) 54 cm) (by kernel_rfl) ⟨h3.1.drew, h3.2.1.drew⟩ (fun hHeld => ?_)
 clear h3 hz0
 generalize W.drew = W0 at *
 refine' wpAnyH_take (i := 0) (oi := _) (v := .agg cn) ?hit0 ?hst0 ?hft0 ?hrt0 ?hQt0 ?hyt0 ?hSt0 ?_
 case hit0 => (simp only [zD, zE, zF]; rfl)
 case hst0 | hft0 | hrt0 => kernel_rfl
 case hQt0 => exact fun _ _ _ h => h
 case hSt0 => assumption
 case hyt0 =>
  refine Or.inl ⟨by rfl, ?_⟩
  intro W hS
  exact quiet_load_row 54 (.tmp 2) _ rfl 54 cn _ hS.1 Tryz.underlying54 rfl hni.out rfl
 (try simp only [Act.put, zA, zB, zC])
 refine' wpAnyH_take (i := 1) (oi := _) (v := .agg cm) ?hit1 ?hst1 ?hft1 ?hrt1 ?hQt1 ?hyt1 ?hSt1 ?_
 case hit1 => (simp only [zD, zE, zF]; rfl)
 case hst1 | hft1 | hrt1 => kernel_rfl
 case hQt1 => exact fun _ _ _ h => h
 case hSt1 => assumption
 case hyt1 =>
  refine Or.inl ⟨by rfl, ?_⟩
  intro W hS
  exact quiet_load_row 54 (.tmp 3) _ rfl 54 cm _ hS.2 Tryz.underlying54 rfl hmi.out rfl
 (try simp only [Act.put, zA, zB, zC])
 refine wpAnyH_ready (rs := [2]) (by kernel_rfl) (by simp) ?_
 refine' AllReadyH.cons (o := _) ?hir2 (fun K hK => ?_) AllReadyH.nil
 case hir2 => (simp only [zD, zE, zF]; rfl)
 go_simp
 refine (CN.out _).mono ?_
 rintro e w4 ⟨rfl, hb4⟩
 have H4 := hid (H3.out.next hb4)
 clear hb4
 go_wp2_with fail
 refine hK.out _ _ ?_ (fun hHeld => ?_)
 exact ⟨H4.out.1, H4.out.2.1⟩
 clear hK K
 (try simp only [Act.put, zA, zB, zC])
 refine wpAnyH_ready (rs := [3]) (by kernel_rfl) (by simp) ?_
 refine' AllReadyH.cons (o := _) ?hir3 (fun K hK => ?_) AllReadyH.nil
 case hir3 => (simp only [zD, zE, zF]; rfl)
 go_simp
 refine (CA.out _).mono ?_
 rintro e w5 ⟨rfl, hb5⟩
 have H5 := hid (H4.out.next hb5)
 clear hb5
 go_wp2_with fail
 refine hK.out _ _ ?_ (fun hHeld => ?_)
 exact ⟨H5.out.1, H5.out.2.1⟩
 clear hK K
 (try simp only [Act.put, zA, zB, zC])
 refine wpAnyH_ready (rs := [4]) (by kernel_rfl) (by simp) ?_
 refine' AllReadyH.cons (o := _) ?hir4 (fun K hK => ?_) AllReadyH.nil
 case hir4 => (simp only [zD, zE, zF]; rfl)
 refine step_of_wp rfl ?_
 refine wp_store_row 54 (.tmp 4) (.tmp 8) rfl (w.heap.size + 2) R rfl rfl 54 z H5.out.2.2.1 hRi2.out hzz.out hR12.out ?_
 refine hK.out _ _ ?_ (fun hHeld => ?_)
 exact ⟨H5.out.1.rowFar (by omega) _, H5.out.2.1.rowFar (by omega) _⟩
 clear hK K
 (try simp only [Act.put, zA, zB, zC])
 refine wpAnyH_done (by kernel_rfl) ?_ _
 have hfin := H5.out.2.2.1.row R
 have hbel := hid (below_row H5.out.2.2.2 (show w.heap.size ≤ w.heap.size + 2 by omega) R)
 generalize w5.setRow (w.heap.size + 2) R = W5 at *
 have HFIN := hid hfin
 clear hfin hHeld
 go_wp2
 refine bodyPost_ret (v := .agg R) ?_ rfl ⟨rfl, hbel.out⟩
 exact results_cell_row Tryz.results88 _ _ (w.heap.size + 2) 54 R (0, 0) _ rfl HFIN.out Tryz.underlying54 rfl hRi2.out
end Go.Proofs.YtcfogpeinjehbaaGreatDoor
end

section
namespace Go.Proofs.YtcfogpeinjehbaaGreatDoor
open Go Go.Proofs Go.RowKit F5
/-- Four new blocks: both factors, the result, and the product's limbs. -/
def Four (w : World) (n m : Nat) (z : Array Value) (L : List Nat) (wr : World) : Prop :=
 Two3 w (limF n) (limF m) z wr ∧ Blk wr (w.heap.size + 3) 121 (u64s L)
theorem Four.drew {w wr : World} {n m : Nat} {z : Array Value} {L : List Nat} (h : Four w n m z L wr) : Four w n m z L wr.drew := ⟨h.1.drew, h.2.drew⟩
theorem Four.set {w wr : World} {n m : Nat} {z : Array Value} {L : List Nat} (h : Four w n m z L wr) (i s : Nat) : Four w n m z (L.set i s) (wr.setCell ⟨w.heap.size + 3, i, none⟩ (.int .u64 (s : Int))) :=
 ⟨⟨h.1.1.far (by show w.heap.size ≠ w.heap.size + 3; omega) _, h.1.2.1.far (by show w.heap.size + 1 ≠ w.heap.size + 3; omega) _, h.1.2.2.1.far (by show w.heap.size + 2 ≠ w.heap.size + 3; omega) _, h.1.2.2.2.setCell (by show w.heap.size ≤ w.heap.size + 3; omega) _⟩, h.2.u64set i s⟩
theorem Four.next {w wr w' : World} {n m : Nat} {z : Array Value} {L : List Nat} (h : Four w n m z L wr) (hb : Below wr.heap.size wr w') : Four w n m z L w' := ⟨h.1.next hb, h.2.old hb⟩
theorem heap_alloc4_new (w : World) (a b c d : Array Value) (T1 T2 : TypeId) : Blk ((((w.alloc (.cells a T1)).alloc (.cells b T1)).alloc (.cells c T1)).alloc (.cells d T2)) (w.heap.size + 3) T2 d := by
 have h := Blk.new (((w.alloc (.cells a T1)).alloc (.cells b T1)).alloc (.cells c T1)) T2 d
 rwa [show (((w.alloc (.cells a T1)).alloc (.cells b T1)).alloc (.cells c T1)).heap.size = w.heap.size + 3 by simp] at h
/-- The sum with what counts 38 times, its first i limbs done. -/
def OutAt (w : World) (n m : Nat) (z : Array Value) (L : List Nat) (g : Nat) (i : Nat) (wr : World) : Prop :=
 Four w n m z L wr ∧ Blk wr g 54 (u64s (partN (foldL L) i)) ∧ w.heap.size + 3 < g
theorem OutAt.drew {w wr : World} {n m g i : Nat} {z : Array Value} {L : List Nat} (h : OutAt w n m z L g i wr) : OutAt w n m z L g i wr.drew := ⟨h.1.drew, h.2.1.drew, h.2.2⟩
theorem Four.far {w wr : World} {n m g : Nat} {z : Array Value} {L : List Nat} (h : Four w n m z L wr) (hg : w.heap.size + 3 < g) (i : Nat) (v : Value) : Four w n m z L (wr.setCell ⟨g, i, none⟩ v) :=
 ⟨⟨h.1.1.far (by show w.heap.size ≠ g; omega) _, h.1.2.1.far (by show w.heap.size + 1 ≠ g; omega) _, h.1.2.2.1.far (by show w.heap.size + 2 ≠ g; omega) _, h.1.2.2.2.setCell (by show w.heap.size ≤ g; omega) _⟩, h.2.far (by show w.heap.size + 3 ≠ g; omega) _⟩
theorem info32u : (Tryz.prog.info? 121).map (·.size) = some 32 := by kernel_rfl
set_option maxHeartbeats 8000000 in
set_option maxRecDepth 100000 in
theorem refMul_any (n m : Nat) (hn : n < 2 ^ 256) (hm : m < 2 ^ 256) (w : World) :
  Calls Tryz.prog 53 #[refV n, refV m] w fun e w' => e = .returned (refV (n * m % P)) ∧ Below w.heap.size w w' := by
 have hal : Tryz.prog.arrayLen 54 = 16 := by kernel_rfl
 have hel : Tryz.prog.elem 54 = 40 := by kernel_rfl
 have hal2 : Tryz.prog.arrayLen 121 = 32 := by kernel_rfl
 have hel2 : Tryz.prog.elem 121 = 40 := by kernel_rfl
 unfold refV
 obtain ⟨cn, hcn⟩ : ∃ c, Hid (c = limF n) := ⟨_, hid rfl⟩
 obtain ⟨cm, hcm⟩ : ∃ c, Hid (c = limF m) := ⟨_, hid rfl⟩
 rw [← hcn.out, ← hcm.out]
 obtain ⟨z, hz⟩ : ∃ z, Hid (z = limF 0) := ⟨_, hid rfl⟩
 have hz0 : ∀ W, (zeroValue 54).run Tryz.prog W = .ok (.agg z) W := by
  rw [hz.out, ← zero16]; exact (zero_of_info (n := 16) (by kernel_rfl)).1
 obtain ⟨z2, hz2⟩ : ∃ z, Hid (z = u64s (List.replicate 32 0)) := ⟨_, hid rfl⟩
 have hz20 : ∀ W, (zeroValue 121).run Tryz.prog W = .ok (.agg z2) W := by
  rw [hz2.out]; exact (zero_of_info (n := 32) (by kernel_rfl)).1
 have hzi : Hid ((Tryz.prog.info? 54).map (·.size) = some z.size) := by rw [hz.out]; exact hid (limF_info 0)
 have hz1 : Hid (z.all (·.oneCell') = true) := by rw [hz.out]; exact hid (limF_one 0)
 have hzi2 : Hid ((Tryz.prog.info? 121).map (·.size) = some z2.size) := by rw [hz2.out, u64s_size]; exact hid info32u
 have hz12 : Hid (z2.all (·.oneCell') = true) := by rw [hz2.out]; exact hid (u64s_one _)
 have HM := hid hm
 have HN := hid hn
 have h3 : Four w n m z (List.replicate 32 0) ((((w.alloc (.cells cn 54)).alloc (.cells cm 54)).alloc (.cells z 54)).alloc (.cells z2 121)) := by
  have h := Two3.new w cn cm z
  have h2 := heap_alloc4_new w cn cm z z2 54 121
  rw [hcn.out, hcm.out] at h h2 ⊢
  refine ⟨h.next ((Below.refl _ _).alloc (Nat.le_refl _) _), ?_⟩
  rw [← hz2.out]; exact h2
 have H3 := hid h3
 clear hm hn h3
 go_enter Tryz.func53, Tryz.ntmps53
 go_wp2_with (first | (refine wpList_store_row rfl 121 (.tmp 5) (.tmp 10) rfl (w.heap.size + 3) z2 rfl rfl 121 z2 (heap_alloc4_new w _ _ _ _ _ _) hzi2.out rfl hz12.out ?_; rw [setRow_self (heap_alloc4_new w _ _ _ _ _ _)]))
 generalize (((w.alloc (.cells cn 54)).alloc (.cells cm 54)).alloc (.cells z 54)).alloc (.cells z2 121) = W at *
 clear hz20
 go_loopg [6] 16 (fun g iv wr => ∃ i L, iv = .int .i64 (i : Nat) ∧ g + i = 16 ∧ MulL n m i 0 L ∧ Four w n m z L wr)
 case atStart => exact ⟨0, _, rfl, rfl, MulL.zero, H3.out⟩
 case round =>
  obtain ⟨i, L, rfl, hg, hL, hT⟩ := hrel
  clear H3
  by_cases hlt : i < 16
  ·obtain ⟨G, hG⟩ : ∃ G, Hid (gk = G + 1 ∧ G + (i + 1) = 16) := ⟨gk - 1, hid ⟨by omega, by omega⟩⟩
   have HL := hid hL
   have HT := hid hT
   clear hL hT hg hz0
   go_wp2
   go_loopg [7] 16 (fun g kv w1 => ∃ k L1, kv = .int .i64 (k : Nat) ∧ g + k = 16 ∧ MulL n m i k L1 ∧ Four w n m z L1 w1)
   case atStart => exact ⟨0, L, rfl, rfl, HL.out, HT.out⟩
   case round =>
    obtain ⟨k, L1, rfl, hgk, hL1, hT1⟩ := hrel
    clear HL HT
    by_cases hk : k < 16
    ·have ha := hT1.2.u64 (i + k) (by rw [hL1.1]; omega)
     have hx : wr.cell? ⟨w.heap.size, i, none⟩ = some (.int .u64 (((digs B n 16).getD i 0 : Nat) : Int)) := hT1.1.1.u64 i (by rw [digs_length]; exact hlt)
     have hy : wr.cell? ⟨w.heap.size + 1, k, none⟩ = some (.int .u64 (((digs B m 16).getD k 0 : Nat) : Int)) := hT1.1.2.1.u64 k (by rw [digs_length]; exact hk)
     rw [digs_at hlt] at hx
     rw [digs_at hk] at hy
     have hf := hT1.2.frozen (i + k)
     have hal1 := hL1.2.1 (i + k)
     have hxl := lim_lt n i
     have hyl := lim_lt m k
     have hnl := hL1.next hlt hk
     obtain ⟨a, hA⟩ := named (L1.getD (i + k) 0)
     obtain ⟨x, hX⟩ := named (n / B ^ i % B)
     obtain ⟨y, hY⟩ := named (m / B ^ k % B)
     rw [← hA.out, ← hX.out, ← hY.out] at hnl
     rw [← hA.out] at ha hal1
     rw [← hX.out] at hx hxl
     rw [← hY.out] at hy hyl
     have hpl : x * y ≤ 65535 * 65535 := Nat.mul_le_mul (by unfold B at hxl; omega) (by unfold B at hyl; omega)
     obtain ⟨q, hq⟩ := named (x * y)
     rw [← hq.out] at hnl hpl
     have cq := wrap_mul x y q (by rw [hq.out] at hpl ⊢; unfold M; omega)
     obtain ⟨s, hs⟩ := named (a + q)
     have cs := wrap_sum a q s (by rw [hs.out]; unfold M; omega)
     rw [← hs.out] at hnl
     have i1 : IntKind.i64.wrap ((i : Int) + (k : Int)) = (i : Int) + (k : Int) := IntWalk.i64_in _ (by omega)
     have t0 : ((i : Int) + (k : Int)).toNat = i + k := by omega
     have q0 : (0 : Int) ≤ (i : Int) + (k : Int) := by omega
     have q2 : (i : Int) + (k : Int) < 32 := by omega
     have HNL := hid hnl
     have n1 := hid (hT1.set (i + k) s)
     have n2 := hid (hT1.drew.set (i + k) s)
     clear hT1 hL1 hnl hxl hyl hpl hal1
     go_wp2
     go_region
     have hnd := hid n1.out.drew
     clear n1
     go_wp2
     go_roundg (gk - 1)
     case measure => omega
     case rel => exact ⟨k + 1, L1.set (i + k) s, by go_num, by omega, HNL.out, (by first | exact hnd.out | exact n2.out)⟩
    ·obtain rfl : k = 16 := by omega
     have HL1 := hid (hL1.row HM.out)
     have HT1 := hid hT1
     clear hL1 hT1
     go_wp2
     go_roundg G
     case measure => have := hG.out; omega
     case rel => exact ⟨i + 1, L1, by go_num, hG.out.2, HL1.out, HT1.out⟩
  ·obtain rfl : i = 16 := by omega
   obtain ⟨hl, hsm, hv⟩ := hL.done HN.out
   have HT := hid hT
   have HL := hid hl
   have HB := hid hL.2.1
   have HS := hid hsm
   have HV := hid hv
   have hf3 := hT.2.lt
   have hO : OutAt w n m z L wr.heap.size 0 (wr.alloc (.cells z 54)) := by
    refine ⟨hT.next ((Below.refl _ _).alloc (Nat.le_refl _) _), ?_, hf3⟩
    rw [partN_zero, foldL_length hl, zero16, ← hz.out]
    exact Blk.new wr 54 z
   have HO := hid hO
   clear hT hL hl hsm hv hO
   go_wp2_with (first | (refine wpList_store_row rfl 54 (.tmp 8) (.tmp 36) rfl wr.heap.size z rfl rfl 54 z (Blk.new wr 54 z) hzi.out rfl hz1.out ?_; rw [setRow_self (Blk.new wr 54 z)]))
   have hFi := hid (u64s_info (foldL_length HL.out))
   generalize wr.alloc (.cells z 54) = W2 at *
   generalize wr.heap.size = g at *
   clear hf3 hz0
   go_loopg [9] 16 (fun gg iv w2 => ∃ i, iv = .int .i64 (i : Nat) ∧ gg + i = 16 ∧ OutAt w n m z L g i w2)
   case atStart => exact ⟨0, rfl, rfl, HO.out⟩
   case round =>
    obtain ⟨i, rfl, hgi, hO⟩ := hrel
    clear HO
    by_cases hi : i < 16
    ·have hl := HL.out
     have ha := hO.1.2.u64 i (by omega)
     have hb := hO.1.2.u64 (i + 16) (by omega)
     have hx := hO.2.1.u64 i (by rw [partN_length (by rw [foldL_length hl]; omega), foldL_length hl]; exact hi)
     have hf := hO.2.1.frozen i
     have hal := HB.out i
     have hbl := HB.out (i + 16)
     have hfo := foldL_at hl hi
     obtain ⟨a, hA⟩ := named (L.getD i 0)
     obtain ⟨b, hB⟩ := named (L.getD (i + 16) 0)
     rw [← hA.out] at ha hal hfo
     rw [← hB.out] at hb hbl hfo
     obtain ⟨q, hq⟩ := named (38 * b)
     obtain ⟨s, hs⟩ := named (a + q)
     have cq : IntKind.u64.wrap (38 * (b : Int)) = (q : Int) := by rw [IntKind.wrap_u64, hq.out]; omega
     have cs := wrap_sum a q s (by rw [hs.out, hq.out]; unfold M; omega)
     have i1 : IntKind.i64.wrap ((i : Int) + 16) = (i : Int) + 16 := IntWalk.i64_in _ (by omega)
     have t0 : ((i : Int) + 16).toNat = i + 16 := by omega
     have q0 : (0 : Int) ≤ (i : Int) + 16 := by omega
     have q2 : (i : Int) + 16 < 32 := by omega
     have n1 : Hid (OutAt w n m z L g (i + 1) (wr.setCell ⟨g, i, none⟩ (.int .u64 (s : Int)))) := hid (by
      refine ⟨hO.1.far hO.2.2 _ _, ?_, hO.2.2⟩
      have := hO.2.1.u64set i s
      rw [show s = (foldL L).getD i 0 by rw [hfo, hs.out, hq.out], partN_set (by rw [foldL_length hl]; exact hi)] at this
      rw [show s = (foldL L).getD i 0 by rw [hfo, hs.out, hq.out]]
      exact this)
     obtain ⟨u, hu⟩ := named ((partN (foldL L) i).getD i 0)
     rw [← hu.out] at hx
     clear hO hal hbl hfo hl
     go_wp2
     go_region
     have hnd := hid n1.out.drew
     clear n1
     go_wp2
     go_roundg (gk - 1)
     case measure => omega
     case rel => exact ⟨i + 1, by go_num, by omega, hnd.out⟩
    ·obtain rfl : i = 16 := by omega
     have e16 : partN (foldL L) 16 = foldL L := by
      have := partN_all (foldL L)
      rwa [foldL_length HL.out] at this
     have hb := hO.2.1
     rw [e16] at hb
     have HB2 := hid hb
     have HF := hid hO.1
     clear hO hb e16
     go_wp2_with (first | (refine wpList_load_row rfl 54 (.tmp 8) rfl g rfl 54 (u64s (foldL L)) (0, 0) _ HB2.out Tryz.underlying54 rfl hFi.out ?_))
     refine (fit_any (foldL L) (foldL_length HL.out) HS.out _).mono ?_
     rintro e w1 ⟨rfl, hb1⟩
     rw [HV.out, show u64s (digs B (n * m % P) 16) = limF (n * m % P) from rfl]
     have HT1 := hid (HF.out.next hb1)
     clear hb1
     have hRi2 := hid (limF_info (n * m % P))
     have hR12 := hid (limF_one (n * m % P))
     have hzz : Hid (z.size = (limF (n * m % P)).size) := hid (by rw [hz.out, limF_size, limF_size])
     obtain ⟨R, hR⟩ : ∃ R, Hid (R = limF (n * m % P)) := ⟨_, hid rfl⟩
     rw [← hR.out] at hRi2 hR12 hzz ⊢
     go_wp2_with (first | (refine wpList_store_row rfl 54 (.tmp 4) (.tmp 53) rfl (w.heap.size + 2) R rfl rfl 54 z HT1.out.1.2.2.1 hRi2.out hzz.out hR12.out ?_))
     refine bodyPost_ret (v := .agg R) ?_ rfl ⟨by rw [hR.out], below_row HT1.out.1.2.2.2 (by omega) _⟩
     exact results_cell_row Tryz.results53 _ _ (w.heap.size + 2) 54 R (0, 0) _ rfl ((HT1.out.1.2.2.1).row R) Tryz.underlying54 rfl hRi2.out
end Go.Proofs.YtcfogpeinjehbaaGreatDoor
end

section
namespace Go.Proofs.YtcfogpeinjehbaaGreatDoor
open Go Go.Proofs Go.RowKit F5
abbrev Z4 : Array Value := #[.int .u64 0, .int .u64 0, .int .u64 0, .int .u64 0]
theorem Z4_size (n : Nat) : Z4.size = (limA n).size := by rw [limA_size]; rfl
/-- Blocks other than g are as they were. -/
def Far (g : Nat) (w w' : World) : Prop := ∀ g' T c, g' ≠ g → Blk w g' T c → Blk w' g' T c
theorem Far.of {g : Nat} {w w' : World} (h : Below w.heap.size w w') : Far g w w' := fun _ _ _ _ hb => hb.old h
theorem Far.row {g : Nat} {w w' : World} (h : Far g w w') (c : Array Value) : Far g w (w'.setRow g c) := fun g' T c' hne hb => (h g' T c' hne hb).rowFar hne c
/-- Elements that stand in blocks: the first and the second new one. -/
def Two2 (w : World) (a b : Array Value) (wr : World) : Prop := Blk wr w.heap.size 44 a ∧ Blk wr (w.heap.size + 1) 44 b ∧ Below w.heap.size w wr
theorem Two2.new (w : World) (a b : Array Value) : Two2 w a b ((w.alloc (.cells a 44)).alloc (.cells b 44)) := by
 refine ⟨(Blk.new w 44 a).alloc _, ?_, ((Below.refl _ _).alloc (Nat.le_refl _) _).alloc (by simp) _⟩
 have := Blk.new (w.alloc (.cells a 44)) 44 b
 rwa [show (w.alloc (.cells a 44)).heap.size = w.heap.size + 1 by simp] at this
theorem Two2.next {w wr w' : World} {a b : Array Value} (h : Two2 w a b wr) (hb : Below wr.heap.size wr w') : Two2 w a b w' := ⟨h.1.old hb, h.2.1.old hb, h.2.2.trans (hb.mono h.2.2.size)⟩
theorem Two2.drew {w wr : World} {a b : Array Value} (h : Two2 w a b wr) : Two2 w a b wr.drew := ⟨h.1.drew, h.2.1.drew, h.2.2.drew⟩
theorem Two2.fst {w wr : World} {a b : Array Value} (h : Two2 w a b wr) (c : Array Value) : Two2 w c b (wr.setRow w.heap.size c) := ⟨h.1.row c, h.2.1.rowFar (by omega) c, below_row h.2.2 (Nat.le_refl _) c⟩
theorem Two2.snd {w wr : World} {a b : Array Value} (h : Two2 w a b wr) (c : Array Value) : Two2 w a c (wr.setRow (w.heap.size + 1) c) := ⟨h.1.rowFar (by omega) c, h.2.1.row c, below_row h.2.2 (by omega) c⟩
theorem Two2.far {w wr : World} {a b : Array Value} (h : Two2 w a b wr) {g : Nat} (hg : w.heap.size + 1 < g) (c : Array Value) : Two2 w a b (wr.setRow g c) := ⟨h.1.rowFar (by omega) c, h.2.1.rowFar (by omega) c, below_row h.2.2 (by omega) c⟩
theorem Two2.lt {w wr : World} {a b : Array Value} (h : Two2 w a b wr) : w.heap.size + 1 < wr.heap.size := h.2.1.lt
set_option maxHeartbeats 4000000 in
set_option maxRecDepth 100000 in
theorem squared_any (n c : Nat) (hn : n < P) (hc : c ≤ 1000) (w : World) (hP : PrimeAt w) :
  Calls Tryz.prog 74 #[elemV n, .int .i64 (c : Int)] w fun e w' => e = .returned (elemV (pw n (2 ^ c))) ∧ Below w.heap.size w w' := by
 unfold elemV
 obtain ⟨cn, hcn⟩ : ∃ c, Hid (c = limA n) := ⟨_, hid rfl⟩
 rw [← hcn.out]
 have HP := hid hP
 have HN := hid hn
 clear hP hn
 go_enter Tryz.func74, Tryz.ntmps74
 go_wp2_with fail
 have h2 := Two2.new w cn Z4
 unfold Z4 at h2
 generalize (w.alloc (.cells cn 44)).alloc (.cells #[.int .u64 0, .int .u64 0, .int .u64 0, .int .u64 0] 44) = W at *
 rw [hcn.out] at h2
 go_loopg [6] c (fun g iv wr => ∃ i : Nat, iv = .int .i64 (i : Nat) ∧ g + i = c ∧ Two2 w (limA (pw n (2 ^ i))) #[.int .u64 0, .int .u64 0, .int .u64 0, .int .u64 0] wr)
 case atStart => exact ⟨0, rfl, rfl, by rw [show 2 ^ 0 = 1 from rfl, pw_one HN.out]; exact h2⟩
 case round =>
  obtain ⟨i, rfl, hg, hT⟩ := hrel
  clear h2
  have HT := hid hT
  clear hT
  by_cases hlt : i < c
  ·obtain ⟨x, hx⟩ : ∃ x, Hid (x = limA (pw n (2 ^ i))) := ⟨_, hid rfl⟩
   have hRi := hid (limA_infoE (pw n (2 ^ i)))
   have hRi2 := hid (limA_infoE (pw n (2 ^ (i + 1))))
   have hR12 := hid (limA_one (pw n (2 ^ (i + 1))))
   have hzz : Hid ((limA (pw n (2 ^ i))).size = (limA (pw n (2 ^ (i + 1)))).size) := hid (by rw [limA_size, limA_size])
   rw [← hx.out] at HT hRi hzz
   have hmul := mul_e (pw n (2 ^ i)) (pw n (2 ^ i)) (pw_lt _ _) (pw_lt _ _) wr (HP.out.old HT.out.2.2)
   rw [pw_add, show 2 ^ i + 2 ^ i = 2 ^ (i + 1) by rw [Nat.pow_succ]; omega] at hmul
   unfold elemV at hmul
   rw [← hx.out] at hmul
   obtain ⟨y, hy⟩ : ∃ y, Hid (y = limA (pw n (2 ^ (i + 1)))) := ⟨_, hid rfl⟩
   rw [← hy.out] at hmul hRi2 hR12 hzz
   have HMUL := hid hmul
   clear hmul
   go_wp2_with (first | (refine wpList_load_row rfl 44 (.tmp 2) rfl w.heap.size rfl 44 x (0, 0) _ HT.out.1 Tryz.underlying44 rfl hRi.out ?_))
   refine HMUL.out.mono ?_
   rintro e w1 ⟨rfl, hb1⟩
   have HT1 := hid (HT.out.next hb1)
   clear hb1
   have HT2 := hid (HT1.out.fst y)
   go_wp2_with (first | (refine wpList_store_row rfl 44 (.tmp 2) (.tmp 10) rfl w.heap.size y rfl rfl 44 x HT1.out.1 hRi2.out hzz.out hR12.out ?_))
   go_roundg (gk - 1)
   case measure => omega
   case rel => exact ⟨i + 1, by go_num, by omega, by rw [← hy.out]; exact HT2.out⟩
  ·obtain rfl : i = c := by omega
   obtain ⟨R, hR⟩ : ∃ R, Hid (R = limA (pw n (2 ^ i))) := ⟨_, hid rfl⟩
   have hRi := hid (limA_infoE (pw n (2 ^ i)))
   have hR1 := hid (limA_one (pw n (2 ^ i)))
   have hzz := hid (Z4_size (pw n (2 ^ i)))
   rw [← hR.out] at hRi hR1 hzz HT
   go_wp2_with (first | (refine wpList_load_row rfl 44 (.tmp 2) rfl w.heap.size rfl 44 R (0, 0) _ HT.out.1 Tryz.underlying44 rfl hRi.out ?_) |
    (refine wpList_store_row rfl 44 (.tmp 4) (.tmp 12) rfl (w.heap.size + 1) R rfl rfl 44 _ HT.out.2.1 hRi.out hzz.out hR1.out ?_))
   refine bodyPost_ret (v := .agg R) ?_ rfl ⟨by rw [hR.out], (HT.out.snd R).2.2⟩
   exact results_cell_row Tryz.results74 _ _ (w.heap.size + 1) 44 R (0, 0) _ rfl (HT.out.snd R).2.1 Tryz.underlying44 rfl hRi.out
theorem alloc_new {B : Nat} {w w' : World} (h : Below B w w') (T : TypeId) (z : Array Value) : Blk (w'.alloc (.cells z T)) w'.heap.size T z := Blk.new _ _ _
/-- A third element, in a block behind the two. -/
def Three2 (w : World) (a b c : Array Value) (g : Nat) (wr : World) : Prop := Two2 w a b wr ∧ Blk wr g 44 c ∧ w.heap.size + 1 < g
theorem Three2.next {w wr w' : World} {a b c : Array Value} {g : Nat} (h : Three2 w a b c g wr) (hb : Below wr.heap.size wr w') : Three2 w a b c g w' := ⟨h.1.next hb, h.2.1.old hb, h.2.2⟩
theorem Three2.third {w wr : World} {a b c : Array Value} {g : Nat} (h : Three2 w a b c g wr) (d : Array Value) : Three2 w a b d g (wr.setRow g d) := ⟨h.1.far h.2.2 d, h.2.1.row d, h.2.2⟩
set_option maxHeartbeats 8000000 in
set_option maxRecDepth 100000 in
theorem ones_any (c : Nat) : 1 ≤ c → c ≤ 1000 → ∀ (n : Nat) (w : World), n < P → PrimeAt w →
  Calls Tryz.prog 75 #[elemV n, .int .i64 (c : Int)] w fun e w' => e = .returned (elemV (pw n (2 ^ c - 1))) ∧ Below w.heap.size w w' := by
 induction c using Nat.strongRecOn with
 | _ c ih =>
 intro hc1 hc n w hn hP
 unfold elemV
 obtain ⟨cn, hcn⟩ : ∃ c, Hid (c = limA n) := ⟨_, hid rfl⟩
 rw [← hcn.out]
 have HP := hid hP
 have HN := hid hn
 have IH := hid ih
 have hni : Hid ((Tryz.prog.info? 44).map (·.size) = some cn.size) := by rw [hcn.out]; exact hid (limA_infoE n)
 clear hP hn ih
 by_cases h1 : c = 1
 ·subst h1
  have hz : Hid (Array.size (#[.int .u64 0, .int .u64 0, .int .u64 0, .int .u64 0] : Array Value) = cn.size) := by rw [hcn.out]; exact hid (Z4_size n)
  have ho : Hid (cn.all (·.oneCell') = true) := by rw [hcn.out]; exact hid (limA_one n)
  have hR : Hid (cn = limA (pw n (2 ^ 1 - 1))) := by rw [show 2 ^ 1 - 1 = 1 from rfl, pw_one HN.out]; exact hcn
  have H2 := hid (Two2.new w cn #[.int .u64 0, .int .u64 0, .int .u64 0, .int .u64 0])
  go_enter Tryz.func75, Tryz.ntmps75
  go_wp2_with (first | (refine wpList_load_row rfl 44 (.tmp 2) rfl w.heap.size rfl 44 cn (0, 0) _ H2.out.1 Tryz.underlying44 rfl hni.out ?_) |
    (refine wpList_store_row rfl 44 (.tmp 4) (.tmp 9) rfl (w.heap.size + 1) cn rfl rfl 44 _ H2.out.2.1 hni.out hz.out ho.out ?_))
  refine bodyPost_ret (v := .agg cn) ?_ rfl ⟨by rw [hR.out], (H2.out.snd cn).2.2⟩
  exact results_cell_row Tryz.results75 _ _ (w.heap.size + 1) 44 cn (0, 0) _ rfl (H2.out.snd cn).2.1 Tryz.underlying44 rfl hni.out
 obtain ⟨h, hh⟩ := named (c / 2)
 have hcc : ((c : Int) == 1) = false := by simp; omega
 have d2 : (c : Int).tdiv 2 = (h : Int) := by rw [Int.tdiv_eq_ediv_of_nonneg (by omega), hh.out]; omega
 have d1 : (c : Int) / 2 = (h : Int) := by rw [hh.out]; omega
 have wh : IntKind.i64.wrap (h : Int) = (h : Int) := IntWalk.i64_in _ (by rw [hh.out]; omega)
 have hsml : h < c ∧ 1 ≤ h ∧ h ≤ 1000 := by rw [hh.out]; omega
 have hih := IH.out h hsml.1 hsml.2.1 hsml.2.2 n
 have HIH : Hid (∀ V, PrimeAt V → Calls Tryz.prog 75 #[.agg cn, .int .i64 (h : Int)] V fun e w' => e = .returned (.agg (limA (pw n (2 ^ h - 1)))) ∧ Below V.heap.size V w') := hid fun V hV => by rw [hcn.out]; exact hih V HN.out hV
 have HSQ : Hid (∀ V, PrimeAt V → Calls Tryz.prog 74 #[.agg (limA (pw n (2 ^ h - 1))), .int .i64 (h : Int)] V fun e w' => e = .returned (.agg (limA (pw n ((2 ^ h - 1) * 2 ^ h)))) ∧ Below V.heap.size V w') := hid fun V hV => by
  have := squared_any (pw n (2 ^ h - 1)) h (pw_lt _ _) hsml.2.2 V hV
  rwa [pw_pw] at this
 have hml1 : (2 ^ h - 1) * 2 ^ h + (2 ^ h - 1) = 2 ^ (2 * h) - 1 := by
  have hp : 1 ≤ 2 ^ h := Nat.one_le_two_pow
  rw [Nat.two_mul, Nat.pow_add]
  generalize 2 ^ h = z at *
  obtain ⟨y, rfl⟩ : ∃ y, z = y + 1 := ⟨z - 1, by omega⟩
  simp only [Nat.add_sub_cancel, Nat.mul_add, Nat.add_mul, Nat.mul_one, Nat.one_mul]
  omega
 have HML : Hid (∀ V, PrimeAt V → Calls Tryz.prog 37 #[.agg (limA (pw n ((2 ^ h - 1) * 2 ^ h))), .agg (limA (pw n (2 ^ h - 1)))] V fun e w' => e = .returned (.agg (limA (pw n (2 ^ (2 * h) - 1)))) ∧ Below V.heap.size V w') := hid fun V hV => by
  have := mul_e (pw n ((2 ^ h - 1) * 2 ^ h)) (pw n (2 ^ h - 1)) (pw_lt _ _) (pw_lt _ _) V hV
  rwa [pw_add, hml1] at this
 have HSQ1 : Hid (∀ V, PrimeAt V → Calls Tryz.prog 74 #[.agg (limA (pw n (2 ^ (2 * h) - 1))), .int .i64 1] V fun e w' => e = .returned (.agg (limA (pw n ((2 ^ (2 * h) - 1) * 2)))) ∧ Below V.heap.size V w') := hid fun V hV => by
  have := squared_any (pw n (2 ^ (2 * h) - 1)) 1 (pw_lt _ _) (by omega) V hV
  rwa [pw_pw] at this
 have hml2 : (2 ^ (2 * h) - 1) * 2 + 1 = 2 ^ (2 * h + 1) - 1 := by
  have hp : 1 ≤ 2 ^ (2 * h) := Nat.one_le_two_pow
  rw [Nat.pow_succ]
  omega
 have HML1 : Hid (∀ V, PrimeAt V → Calls Tryz.prog 37 #[.agg (limA (pw n ((2 ^ (2 * h) - 1) * 2))), .agg cn] V fun e w' => e = .returned (.agg (limA (pw n (2 ^ (2 * h + 1) - 1)))) ∧ Below V.heap.size V w') := hid fun V hV => by
  have := mul_e (pw n ((2 ^ (2 * h) - 1) * 2)) n (pw_lt _ _) HN.out V hV
  rw [pw_next HN.out, hml2] at this
  rw [hcn.out]; exact this
 obtain ⟨ch, hch⟩ : ∃ x, Hid (x = limA (pw n (2 ^ h - 1))) := ⟨_, hid rfl⟩
 obtain ⟨cq, hcq⟩ : ∃ x, Hid (x = limA (pw n ((2 ^ h - 1) * 2 ^ h))) := ⟨_, hid rfl⟩
 obtain ⟨cb, hcb⟩ : ∃ x, Hid (x = limA (pw n (2 ^ (2 * h) - 1))) := ⟨_, hid rfl⟩
 obtain ⟨cs, hcs⟩ : ∃ x, Hid (x = limA (pw n ((2 ^ (2 * h) - 1) * 2))) := ⟨_, hid rfl⟩
 obtain ⟨cd, hcd⟩ : ∃ x, Hid (x = limA (pw n (2 ^ (2 * h + 1) - 1))) := ⟨_, hid rfl⟩
 rw [← hch.out] at HIH HSQ HML
 rw [← hcq.out] at HSQ HML
 rw [← hcb.out] at HML HSQ1
 rw [← hcs.out] at HSQ1 HML1
 rw [← hcd.out] at HML1
 have okh : Hid ((Tryz.prog.info? 44).map (·.size) = some ch.size ∧ ch.all (·.oneCell') = true ∧ Array.size (#[.int .u64 0, .int .u64 0, .int .u64 0, .int .u64 0] : Array Value) = ch.size) := by rw [hch.out]; exact hid ⟨limA_infoE _, limA_one _, Z4_size _⟩
 have okb : Hid ((Tryz.prog.info? 44).map (·.size) = some cb.size ∧ cb.all (·.oneCell') = true ∧ Array.size (#[.int .u64 0, .int .u64 0, .int .u64 0, .int .u64 0] : Array Value) = cb.size ∧ cb.size = cd.size) := by rw [hcb.out, hcd.out]; exact hid ⟨limA_infoE _, limA_one _, Z4_size _, by rw [limA_size, limA_size]⟩
 have okd : Hid ((Tryz.prog.info? 44).map (·.size) = some cd.size ∧ cd.all (·.oneCell') = true ∧ Array.size (#[.int .u64 0, .int .u64 0, .int .u64 0, .int .u64 0] : Array Value) = cd.size) := by rw [hcd.out]; exact hid ⟨limA_infoE _, limA_one _, Z4_size _⟩
 have h2 := Two2.new w cn #[.int .u64 0, .int .u64 0, .int .u64 0, .int .u64 0]
 clear hih hml1 hml2
 go_enter Tryz.func75, Tryz.ntmps75
 go_upto_region 3 with fail
 generalize (w.alloc (.cells cn 44)).alloc (.cells #[.int .u64 0, .int .u64 0, .int .u64 0, .int .u64 0] 44) = W at *
 have H2 := hid h2
 clear h2
 go_upto_region 4 with (first | (refine wpList_load_row rfl 44 (.tmp 2) rfl w.heap.size rfl 44 cn (0, 0) _ H2.out.1 Tryz.underlying44 rfl hni.out ?_))
 refine (HIH.out _ (HP.out.old H2.out.2.2)).mono ?_
 rintro e w1 ⟨rfl, hb1⟩
 have H21 := hid (H2.out.next hb1)
 clear hb1
 go_upto_region 4 with (first | (refine wpList_store_row rfl 44 (.tmp 5) (.tmp 13) rfl w1.heap.size ch rfl rfl 44 _ (heap_alloc_new w1 _) okh.out.1 okh.out.2.2 okh.out.2.1 ?_; rw [setRow_alloc1]))
 have h3 : Three2 w cn #[.int .u64 0, .int .u64 0, .int .u64 0, .int .u64 0] ch w1.heap.size (w1.alloc (.cells ch 44)) := ⟨H21.out.next ((Below.refl _ _).alloc (Nat.le_refl _) _), Blk.new _ _ _, H21.out.lt⟩
 generalize w1.alloc (.cells ch 44) = W1 at *
 generalize w1.heap.size = g5 at *
 have H3 := hid h3
 clear h3
 (try simp only [Act.put, zA, zB, zC])
 go_cut [6] (fun p6 wx => ∃ g6, p6 = .pointer (some ⟨g6, 0, none⟩) ∧ Three2 w cn #[.int .u64 0, .int .u64 0, .int .u64 0, .int .u64 0] cb g6 wx)
 case first =>
  refine wp_region_held_drew (S := fun V => Below W1.heap.size W1 V) (by kernel_rfl) (Below.refl _ _).drew (fun hHeld => ?_)
  have HB0 := hid ((Below.refl W1.heap.size W1).drew)
  generalize W1.drew = V0 at *
  refine' wpAnyH_take (i := 0) (oi := _) (v := .agg ch) ?hit1 ?hst1 ?hft1 ?hrt1 ?hQt1 ?hyt1 ?hSt1 ?_
  case hit1 => (simp only [zD, zE, zF]; rfl)
  case hst1 | hft1 | hrt1 => kernel_rfl
  case hQt1 => exact fun _ _ _ h => h
  case hSt1 => assumption
  case hyt1 =>
   refine Or.inl ⟨by rfl, ?_⟩
   intro W hS
   exact quiet_load_row 44 (.tmp 5) _ rfl 44 ch _ (H3.out.2.1.old hS) Tryz.underlying44 rfl okh.out.1 rfl
  (try simp only [Act.put, zA, zB, zC])
  refine' wpAnyH_take (i := 1) (oi := _) (v := _) ?hit2 ?hst2 ?hft2 ?hrt2 ?hQt2 ?hyt2 ?hSt2 ?_
  case hit2 => (simp only [zD, zE, zF]; rfl)
  case hst2 | hft2 | hrt2 => kernel_rfl
  case hQt2 => exact fun _ _ _ h => h
  case hSt2 => assumption
  case hyt2 =>
   refine Or.inl ⟨by rfl, ?_⟩
   intro w hSw
   (try dsimp only at hSw)
   go_simp
   all_goals (with_reducible rfl)
  (try simp only [Act.put, zA, zB, zC])
  refine' wpAnyH_take (i := 2) (oi := _) (v := _) ?hit3 ?hst3 ?hft3 ?hrt3 ?hQt3 ?hyt3 ?hSt3 ?_
  case hit3 => (simp only [zD, zE, zF]; rfl)
  case hst3 | hft3 | hrt3 => kernel_rfl
  case hQt3 => exact fun _ _ _ h => h
  case hSt3 => assumption
  case hyt3 =>
   refine Or.inl ⟨by rfl, ?_⟩
   intro w hSw
   (try dsimp only at hSw)
   go_simp
   all_goals (with_reducible rfl)
  (try simp only [Act.put, zA, zB, zC])
  refine' wpAnyH_take (i := 4) (oi := _) (v := .agg ch) ?hit4 ?hst4 ?hft4 ?hrt4 ?hQt4 ?hyt4 ?hSt4 ?_
  case hit4 => (simp only [zD, zE, zF]; rfl)
  case hst4 | hft4 | hrt4 => kernel_rfl
  case hQt4 => exact fun _ _ _ h => h
  case hSt4 => assumption
  case hyt4 =>
   refine Or.inl ⟨by rfl, ?_⟩
   intro W hS
   exact quiet_load_row 44 (.tmp 5) _ rfl 44 ch _ (H3.out.2.1.old hS) Tryz.underlying44 rfl okh.out.1 rfl
  (try simp only [Act.put, zA, zB, zC])
  refine wpAnyH_ready (rs := [3, 6]) (by kernel_rfl) (by simp) ?_
  refine' (AllReadyH.cons (o := _) ?hir5_3 (fun K hK => ?br5_3) (AllReadyH.cons (o := _) ?hir5_6 (fun K hK => ?br5_6) AllReadyH.nil))
  case hir5_3 => (simp only [zD, zE, zF]; rfl)
  case hir5_6 => (simp only [zD, zE, zF]; rfl)
  case br5_3 =>
   go_simp
   refine (HSQ.out _ (HP.out.old (H3.out.1.2.2.trans (HB0.out.mono H3.out.1.2.2.size)))).mono ?_
   rintro e w6 ⟨rfl, hb6⟩
   have H6 := hid (HB0.out.trans (hb6.mono HB0.out.size))
   clear hb6
   go_wp2_with fail
   refine hK.out _ _ ?_ (fun hHeld => ?_)
   exact H6.out
   clear hK K
   (try simp only [Act.put, zA, zB, zC])
   refine wpAnyH_ready (rs := [5, 6]) (by kernel_rfl) (by simp) ?_
   refine' (AllReadyH.cons (o := _) ?hir7_5 (fun K hK => ?br7_5) (AllReadyH.cons (o := _) ?hir7_6 (fun K hK => ?br7_6) AllReadyH.nil))
   case hir7_5 => (simp only [zD, zE, zF]; rfl)
   case hir7_6 => (simp only [zD, zE, zF]; rfl)
   case br7_5 =>
    go_simp
    refine (HML.out _ (HP.out.old (H3.out.1.2.2.trans (H6.out.mono H3.out.1.2.2.size)))).mono ?_
    rintro e w8 ⟨rfl, hb8⟩
    have H8 := hid (H6.out.trans (hb8.mono H6.out.size))
    clear hb8
    go_wp2_with fail
    refine hK.out _ _ ?_ (fun hHeld => ?_)
    exact H8.out
    clear hK K
    (try simp only [Act.put, zA, zB, zC])
    refine wpAnyH_ready (rs := [6]) (by kernel_rfl) (by simp) ?_
    refine' (AllReadyH.cons (o := _) ?hir9_6 (fun K hK => ?br9_6) AllReadyH.nil)
    case hir9_6 => (simp only [zD, zE, zF]; rfl)
    case br9_6 =>
     go_simp
     refine hK.out _ _ ?_ (fun hHeld => ?_)
     ·exact H8.out.alloc H8.out.size _
     have H10 := hid (H8.out.alloc H8.out.size (.cells #[.int .u64 0, .int .u64 0, .int .u64 0, .int .u64 0] 44))
     have N6_10 := hid (alloc_new H8.out 44 #[.int .u64 0, .int .u64 0, .int .u64 0, .int .u64 0])
     have G6_10 := hid H8.out.size
     clear hK K
     (try simp only [Act.put, zA, zB, zC])
     refine wpAnyH_ready (rs := [7]) (by kernel_rfl) (by simp) ?_
     refine' (AllReadyH.cons (o := _) ?hir11_7 (fun K hK => ?br11_7) AllReadyH.nil)
     case hir11_7 => (simp only [zD, zE, zF]; rfl)
     case br11_7 =>
      refine step_of_wp rfl ?_
      refine wp_store_row 44 (.tmp 6) (.tmp 19) rfl _ cb rfl rfl 44 _ N6_10.out okb.out.1 okb.out.2.2.1 okb.out.2.1 ?_
      refine hK.out _ _ ?_ (fun hHeld => ?_)
      exact below_row H10.out G6_10.out _
      clear hK K
      (try simp only [Act.put, zA, zB, zC])
      refine wpAnyH_done (by kernel_rfl) ?_ _
      go_wp2_with fail
      go_meet
      exact ⟨_, rfl, (H3.out.1.next H10.out).far (by have := H3.out.1.lt; have := G6_10.out; omega) _, N6_10.out.row _, by have := H3.out.1.lt; have := G6_10.out; omega⟩
   case br7_6 =>
    go_simp
    refine hK.out _ _ ?_ (fun hHeld => ?_)
    ·exact H6.out.alloc H6.out.size _
    have H13 := hid (H6.out.alloc H6.out.size (.cells #[.int .u64 0, .int .u64 0, .int .u64 0, .int .u64 0] 44))
    have N6_13 := hid (alloc_new H6.out 44 #[.int .u64 0, .int .u64 0, .int .u64 0, .int .u64 0])
    have G6_13 := hid H6.out.size
    clear hK K
    (try simp only [Act.put, zA, zB, zC])
    refine wpAnyH_ready (rs := [5]) (by kernel_rfl) (by simp) ?_
    refine' (AllReadyH.cons (o := _) ?hir14_5 (fun K hK => ?br14_5) AllReadyH.nil)
    case hir14_5 => (simp only [zD, zE, zF]; rfl)
    case br14_5 =>
     go_simp
     refine (HML.out _ (HP.out.old (H3.out.1.2.2.trans (H13.out.mono H3.out.1.2.2.size)))).mono ?_
     rintro e w15 ⟨rfl, hb15⟩
     have H15 := hid (H13.out.trans (hb15.mono H13.out.size))
     have N6_15 := hid (N6_13.out.old hb15)
     clear hb15
     go_wp2_with fail
     refine hK.out _ _ ?_ (fun hHeld => ?_)
     exact H15.out
     clear hK K
     (try simp only [Act.put, zA, zB, zC])
     refine wpAnyH_ready (rs := [7]) (by kernel_rfl) (by simp) ?_
     refine' (AllReadyH.cons (o := _) ?hir16_7 (fun K hK => ?br16_7) AllReadyH.nil)
     case hir16_7 => (simp only [zD, zE, zF]; rfl)
     case br16_7 =>
      refine step_of_wp rfl ?_
      refine wp_store_row 44 (.tmp 6) (.tmp 19) rfl _ cb rfl rfl 44 _ N6_15.out okb.out.1 okb.out.2.2.1 okb.out.2.1 ?_
      refine hK.out _ _ ?_ (fun hHeld => ?_)
      exact below_row H15.out G6_13.out _
      clear hK K
      (try simp only [Act.put, zA, zB, zC])
      refine wpAnyH_done (by kernel_rfl) ?_ _
      go_wp2_with fail
      go_meet
      exact ⟨_, rfl, (H3.out.1.next H15.out).far (by have := H3.out.1.lt; have := G6_13.out; omega) _, N6_15.out.row _, by have := H3.out.1.lt; have := G6_13.out; omega⟩
  case br5_6 =>
   go_simp
   refine hK.out _ _ ?_ (fun hHeld => ?_)
   ·exact HB0.out.alloc HB0.out.size _
   have H18 := hid (HB0.out.alloc HB0.out.size (.cells #[.int .u64 0, .int .u64 0, .int .u64 0, .int .u64 0] 44))
   have N6_18 := hid (alloc_new HB0.out 44 #[.int .u64 0, .int .u64 0, .int .u64 0, .int .u64 0])
   have G6_18 := hid HB0.out.size
   clear hK K
   (try simp only [Act.put, zA, zB, zC])
   refine wpAnyH_ready (rs := [3]) (by kernel_rfl) (by simp) ?_
   refine' (AllReadyH.cons (o := _) ?hir19_3 (fun K hK => ?br19_3) AllReadyH.nil)
   case hir19_3 => (simp only [zD, zE, zF]; rfl)
   case br19_3 =>
    go_simp
    refine (HSQ.out _ (HP.out.old (H3.out.1.2.2.trans (H18.out.mono H3.out.1.2.2.size)))).mono ?_
    rintro e w20 ⟨rfl, hb20⟩
    have H20 := hid (H18.out.trans (hb20.mono H18.out.size))
    have N6_20 := hid (N6_18.out.old hb20)
    clear hb20
    go_wp2_with fail
    refine hK.out _ _ ?_ (fun hHeld => ?_)
    exact H20.out
    clear hK K
    (try simp only [Act.put, zA, zB, zC])
    refine wpAnyH_ready (rs := [5]) (by kernel_rfl) (by simp) ?_
    refine' (AllReadyH.cons (o := _) ?hir21_5 (fun K hK => ?br21_5) AllReadyH.nil)
    case hir21_5 => (simp only [zD, zE, zF]; rfl)
    case br21_5 =>
     go_simp
     refine (HML.out _ (HP.out.old (H3.out.1.2.2.trans (H20.out.mono H3.out.1.2.2.size)))).mono ?_
     rintro e w22 ⟨rfl, hb22⟩
     have H22 := hid (H20.out.trans (hb22.mono H20.out.size))
     have N6_22 := hid (N6_20.out.old hb22)
     clear hb22
     go_wp2_with fail
     refine hK.out _ _ ?_ (fun hHeld => ?_)
     exact H22.out
     clear hK K
     (try simp only [Act.put, zA, zB, zC])
     refine wpAnyH_ready (rs := [7]) (by kernel_rfl) (by simp) ?_
     refine' (AllReadyH.cons (o := _) ?hir23_7 (fun K hK => ?br23_7) AllReadyH.nil)
     case hir23_7 => (simp only [zD, zE, zF]; rfl)
     case br23_7 =>
      refine step_of_wp rfl ?_
      refine wp_store_row 44 (.tmp 6) (.tmp 19) rfl _ cb rfl rfl 44 _ N6_22.out okb.out.1 okb.out.2.2.1 okb.out.2.1 ?_
      refine hK.out _ _ ?_ (fun hHeld => ?_)
      exact below_row H22.out G6_18.out _
      clear hK K
      (try simp only [Act.put, zA, zB, zC])
      refine wpAnyH_done (by kernel_rfl) ?_ _
      go_wp2_with fail
      go_meet
      exact ⟨_, rfl, (H3.out.1.next H22.out).far (by have := H3.out.1.lt; have := G6_18.out; omega) _, N6_22.out.row _, by have := H3.out.1.lt; have := G6_18.out; omega⟩
 case rest =>
  obtain ⟨g6, rfl, h6⟩ := hcut
  have H6 := hid h6
  clear h6
  have hcase : c = 2 * h ∨ c = 2 * h + 1 := by rw [hh.out]; omega
  rcases hcase with hce | hce
  ·have m1 : (c : Int).tmod 2 = 0 := by rw [Int.tmod_eq_emod_of_nonneg (by omega)]; omega
   have m2 : (c : Int) % 2 = 0 := by omega
   have hres : Hid (cb = limA (pw n (2 ^ c - 1))) := by rw [hce]; exact hcb
   clear hce
   go_wp2_with (first | (refine wpList_load_row rfl 44 (.tmp 6) rfl g6 rfl 44 cb (0, 0) _ H6.out.2.1 Tryz.underlying44 rfl okb.out.1 ?_) |
    (refine wpList_store_row rfl 44 (.tmp 4) (.tmp 27) rfl (w.heap.size + 1) cb rfl rfl 44 _ H6.out.1.2.1 okb.out.1 okb.out.2.2.1 okb.out.2.1 ?_))
   refine bodyPost_ret (v := .agg cb) ?_ rfl ⟨by rw [hres.out], (H6.out.1.snd cb).2.2⟩
   exact results_cell_row Tryz.results75 _ _ (w.heap.size + 1) 44 cb (0, 0) _ rfl (H6.out.1.snd cb).2.1 Tryz.underlying44 rfl okb.out.1
  ·have m1 : (c : Int).tmod 2 = 1 := by rw [Int.tmod_eq_emod_of_nonneg (by omega)]; omega
   have m2 : (c : Int) % 2 = 1 := by omega
   have hres : Hid (cd = limA (pw n (2 ^ c - 1))) := by rw [hce]; exact hcd
   clear hce
   go_upto_region 6 with fail
   generalize wc = W2 at *
   refine wp_region_held_drew (S := fun V => Far g6 W2 V) (by kernel_rfl) (Far.of (Below.refl _ _).drew) (fun hHeld => ?_)
   have HB1 := hid ((Below.refl W2.heap.size W2).drew)
   generalize W2.drew = V1 at *
   refine' wpAnyH_take (i := 2) (oi := _) (v := .agg cn) ?hit25 ?hst25 ?hft25 ?hrt25 ?hQt25 ?hyt25 ?hSt25 ?_
   case hit25 => (simp only [zD, zE, zF]; rfl)
   case hst25 | hft25 | hrt25 => kernel_rfl
   case hQt25 => exact fun _ _ _ h => h
   case hSt25 => assumption
   case hyt25 =>
    refine Or.inl ⟨by rfl, ?_⟩
    intro W hS
    exact quiet_load_row 44 (.tmp 2) _ rfl 44 cn _ (hS _ _ _ (by have := H6.out.2.2; omega) H6.out.1.1) Tryz.underlying44 rfl hni.out rfl
   (try simp only [Act.put, zA, zB, zC])
   refine wpAnyH_ready (rs := [0]) (by kernel_rfl) (by simp) ?_
   refine' (AllReadyH.cons (o := _) ?hir26_0 (fun K hK => ?br26_0) AllReadyH.nil)
   case hir26_0 => (simp only [zD, zE, zF]; rfl)
   case br26_0 =>
    refine step_of_wp rfl ?_
    refine wp_load_row 44 (.tmp 6) rfl g6 rfl 44 cb (0, 0) _ (H6.out.2.1.old HB1.out) Tryz.underlying44 rfl okb.out.1 ?_
    refine hK.out _ _ ?_ (fun hHeld => ?_)
    exact Far.of HB1.out
    clear hK K
    (try simp only [Act.put, zA, zB, zC])
    refine wpAnyH_ready (rs := [1]) (by kernel_rfl) (by simp) ?_
    refine' (AllReadyH.cons (o := _) ?hir28_1 (fun K hK => ?br28_1) AllReadyH.nil)
    case hir28_1 => (simp only [zD, zE, zF]; rfl)
    case br28_1 =>
     go_simp
     refine (HSQ1.out _ (HP.out.old (H6.out.1.2.2.trans (HB1.out.mono H6.out.1.2.2.size)))).mono ?_
     rintro e w29 ⟨rfl, hb29⟩
     have H29 := hid (HB1.out.trans (hb29.mono HB1.out.size))
     clear hb29
     go_wp2_with fail
     refine hK.out _ _ ?_ (fun hHeld => ?_)
     exact Far.of H29.out
     clear hK K
     (try simp only [Act.put, zA, zB, zC])
     refine wpAnyH_ready (rs := [3]) (by kernel_rfl) (by simp) ?_
     refine' (AllReadyH.cons (o := _) ?hir30_3 (fun K hK => ?br30_3) AllReadyH.nil)
     case hir30_3 => (simp only [zD, zE, zF]; rfl)
     case br30_3 =>
      go_simp
      refine (HML1.out _ (HP.out.old (H6.out.1.2.2.trans (H29.out.mono H6.out.1.2.2.size)))).mono ?_
      rintro e w31 ⟨rfl, hb31⟩
      have H31 := hid (H29.out.trans (hb31.mono H29.out.size))
      clear hb31
      go_wp2_with fail
      refine hK.out _ _ ?_ (fun hHeld => ?_)
      exact Far.of H31.out
      clear hK K
      (try simp only [Act.put, zA, zB, zC])
      refine wpAnyH_ready (rs := [4]) (by kernel_rfl) (by simp) ?_
      refine' (AllReadyH.cons (o := _) ?hir32_4 (fun K hK => ?br32_4) AllReadyH.nil)
      case hir32_4 => (simp only [zD, zE, zF]; rfl)
      case br32_4 =>
       refine step_of_wp rfl ?_
       refine wp_store_row 44 (.tmp 6) (.tmp 26) rfl g6 cd rfl rfl 44 cb (H6.out.2.1.old H31.out) okd.out.1 okb.out.2.2.2 okd.out.2.1 ?_
       refine hK.out _ _ ?_ (fun hHeld => ?_)
       exact (Far.of H31.out).row _
       clear hK K
       (try simp only [Act.put, zA, zB, zC])
       refine wpAnyH_done (by kernel_rfl) ?_ _
       have H7 := hid ((H6.out.next H31.out).third cd)
       generalize World.setRow _ g6 cd = V2 at *
       go_wp2_with (first | (refine wpList_load_row rfl 44 (.tmp 6) rfl g6 rfl 44 cd (0, 0) _ H7.out.2.1 Tryz.underlying44 rfl okd.out.1 ?_) |
        (refine wpList_store_row rfl 44 (.tmp 4) (.tmp 27) rfl (w.heap.size + 1) cd rfl rfl 44 _ H7.out.1.2.1 okd.out.1 okd.out.2.2 okd.out.2.1 ?_))
       refine bodyPost_ret (v := .agg cd) ?_ rfl ⟨by rw [hres.out], (H7.out.1.snd cd).2.2⟩
       exact results_cell_row Tryz.results75 _ _ (w.heap.size + 1) 44 cd (0, 0) _ rfl (H7.out.1.snd cd).2.1 Tryz.underlying44 rfl okd.out.1
end Go.Proofs.YtcfogpeinjehbaaGreatDoor
end

section
namespace Go.Proofs.YtcfogpeinjehbaaGreatDoor
open Go Go.Proofs Go.RowKit F5
/-- The limbs of turn stand in their variable. -/
def TurnAt (w : World) : Prop := 1 < w.heap.size ∧ ∀ j v, (limA I4)[j]? = some v → w.cell? ⟨1, 0 + j, none⟩ = some v
theorem TurnAt.old {w w' : World} (h : TurnAt w) (hb : Below w.heap.size w w') : TurnAt w' :=
 ⟨Nat.lt_of_lt_of_le h.1 hb.size, fun j v hj => (hb.cell (p := ⟨1, 0 + j, none⟩) h.1).trans (h.2 j v hj)⟩
theorem mul_pw (n a b : Nat) (V : World) (hV : PrimeAt V) : Calls Tryz.prog 37 #[.agg (limA (pw n a)), .agg (limA (pw n b))] V fun e w' => e = .returned (.agg (limA (pw n (a + b)))) ∧ Below V.heap.size V w' := by
 have := mul_e (pw n a) (pw n b) (pw_lt _ _) (pw_lt _ _) V hV
 rwa [pw_add] at this
theorem sq_pw (n a t : Nat) (ti : Int) (hti : ti = (t : Int)) (ht : t ≤ 1000) (V : World) (hV : PrimeAt V) : Calls Tryz.prog 74 #[.agg (limA (pw n a)), .int .i64 ti] V fun e w' => e = .returned (.agg (limA (pw n (a * 2 ^ t)))) ∧ Below V.heap.size V w' := by
 have := squared_any (pw n a) t (pw_lt _ _) ht V hV
 rw [pw_pw] at this
 rw [hti]; exact this
theorem ones_pw (n c : Nat) (ci : Int) (hci : ci = (c : Int)) (hc1 : 1 ≤ c) (hc : c ≤ 1000) (hn : n < P) (V : World) (hV : PrimeAt V) : Calls Tryz.prog 75 #[.agg (limA n), .int .i64 ci] V fun e w' => e = .returned (.agg (limA (pw n (2 ^ c - 1)))) ∧ Below V.heap.size V w' := by
 rw [hci]; exact ones_any c hc1 hc n V hn hV
theorem limA_ok (n : Nat) : (Tryz.prog.info? 44).map (·.size) = some (limA n).size ∧ (limA n).all (·.oneCell') = true ∧ Array.size (#[.int .u64 0, .int .u64 0, .int .u64 0, .int .u64 0] : Array Value) = (limA n).size := ⟨limA_infoE _, limA_one _, Z4_size _⟩
theorem inv_exp (a : Nat) (h : a = 2 ^ 250 - 1) : a * 2 ^ 5 + 8 + 2 + 1 = P - 2 := by subst h; decide +kernel
theorem root_exp (a : Nat) (h : a = 2 ^ 251 - 1) : a * 2 ^ 1 = E8 := by subst h; decide +kernel
set_option maxHeartbeats 8000000 in
set_option maxRecDepth 100000 in
theorem inv_e (n : Nat) (w : World) (hn : n < P) (hP : PrimeAt w) :
  Calls Tryz.prog 38 #[elemV n] w fun e w' => e = .returned (elemV (pw n (P - 2))) ∧ Below w.heap.size w w' := by
 unfold elemV
 have HP := hid hP
 have HN := hid hn
 have h2 := Two2.new w (limA n) #[.int .u64 0, .int .u64 0, .int .u64 0, .int .u64 0]
 obtain ⟨a, ha⟩ := named (2 ^ 250 - 1)
 have hres := inv_exp a ha.out
 rw [← hres]
 have C1 : Hid (∀ V, PrimeAt V → Calls Tryz.prog 74 #[.agg (limA n), .int .i64 1] V fun e w' => e = .returned (.agg (limA (pw n 2))) ∧ Below V.heap.size V w') := hid fun V hV => by
  have := sq_pw n 1 1 1 rfl (by omega) V hV
  rwa [pw_one HN.out] at this
 have C2 : Hid (∀ V, PrimeAt V → Calls Tryz.prog 74 #[.agg (limA (pw n 2)), .int .i64 2] V fun e w' => e = .returned (.agg (limA (pw n 8))) ∧ Below V.heap.size V w') := hid fun V hV => sq_pw n 2 2 2 rfl (by omega) V hV
 have C3 : Hid (∀ V, PrimeAt V → Calls Tryz.prog 75 #[.agg (limA n), .int .i64 250] V fun e w' => e = .returned (.agg (limA (pw n a))) ∧ Below V.heap.size V w') := hid fun V hV => by
  rw [ha.out]; exact ones_pw n 250 250 rfl (by omega) (by omega) HN.out V hV
 have C4 : Hid (∀ V, PrimeAt V → Calls Tryz.prog 74 #[.agg (limA (pw n a)), .int .i64 5] V fun e w' => e = .returned (.agg (limA (pw n (a * 2 ^ 5)))) ∧ Below V.heap.size V w') := hid fun V hV => sq_pw n a 5 5 rfl (by omega) V hV
 have C5 : Hid (∀ V, PrimeAt V → Calls Tryz.prog 37 #[.agg (limA (pw n (a * 2 ^ 5))), .agg (limA (pw n 8))] V fun e w' => e = .returned (.agg (limA (pw n (a * 2 ^ 5 + 8)))) ∧ Below V.heap.size V w') := hid fun V hV => mul_pw n _ _ V hV
 have C6 : Hid (∀ V, PrimeAt V → Calls Tryz.prog 37 #[.agg (limA (pw n (a * 2 ^ 5 + 8))), .agg (limA (pw n 2))] V fun e w' => e = .returned (.agg (limA (pw n (a * 2 ^ 5 + 8 + 2)))) ∧ Below V.heap.size V w') := hid fun V hV => mul_pw n _ _ V hV
 have C7 : Hid (∀ V, PrimeAt V → Calls Tryz.prog 37 #[.agg (limA (pw n (a * 2 ^ 5 + 8 + 2))), .agg (limA n)] V fun e w' => e = .returned (.agg (limA (pw n (a * 2 ^ 5 + 8 + 2 + 1)))) ∧ Below V.heap.size V w') := hid fun V hV => by
  have := mul_pw n (a * 2 ^ 5 + 8 + 2) 1 V hV
  rwa [pw_one HN.out] at this
 have o0 := hid (limA_ok n)
 have o2 := hid (limA_ok (pw n 2))
 have o8 := hid (limA_ok (pw n 8))
 have oR := hid (limA_ok (pw n (a * 2 ^ 5 + 8 + 2 + 1)))
 clear hP hn hres
 generalize limA (pw n (a * 2 ^ 5 + 8 + 2 + 1)) = R at *
 generalize limA (pw n (a * 2 ^ 5 + 8 + 2)) = c6 at *
 generalize limA (pw n (a * 2 ^ 5 + 8)) = c5 at *
 generalize limA (pw n (a * 2 ^ 5)) = c4 at *
 generalize limA (pw n a) = c3 at *
 generalize limA (pw n 2) = x2 at *
 generalize limA (pw n 8) = x8 at *
 generalize limA n = x at *
 go_enter Tryz.func38, Tryz.ntmps38
 go_upto_region 1 with fail
 generalize (w.alloc (.cells x 44)).alloc (.cells #[.int .u64 0, .int .u64 0, .int .u64 0, .int .u64 0] 44) = W at *
 have H2 := hid h2
 clear h2
 go_upto_region 2 with (first | (refine wpList_load_row rfl 44 (.tmp 1) rfl w.heap.size rfl 44 x (0, 0) _ H2.out.1 Tryz.underlying44 rfl o0.out.1 ?_))
 refine (C1.out _ (HP.out.old H2.out.2.2)).mono ?_
 rintro e w1 ⟨rfl, hb1⟩
 have H21 := hid (H2.out.next hb1)
 clear hb1
 go_upto_region 2 with (first | (refine wpList_store_row rfl 44 (.tmp 3) (.tmp 6) rfl w1.heap.size x2 rfl rfl 44 _ (heap_alloc_new w1 _) o2.out.1 o2.out.2.2 o2.out.2.1 ?_; rw [setRow_alloc1]))
 have h3 : Three2 w x #[.int .u64 0, .int .u64 0, .int .u64 0, .int .u64 0] x2 w1.heap.size (w1.alloc (.cells x2 44)) := ⟨H21.out.next ((Below.refl _ _).alloc (Nat.le_refl _) _), Blk.new _ _ _, H21.out.lt⟩
 generalize w1.alloc (.cells x2 44) = W1 at *
 generalize w1.heap.size = g3 at *
 have H3 := hid h3
 clear h3
 go_upto_region 3 with (first | (refine wpList_load_row rfl 44 (.tmp 3) rfl g3 rfl 44 x2 (0, 0) _ H3.out.2.1 Tryz.underlying44 rfl o2.out.1 ?_))
 refine (C2.out _ (HP.out.old H3.out.1.2.2)).mono ?_
 rintro e w2 ⟨rfl, hb1⟩
 have H31 := hid (H3.out.next hb1)
 clear hb1
 go_upto_region 3 with (first | (refine wpList_store_row rfl 44 (.tmp 4) (.tmp 8) rfl w2.heap.size x8 rfl rfl 44 _ (heap_alloc_new w2 _) o8.out.1 o8.out.2.2 o8.out.2.1 ?_; rw [setRow_alloc1]))
 have h4 : Three2 w x #[.int .u64 0, .int .u64 0, .int .u64 0, .int .u64 0] x2 g3 (w2.alloc (.cells x8 44)) := H31.out.next ((Below.refl _ _).alloc (Nat.le_refl _) _)
 have h8 : Blk (w2.alloc (.cells x8 44)) w2.heap.size 44 x8 := Blk.new _ _ _
 have hg4 : w.heap.size + 1 < w2.heap.size := H31.out.1.lt
 generalize w2.alloc (.cells x8 44) = W2 at *
 generalize w2.heap.size = g4 at *
 have H4 := hid h4
 have H8 := hid h8
 have G4 := hid hg4
 clear h4 h8 hg4
 (try simp only [Act.put, zA, zB, zC])
 refine wp_region_held_drew (S := fun V => Far (w.heap.size + 1) W2 V) (by kernel_rfl) (Far.of (Below.refl _ _).drew) (fun hHeld => ?_)
 have HBW2 := hid ((Below.refl W2.heap.size W2).drew)
 generalize W2.drew = VW2 at *
 refine' wpAnyH_take (i := 0) (oi := _) (v := .agg x) ?hit1 ?hst1 ?hft1 ?hrt1 ?hQt1 ?hyt1 ?hSt1 ?_
 case hit1 => (simp only [zD, zE, zF]; rfl)
 case hst1 | hft1 | hrt1 => kernel_rfl
 case hQt1 => exact fun _ _ _ h => h
 case hSt1 => assumption
 case hyt1 =>
  refine Or.inl ⟨by rfl, ?_⟩
  intro W hS
  exact quiet_load_row 44 (.tmp 1) _ rfl 44 x _ (hS _ _ _ (by have := H4.out.2.2; have := G4.out; omega) H4.out.1.1) Tryz.underlying44 rfl o0.out.1 rfl
 (try simp only [Act.put, zA, zB, zC])
 refine' wpAnyH_take (i := 3) (oi := _) (v := .agg x8) ?hit2 ?hst2 ?hft2 ?hrt2 ?hQt2 ?hyt2 ?hSt2 ?_
 case hit2 => (simp only [zD, zE, zF]; rfl)
 case hst2 | hft2 | hrt2 => kernel_rfl
 case hQt2 => exact fun _ _ _ h => h
 case hSt2 => assumption
 case hyt2 =>
  refine Or.inl ⟨by rfl, ?_⟩
  intro W hS
  exact quiet_load_row 44 (.tmp 4) _ rfl 44 x8 _ (hS _ _ _ (by have := H4.out.2.2; have := G4.out; omega) H8.out) Tryz.underlying44 rfl o8.out.1 rfl
 (try simp only [Act.put, zA, zB, zC])
 refine' wpAnyH_take (i := 5) (oi := _) (v := .agg x2) ?hit3 ?hst3 ?hft3 ?hrt3 ?hQt3 ?hyt3 ?hSt3 ?_
 case hit3 => (simp only [zD, zE, zF]; rfl)
 case hst3 | hft3 | hrt3 => kernel_rfl
 case hQt3 => exact fun _ _ _ h => h
 case hSt3 => assumption
 case hyt3 =>
  refine Or.inl ⟨by rfl, ?_⟩
  intro W hS
  exact quiet_load_row 44 (.tmp 3) _ rfl 44 x2 _ (hS _ _ _ (by have := H4.out.2.2; have := G4.out; omega) H4.out.2.1) Tryz.underlying44 rfl o2.out.1 rfl
 (try simp only [Act.put, zA, zB, zC])
 refine' wpAnyH_take (i := 7) (oi := _) (v := .agg x) ?hit4 ?hst4 ?hft4 ?hrt4 ?hQt4 ?hyt4 ?hSt4 ?_
 case hit4 => (simp only [zD, zE, zF]; rfl)
 case hst4 | hft4 | hrt4 => kernel_rfl
 case hQt4 => exact fun _ _ _ h => h
 case hSt4 => assumption
 case hyt4 =>
  refine Or.inl ⟨by rfl, ?_⟩
  intro W hS
  exact quiet_load_row 44 (.tmp 1) _ rfl 44 x _ (hS _ _ _ (by have := H4.out.2.2; have := G4.out; omega) H4.out.1.1) Tryz.underlying44 rfl o0.out.1 rfl
 (try simp only [Act.put, zA, zB, zC])
 refine wpAnyH_ready (rs := [1]) (by kernel_rfl) (by simp) ?_
 refine' (AllReadyH.cons (o := _) ?hir5_1 (fun K hK => ?br5_1) AllReadyH.nil)
 case hir5_1 => (simp only [zD, zE, zF]; rfl)
 case br5_1 =>
  go_simp
  refine (C3.out _ (HP.out.old (H4.out.1.2.2.trans (HBW2.out.mono H4.out.1.2.2.size)))).mono ?_
  rintro e w6 ⟨rfl, hb6⟩
  have H6 := hid (HBW2.out.trans (hb6.mono HBW2.out.size))
  clear hb6
  go_wp2_with fail
  refine hK.out _ _ ?_ (fun hHeld => ?_)
  exact Far.of H6.out
  clear hK K
  (try simp only [Act.put, zA, zB, zC])
  refine wpAnyH_ready (rs := [2]) (by kernel_rfl) (by simp) ?_
  refine' (AllReadyH.cons (o := _) ?hir7_2 (fun K hK => ?br7_2) AllReadyH.nil)
  case hir7_2 => (simp only [zD, zE, zF]; rfl)
  case br7_2 =>
   go_simp
   refine (C4.out _ (HP.out.old (H4.out.1.2.2.trans (H6.out.mono H4.out.1.2.2.size)))).mono ?_
   rintro e w8 ⟨rfl, hb8⟩
   have H8 := hid (H6.out.trans (hb8.mono H6.out.size))
   clear hb8
   go_wp2_with fail
   refine hK.out _ _ ?_ (fun hHeld => ?_)
   exact Far.of H8.out
   clear hK K
   (try simp only [Act.put, zA, zB, zC])
   refine wpAnyH_ready (rs := [4]) (by kernel_rfl) (by simp) ?_
   refine' (AllReadyH.cons (o := _) ?hir9_4 (fun K hK => ?br9_4) AllReadyH.nil)
   case hir9_4 => (simp only [zD, zE, zF]; rfl)
   case br9_4 =>
    go_simp
    refine (C5.out _ (HP.out.old (H4.out.1.2.2.trans (H8.out.mono H4.out.1.2.2.size)))).mono ?_
    rintro e w10 ⟨rfl, hb10⟩
    have H10 := hid (H8.out.trans (hb10.mono H8.out.size))
    clear hb10
    go_wp2_with fail
    refine hK.out _ _ ?_ (fun hHeld => ?_)
    exact Far.of H10.out
    clear hK K
    (try simp only [Act.put, zA, zB, zC])
    refine wpAnyH_ready (rs := [6]) (by kernel_rfl) (by simp) ?_
    refine' (AllReadyH.cons (o := _) ?hir11_6 (fun K hK => ?br11_6) AllReadyH.nil)
    case hir11_6 => (simp only [zD, zE, zF]; rfl)
    case br11_6 =>
     go_simp
     refine (C6.out _ (HP.out.old (H4.out.1.2.2.trans (H10.out.mono H4.out.1.2.2.size)))).mono ?_
     rintro e w12 ⟨rfl, hb12⟩
     have H12 := hid (H10.out.trans (hb12.mono H10.out.size))
     clear hb12
     go_wp2_with fail
     refine hK.out _ _ ?_ (fun hHeld => ?_)
     exact Far.of H12.out
     clear hK K
     (try simp only [Act.put, zA, zB, zC])
     refine wpAnyH_ready (rs := [8]) (by kernel_rfl) (by simp) ?_
     refine' (AllReadyH.cons (o := _) ?hir13_8 (fun K hK => ?br13_8) AllReadyH.nil)
     case hir13_8 => (simp only [zD, zE, zF]; rfl)
     case br13_8 =>
      go_simp
      refine (C7.out _ (HP.out.old (H4.out.1.2.2.trans (H12.out.mono H4.out.1.2.2.size)))).mono ?_
      rintro e w14 ⟨rfl, hb14⟩
      have H14 := hid (H12.out.trans (hb14.mono H12.out.size))
      clear hb14
      go_wp2_with fail
      refine hK.out _ _ ?_ (fun hHeld => ?_)
      exact Far.of H14.out
      clear hK K
      (try simp only [Act.put, zA, zB, zC])
      refine wpAnyH_ready (rs := [9]) (by kernel_rfl) (by simp) ?_
      refine' (AllReadyH.cons (o := _) ?hir15_9 (fun K hK => ?br15_9) AllReadyH.nil)
      case hir15_9 => (simp only [zD, zE, zF]; rfl)
      case br15_9 =>
       refine step_of_wp rfl ?_
       refine wp_store_row 44 (.tmp 2) (.tmp 17) rfl (w.heap.size + 1) R rfl rfl 44 _ (H4.out.1.2.1.old H14.out) oR.out.1 oR.out.2.2 oR.out.2.1 ?_
       refine hK.out _ _ ?_ (fun hHeld => ?_)
       exact (Far.of H14.out).row _
       clear hK K
       (try simp only [Act.put, zA, zB, zC])
       refine wpAnyH_done (by kernel_rfl) ?_ _
       have H5 := hid ((H4.out.1.next H14.out).snd R)
       generalize World.setRow _ (w.heap.size + 1) R = V2 at *
       go_wp2_with fail
       refine bodyPost_ret (v := .agg R) ?_ rfl ⟨rfl, H5.out.2.2⟩
       exact results_cell_row Tryz.results38 _ _ (w.heap.size + 1) 44 R (0, 0) _ rfl H5.out.2.1 Tryz.underlying44 rfl oR.out.1
theorem pw_two (r : Nat) : pw r (2 ^ 1) = r * r % P := by rw [pw, show 2 ^ 1 = 2 from rfl, Nat.pow_two]
theorem odd_neg {r : Nat} (h : r < P) (ho : r % 2 = 1) : (0 + P - r) % P = P - r := by
 rw [Nat.zero_add]; exact Nat.mod_eq_of_lt (by have := P_pos; omega)
set_option maxHeartbeats 8000000 in
set_option maxRecDepth 100000 in
theorem root_e (n : Nat) (w : World) (hn : n < P) (hP : PrimeAt w) (hT : TurnAt w) :
  Calls Tryz.prog 76 #[elemV n] w fun e w' => e = .returned (.tuple #[elemV (root n), .bool (decide (hasRoot n))]) ∧ Below w.heap.size w w' := by
 unfold elemV
 have HP := hid hP
 have HT := hid hT
 have HN := hid hn
 have h2 := Two2.new w (limA n) #[.int .u64 0, .int .u64 0, .int .u64 0, .int .u64 0]
 obtain ⟨a, ha⟩ := named (2 ^ 251 - 1)
 have C1 : Hid (∀ V, PrimeAt V → Calls Tryz.prog 75 #[.agg (limA n), .int .i64 251] V fun e w' => e = .returned (.agg (limA (pw n a))) ∧ Below V.heap.size V w') := hid fun V hV => by
  rw [ha.out]; exact ones_pw n 251 251 rfl (by omega) (by omega) HN.out V hV
 have C2 : Hid (∀ V, PrimeAt V → Calls Tryz.prog 74 #[.agg (limA (pw n a)), .int .i64 1] V fun e w' => e = .returned (.agg (limA (pw n E8))) ∧ Below V.heap.size V w') := hid fun V hV => by
  have := sq_pw n a 1 1 rfl (by omega) V hV
  rwa [root_exp a ha.out] at this
 have hrl : pw n E8 < P := pw_lt _ _
 have hroot1 : root1 n = if pw n E8 * pw n E8 % P = n then pw n E8 else pw n E8 * I4 % P := rfl
 generalize pw n E8 = r at *
 have HR1 := hid hroot1
 have hr1l := root1_lt n
 have hroot : Hid (root n = if hasRoot n then (if root1 n % 2 = 1 then P - root1 n else root1 n) else 0) := hid rfl
 have hhas : Hid (hasRoot n ↔ root1 n * root1 n % P = n) := hid Iff.rfl
 have C3 : Hid (∀ V, PrimeAt V → Calls Tryz.prog 74 #[.agg (limA r), .int .i64 1] V fun e w' => e = .returned (.agg (limA (r * r % P))) ∧ Below V.heap.size V w') := hid fun V hV => by
  have := squared_any r 1 hrl (by omega) V hV
  rwa [pw_two] at this
 have C4 : Hid (∀ V, Calls Tryz.prog 65 #[.agg (limA (r * r % P)), .agg (limA n)] V fun e w' => e = .returned (.bool (decide (r * r % P = n))) ∧ Below V.heap.size V w') := hid fun V => same_e _ _ (Nat.mod_lt _ P_pos) HN.out V
 have C5 : Hid (∀ V, PrimeAt V → Calls Tryz.prog 37 #[.agg (limA r), .agg (limA I4)] V fun e w' => e = .returned (.agg (limA (r * I4 % P))) ∧ Below V.heap.size V w') := hid fun V hV => mul_e r I4 hrl I4_lt V hV
 have C6 : Hid (∀ V, PrimeAt V → Calls Tryz.prog 74 #[.agg (limA (root1 n)), .int .i64 1] V fun e w' => e = .returned (.agg (limA (root1 n * root1 n % P))) ∧ Below V.heap.size V w') := hid fun V hV => by
  have := squared_any (root1 n) 1 hr1l (by omega) V hV
  rwa [pw_two] at this
 have C7 : Hid (∀ V, Calls Tryz.prog 65 #[.agg (limA (root1 n * root1 n % P)), .agg (limA n)] V fun e w' => e = .returned (.bool (decide (root1 n * root1 n % P = n))) ∧ Below V.heap.size V w') := hid fun V => same_e _ _ (Nat.mod_lt _ P_pos) HN.out V
 have C8 : Hid (∀ V, Calls Tryz.prog 46 #[.agg (limA (root1 n))] V fun e w' => e = .returned (.bool (decide (root1 n % 2 = 1))) ∧ Below V.heap.size V w') := hid fun V => odd_e _ V
 have C9 : Hid (∀ V, PrimeAt V → Calls Tryz.prog 67 #[.agg #[.int .u64 0, .int .u64 0, .int .u64 0, .int .u64 0], .agg (limA (root1 n))] V fun e w' => e = .returned (.agg (limA ((0 + P - root1 n) % P))) ∧ Below V.heap.size V w') := hid fun V hV => sub_e 0 (root1 n) P_pos hr1l V hV
 have o0 := hid (limA_ok n)
 have or := hid (limA_ok r)
 have oI := hid (limA_ok (r * I4 % P))
 have o1 := hid (limA_ok (root1 n))
 have oN := hid (limA_ok ((0 + P - root1 n) % P))
 have hsz : Hid ((limA r).size = (limA (r * I4 % P)).size ∧ (limA (root1 n)).size = (limA ((0 + P - root1 n) % P)).size) := hid ⟨by rw [limA_size, limA_size], by rw [limA_size, limA_size]⟩
 have hbt := hid (built_lim I4)
 have hti := hid (limA_info I4)
 obtain ⟨ct, hct⟩ : ∃ c, Hid (c = limA I4) := ⟨_, hid rfl⟩
 have HT2 : Hid (∀ V, TurnAt V → ∀ j v, ct[j]? = some v → V.cell? ⟨1, 0 + j, none⟩ = some v) := hid fun V hV j v hj => hV.2 j v (by rw [← hct.out]; exact hj)
 rw [← hct.out] at C5 hbt hti
 obtain ⟨b1, hb1⟩ : ∃ b, Hid (b = decide (r * r % P = n)) := ⟨_, hid rfl⟩
 obtain ⟨b2, hb2⟩ : ∃ b, Hid (b = decide (root1 n * root1 n % P = n)) := ⟨_, hid rfl⟩
 obtain ⟨b3, hb3⟩ : ∃ b, Hid (b = decide (root1 n % 2 = 1)) := ⟨_, hid rfl⟩
 rw [← hb1.out] at C4
 rw [← hb2.out] at C7
 rw [← hb3.out] at C8
 obtain ⟨x, hx⟩ : ∃ c, Hid (c = limA n) := ⟨_, hid rfl⟩
 obtain ⟨cr, hcr⟩ : ∃ c, Hid (c = limA r) := ⟨_, hid rfl⟩
 obtain ⟨cI, hcI⟩ : ∃ c, Hid (c = limA (r * I4 % P)) := ⟨_, hid rfl⟩
 obtain ⟨c1, hc1⟩ : ∃ c, Hid (c = limA (root1 n)) := ⟨_, hid rfl⟩
 obtain ⟨cN, hcN⟩ : ∃ c, Hid (c = limA ((0 + P - root1 n) % P)) := ⟨_, hid rfl⟩
 rw [← hx.out] at C1 C4 C7 o0 h2 ⊢
 rw [← hcr.out] at C2 C3 C5 or hsz
 rw [← hcI.out] at C5 oI hsz
 rw [← hc1.out] at C6 C8 C9 o1 hsz
 rw [← hcN.out] at C9 oN hsz
 obtain ⟨cR, hcR⟩ : ∃ c, Hid (c = limA (root n)) := ⟨_, hid rfl⟩
 have HRl := hid hrl
 have HR1l := hid hr1l
 clear hP hn hT hroot1 hrl hr1l
 go_enter Tryz.func76, Tryz.ntmps76
 go_upto_region 1 with fail
 generalize (w.alloc (.cells x 44)).alloc (.cells #[.int .u64 0, .int .u64 0, .int .u64 0, .int .u64 0] 44) = W at *
 have H2 := hid h2
 clear h2
 go_upto_region 2 with (first | (refine wpList_load_row rfl 44 (.tmp 1) rfl w.heap.size rfl 44 x (0, 0) _ H2.out.1 Tryz.underlying44 rfl o0.out.1 ?_))
 refine (C1.out _ (HP.out.old H2.out.2.2)).mono ?_
 rintro e w1 ⟨rfl, hb⟩
 have H21 := hid (H2.out.next hb)
 clear hb
 go_upto_region 2 with fail
 refine (C2.out _ (HP.out.old H21.out.2.2)).mono ?_
 rintro e w1 ⟨rfl, hb⟩
 have H22 := hid (H21.out.next hb)
 clear hb
 go_upto_region 2 with (first | (refine wpList_store_row rfl 44 (.tmp 4) (.tmp 7) rfl w1.heap.size cr rfl rfl 44 _ (heap_alloc_new w1 _) or.out.1 or.out.2.2 or.out.2.1 ?_; rw [setRow_alloc1]))
 have h3 : Three2 w x #[.int .u64 0, .int .u64 0, .int .u64 0, .int .u64 0] cr w1.heap.size (w1.alloc (.cells cr 44)) := ⟨H22.out.next ((Below.refl _ _).alloc (Nat.le_refl _) _), Blk.new _ _ _, H22.out.lt⟩
 generalize w1.alloc (.cells cr 44) = W1 at *
 generalize w1.heap.size = g4 at *
 have H3 := hid h3
 clear h3
 (try simp only [Act.put, zA, zB, zC])
 refine wp_region_held_drew (S := fun V => Below W1.heap.size W1 V) (by kernel_rfl) ((Below.refl _ _).drew) (fun hHeld => ?_)
 have HBW1 := hid ((Below.refl W1.heap.size W1).drew)
 generalize W1.drew = VW1 at *
 refine' wpAnyH_take (i := 0) (oi := _) (v := .agg cr) ?hit17 ?hst17 ?hft17 ?hrt17 ?hQt17 ?hyt17 ?hSt17 ?_
 case hit17 => (simp only [zD, zE, zF]; rfl)
 case hst17 | hft17 | hrt17 => kernel_rfl
 case hQt17 => exact fun _ _ _ h => h
 case hSt17 => assumption
 case hyt17 =>
  refine Or.inl ⟨by rfl, ?_⟩
  intro W hS
  exact quiet_load_row 44 (.tmp 4) _ rfl 44 cr _ (H3.out.2.1.old hS) Tryz.underlying44 rfl or.out.1 rfl
 (try simp only [Act.put, zA, zB, zC])
 refine' wpAnyH_take (i := 2) (oi := _) (v := .agg x) ?hit18 ?hst18 ?hft18 ?hrt18 ?hQt18 ?hyt18 ?hSt18 ?_
 case hit18 => (simp only [zD, zE, zF]; rfl)
 case hst18 | hft18 | hrt18 => kernel_rfl
 case hQt18 => exact fun _ _ _ h => h
 case hSt18 => assumption
 case hyt18 =>
  refine Or.inl ⟨by rfl, ?_⟩
  intro W hS
  exact quiet_load_row 44 (.tmp 1) _ rfl 44 x _ (H3.out.1.1.old hS) Tryz.underlying44 rfl o0.out.1 rfl
 (try simp only [Act.put, zA, zB, zC])
 refine wpAnyH_ready (rs := [1]) (by kernel_rfl) (by simp) ?_
 refine' (AllReadyH.cons (o := _) ?hir19_1 (fun K hK => ?br19_1) AllReadyH.nil)
 case hir19_1 => (simp only [zD, zE, zF]; rfl)
 case br19_1 =>
  go_simp
  refine (C3.out _ (HP.out.old (H3.out.1.2.2.trans (HBW1.out.mono H3.out.1.2.2.size)))).mono ?_
  rintro e w20 ⟨rfl, hb20⟩
  have H20 := hid (HBW1.out.trans (hb20.mono HBW1.out.size))
  clear hb20
  go_wp2_with fail
  refine hK.out _ _ ?_ (fun hHeld => ?_)
  exact H20.out
  clear hK K
  (try simp only [Act.put, zA, zB, zC])
  refine wpAnyH_ready (rs := [3]) (by kernel_rfl) (by simp) ?_
  refine' (AllReadyH.cons (o := _) ?hir21_3 (fun K hK => ?br21_3) AllReadyH.nil)
  case hir21_3 => (simp only [zD, zE, zF]; rfl)
  case br21_3 =>
   go_simp
   refine (C4.out _).mono ?_
   rintro e w22 ⟨rfl, hb22⟩
   have H22 := hid (H20.out.trans (hb22.mono H20.out.size))
   clear hb22
   go_wp2_with fail
   refine hK.out _ _ ?_ (fun hHeld => ?_)
   exact H22.out
   clear hK K
   (try simp only [Act.put, zA, zB, zC])
   refine' wpAnyH_take (i := 4) (oi := _) (v := _) ?hit23 ?hst23 ?hft23 ?hrt23 ?hQt23 ?hyt23 ?hSt23 ?_
   case hit23 => (simp only [zD, zE, zF]; rfl)
   case hst23 | hft23 | hrt23 => kernel_rfl
   case hQt23 => exact fun _ _ _ h => h
   case hSt23 => assumption
   case hyt23 =>
    refine Or.inl ⟨by rfl, ?_⟩
    intro w hSw
    (try dsimp only at hSw)
    go_simp
    all_goals (with_reducible rfl)
   (try simp only [Act.put, zA, zB, zC])
   refine wpAnyH_done (by kernel_rfl) ?_ _
   have H4 := hid (H3.out.next H22.out)
   have HT4 := hid (HT2.out _ (HT.out.old H4.out.1.2.2))
   have HP4 := hid (HP.out.old H4.out.1.2.2)
   clear hHeld
   go_upto_if 12 with fail
   (try simp only [Act.put, zA, zB, zC])
   go_cut [] (fun wx => Three2 w x #[.int .u64 0, .int .u64 0, .int .u64 0, .int .u64 0] c1 g4 wx)
   case first =>
    cases hb1v : b1
    ·have e1 : Hid (cI = c1) := by
      rw [hcI.out, hc1.out, HR1.out, if_neg (by have := hb1.out; rw [hb1v] at this; simpa using this.symm)]; exact hid rfl
     clear hb1v
     go_wp2_with (first | (refine wpList_load_row rfl 44 (.tmp 4) rfl g4 rfl 44 cr (0, 0) _ H4.out.2.1 Tryz.underlying44 rfl or.out.1 ?_) |
      (refine wpList_load_at rfl 42 (.global 1) rfl 1 0 rfl 40 4 ct Tryz.underlying42 hti.out HT4.out ?_) |
      (refine wpList_build_to rfl 44 #[(0, .tmp 14)] rfl [(0, .agg ct)] (by simp [Act.eval, Act.put]) ct hbt.out ?_))
     refine (C5.out _ HP4.out).mono ?_
     rintro e w5 ⟨rfl, hb⟩
     have H5 := hid (H4.out.next hb)
     have H6 := hid (H5.out.third cI)
     clear hb
     go_wp2_with (first | (refine wpList_store_row rfl 44 (.tmp 4) (.tmp 16) rfl g4 cI rfl rfl 44 cr H5.out.2.1 oI.out.1 hsz.out.1 oI.out.2.1 ?_))
     go_meet
     exact (by rw [← e1.out]; exact H6.out)
    ·have e1 : Hid (cr = c1) := by
      rw [hcr.out, hc1.out, HR1.out, if_pos (by have := hb1.out; rw [hb1v] at this; simpa using this.symm)]; exact hid rfl
     clear hb1v
     go_wp2_with fail
     go_meet
     exact (by rw [← e1.out]; exact H4.out)
   case rest =>
    have H7 := hid hcut
    clear hcut
    go_upto_region 4 with fail
    generalize wc = W4 at *
    (try simp only [Act.put, zA, zB, zC])
    refine wp_region_held_drew (S := fun V => Below W4.heap.size W4 V) (by kernel_rfl) ((Below.refl _ _).drew) (fun hHeld => ?_)
    have HBW4 := hid ((Below.refl W4.heap.size W4).drew)
    generalize W4.drew = VW4 at *
    refine' wpAnyH_take (i := 0) (oi := _) (v := .agg c1) ?hit24 ?hst24 ?hft24 ?hrt24 ?hQt24 ?hyt24 ?hSt24 ?_
    case hit24 => (simp only [zD, zE, zF]; rfl)
    case hst24 | hft24 | hrt24 => kernel_rfl
    case hQt24 => exact fun _ _ _ h => h
    case hSt24 => assumption
    case hyt24 =>
     refine Or.inl ⟨by rfl, ?_⟩
     intro W hS
     exact quiet_load_row 44 (.tmp 4) _ rfl 44 c1 _ (H7.out.2.1.old hS) Tryz.underlying44 rfl o1.out.1 rfl
    (try simp only [Act.put, zA, zB, zC])
    refine' wpAnyH_take (i := 2) (oi := _) (v := .agg x) ?hit25 ?hst25 ?hft25 ?hrt25 ?hQt25 ?hyt25 ?hSt25 ?_
    case hit25 => (simp only [zD, zE, zF]; rfl)
    case hst25 | hft25 | hrt25 => kernel_rfl
    case hQt25 => exact fun _ _ _ h => h
    case hSt25 => assumption
    case hyt25 =>
     refine Or.inl ⟨by rfl, ?_⟩
     intro W hS
     exact quiet_load_row 44 (.tmp 1) _ rfl 44 x _ (H7.out.1.1.old hS) Tryz.underlying44 rfl o0.out.1 rfl
    (try simp only [Act.put, zA, zB, zC])
    refine wpAnyH_ready (rs := [1]) (by kernel_rfl) (by simp) ?_
    refine' (AllReadyH.cons (o := _) ?hir26_1 (fun K hK => ?br26_1) AllReadyH.nil)
    case hir26_1 => (simp only [zD, zE, zF]; rfl)
    case br26_1 =>
     go_simp
     refine (C6.out _ (HP.out.old (H7.out.1.2.2.trans (HBW4.out.mono H7.out.1.2.2.size)))).mono ?_
     rintro e w27 ⟨rfl, hb27⟩
     have H27 := hid (HBW4.out.trans (hb27.mono HBW4.out.size))
     clear hb27
     go_wp2_with fail
     refine hK.out _ _ ?_ (fun hHeld => ?_)
     exact H27.out
     clear hK K
     (try simp only [Act.put, zA, zB, zC])
     refine wpAnyH_ready (rs := [3]) (by kernel_rfl) (by simp) ?_
     refine' (AllReadyH.cons (o := _) ?hir28_3 (fun K hK => ?br28_3) AllReadyH.nil)
     case hir28_3 => (simp only [zD, zE, zF]; rfl)
     case br28_3 =>
      go_simp
      refine (C7.out _).mono ?_
      rintro e w29 ⟨rfl, hb29⟩
      have H29 := hid (H27.out.trans (hb29.mono H27.out.size))
      clear hb29
      go_wp2_with fail
      refine hK.out _ _ ?_ (fun hHeld => ?_)
      exact H29.out
      clear hK K
      (try simp only [Act.put, zA, zB, zC])
      refine' wpAnyH_take (i := 4) (oi := _) (v := _) ?hit30 ?hst30 ?hft30 ?hrt30 ?hQt30 ?hyt30 ?hSt30 ?_
      case hit30 => (simp only [zD, zE, zF]; rfl)
      case hst30 | hft30 | hrt30 => kernel_rfl
      case hQt30 => exact fun _ _ _ h => h
      case hSt30 => assumption
      case hyt30 =>
       refine Or.inl ⟨by rfl, ?_⟩
       intro w hSw
       (try dsimp only at hSw)
       go_simp
       all_goals (with_reducible rfl)
      (try simp only [Act.put, zA, zB, zC])
      refine wpAnyH_done (by kernel_rfl) ?_ _
      have H8 := hid (H7.out.next H29.out)
      have HP8 := hid (HP.out.old H8.out.1.2.2)
      clear hHeld
      cases hb2v : b2
      ·have hno : ¬ hasRoot n := by rw [hhas.out]; have := hb2.out; rw [hb2v] at this; simpa using this.symm
       have hr0 : Hid (root n = 0) := by rw [hroot.out, if_neg hno]; exact hid rfl
       have hd : Hid (decide (hasRoot n) = false) := hid (by simpa using hno)
       have hz := hid (limA_ok 0)
       rw [show limA 0 = #[.int .u64 0, .int .u64 0, .int .u64 0, .int .u64 0] from rfl] at hz
       clear hno hb2v
       go_wp2_with (first | (refine wpList_store_row rfl 44 (.tmp 2) (.tmp 22) rfl (w.heap.size + 1) #[.int .u64 0, .int .u64 0, .int .u64 0, .int .u64 0] rfl rfl 44 _ H8.out.1.2.1 hz.out.1 hz.out.2.2 hz.out.2.1 ?_; rw [setRow_self H8.out.1.2.1]))
       refine bodyPost_ret (v := .tuple #[.agg #[.int .u64 0, .int .u64 0, .int .u64 0, .int .u64 0], .bool false]) ?_ rfl ⟨by rw [hr0.out, hd.out]; rfl, H8.out.1.2.2⟩
       exact results_row_tmp1 Tryz.results76 _ _ (w.heap.size + 1) 44 _ _ _ rfl rfl H8.out.1.2.1 Tryz.underlying44 hz.out.1
      have hyes : hasRoot n := by rw [hhas.out]; have := hb2.out; rw [hb2v] at this; simpa using this.symm
      have hd : Hid (decide (hasRoot n) = true) := hid (by simpa using hyes)
      have hrr : root n = if root1 n % 2 = 1 then P - root1 n else root1 n := by rw [hroot.out, if_pos hyes]
      have HRR := hid hrr
      clear hyes hb2v hrr
      go_upto_if 24 with (first | (refine wpList_load_row rfl 44 (.tmp 4) rfl g4 rfl 44 c1 (0, 0) _ H8.out.2.1 Tryz.underlying44 rfl o1.out.1 ?_))
      refine (C8.out _).mono ?_
      rintro e w9 ⟨rfl, hb⟩
      have H9 := hid (H8.out.next hb)
      have HP9 := hid (HP.out.old H9.out.1.2.2)
      clear hb
      go_upto_if 24 with fail
      (try simp only [Act.put, zA, zB, zC])
      go_cut [] (fun wx => Three2 w x #[.int .u64 0, .int .u64 0, .int .u64 0, .int .u64 0] cR g4 wx)
      case first =>
       cases hb3v : b3
       ·have e1 : Hid (c1 = cR) := by
         rw [hc1.out, hcR.out, HRR.out, if_neg (by have := hb3.out; rw [hb3v] at this; simpa using this.symm)]; exact hid rfl
        clear hb3v
        go_wp2_with fail
        go_meet
        exact (by rw [← e1.out]; exact H9.out)
       ·have e1 : Hid (cN = cR) := by
         have ho : root1 n % 2 = 1 := by have := hb3.out; rw [hb3v] at this; simpa using this.symm
         rw [hcN.out, hcR.out, HRR.out, if_pos ho, odd_neg HR1l.out ho]; exact hid rfl
        clear hb3v
        go_wp2_with (first | (refine wpList_load_row rfl 44 (.tmp 4) rfl g4 rfl 44 c1 (0, 0) _ H9.out.2.1 Tryz.underlying44 rfl o1.out.1 ?_))
        refine (C9.out _ HP9.out).mono ?_
        rintro e w5 ⟨rfl, hb⟩
        have H5 := hid (H9.out.next hb)
        have H6 := hid (H5.out.third cN)
        clear hb
        go_wp2_with (first | (refine wpList_store_row rfl 44 (.tmp 4) (.tmp 27) rfl g4 cN rfl rfl 44 c1 H5.out.2.1 oN.out.1 hsz.out.2 oN.out.2.1 ?_))
        go_meet
        exact (by rw [← e1.out]; exact H6.out)
      case rest =>
       have HC := hid hcut
       have oR : Hid ((Tryz.prog.info? 44).map (·.size) = some cR.size ∧ cR.all (·.oneCell') = true ∧ Array.size (#[.int .u64 0, .int .u64 0, .int .u64 0, .int .u64 0] : Array Value) = cR.size) := by rw [hcR.out]; exact hid (limA_ok _)
       have HF := hid (hcut.1.snd cR)
       clear hcut
       go_wp2_with (first | (refine wpList_load_row rfl 44 (.tmp 4) rfl g4 rfl 44 cR (0, 0) _ HC.out.2.1 Tryz.underlying44 rfl oR.out.1 ?_) |
        (refine wpList_store_row rfl 44 (.tmp 2) (.tmp 28) rfl (w.heap.size + 1) cR rfl rfl 44 _ HC.out.1.2.1 oR.out.1 oR.out.2.2 oR.out.2.1 ?_))
       refine bodyPost_ret (v := .tuple #[.agg cR, .bool true]) ?_ rfl ⟨by rw [hcR.out, hd.out], HF.out.2.2⟩
       exact results_row_tmp1 Tryz.results76 _ _ (w.heap.size + 1) 44 _ _ _ rfl rfl HF.out.2.1 Tryz.underlying44 oR.out.1
end Go.Proofs.YtcfogpeinjehbaaGreatDoor
end

section
namespace F5
theorem bit_of (q i : Nat) : (q / B ^ (i / 16) % B) / 2 ^ (i % 16) % 2 = q / 2 ^ i % 2 := by
 have e1 : B ^ (i / 16) = 2 ^ (16 * (i / 16)) := by rw [show B = 2 ^ 16 from rfl, ← Nat.pow_mul]
 have e2 : 2 ^ i = 2 ^ (16 * (i / 16)) * 2 ^ (i % 16) := by rw [← Nat.pow_add, Nat.div_add_mod]
 rw [e1, e2, ← Nat.div_div_eq_div_mul]
 generalize q / 2 ^ (16 * (i / 16)) = x
 have hc : i % 16 < 16 := Nat.mod_lt _ (by decide)
 generalize i % 16 = c at hc
 have e3 : B = 2 ^ c * 2 ^ (16 - c) := by rw [← Nat.pow_add, show c + (16 - c) = 16 by omega]
 rw [e3, Nat.mod_mul, Nat.add_mul_div_left _ _ (Nat.two_pow_pos c), Nat.div_eq_of_lt (Nat.mod_lt _ (Nat.two_pow_pos c)), Nat.zero_add]
 exact Nat.mod_mod_of_dvd _ ⟨2 ^ (15 - c), by rw [← Nat.pow_succ', show (15 - c).succ = 16 - c by omega]⟩
theorem half_step (q i : Nat) : q / 2 ^ i = q / 2 ^ (i + 1) + q / 2 ^ (i + 1) + q / 2 ^ i % 2 := by
 rw [Nat.pow_succ, ← Nat.div_div_eq_div_mul]
 omega
theorem digs_less {less : Nat} (h : less ≤ 1000) : (digs B P 16).set 0 (65517 - less) = digs B (P - less) 16 := by
 have h0 : (digs B P 16).getD 0 0 = 65517 := by decide +kernel
 have hs := val_set B (digs B P 16) 0 (65517 - less) (by rw [digs_length]; omega)
 rw [h0, val16 (show P < 2 ^ 256 by decide), Nat.pow_zero] at hs
 refine digs_of ((digs_all (by decide) P 16).set (by unfold B; omega)) (by simp [digs_length]) ?_
 have : (65517 : Nat) ≤ P := by decide
 omega
end F5
namespace Go.Proofs.YtcfogpeinjehbaaGreatDoor
open Go Go.Proofs Go.RowKit F5
/-- Four blocks: the number, the result, what the bits are taken of, and what has come of it. -/
def PowAt (w : World) (n : Nat) (z : Array Value) (q : Nat) (o : Array Value) (g : Nat) (wr : World) : Prop :=
 Two3 w (limF n) z (limF q) wr ∧ Blk wr g 54 o ∧ w.heap.size + 2 < g
theorem PowAt.next {w wr w' : World} {n q g : Nat} {z o : Array Value} (h : PowAt w n z q o g wr) (hb : Below wr.heap.size wr w') : PowAt w n z q o g w' := ⟨h.1.next hb, h.2.1.old hb, h.2.2⟩
theorem PowAt.row {w wr : World} {n q g : Nat} {z o : Array Value} (h : PowAt w n z q o g wr) (x : Array Value) : PowAt w n z q x g (wr.setRow g x) :=
 ⟨⟨h.1.1.rowFar (by have := h.2.2; omega) x, h.1.2.1.rowFar (by have := h.2.2; omega) x, h.1.2.2.1.rowFar (by have := h.2.2; omega) x, below_row h.1.2.2.2 (by have := h.2.2; omega) x⟩, h.2.1.row x, h.2.2⟩
theorem limF_ok3 (n : Nat) : (Tryz.prog.info? 54).map (·.size) = some (limF n).size ∧ (limF n).all (·.oneCell') = true := ⟨limF_info _, limF_one _⟩
theorem limF_sz (n m : Nat) : (limF n).size = (limF m).size := by rw [limF_size, limF_size]
set_option maxHeartbeats 16000000 in
set_option maxRecDepth 100000 in
theorem refPower_any (n less down : Nat) (hn : n < P) (hl : less ≤ 1000) (hd : down ≤ 255) (w : World) :
  Calls Tryz.prog 86 #[refV n, .int .u64 (less : Int), .int .i64 (down : Int)] w fun e w' => e = .returned (refV (pw n ((P - less) / 2 ^ down))) ∧ Below w.heap.size w w' := by
 have hal : Tryz.prog.arrayLen 54 = 16 := by kernel_rfl
 have hel : Tryz.prog.elem 54 = 40 := by kernel_rfl
 unfold refV
 have HN := hid hn
 have HL := hid hl
 have HD := hid hd
 obtain ⟨cn, hcn⟩ : ∃ c, Hid (c = limF n) := ⟨_, hid rfl⟩
 rw [← hcn.out]
 obtain ⟨z, hz⟩ : ∃ z, Hid (z = limF 0) := ⟨_, hid rfl⟩
 obtain ⟨q, hq⟩ := named (P - less)
 have hq256 : Hid (q / 2 ^ 256 = 0) := hid (by rw [hq.out]; exact Nat.div_eq_of_lt (Nat.lt_of_le_of_lt (Nat.sub_le _ _) (by decide)))
 obtain ⟨l0, hl0⟩ := named (65517 - less)
 have cl : IntKind.u64.wrap (65517 - (less : Int)) = (l0 : Int) := by rw [IntKind.wrap_u64, hl0.out]; omega
 have of1 := hid (fun W => refOf_any 1 (by decide) W)
 rw [← hq.out]
 clear hn hl hd
 go_enter Tryz.func86, Tryz.ntmps86
 go_upto_region 2 with fail
 rw [limFP, limFZ, ← hz.out]
 have h3 := Two3.new w cn z (limF P)
 generalize ((w.alloc (.cells cn 54)).alloc (.cells z 54)).alloc (.cells (limF P) 54) = W at *
 rw [hcn.out] at h3
 obtain ⟨zp, hzp⟩ : ∃ zp, Hid (zp = limF P) := ⟨_, hid rfl⟩
 rw [← hzp.out]
 have hc0 : W.cell? ⟨w.heap.size + 2, 0, none⟩ = some (.int .u64 65517) := by
  rw [h3.2.2.1.cell, limF, digsP]; rfl
 have hf0 := h3.2.2.1.frozen 0
 have h4 : Two3 w (limF n) z (limF q) (W.setCell ⟨w.heap.size + 2, 0, none⟩ (.int .u64 (l0 : Int))) := by
  refine ⟨h3.1.far (by show w.heap.size ≠ w.heap.size + 2; omega) _, h3.2.1.far (by show w.heap.size + 1 ≠ w.heap.size + 2; omega) _, ?_, h3.2.2.2.setCell (by show w.heap.size ≤ w.heap.size + 2; omega) _⟩
  have := h3.2.2.1.u64set 0 l0
  rw [hl0.out, digs_less HL.out, ← hq.out] at this
  rw [hl0.out]; exact this
 have H4 := hid h4
 clear h3 h4
 go_upto_region 3 with fail
 generalize W.setCell ⟨w.heap.size + 2, 0, none⟩ (.int .u64 (l0 : Int)) = W1 at *
 clear hc0 hf0 cl
 go_upto_block 0 with fail
 refine (of1.out _).mono ?_
 rintro e w2 ⟨rfl, hbb⟩
 unfold refV
 have H5 := hid (H4.out.next hbb)
 clear hbb
 have hsz0 : Hid ((limF 0).size = (limF 1).size) := hid (limF_sz _ _)
 rw [← hz.out] at hsz0
 go_wp2_with (first | (refine wpList_store_row rfl 54 (.tmp 8) (.tmp 18) rfl w2.heap.size (limF 1) rfl rfl 54 (limF 0) (heap_alloc_new w2 _) (limF_info 1) (limF_sz 0 1) (limF_one 1) ?_; rw [setRow_alloc1]))
 have hp1 : PowAt w n z q (limF 1) w2.heap.size (w2.alloc (.cells (limF 1) 54)) := ⟨H5.out.next ((Below.refl _ _).alloc (Nat.le_refl _) _), Blk.new _ _ _, H5.out.2.2.1.lt⟩
 generalize w2.alloc (.cells (limF 1) 54) = W2 at *
 generalize w2.heap.size = g at *
 have HP1 := hid hp1
 clear hp1
 (try simp only [Act.put, zA, zB, zC])
 go_loopg [9] (256 - down) (fun gg iv wr => ∃ j : Nat, iv = .int .i64 ((j : Int) - 1) ∧ gg + down = j ∧ j ≤ 256 ∧ PowAt w n z q (limF (pw n (q / 2 ^ j))) g wr)
 case atStart => exact ⟨256, rfl, by have := HD.out; omega, by omega, by rw [hq256.out, pw_zero]; exact HP1.out⟩
 case round =>
  obtain ⟨j, hiv, hg, hj, hT⟩ := hrel
  clear HP1
  by_cases hlt : down < j
  ·obtain ⟨i, rfl⟩ : ∃ i, j = i + 1 := ⟨j - 1, by omega⟩
   rw [show ((i + 1 : Nat) : Int) - 1 = (i : Int) by omega] at hiv
   subst hiv
   obtain ⟨G, hG⟩ : ∃ G, Hid (gk = G + 1 ∧ G + down = i) := ⟨gk - 1, hid ⟨by omega, by omega⟩⟩
   obtain ⟨e1, he1⟩ := named (q / 2 ^ (i + 1))
   rw [← he1.out] at hT
   have CM : Hid (∀ V, Calls Tryz.prog 53 #[.agg (limF (pw n e1)), .agg (limF (pw n e1))] V fun e w' => e = .returned (.agg (limF (pw n (e1 + e1)))) ∧ Below V.heap.size V w') := hid fun V => by
    have := refMul_any (pw n e1) (pw n e1) (Nat.lt_trans (pw_lt _ _) (by decide)) (Nat.lt_trans (pw_lt _ _) (by decide)) V
    unfold refV at this
    rwa [pw_add] at this
   have CM2 : Hid (∀ V, Calls Tryz.prog 53 #[.agg (limF (pw n (e1 + e1))), .agg cn] V fun e w' => e = .returned (.agg (limF (pw n (e1 + e1 + 1)))) ∧ Below V.heap.size V w') := hid fun V => by
    have := refMul_any (pw n (e1 + e1)) n (Nat.lt_trans (pw_lt _ _) (by decide)) (Nat.lt_trans HN.out (by decide)) V
    unfold refV at this
    rw [pw_next HN.out] at this
    rw [hcn.out]; exact this
   have hhalf := half_step q i
   rw [← he1.out] at hhalf
   have hcb0 : Hid (q / 2 ^ i % 2 = 0 → limF (pw n (e1 + e1)) = limF (pw n (q / 2 ^ i))) := hid fun h => by rw [hhalf, h, Nat.add_zero]
   have hcd0 : Hid (q / 2 ^ i % 2 = 1 → limF (pw n (e1 + e1 + 1)) = limF (pw n (q / 2 ^ i))) := hid fun h => by rw [hhalf, h]
   have oka := hid (limF_ok3 (pw n e1))
   have okb := hid (limF_ok3 (pw n (e1 + e1)))
   have okd := hid (limF_ok3 (pw n (e1 + e1 + 1)))
   have okn : Hid ((Tryz.prog.info? 54).map (·.size) = some cn.size) := by rw [hcn.out]; exact hid (limF_info n)
   have szab := hid (limF_sz (pw n e1) (pw n (e1 + e1)))
   have szbd := hid (limF_sz (pw n (e1 + e1)) (pw n (e1 + e1 + 1)))
   clear hhalf
   generalize limF (pw n e1) = ca at *
   generalize limF (pw n (e1 + e1)) = cb at *
   generalize limF (pw n (e1 + e1 + 1)) = cd at *
   have HT := hid hT
   clear hT
   have hil : i < 256 := by omega
   have hdi : (down : Int) ≤ (i : Int) := by omega
   obtain ⟨d, hd⟩ := named (i / 16)
   obtain ⟨r, hr⟩ := named (i % 16)
   have hd16 : d < 16 := by rw [hd.out]; omega
   have d1 : (i : Int) / 16 = (d : Int) := by rw [hd.out]; omega
   have d2 : (i : Int).tdiv 16 = (d : Int) := by rw [Int.tdiv_eq_ediv_of_nonneg (by omega)]; omega
   have d3 : (i : Int) % 16 = (r : Int) := by rw [hr.out]; omega
   have d4 : (i : Int).tmod 16 = (r : Int) := by rw [Int.tmod_eq_emod_of_nonneg (by omega)]; omega
   have dw : IntKind.i64.wrap (d : Int) = (d : Int) := IntWalk.i64_in _ (by omega)
   have iw : IntKind.i64.wrap ((i : Int) - 1) = (i : Int) - 1 := IntWalk.i64_in _ (by omega)
   have HG2 := hid (show i + 1 ≤ 256 from hj)
   clear hj hg hlt
   go_wp2_with (first | (refine wpList_load_row rfl 54 (.tmp 8) rfl g rfl 54 ca (0, 0) _ HT.out.2.1 Tryz.underlying54 rfl oka.out.1 ?_))
   refine (CM.out _).mono ?_
   rintro e w3 ⟨rfl, hb1⟩
   have HT1 := hid (HT.out.next hb1)
   clear hb1
   have ht2 := HT1.out.row cb
   go_upto_region 8 with (first | (refine wpList_store_row rfl 54 (.tmp 8) (.tmp 26) rfl g cb rfl rfl 54 ca HT1.out.2.1 okb.out.1 szab.out okb.out.2 ?_))
   generalize w3.setRow g cb = W3 at *
   have hx : W3.cell? ⟨w.heap.size + 2, d, none⟩ = some (.int .u64 (((digs B q 16).getD d 0 : Nat) : Int)) := ht2.1.2.2.1.u64 d (by rw [digs_length]; exact hd16)
   rw [digs_at hd16] at hx
   obtain ⟨x, hxx⟩ := named (q / B ^ d % B)
   rw [← hxx.out] at hx
   have hxB : x < 65536 := by rw [hxx.out]; exact Nat.mod_lt _ (by decide)
   have HB3 : Hid (x / 2 ^ r % 2 = q / 2 ^ i % 2) := hid (by rw [hxx.out, hr.out, hd.out]; exact bit_of q i)
   have HT2 := hid ht2
   clear ht2 HT1
   go_wp2_with fail
   clear hx
   (try simp only [Act.put, zA, zB, zC])
   go_loopg [10, 11] r (fun gg bv kv w1 => ∃ k y : Nat, bv = .int .u64 (y : Int) ∧ kv = .int .i64 (k : Int) ∧ gg + k = r ∧ y = x / 2 ^ k ∧ PowAt w n z q cb g w1)
   case atStart => exact ⟨0, x, rfl, rfl, rfl, by simp, HT2.out⟩
   case round =>
    obtain ⟨k, y, rfl, rfl, hgk, hy, hT1⟩ := hrel
    clear HT2
    have HT1 := hid hT1
    have HY := hid hy
    clear hT1
    have hyl : y < 65536 := by rw [hy]; exact Nat.lt_of_le_of_lt (Nat.div_le_self _ _) hxB
    clear hy
    by_cases hk : k < r
    ·obtain ⟨y2, hy2⟩ := named (y / 2)
     have e1' : (y : Int) / 2 = (y2 : Int) := by rw [hy2.out]; omega
     have e2' : (y : Int).tdiv 2 = (y2 : Int) := by rw [Int.tdiv_eq_ediv_of_nonneg (by omega)]; omega
     have e3' : IntKind.u64.wrap (y2 : Int) = (y2 : Int) := by rw [IntKind.wrap_u64, hy2.out]; omega
     go_wp2
     go_roundg (gk - 1)
     case measure => omega
     case rel => exact ⟨k + 1, y2, rfl, by go_num, by omega, by rw [hy2.out, HY.out, Nat.pow_succ, Nat.div_div_eq_div_mul], HT1.out⟩
    ·obtain rfl : k = r := by omega
     obtain ⟨b, hb⟩ := named (y % 2)
     have e1' : (y : Int) % 2 = (b : Int) := by rw [hb.out]; omega
     have e2' : (y : Int).tmod 2 = (b : Int) := by rw [Int.tmod_eq_emod_of_nonneg (by omega)]; omega
     have e3' : IntKind.u64.wrap (b : Int) = (b : Int) := by rw [IntKind.wrap_u64, hb.out]; omega
     have hbit : Hid (q / 2 ^ i % 2 = b) := hid (by rw [hb.out, HY.out, HB3.out])
     have hb01 : b = 0 ∨ b = 1 := by rw [hb.out]; omega
     clear HB3
     rcases hb01 with hb0 | hb0
     ·have E := hid (hcb0.out (by rw [hbit.out]; exact hb0))
      clear hbit hb
      subst hb0
      go_wp2_with fail
      go_roundg G
      case measure => have := hG.out; omega
      case rel => exact ⟨i, rfl, hG.out.2, by omega, by rw [← E.out]; exact HT1.out⟩
     ·have E := hid (hcd0.out (by rw [hbit.out]; exact hb0))
      clear hbit hb
      subst hb0
      have hnb : Hid (Blk wr w.heap.size 54 cn) := by rw [hcn.out]; exact hid HT1.out.1.1
      go_wp2_with (first | (refine wpList_load_row rfl 54 (.tmp 8) rfl g rfl 54 cb (0, 0) _ HT1.out.2.1 Tryz.underlying54 rfl okb.out.1 ?_) |
       (refine wpList_load_row rfl 54 (.tmp 3) rfl w.heap.size rfl 54 cn (0, 0) _ hnb.out Tryz.underlying54 rfl okn.out ?_))
      refine (CM2.out _).mono ?_
      rintro e w4 ⟨rfl, hb1⟩
      have HT3 := hid (HT1.out.next hb1)
      clear hb1
      have HT4 := hid (HT3.out.row cd)
      go_wp2_with (first | (refine wpList_store_row rfl 54 (.tmp 8) (.tmp 44) rfl g cd rfl rfl 54 cb HT3.out.2.1 okd.out.1 szbd.out okd.out.2 ?_))
      go_roundg G
      case measure => have := hG.out; omega
      case rel => exact ⟨i, rfl, hG.out.2, by omega, by rw [← E.out]; exact HT4.out⟩
  ·obtain rfl : down = j := by omega
   obtain ⟨m, hm⟩ : ∃ m : Int, Hid (m = (down : Int) - 1) := ⟨_, hid rfl⟩
   rw [← hm.out] at hiv
   have hml : m < (down : Int) := by rw [hm.out]; omega
   subst hiv
   obtain ⟨R, hR⟩ : ∃ R, Hid (R = limF (pw n (q / 2 ^ down))) := ⟨_, hid rfl⟩
   have okR := hid (limF_ok3 (pw n (q / 2 ^ down)))
   have szR : Hid (z.size = (limF (pw n (q / 2 ^ down))).size) := hid (by rw [hz.out, limF_size, limF_size])
   rw [← hR.out] at hT okR szR
   have HT := hid hT
   clear hT hg hj hlt
   go_wp2_with (first | (refine wpList_load_row rfl 54 (.tmp 8) rfl g rfl 54 R (0, 0) _ HT.out.2.1 Tryz.underlying54 rfl okR.out.1 ?_) |
    (refine wpList_store_row rfl 54 (.tmp 6) (.tmp 45) rfl (w.heap.size + 1) R rfl rfl 54 z HT.out.1.2.1 okR.out.1 szR.out okR.out.2 ?_))
   refine bodyPost_ret (v := .agg R) ?_ rfl ⟨by rw [hR.out], below_row HT.out.1.2.2.2 (by omega) _⟩
   exact results_cell_row Tryz.results86 _ _ (w.heap.size + 1) 54 R (0, 0) _ rfl ((HT.out.1.2.1).row R) Tryz.underlying54 rfl okR.out.1
end Go.Proofs.YtcfogpeinjehbaaGreatDoor
end

section
namespace Go.Proofs.YtcfogpeinjehbaaGreatDoor
open Go Go.Proofs Go.RowKit F5
def TwoF (w : World) (a b : Array Value) (wr : World) : Prop := Blk wr w.heap.size 54 a ∧ Blk wr (w.heap.size + 1) 54 b ∧ Below w.heap.size w wr
theorem TwoF.new (w : World) (a b : Array Value) : TwoF w a b ((w.alloc (.cells a 54)).alloc (.cells b 54)) := by
 refine ⟨(Blk.new w 54 a).alloc _, ?_, ((Below.refl _ _).alloc (Nat.le_refl _) _).alloc (by simp) _⟩
 have := Blk.new (w.alloc (.cells a 54)) 54 b
 rwa [show (w.alloc (.cells a 54)).heap.size = w.heap.size + 1 by simp] at this
theorem TwoF.next {w wr w' : World} {a b : Array Value} (h : TwoF w a b wr) (hb : Below wr.heap.size wr w') : TwoF w a b w' := ⟨h.1.old hb, h.2.1.old hb, h.2.2.trans (hb.mono h.2.2.size)⟩
theorem TwoF.snd {w wr : World} {a b : Array Value} (h : TwoF w a b wr) (c : Array Value) : TwoF w a c (wr.setRow (w.heap.size + 1) c) := ⟨h.1.rowFar (by omega) c, h.2.1.row c, below_row h.2.2 (by omega) c⟩
theorem TwoF.far {w wr : World} {a b : Array Value} (h : TwoF w a b wr) {g : Nat} (hg : w.heap.size + 1 < g) (c : Array Value) : TwoF w a b (wr.setRow g c) := ⟨h.1.rowFar (by omega) c, h.2.1.rowFar (by omega) c, below_row h.2.2 (by omega) c⟩
theorem TwoF.lt {w wr : World} {a b : Array Value} (h : TwoF w a b wr) : w.heap.size + 1 < wr.heap.size := h.2.1.lt
def ThreeF (w : World) (a b c : Array Value) (g : Nat) (wr : World) : Prop := TwoF w a b wr ∧ Blk wr g 54 c ∧ w.heap.size + 1 < g
theorem ThreeF.next {w wr w' : World} {a b c : Array Value} {g : Nat} (h : ThreeF w a b c g wr) (hb : Below wr.heap.size wr w') : ThreeF w a b c g w' := ⟨h.1.next hb, h.2.1.old hb, h.2.2⟩
theorem ThreeF.third {w wr : World} {a b c : Array Value} {g : Nat} (h : ThreeF w a b c g wr) (d : Array Value) : ThreeF w a b d g (wr.setRow g d) := ⟨h.1.far h.2.2 d, h.2.1.row d, h.2.2⟩
theorem quiet_neq_F {o : Oper} {ev : Operand → Value} (w : World) (x y : Operand) (k : TypeId) (l l' : List Nat) (hl : l.length = 16) (hl' : l'.length = 16) (hx : ev x = .agg (u64s l)) (hy : ev y = .agg (u64s l'))
  (ho : o.op = .binOp .neq 54 x y k) : (execOp ev o).run Tryz.prog w = .ok (.value (.bool (!decide (l = l')))) w := by
 have hg : (eqGuard .neq 54 x y (.agg (u64s l)) (.agg (u64s l'))).run Tryz.prog w = .ok () w := run_eqGuard_agg w .neq _ x y _ _ (by kernel_rfl)
 unfold execOp
 simp only [ho, hx, hy, Sem.run_bind, hg, Result.andThen_ok, run_neq_u64s (i := default) Tryz.underlying54 l l' hl hl' w, Sem.run_pure]
theorem limF0_ok (n : Nat) : (Tryz.prog.info? 54).map (·.size) = some (limF n).size ∧ (limF n).all (·.oneCell') = true ∧ Array.size (limF 0) = (limF n).size := ⟨limF_info _, limF_one _, by rw [limF_size, limF_size]⟩
theorem refPower_of (n less down e : Nat) (li di : Int) (hli : li = (less : Int)) (hdi : di = (down : Int)) (hn : n < P) (hl : less ≤ 1000) (hd : down ≤ 255) (he : (P - less) / 2 ^ down = e) (w : World) :
  Calls Tryz.prog 86 #[.agg (limF n), .int .u64 li, .int .i64 di] w fun e' w' => e' = .returned (.agg (limF (pw n e))) ∧ Below w.heap.size w w' := by
 subst hli hdi he
 exact refPower_any n less down hn hl hd w
theorem refMul_of (n m r : Nat) (hn : n < P) (hm : m < P) (hr : n * m % P = r) (w : World) :
  Calls Tryz.prog 53 #[.agg (limF n), .agg (limF m)] w fun e w' => e = .returned (.agg (limF r)) ∧ Below w.heap.size w w' := by
 subst hr
 exact refMul_any n m (Nat.lt_trans hn (by decide)) (Nat.lt_trans hm (by decide)) w
theorem root_exp2 : (P - 5) / 2 ^ 3 + 1 = E8 := by decide +kernel
theorem I4_exp : (P - 1) / 2 ^ 2 = (P - 1) / 4 := rfl
theorem odd_neg2 {r : Nat} (h : r < P) (ho : r % 2 = 1) : (P - r) % P = P - r := Nat.mod_eq_of_lt (by have := P_pos; omega)
set_option maxHeartbeats 4000000 in
set_option maxRecDepth 100000 in
theorem refInv_any (n : Nat) (w : World) (hn : n < P) :
  Calls Tryz.prog 54 #[refV n] w fun e w' => e = .returned (refV (pw n (P - 2))) ∧ Below w.heap.size w w' := by
 unfold refV
 have C1 : Hid (∀ V, Calls Tryz.prog 86 #[.agg (limF n), .int .u64 2, .int .i64 0] V fun e w' => e = .returned (.agg (limF (pw n (P - 2)))) ∧ Below V.heap.size V w') := hid fun V =>
  refPower_of n 2 0 (P - 2) 2 0 rfl rfl hn (by omega) (by omega) (by rw [Nat.pow_zero, Nat.div_one]) V
 obtain ⟨z, hz⟩ : ∃ z, Hid (z = limF 0) := ⟨_, hid rfl⟩
 have hz0 : ∀ W, (zeroValue 54).run Tryz.prog W = .ok (.agg z) W := by
  rw [hz.out, ← zero16]; exact (zero_of_info (n := 16) (by kernel_rfl)).1
 have o0 := hid (limF0_ok n)
 have oR := hid (limF0_ok (pw n (P - 2)))
 rw [← hz.out] at o0 oR
 generalize limF (pw n (P - 2)) = R at *
 generalize limF n = x at *
 have H2 := hid (TwoF.new w x z)
 clear hn
 go_enter Tryz.func54, Tryz.ntmps54
 go_wp2_with (first | (refine wpList_load_row rfl 54 (.tmp 1) rfl w.heap.size rfl 54 x (0, 0) _ H2.out.1 Tryz.underlying54 rfl o0.out.1 ?_))
 refine (C1.out _).mono ?_
 rintro e w1 ⟨rfl, hb⟩
 have H3 := hid (H2.out.next hb)
 have H4 := hid (H3.out.snd R)
 clear hb
 go_wp2_with (first | (refine wpList_store_row rfl 54 (.tmp 2) (.tmp 4) rfl (w.heap.size + 1) R rfl rfl 54 z H3.out.2.1 oR.out.1 oR.out.2.2 oR.out.2.1 ?_))
 refine bodyPost_ret (v := .agg R) ?_ rfl ⟨rfl, H4.out.2.2⟩
 exact results_cell_row Tryz.results54 _ _ (w.heap.size + 1) 54 R (0, 0) _ rfl H4.out.2.1 Tryz.underlying54 rfl oR.out.1
set_option maxHeartbeats 8000000 in
set_option maxRecDepth 100000 in
theorem refRoot_any (n : Nat) (w : World) (hn : n < P) :
  Calls Tryz.prog 89 #[refV n] w fun e w' => e = .returned (.tuple #[refV (root n), .bool (decide (hasRoot n))]) ∧ Below w.heap.size w w' := by
 have hal : Tryz.prog.arrayLen 54 = 16 := by kernel_rfl
 have hel : Tryz.prog.elem 54 = 40 := by kernel_rfl
 unfold refV
 have HN := hid hn
 obtain ⟨q, hq⟩ := named ((P - 5) / 2 ^ 3)
 have C1 : Hid (∀ V, Calls Tryz.prog 86 #[.agg (limF n), .int .u64 5, .int .i64 3] V fun e w' => e = .returned (.agg (limF (pw n q))) ∧ Below V.heap.size V w') := hid fun V =>
  refPower_of n 5 3 q 5 3 rfl rfl HN.out (by omega) (by omega) hq.out.symm V
 have C2 : Hid (∀ V, Calls Tryz.prog 53 #[.agg (limF (pw n q)), .agg (limF n)] V fun e w' => e = .returned (.agg (limF (pw n E8))) ∧ Below V.heap.size V w') := hid fun V =>
  refMul_of (pw n q) n (pw n E8) (pw_lt _ _) HN.out (by rw [pw_next HN.out, hq.out, root_exp2]) V
 have hrl : pw n E8 < P := pw_lt _ _
 have hroot1 : root1 n = if pw n E8 * pw n E8 % P = n then pw n E8 else pw n E8 * I4 % P := rfl
 generalize pw n E8 = r at *
 have HR1 := hid hroot1
 have hr1l := root1_lt n
 have hroot : Hid (root n = if hasRoot n then (if root1 n % 2 = 1 then P - root1 n else root1 n) else 0) := hid rfl
 have hhas : Hid (hasRoot n ↔ root1 n * root1 n % P = n) := hid Iff.rfl
 obtain ⟨s1, hs1⟩ := named (r * r % P)
 have C3 : Hid (∀ V, Calls Tryz.prog 53 #[.agg (limF r), .agg (limF r)] V fun e w' => e = .returned (.agg (limF s1)) ∧ Below V.heap.size V w') := hid fun V => refMul_of r r s1 hrl hrl hs1.out.symm V
 have C4a : Hid (∀ V, Calls Tryz.prog 52 #[.int .u64 2] V fun e w' => e = .returned (.agg (limF 2)) ∧ Below V.heap.size V w') := hid fun V => refOf_any 2 (by decide) V
 have C4b : Hid (∀ V, Calls Tryz.prog 86 #[.agg (limF 2), .int .u64 1, .int .i64 2] V fun e w' => e = .returned (.agg (limF I4)) ∧ Below V.heap.size V w') := hid fun V => by
  have := refPower_of 2 1 2 ((P - 1) / 4) 1 2 rfl rfl (by decide) (by omega) (by omega) I4_exp V
  rwa [I4_pow] at this
 have C5 : Hid (∀ V, Calls Tryz.prog 53 #[.agg (limF r), .agg (limF I4)] V fun e w' => e = .returned (.agg (limF (r * I4 % P))) ∧ Below V.heap.size V w') := hid fun V => refMul_of r I4 _ hrl I4_lt rfl V
 obtain ⟨s2, hs2⟩ := named (root1 n * root1 n % P)
 have C6 : Hid (∀ V, Calls Tryz.prog 53 #[.agg (limF (root1 n)), .agg (limF (root1 n))] V fun e w' => e = .returned (.agg (limF s2)) ∧ Below V.heap.size V w') := hid fun V => refMul_of _ _ s2 hr1l hr1l hs2.out.symm V
 have C9 : Hid (∀ V, Calls Tryz.prog 69 #[.agg (limF (root1 n))] V fun e w' => e = .returned (.agg (limF ((P - root1 n) % P))) ∧ Below V.heap.size V w') := hid fun V => refNeg_any (root1 n) hr1l V
 have hs1l : s1 < P := by rw [hs1.out]; exact Nat.mod_lt _ P_pos
 have hs2l : s2 < P := by rw [hs2.out]; exact Nat.mod_lt _ P_pos
 obtain ⟨b1, hb1⟩ : ∃ b, Hid (b = !decide (s1 = n)) := ⟨_, hid rfl⟩
 obtain ⟨b2, hb2⟩ : ∃ b, Hid (b = !decide (s2 = n)) := ⟨_, hid rfl⟩
 have hd1 : Hid ((!decide (digs B s1 16 = digs B n 16)) = b1) := by
  rw [hb1.out]
  have := digs_eq (Nat.lt_trans hs1l (show P < 2 ^ 256 by decide)) (Nat.lt_trans hn (show P < 2 ^ 256 by decide))
  exact hid (by simp only [this])
 have hd2 : Hid ((!decide (digs B s2 16 = digs B n 16)) = b2) := by
  rw [hb2.out]
  have := digs_eq (Nat.lt_trans hs2l (show P < 2 ^ 256 by decide)) (Nat.lt_trans hn (show P < 2 ^ 256 by decide))
  exact hid (by simp only [this])
 obtain ⟨z, hz⟩ : ∃ z, Hid (z = limF 0) := ⟨_, hid rfl⟩
 have hz0 : ∀ W, (zeroValue 54).run Tryz.prog W = .ok (.agg z) W := by
  rw [hz.out, ← zero16]; exact (zero_of_info (n := 16) (by kernel_rfl)).1
 have o0 := hid (limF0_ok n)
 have or := hid (limF0_ok r)
 have oI := hid (limF0_ok (r * I4 % P))
 have o1 := hid (limF0_ok (root1 n))
 have oN := hid (limF0_ok ((P - root1 n) % P))
 have oz := hid (limF0_ok 0)
 have hsz : Hid ((limF r).size = (limF (r * I4 % P)).size ∧ (limF (root1 n)).size = (limF ((P - root1 n) % P)).size) := hid ⟨limF_sz _ _, limF_sz _ _⟩
 rw [← hz.out] at o0 or oI o1 oN oz
 obtain ⟨x, hx⟩ : ∃ c, Hid (c = limF n) := ⟨_, hid rfl⟩
 obtain ⟨cr, hcr⟩ : ∃ c, Hid (c = limF r) := ⟨_, hid rfl⟩
 obtain ⟨cI, hcI⟩ : ∃ c, Hid (c = limF (r * I4 % P)) := ⟨_, hid rfl⟩
 obtain ⟨c1, hc1⟩ : ∃ c, Hid (c = limF (root1 n)) := ⟨_, hid rfl⟩
 obtain ⟨cN, hcN⟩ : ∃ c, Hid (c = limF ((P - root1 n) % P)) := ⟨_, hid rfl⟩
 rw [← hx.out] at C1 C2 o0 ⊢
 rw [← hcr.out] at C2 C3 C5 or hsz
 rw [← hcI.out] at C5 oI hsz
 rw [← hc1.out] at C6 C9 o1 hsz
 rw [← hcN.out] at C9 oN hsz
 have h2 := TwoF.new w x z
 have HRl := hid hrl
 have HR1l := hid hr1l
 clear hn hroot1 hrl hr1l hs1l hs2l
 go_enter Tryz.func89, Tryz.ntmps89
 go_upto_region 1 with fail
 generalize (w.alloc (.cells x 54)).alloc (.cells z 54) = W at *
 have H2 := hid h2
 clear h2
 (try simp only [Act.put, zA, zB, zC])
 go_cut [4] (fun p4 wx => ∃ g4, p4 = .pointer (some ⟨g4, 0, none⟩) ∧ ThreeF w x z cr g4 wx)
 case first =>
  refine wp_region_held_drew (S := fun V => Below W.heap.size W V) (by kernel_rfl) ((Below.refl _ _).drew) (fun hHeld => ?_)
  have HBW := hid ((Below.refl W.heap.size W).drew)
  generalize W.drew = VW at *
  refine' wpAnyH_take (i := 0) (oi := _) (v := .agg x) ?hit1 ?hst1 ?hft1 ?hrt1 ?hQt1 ?hyt1 ?hSt1 ?_
  case hit1 => (simp only [zD, zE, zF]; rfl)
  case hst1 | hft1 | hrt1 => kernel_rfl
  case hQt1 => exact fun _ _ _ h => h
  case hSt1 => assumption
  case hyt1 =>
   refine Or.inl ⟨by rfl, ?_⟩
   intro W hS
   exact quiet_load_row 54 (.tmp 1) _ rfl 54 x _ (H2.out.1.old hS) Tryz.underlying54 rfl o0.out.1 rfl
  (try simp only [Act.put, zA, zB, zC])
  refine' wpAnyH_take (i := 2) (oi := _) (v := .agg x) ?hit2 ?hst2 ?hft2 ?hrt2 ?hQt2 ?hyt2 ?hSt2 ?_
  case hit2 => (simp only [zD, zE, zF]; rfl)
  case hst2 | hft2 | hrt2 => kernel_rfl
  case hQt2 => exact fun _ _ _ h => h
  case hSt2 => assumption
  case hyt2 =>
   refine Or.inl ⟨by rfl, ?_⟩
   intro W hS
   exact quiet_load_row 54 (.tmp 1) _ rfl 54 x _ (H2.out.1.old hS) Tryz.underlying54 rfl o0.out.1 rfl
  (try simp only [Act.put, zA, zB, zC])
  refine wpAnyH_ready (rs := [1, 4]) (by kernel_rfl) (by simp) ?_
  refine' (AllReadyH.cons (o := _) ?hir3_1 (fun K hK => ?br3_1) (AllReadyH.cons (o := _) ?hir3_4 (fun K hK => ?br3_4) AllReadyH.nil))
  case hir3_1 => (simp only [zD, zE, zF]; rfl)
  case hir3_4 => (simp only [zD, zE, zF]; rfl)
  case br3_1 =>
   go_simp
   refine (C1.out _).mono ?_
   rintro e w4 ⟨rfl, hb4⟩
   have H4 := hid (HBW.out.trans (hb4.mono HBW.out.size))
   clear hb4
   go_wp2_with fail
   refine hK.out _ _ ?_ (fun hHeld => ?_)
   exact H4.out
   clear hK K
   (try simp only [Act.put, zA, zB, zC])
   refine wpAnyH_ready (rs := [3, 4]) (by kernel_rfl) (by simp) ?_
   refine' (AllReadyH.cons (o := _) ?hir5_3 (fun K hK => ?br5_3) (AllReadyH.cons (o := _) ?hir5_4 (fun K hK => ?br5_4) AllReadyH.nil))
   case hir5_3 => (simp only [zD, zE, zF]; rfl)
   case hir5_4 => (simp only [zD, zE, zF]; rfl)
   case br5_3 =>
    go_simp
    refine (C2.out _).mono ?_
    rintro e w6 ⟨rfl, hb6⟩
    have H6 := hid (H4.out.trans (hb6.mono H4.out.size))
    clear hb6
    go_wp2_with fail
    refine hK.out _ _ ?_ (fun hHeld => ?_)
    exact H6.out
    clear hK K
    (try simp only [Act.put, zA, zB, zC])
    refine wpAnyH_ready (rs := [4]) (by kernel_rfl) (by simp) ?_
    refine' (AllReadyH.cons (o := _) ?hir7_4 (fun K hK => ?br7_4) AllReadyH.nil)
    case hir7_4 => (simp only [zD, zE, zF]; rfl)
    case br7_4 =>
     go_simp
     refine hK.out _ _ ?_ (fun hHeld => ?_)
     ·exact (H6.out.alloc H6.out.size _)
     have H8 := hid (H6.out.alloc H6.out.size (.cells z 54))
     have N4_8 := hid (alloc_new H6.out 54 z)
     have G4_8 := hid H6.out.size
     clear hK K
     (try simp only [Act.put, zA, zB, zC])
     refine wpAnyH_ready (rs := [5]) (by kernel_rfl) (by simp) ?_
     refine' (AllReadyH.cons (o := _) ?hir9_5 (fun K hK => ?br9_5) AllReadyH.nil)
     case hir9_5 => (simp only [zD, zE, zF]; rfl)
     case br9_5 =>
      refine step_of_wp rfl ?_
      refine wp_store_row 54 (.tmp 4) (.tmp 8) rfl _ cr rfl rfl 54 _ N4_8.out or.out.1 or.out.2.2 or.out.2.1 ?_
      refine hK.out _ _ ?_ (fun hHeld => ?_)
      exact below_row H8.out G4_8.out _
      clear hK K
      (try simp only [Act.put, zA, zB, zC])
      refine wpAnyH_done (by kernel_rfl) ?_ _
      go_wp2_with fail
      go_meet
      exact ⟨_, rfl, (H2.out.next H8.out).far (by have := H2.out.lt; have := G4_8.out; omega) _, N4_8.out.row _, by have := H2.out.lt; have := G4_8.out; omega⟩
   case br5_4 =>
    go_simp
    refine hK.out _ _ ?_ (fun hHeld => ?_)
    ·exact (H4.out.alloc H4.out.size _)
    have H11 := hid (H4.out.alloc H4.out.size (.cells z 54))
    have N4_11 := hid (alloc_new H4.out 54 z)
    have G4_11 := hid H4.out.size
    clear hK K
    (try simp only [Act.put, zA, zB, zC])
    refine wpAnyH_ready (rs := [3]) (by kernel_rfl) (by simp) ?_
    refine' (AllReadyH.cons (o := _) ?hir12_3 (fun K hK => ?br12_3) AllReadyH.nil)
    case hir12_3 => (simp only [zD, zE, zF]; rfl)
    case br12_3 =>
     go_simp
     refine (C2.out _).mono ?_
     rintro e w13 ⟨rfl, hb13⟩
     have H13 := hid (H11.out.trans (hb13.mono H11.out.size))
     have N4_13 := hid (N4_11.out.old hb13)
     clear hb13
     go_wp2_with fail
     refine hK.out _ _ ?_ (fun hHeld => ?_)
     exact H13.out
     clear hK K
     (try simp only [Act.put, zA, zB, zC])
     refine wpAnyH_ready (rs := [5]) (by kernel_rfl) (by simp) ?_
     refine' (AllReadyH.cons (o := _) ?hir14_5 (fun K hK => ?br14_5) AllReadyH.nil)
     case hir14_5 => (simp only [zD, zE, zF]; rfl)
     case br14_5 =>
      refine step_of_wp rfl ?_
      refine wp_store_row 54 (.tmp 4) (.tmp 8) rfl _ cr rfl rfl 54 _ N4_13.out or.out.1 or.out.2.2 or.out.2.1 ?_
      refine hK.out _ _ ?_ (fun hHeld => ?_)
      exact below_row H13.out G4_11.out _
      clear hK K
      (try simp only [Act.put, zA, zB, zC])
      refine wpAnyH_done (by kernel_rfl) ?_ _
      go_wp2_with fail
      go_meet
      exact ⟨_, rfl, (H2.out.next H13.out).far (by have := H2.out.lt; have := G4_11.out; omega) _, N4_13.out.row _, by have := H2.out.lt; have := G4_11.out; omega⟩
  case br3_4 =>
   go_simp
   refine hK.out _ _ ?_ (fun hHeld => ?_)
   ·exact (HBW.out.alloc HBW.out.size _)
   have H16 := hid (HBW.out.alloc HBW.out.size (.cells z 54))
   have N4_16 := hid (alloc_new HBW.out 54 z)
   have G4_16 := hid HBW.out.size
   clear hK K
   (try simp only [Act.put, zA, zB, zC])
   refine wpAnyH_ready (rs := [1]) (by kernel_rfl) (by simp) ?_
   refine' (AllReadyH.cons (o := _) ?hir17_1 (fun K hK => ?br17_1) AllReadyH.nil)
   case hir17_1 => (simp only [zD, zE, zF]; rfl)
   case br17_1 =>
    go_simp
    refine (C1.out _).mono ?_
    rintro e w18 ⟨rfl, hb18⟩
    have H18 := hid (H16.out.trans (hb18.mono H16.out.size))
    have N4_18 := hid (N4_16.out.old hb18)
    clear hb18
    go_wp2_with fail
    refine hK.out _ _ ?_ (fun hHeld => ?_)
    exact H18.out
    clear hK K
    (try simp only [Act.put, zA, zB, zC])
    refine wpAnyH_ready (rs := [3]) (by kernel_rfl) (by simp) ?_
    refine' (AllReadyH.cons (o := _) ?hir19_3 (fun K hK => ?br19_3) AllReadyH.nil)
    case hir19_3 => (simp only [zD, zE, zF]; rfl)
    case br19_3 =>
     go_simp
     refine (C2.out _).mono ?_
     rintro e w20 ⟨rfl, hb20⟩
     have H20 := hid (H18.out.trans (hb20.mono H18.out.size))
     have N4_20 := hid (N4_18.out.old hb20)
     clear hb20
     go_wp2_with fail
     refine hK.out _ _ ?_ (fun hHeld => ?_)
     exact H20.out
     clear hK K
     (try simp only [Act.put, zA, zB, zC])
     refine wpAnyH_ready (rs := [5]) (by kernel_rfl) (by simp) ?_
     refine' (AllReadyH.cons (o := _) ?hir21_5 (fun K hK => ?br21_5) AllReadyH.nil)
     case hir21_5 => (simp only [zD, zE, zF]; rfl)
     case br21_5 =>
      refine step_of_wp rfl ?_
      refine wp_store_row 54 (.tmp 4) (.tmp 8) rfl _ cr rfl rfl 54 _ N4_20.out or.out.1 or.out.2.2 or.out.2.1 ?_
      refine hK.out _ _ ?_ (fun hHeld => ?_)
      exact below_row H20.out G4_16.out _
      clear hK K
      (try simp only [Act.put, zA, zB, zC])
      refine wpAnyH_done (by kernel_rfl) ?_ _
      go_wp2_with fail
      go_meet
      exact ⟨_, rfl, (H2.out.next H20.out).far (by have := H2.out.lt; have := G4_16.out; omega) _, N4_20.out.row _, by have := H2.out.lt; have := G4_16.out; omega⟩
 case rest =>
  obtain ⟨g4, rfl, h3⟩ := hcut
  have H3 := hid h3
  clear h3 hz0
  go_upto_region 2 with fail
  (try simp only [Act.put, zA, zB, zC])
  generalize wc = W1 at *
  refine wp_region_held_drew (S := fun V => Below W1.heap.size W1 V) (by kernel_rfl) ((Below.refl _ _).drew) (fun hHeld => ?_)
  have HBW1 := hid ((Below.refl W1.heap.size W1).drew)
  generalize W1.drew = VW1 at *
  refine' wpAnyH_take (i := 0) (oi := _) (v := .agg cr) ?hit23 ?hst23 ?hft23 ?hrt23 ?hQt23 ?hyt23 ?hSt23 ?_
  case hit23 => (simp only [zD, zE, zF]; rfl)
  case hst23 | hft23 | hrt23 => kernel_rfl
  case hQt23 => exact fun _ _ _ h => h
  case hSt23 => assumption
  case hyt23 =>
   refine Or.inl ⟨by rfl, ?_⟩
   intro W hS
   exact quiet_load_row 54 (.tmp 4) _ rfl 54 cr _ (H3.out.2.1.old hS) Tryz.underlying54 rfl or.out.1 rfl
  (try simp only [Act.put, zA, zB, zC])
  refine' wpAnyH_take (i := 1) (oi := _) (v := .agg cr) ?hit24 ?hst24 ?hft24 ?hrt24 ?hQt24 ?hyt24 ?hSt24 ?_
  case hit24 => (simp only [zD, zE, zF]; rfl)
  case hst24 | hft24 | hrt24 => kernel_rfl
  case hQt24 => exact fun _ _ _ h => h
  case hSt24 => assumption
  case hyt24 =>
   refine Or.inl ⟨by rfl, ?_⟩
   intro W hS
   exact quiet_load_row 54 (.tmp 4) _ rfl 54 cr _ (H3.out.2.1.old hS) Tryz.underlying54 rfl or.out.1 rfl
  (try simp only [Act.put, zA, zB, zC])
  refine' wpAnyH_take (i := 3) (oi := _) (v := .agg x) ?hit25 ?hst25 ?hft25 ?hrt25 ?hQt25 ?hyt25 ?hSt25 ?_
  case hit25 => (simp only [zD, zE, zF]; rfl)
  case hst25 | hft25 | hrt25 => kernel_rfl
  case hQt25 => exact fun _ _ _ h => h
  case hSt25 => assumption
  case hyt25 =>
   refine Or.inl ⟨by rfl, ?_⟩
   intro W hS
   exact quiet_load_row 54 (.tmp 1) _ rfl 54 x _ (H3.out.1.1.old hS) Tryz.underlying54 rfl o0.out.1 rfl
  (try simp only [Act.put, zA, zB, zC])
  refine wpAnyH_ready (rs := [2]) (by kernel_rfl) (by simp) ?_
  refine' (AllReadyH.cons (o := _) ?hir26_2 (fun K hK => ?br26_2) AllReadyH.nil)
  case hir26_2 => (simp only [zD, zE, zF]; rfl)
  case br26_2 =>
   go_simp
   refine (C3.out _).mono ?_
   rintro e w27 ⟨rfl, hb27⟩
   have H27 := hid (HBW1.out.trans (hb27.mono HBW1.out.size))
   clear hb27
   go_wp2_with fail
   refine hK.out _ _ ?_ (fun hHeld => ?_)
   exact H27.out
   clear hK K
   (try simp only [Act.put, zA, zB, zC])
   refine' wpAnyH_take (i := 4) (oi := _) (v := .bool b1) ?hit28 ?hst28 ?hft28 ?hrt28 ?hQt28 ?hyt28 ?hSt28 ?_
   case hit28 => (simp only [zD, zE, zF]; rfl)
   case hst28 | hft28 | hrt28 => kernel_rfl
   case hQt28 => exact fun _ _ _ h => h
   case hSt28 => assumption
   case hyt28 =>
    refine Or.inl ⟨by rfl, ?_⟩
    intro W hS
    rw [← hd1.out]; exact quiet_neq_F W (.tmp 11) (.tmp 12) 54 _ _ (digs_length _ _ _) (digs_length _ _ _) rfl (show Value.agg x = .agg (limF n) by rw [hx.out]) rfl
   (try simp only [Act.put, zA, zB, zC])
   refine wpAnyH_done (by kernel_rfl) ?_ _
   have H4 := hid (H3.out.next H27.out)
   clear hHeld
   go_upto_if 13 with fail
   (try simp only [Act.put, zA, zB, zC])
   go_cut [] (fun wx => ThreeF w x z c1 g4 wx)
   case first =>
    cases hb1v : b1
    ·have e1 : Hid (cr = c1) := by
      rw [hcr.out, hc1.out, HR1.out, if_pos (by have h0 := hb1.out; rw [hb1v] at h0; have h2 : s1 = n := by simpa using h0.symm
                                                rw [← hs1.out]; exact h2)]; exact hid rfl
     clear hb1v
     go_wp2_with fail
     go_meet
     exact (by rw [← e1.out]; exact H4.out)
    ·have e1 : Hid (cI = c1) := by
      rw [hcI.out, hc1.out, HR1.out, if_neg (by have h0 := hb1.out; rw [hb1v] at h0; have h2 : ¬ s1 = n := by simpa using h0.symm
                                                rw [← hs1.out]; exact h2)]; exact hid rfl
     clear hb1v
     go_upto_region 3 with fail
     (try simp only [Act.put, zA, zB, zC])
     refine wp_region_held_drew (S := fun V => Far g4 w27 V) (by kernel_rfl) (Far.of (Below.refl _ _).drew) (fun hHeld => ?_)
     have HBw27 := hid ((Below.refl w27.heap.size w27).drew)
     generalize w27.drew = Vw27 at *
     refine wpAnyH_ready (rs := [0, 1]) (by kernel_rfl) (by simp) ?_
     refine' (AllReadyH.cons (o := _) ?hir29_0 (fun K hK => ?br29_0) (AllReadyH.cons (o := _) ?hir29_1 (fun K hK => ?br29_1) AllReadyH.nil))
     case hir29_0 => (simp only [zD, zE, zF]; rfl)
     case hir29_1 => (simp only [zD, zE, zF]; rfl)
     case br29_0 =>
      refine step_of_wp rfl ?_
      refine wp_load_row 54 (.tmp 4) rfl g4 rfl 54 cr (0, 0) _ (H4.out.2.1.old HBw27.out) Tryz.underlying54 rfl or.out.1 ?_
      refine hK.out _ _ ?_ (fun hHeld => ?_)
      exact Far.of HBw27.out
      clear hK K
      (try simp only [Act.put, zA, zB, zC])
      refine wpAnyH_ready (rs := [1]) (by kernel_rfl) (by simp) ?_
      refine' (AllReadyH.cons (o := _) ?hir31_1 (fun K hK => ?br31_1) AllReadyH.nil)
      case hir31_1 => (simp only [zD, zE, zF]; rfl)
      case br31_1 =>
       go_simp
       refine (C4a.out _).mono ?_
       rintro e w32 ⟨rfl, hb32⟩
       have H32 := hid (HBw27.out.trans (hb32.mono HBw27.out.size))
       clear hb32
       go_wp2_with fail
       refine hK.out _ _ ?_ (fun hHeld => ?_)
       exact Far.of H32.out
       clear hK K
       (try simp only [Act.put, zA, zB, zC])
       refine wpAnyH_ready (rs := [2]) (by kernel_rfl) (by simp) ?_
       refine' (AllReadyH.cons (o := _) ?hir33_2 (fun K hK => ?br33_2) AllReadyH.nil)
       case hir33_2 => (simp only [zD, zE, zF]; rfl)
       case br33_2 =>
        go_simp
        refine (C4b.out _).mono ?_
        rintro e w34 ⟨rfl, hb34⟩
        have H34 := hid (H32.out.trans (hb34.mono H32.out.size))
        clear hb34
        go_wp2_with fail
        refine hK.out _ _ ?_ (fun hHeld => ?_)
        exact Far.of H34.out
        clear hK K
        (try simp only [Act.put, zA, zB, zC])
        refine wpAnyH_ready (rs := [3]) (by kernel_rfl) (by simp) ?_
        refine' (AllReadyH.cons (o := _) ?hir35_3 (fun K hK => ?br35_3) AllReadyH.nil)
        case hir35_3 => (simp only [zD, zE, zF]; rfl)
        case br35_3 =>
         go_simp
         refine (C5.out _).mono ?_
         rintro e w36 ⟨rfl, hb36⟩
         have H36 := hid (H34.out.trans (hb36.mono H34.out.size))
         clear hb36
         go_wp2_with fail
         refine hK.out _ _ ?_ (fun hHeld => ?_)
         exact Far.of H36.out
         clear hK K
         (try simp only [Act.put, zA, zB, zC])
         refine wpAnyH_ready (rs := [4]) (by kernel_rfl) (by simp) ?_
         refine' (AllReadyH.cons (o := _) ?hir37_4 (fun K hK => ?br37_4) AllReadyH.nil)
         case hir37_4 => (simp only [zD, zE, zF]; rfl)
         case br37_4 =>
          refine step_of_wp rfl ?_
          refine wp_store_row 54 (.tmp 4) (.tmp 17) rfl g4 cI rfl rfl 54 cr (H4.out.2.1.old H36.out) oI.out.1 hsz.out.1 oI.out.2.1 ?_
          refine hK.out _ _ ?_ (fun hHeld => ?_)
          exact (Far.of H36.out).row _
          clear hK K
          (try simp only [Act.put, zA, zB, zC])
          refine wpAnyH_done (by kernel_rfl) ?_ _
          have H5 := hid ((H4.out.next H36.out).third cI)
          clear hHeld
          go_wp2_with fail
          go_meet
          exact (by rw [← e1.out]; exact H5.out)
     case br29_1 =>
      go_simp
      refine (C4a.out _).mono ?_
      rintro e w39 ⟨rfl, hb39⟩
      have H39 := hid (HBw27.out.trans (hb39.mono HBw27.out.size))
      clear hb39
      go_wp2_with fail
      refine hK.out _ _ ?_ (fun hHeld => ?_)
      exact Far.of H39.out
      clear hK K
      (try simp only [Act.put, zA, zB, zC])
      refine wpAnyH_ready (rs := [0, 2]) (by kernel_rfl) (by simp) ?_
      refine' (AllReadyH.cons (o := _) ?hir40_0 (fun K hK => ?br40_0) (AllReadyH.cons (o := _) ?hir40_2 (fun K hK => ?br40_2) AllReadyH.nil))
      case hir40_0 => (simp only [zD, zE, zF]; rfl)
      case hir40_2 => (simp only [zD, zE, zF]; rfl)
      case br40_0 =>
       refine step_of_wp rfl ?_
       refine wp_load_row 54 (.tmp 4) rfl g4 rfl 54 cr (0, 0) _ (H4.out.2.1.old H39.out) Tryz.underlying54 rfl or.out.1 ?_
       refine hK.out _ _ ?_ (fun hHeld => ?_)
       exact Far.of H39.out
       clear hK K
       (try simp only [Act.put, zA, zB, zC])
       refine wpAnyH_ready (rs := [2]) (by kernel_rfl) (by simp) ?_
       refine' (AllReadyH.cons (o := _) ?hir42_2 (fun K hK => ?br42_2) AllReadyH.nil)
       case hir42_2 => (simp only [zD, zE, zF]; rfl)
       case br42_2 =>
        go_simp
        refine (C4b.out _).mono ?_
        rintro e w43 ⟨rfl, hb43⟩
        have H43 := hid (H39.out.trans (hb43.mono H39.out.size))
        clear hb43
        go_wp2_with fail
        refine hK.out _ _ ?_ (fun hHeld => ?_)
        exact Far.of H43.out
        clear hK K
        (try simp only [Act.put, zA, zB, zC])
        refine wpAnyH_ready (rs := [3]) (by kernel_rfl) (by simp) ?_
        refine' (AllReadyH.cons (o := _) ?hir44_3 (fun K hK => ?br44_3) AllReadyH.nil)
        case hir44_3 => (simp only [zD, zE, zF]; rfl)
        case br44_3 =>
         go_simp
         refine (C5.out _).mono ?_
         rintro e w45 ⟨rfl, hb45⟩
         have H45 := hid (H43.out.trans (hb45.mono H43.out.size))
         clear hb45
         go_wp2_with fail
         refine hK.out _ _ ?_ (fun hHeld => ?_)
         exact Far.of H45.out
         clear hK K
         (try simp only [Act.put, zA, zB, zC])
         refine wpAnyH_ready (rs := [4]) (by kernel_rfl) (by simp) ?_
         refine' (AllReadyH.cons (o := _) ?hir46_4 (fun K hK => ?br46_4) AllReadyH.nil)
         case hir46_4 => (simp only [zD, zE, zF]; rfl)
         case br46_4 =>
          refine step_of_wp rfl ?_
          refine wp_store_row 54 (.tmp 4) (.tmp 17) rfl g4 cI rfl rfl 54 cr (H4.out.2.1.old H45.out) oI.out.1 hsz.out.1 oI.out.2.1 ?_
          refine hK.out _ _ ?_ (fun hHeld => ?_)
          exact (Far.of H45.out).row _
          clear hK K
          (try simp only [Act.put, zA, zB, zC])
          refine wpAnyH_done (by kernel_rfl) ?_ _
          have H5 := hid ((H4.out.next H45.out).third cI)
          clear hHeld
          go_wp2_with fail
          go_meet
          exact (by rw [← e1.out]; exact H5.out)
      case br40_2 =>
       go_simp
       refine (C4b.out _).mono ?_
       rintro e w48 ⟨rfl, hb48⟩
       have H48 := hid (H39.out.trans (hb48.mono H39.out.size))
       clear hb48
       go_wp2_with fail
       refine hK.out _ _ ?_ (fun hHeld => ?_)
       exact Far.of H48.out
       clear hK K
       (try simp only [Act.put, zA, zB, zC])
       refine wpAnyH_ready (rs := [0]) (by kernel_rfl) (by simp) ?_
       refine' (AllReadyH.cons (o := _) ?hir49_0 (fun K hK => ?br49_0) AllReadyH.nil)
       case hir49_0 => (simp only [zD, zE, zF]; rfl)
       case br49_0 =>
        refine step_of_wp rfl ?_
        refine wp_load_row 54 (.tmp 4) rfl g4 rfl 54 cr (0, 0) _ (H4.out.2.1.old H48.out) Tryz.underlying54 rfl or.out.1 ?_
        refine hK.out _ _ ?_ (fun hHeld => ?_)
        exact Far.of H48.out
        clear hK K
        (try simp only [Act.put, zA, zB, zC])
        refine wpAnyH_ready (rs := [3]) (by kernel_rfl) (by simp) ?_
        refine' (AllReadyH.cons (o := _) ?hir51_3 (fun K hK => ?br51_3) AllReadyH.nil)
        case hir51_3 => (simp only [zD, zE, zF]; rfl)
        case br51_3 =>
         go_simp
         refine (C5.out _).mono ?_
         rintro e w52 ⟨rfl, hb52⟩
         have H52 := hid (H48.out.trans (hb52.mono H48.out.size))
         clear hb52
         go_wp2_with fail
         refine hK.out _ _ ?_ (fun hHeld => ?_)
         exact Far.of H52.out
         clear hK K
         (try simp only [Act.put, zA, zB, zC])
         refine wpAnyH_ready (rs := [4]) (by kernel_rfl) (by simp) ?_
         refine' (AllReadyH.cons (o := _) ?hir53_4 (fun K hK => ?br53_4) AllReadyH.nil)
         case hir53_4 => (simp only [zD, zE, zF]; rfl)
         case br53_4 =>
          refine step_of_wp rfl ?_
          refine wp_store_row 54 (.tmp 4) (.tmp 17) rfl g4 cI rfl rfl 54 cr (H4.out.2.1.old H52.out) oI.out.1 hsz.out.1 oI.out.2.1 ?_
          refine hK.out _ _ ?_ (fun hHeld => ?_)
          exact (Far.of H52.out).row _
          clear hK K
          (try simp only [Act.put, zA, zB, zC])
          refine wpAnyH_done (by kernel_rfl) ?_ _
          have H5 := hid ((H4.out.next H52.out).third cI)
          clear hHeld
          go_wp2_with fail
          go_meet
          exact (by rw [← e1.out]; exact H5.out)
   case rest =>
    have H7 := hid hcut
    clear hcut
    go_upto_region 4 with fail
    generalize wc = W4 at *
    (try simp only [Act.put, zA, zB, zC])
    refine wp_region_held_drew (S := fun V => Below W4.heap.size W4 V) (by kernel_rfl) ((Below.refl _ _).drew) (fun hHeld => ?_)
    have HBW4 := hid ((Below.refl W4.heap.size W4).drew)
    generalize W4.drew = VW4 at *
    refine' wpAnyH_take (i := 0) (oi := _) (v := .agg c1) ?hit55 ?hst55 ?hft55 ?hrt55 ?hQt55 ?hyt55 ?hSt55 ?_
    case hit55 => (simp only [zD, zE, zF]; rfl)
    case hst55 | hft55 | hrt55 => kernel_rfl
    case hQt55 => exact fun _ _ _ h => h
    case hSt55 => assumption
    case hyt55 =>
     refine Or.inl ⟨by rfl, ?_⟩
     intro W hS
     exact quiet_load_row 54 (.tmp 4) _ rfl 54 c1 _ (H7.out.2.1.old hS) Tryz.underlying54 rfl o1.out.1 rfl
    (try simp only [Act.put, zA, zB, zC])
    refine' wpAnyH_take (i := 1) (oi := _) (v := .agg c1) ?hit56 ?hst56 ?hft56 ?hrt56 ?hQt56 ?hyt56 ?hSt56 ?_
    case hit56 => (simp only [zD, zE, zF]; rfl)
    case hst56 | hft56 | hrt56 => kernel_rfl
    case hQt56 => exact fun _ _ _ h => h
    case hSt56 => assumption
    case hyt56 =>
     refine Or.inl ⟨by rfl, ?_⟩
     intro W hS
     exact quiet_load_row 54 (.tmp 4) _ rfl 54 c1 _ (H7.out.2.1.old hS) Tryz.underlying54 rfl o1.out.1 rfl
    (try simp only [Act.put, zA, zB, zC])
    refine' wpAnyH_take (i := 3) (oi := _) (v := .agg x) ?hit57 ?hst57 ?hft57 ?hrt57 ?hQt57 ?hyt57 ?hSt57 ?_
    case hit57 => (simp only [zD, zE, zF]; rfl)
    case hst57 | hft57 | hrt57 => kernel_rfl
    case hQt57 => exact fun _ _ _ h => h
    case hSt57 => assumption
    case hyt57 =>
     refine Or.inl ⟨by rfl, ?_⟩
     intro W hS
     exact quiet_load_row 54 (.tmp 1) _ rfl 54 x _ (H7.out.1.1.old hS) Tryz.underlying54 rfl o0.out.1 rfl
    (try simp only [Act.put, zA, zB, zC])
    refine wpAnyH_ready (rs := [2]) (by kernel_rfl) (by simp) ?_
    refine' (AllReadyH.cons (o := _) ?hir58_2 (fun K hK => ?br58_2) AllReadyH.nil)
    case hir58_2 => (simp only [zD, zE, zF]; rfl)
    case br58_2 =>
     go_simp
     refine (C6.out _).mono ?_
     rintro e w59 ⟨rfl, hb59⟩
     have H59 := hid (HBW4.out.trans (hb59.mono HBW4.out.size))
     clear hb59
     go_wp2_with fail
     refine hK.out _ _ ?_ (fun hHeld => ?_)
     exact H59.out
     clear hK K
     (try simp only [Act.put, zA, zB, zC])
     refine' wpAnyH_take (i := 4) (oi := _) (v := .bool b2) ?hit60 ?hst60 ?hft60 ?hrt60 ?hQt60 ?hyt60 ?hSt60 ?_
     case hit60 => (simp only [zD, zE, zF]; rfl)
     case hst60 | hft60 | hrt60 => kernel_rfl
     case hQt60 => exact fun _ _ _ h => h
     case hSt60 => assumption
     case hyt60 =>
      refine Or.inl ⟨by rfl, ?_⟩
      intro W hS
      rw [← hd2.out]; exact quiet_neq_F W (.tmp 20) (.tmp 21) 54 _ _ (digs_length _ _ _) (digs_length _ _ _) rfl (show Value.agg x = .agg (limF n) by rw [hx.out]) rfl
     (try simp only [Act.put, zA, zB, zC])
     refine wpAnyH_done (by kernel_rfl) ?_ _
     have H8 := hid (H7.out.next H59.out)
     clear hHeld
     cases hb2v : b2
     case true =>
      have hno : ¬ hasRoot n := by rw [hhas.out, ← hs2.out]; have h0 := hb2.out; rw [hb2v] at h0; simpa using h0.symm
      have hr0 : Hid (root n = 0) := by rw [hroot.out, if_neg hno]; exact hid rfl
      have hd : Hid (decide (hasRoot n) = false) := hid (by simpa using hno)
      have hzl : Hid ((#[.int .u64 0, .int .u64 0, .int .u64 0, .int .u64 0, .int .u64 0, .int .u64 0, .int .u64 0, .int .u64 0, .int .u64 0, .int .u64 0, .int .u64 0, .int .u64 0, .int .u64 0, .int .u64 0, .int .u64 0, .int .u64 0] : Array Value) = z) := by rw [hz.out]; exact hid limFZ
      rw [← hzl.out] at oz
      have H9 := hid (H8.out.1.snd #[.int .u64 0, .int .u64 0, .int .u64 0, .int .u64 0, .int .u64 0, .int .u64 0, .int .u64 0, .int .u64 0, .int .u64 0, .int .u64 0, .int .u64 0, .int .u64 0, .int .u64 0, .int .u64 0, .int .u64 0, .int .u64 0])
      clear hno hb2v
      go_wp2_with (first | (refine wpList_store_row rfl 54 (.tmp 2) (.tmp 23) rfl (w.heap.size + 1) #[.int .u64 0, .int .u64 0, .int .u64 0, .int .u64 0, .int .u64 0, .int .u64 0, .int .u64 0, .int .u64 0, .int .u64 0, .int .u64 0, .int .u64 0, .int .u64 0, .int .u64 0, .int .u64 0, .int .u64 0, .int .u64 0] rfl rfl 54 z H8.out.1.2.1 oz.out.1 (by rw [← hzl.out]) oz.out.2.1 ?_))
      refine bodyPost_ret (v := .tuple #[.agg #[.int .u64 0, .int .u64 0, .int .u64 0, .int .u64 0, .int .u64 0, .int .u64 0, .int .u64 0, .int .u64 0, .int .u64 0, .int .u64 0, .int .u64 0, .int .u64 0, .int .u64 0, .int .u64 0, .int .u64 0, .int .u64 0], .bool false]) ?_ rfl ⟨by rw [hr0.out, hd.out, ← hz.out, ← hzl.out], H9.out.2.2⟩
      exact results_row_tmp Tryz.results89 _ _ (w.heap.size + 1) 54 _ _ _ _ rfl rfl H9.out.2.1 Tryz.underlying54 oz.out.1
     case false =>
      have hyes : hasRoot n := by rw [hhas.out, ← hs2.out]; have h0 := hb2.out; rw [hb2v] at h0; simpa using h0.symm
      have hd : Hid (decide (hasRoot n) = true) := hid (by simpa using hyes)
      have hrr : root n = if root1 n % 2 = 1 then P - root1 n else root1 n := by rw [hroot.out, if_pos hyes]
      have HRR := hid hrr
      clear hyes hb2v hrr
      obtain ⟨y0, hy0⟩ := named ((digs B (root1 n) 16).getD 0 0)
      have hcell : ∀ V, Blk V g4 54 c1 → V.cell? ⟨g4, 0, none⟩ = some (.int .u64 (y0 : Int)) := fun V hV => by
       have := hV.cell 0
       rw [this, hc1.out, limF, u64s_get _ _ (by rw [digs_length]; omega), hy0.out]
      have hcc := hcell _ H8.out.2.1
      have hpar : Hid (y0 % 2 = root1 n % 2) := hid (by rw [hy0.out, digs_at (by omega), Nat.pow_zero, Nat.div_one]; unfold B; omega)
      have hyB : y0 < 65536 := by rw [hy0.out, digs_at (by omega)]; exact Nat.mod_lt _ (by decide)
      obtain ⟨b, hb⟩ := named (y0 % 2)
      have e1' : (y0 : Int) % 2 = (b : Int) := by rw [hb.out]; omega
      have e2' : (y0 : Int).tmod 2 = (b : Int) := by rw [Int.tmod_eq_emod_of_nonneg (by omega)]; omega
      have e3' : IntKind.u64.wrap (b : Int) = (b : Int) := by rw [IntKind.wrap_u64, hb.out]; omega
      have hb01 : b = 0 ∨ b = 1 := by rw [hb.out]; omega
      have hbp : Hid (root1 n % 2 = b) := hid (by rw [← hpar.out, hb.out])
      clear hcell
      obtain ⟨cR, hcR⟩ : ∃ c, Hid (c = limF (root n)) := ⟨_, hid rfl⟩
      have oR : Hid ((Tryz.prog.info? 54).map (·.size) = some cR.size ∧ cR.all (·.oneCell') = true ∧ z.size = cR.size) := by rw [hcR.out, hz.out]; exact hid (limF0_ok _)
      rcases hb01 with hb0 | hb0
      ·have e1 : Hid (c1 = cR) := by
        rw [hc1.out, hcR.out, HRR.out, if_neg (by rw [hbp.out, hb0]; omega)]; exact hid rfl
       clear hbp hb
       subst hb0
       have HF := hid (H8.out.1.snd c1)
       go_wp2_with (first | (refine wpList_load_row rfl 54 (.tmp 4) rfl g4 rfl 54 c1 (0, 0) _ H8.out.2.1 Tryz.underlying54 rfl o1.out.1 ?_) |
        (refine wpList_store_row rfl 54 (.tmp 2) (.tmp 30) rfl (w.heap.size + 1) c1 rfl rfl 54 z H8.out.1.2.1 o1.out.1 o1.out.2.2 o1.out.2.1 ?_))
       refine bodyPost_ret (v := .tuple #[.agg c1, .bool true]) ?_ rfl ⟨by rw [e1.out, hcR.out, hd.out], HF.out.2.2⟩
       exact results_row_tmp Tryz.results89 _ _ (w.heap.size + 1) 54 _ _ _ _ rfl rfl HF.out.2.1 Tryz.underlying54 o1.out.1
      ·have e1 : Hid (cN = cR) := by
        have ho : root1 n % 2 = 1 := by rw [hbp.out, hb0]
        rw [hcN.out, hcR.out, HRR.out, if_pos ho, odd_neg2 HR1l.out ho]; exact hid rfl
       clear hbp hb
       subst hb0
       go_wp2_with (first | (refine wpList_load_row rfl 54 (.tmp 4) rfl g4 rfl 54 c1 (0, 0) _ H8.out.2.1 Tryz.underlying54 rfl o1.out.1 ?_))
       refine (C9.out _).mono ?_
       rintro e w5 ⟨rfl, hb⟩
       have H9 := hid (H8.out.next hb)
       have HA := hid (H9.out.third cN)
       have HF := hid (HA.out.1.snd cN)
       clear hb
       go_wp2_with (first | (refine wpList_store_row rfl 54 (.tmp 4) (.tmp 29) rfl g4 cN rfl rfl 54 c1 H9.out.2.1 oN.out.1 hsz.out.2 oN.out.2.1 ?_) |
        (refine wpList_load_row rfl 54 (.tmp 4) rfl g4 rfl 54 cN (0, 0) _ HA.out.2.1 Tryz.underlying54 rfl oN.out.1 ?_) |
        (refine wpList_store_row rfl 54 (.tmp 2) (.tmp 30) rfl (w.heap.size + 1) cN rfl rfl 54 z HA.out.1.2.1 oN.out.1 oN.out.2.2 oN.out.2.1 ?_))
       refine bodyPost_ret (v := .tuple #[.agg cN, .bool true]) ?_ rfl ⟨by rw [e1.out, hcR.out, hd.out], HF.out.2.2⟩
       exact results_row_tmp Tryz.results89 _ _ (w.heap.size + 1) 54 _ _ _ _ rfl rfl HF.out.2.1 Tryz.underlying54 oN.out.1
end Go.Proofs.YtcfogpeinjehbaaGreatDoor
end

section
namespace Go.Proofs.YtcfogpeinjehbaaGreatDoor
open Go Go.Proofs Go.RowKit F5
def cF (a : Fp) : Array Value := limF a.val
theorem fp_256 (a : Fp) : a.val < 2 ^ 256 := Nat.lt_trans a.isLt (by decide)
theorem cF_size (a : Fp) : (cF a).size = 16 := limF_size _
theorem cF_ok (a : Fp) : (Tryz.prog.info? 54).map (·.size) = some (cF a).size ∧ (cF a).all (·.oneCell') = true := limF_ok3 _
theorem cF_sz (a b : Fp) : (cF a).size = (cF b).size := limF_sz _ _
theorem rOf (n : Nat) (hn : n < 2 ^ 32) (a : Fp) (h : a.val = n) (i : Int) (hi : i = n) (w : World) : Calls Tryz.prog 52 #[.int .u64 i] w fun e w' => e = .returned (.agg (cF a)) ∧ Below w.heap.size w w' := by
 subst hi
 rw [cF, h]
 exact refOf_any n (Nat.lt_trans hn (by decide)) w
theorem rMul (a b : Fp) (w : World) : Calls Tryz.prog 53 #[.agg (cF a), .agg (cF b)] w fun e w' => e = .returned (.agg (cF (a * b))) ∧ Below w.heap.size w w' := by
 have := refMul_any a.val b.val (fp_256 a) (fp_256 b) w
 rwa [← fp_mul] at this
theorem rAdd (a b : Fp) (w : World) : Calls Tryz.prog 87 #[.agg (cF a), .agg (cF b)] w fun e w' => e = .returned (.agg (cF (a + b))) ∧ Below w.heap.size w w' := by
 have := refAdd_any a.val b.val (fp_256 a) (fp_256 b) w
 rwa [← fp_add] at this
theorem rSub (a b : Fp) (w : World) : Calls Tryz.prog 88 #[.agg (cF a), .agg (cF b)] w fun e w' => e = .returned (.agg (cF (a - b))) ∧ Below w.heap.size w w' := by
 have := refSub_any a.val b.val (fp_256 a) b.isLt w
 rwa [show (a.val + (P - b.val) % P) % P = (a - b).val by rw [Fin.sub_def]; show _ = (P - b.val + a.val) % P; rw [Nat.add_mod_mod, Nat.add_comm]] at this
theorem rNeg (a : Fp) (w : World) : Calls Tryz.prog 69 #[.agg (cF a)] w fun e w' => e = .returned (.agg (cF (0 - a))) ∧ Below w.heap.size w w' := by
 have := refNeg_any a.val a.isLt w
 rwa [show (P - a.val) % P = (0 - a).val by rw [Fin.sub_def]; show _ = (P - a.val + 0) % P; rw [Nat.add_zero]] at this
theorem rInv (a : Fp) (w : World) : Calls Tryz.prog 54 #[.agg (cF a)] w fun e w' => e = .returned (.agg (cF (finv a))) ∧ Below w.heap.size w w' := refInv_any a.val w a.isLt
theorem rRoot (a : Fp) (w : World) : Calls Tryz.prog 89 #[.agg (cF a)] w fun e w' => e = .returned (.tuple #[.agg (cF (rootF a)), .bool (decide (hasRoot a.val))]) ∧ Below w.heap.size w w' := refRoot_any a.val w a.isLt
theorem zeroF (W : World) : (zeroValue 54).run Tryz.prog W = .ok (.agg (cF 0)) W := by
 show _ = Result.ok (Value.agg (limF 0)) W
 rw [← zero16]; exact (zero_of_info (n := 16) (by kernel_rfl)).1 W
end Go.Proofs.YtcfogpeinjehbaaGreatDoor
end

section
namespace Go.Proofs.YtcfogpeinjehbaaGreatDoor
open Go Go.Proofs Go.RowKit F5
theorem fv (n : Nat) (a : Fp) (h : decide (a.val = n) = true) : a.val = n := by simpa using h
set_option maxHeartbeats 4000000 in
set_option maxRecDepth 100000 in
theorem refD_any (w : World) : Calls Tryz.prog 56 #[] w fun e w' => e = .returned (.agg (cF dE)) ∧ Below w.heap.size w w' := by
 obtain ⟨z, hz⟩ : ∃ z, Hid (z = cF 0) := ⟨_, hid rfl⟩
 have hz0 : ∀ W, (zeroValue 54).run Tryz.prog W = .ok (.agg z) W := by rw [hz.out]; exact zeroF
 obtain ⟨a, ha⟩ : ∃ a : Fp, Hid (a = 121665) := ⟨_, hid rfl⟩
 obtain ⟨b, hb⟩ : ∃ a : Fp, Hid (a = 121666) := ⟨_, hid rfl⟩
 have C1 : Hid (∀ V, Calls Tryz.prog 52 #[.int .u64 121665] V fun e w' => e = .returned (.agg (cF a)) ∧ Below V.heap.size V w') := hid fun V => rOf 121665 (by decide) a (by rw [ha.out]; exact fv _ _ (by decide)) _ rfl V
 have C2 : Hid (∀ V, Calls Tryz.prog 52 #[.int .u64 121666] V fun e w' => e = .returned (.agg (cF b)) ∧ Below V.heap.size V w') := hid fun V => rOf 121666 (by decide) b (by rw [hb.out]; exact fv _ _ (by decide)) _ rfl V
 have hd : Hid (dE = (0 - a) * finv b) := by rw [ha.out, hb.out]; exact hid dE_def
 have oz : Hid (z.size = (cF ((0 - a) * finv b)).size) := hid (by rw [hz.out]; exact cF_sz _ _)
 have X0 := hid (Blk.new w 54 z)
 have HB := hid ((Below.refl w.heap.size w).alloc (Nat.le_refl _) (.cells z 54))
 rw [hd.out]
 clear hz hd ha hb
 go_enter Tryz.func56, Tryz.ntmps56
 go_wp2_with fail
 generalize w.alloc (.cells z 54) = W at *
 refine (C1.out _).mono ?_
 rintro e w1 ⟨rfl, hb⟩
 have X0 := hid (X0.out.old hb)
 have HB := hid (HB.out.trans (hb.mono HB.out.size))
 clear hb
 go_wp2_with fail
 refine (rNeg _ _).mono ?_
 rintro e w2 ⟨rfl, hb⟩
 have X0 := hid (X0.out.old hb)
 have HB := hid (HB.out.trans (hb.mono HB.out.size))
 clear hb
 go_wp2_with fail
 refine (C2.out _).mono ?_
 rintro e w3 ⟨rfl, hb⟩
 have X0 := hid (X0.out.old hb)
 have HB := hid (HB.out.trans (hb.mono HB.out.size))
 clear hb
 go_wp2_with fail
 refine (rInv _ _).mono ?_
 rintro e w4 ⟨rfl, hb⟩
 have X0 := hid (X0.out.old hb)
 have HB := hid (HB.out.trans (hb.mono HB.out.size))
 clear hb
 go_wp2_with fail
 refine (rMul _ _ _).mono ?_
 rintro e w5 ⟨rfl, hb⟩
 have X0 := hid (X0.out.old hb)
 have HB := hid (HB.out.trans (hb.mono HB.out.size))
 clear hb
 have X1 := hid (X0.out.row (cF ((0 - a) * finv b)))
 have HF := hid (below_row HB.out (Nat.le_refl _) (cF ((0 - a) * finv b)))
 go_wp2_with (first | (refine wpList_store_row rfl 54 (.tmp 0) (.tmp 5) rfl w.heap.size _ rfl rfl 54 z X0.out (cF_ok _).1 oz.out (cF_ok _).2 ?_))
 refine bodyPost_ret (v := .agg (cF ((0 - a) * finv b))) ?_ rfl ⟨rfl, HF.out⟩
 exact results_cell_row Tryz.results56 _ _ w.heap.size 54 _ (0, 0) _ rfl X1.out Tryz.underlying54 rfl (cF_ok _).1
end Go.Proofs.YtcfogpeinjehbaaGreatDoor
end

section
namespace Go.Proofs.YtcfogpeinjehbaaGreatDoor
open Go Go.Proofs Go.RowKit F5
set_option maxHeartbeats 8000000 in
set_option maxRecDepth 100000 in
theorem refXof_any (y : Fp) (w : World) : Calls Tryz.prog 55 #[.agg (cF y)] w fun e w' => e = .returned (.tuple #[.agg (cF (rootF (xsq y))), .bool (decide (hasRoot (xsq y).val))]) ∧ Below w.heap.size w w' := by
 obtain ⟨z, hz⟩ : ∃ z, Hid (z = cF 0) := ⟨_, hid rfl⟩
 have hz0 : ∀ W, (zeroValue 54).run Tryz.prog W = .ok (.agg z) W := by rw [hz.out]; exact zeroF
 have oz : Hid (∀ a : Fp, z.size = (cF a).size) := hid (fun a => by rw [hz.out]; exact cF_sz _ _)
 obtain ⟨one, h1⟩ : ∃ a : Fp, Hid (a = 1) := ⟨_, hid rfl⟩
 have C1 : Hid (∀ V, Calls Tryz.prog 52 #[.int .u64 1] V fun e w' => e = .returned (.agg (cF one)) ∧ Below V.heap.size V w') := hid fun V => rOf 1 (by decide) one (by rw [h1.out]; exact fv _ _ (by decide)) _ rfl V
 have hx : Hid (xsq y = (y * y - one) * finv (dE * (y * y) + one)) := hid (by rw [h1.out]; rfl)
 rw [hx.out]
 obtain ⟨yy, hyy⟩ : ∃ a : Fp, Hid (a = y * y) := ⟨_, hid rfl⟩
 have CM : Hid (∀ V, Calls Tryz.prog 53 #[.agg (cF y), .agg (cF y)] V fun e w' => e = .returned (.agg (cF yy)) ∧ Below V.heap.size V w') := hid fun V => by rw [hyy.out]; exact rMul y y V
 rw [← hyy.out]
 obtain ⟨ov, hov⟩ : ∃ a : Fp, Hid (a = dE * yy + one) := ⟨_, hid rfl⟩
 have CA : Hid (∀ V, Calls Tryz.prog 87 #[.agg (cF (dE * yy)), .agg (cF one)] V fun e w' => e = .returned (.agg (cF ov)) ∧ Below V.heap.size V w') := hid fun V => by rw [hov.out]; exact rAdd _ _ V
 rw [← hov.out]
 obtain ⟨s, hs⟩ : ∃ a : Fp, Hid (a = (yy - one) * finv ov) := ⟨_, hid rfl⟩
 have CS : Hid (∀ V, Calls Tryz.prog 53 #[.agg (cF (yy - one)), .agg (cF (finv ov))] V fun e w' => e = .returned (.agg (cF s)) ∧ Below V.heap.size V w') := hid fun V => by rw [hs.out]; exact rMul _ _ V
 rw [← hs.out]
 obtain ⟨r, hr⟩ : ∃ a : Fp, Hid (a = rootF s) := ⟨_, hid rfl⟩
 obtain ⟨b, hb⟩ : ∃ b, Hid (b = decide (hasRoot s.val)) := ⟨_, hid rfl⟩
 have CR : Hid (∀ V, Calls Tryz.prog 89 #[.agg (cF s)] V fun e w' => e = .returned (.tuple #[.agg (cF r), .bool b]) ∧ Below V.heap.size V w') := hid fun V => by rw [hr.out, hb.out]; exact rRoot s V
 rw [← hr.out, ← hb.out]
 clear hz h1 hx hyy hov hs hr hb
 have h2 := TwoF.new w (cF y) z
 go_enter Tryz.func55, Tryz.ntmps55
 go_upto_region 1 with fail
 generalize (w.alloc (.cells (cF y) 54)).alloc (.cells z 54) = W at *
 have X1 := hid h2.1
 have X2 := hid h2.2.1
 have HB := hid h2.2.2
 have hlt : Hid (w.heap.size + 1 < W.heap.size) := hid h2.lt
 clear h2
 go_wp2_with fail
 refine (C1.out _).mono ?_
 rintro e w1 ⟨rfl, hb⟩
 have X1 := hid ((X1.out.old hb).alloc (.cells (cF one) 54))
 have X2 := hid ((X2.out.old hb).alloc (.cells (cF one) 54))
 have HB := hid ((HB.out.trans (hb.mono HB.out.size)).alloc (HB.out.trans (hb.mono HB.out.size)).size (.cells (cF one) 54))
 have X4 := hid (Blk.new w1 54 (cF one))
 have G4 : Hid (w.heap.size + 1 < w1.heap.size) := hid (Nat.lt_of_lt_of_le hlt.out hb.size)
 clear hb hlt
 go_upto_region 2 with (first | (refine wpList_store_row rfl 54 (.tmp 4) (.tmp 7) rfl w1.heap.size (cF one) rfl rfl 54 _ (heap_alloc_new w1 _) (cF_ok _).1 (oz.out _) (cF_ok _).2 ?_; rw [setRow_alloc1]))
 generalize w1.alloc (.cells (cF one) 54) = W1 at *
 generalize w1.heap.size = g4 at *
 go_upto_region 3 with (first | (refine wpList_load_row rfl 54 (.tmp 1) rfl w.heap.size rfl 54 (cF y) (0, 0) _ X1.out Tryz.underlying54 rfl (cF_ok _).1 ?_))
 refine (CM.out _).mono ?_
 rintro e w2 ⟨rfl, hb⟩
 have X2 := hid ((X2.out.old hb).alloc (.cells (cF yy) 54))
 have G5 : Hid (w.heap.size + 1 < w2.heap.size) := hid (Nat.lt_of_lt_of_le (Nat.lt_trans G4.out X4.out.lt) hb.size)
 have X4 := hid ((X4.out.old hb).alloc (.cells (cF yy) 54))
 have HB := hid ((HB.out.trans (hb.mono HB.out.size)).alloc (HB.out.trans (hb.mono HB.out.size)).size (.cells (cF yy) 54))
 have X5 := hid (Blk.new w2 54 (cF yy))
 clear hb X1
 go_upto_region 3 with (first | (refine wpList_store_row rfl 54 (.tmp 5) (.tmp 10) rfl w2.heap.size (cF yy) rfl rfl 54 _ (heap_alloc_new w2 _) (cF_ok _).1 (oz.out _) (cF_ok _).2 ?_; rw [setRow_alloc1]))
 generalize w2.alloc (.cells (cF yy) 54) = W2 at *
 generalize w2.heap.size = g5 at *
 (try simp only [Act.put, zA, zB, zC])
 go_cut [6] (fun v6 wx => ∃ g6, v6 = .pointer (some ⟨g6, 0, none⟩) ∧ Blk wx g6 54 (cF ov) ∧ Blk wx (w.heap.size + 1) 54 z ∧ Blk wx g4 54 (cF one) ∧ Blk wx g5 54 (cF yy) ∧ Below w.heap.size w wx ∧ w.heap.size + 1 < g6)
 case first =>
  refine wp_region_held_drew (S := fun V => Below W2.heap.size W2 V) (by kernel_rfl) ((Below.refl _ _).drew) (fun hHeld => ?_)
  have HBW2 := hid ((Below.refl W2.heap.size W2).drew)
  generalize W2.drew = VW2 at *
  refine' wpAnyH_take (i := 1) (oi := _) (v := .agg (cF yy)) ?hit1 ?hst1 ?hft1 ?hrt1 ?hQt1 ?hyt1 ?hSt1 ?_
  case hit1 => (simp only [zD, zE, zF]; rfl)
  case hst1 | hft1 | hrt1 => kernel_rfl
  case hQt1 => exact fun _ _ _ h => h
  case hSt1 => assumption
  case hyt1 =>
   refine Or.inl ⟨by rfl, ?_⟩
   intro W hS
   exact quiet_load_row 54 (.tmp 5) _ rfl 54 (cF yy) _ (X5.out.old hS) Tryz.underlying54 rfl (cF_ok _).1 rfl
  (try simp only [Act.put, zA, zB, zC])
  refine' wpAnyH_take (i := 3) (oi := _) (v := .agg (cF one)) ?hit2 ?hst2 ?hft2 ?hrt2 ?hQt2 ?hyt2 ?hSt2 ?_
  case hit2 => (simp only [zD, zE, zF]; rfl)
  case hst2 | hft2 | hrt2 => kernel_rfl
  case hQt2 => exact fun _ _ _ h => h
  case hSt2 => assumption
  case hyt2 =>
   refine Or.inl ⟨by rfl, ?_⟩
   intro W hS
   exact quiet_load_row 54 (.tmp 4) _ rfl 54 (cF one) _ (X4.out.old hS) Tryz.underlying54 rfl (cF_ok _).1 rfl
  (try simp only [Act.put, zA, zB, zC])
  refine wpAnyH_ready (rs := [0, 5]) (by kernel_rfl) (by simp) ?_
  refine' (AllReadyH.cons (o := _) ?hir3_0 (fun K hK => ?br3_0) (AllReadyH.cons (o := _) ?hir3_5 (fun K hK => ?br3_5) AllReadyH.nil))
  case hir3_0 => (simp only [zD, zE, zF]; rfl)
  case hir3_5 => (simp only [zD, zE, zF]; rfl)
  case br3_0 =>
   go_simp
   refine (refD_any _).mono ?_
   rintro e w4 ⟨rfl, hb4⟩
   have H4 := hid (HBW2.out.trans (hb4.mono HBW2.out.size))
   clear hb4
   go_wp2_with fail
   refine hK.out _ _ ?_ (fun hHeld => ?_)
   exact H4.out
   clear hK K
   (try simp only [Act.put, zA, zB, zC])
   refine wpAnyH_ready (rs := [2, 5]) (by kernel_rfl) (by simp) ?_
   refine' (AllReadyH.cons (o := _) ?hir5_2 (fun K hK => ?br5_2) (AllReadyH.cons (o := _) ?hir5_5 (fun K hK => ?br5_5) AllReadyH.nil))
   case hir5_2 => (simp only [zD, zE, zF]; rfl)
   case hir5_5 => (simp only [zD, zE, zF]; rfl)
   case br5_2 =>
    go_simp
    refine (rMul _ _ _).mono ?_
    rintro e w6 ⟨rfl, hb6⟩
    have H6 := hid (H4.out.trans (hb6.mono H4.out.size))
    clear hb6
    go_wp2_with fail
    refine hK.out _ _ ?_ (fun hHeld => ?_)
    exact H6.out
    clear hK K
    (try simp only [Act.put, zA, zB, zC])
    refine wpAnyH_ready (rs := [4, 5]) (by kernel_rfl) (by simp) ?_
    refine' (AllReadyH.cons (o := _) ?hir7_4 (fun K hK => ?br7_4) (AllReadyH.cons (o := _) ?hir7_5 (fun K hK => ?br7_5) AllReadyH.nil))
    case hir7_4 => (simp only [zD, zE, zF]; rfl)
    case hir7_5 => (simp only [zD, zE, zF]; rfl)
    case br7_4 =>
     go_simp
     refine (CA.out _).mono ?_
     rintro e w8 ⟨rfl, hb8⟩
     have H8 := hid (H6.out.trans (hb8.mono H6.out.size))
     clear hb8
     go_wp2_with fail
     refine hK.out _ _ ?_ (fun hHeld => ?_)
     exact H8.out
     clear hK K
     (try simp only [Act.put, zA, zB, zC])
     refine wpAnyH_ready (rs := [5]) (by kernel_rfl) (by simp) ?_
     refine' (AllReadyH.cons (o := _) ?hir9_5 (fun K hK => ?br9_5) AllReadyH.nil)
     case hir9_5 => (simp only [zD, zE, zF]; rfl)
     case br9_5 =>
      go_simp
      refine hK.out _ _ ?_ (fun hHeld => ?_)
      ·exact (H8.out.alloc H8.out.size _)
      have H10 := hid (H8.out.alloc H8.out.size (.cells z 54))
      have N6_10 := hid (alloc_new H8.out 54 z)
      have G6_10 := hid H8.out.size
      clear hK K
      (try simp only [Act.put, zA, zB, zC])
      refine wpAnyH_ready (rs := [6]) (by kernel_rfl) (by simp) ?_
      refine' (AllReadyH.cons (o := _) ?hir11_6 (fun K hK => ?br11_6) AllReadyH.nil)
      case hir11_6 => (simp only [zD, zE, zF]; rfl)
      case br11_6 =>
       refine step_of_wp rfl ?_
       refine wp_store_row 54 (.tmp 6) (.tmp 15) rfl _ (cF ov) rfl rfl 54 _ N6_10.out (cF_ok _).1 (oz.out _) (cF_ok _).2 ?_
       refine hK.out _ _ ?_ (fun hHeld => ?_)
       exact below_row H10.out G6_10.out _
       clear hK K
       (try simp only [Act.put, zA, zB, zC])
       refine wpAnyH_done (by kernel_rfl) ?_ _
       have L2 := Nat.lt_of_lt_of_le X2.out.lt G6_10.out
       have L4 := Nat.lt_of_lt_of_le X4.out.lt G6_10.out
       have L5 := Nat.lt_of_lt_of_le X5.out.lt G6_10.out
       have HF := hid (below_row (HB.out.trans (H10.out.mono HB.out.size)) (Nat.le_of_lt (Nat.lt_of_succ_lt L2)) (cF ov))
       have F6 := hid (N6_10.out.row (cF ov))
       have F2 := hid ((X2.out.old H10.out).rowFar (Nat.ne_of_lt L2) (cF ov))
       have F4 := hid ((X4.out.old H10.out).rowFar (Nat.ne_of_lt L4) (cF ov))
       have F5 := hid ((X5.out.old H10.out).rowFar (Nat.ne_of_lt L5) (cF ov))
       have L2 := hid L2
       clear hHeld L4 L5
       go_wp2_with fail
       go_meet
       exact ⟨_, rfl, F6.out, F2.out, F4.out, F5.out, HF.out, L2.out⟩
    case br7_5 =>
     go_simp
     refine hK.out _ _ ?_ (fun hHeld => ?_)
     ·exact (H6.out.alloc H6.out.size _)
     have H13 := hid (H6.out.alloc H6.out.size (.cells z 54))
     have N6_13 := hid (alloc_new H6.out 54 z)
     have G6_13 := hid H6.out.size
     clear hK K
     (try simp only [Act.put, zA, zB, zC])
     refine wpAnyH_ready (rs := [4]) (by kernel_rfl) (by simp) ?_
     refine' (AllReadyH.cons (o := _) ?hir14_4 (fun K hK => ?br14_4) AllReadyH.nil)
     case hir14_4 => (simp only [zD, zE, zF]; rfl)
     case br14_4 =>
      go_simp
      refine (CA.out _).mono ?_
      rintro e w15 ⟨rfl, hb15⟩
      have H15 := hid (H13.out.trans (hb15.mono H13.out.size))
      have N6_15 := hid (N6_13.out.old hb15)
      clear hb15
      go_wp2_with fail
      refine hK.out _ _ ?_ (fun hHeld => ?_)
      exact H15.out
      clear hK K
      (try simp only [Act.put, zA, zB, zC])
      refine wpAnyH_ready (rs := [6]) (by kernel_rfl) (by simp) ?_
      refine' (AllReadyH.cons (o := _) ?hir16_6 (fun K hK => ?br16_6) AllReadyH.nil)
      case hir16_6 => (simp only [zD, zE, zF]; rfl)
      case br16_6 =>
       refine step_of_wp rfl ?_
       refine wp_store_row 54 (.tmp 6) (.tmp 15) rfl _ (cF ov) rfl rfl 54 _ N6_15.out (cF_ok _).1 (oz.out _) (cF_ok _).2 ?_
       refine hK.out _ _ ?_ (fun hHeld => ?_)
       exact below_row H15.out G6_13.out _
       clear hK K
       (try simp only [Act.put, zA, zB, zC])
       refine wpAnyH_done (by kernel_rfl) ?_ _
       have L2 := Nat.lt_of_lt_of_le X2.out.lt G6_13.out
       have L4 := Nat.lt_of_lt_of_le X4.out.lt G6_13.out
       have L5 := Nat.lt_of_lt_of_le X5.out.lt G6_13.out
       have HF := hid (below_row (HB.out.trans (H15.out.mono HB.out.size)) (Nat.le_of_lt (Nat.lt_of_succ_lt L2)) (cF ov))
       have F6 := hid (N6_15.out.row (cF ov))
       have F2 := hid ((X2.out.old H15.out).rowFar (Nat.ne_of_lt L2) (cF ov))
       have F4 := hid ((X4.out.old H15.out).rowFar (Nat.ne_of_lt L4) (cF ov))
       have F5 := hid ((X5.out.old H15.out).rowFar (Nat.ne_of_lt L5) (cF ov))
       have L2 := hid L2
       clear hHeld L4 L5
       go_wp2_with fail
       go_meet
       exact ⟨_, rfl, F6.out, F2.out, F4.out, F5.out, HF.out, L2.out⟩
   case br5_5 =>
    go_simp
    refine hK.out _ _ ?_ (fun hHeld => ?_)
    ·exact (H4.out.alloc H4.out.size _)
    have H18 := hid (H4.out.alloc H4.out.size (.cells z 54))
    have N6_18 := hid (alloc_new H4.out 54 z)
    have G6_18 := hid H4.out.size
    clear hK K
    (try simp only [Act.put, zA, zB, zC])
    refine wpAnyH_ready (rs := [2]) (by kernel_rfl) (by simp) ?_
    refine' (AllReadyH.cons (o := _) ?hir19_2 (fun K hK => ?br19_2) AllReadyH.nil)
    case hir19_2 => (simp only [zD, zE, zF]; rfl)
    case br19_2 =>
     go_simp
     refine (rMul _ _ _).mono ?_
     rintro e w20 ⟨rfl, hb20⟩
     have H20 := hid (H18.out.trans (hb20.mono H18.out.size))
     have N6_20 := hid (N6_18.out.old hb20)
     clear hb20
     go_wp2_with fail
     refine hK.out _ _ ?_ (fun hHeld => ?_)
     exact H20.out
     clear hK K
     (try simp only [Act.put, zA, zB, zC])
     refine wpAnyH_ready (rs := [4]) (by kernel_rfl) (by simp) ?_
     refine' (AllReadyH.cons (o := _) ?hir21_4 (fun K hK => ?br21_4) AllReadyH.nil)
     case hir21_4 => (simp only [zD, zE, zF]; rfl)
     case br21_4 =>
      go_simp
      refine (CA.out _).mono ?_
      rintro e w22 ⟨rfl, hb22⟩
      have H22 := hid (H20.out.trans (hb22.mono H20.out.size))
      have N6_22 := hid (N6_20.out.old hb22)
      clear hb22
      go_wp2_with fail
      refine hK.out _ _ ?_ (fun hHeld => ?_)
      exact H22.out
      clear hK K
      (try simp only [Act.put, zA, zB, zC])
      refine wpAnyH_ready (rs := [6]) (by kernel_rfl) (by simp) ?_
      refine' (AllReadyH.cons (o := _) ?hir23_6 (fun K hK => ?br23_6) AllReadyH.nil)
      case hir23_6 => (simp only [zD, zE, zF]; rfl)
      case br23_6 =>
       refine step_of_wp rfl ?_
       refine wp_store_row 54 (.tmp 6) (.tmp 15) rfl _ (cF ov) rfl rfl 54 _ N6_22.out (cF_ok _).1 (oz.out _) (cF_ok _).2 ?_
       refine hK.out _ _ ?_ (fun hHeld => ?_)
       exact below_row H22.out G6_18.out _
       clear hK K
       (try simp only [Act.put, zA, zB, zC])
       refine wpAnyH_done (by kernel_rfl) ?_ _
       have L2 := Nat.lt_of_lt_of_le X2.out.lt G6_18.out
       have L4 := Nat.lt_of_lt_of_le X4.out.lt G6_18.out
       have L5 := Nat.lt_of_lt_of_le X5.out.lt G6_18.out
       have HF := hid (below_row (HB.out.trans (H22.out.mono HB.out.size)) (Nat.le_of_lt (Nat.lt_of_succ_lt L2)) (cF ov))
       have F6 := hid (N6_22.out.row (cF ov))
       have F2 := hid ((X2.out.old H22.out).rowFar (Nat.ne_of_lt L2) (cF ov))
       have F4 := hid ((X4.out.old H22.out).rowFar (Nat.ne_of_lt L4) (cF ov))
       have F5 := hid ((X5.out.old H22.out).rowFar (Nat.ne_of_lt L5) (cF ov))
       have L2 := hid L2
       clear hHeld L4 L5
       go_wp2_with fail
       go_meet
       exact ⟨_, rfl, F6.out, F2.out, F4.out, F5.out, HF.out, L2.out⟩
  case br3_5 =>
   go_simp
   refine hK.out _ _ ?_ (fun hHeld => ?_)
   ·exact (HBW2.out.alloc HBW2.out.size _)
   have H25 := hid (HBW2.out.alloc HBW2.out.size (.cells z 54))
   have N6_25 := hid (alloc_new HBW2.out 54 z)
   have G6_25 := hid HBW2.out.size
   clear hK K
   (try simp only [Act.put, zA, zB, zC])
   refine wpAnyH_ready (rs := [0]) (by kernel_rfl) (by simp) ?_
   refine' (AllReadyH.cons (o := _) ?hir26_0 (fun K hK => ?br26_0) AllReadyH.nil)
   case hir26_0 => (simp only [zD, zE, zF]; rfl)
   case br26_0 =>
    go_simp
    refine (refD_any _).mono ?_
    rintro e w27 ⟨rfl, hb27⟩
    have H27 := hid (H25.out.trans (hb27.mono H25.out.size))
    have N6_27 := hid (N6_25.out.old hb27)
    clear hb27
    go_wp2_with fail
    refine hK.out _ _ ?_ (fun hHeld => ?_)
    exact H27.out
    clear hK K
    (try simp only [Act.put, zA, zB, zC])
    refine wpAnyH_ready (rs := [2]) (by kernel_rfl) (by simp) ?_
    refine' (AllReadyH.cons (o := _) ?hir28_2 (fun K hK => ?br28_2) AllReadyH.nil)
    case hir28_2 => (simp only [zD, zE, zF]; rfl)
    case br28_2 =>
     go_simp
     refine (rMul _ _ _).mono ?_
     rintro e w29 ⟨rfl, hb29⟩
     have H29 := hid (H27.out.trans (hb29.mono H27.out.size))
     have N6_29 := hid (N6_27.out.old hb29)
     clear hb29
     go_wp2_with fail
     refine hK.out _ _ ?_ (fun hHeld => ?_)
     exact H29.out
     clear hK K
     (try simp only [Act.put, zA, zB, zC])
     refine wpAnyH_ready (rs := [4]) (by kernel_rfl) (by simp) ?_
     refine' (AllReadyH.cons (o := _) ?hir30_4 (fun K hK => ?br30_4) AllReadyH.nil)
     case hir30_4 => (simp only [zD, zE, zF]; rfl)
     case br30_4 =>
      go_simp
      refine (CA.out _).mono ?_
      rintro e w31 ⟨rfl, hb31⟩
      have H31 := hid (H29.out.trans (hb31.mono H29.out.size))
      have N6_31 := hid (N6_29.out.old hb31)
      clear hb31
      go_wp2_with fail
      refine hK.out _ _ ?_ (fun hHeld => ?_)
      exact H31.out
      clear hK K
      (try simp only [Act.put, zA, zB, zC])
      refine wpAnyH_ready (rs := [6]) (by kernel_rfl) (by simp) ?_
      refine' (AllReadyH.cons (o := _) ?hir32_6 (fun K hK => ?br32_6) AllReadyH.nil)
      case hir32_6 => (simp only [zD, zE, zF]; rfl)
      case br32_6 =>
       refine step_of_wp rfl ?_
       refine wp_store_row 54 (.tmp 6) (.tmp 15) rfl _ (cF ov) rfl rfl 54 _ N6_31.out (cF_ok _).1 (oz.out _) (cF_ok _).2 ?_
       refine hK.out _ _ ?_ (fun hHeld => ?_)
       exact below_row H31.out G6_25.out _
       clear hK K
       (try simp only [Act.put, zA, zB, zC])
       refine wpAnyH_done (by kernel_rfl) ?_ _
       have L2 := Nat.lt_of_lt_of_le X2.out.lt G6_25.out
       have L4 := Nat.lt_of_lt_of_le X4.out.lt G6_25.out
       have L5 := Nat.lt_of_lt_of_le X5.out.lt G6_25.out
       have HF := hid (below_row (HB.out.trans (H31.out.mono HB.out.size)) (Nat.le_of_lt (Nat.lt_of_succ_lt L2)) (cF ov))
       have F6 := hid (N6_31.out.row (cF ov))
       have F2 := hid ((X2.out.old H31.out).rowFar (Nat.ne_of_lt L2) (cF ov))
       have F4 := hid ((X4.out.old H31.out).rowFar (Nat.ne_of_lt L4) (cF ov))
       have F5 := hid ((X5.out.old H31.out).rowFar (Nat.ne_of_lt L5) (cF ov))
       have L2 := hid L2
       clear hHeld L4 L5
       go_wp2_with fail
       go_meet
       exact ⟨_, rfl, F6.out, F2.out, F4.out, F5.out, HF.out, L2.out⟩
 case rest =>
  obtain ⟨g6, rfl, k6, k2, k4, k5, kb, kl⟩ := hcut
  generalize wc = W3 at *
  have X6 := hid k6
  have X2 := hid k2
  have X4 := hid k4
  have X5 := hid k5
  have HB := hid kb
  have G6 := hid kl
  clear k6 k2 k4 k5 kb kl hz0
  go_upto_region 4 with fail
  (try simp only [Act.put, zA, zB, zC])
  refine wp_region_held_drew (S := fun V => Far (w.heap.size + 1) W3 V) (by kernel_rfl) (Far.of (Below.refl _ _).drew) (fun hHeld => ?_)
  have HBW3 := hid ((Below.refl W3.heap.size W3).drew)
  generalize W3.drew = VW3 at *
  refine' wpAnyH_take (i := 0) (oi := _) (v := .agg (cF yy)) ?hit34 ?hst34 ?hft34 ?hrt34 ?hQt34 ?hyt34 ?hSt34 ?_
  case hit34 => (simp only [zD, zE, zF]; rfl)
  case hst34 | hft34 | hrt34 => kernel_rfl
  case hQt34 => exact fun _ _ _ h => h
  case hSt34 => assumption
  case hyt34 =>
   refine Or.inl ⟨by rfl, ?_⟩
   intro W hS
   exact quiet_load_row 54 (.tmp 5) _ rfl 54 (cF yy) _ (hS _ _ _ (by have := G4.out; have := G5.out; have := G6.out; omega) X5.out) Tryz.underlying54 rfl (cF_ok _).1 rfl
  (try simp only [Act.put, zA, zB, zC])
  refine' wpAnyH_take (i := 1) (oi := _) (v := .agg (cF one)) ?hit35 ?hst35 ?hft35 ?hrt35 ?hQt35 ?hyt35 ?hSt35 ?_
  case hit35 => (simp only [zD, zE, zF]; rfl)
  case hst35 | hft35 | hrt35 => kernel_rfl
  case hQt35 => exact fun _ _ _ h => h
  case hSt35 => assumption
  case hyt35 =>
   refine Or.inl ⟨by rfl, ?_⟩
   intro W hS
   exact quiet_load_row 54 (.tmp 4) _ rfl 54 (cF one) _ (hS _ _ _ (by have := G4.out; have := G5.out; have := G6.out; omega) X4.out) Tryz.underlying54 rfl (cF_ok _).1 rfl
  (try simp only [Act.put, zA, zB, zC])
  refine' wpAnyH_take (i := 3) (oi := _) (v := .agg (cF ov)) ?hit36 ?hst36 ?hft36 ?hrt36 ?hQt36 ?hyt36 ?hSt36 ?_
  case hit36 => (simp only [zD, zE, zF]; rfl)
  case hst36 | hft36 | hrt36 => kernel_rfl
  case hQt36 => exact fun _ _ _ h => h
  case hSt36 => assumption
  case hyt36 =>
   refine Or.inl ⟨by rfl, ?_⟩
   intro W hS
   exact quiet_load_row 54 (.tmp 6) _ rfl 54 (cF ov) _ (hS _ _ _ (by have := G4.out; have := G5.out; have := G6.out; omega) X6.out) Tryz.underlying54 rfl (cF_ok _).1 rfl
  (try simp only [Act.put, zA, zB, zC])
  refine wpAnyH_ready (rs := [2]) (by kernel_rfl) (by simp) ?_
  refine' (AllReadyH.cons (o := _) ?hir37_2 (fun K hK => ?br37_2) AllReadyH.nil)
  case hir37_2 => (simp only [zD, zE, zF]; rfl)
  case br37_2 =>
   go_simp
   refine (rSub _ _ _).mono ?_
   rintro e w38 ⟨rfl, hb38⟩
   have H38 := hid (HBW3.out.trans (hb38.mono HBW3.out.size))
   clear hb38
   go_wp2_with fail
   refine hK.out _ _ ?_ (fun hHeld => ?_)
   exact Far.of H38.out
   clear hK K
   (try simp only [Act.put, zA, zB, zC])
   refine wpAnyH_ready (rs := [4]) (by kernel_rfl) (by simp) ?_
   refine' (AllReadyH.cons (o := _) ?hir39_4 (fun K hK => ?br39_4) AllReadyH.nil)
   case hir39_4 => (simp only [zD, zE, zF]; rfl)
   case br39_4 =>
    go_simp
    refine (rInv _ _).mono ?_
    rintro e w40 ⟨rfl, hb40⟩
    have H40 := hid (H38.out.trans (hb40.mono H38.out.size))
    clear hb40
    go_wp2_with fail
    refine hK.out _ _ ?_ (fun hHeld => ?_)
    exact Far.of H40.out
    clear hK K
    (try simp only [Act.put, zA, zB, zC])
    refine wpAnyH_ready (rs := [5]) (by kernel_rfl) (by simp) ?_
    refine' (AllReadyH.cons (o := _) ?hir41_5 (fun K hK => ?br41_5) AllReadyH.nil)
    case hir41_5 => (simp only [zD, zE, zF]; rfl)
    case br41_5 =>
     go_simp
     refine (CS.out _).mono ?_
     rintro e w42 ⟨rfl, hb42⟩
     have H42 := hid (H40.out.trans (hb42.mono H40.out.size))
     clear hb42
     go_wp2_with fail
     refine hK.out _ _ ?_ (fun hHeld => ?_)
     exact Far.of H42.out
     clear hK K
     (try simp only [Act.put, zA, zB, zC])
     refine wpAnyH_ready (rs := [6]) (by kernel_rfl) (by simp) ?_
     refine' (AllReadyH.cons (o := _) ?hir43_6 (fun K hK => ?br43_6) AllReadyH.nil)
     case hir43_6 => (simp only [zD, zE, zF]; rfl)
     case br43_6 =>
      go_simp
      refine (CR.out _).mono ?_
      rintro e w44 ⟨rfl, hb44⟩
      have H44 := hid (H42.out.trans (hb44.mono H42.out.size))
      clear hb44
      go_wp2_with fail
      refine hK.out _ _ ?_ (fun hHeld => ?_)
      exact Far.of H44.out
      clear hK K
      (try simp only [Act.put, zA, zB, zC])
      refine' wpAnyH_take (i := 7) (oi := _) (v := _) ?hit45 ?hst45 ?hft45 ?hrt45 ?hQt45 ?hyt45 ?hSt45 ?_
      case hit45 => (simp only [zD, zE, zF]; rfl)
      case hst45 | hft45 | hrt45 => kernel_rfl
      case hQt45 => exact fun _ _ _ h => h
      case hSt45 => assumption
      case hyt45 =>
       refine Or.inl ⟨by rfl, ?_⟩
       intro w hSw
       (try dsimp only at hSw)
       go_simp
       all_goals (with_reducible rfl)
      (try simp only [Act.put, zA, zB, zC])
      refine' wpAnyH_take (i := 8) (oi := _) (v := _) ?hit46 ?hst46 ?hft46 ?hrt46 ?hQt46 ?hyt46 ?hSt46 ?_
      case hit46 => (simp only [zD, zE, zF]; rfl)
      case hst46 | hft46 | hrt46 => kernel_rfl
      case hQt46 => exact fun _ _ _ h => h
      case hSt46 => assumption
      case hyt46 =>
       refine Or.inl ⟨by rfl, ?_⟩
       intro w hSw
       (try dsimp only at hSw)
       go_simp
       all_goals (with_reducible rfl)
      (try simp only [Act.put, zA, zB, zC])
      refine wpAnyH_ready (rs := [9]) (by kernel_rfl) (by simp) ?_
      refine' (AllReadyH.cons (o := _) ?hir47_9 (fun K hK => ?br47_9) AllReadyH.nil)
      case hir47_9 => (simp only [zD, zE, zF]; rfl)
      case br47_9 =>
       refine step_of_wp rfl ?_
       refine wp_store_row 54 (.tmp 2) (.tmp 23) rfl (w.heap.size + 1) (cF r) rfl rfl 54 z (X2.out.old H44.out) (cF_ok _).1 (oz.out _) (cF_ok _).2 ?_
       refine hK.out _ _ ?_ (fun hHeld => ?_)
       exact (Far.of H44.out).row _
       clear hK K
       (try simp only [Act.put, zA, zB, zC])
       refine' wpAnyH_take (i := 10) (oi := _) (v := _) ?hit49 ?hst49 ?hft49 ?hrt49 ?hQt49 ?hyt49 ?hSt49 ?_
       case hit49 => (simp only [zD, zE, zF]; rfl)
       case hst49 | hft49 | hrt49 => kernel_rfl
       case hQt49 => exact fun _ _ _ h => h
       case hSt49 => assumption
       case hyt49 =>
        refine Or.inl ⟨by rfl, ?_⟩
        intro w hSw
        (try dsimp only at hSw)
        go_simp
        all_goals (with_reducible rfl)
       (try simp only [Act.put, zA, zB, zC])
       refine wpAnyH_done (by kernel_rfl) ?_ _
       have HF := hid (below_row (HB.out.trans (H44.out.mono HB.out.size)) (Nat.le_succ _) (cF r))
       have F2 := hid ((X2.out.old H44.out).row (cF r))
       clear hHeld
       go_wp2_with fail
       refine bodyPost_ret (v := .tuple #[.agg (cF r), .bool b]) ?_ rfl ⟨rfl, HF.out⟩
       exact results_row_tmp Tryz.results55 _ _ (w.heap.size + 1) 54 _ _ _ _ rfl rfl F2.out Tryz.underlying54 (cF_ok _).1
end Go.Proofs.YtcfogpeinjehbaaGreatDoor
end

section
namespace Go.Proofs.YtcfogpeinjehbaaGreatDoor
open Go Go.Proofs Go.RowKit F5
def pV (x y z : Fp) : Array Value := cF x ++ cF y ++ cF z
theorem pV_size (x y z : Fp) : (pV x y z).size = 48 := by simp [pV, cF_size]
theorem pV_info (x y z : Fp) : (Tryz.prog.info? 56).map (·.size) = some (pV x y z).size := by rw [pV_size]; kernel_rfl
theorem pV_one (x y z : Fp) : (pV x y z).all (·.oneCell') = true := by
 unfold pV
 rw [Array.all_append, Array.all_append, (cF_ok x).2, (cF_ok y).2, (cF_ok z).2]; rfl
theorem pV_sz (x y z x' y' z' : Fp) : (pV x y z).size = (pV x' y' z').size := by rw [pV_size, pV_size]
theorem zeroP (W : World) : (zeroValue 56).run Tryz.prog W = .ok (.agg (pV 0 0 0)) W := by
 have h : pV 0 0 0 = u64s (List.replicate 48 0) := by
  unfold pV cF
  rw [show (0 : Fp).val = 0 from rfl, ← zero16]; rfl
 rw [h]; exact (zero_of_info (n := 48) (by kernel_rfl)).1 W
theorem built_P (x y z : Fp) : Tryz.prog.built 56 [(0, .agg (cF x)), (1, .agg (cF y)), (2, .agg (cF z))] = some (pV x y z) := by kernel_rfl
theorem built_YZ (y z : Fp) : Tryz.prog.built 56 [(1, .agg (cF y)), (2, .agg (cF z))] = some (pV 0 y z) := by kernel_rfl
theorem built_nilP : Tryz.prog.built 56 [] = some (pV 0 0 0) := by kernel_rfl
theorem pV_x {w : World} {g T : Nat} {x y z : Fp} (h : Blk w g T (pV x y z)) (j : Nat) (v : Value) (hj : (cF x)[j]? = some v) : w.cell? ⟨g, 0 + j, none⟩ = some v := by
 have hl : j < 16 := by rw [← cF_size x]; exact (Array.getElem?_eq_some_iff.1 hj).1
 rw [h.cell, ← hj, pV, Nat.zero_add, Array.getElem?_append_left (by simp [cF_size]; omega), Array.getElem?_append_left (by rw [cF_size]; exact hl)]
theorem pV_y {w : World} {g T : Nat} {x y z : Fp} (h : Blk w g T (pV x y z)) (j : Nat) (v : Value) (hj : (cF y)[j]? = some v) : w.cell? ⟨g, 16 + j, none⟩ = some v := by
 have hl : j < 16 := by rw [← cF_size y]; exact (Array.getElem?_eq_some_iff.1 hj).1
 rw [h.cell, ← hj, pV, Array.getElem?_append_left (by simp [cF_size]; omega), Array.getElem?_append_right (by rw [cF_size]; omega), cF_size, Nat.add_sub_cancel_left]
theorem pV_z {w : World} {g T : Nat} {x y z : Fp} (h : Blk w g T (pV x y z)) (j : Nat) (v : Value) (hj : (cF z)[j]? = some v) : w.cell? ⟨g, 32 + j, none⟩ = some v := by
 rw [h.cell, ← hj, pV, Array.getElem?_append_right (by simp [cF_size])]
 simp [cF_size]
theorem quiet_load_at {P : Program} {o : Oper} {ev : Operand → Value} {w : World} (t : TypeId) (x : Operand) (g off : Nat) (hx : ev x = .pointer (some ⟨g, off, none⟩)) (e : TypeId) (n : Nat) (cs : Array Value) (hu : P.underlying t = some (.array n e)) (hi : (P.info? t).map (·.size) = some cs.size)
  (hc : ∀ j v, cs[j]? = some v → w.cell? ⟨g, off + j, none⟩ = some v) (ho : o.op = .load t x) : (execOp ev o).run P w = .ok (.value (.agg cs)) w := by
 unfold execOp
 simp only [ho, hx, Instr.loadAt, Instr.sureAddr, Sem.run_bind, Sem.run_pure, Result.andThen_ok, run_loadVar_at w g off t e n cs hu hi hc]
theorem quiet_build_to {P : Program} {o : Oper} {ev : Operand → Value} {w : World} (t : TypeId) (parts : Array (Nat × Operand)) (ho : o.op = .build t parts)
  (vals : List (Nat × Value)) (hv : (parts.map fun (i, x) => (i, ev x)).toList = vals) (cells : Array Value) (hb : P.built t vals = some cells) : (execOp ev o).run P w = .ok (.value (.agg cells)) w := by
 unfold execOp
 simp only [ho, Sem.run_bind, run_build w t _ cells (by rw [hv]; exact hb), Result.andThen_ok, Sem.run_pure]
theorem two_pts (w : World) (a b : Array Value) : Blk ((w.alloc (.cells a 56)).alloc (.cells b 56)) w.heap.size 56 a ∧
  Blk ((w.alloc (.cells a 56)).alloc (.cells b 56)) (w.heap.size + 1) 56 b ∧ Below w.heap.size w ((w.alloc (.cells a 56)).alloc (.cells b 56)) := by
 refine ⟨(Blk.new w _ a).alloc _, ?_, ((Below.refl _ _).alloc (Nat.le_refl _) _).alloc (by simp) _⟩
 have := Blk.new (w.alloc (.cells a 56)) 56 b
 rwa [show (w.alloc (.cells a 56)).heap.size = w.heap.size + 1 by simp] at this
end Go.Proofs.YtcfogpeinjehbaaGreatDoor
end

section
namespace Go.Proofs.YtcfogpeinjehbaaGreatDoor
open Go Go.Proofs Go.RowKit F5
/-- What is known of a point's cells. -/
theorem pV_ok (x y z : Fp) : (Tryz.prog.info? 56).map (·.size) = some (pV x y z).size ∧ (pV x y z).all (·.oneCell') = true ∧ (pV 0 0 0).size = (pV x y z).size := ⟨pV_info _ _ _, pV_one _ _ _, pV_sz _ _ _ _ _ _⟩
set_option maxHeartbeats 400000 in
set_option maxRecDepth 100000 in
theorem refZero_any (w : World) : Calls Tryz.prog 57 #[] w fun e w' => e = .returned (.agg (pV 0 1 1)) ∧ Below w.heap.size w w' := by
 obtain ⟨z, hz⟩ : ∃ z, Hid (z = pV 0 0 0) := ⟨_, hid rfl⟩
 have hz0 : ∀ W, (zeroValue 56).run Tryz.prog W = .ok (.agg z) W := by rw [hz.out]; exact zeroP
 obtain ⟨one, h1⟩ : ∃ a : Fp, Hid (a = 1) := ⟨_, hid rfl⟩
 have C1 : Hid (∀ V, Calls Tryz.prog 52 #[.int .u64 1] V fun e w' => e = .returned (.agg (cF one)) ∧ Below V.heap.size V w') := hid fun V => rOf 1 (by decide) one (by rw [h1.out]; exact fv _ _ (by decide)) _ rfl V
 rw [← h1.out]
 have hBu := hid (built_YZ one one)
 have ok := hid (pV_ok 0 one one)
 rw [← hz.out] at ok
 generalize pV 0 one one = R at *
 generalize cF one = c1 at *
 have X0 := hid (Blk.new w 56 z)
 have HB := hid ((Below.refl w.heap.size w).alloc (Nat.le_refl _) (.cells z 56))
 clear hz h1
 go_enter Tryz.func57, Tryz.ntmps57
 go_wp2_with fail
 generalize w.alloc (.cells z 56) = W at *
 refine (C1.out _).mono ?_
 rintro e w1 ⟨rfl, hb⟩
 have X0 := hid (X0.out.old hb)
 have HB := hid (HB.out.trans (hb.mono HB.out.size))
 clear hb
 go_wp2_with fail
 refine (C1.out _).mono ?_
 rintro e w2 ⟨rfl, hb⟩
 have X0 := hid (X0.out.old hb)
 have HB := hid (HB.out.trans (hb.mono HB.out.size))
 clear hb
 have X1 := hid (X0.out.row R)
 have HF := hid (below_row HB.out (Nat.le_refl _) R)
 go_wp2_with (first | (refine wpList_build_to rfl 56 #[(1, .tmp 1), (2, .tmp 2)] rfl [(1, .agg c1), (2, .agg c1)] (by simp [Act.eval, Act.put]) R hBu.out ?_) | (refine wpList_store_row rfl 56 (.tmp 0) (.tmp 3) rfl w.heap.size _ rfl rfl 56 z X0.out ok.out.1 ok.out.2.2 ok.out.2.1 ?_))
 refine bodyPost_ret (v := .agg R) ?_ rfl ⟨rfl, HF.out⟩
 exact results_cell_row Tryz.results57 _ _ w.heap.size 56 _ (0, 0) _ rfl X1.out Tryz.underlying56 rfl ok.out.1
end Go.Proofs.YtcfogpeinjehbaaGreatDoor
end

section
namespace Go.Proofs.YtcfogpeinjehbaaGreatDoor
open Go Go.Proofs Go.RowKit F5
set_option maxHeartbeats 400000 in
set_option maxRecDepth 100000 in
theorem refBase_any (w : World) : Calls Tryz.prog 21 #[] w fun e w' => e = .returned (.agg (pV pbase.x pbase.y 1)) ∧ Below w.heap.size w w' := by
 obtain ⟨z, hz⟩ : ∃ z, Hid (z = pV 0 0 0) := ⟨_, hid rfl⟩
 have hz0 : ∀ W, (zeroValue 56).run Tryz.prog W = .ok (.agg z) W := by rw [hz.out]; exact zeroP
 obtain ⟨zf, hzf⟩ : ∃ z, Hid (z = cF 0) := ⟨_, hid rfl⟩
 have hzf0 : ∀ W, (zeroValue 54).run Tryz.prog W = .ok (.agg zf) W := by rw [hzf.out]; exact zeroF
 have of : Hid (∀ a : Fp, zf.size = (cF a).size) := hid (fun a => by rw [hzf.out]; exact cF_sz _ _)
 obtain ⟨one, h1⟩ : ∃ a : Fp, Hid (a = 1) := ⟨_, hid rfl⟩
 have C1 : Hid (∀ V, Calls Tryz.prog 52 #[.int .u64 1] V fun e w' => e = .returned (.agg (cF one)) ∧ Below V.heap.size V w') := hid fun V => rOf 1 (by decide) one (by rw [h1.out]; exact fv _ _ (by decide)) _ rfl V
 rw [← h1.out]
 obtain ⟨a, ha⟩ : ∃ a : Fp, Hid (a = 4) := ⟨_, hid rfl⟩
 obtain ⟨b, hb⟩ : ∃ a : Fp, Hid (a = 5) := ⟨_, hid rfl⟩
 have C4 : Hid (∀ V, Calls Tryz.prog 52 #[.int .u64 4] V fun e w' => e = .returned (.agg (cF a)) ∧ Below V.heap.size V w') := hid fun V => rOf 4 (by decide) a (by rw [ha.out]; exact fv _ _ (by decide)) _ rfl V
 have C5 : Hid (∀ V, Calls Tryz.prog 52 #[.int .u64 5] V fun e w' => e = .returned (.agg (cF b)) ∧ Below V.heap.size V w') := hid fun V => rOf 5 (by decide) b (by rw [hb.out]; exact fv _ _ (by decide)) _ rfl V
 obtain ⟨x, hx⟩ : ∃ a : Fp, Hid (a = pbase.x) := ⟨_, hid rfl⟩
 obtain ⟨y, hy⟩ : ∃ a : Fp, Hid (a = pbase.y) := ⟨_, hid rfl⟩
 have CM : Hid (∀ V, Calls Tryz.prog 53 #[.agg (cF a), .agg (cF (finv b))] V fun e w' => e = .returned (.agg (cF y)) ∧ Below V.heap.size V w') := hid fun V => by
  have := rMul a (finv b) V
  rwa [show a * finv b = y by rw [ha.out, hb.out, hy.out]; exact base_gy] at this
 obtain ⟨bb, hbb⟩ : ∃ b, Hid (b = decide (hasRoot (xsq y).val)) := ⟨_, hid rfl⟩
 have CX : Hid (∀ V, Calls Tryz.prog 55 #[.agg (cF y)] V fun e w' => e = .returned (.tuple #[.agg (cF x), .bool bb]) ∧ Below V.heap.size V w') := hid fun V => by
  have := refXof_any y V
  rwa [← hbb.out, show rootF (xsq y) = x by rw [hx.out, hy.out]; exact base_x_root.2] at this
 rw [← hx.out, ← hy.out]
 have hBu := hid (built_P x y one)
 have ok := hid (pV_ok x y one)
 rw [← hz.out] at ok
 generalize pV x y one = R at *
 have X0 := hid (Blk.new w 56 z)
 have HB := hid ((Below.refl w.heap.size w).alloc (Nat.le_refl _) (.cells z 56))
 clear hz hzf h1 ha hb hx hy hbb
 go_enter Tryz.func21, Tryz.ntmps21
 go_wp2_with fail
 generalize w.alloc (.cells z 56) = W at *
 refine (C4.out _).mono ?_
 rintro e w1 ⟨rfl, hb⟩
 have X0 := hid (X0.out.old hb)
 have HB := hid (HB.out.trans (hb.mono HB.out.size))
 clear hb
 go_wp2_with fail
 refine (C5.out _).mono ?_
 rintro e w2 ⟨rfl, hb⟩
 have X0 := hid (X0.out.old hb)
 have HB := hid (HB.out.trans (hb.mono HB.out.size))
 clear hb
 go_wp2_with fail
 refine (rInv _ _).mono ?_
 rintro e w3 ⟨rfl, hb⟩
 have X0 := hid (X0.out.old hb)
 have HB := hid (HB.out.trans (hb.mono HB.out.size))
 clear hb
 go_wp2_with fail
 refine (CM.out _).mono ?_
 rintro e w4 ⟨rfl, hb⟩
 have X0 := hid ((X0.out.old hb).alloc (.cells (cF y) 54))
 have HB := hid ((HB.out.trans (hb.mono HB.out.size)).alloc (HB.out.trans (hb.mono HB.out.size)).size (.cells (cF y) 54))
 have X1 := hid (Blk.new w4 54 (cF y))
 clear hb
 go_upto_region 2 with (first | (refine wpList_store_row rfl 54 (.tmp 1) (.tmp 7) rfl w4.heap.size (cF y) rfl rfl 54 _ (heap_alloc_new w4 _) (cF_ok _).1 (of.out _) (cF_ok _).2 ?_; rw [setRow_alloc1]))
 generalize w4.alloc (.cells (cF y) 54) = W1 at *
 generalize w4.heap.size = g1 at *
 go_upto_region 3 with (first | (refine wpList_load_row rfl 54 (.tmp 1) rfl g1 rfl 54 (cF y) (0, 0) _ X1.out Tryz.underlying54 rfl (cF_ok _).1 ?_))
 refine (CX.out _).mono ?_
 rintro e w5 ⟨rfl, hb⟩
 have X0 := hid ((X0.out.old hb).alloc (.cells (cF x) 54))
 have X1 := hid ((X1.out.old hb).alloc (.cells (cF x) 54))
 have HB := hid ((HB.out.trans (hb.mono HB.out.size)).alloc (HB.out.trans (hb.mono HB.out.size)).size (.cells (cF x) 54))
 have X2 := hid (Blk.new w5 54 (cF x))
 clear hb
 go_upto_region 3 with (first | (refine wpList_store_row rfl 54 (.tmp 2) (.tmp 11) rfl w5.heap.size (cF x) rfl rfl 54 _ (heap_alloc_new w5 _) (cF_ok _).1 (of.out _) (cF_ok _).2 ?_; rw [setRow_alloc1]))
 generalize w5.alloc (.cells (cF x) 54) = W2 at *
 generalize w5.heap.size = g2 at *
 have N1 : Hid (g1 ≠ w.heap.size) := hid (by rintro rfl; exact absurd (X0.out.ne_ X1.out (by decide)) (by simp))
 have N2 : Hid (g2 ≠ w.heap.size) := hid (by rintro rfl; exact absurd (X0.out.ne_ X2.out (by decide)) (by simp))
 (try simp only [Act.put, zA, zB, zC])
 refine wp_region_held_drew (S := fun V => Far w.heap.size W2 V) (by kernel_rfl) (Far.of (Below.refl _ _).drew) (fun hHeld => ?_)
 have HBW2 := hid ((Below.refl W2.heap.size W2).drew)
 generalize W2.drew = VW2 at *
 refine' wpAnyH_take (i := 0) (oi := _) (v := .agg (cF x)) ?hit1 ?hst1 ?hft1 ?hrt1 ?hQt1 ?hyt1 ?hSt1 ?_
 case hit1 => (simp only [zD, zE, zF]; rfl)
 case hst1 | hft1 | hrt1 => kernel_rfl
 case hQt1 => exact fun _ _ _ h => h
 case hSt1 => assumption
 case hyt1 =>
  refine Or.inl ⟨by rfl, ?_⟩
  intro W hS
  exact quiet_load_row 54 (.tmp 2) _ rfl 54 (cF x) _ (hS _ _ _ (by have := N1.out; have := N2.out; omega) X2.out) Tryz.underlying54 rfl (cF_ok _).1 rfl
 (try simp only [Act.put, zA, zB, zC])
 refine' wpAnyH_take (i := 1) (oi := _) (v := .agg (cF y)) ?hit2 ?hst2 ?hft2 ?hrt2 ?hQt2 ?hyt2 ?hSt2 ?_
 case hit2 => (simp only [zD, zE, zF]; rfl)
 case hst2 | hft2 | hrt2 => kernel_rfl
 case hQt2 => exact fun _ _ _ h => h
 case hSt2 => assumption
 case hyt2 =>
  refine Or.inl ⟨by rfl, ?_⟩
  intro W hS
  exact quiet_load_row 54 (.tmp 1) _ rfl 54 (cF y) _ (hS _ _ _ (by have := N1.out; have := N2.out; omega) X1.out) Tryz.underlying54 rfl (cF_ok _).1 rfl
 (try simp only [Act.put, zA, zB, zC])
 refine wpAnyH_ready (rs := [2]) (by kernel_rfl) (by simp) ?_
 refine' (AllReadyH.cons (o := _) ?hir3_2 (fun K hK => ?br3_2) AllReadyH.nil)
 case hir3_2 => (simp only [zD, zE, zF]; rfl)
 case br3_2 =>
  go_simp
  refine (C1.out _).mono ?_
  rintro e w4 ⟨rfl, hb4⟩
  have H4 := hid (HBW2.out.trans (hb4.mono HBW2.out.size))
  clear hb4
  go_wp2_with fail
  refine hK.out _ _ ?_ (fun hHeld => ?_)
  exact Far.of H4.out
  clear hK K
  (try simp only [Act.put, zA, zB, zC])
  refine' wpAnyH_take (i := 3) (oi := _) (v := .agg R) ?hit5 ?hst5 ?hft5 ?hrt5 ?hQt5 ?hyt5 ?hSt5 ?_
  case hit5 => (simp only [zD, zE, zF]; rfl)
  case hst5 | hft5 | hrt5 => kernel_rfl
  case hQt5 => exact fun _ _ _ h => h
  case hSt5 => assumption
  case hyt5 =>
   refine Or.inl ⟨by rfl, ?_⟩
   intro W hS
   exact quiet_build_to 56 #[(0, .tmp 13), (1, .tmp 14), (2, .tmp 15)] rfl [(0, .agg (cF x)), (1, .agg (cF y)), (2, .agg (cF one))] (by simp [Act.eval]) R hBu.out
  (try simp only [Act.put, zA, zB, zC])
  refine wpAnyH_ready (rs := [4]) (by kernel_rfl) (by simp) ?_
  refine' (AllReadyH.cons (o := _) ?hir6_4 (fun K hK => ?br6_4) AllReadyH.nil)
  case hir6_4 => (simp only [zD, zE, zF]; rfl)
  case br6_4 =>
   refine step_of_wp rfl ?_
   refine wp_store_row 56 (.tmp 0) (.tmp 16) rfl w.heap.size R rfl rfl 56 z (X0.out.old H4.out) ok.out.1 ok.out.2.2 ok.out.2.1 ?_
   refine hK.out _ _ ?_ (fun hHeld => ?_)
   exact (Far.of H4.out).row _
   clear hK K
   (try simp only [Act.put, zA, zB, zC])
   refine wpAnyH_done (by kernel_rfl) ?_ _
   have HF := hid (below_row (HB.out.trans (H4.out.mono HB.out.size)) (Nat.le_refl _) R)
   have F2 := hid ((X0.out.old H4.out).row R)
   clear hHeld
   go_wp2_with fail
   refine bodyPost_ret (v := .agg R) ?_ rfl ⟨rfl, HF.out⟩
   exact results_cell_row Tryz.results21 _ _ w.heap.size 56 _ (0, 0) _ rfl F2.out Tryz.underlying56 rfl ok.out.1
end Go.Proofs.YtcfogpeinjehbaaGreatDoor
end
