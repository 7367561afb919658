/-
  The contract of the document's Sum (package greffierref04). Conditions: at most 2^38 bytes.
-/
import Derived.Test.YtblielcmjdnlfaaShaRef2
import Derived.StillTailTactics
import Derived.Deep.LoopGhost
set_option linter.unusedVariables false
set_option linter.unusedSimpArgs false
namespace Go.Proofs.Ytblielcmjdnlfaa
open Go Go.Proofs Go.RowKit Sha5

theorem info36 : (Try.prog.info? 36).map (fun i => (i.zero, i.size, i.bytes)) = some (some (.int .u64 0), 1, 8) := by kernel_rfl
theorem madeWords : madeCells #[Value.int .u64 0] 80 = u64s (List.replicate 80 0) := by kernel_rfl
theorem first_st (w : World) : Calls Try.prog 15 #[] w fun e w' => e = .returned (.agg (stA H0)) ∧ Below w.heap.size w w' := first_any w
theorem turn_same (x n : Nat) (hx : x < M) (h0 : 0 < n) (h1 : n < 64) (w : World) :
    Calls Try.prog 18 #[.int .u64 (x : Int), .int .u64 (n : Int)] w fun e w' => e = .returned (.int .u64 (rot x n : Nat)) ∧ w' = w :=
  (turn_any x n hx h0 h1 w).mono fun _ _ ⟨h, h'⟩ => ⟨h, h'.symm⟩

theorem stA_get (s : St) (i : Nat) (h : i < 8) : (stA s)[i]? = some (.int .u64 ((s.list.getD i 0 : Nat) : Int)) := by rw [stA_eq]; exact u64s_get _ _ h
theorem owns_more {w : World} {B B' : Nat} {v : Value} {n : Nat} {xs : List Value} (h : w.ownsRow B 5 1 v n xs) (hB : B' ≤ B) : w.ownsRow B' 5 1 v n xs := by
  refine ⟨h.1, ?_⟩
  rcases h.2 with h1 | ⟨g, cap, cur, h1, h2, h3⟩
  · exact .inl h1
  · exact .inr ⟨g, cap, cur, h1, by omega, h3⟩

/-- in the loop over the blocks. -/
def Out (gs gk : Nat) (A : Option Addr) (L : Nat) (all : List UInt8) (w : World) (k : Nat) (wr : World) : Prop :=
  Blk wr gs 37 (stA (blocks KS H0 all k)) ∧ Blk wr gk 39 (u64s KS) ∧ Src wr gs A L all ∧ Below w.heap.size w wr
theorem Out.old {gs gk L k : Nat} {A : Option Addr} {all : List UInt8} {w wr w' : World} (h : Out gs gk A L all w k wr) (hb : Below wr.heap.size wr w') : Out gs gk A L all w k w' :=
  ⟨h.1.old hb, h.2.1.old hb, h.2.2.1.grown (grown_below hb _), h.2.2.2.trans (hb.mono h.2.2.2.size)⟩

theorem filled_blocks (l : List UInt8) : ∃ q, (filled l).length = 128 * q := by
  unfold filled
  have h := zerosN_spec l.length
  refine ⟨(l.length + 1 + zerosN l.length + 16) / 128, ?_⟩
  simp only [List.length_append, List.length_cons, List.length_replicate, wordBytes, List.length_map, List.length_range]
  omega
theorem filled_length (l : List UInt8) : (filled l).length ≤ l.length + 145 := by
  unfold filled
  have h := zerosN_lt l.length
  simp only [List.length_append, List.length_cons, List.length_replicate, wordBytes, List.length_map, List.length_range]
  omega

set_option maxHeartbeats 8000000 in
set_option maxRecDepth 1000000 in
theorem refSum_any (A : Option Addr) (n c B : Nat) (l : List UInt8) (w : World) (hr : Reads w B 1 A n (Lib.byteCells l)) (hn : n ≤ 274877906944) (hBw : B ≤ w.heap.size) :
    Calls Try.prog 10 #[.slice A n c] w (GrowEnd w.heap.size (sumOf l) w) := by
  have hl : l.length = n := by have := hr.1; simpa [Lib.byteCells_length] using this
  obtain ⟨all, hall⟩ : ∃ all, Hid (all = filled l) := ⟨_, Lib.hid rfl⟩
  obtain ⟨q, hq⟩ : ∃ q, Hid (all.length = 128 * q) := by
    obtain ⟨q, hq⟩ := filled_blocks l
    exact ⟨q, Lib.hid (by rw [hall.out]; exact hq)⟩
  have hlen : all.length ≤ n + 145 := by rw [hall.out, ← hl]; exact filled_length l
  have HLEN := Lib.hid hlen
  clear hlen hl
  obtain ⟨z, hz⟩ : ∃ z, Hid (z = u64s (List.replicate 80 0)) := ⟨_, Lib.hid rfl⟩
  have hz0 : ∀ W, (zeroValue 39).run Try.prog W = .ok (.agg z) W := by
    rw [hz.out]; exact (zero_of_info (n := 80) (by kernel_rfl)).1
  obtain ⟨K, hK⟩ : ∃ K, Hid (K = u64s KS) := ⟨_, Lib.hid rfl⟩
  have hKs : Hid ((Try.prog.info? 39).map (·.size) = some K.size) := by
    show _ = _; rw [hK.out, u64s_size, KS_length]; exact info39
  have hKo : Hid (K.all (·.oneCell') = true) := by show _ = _; rw [hK.out]; exact u64s_one _
  have hKz : Hid (z.size = K.size) := by show _ = _; rw [hz.out, hK.out, u64s_size, u64s_size, KS_length]; rfl
  go_enter Try.func10, Try.ntmps10
  go_wp2_with fail
  refine (first_st _).mono ?_
  rintro e w1 ⟨rfl, hb1⟩
  have hs1 := hb1.size
  go_wp2_with (first | (refine wpList_store_row rfl 37 (.tmp 3) (.tmp 21) rfl w1.heap.size (stA H0) rfl rfl 37 _ (heap_alloc_new w1 _) info37 rfl (u64s_one H0.list) ?_; rw [setRow_alloc1]))
  have hB2 : Blk (w1.alloc (.cells (stA H0) 37)) w1.heap.size 37 (stA H0) := Blk.new _ _ _
  have hb2 : Below w.heap.size w (w1.alloc (.cells (stA H0) 37)) := hb1.alloc hs1 _
  have hz2 : w1.heap.size < (w1.alloc (.cells (stA H0) 37)).heap.size := by simp
  obtain ⟨gs, hgs⟩ : ∃ gs, gs = w1.heap.size := ⟨_, rfl⟩
  rw [← hgs] at hB2 hz2 hs1 ⊢
  generalize w1.alloc (.cells (stA H0) 37) = w2 at *
  clear hb1 hgs
  refine (refConstants_any _).mono ?_
  rintro e w3 ⟨rfl, hb3⟩
  rw [← hK.out]
  have hB3 := hB2.old hb3
  have hb4 := hb2.trans (hb3.mono hb2.size)
  have hz3 : gs < w3.heap.size := Nat.lt_of_lt_of_le hz2 hb3.size
  clear hB2 hb2 hz2 hb3
  go_wp2_with (first | (refine wpList_store_row rfl 39 (.tmp 4) (.tmp 22) rfl w3.heap.size K rfl rfl 39 z (heap_alloc_new w3 _) hKs.out hKz.out hKo.out ?_; rw [setRow_alloc1]))
  clear hz0
  have hB5 := hB3.alloc (.cells K 39)
  have hK5 : Blk (w3.alloc (.cells K 39)) w3.heap.size 39 K := Blk.new _ _ _
  have hb5 : Below w.heap.size w (w3.alloc (.cells K 39)) := hb4.alloc hb4.size _
  obtain ⟨gkk, hgk⟩ : ∃ gkk, gkk = w3.heap.size := ⟨_, rfl⟩
  rw [← hgk] at hK5 hz3 ⊢
  generalize w3.alloc (.cells K 39) = w5 at *
  clear hB3 hb4 hgk
  have hgsk : gs ≠ gkk := by omega
  have hF := refFilled_any A n c B l w5 (hr.keep (fun p hp => hb5.cell (by omega))) (by omega) (by have := hb5.size; omega)
  rw [← hall.out] at hF
  have HF := Lib.hid hF
  have HB5 := Lib.hid hB5
  have HK5 := Lib.hid hK5
  have HH5 := Lib.hid hb5
  clear hF hB5 hK5 hb5
  go_wp2_with fail
  refine HF.out.mono ?_
  rintro e w6 ⟨v6, rfl, ho6, hb6⟩
  obtain ⟨A6, c6, rfl, hc6⟩ := own_form_cap ho6
  have hgs5 := HB5.out.lt
  have hgk5 := HK5.out.lt
  have hout : Hid (Out gs gkk A6 all.length all w 0 w6) := Lib.hid ⟨HB5.out.old hb6, by rw [← hK.out]; exact HK5.out.old hb6, src_own ho6 hgs5, HH5.out.trans (hb6.mono HH5.out.size)⟩
  obtain ⟨L, hL⟩ := named all.length
  have hLl : L ≤ 274877908000 := by have := hL.out; have := HLEN.out; omega
  rw [← hL.out] at hout hc6 ⊢
  clear ho6 hb6
  have hmk : ∀ W : World, (Instr.makeSlice 41 (.int .i64 80) (.int .i64 80)).run Try.prog W = .ok (.slice (some ⟨W.heap.size, 0, none⟩) 80 80) (W.alloc (.cells z 36)) := fun W => by
    rw [hz.out, ← madeWords]
    exact run_make_row' (P := Try.prog) 41 36 (.int .u64 0) 8 Try.underlying41 info36 rfl .i64 .i64 80 (by omega) (by omega) W
  go_wp2_with fail
  go_loopg [6] L (fun g0 at_ wr => ∃ (k a : Nat), g0 + a = L ∧ a ≤ 128 * k ∧ 128 * k ≤ a ∧ at_ = .int .i64 (a : Nat) ∧ Out gs gkk A6 L all w k wr)
  case atStart => exact ⟨0, 0, by omega, by omega, by omega, rfl, hout.out⟩
  case round =>
    obtain ⟨k, a, ha1, ha2, ha3, rfl, ho⟩ := hrel
    clear hout
    obtain ⟨W0, rfl⟩ : ∃ W0, W0 = wr := ⟨wr, rfl⟩
    by_cases hlt : a < L
    · have hblk : 128 * k + 128 ≤ all.length := by have := hq.out; have := hL.out; omega
      obtain ⟨G, hG⟩ : ∃ G, Hid (gk = G + 128 ∧ G + (a + 128) = L) := ⟨gk - 128, Lib.hid ⟨by have := hL.out; omega, by have := hL.out; omega⟩⟩
      obtain ⟨b, hb⟩ : ∃ b, Hid (b = (all.drop (128 * k)).take 128) := ⟨_, Lib.hid rfl⟩
      have hbl : Hid (b.length = 128) := by show _ = _; rw [hb.out]; simp; omega
      obtain ⟨ad, rfl, had1, had2, had3⟩ := ho.2.2.1.2 (by omega)
      have hby : Hid (∀ (w8 : World) (i : Nat), Below W0.heap.size W0 w8 → i < 128 → w8.cell? (ad.add (a + i)) = some (.int .u8 ((b.getD i 0).toNat : Int))) := Lib.hid fun w8 i hb8 hi => by
        have e1 : (Lib.byteCells all)[a + i]? = some (.int .u8 ((b.getD i 0).toNat : Int)) := by
          have hai : a + i < all.length := by omega
          have e2 : b.getD i 0 = all.getD (a + i) 0 := by
            rw [hb.out, List.getD_eq_getElem?_getD, List.getD_eq_getElem?_getD, List.getElem?_take, if_pos hi, List.getElem?_drop, show 128 * k + i = a + i by omega]
          rw [e2]
          simp [Lib.byteCells, List.getD, List.getElem?_eq_getElem hai]
        exact (hb8.cell (by rw [block_of_add]; exact had2)).trans (had3 _ _ e1)
      have hob := Lib.hid ho
      clear had1 had2 had3
      have hnew : Below W0.heap.size W0 (W0.alloc (.cells z 36)) := (Below.refl _ _).alloc (Nat.le_refl _) _
      have hT0 : Hid (∃ d, Blk (W0.alloc (.cells z 36)) W0.heap.size 36 d ∧ d = u64s (partW b 0) ∧ Below W0.heap.size W0 (W0.alloc (.cells z 36))) :=
        Lib.hid ⟨z, Blk.new _ _ _, by rw [hz.out, partW_zero], hnew⟩
      clear ho hnew
      go_wp2_with fail
      clear hmk
      go_loopw [8, 9] (fun tv _ w7 => ∃ t : Nat, t ≤ 16 ∧ tv = .int .i64 (t : Nat) ∧ ∃ d, Blk w7 W0.heap.size 36 d ∧ d = u64s (partW b (8 * t)) ∧ Below W0.heap.size W0 w7) (fun tv _ _ => 16 - (intOf tv).toNat)
      case atStart => exact ⟨0, by omega, rfl, hT0.out⟩
      case round =>
        obtain ⟨t, ht, rfl, hd7⟩ := hrel
        by_cases ht16 : t < 16
        · have HD7 := Lib.hid hd7
          clear hd7
          have hdt : decide ((t : Int) < 16) = true := by simp; omega
          go_wp2_with fail
          go_loopg [9] 8 (fun gi iv w8 => ∃ i : Nat, gi + i = 8 ∧ iv = .int .i64 (i : Nat) ∧ ∃ d, Blk w8 W0.heap.size 36 d ∧ d = u64s (partW b (8 * t + i)) ∧ Below W0.heap.size W0 w8)
          case atStart => exact ⟨0, by omega, rfl, HD7.out⟩
          case round =>
            obtain ⟨i, hi8, rfl, d, hBd, hd, hbw⟩ := hrel
            have HI8 := Lib.hid hi8
            clear hi8
            by_cases hi7 : i < 8
            · have hstep := partW_step b (8 * t + i) (by rw [hbl.out]; omega) (by rw [hbl.out]; omega)
              rw [show (8 * t + i) / 8 = t by omega] at hstep
              have hxl : (partW b (8 * t + i)).getD t 0 < M := by rw [partW_get b _ t (by omega)]; exact wordOf_lt _
              have hdk : d[t]? = some (.int .u64 (((partW b (8 * t + i)).getD t 0 : Nat) : Int)) := by
                rw [hd]; exact u64s_get _ _ (by rw [partW_length]; omega)
              have hcell := (hBd.cell t).trans hdk
              have hfz := hBd.frozen t
              have hbyt := hby.out _ (8 * t + i) hbw (by omega)
              rw [show a + (8 * t + i) = a + 8 * t + i by omega] at hbyt
              have hyl := (b.getD (8 * t + i) 0).toNat_lt
              generalize (b.getD (8 * t + i) 0).toNat = y at *
              generalize (partW b (8 * t + i)).getD t 0 = x at *
              obtain ⟨x2, hx2⟩ := named (256 * x % M)
              obtain ⟨o, ho2⟩ := named ((x2 + y) % M)
              have e1 : IntKind.u64.wrap (256 * (x : Int)) = (x2 : Int) := wrap_mul 256 x x2 hx2.out
              have e2 := wrap_sum x2 y o ho2.out
              have hoo : o = (256 * x + y) % M := by rw [ho2.out, hx2.out, Nat.mod_add_mod]
              have hset := hBd.set_ t (.int .u64 (o : Int))
              rw [hd, u64s_set, hoo, hstep, ← hoo] at hset
              have hb8 := hbw.setCell (p := ⟨W0.heap.size, t, none⟩) (Nat.le_refl _) (.int .u64 (o : Int))
              have HS := Lib.hid hset
              have HB8 := Lib.hid hb8
              clear hset hb8 hoo hstep hdk hd hBd hbw
              have t1 : ((a : Int) + 8 * (t : Int) + (i : Int)).toNat = a + 8 * t + i := by omega
              have t2 : IntKind.i64.wrap (8 * (t : Int)) = 8 * (t : Int) := IntWalk.i64_in _ (by omega)
              have t3 : IntKind.i64.wrap ((a : Int) + 8 * (t : Int)) = (a : Int) + 8 * (t : Int) := IntWalk.i64_in _ (by omega)
              have t4 : IntKind.i64.wrap ((a : Int) + 8 * (t : Int) + (i : Int)) = (a : Int) + 8 * (t : Int) + (i : Int) := IntWalk.i64_in _ (by omega)
              have t5 : (0 : Int) ≤ (a : Int) + 8 * (t : Int) + (i : Int) := by omega
              have t6 : (a : Int) + 8 * (t : Int) + (i : Int) < (L : Int) := by have := hL.out; omega
              have t7 : (0 : Int) ≤ (t : Int) := by omega
              have t8 : (t : Int) < 80 := by omega
              go_wp2_with fail
              go_still_tail 19, (by kernel_rfl)
              change wpList _ _ _ _ _ wr.drew
              go_wp2_with fail
              go_roundg (gk - 1)
              case measure => have := HI8.out; omega
              case rel => exact ⟨i + 1, by have := HI8.out; omega, by go_num, _, HS.out.drew, rfl, HB8.out.drew⟩
            · obtain rfl : i = 8 := by have := HI8.out; omega
              have hd9 : Hid (∃ d, Blk wr W0.heap.size 36 d ∧ d = u64s (partW b (8 * (t + 1))) ∧ Below W0.heap.size W0 wr) := Lib.hid ⟨d, hBd, hd, hbw⟩
              clear hBd hd hbw
              go_wp2_with fail
              go_roundw
              case rel => exact ⟨t + 1, by omega, by go_num, hd9.out⟩
              case measure => simp [intOf]; omega
        · obtain rfl : t = 16 := by omega
          obtain ⟨d7, hB7, hd7e, hb7⟩ := hd7
          have hGW : Hid (∃ d, Blk wr W0.heap.size 36 d ∧ d = u64s (grownW b (16 - 16)) ∧ Below W0.heap.size W0 wr) := Lib.hid ⟨d7, hB7, by rw [hd7e, partW_all b hbl.out]; rfl, hb7⟩
          clear hB7 hd7e hb7 hT0
          go_wp2_with fail
          go_loopg [10, 11, 12] 64 (fun gm mv _ _ w8 => ∃ m : Nat, gm + m = 80 ∧ 16 ≤ m ∧ mv = .int .i64 (m : Nat) ∧ ∃ d, Blk w8 W0.heap.size 36 d ∧ d = u64s (grownW b (m - 16)) ∧ Below W0.heap.size W0 w8)
          case atStart => exact ⟨16, by omega, by omega, rfl, hGW.out⟩
          case round =>
            obtain ⟨m, hm0, hm1, rfl, d', hB, hd', hbw⟩ := hrel
            have HM0 := Lib.hid hm0
            clear hm0
            by_cases hlt2 : m < 80
            · have hstep := grownW_step b (m - 16) (by omega)
              rw [show 14 + (m - 16) = m - 2 by omega, show 9 + (m - 16) = m - 7 by omega, show 1 + (m - 16) = m - 15 by omega, show 16 + (m - 16) = m by omega, show m - 16 + 1 = m + 1 - 16 by omega] at hstep
              have hlw : ∀ t, (grownW b (m - 16)).getD t 0 < M := fun t => getD_lt (fun x hx => by
                rw [grownW, List.mem_append] at hx
                rcases hx with h | h
                · exact schedN_lt b _ x h
                · rw [(List.mem_replicate.1 h).2]; decide) t
              have hg : ∀ t, t < 80 → wr.cell? ⟨W0.heap.size, t, none⟩ = some (.int .u64 (((grownW b (m - 16)).getD t 0 : Nat) : Int)) := fun t ht => by
                rw [hB.cell, hd']; exact u64s_get _ _ (by rw [grownW_length _ _ (by omega)]; exact ht)
              have h2 := hg (m - 2) (by omega)
              have h7 := hg (m - 7) (by omega)
              have h15 := hg (m - 15) (by omega)
              have h16 := hg (m - 16) (by omega)
              have h0 := hg m (by omega)
              have hfz := hB.frozen m
              have l2 := hlw (m - 2)
              have l7 := hlw (m - 7)
              have l15 := hlw (m - 15)
              have l16 := hlw (m - 16)
              generalize (grownW b (m - 16)).getD (m - 2) 0 = x2 at *
              generalize (grownW b (m - 16)).getD (m - 7) 0 = x7 at *
              generalize (grownW b (m - 16)).getD (m - 15) 0 = x15 at *
              generalize (grownW b (m - 16)).getD (m - 16) 0 = x16 at *
              generalize (grownW b (m - 16)).getD m 0 = x0 at *
              obtain ⟨r1, hr1⟩ := named (rot x2 19)
              obtain ⟨r2, hr2⟩ := named (rot x2 61)
              obtain ⟨r3, hr3⟩ := named (r1 ^^^ r2)
              obtain ⟨r4, hr4⟩ := named (x2 / 2 ^ 6)
              obtain ⟨a1, ha1'⟩ := named (r3 ^^^ r4)
              obtain ⟨a2, ha2'⟩ := named ((a1 + x7) % M)
              obtain ⟨s1', hs1'⟩ := named (rot x15 1)
              obtain ⟨s2', hs2'⟩ := named (rot x15 8)
              obtain ⟨s3', hs3'⟩ := named (s1' ^^^ s2')
              obtain ⟨s4', hs4'⟩ := named (x15 / 2 ^ 7)
              obtain ⟨a3, ha3'⟩ := named (s3' ^^^ s4')
              obtain ⟨a4, ha4'⟩ := named ((a2 + a3) % M)
              obtain ⟨a5, ha5'⟩ := named ((a4 + x16) % M)
              have lr1 : r1 < M := by rw [hr1.out]; exact rot_lt l2 (by omega)
              have lr2 : r2 < M := by rw [hr2.out]; exact rot_lt l2 (by omega)
              have lr3 : r3 < M := by rw [hr3.out]; exact xor_lt lr1 lr2
              have lr4 : r4 < M := by rw [hr4.out]; exact shr_lt 6 l2
              have ls1 : s1' < M := by rw [hs1'.out]; exact rot_lt l15 (by omega)
              have ls2 : s2' < M := by rw [hs2'.out]; exact rot_lt l15 (by omega)
              have ls3 : s3' < M := by rw [hs3'.out]; exact xor_lt ls1 ls2
              have ls4 : s4' < M := by rw [hs4'.out]; exact shr_lt 7 l15
              have f1 := bits_xor_u64_nat r1 r2 lr1 lr2
              rw [← hr3.out] at f1
              have f2 := bits_xor_u64_nat r3 r4 lr3 lr4
              rw [← ha1'.out] at f2
              have f3 := bits_xor_u64_nat s1' s2' ls1 ls2
              rw [← hs3'.out] at f3
              have f4 := bits_xor_u64_nat s3' s4' ls3 ls4
              rw [← ha3'.out] at f4
              have f5 : (x2 : Int) / 64 = (r4 : Int) := by rw [hr4.out]; simp
              have f6 : (x15 : Int) / 128 = (s4' : Int) := by rw [hs4'.out]; simp
              have e1 := wrap_sum a1 x7 a2 ha2'.out
              have e2 := wrap_sum a2 a3 a4 ha4'.out
              have e3 := wrap_sum a4 x16 a5 ha5'.out
              have q1 : a1 = s1 x2 := by rw [ha1'.out, hr3.out, hr4.out, hr1.out, hr2.out]; rfl
              have q3 : a3 = s0 x15 := by rw [ha3'.out, hs3'.out, hs4'.out, hs1'.out, hs2'.out]; rfl
              have hset := hB.set_ m (.int .u64 (a5 : Int))
              have hnew : (grownW b (m - 16)).set m a5 = grownW b (m + 1 - 16) := by
                rw [← hstep, ha5'.out, ha4'.out, ha2'.out, q1, q3]
                simp only [Nat.mod_add_mod, Nat.add_mod_mod]
              rw [hd', u64s_set, hnew] at hset
              have hb8 := hbw.setCell (p := ⟨W0.heap.size, m, none⟩) (Nat.le_refl _) (.int .u64 (a5 : Int))
              have HS := Lib.hid hset
              have HB8 := Lib.hid hb8
              clear hset hb8 hnew hstep hlw hg hB hd' hbw q1 q3 lr1 lr2 lr3 lr4 ls1 ls2 ls3 ls4 l7 l16
              have C1 : Hid (∀ W : World, Calls Try.prog 18 #[.int .u64 (x2 : Int), .int .u64 19] W fun e w' => e = .returned (.int .u64 (r1 : Int)) ∧ w' = W) := Lib.hid fun W => (turn_same x2 19 l2 (by omega) (by omega) W).mono fun e w' ⟨h, h'⟩ => ⟨by rw [h, hr1.out], h'⟩
              have C2 : Hid (∀ W : World, Calls Try.prog 18 #[.int .u64 (x2 : Int), .int .u64 61] W fun e w' => e = .returned (.int .u64 (r2 : Int)) ∧ w' = W) := Lib.hid fun W => (turn_same x2 61 l2 (by omega) (by omega) W).mono fun e w' ⟨h, h'⟩ => ⟨by rw [h, hr2.out], h'⟩
              have C3 : Hid (∀ W : World, Calls Try.prog 18 #[.int .u64 (x15 : Int), .int .u64 1] W fun e w' => e = .returned (.int .u64 (s1' : Int)) ∧ w' = W) := Lib.hid fun W => (turn_same x15 1 l15 (by omega) (by omega) W).mono fun e w' ⟨h, h'⟩ => ⟨by rw [h, hs1'.out], h'⟩
              have C4 : Hid (∀ W : World, Calls Try.prog 18 #[.int .u64 (x15 : Int), .int .u64 8] W fun e w' => e = .returned (.int .u64 (s2' : Int)) ∧ w' = W) := Lib.hid fun W => (turn_same x15 8 l15 (by omega) (by omega) W).mono fun e w' ⟨h, h'⟩ => ⟨by rw [h, hs2'.out], h'⟩
              clear l2 l15
              have k2 : ((m : Int) - 2).toNat = m - 2 := by omega
              have k7 : ((m : Int) - 7).toNat = m - 7 := by omega
              have k15 : ((m : Int) - 15).toNat = m - 15 := by omega
              have k16 : ((m : Int) - 16).toNat = m - 16 := by omega
              have w2 : IntKind.i64.wrap ((m : Int) - 2) = (m : Int) - 2 := IntWalk.i64_in _ (by omega)
              have p2 : (0 : Int) ≤ (m : Int) - 2 := by omega
              have q2' : (2 : Int) ≤ (m : Int) := by omega
              have r2' : (m : Int) - 2 < 80 := by omega
              have w7 : IntKind.i64.wrap ((m : Int) - 7) = (m : Int) - 7 := IntWalk.i64_in _ (by omega)
              have p7 : (0 : Int) ≤ (m : Int) - 7 := by omega
              have q7' : (7 : Int) ≤ (m : Int) := by omega
              have r7' : (m : Int) - 7 < 80 := by omega
              have w15 : IntKind.i64.wrap ((m : Int) - 15) = (m : Int) - 15 := IntWalk.i64_in _ (by omega)
              have p15 : (0 : Int) ≤ (m : Int) - 15 := by omega
              have q15' : (15 : Int) ≤ (m : Int) := by omega
              have r15' : (m : Int) - 15 < 80 := by omega
              have w16 : IntKind.i64.wrap ((m : Int) - 16) = (m : Int) - 16 := IntWalk.i64_in _ (by omega)
              have p16 : (0 : Int) ≤ (m : Int) - 16 := by omega
              have q16' : (16 : Int) ≤ (m : Int) := by omega
              have r16' : (m : Int) - 16 < 80 := by omega
              have rm : (m : Int) < 80 := by omega
              have pm : (16 : Int) ≤ (m : Int) := by omega
              go_wp2_with fail
              refine wp_region_still_tail 32 (by kernel_rfl) (by kernel_rfl) ?_
              simp only [List.take_succ_cons, List.take_zero, List.drop_succ_cons, List.drop_zero]
              repeat still_step
              still_call (C1.out _)
              repeat still_step
              still_call (C2.out _)
              repeat still_step
              still_call (C3.out _)
              repeat still_step
              still_call (C4.out _)
              repeat still_step
              try refine wpStill_nil ?_
              change wpList _ _ _ _ _ wr.drew
              go_wp2_with fail
              go_roundg (gk - 1)
              case measure => have := HM0.out; omega
              case rel => exact ⟨m + 1, by have := HM0.out; omega, by omega, by go_num, _, HS.out.drew, rfl, HB8.out.drew⟩
            · obtain rfl : m = 80 := by have := HM0.out; omega
              obtain ⟨s0, hs0⟩ : ∃ s0, Hid (s0 = blocks KS H0 all k) := ⟨_, Lib.hid rfl⟩
              have hok0 : s0.ok := by rw [hs0.out]; exact blocks_ok H0_ok k
              have hout2 := hob.out.old hbw
              have hgs2 := hout2.1
              rw [← hs0.out] at hgs2
              rw [show (80 - 16) = 64 from rfl, grownW_all] at hd'
              have HO2 := Lib.hid hout2
              have HGS := Lib.hid hgs2
              have hB' : Hid (Blk wr W0.heap.size 36 (u64s (sched b))) := Lib.hid (by rw [← hd']; exact hB)
              have hgv : Hid (Blk (wr.alloc (.cells (stA s0) 37)) wr.heap.size 37 (stA (rounds KS (sched b) s0 0)) ∧ Below wr.heap.size wr (wr.alloc (.cells (stA s0) 37))) := Lib.hid ⟨Blk.new _ _ _, (Below.refl _ _).alloc (Nat.le_refl _) _⟩
              have HBW := Lib.hid hbw
              clear hB hd' hbw hout2 hgs2 hGW
              go_wp2_with (first | (refine wpList_load_row rfl 37 (.tmp 3) rfl gs rfl 37 (stA s0) (0, 0) _ HGS.out Try.underlying37 rfl info37 ?_) |
                (refine wpList_store_row rfl 37 (.tmp 13) (.tmp 105) rfl wr.heap.size (stA s0) rfl rfl 37 _ (heap_alloc_new wr _) info37 rfl (u64s_one s0.list) ?_; rw [setRow_alloc1]))
              obtain ⟨W1, rfl⟩ : ∃ W1, W1 = wr := ⟨wr, rfl⟩
              generalize W1.alloc (.cells (stA s0) 37) = W2 at *
              generalize stA s0 = a105
              go_loopg [14, 15, 16] 80 (fun gr rv _ _ w9 => ∃ r : Nat, gr + r = 80 ∧ rv = .int .i64 (r : Nat) ∧ Blk w9 W1.heap.size 37 (stA (rounds KS (sched b) s0 r)) ∧ Below W1.heap.size W1 w9)
              case atStart => exact ⟨0, by omega, rfl, hgv.out⟩
              case round =>
                obtain ⟨r, hr0, rfl, hBv, hbv⟩ := hrel
                have HR0 := Lib.hid hr0
                clear hr0
                by_cases hlt3 : r < 80
                · have hwc : wr.cell? ⟨W0.heap.size, r, none⟩ = some (.int .u64 (((sched b).getD r 0 : Nat) : Int)) := ((hB'.out.old hbv).cell r).trans (u64s_get _ _ (by rw [sched_length]; exact hlt3))
                  have hkc : wr.cell? ⟨gkk, r, none⟩ = some (.int .u64 ((KS.getD r 0 : Nat) : Int)) := ((HO2.out.2.1.old hbv).cell r).trans (u64s_get _ _ (by rw [KS_length]; exact hlt3))
                  have hwl : (sched b).getD r 0 < M := getD_lt (sched_lt b) r
                  have hkl := KS_lt r
                  have hro := rounds_ok (K := KS) (W := sched b) hok0 r
                  have hnext : Hid (rounds KS (sched b) s0 (r + 1) = round (rounds KS (sched b) s0 r) (KS.getD r 0) ((sched b).getD r 0)) := rfl
                  have hcs := fun i => hBv.cell i
                  obtain ⟨v, hv⟩ : ∃ v, Hid (v = rounds KS (sched b) s0 r) := ⟨_, Lib.hid rfl⟩
                  rw [← hv.out] at hro hnext hcs hBv
                  obtain ⟨l0, l1, l2, l3, l4, l5, l6, l7⟩ := hro
                  have c0 : wr.cell? ⟨W1.heap.size, 0, none⟩ = some (.int .u64 (v.a : Int)) := hcs 0
                  have c1 : wr.cell? ⟨W1.heap.size, 1, none⟩ = some (.int .u64 (v.b : Int)) := hcs 1
                  have c2 : wr.cell? ⟨W1.heap.size, 2, none⟩ = some (.int .u64 (v.c : Int)) := hcs 2
                  have c3 : wr.cell? ⟨W1.heap.size, 3, none⟩ = some (.int .u64 (v.d : Int)) := hcs 3
                  have c4 : wr.cell? ⟨W1.heap.size, 4, none⟩ = some (.int .u64 (v.e : Int)) := hcs 4
                  have c5 : wr.cell? ⟨W1.heap.size, 5, none⟩ = some (.int .u64 (v.f : Int)) := hcs 5
                  have c6' : wr.cell? ⟨W1.heap.size, 6, none⟩ = some (.int .u64 (v.g : Int)) := hcs 6
                  have c7 : wr.cell? ⟨W1.heap.size, 7, none⟩ = some (.int .u64 (v.h : Int)) := hcs 7
                  clear hcs
                  generalize (sched b).getD r 0 = wd at *
                  generalize KS.getD r 0 = kc at *
                  obtain ⟨r1, hr1⟩ := named (rot v.e 14)
                  obtain ⟨r2, hr2⟩ := named (rot v.e 18)
                  obtain ⟨r3, hr3⟩ := named (r1 ^^^ r2)
                  obtain ⟨r4, hr4⟩ := named (rot v.e 41)
                  obtain ⟨x1, hx1⟩ := named (r3 ^^^ r4)
                  obtain ⟨y1, hy1⟩ := named (v.e &&& v.f)
                  obtain ⟨y2, hy2⟩ := named (v.e ^^^ (M - 1))
                  obtain ⟨y3, hy3⟩ := named (y2 &&& v.g)
                  obtain ⟨x2, hx2⟩ := named (y1 ^^^ y3)
                  obtain ⟨u1, hu1⟩ := named ((v.h + x1) % M)
                  obtain ⟨u2, hu2⟩ := named ((u1 + x2) % M)
                  obtain ⟨u3, hu3⟩ := named ((u2 + kc) % M)
                  obtain ⟨u4, hu4⟩ := named ((u3 + wd) % M)
                  obtain ⟨p1, hp1⟩ := named (rot v.a 28)
                  obtain ⟨p2, hp2⟩ := named (rot v.a 34)
                  obtain ⟨p3, hp3⟩ := named (p1 ^^^ p2)
                  obtain ⟨p4, hp4⟩ := named (rot v.a 39)
                  obtain ⟨x3, hx3⟩ := named (p3 ^^^ p4)
                  obtain ⟨m1, hm1'⟩ := named (v.a &&& v.b)
                  obtain ⟨m2, hm2'⟩ := named (v.a &&& v.c)
                  obtain ⟨m3, hm3'⟩ := named (m1 ^^^ m2)
                  obtain ⟨m4, hm4'⟩ := named (v.b &&& v.c)
                  obtain ⟨x4, hx4⟩ := named (m3 ^^^ m4)
                  obtain ⟨u5, hu5⟩ := named ((x3 + x4) % M)
                  obtain ⟨na, hna⟩ := named ((u4 + u5) % M)
                  obtain ⟨ne, hne⟩ := named ((v.d + u4) % M)
                  have lr1 : r1 < M := by rw [hr1.out]; exact rot_lt l4 (by omega)
                  have lr2 : r2 < M := by rw [hr2.out]; exact rot_lt l4 (by omega)
                  have lr3 : r3 < M := by rw [hr3.out]; exact xor_lt lr1 lr2
                  have lr4 : r4 < M := by rw [hr4.out]; exact rot_lt l4 (by omega)
                  have ly1 : y1 < M := by rw [hy1.out]; exact and_lt l5
                  have ly2 : y2 < M := by rw [hy2.out]; exact xor_lt l4 (by decide)
                  have ly3 : y3 < M := by rw [hy3.out]; exact and_lt l6
                  have lp1 : p1 < M := by rw [hp1.out]; exact rot_lt l0 (by omega)
                  have lp2 : p2 < M := by rw [hp2.out]; exact rot_lt l0 (by omega)
                  have lp3 : p3 < M := by rw [hp3.out]; exact xor_lt lp1 lp2
                  have lp4 : p4 < M := by rw [hp4.out]; exact rot_lt l0 (by omega)
                  have lm1 : m1 < M := by rw [hm1'.out]; exact and_lt l1
                  have lm2 : m2 < M := by rw [hm2'.out]; exact and_lt l2
                  have lm3 : m3 < M := by rw [hm3'.out]; exact xor_lt lm1 lm2
                  have lm4 : m4 < M := by rw [hm4'.out]; exact and_lt l2
                  have f1 := bits_xor_u64_nat r1 r2 lr1 lr2
                  have f2 := bits_xor_u64_nat r3 r4 lr3 lr4
                  have f3 := bits_and_u64_nat v.e v.f l4 l5
                  have f4 : bits .xor .u64 (v.e : Int) 18446744073709551615 = (y2 : Int) := by rw [hy2.out]; exact bits_xor_u64_nat v.e (M - 1) l4 (by decide)
                  have f5 := bits_and_u64_nat y2 v.g ly2 l6
                  have f6 := bits_xor_u64_nat y1 y3 ly1 ly3
                  have f7 := bits_xor_u64_nat p1 p2 lp1 lp2
                  have f8 := bits_xor_u64_nat p3 p4 lp3 lp4
                  have f9 := bits_and_u64_nat v.a v.b l0 l1
                  have f10 := bits_and_u64_nat v.a v.c l0 l2
                  have f11 := bits_xor_u64_nat m1 m2 lm1 lm2
                  have f12 := bits_and_u64_nat v.b v.c l1 l2
                  have f13 := bits_xor_u64_nat m3 m4 lm3 lm4
                  rw [← hr3.out] at f1
                  rw [← hx1.out] at f2
                  rw [← hy1.out] at f3
                  rw [← hy3.out] at f5
                  rw [← hx2.out] at f6
                  rw [← hp3.out] at f7
                  rw [← hx3.out] at f8
                  rw [← hm1'.out] at f9
                  rw [← hm2'.out] at f10
                  rw [← hm3'.out] at f11
                  rw [← hm4'.out] at f12
                  rw [← hx4.out] at f13
                  have e1 := wrap_sum v.h x1 u1 hu1.out
                  have e2 := wrap_sum u1 x2 u2 hu2.out
                  have e3 := wrap_sum u2 kc u3 hu3.out
                  have e4 := wrap_sum u3 wd u4 hu4.out
                  have e5 := wrap_sum x3 x4 u5 hu5.out
                  have e6 := wrap_sum u4 u5 na hna.out
                  have e7 := wrap_sum v.d u4 ne hne.out
                  have hrn : Hid (rounds KS (sched b) s0 (r + 1) = ⟨na, v.a, v.b, v.c, ne, v.e, v.f, v.g⟩) := by
                    show _ = _
                    have q0 : x2 = ch v.e v.f v.g := by rw [hx2.out, hy1.out, hy3.out, hy2.out]; exact ch_xor _ _ _ l4 l5
                    have q1 : u4 = t1 v kc wd := by rw [hu4.out, hu3.out, hu2.out, hu1.out, q0, hx1.out, hr3.out, hr1.out, hr2.out, hr4.out]; exact t1_eq v kc wd
                    have q2 : u5 = t2 v := by
                      rw [hu5.out, hx3.out, hx4.out, hp3.out, hp1.out, hp2.out, hp4.out, hm3'.out, hm1'.out, hm2'.out, hm4'.out, maj_xor]; rfl
                    rw [hnext.out, hna.out, hne.out, q1, q2]; rfl
                  have C1 : Hid (∀ W : World, Calls Try.prog 18 #[.int .u64 (v.e : Int), .int .u64 14] W fun e w' => e = .returned (.int .u64 (r1 : Int)) ∧ w' = W) := Lib.hid fun W => (turn_same v.e 14 l4 (by omega) (by omega) W).mono fun e w' ⟨h, h'⟩ => ⟨by rw [h, hr1.out], h'⟩
                  have C2 : Hid (∀ W : World, Calls Try.prog 18 #[.int .u64 (v.e : Int), .int .u64 18] W fun e w' => e = .returned (.int .u64 (r2 : Int)) ∧ w' = W) := Lib.hid fun W => (turn_same v.e 18 l4 (by omega) (by omega) W).mono fun e w' ⟨h, h'⟩ => ⟨by rw [h, hr2.out], h'⟩
                  have C3 : Hid (∀ W : World, Calls Try.prog 18 #[.int .u64 (v.e : Int), .int .u64 41] W fun e w' => e = .returned (.int .u64 (r4 : Int)) ∧ w' = W) := Lib.hid fun W => (turn_same v.e 41 l4 (by omega) (by omega) W).mono fun e w' ⟨h, h'⟩ => ⟨by rw [h, hr4.out], h'⟩
                  have C4 : Hid (∀ W : World, Calls Try.prog 18 #[.int .u64 (v.a : Int), .int .u64 28] W fun e w' => e = .returned (.int .u64 (p1 : Int)) ∧ w' = W) := Lib.hid fun W => (turn_same v.a 28 l0 (by omega) (by omega) W).mono fun e w' ⟨h, h'⟩ => ⟨by rw [h, hp1.out], h'⟩
                  have C5 : Hid (∀ W : World, Calls Try.prog 18 #[.int .u64 (v.a : Int), .int .u64 34] W fun e w' => e = .returned (.int .u64 (p2 : Int)) ∧ w' = W) := Lib.hid fun W => (turn_same v.a 34 l0 (by omega) (by omega) W).mono fun e w' ⟨h, h'⟩ => ⟨by rw [h, hp2.out], h'⟩
                  have C6 : Hid (∀ W : World, Calls Try.prog 18 #[.int .u64 (v.a : Int), .int .u64 39] W fun e w' => e = .returned (.int .u64 (p4 : Int)) ∧ w' = W) := Lib.hid fun W => (turn_same v.a 39 l0 (by omega) (by omega) W).mono fun e w' ⟨h, h'⟩ => ⟨by rw [h, hp4.out], h'⟩
                  clear l0 l1 l2 l3 l4 l5 l6 l7 hkl hwl hnext lr1 lr2 lr3 lr4 ly1 ly2 ly3 lp1 lp2 lp3 lp4 lm1 lm2 lm3 lm4
                  have HBV := Lib.hid hBv
                  have HBB := Lib.hid hbv
                  clear hBv hbv
                  have pk : (0 : Int) ≤ (r : Int) := by omega
                  have rk : (r : Int) < 80 := by omega
                  go_wp2_with fail
                  go_quiet ((first | (go_at_call 18; with_reducible exact Calls.quiet_of_same (C1.out _)) | (go_at_call 18; with_reducible exact Calls.quiet_of_same (C2.out _)) | (go_at_call 18; with_reducible exact Calls.quiet_of_same (C3.out _))))
                  go_wp2_with fail
                  go_quiet ((first | (go_at_call 18; with_reducible exact quiet_add_same (C4.out _)) | (go_at_call 18; with_reducible exact quiet_add_same (C5.out _)) | (go_at_call 18; with_reducible exact quiet_add_same (C6.out _))))
                  have hrr : ∀ q, Blk (wr.drewN q) W1.heap.size 37 (stA v) := fun q => HBV.out.drewN q
                  have hbb : ∀ q, Below W1.heap.size W1 (wr.drewN q) := fun q => HBB.out.trans ((Drew.below ⟨q, rfl⟩).mono HBB.out.size)
                  have HRR := Lib.hid hrr
                  have HBQ := Lib.hid hbb
                  clear hrr hbb
                  go_wp2_with (first | (refine wpList_store_row rfl 37 (.tmp 13) (.tmp 194) rfl W1.heap.size (stA ⟨na, v.a, v.b, v.c, ne, v.e, v.f, v.g⟩) rfl rfl 37 (stA v) (HRR.out _) info37 rfl (u64s_one (St.list ⟨na, v.a, v.b, v.c, ne, v.e, v.f, v.g⟩)) ?_))
                  go_roundg (gk - 1)
                  case measure => have := HR0.out; omega
                  case rel => exact ⟨r + 1, by have := HR0.out; omega, by go_num, by rw [hrn.out]; exact (HRR.out _).row _, below_row (HBQ.out _) (Nat.le_refl _) _⟩
                · obtain rfl : r = 80 := by have := HR0.out; omega
                  have hbk : Hid (blocks KS H0 all (k + 1) = addSt s0 (rounds KS (sched b) s0 80)) := by
                    show stir KS (blocks KS H0 all k) ((all.drop (128 * k)).take 128) = _
                    rw [← hb.out, ← hs0.out]; rfl
                  have hvo := rounds_ok (K := KS) (W := sched b) hok0 80
                  obtain ⟨v, hv⟩ : ∃ v, Hid (v = rounds KS (sched b) s0 80) := ⟨_, Lib.hid rfl⟩
                  rw [← hv.out] at hbk hvo hBv
                  have hgvs : W1.heap.size ≠ gs := by have := HGS.out.lt; omega
                  have hS0 : Hid (Blk wr gs 37 (u64s (mixed s0 v 0))) := Lib.hid (HGS.out.old hbv)
                  have hO3 := Lib.hid (HO2.out.old hbv)
                  have HV := Lib.hid hBv
                  have hvl := fun i => list_lt hvo i
                  have hsl := fun i => list_lt hok0 i
                  have HVL := Lib.hid hvl
                  have HSL := Lib.hid hsl
                  have hwv : Hid (W1.heap.size < wr.heap.size) := hBv.lt
                  clear hBv hbv hvl hsl hvo hok0
                  go_wp2_with fail
                  obtain ⟨W3, rfl⟩ : ∃ W3, W3 = wr := ⟨wr, rfl⟩
                  go_loopg [17] 8 (fun gi iv w9 => ∃ i : Nat, gi + i = 8 ∧ iv = .int .i64 (i : Nat) ∧ Blk w9 gs 37 (u64s (mixed s0 v i)) ∧ W3.grownBy w9 (some gs))
                  case atStart => exact ⟨0, by omega, rfl, hS0.out, World.grownBy.refl _ _⟩
                  case round =>
                    obtain ⟨i, hi0, rfl, hBi, hgi⟩ := hrel
                    have HI0 := Lib.hid hi0
                    clear hi0
                    by_cases hlt4 : i < 8
                    · have hcell : wr.cell? ⟨gs, i, none⟩ = some (.int .u64 ((s0.list.getD i 0 : Nat) : Int)) := by
                        rw [hBi.cell, u64s_get _ _ (by rw [mixed_length s0 v i (by omega)]; exact hlt4), mixed_get s0 v i hlt4]
                      have hcelv : wr.cell? ⟨W1.heap.size, i, none⟩ = some (.int .u64 ((v.list.getD i 0 : Nat) : Int)) :=
                        ((HV.out.grown hgi (by intro e; injection e with e; exact hgvs e)).cell i).trans (stA_get _ _ hlt4)
                      have hfz := hBi.frozen i
                      have hset := hBi.set_ i (.int .u64 (((s0.list.getD i 0 + v.list.getD i 0) % M : Nat) : Int))
                      rw [u64s_set, mixed_step s0 v i hlt4] at hset
                      have hg3 := hgi.trans (grown_set wr gs i (.int .u64 (((s0.list.getD i 0 + v.list.getD i 0) % M : Nat) : Int)))
                      have hl1 := HSL.out i
                      have hl2 := HVL.out i
                      generalize s0.list.getD i 0 = x at *
                      generalize v.list.getD i 0 = y at *
                      obtain ⟨zz, hzz⟩ := named ((x + y) % M)
                      have e1 := wrap_sum x y zz hzz.out
                      rw [← hzz.out] at hset hg3
                      have HS := Lib.hid hset
                      have HG := Lib.hid hg3
                      clear hset hg3 hBi hgi
                      have pk : (0 : Int) ≤ (i : Int) := by omega
                      have rk : (i : Int) < 8 := by omega
                      go_wp2_with fail
                      go_still_tail 9, (by kernel_rfl)
                      change wpList _ _ _ _ _ wr.drew
                      go_wp2_with fail
                      go_roundg (gk - 1)
                      case measure => have := HI0.out; omega
                      case rel => exact ⟨i + 1, by have := HI0.out; omega, by go_num, HS.out.drew, HG.out.trans (grown_below (Below.refl _ _).drew _)⟩
                    · obtain rfl : i = 8 := by have := HI0.out; omega
                      have hOn : Hid (Out gs gkk (some ad) L all w (k + 1) wr) := by
                        have o1 : Blk wr gs 37 (stA (blocks KS H0 all (k + 1))) := by rw [hbk.out, stA_eq, ← mixed_all]; exact hBi
                        have o2 := hO3.out.2.1.grown hgi (by intro e; injection e with e; exact hgsk e.symm)
                        have o4 : Below w.heap.size w wr := hO3.out.2.2.2.grown hgi hO3.out.2.2.2.size (by intro j hj; injection hj with hj; omega)
                        exact ⟨o1, o2, hO3.out.2.2.1.grown hgi, o4⟩
                      clear hBi hgi
                      go_wp2_with fail
                      go_roundg G
                      case measure => have := hG.out; omega
                      case rel => exact ⟨k + 1, a + 128, by have := hG.out; omega, by omega, by omega, by go_num, hOn.out⟩
    · obtain rfl : a = L := by omega
      have hkq : k = all.length / 128 := by have := hL.out; omega
      obtain ⟨sF, hsF⟩ : ∃ sF, Hid (sF = blocks KS H0 all k) := ⟨_, Lib.hid rfl⟩
      have hsum : Hid (sumOf l = sF.list.flatMap wordBytes) := by
        show _ = _
        unfold sumOf sumWith
        rw [hsF.out, hkq, hall.out]
      have hok : sF.ok := by rw [hsF.out]; exact blocks_ok H0_ok k
      have hSt := ho.1
      rw [← hsF.out] at hSt
      have HST := Lib.hid hSt
      have HWB := Lib.hid ho.2.2.2
      have hfl := fun i => list_lt hok i
      have HFL := Lib.hid hfl
      have hgl := hSt.lt
      obtain ⟨i0, hi, hz0, hz1, hz2⟩ := info_parts infoByte
      have hoe := Lib.hid (owns_empty W0)
      have hbe : Hid (Below W0.heap.size W0 (W0.alloc (.cells #[] 5))) := Lib.hid ((Below.refl _ _).alloc (Nat.le_refl _) _)
      clear ho hSt hok hfl hmk
      go_wp2_with fail
      go_loopg [18, 19, 20] 8 (fun gi vv iv _ w9 => ∃ i : Nat, gi + i = 8 ∧ iv = .int .i64 (i : Nat) ∧ w9.ownsRow W0.heap.size 5 1 vv (8 * i) (Lib.byteCells ((sF.list.take i).flatMap wordBytes)) ∧ Below W0.heap.size W0 w9)
      case atStart => exact ⟨0, by omega, rfl, hoe.out, hbe.out⟩
      case round =>
        obtain ⟨i, hi0, rfl, hown, hbw⟩ := hrel
        have HI0 := Lib.hid hi0
        clear hi0
        by_cases hlt4 : i < 8
        · obtain ⟨G8, hG8⟩ : ∃ G8, Hid (gk = G8 + 1 ∧ G8 + (i + 1) = 8) := ⟨gk - 1, Lib.hid ⟨by have := HI0.out; omega, by have := HI0.out; omega⟩⟩
          have hdt : decide ((i : Int) < 8) = true := by simp; omega
          have hft := flat_take sF.list i hlt4
          have hxl := HFL.out i
          have HOW := Lib.hid hown
          have HBW := Lib.hid hbw
          have hgc : ∀ W, Below W0.heap.size W0 W → W.cell? ⟨gs, i, none⟩ = some (.int .u64 ((sF.list.getD i 0 : Nat) : Int)) := fun W hW => ((HST.out.old hW).cell i).trans (stA_get _ _ hlt4)
          generalize sF.list.getD i 0 = x at *
          have HGC := Lib.hid hgc
          have HFT := Lib.hid hft
          clear hgc hft hown hbw
          go_wp2_with fail
          go_loopg [18, 20] 8 (fun gj vv sv w9 => ∃ j : Nat, gj + j = 8 ∧ sv = .int .i64 (56 - 8 * (j : Int)) ∧ w9.ownsRow W0.heap.size 5 1 vv (8 * i + j) (Lib.byteCells ((sF.list.take i).flatMap wordBytes ++ (wordBytes x).take j)) ∧ Below W0.heap.size W0 w9)
          case atStart => exact ⟨0, by omega, rfl, by simpa using HOW.out, HBW.out⟩
          case round =>
            obtain ⟨j, hj0, rfl, hown, hbw⟩ := hrel
            have HJ0 := Lib.hid hj0
            clear hj0
            have hsz := hbw.size
            by_cases hlt5 : j < 8
            · have hbt := byteOf_nat x j
              have HT := Lib.hid (wordBytes_take x j hlt5)
              obtain ⟨y, hy⟩ : ∃ y, Hid (y = Sha5.byteOf x j) := ⟨_, Lib.hid rfl⟩
              rw [← hy.out] at hbt HT
              have hcell := HGC.out _ hbw
              have hsh2 : IntKind.u8.wrap ((x : Int) / 2 ^ (56 - 8 * j)) = (y.toNat : Int) := by
                rw [IntKind.wrap_u8', hbt]; simp
              have ht : (56 - 8 * (j : Int)).toNat = 56 - 8 * j := by omega
              have hmin : min (56 - 8 * j) 64 = 56 - 8 * j := by omega
              have hs0' : (0 : Int) ≤ 56 - 8 * (j : Int) := by omega
              have hs1' : 56 - 8 * (j : Int) ≤ 56 := by omega
              have hwr : IntKind.u64.wrap (56 - 8 * (j : Int)) = 56 - 8 * (j : Int) := by rw [IntKind.wrap_u64]; omega
              have hw8 : IntKind.i64.wrap (56 - 8 * (j : Int) - 8) = 56 - 8 * (j : Int) - 8 := IntWalk.i64_in _ (by omega)
              have hr3 := Lib.hid (reads_one wr y (0, 0))
              clear hbt hy
              go_wp2_with (at_builtin; refine wpList_append_any _ rfl (.tmp 217) (.tmp 225) 27 rfl W0.heap.size 5 i0 (.int .u8 0) 1 1 Try.underlying27 hi hz0 hz1 hz2 rfl (by decide) _ _ _ rfl (hown.alloc _) (wr.heap.size + 1) _ 1 1 (Lib.byteCells [y]) rfl hr3.out (Lib.byteCells_one _) (by unfold maxLen; omega) (by omega) (by simp; omega) ?_)
              intro v4 w4 ho4 hg4 _
              have hb4 : Below W0.heap.size W0 w4 := (hbw.alloc hsz _).grown hg4 (by simp; omega) (fun k hk => (hown.lt k hk).1)
              have ho5 : Hid (w4.ownsRow W0.heap.size 5 1 v4 (8 * i + (j + 1)) (Lib.byteCells ((sF.list.take i).flatMap wordBytes ++ (wordBytes x).take (j + 1)))) := by
                show World.ownsRow _ _ _ _ _ _ _
                rw [HT.out, ← List.append_assoc, Lib.byteCells_append ((sF.list.take i).flatMap wordBytes ++ (wordBytes x).take j), ← Nat.add_assoc]
                exact ho4
              clear ho4 hg4 hr3 hown hcell
              go_wp2_with fail
              go_roundg (gk - 1)
              case measure => have := HJ0.out; omega
              case rel => exact ⟨j + 1, by have := HJ0.out; omega, by rw [show (56 - 8 * (j : Int) - 8) = 56 - 8 * ((j + 1 : Nat) : Int) from by omega], ho5.out, hb4⟩
            · obtain rfl : j = 8 := by have := HJ0.out; omega
              have ho6 : Hid (wr.ownsRow W0.heap.size 5 1 u18 (8 * (i + 1)) (Lib.byteCells ((sF.list.take (i + 1)).flatMap wordBytes))) := by
                show World.ownsRow _ _ _ _ _ _ _
                have e8 : (wordBytes x).take 8 = wordBytes x := List.take_of_length_le (by rw [wordBytes_length]; omega)
                rw [HFT.out, ← e8, show 8 * (i + 1) = 8 * i + 8 by omega]; exact hown
              clear hown
              go_wp2_with fail
              go_roundg G8
              case measure => have := hG8.out; omega
              case rel => exact ⟨i + 1, hG8.out.2, by go_num, ho6.out, hbw⟩
        · obtain rfl : i = 8 := by have := HI0.out; omega
          have hfin : Hid (wr.ownsRow w.heap.size 5 1 u18 (sumOf l).length (Lib.byteCells (sumOf l))) := by
            show World.ownsRow _ _ _ _ _ _ _
            rw [hsum.out, flat_length]
            exact owns_more hown HWB.out.size
          have hbf := HWB.out.trans (hbw.mono HWB.out.size)
          clear hown hbw
          go_wp2
          go_ret
          exact ⟨u18, rfl, hfin.out, hbf⟩
end Go.Proofs.Ytblielcmjdnlfaa
