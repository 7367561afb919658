/-
  The contract of sha's stir: a block is put into the words. Conditions: the hash lies whole in its block; the words are below 2^64.
-/
import Derived.Test.YtblielcmjdnlfaaShaHash
import Derived.BigRegion
import Derived.StillTailTactics
set_option linter.unusedVariables false
namespace Go.Proofs.Ytblielcmjdnlfaa
open Go Go.Proofs Go.RowKit Sha5

def stA (s : St) : Array Value := #[.int .u64 (s.a : Int), .int .u64 (s.b : Int), .int .u64 (s.c : Int), .int .u64 (s.d : Int), .int .u64 (s.e : Int), .int .u64 (s.f : Int), .int .u64 (s.g : Int), .int .u64 (s.h : Int)]
theorem stA_eq (s : St) : stA s = u64s s.list := rfl
def StirEnd (g : Nat) (s : St) (b : List UInt8) (n : Nat) (w : World) (e : Ending) (w' : World) : Prop :=
  e = .returned (.tuple #[]) ∧ Blk w' g 48 (hashA (stir KS s b).list b n) ∧ w.grownBy w' (some g)

/-- in the first loop. -/
def Mid (g : Nat) (s : St) (b : List UInt8) (n : Nat) (w : World) (k : Nat) (wr : World) : Prop :=
  Blk wr w.heap.size 37 (stA (rounds KS (sched b) s k)) ∧ Blk wr g 48 (hashA s.list b n) ∧ Below w.heap.size w wr

theorem Blk.row {w : World} {g t : Nat} {c : Array Value} (h : Blk w g t c) (c' : Array Value) : Blk (w.setRow g c') g t c' := setRow_heap w g c c' t (0, 0) h
theorem Blk.rowFar {w : World} {g g' t : Nat} {c : Array Value} (h : Blk w g t c) (hne : g ≠ g') (c' : Array Value) : Blk (w.setRow g' c') g t c := (setRow_other w g' g c' hne).trans h
theorem below_row {B : Nat} {w w' : World} (h : Below B w w') {g : Nat} (hg : B ≤ g) (c : Array Value) : Below B w (w'.setRow g c) :=
  ⟨h.os, h.tape, h.output, by simp; exact h.size, fun k hk => (setRow_other w' g k c (by omega)).trans (h.block k hk)⟩
theorem Mid.drew {g : Nat} {s : St} {b : List UInt8} {n : Nat} {w wr w' : World} {k : Nat} (h : Mid g s b n w k wr) (hd : Drew wr w') : Mid g s b n w k w' :=
  ⟨h.1.drewD hd, h.2.1.drewD hd, h.2.2.trans (hd.below.mono h.2.2.size)⟩
theorem quiet_add_same {P : Program} {f : FuncId} {args : Array Value} {w : World} {a n : Nat} {v : Value}
    (h : Calls P f args (w.drewN (a + n)) fun e w' => e = .returned v ∧ w' = w.drewN (a + n)) :
    Calls P f args (w.drewN (a + n)) fun e w'' => e = .returned v ∧ ∃ m, w'' = w.drewN (a + m) :=
  h.mono fun _ _ ⟨he, hm⟩ => ⟨he, n, hm⟩
theorem t1_eq (r : St) (k w : Nat) : ((((r.h + S1 r.e) % M + ch r.e r.f r.g) % M + k) % M + w) % M = t1 r k w := by
  unfold t1
  simp only [Nat.mod_add_mod]

set_option maxHeartbeats 4000000 in
set_option maxRecDepth 100000 in
theorem stir_any (g : Nat) (s : St) (b : List UInt8) (n : Nat) (w : World) (hB : Blk w g 48 (hashA s.list b n)) (hb : b.length = 128) (hs : s.ok) :
    Calls Try.prog 23 #[.pointer (some ⟨g, 0, none⟩)] w (StirEnd g s b n w) := by
  have hgl := hB.lt
  have hw : ∀ i, i < 8 → w.cell? ⟨g, i, none⟩ = some (.int .u64 ((s.list.getD i 0 : Nat) : Int)) := fun i hi => (hB.cell i).trans (hashA_word _ _ _ i rfl hi)
  have hc8 : ∀ j v, (stA s)[j]? = some v → w.cell? ⟨g, 0 + j, none⟩ = some v := by
    intro j v hj
    rw [Nat.zero_add, hw j (by have := (Array.getElem?_eq_some_iff.1 hj).1; exact this), ← hj, stA_eq, u64s_get _ _ (by have := (Array.getElem?_eq_some_iff.1 hj).1; exact this)]
  have H8 := Lib.hid hc8
  have HB := Lib.hid hB
  clear hc8 hw hB
  have i46 : Hid ((Try.prog.info? 46).map (·.size) = some 128) := by show _ = _; kernel_rfl
  go_enter Try.func23, Try.ntmps23
  have H1 : Hid (Blk (w.alloc (.cells (stA s) 37)) g 48 (hashA s.list b n)) := Lib.hid (HB.out.alloc _)
  have hbyte : Hid (∀ j v, (bytesA b)[j]? = some v → (w.alloc (.cells (stA s) 37)).cell? ⟨g, 88 + j, none⟩ = some v) := Lib.hid (fun j v hj => by
    have hj2 : j < b.length := by have := (Array.getElem?_eq_some_iff.1 hj).1; simpa [bytesA_size] using this
    rw [H1.out.cell, hashA_byte _ _ _ j rfl hb (by omega), ← hj, bytesA_get _ _ hj2])
  have I46 : Hid ((Try.prog.info? 46).map (·.size) = some (bytesA b).size) := by
    show _ = _; rw [bytesA_size, hb]; exact i46.out
  have HBL := Lib.hid hb
  clear hb
  go_wp2_with (first | (refine wpList_load_at rfl 37 (.tmp 11) rfl g 0 rfl 36 8 (stA s) Try.underlying37 info37 H8.out ?_) |
    (refine wpList_store_row rfl 37 (.tmp 2) (.tmp 12) rfl w.heap.size (stA s) rfl rfl 37 _ (heap_alloc_new w _) info37 rfl (u64s_one s.list) ?_; rw [setRow_alloc1]) |
    (refine wpList_load_at rfl 46 (.tmp 15) rfl g 88 rfl 5 128 (bytesA b) Try.underlying46 I46.out hbyte.out ?_))
  refine (schedule_any b HBL.out _).mono ?_
  rintro e w1 ⟨rfl, hb1⟩
  have hM : Mid g s b n w 0 w1 := ⟨(Blk.new w _ _).old hb1, H1.out.old hb1, ((Below.refl _ _).alloc (Nat.le_refl _) _).trans (hb1.mono (by simp))⟩
  have HM := Lib.hid hM
  clear hM hb1 hbyte
  go_wp2_with fail
  clear H8 H1 I46 i46
  generalize bytesA b = a16
  generalize stA s = a12
  obtain ⟨aw, haw⟩ : ∃ aw, Hid (aw = u64s (sched b)) := ⟨_, Lib.hid rfl⟩
  rw [← haw.out]
  go_loopw [3, 4, 5, 6, 18] (fun _ _ _ _ i wr => ∃ k : Nat, k ≤ 80 ∧ i = .int .i64 k ∧ Mid g s b n w k wr) (fun _ _ _ _ i _ => 80 - (intOf i).toNat)
  case atStart => exact ⟨0, Nat.zero_le _, rfl, HM.out⟩
  case round =>
    obtain ⟨k, hk, rfl, hm⟩ := hrel
    clear HM
    have HM := Lib.hid hm
    by_cases hlt : k < 80
    · have hwk : aw[k]? = some (.int .u64 (((sched b).getD k 0 : Nat) : Int)) := by rw [haw.out]; exact u64s_get _ _ (by rw [sched_length]; exact hlt)
      have hix := run_index_one (P := Try.prog) Try.underlying39 Try.isAgg36 Try.sizeOf36 aw k _ hlt hwk
      have hwl : (sched b).getD k 0 < M := getD_lt (sched_lt b) k
      have hkl := KS_lt k
      have hro := rounds_ok (K := KS) (W := sched b) hs k
      have hnext : Hid (rounds KS (sched b) s (k + 1) = round (rounds KS (sched b) s k) (KS.getD k 0) ((sched b).getD k 0)) := rfl
      have hcc : wr.cell? ⟨g, 8 + k, none⟩ = some (.int .u64 ((KS.getD k 0 : Nat) : Int)) := (hm.2.1.cell _).trans (hashA_const _ _ _ k rfl hlt)
      have hcs := fun i => hm.1.cell i
      obtain ⟨r, hr⟩ : ∃ r, Hid (r = rounds KS (sched b) s k) := ⟨_, Lib.hid rfl⟩
      rw [← hr.out] at hro hnext hcs
      obtain ⟨l0, l1, l2, l3, l4, l5, l6, l7⟩ := hro
      have c0 : wr.cell? ⟨w.heap.size, 0, none⟩ = some (.int .u64 (r.a : Int)) := hcs 0
      have c1 : wr.cell? ⟨w.heap.size, 1, none⟩ = some (.int .u64 (r.b : Int)) := hcs 1
      have c2 : wr.cell? ⟨w.heap.size, 2, none⟩ = some (.int .u64 (r.c : Int)) := hcs 2
      have c3 : wr.cell? ⟨w.heap.size, 3, none⟩ = some (.int .u64 (r.d : Int)) := hcs 3
      have c4 : wr.cell? ⟨w.heap.size, 4, none⟩ = some (.int .u64 (r.e : Int)) := hcs 4
      have c5 : wr.cell? ⟨w.heap.size, 5, none⟩ = some (.int .u64 (r.f : Int)) := hcs 5
      have c6 : wr.cell? ⟨w.heap.size, 6, none⟩ = some (.int .u64 (r.g : Int)) := hcs 6
      have c7 : wr.cell? ⟨w.heap.size, 7, none⟩ = some (.int .u64 (r.h : Int)) := hcs 7
      clear hcs hm hwk
      generalize (sched b).getD k 0 = wd at *
      generalize KS.getD k 0 = kc at *
      obtain ⟨x1, hx1⟩ := named (S1 r.e)
      obtain ⟨x2, hx2⟩ := named (ch r.e r.f r.g)
      obtain ⟨u1, hu1⟩ := named ((r.h + x1) % M)
      obtain ⟨u2, hu2⟩ := named ((u1 + x2) % M)
      obtain ⟨u3, hu3⟩ := named ((u2 + kc) % M)
      obtain ⟨u4, hu4⟩ := named ((u3 + wd) % M)
      obtain ⟨x3, hx3⟩ := named (S0 r.a)
      obtain ⟨x4, hx4⟩ := named (maj r.a r.b r.c)
      obtain ⟨v, hv⟩ := named ((x3 + x4) % M)
      obtain ⟨na, hna⟩ := named ((u4 + v) % M)
      obtain ⟨ne, hne⟩ := named ((r.d + u4) % M)
      have e1 := wrap_sum r.h x1 u1 hu1.out
      have e2 := wrap_sum u1 x2 u2 hu2.out
      have e3 := wrap_sum u2 kc u3 hu3.out
      have e4 := wrap_sum u3 wd u4 hu4.out
      have e5 := wrap_sum x3 x4 v hv.out
      have e6 := wrap_sum u4 v na hna.out
      have e7 := wrap_sum r.d u4 ne hne.out
      have hrn : Hid (rounds KS (sched b) s (k + 1) = ⟨na, r.a, r.b, r.c, ne, r.e, r.f, r.g⟩) := by
        show _ = _
        have q1 : u4 = t1 r kc wd := by rw [hu4.out, hu3.out, hu2.out, hu1.out, hx1.out, hx2.out, t1_eq]
        have q2 : v = t2 r := by rw [hv.out, hx3.out, hx4.out]; rfl
        rw [hnext.out, hna.out, hne.out, q1, q2]; rfl
      have C1 : Hid (∀ W : World, Calls Try.prog 30 #[.int .u64 (r.e : Int), .int .i64 14, .int .i64 18, .int .i64 41] W fun e w' => e = .returned (.int .u64 (x1 : Int)) ∧ w' = W) :=
        Lib.hid fun W => (turned_any r.e 14 18 41 l4 (by omega) (by omega) (by omega) W).mono fun e w' ⟨h, h'⟩ => ⟨by rw [h, hx1.out]; rfl, h'.symm⟩
      have C2 : Hid (∀ W : World, Calls Try.prog 31 #[.int .u64 (r.e : Int), .int .u64 (r.f : Int), .int .u64 (r.g : Int)] W fun e w' => e = .returned (.int .u64 (x2 : Int)) ∧ w' = W) :=
        Lib.hid fun W => (choice_any r.e r.f r.g l4 l5 l6 W).mono fun e w' ⟨h, h'⟩ => ⟨by rw [h, hx2.out], h'.symm⟩
      have C3 : Hid (∀ W : World, Calls Try.prog 30 #[.int .u64 (r.a : Int), .int .i64 28, .int .i64 34, .int .i64 39] W fun e w' => e = .returned (.int .u64 (x3 : Int)) ∧ w' = W) :=
        Lib.hid fun W => (turned_any r.a 28 34 39 l0 (by omega) (by omega) (by omega) W).mono fun e w' ⟨h, h'⟩ => ⟨by rw [h, hx3.out]; rfl, h'.symm⟩
      have C4 : Hid (∀ W : World, Calls Try.prog 32 #[.int .u64 (r.a : Int), .int .u64 (r.b : Int), .int .u64 (r.c : Int)] W fun e w' => e = .returned (.int .u64 (x4 : Int)) ∧ w' = W) :=
        Lib.hid fun W => (majority_any r.a r.b r.c l0 l1 l2 W).mono fun e w' ⟨h, h'⟩ => ⟨by rw [h, hx4.out], h'.symm⟩
      clear l0 l1 l2 l3 l4 l5 l6 l7 hkl hwl hnext
      have pk : (0 : Int) ≤ (k : Int) := by omega
      have rk : (k : Int) < 80 := by omega
      go_wp2_with fail
      go_quiet ((first | (go_at_call 30; exact Calls.quiet_of_same (C1.out _)) | (go_at_call 31; exact Calls.quiet_of_same (C2.out _))))
      go_wp2_with fail
      go_quiet ((first | (go_at_call 30; exact quiet_add_same (C3.out _)) | (go_at_call 32; exact quiet_add_same (C4.out _))))
      have hm2 : ∀ q, Mid g s b n w k (wr.drewN q) := fun q => HM.out.drew ⟨q, rfl⟩
      have HM2 := Lib.hid hm2
      have hrr : ∀ q, Blk (wr.drewN q) w.heap.size 37 (stA r) := fun q => by have := (HM2.out q).1; rw [hr.out]; exact this
      have HRR := Lib.hid hrr
      clear hm2 hrr
      go_wp2_with (first | (refine wpList_store_row rfl 37 (.tmp 2) (.tmp 75) rfl w.heap.size (stA ⟨na, r.a, r.b, r.c, ne, r.e, r.f, r.g⟩) rfl rfl 37 (stA r) (HRR.out _) info37 rfl (u64s_one (St.list ⟨na, r.a, r.b, r.c, ne, r.e, r.f, r.g⟩)) ?_))
      exact ⟨⟨k + 1, by omega, by go_num, by rw [hrn.out]; exact (HRR.out _).row _, ((HM2.out _).2.1).rowFar (by omega) _, below_row (HM2.out _).2.2 (Nat.le_refl _) _⟩, by simp [intOf]; omega⟩
    · obtain rfl : k = 80 := by omega
      clear hm
      have hst : Hid (stir KS s b = addSt s (rounds KS (sched b) s 80)) := rfl
      have hvo := rounds_ok (K := KS) (W := sched b) hs 80
      obtain ⟨v, hv⟩ : ∃ v, Hid (v = rounds KS (sched b) s 80) := ⟨_, Lib.hid rfl⟩
      rw [← hv.out] at hst hvo
      have HM3 : Hid (Blk wr w.heap.size 37 (stA v) ∧ Blk wr g 48 (hashA (mixed s v 0) b n) ∧ w.grownBy wr (some g)) :=
        Lib.hid ⟨by rw [hv.out]; exact HM.out.1, HM.out.2.1, grown_below HM.out.2.2 _⟩
      have hvl := fun i => list_lt hvo i
      have hsl := fun i => list_lt hs i
      have HVL := Lib.hid hvl
      have HSL := Lib.hid hsl
      clear hvl hsl hvo
      go_wp2_with (first | (refine wpList_load_row rfl 37 (.tmp 2) rfl w.heap.size rfl 37 (stA v) (0, 0) _ HM3.out.1 Try.underlying37 rfl info37 ?_))
      have hvg : Hid (∀ i, i < 8 → (stA v)[i]? = some (.int .u64 ((v.list.getD i 0 : Nat) : Int))) := Lib.hid fun i hi => by rw [stA_eq]; exact u64s_get _ _ hi
      generalize stA v = av at hvg ⊢
      go_loopw [7, 8, 78] (fun _ _ i w2 => ∃ k : Nat, k ≤ 8 ∧ i = .int .i64 k ∧ Blk w2 g 48 (hashA (mixed s v k) b n) ∧ w.grownBy w2 (some g)) (fun _ _ i _ => 8 - (intOf i).toNat)
      case atStart => exact ⟨0, Nat.zero_le _, rfl, HM3.out.2.1, HM3.out.2.2⟩
      case round =>
        obtain ⟨k, hk, rfl, hB2, hg2⟩ := hrel
        by_cases hlt : k < 8
        · have hix := run_index_one (P := Try.prog) Try.underlying37 Try.isAgg36 Try.sizeOf36 av k _ hlt (hvg.out k hlt)
          have hcell : wr.cell? ⟨g, k, none⟩ = some (.int .u64 ((s.list.getD k 0 : Nat) : Int)) := by
            rw [hB2.cell, hashA_word _ _ _ k (mixed_length s v k hk) hlt, mixed_get s v k hlt]
          have hf := hB2.frozen k
          have hset := hB2.set_ k (.int .u64 (((s.list.getD k 0 + v.list.getD k 0) % M : Nat) : Int))
          rw [hashA_setWord _ _ _ k _ (mixed_length s v k hk) hlt, mixed_step s v k hlt] at hset
          have hg3 := hg2.trans (grown_set wr g k (.int .u64 (((s.list.getD k 0 + v.list.getD k 0) % M : Nat) : Int)))
          have hl1 := HSL.out k
          have hl2 := HVL.out k
          generalize s.list.getD k 0 = x at *
          generalize v.list.getD k 0 = y at *
          obtain ⟨z, hz⟩ := named ((x + y) % M)
          have e1 := wrap_sum x y z hz.out
          rw [← hz.out] at hset hg3
          have HS := Lib.hid hset
          have HG := Lib.hid hg3
          clear hset hg3 hB2 hg2
          have pk : (0 : Int) ≤ (k : Int) := by omega
          have rk : (k : Int) < 8 := by omega
          go_wp2_with fail
          go_still_tail 11, (by kernel_rfl)
          change wpList _ _ _ _ _ wr.drew
          go_wp2
          exact ⟨⟨k + 1, by omega, by go_num, HS.out.drew, HG.out.trans (grown_below (Below.refl _ _).drew _)⟩, by simp [intOf]; omega⟩
        · obtain rfl : k = 8 := by omega
          go_wp2
          go_end0
          exact ⟨rfl, by rw [hst.out, ← mixed_all]; exact hB2, hg2⟩
end Go.Proofs.Ytblielcmjdnlfaa
