/-
  The walk of the law FieldGets. Condition: the prime's limbs stand in their variable.
-/
import Derived.Test.YtphlehinjooncaaDoorFldSame
import Derived.Test.YtphlehinjooncaaDoorFldTab
import Derived.Test.YtphlehinjooncaaDoorFldNumW
set_option linter.unusedVariables false
set_option linter.unusedSimpArgs false
namespace Go.Proofs.YtphlehinjooncaaDoor
open Go Go.Proofs Go.RowKit F5

theorem same_true (n : Nat) (hn : n < 2 ^ 256) (w : World) :
    Calls Tryd.prog 11 #[elemV n, refV n] w fun e w' => e = .returned (.bool true) ∧ Below w.heap.size w w' :=
  (same_f n n hn hn w).mono fun e w' ⟨h1, h2⟩ => ⟨by rw [h1]; simp, h2⟩
theorem same_zero (w : World) : Calls Tryd.prog 13 #[.agg (limA 0), .agg #[.int .u64 0, .int .u64 0, .int .u64 0, .int .u64 0]] w fun e w' => e = .returned (.bool true) ∧ Below w.heap.size w w' := same_t 0 0 (by decide) rfl w

/-- What Get is told to answer. -/
def GetCase (n v u : Nat) (er : Int) : Prop := (n < 32 ∧ u = 0 ∧ er = 2) ∨ (32 < n ∧ u = 0 ∧ er = 4) ∨ (n = 32 ∧ v < P ∧ u = v ∧ er = 0) ∨ (n = 32 ∧ ¬ v < P ∧ u = 0 ∧ er = 6)

theorem get_case (A : Option Addr) (n c : Nat) (l : List UInt8) (w : World) (hr : Reads w w.heap.size 1 A n (Lib.byteCells l)) (hP : PrimeAt w) : ∃ v u er, GetCase n v u er ∧ u < P ∧ (n = 32 → v < 2 ^ 256 ∧ l = fbytes v) ∧
    ∀ W, Below w.heap.size w W → Calls Tryd.prog 9 #[.slice A n c] W fun e w' => e = .returned (.tuple #[elemV u, .int .i64 er]) ∧ Below W.heap.size W w' := by
  have hl : l.length = n := by have := hr.1; simpa [Lib.byteCells_length] using this
  rcases (show n < 32 ∨ 32 < n ∨ n = 32 by omega) with h | h | h
  · exact ⟨0, 0, 2, .inl ⟨h, rfl, rfl⟩, by decide, fun e => by omega, fun W _ => get_short A n c h W⟩
  · exact ⟨0, 0, 4, .inr (.inl ⟨h, rfl, rfl⟩), by decide, fun e => by omega, fun W _ => get_long A n c h W⟩
  · subst h
    obtain ⟨v, hv, rfl⟩ := fbytes_of l hl
    obtain ⟨ad, rfl, _, _⟩ := hr.2 (by omega)
    by_cases hvP : v < P
    · refine ⟨v, v, 0, .inr (.inr (.inl ⟨rfl, hvP, rfl, rfl⟩)), hvP, fun _ => ⟨hv, rfl⟩, fun W hb => ?_⟩
      have := get_32 v hv ad c W ((hr.below hb).more hb.size) (hP.old hb)
      rwa [if_pos hvP, if_pos hvP] at this
    · refine ⟨v, 0, 6, .inr (.inr (.inr ⟨rfl, hvP, rfl, rfl⟩)), by decide, fun _ => ⟨hv, rfl⟩, fun W hb => ?_⟩
      have := get_32 v hv ad c W ((hr.below hb).more hb.size) (hP.old hb)
      rwa [if_neg hvP, if_neg hvP] at this

set_option maxHeartbeats 8000000 in
set_option maxRecDepth 100000 in
theorem gets_walk (A : Option Addr) (n c q : Nat) (l : List UInt8) (w : World) (hr : Reads w w.heap.size 1 A n (Lib.byteCells l)) (hnc : n ≤ c) (hm : c ≤ maxLen) (hq : q < M) (hP : PrimeAt w) :
    Calls Tryd.prog 3 #[.slice A n c, .int .u64 (q : Int)] w fun e w' => e = .returned (.bool true) ∧ Below w.heap.size w w' := by
  unfold maxLen at hm
  by_cases hbig : 100 < n
  · have h1 : decide (100 < (n : Int)) = true := by simp; omega
    go_enter Tryd.func3, Tryd.ntmps3
    go_wp2_with fail
    refine (awake_any _ hP).mono ?_
    rintro e w1 ⟨rfl, hb1⟩
    go_wp2
    go_ret
    exact ⟨rfl, hb1⟩
  have h1 : decide (100 < (n : Int)) = false := by simp; omega
  obtain ⟨v, u, er, hcase, huP, hv32, hG⟩ := get_case A n c l w hr hP
  have HCASE := Lib.hid hcase
  have HUP := Lib.hid huP
  have HV32 := Lib.hid hv32
  have HG := Lib.hid hG
  have HR := Lib.hid hr
  have HP := Lib.hid hP
  have HQ := Lib.hid hq
  have hqP : Hid (q < 2 ^ 256) := Lib.hid (by unfold M at hq; omega)
  have hz4 : ∀ n, (#[.int .u64 0, .int .u64 0, .int .u64 0, .int .u64 0] : Array Value).size = (limA n).size := fun n => by rw [limA_size]; rfl
  have HZ := Lib.hid hz4
  clear hcase huP hv32 hG hr hP hq hbig hz4
  go_enter Tryd.func3, Tryd.ntmps3
  go_wp2_with fail
  refine (HG.out _ (Below.refl _ _)).mono ?_
  rintro e w1 ⟨rfl, hb1⟩
  have H1 := Lib.hid hb1
  unfold elemV
  clear hb1
  go_wp2_with (first | (refine wpList_store_row rfl 28 (.tmp 5) (.tmp 17) rfl w1.heap.size (limA u) rfl rfl 28 _ (heap_alloc_new w1 _) (limA_infoE _) (HZ.out _) (limA_one _) ?_; rw [setRow_alloc1]))
  have x1 := Blk.new w1 28 (limA u)
  have hb2 := H1.out.alloc H1.out.size (.cells (limA u) 28)
  generalize w1.alloc (.cells (limA u) 28) = W1 at *
  refine (of_any q HQ.out _).mono ?_
  rintro e w2 ⟨rfl, hb3⟩
  have X2 := Lib.hid (x1.old hb3)
  have H2 := Lib.hid (hb2.trans (hb3.mono hb2.size))
  unfold elemV
  clear x1 hb2 hb3
  go_wp2_with (first | (refine wpList_store_row rfl 28 (.tmp 7) (.tmp 20) rfl w2.heap.size (limA q) rfl rfl 28 _ (heap_alloc_new w2 _) (limA_infoE _) (HZ.out _) (limA_one _) ?_; rw [setRow_alloc1]))
  have z1 := Lib.hid (Blk.new w2 28 (limA q))
  have X3 := Lib.hid (X2.out.alloc (.cells (limA q) 28))
  have H3 := Lib.hid (H2.out.alloc H2.out.size (.cells (limA q) 28))
  generalize w2.alloc (.cells (limA q) 28) = W3 at *
  have hbd : Below W3.heap.size W3 W3.drew := (Below.refl _ _).drew
  refine wp_region_held_drew (S := fun W => Below W3.heap.size W3 W) (by kernel_rfl) hbd (fun hHeld => ?_)
  refine' wpAnyH_take (i := 0) (oi := _) (v := .agg (limA q)) ?hit0 ?hst0 ?hft0 ?hrt0 ?hQt0 ?hyt0 ?hSt0 ?_
  case hit0 => (simp only [List.getElem?_toArray, List.getElem?_cons_succ, List.getElem?_cons_zero]; rfl)
  case hst0 => kernel_rfl
  case hft0 => kernel_rfl
  case hrt0 => kernel_rfl
  case hQt0 => exact fun _ _ _ h => h
  case hSt0 => assumption
  case hyt0 =>
    refine Or.inl ⟨by rfl, ?_⟩
    intro W hS
    exact quiet_load_row 28 (.tmp 7) w2.heap.size rfl 28 (limA q) _ (z1.out.old hS) Tryd.underlying28 rfl (limA_infoE q) rfl
  (try simp only [Act.put, List.setIfInBounds_toArray, List.set_cons_zero, List.set_cons_succ])
  refine' wpAnyH_take (i := 1) (oi := _) (v := _) ?hit1 ?hst1 ?hft1 ?hrt1 ?hQt1 ?hyt1 ?hSt1 ?_
  case hit1 => (simp only [List.getElem?_toArray, List.getElem?_cons_succ, List.getElem?_cons_zero]; rfl)
  case hst1 => kernel_rfl
  case hft1 => kernel_rfl
  case hrt1 => kernel_rfl
  case hQt1 => exact fun _ _ _ h => h
  case hSt1 => assumption
  case hyt1 =>
    refine Or.inl ⟨by rfl, ?_⟩
    intro w hSw
    (try dsimp only at hSw)
    go_simp
    all_goals (with_reducible rfl)
  (try simp only [Act.put, List.setIfInBounds_toArray, List.set_cons_zero, List.set_cons_succ])
  refine wpAnyH_ready (rs := [2]) (by kernel_rfl) (by simp) ?_
  refine' AllReadyH.cons (o := _) ?hir2 (fun K hK => ?_) AllReadyH.nil
  case hir2 => (simp only [List.getElem?_toArray, List.getElem?_cons_succ, List.getElem?_cons_zero]; rfl)
  go_simp
  go_at_call 12
  refine (refOf_any q HQ.out _).mono ?_
  rintro e w4 ⟨rfl, hb4⟩
  refine hK.out _ _ ?_ (fun hHeld => ?_)
  exact hbd.trans (hb4.mono hbd.size)
  clear hK K
  (try simp only [Act.put, List.setIfInBounds_toArray, List.set_cons_zero, List.set_cons_succ])
  refine wpAnyH_ready (rs := [3]) (by kernel_rfl) (by simp) ?_
  refine' AllReadyH.cons (o := _) ?hir3 (fun K hK => ?_) AllReadyH.nil
  case hir3 => (simp only [List.getElem?_toArray, List.getElem?_cons_succ, List.getElem?_cons_zero]; rfl)
  go_simp
  go_at_call 11
  refine (same_true q hqP.out _).mono ?_
  rintro e w5 ⟨rfl, hb5⟩
  refine hK.out _ _ ?_ (fun hHeld => ?_)
  exact (hbd.trans (hb4.mono hbd.size)).trans (hb5.mono (hbd.trans (hb4.mono hbd.size)).size)
  clear hK K
  (try simp only [Act.put, List.setIfInBounds_toArray, List.set_cons_zero, List.set_cons_succ])
  refine' wpAnyH_take (i := 4) (oi := _) (v := _) ?hit4 ?hst4 ?hft4 ?hrt4 ?hQt4 ?hyt4 ?hSt4 ?_
  case hit4 => (simp only [List.getElem?_toArray, List.getElem?_cons_succ, List.getElem?_cons_zero]; rfl)
  case hst4 => kernel_rfl
  case hft4 => kernel_rfl
  case hrt4 => kernel_rfl
  case hQt4 => exact fun _ _ _ h => h
  case hSt4 => assumption
  case hyt4 =>
    refine Or.inl ⟨by rfl, ?_⟩
    intro w hSw
    (try dsimp only at hSw)
    go_simp
    all_goals (with_reducible rfl)
  (try simp only [Act.put, List.setIfInBounds_toArray, List.set_cons_zero, List.set_cons_succ])
  refine wpAnyH_done (by kernel_rfl) ?_ _
  have hb35 := (hbd.trans (hb4.mono hbd.size)).trans (hb5.mono (hbd.trans (hb4.mono hbd.size)).size)
  have X5 := Lib.hid (X3.out.old hb35)
  have H5 := Lib.hid (H3.out.trans (hb35.mono H3.out.size))
  have HP5 := Lib.hid (HP.out.old H5.out)
  clear hbd hHeld hb4 hb5 hb35
  rcases HCASE.out with ⟨hn, rfl, rfl⟩ | ⟨hn, rfl, rfl⟩ | ⟨rfl, hvP, huv, rfl⟩ | ⟨rfl, hvP, rfl, rfl⟩
  · have h2 : decide ((n : Int) < 32) = true := by simp; omega
    go_wp2_with (first | (refine wpList_load_lim (by rfl) 28 (.tmp 5) rfl w1.heap.size rfl 28 (limA 0) _ X5.out Tryd.underlying28 rfl (limA_infoE _) ?_))
    refine (same_zero _).mono ?_
    rintro e w6 ⟨rfl, hb6⟩
    go_wp2_with fail
    refine (awake_any _ (HP5.out.old hb6)).mono ?_
    rintro e w7 ⟨rfl, hb7⟩
    go_wp2
    go_ret
    exact ⟨rfl, H5.out.trans ((hb6.trans (hb7.mono hb6.size)).mono H5.out.size)⟩
  · have h2 : decide ((n : Int) < 32) = false := by simp; omega
    have h3 : decide (32 < (n : Int)) = true := by simp; omega
    go_wp2_with (first | (refine wpList_load_lim (by rfl) 28 (.tmp 5) rfl w1.heap.size rfl 28 (limA 0) _ X5.out Tryd.underlying28 rfl (limA_infoE _) ?_))
    refine (same_zero _).mono ?_
    rintro e w6 ⟨rfl, hb6⟩
    go_wp2_with fail
    refine (awake_any _ (HP5.out.old hb6)).mono ?_
    rintro e w7 ⟨rfl, hb7⟩
    go_wp2
    go_ret
    exact ⟨rfl, H5.out.trans ((hb6.trans (hb7.mono hb6.size)).mono H5.out.size)⟩
  · have huv := huv.symm
    subst huv
    obtain ⟨hv256, rfl⟩ := HV32.out rfl
    obtain ⟨ad, rfl, hadb, hcell⟩ := HR.out.2 (by omega)
    have g0 := hcell 0 _ (show (Lib.byteCells (fbytes v))[0]? = some (.int .u8 (((fbytes v).getD 0 0).toNat : Int)) by
      have h1 : 0 < (fbytes v).length := by rw [fbytes_length]; omega
      simp [Lib.byteCells, List.getD, List.getElem?_eq_getElem h1])
    have hb0 := fbytes_get v 0 (by omega)
    rw [Nat.pow_zero, Nat.div_one] at hb0
    rw [hb0, show ad.add 0 = ad by simp [Addr.add]] at g0
    obtain ⟨y0, hy0⟩ := named (v % 256)
    rw [← hy0.out] at g0
    have HG0 : Hid (∀ W, Below w.heap.size w W → W.cell? ad = some (.int .u8 (y0 : Int))) := Lib.hid fun W hb => (hb.cell hadb).trans g0
    clear hcell g0 hb0
    go_wp2_with fail
    refine (raw_any v hv256 ad c _ ((HR.out.below H5.out).more H5.out.size)).mono ?_
    rintro e w6 ⟨rfl, hb6⟩
    rw [show decide (v < P) = true by simpa using hvP, Nat.mod_eq_of_lt hvP]
    have X6 := Lib.hid (X5.out.old hb6)
    have H6 := Lib.hid (H5.out.trans (hb6.mono H5.out.size))
    have hz16 : Hid ((limF 0).size = (limF v).size) := Lib.hid (by rw [limF_size, limF_size])
    unfold refV
    obtain ⟨z, hz⟩ : ∃ z, Hid (z = limF 0) := ⟨_, Lib.hid rfl⟩
    have hz0 : ∀ W, (zeroValue 35).run Tryd.prog W = .ok (.agg z) W := by
      rw [hz.out, ← zero16]; exact (zero_of_info (n := 16) (by kernel_rfl)).1
    rw [← hz.out] at hz16
    clear hb6
    go_wp2_with (first | (refine wpList_store_row rfl 35 (.tmp 8) (.tmp 55) rfl w6.heap.size (limF v) rfl rfl 35 z (heap_alloc_new w6 _) (limF_info _) hz16.out (limF_one _) ?_; rw [setRow_alloc1]))
    have y7 := Lib.hid (Blk.new w6 35 (limF v))
    have X7 := Lib.hid (X6.out.alloc (.cells (limF v) 35))
    have H7 := Lib.hid (H6.out.alloc H6.out.size (.cells (limF v) 35))
    generalize w6.alloc (.cells (limF v) 35) = W7 at *
    clear hz0
    obtain ⟨o, ho⟩ : ∃ o, Hid (o = decide (v % 2 = 1)) := ⟨_, Lib.hid rfl⟩
    obtain ⟨r, hr⟩ := named (y0 % 2)
    have d3 : (y0 : Int) % 2 = (r : Int) := by rw [hr.out]; omega
    have d4 : (y0 : Int).tmod 2 = (r : Int) := by rw [Int.tmod_eq_emod_of_nonneg (by omega)]; omega
    have hro : ((r : Int) == 1) = o := by
      rw [ho.out, hr.out, hy0.out, Bool.eq_iff_iff]
      simp
      omega
    have hbd : Below W7.heap.size W7 W7.drew := (Below.refl _ _).drew
    refine wp_region_held_drew (S := fun W => Below W7.heap.size W7 W) (by kernel_rfl) hbd (fun hHeld => ?_)
    refine' wpAnyH_take (i := 0) (oi := _) (v := _) ?hit0 ?hst0 ?hft0 ?hrt0 ?hQt0 ?hyt0 ?hSt0 ?_
    case hit0 => (simp only [List.getElem?_toArray, List.getElem?_cons_succ, List.getElem?_cons_zero]; rfl)
    case hst0 => kernel_rfl
    case hft0 => kernel_rfl
    case hrt0 => kernel_rfl
    case hQt0 => exact fun _ _ _ h => h
    case hSt0 => assumption
    case hyt0 =>
      refine Or.inl ⟨by rfl, ?_⟩
      intro w hSw
      (try dsimp only at hSw)
      go_simp
      all_goals (with_reducible rfl)
    (try simp only [Act.put, List.setIfInBounds_toArray, List.set_cons_zero, List.set_cons_succ])
    refine' wpAnyH_take (i := 1) (oi := _) (v := _) ?hit1 ?hst1 ?hft1 ?hrt1 ?hQt1 ?hyt1 ?hSt1 ?_
    case hit1 => (simp only [List.getElem?_toArray, List.getElem?_cons_succ, List.getElem?_cons_zero]; rfl)
    case hst1 => kernel_rfl
    case hft1 => kernel_rfl
    case hrt1 => kernel_rfl
    case hQt1 => exact fun _ _ _ h => h
    case hSt1 => assumption
    case hyt1 =>
      refine Or.inl ⟨by rfl, ?_⟩
      intro w hSw
      (try dsimp only at hSw)
      go_simp
      all_goals (with_reducible rfl)
    (try simp only [Act.put, List.setIfInBounds_toArray, List.set_cons_zero, List.set_cons_succ])
    refine' wpAnyH_take (i := 2) (oi := _) (v := _) ?hit2 ?hst2 ?hft2 ?hrt2 ?hQt2 ?hyt2 ?hSt2 ?_
    case hit2 => (simp only [List.getElem?_toArray, List.getElem?_cons_succ, List.getElem?_cons_zero]; rfl)
    case hst2 => kernel_rfl
    case hft2 => kernel_rfl
    case hrt2 => kernel_rfl
    case hQt2 => exact fun _ _ _ h => h
    case hSt2 => assumption
    case hyt2 =>
      refine Or.inl ⟨by rfl, ?_⟩
      intro w hSw
      (try dsimp only at hSw)
      go_simp
      all_goals (with_reducible rfl)
    (try simp only [Act.put, List.setIfInBounds_toArray, List.set_cons_zero, List.set_cons_succ])
    refine' wpAnyH_take (i := 3) (oi := _) (v := .agg (limA v)) ?hit3 ?hst3 ?hft3 ?hrt3 ?hQt3 ?hyt3 ?hSt3 ?_
    case hit3 => (simp only [List.getElem?_toArray, List.getElem?_cons_succ, List.getElem?_cons_zero]; rfl)
    case hst3 => kernel_rfl
    case hft3 => kernel_rfl
    case hrt3 => kernel_rfl
    case hQt3 => exact fun _ _ _ h => h
    case hSt3 => assumption
    case hyt3 =>
      refine Or.inl ⟨by rfl, ?_⟩
      intro W hS
      exact quiet_load_row 28 (.tmp 5) w1.heap.size rfl 28 (limA v) _ (X7.out.old hS) Tryd.underlying28 rfl (limA_infoE v) rfl
    (try simp only [Act.put, List.setIfInBounds_toArray, List.set_cons_zero, List.set_cons_succ])
    refine' wpAnyH_take (i := 4) (oi := _) (v := .agg (limF v)) ?hit4 ?hst4 ?hft4 ?hrt4 ?hQt4 ?hyt4 ?hSt4 ?_
    case hit4 => (simp only [List.getElem?_toArray, List.getElem?_cons_succ, List.getElem?_cons_zero]; rfl)
    case hst4 => kernel_rfl
    case hft4 => kernel_rfl
    case hrt4 => kernel_rfl
    case hQt4 => exact fun _ _ _ h => h
    case hSt4 => assumption
    case hyt4 =>
      refine Or.inl ⟨by rfl, ?_⟩
      intro W hS
      exact quiet_load_row 35 (.tmp 8) w6.heap.size rfl 35 (limF v) _ (y7.out.old hS) Tryd.underlying35 rfl (limF_info v) rfl
    (try simp only [Act.put, List.setIfInBounds_toArray, List.set_cons_zero, List.set_cons_succ])
    refine wpAnyH_ready (rs := [5]) (by kernel_rfl) (by simp) ?_
    refine' AllReadyH.cons (o := _) ?hir5 (fun K hK => ?_) AllReadyH.nil
    case hir5 => (simp only [List.getElem?_toArray, List.getElem?_cons_succ, List.getElem?_cons_zero]; rfl)
    go_simp
    go_at_call 11
    refine (same_true v hv256 _).mono ?_
    rintro e w8 ⟨rfl, hb8⟩
    have hb78 := hbd.trans (hb8.mono hbd.size)
    refine hK.out _ _ ?_ (fun hHeld => ?_)
    exact hb78
    clear hK K
    (try simp only [Act.put, List.setIfInBounds_toArray, List.set_cons_zero, List.set_cons_succ])
    refine' wpAnyH_take (i := 6) (oi := _) (v := _) ?hit6 ?hst6 ?hft6 ?hrt6 ?hQt6 ?hyt6 ?hSt6 ?_
    case hit6 => (simp only [List.getElem?_toArray, List.getElem?_cons_succ, List.getElem?_cons_zero]; rfl)
    case hst6 => kernel_rfl
    case hft6 => kernel_rfl
    case hrt6 => kernel_rfl
    case hQt6 => exact fun _ _ _ h => h
    case hSt6 => assumption
    case hyt6 =>
      refine Or.inl ⟨by rfl, ?_⟩
      intro w hSw
      (try dsimp only at hSw)
      go_simp
      all_goals (with_reducible rfl)
    (try simp only [Act.put, List.setIfInBounds_toArray, List.set_cons_zero, List.set_cons_succ])
    refine' wpAnyH_take (i := 7) (oi := _) (v := _) ?hit7 ?hst7 ?hft7 ?hrt7 ?hQt7 ?hyt7 ?hSt7 ?_
    case hit7 => (simp only [List.getElem?_toArray, List.getElem?_cons_succ, List.getElem?_cons_zero]; rfl)
    case hst7 => kernel_rfl
    case hft7 => kernel_rfl
    case hrt7 => kernel_rfl
    case hQt7 => exact fun _ _ _ h => h
    case hSt7 => assumption
    case hyt7 =>
      refine Or.inl ⟨by rfl, ?_⟩
      intro w hSw
      (try dsimp only at hSw)
      go_simp
      all_goals (with_reducible rfl)
    (try simp only [Act.put, List.setIfInBounds_toArray, List.set_cons_zero, List.set_cons_succ])
    refine' wpAnyH_take (i := 8) (oi := _) (v := .agg (limA v)) ?hit8 ?hst8 ?hft8 ?hrt8 ?hQt8 ?hyt8 ?hSt8 ?_
    case hit8 => (simp only [List.getElem?_toArray, List.getElem?_cons_succ, List.getElem?_cons_zero]; rfl)
    case hst8 => kernel_rfl
    case hft8 => kernel_rfl
    case hrt8 => kernel_rfl
    case hQt8 => exact fun _ _ _ h => h
    case hSt8 => assumption
    case hyt8 =>
      refine Or.inl ⟨by rfl, ?_⟩
      intro W hS
      exact quiet_load_row 28 (.tmp 5) w1.heap.size rfl 28 (limA v) _ (X7.out.old hS) Tryd.underlying28 rfl (limA_infoE v) rfl
    (try simp only [Act.put, List.setIfInBounds_toArray, List.set_cons_zero, List.set_cons_succ])
    refine' wpAnyH_take (i := 10) (oi := _) (v := _) ?hit10 ?hst10 ?hft10 ?hrt10 ?hQt10 ?hyt10 ?hSt10 ?_
    case hit10 => (simp only [List.getElem?_toArray, List.getElem?_cons_succ, List.getElem?_cons_zero]; rfl)
    case hst10 => kernel_rfl
    case hft10 => kernel_rfl
    case hrt10 => kernel_rfl
    case hQt10 => exact fun _ _ _ h => h
    case hSt10 => assumption
    case hyt10 =>
      refine Or.inl ⟨by rfl, ?_⟩
      intro w hSw
      (try dsimp only at hSw)
      go_simp
      all_goals (with_reducible rfl)
    (try simp only [Act.put, List.setIfInBounds_toArray, List.set_cons_zero, List.set_cons_succ])
    refine' wpAnyH_take (i := 11) (oi := _) (v := _) ?hit11 ?hst11 ?hft11 ?hrt11 ?hQt11 ?hyt11 ?hSt11 ?_
    case hit11 => (simp only [List.getElem?_toArray, List.getElem?_cons_succ, List.getElem?_cons_zero]; rfl)
    case hst11 => kernel_rfl
    case hft11 => kernel_rfl
    case hrt11 => kernel_rfl
    case hQt11 => exact fun _ _ _ h => h
    case hSt11 => assumption
    case hyt11 =>
      refine Or.inl ⟨by rfl, ?_⟩
      intro w hSw
      (try dsimp only at hSw)
      go_simp
      all_goals (with_reducible rfl)
    (try simp only [Act.put, List.setIfInBounds_toArray, List.set_cons_zero, List.set_cons_succ])
    refine' wpAnyH_take (i := 12) (oi := _) (v := .int .u8 (y0 : Int)) ?hit12 ?hst12 ?hft12 ?hrt12 ?hQt12 ?hyt12 ?hSt12 ?_
    case hit12 => (simp only [List.getElem?_toArray, List.getElem?_cons_succ, List.getElem?_cons_zero]; rfl)
    case hst12 => kernel_rfl
    case hft12 => kernel_rfl
    case hrt12 => kernel_rfl
    case hQt12 => exact fun _ _ _ h => h
    case hSt12 => assumption
    case hyt12 =>
      refine Or.inl ⟨by rfl, ?_⟩
      intro W hS
      (have hc := HG0.out W (H7.out.trans (hS.mono H7.out.size)); go_simp; all_goals (with_reducible rfl))
    (try simp only [Act.put, List.setIfInBounds_toArray, List.set_cons_zero, List.set_cons_succ])
    refine' wpAnyH_take (i := 13) (oi := _) (v := _) ?hit13 ?hst13 ?hft13 ?hrt13 ?hQt13 ?hyt13 ?hSt13 ?_
    case hit13 => (simp only [List.getElem?_toArray, List.getElem?_cons_succ, List.getElem?_cons_zero]; rfl)
    case hst13 => kernel_rfl
    case hft13 => kernel_rfl
    case hrt13 => kernel_rfl
    case hQt13 => exact fun _ _ _ h => h
    case hSt13 => assumption
    case hyt13 =>
      refine Or.inl ⟨by rfl, ?_⟩
      intro w hSw
      (try dsimp only at hSw)
      go_simp
      all_goals (with_reducible rfl)
    (try simp only [Act.put, List.setIfInBounds_toArray, List.set_cons_zero, List.set_cons_succ])
    refine' wpAnyH_take (i := 14) (oi := _) (v := _) ?hit14 ?hst14 ?hft14 ?hrt14 ?hQt14 ?hyt14 ?hSt14 ?_
    case hit14 => (simp only [List.getElem?_toArray, List.getElem?_cons_succ, List.getElem?_cons_zero]; rfl)
    case hst14 => kernel_rfl
    case hft14 => kernel_rfl
    case hrt14 => kernel_rfl
    case hQt14 => exact fun _ _ _ h => h
    case hSt14 => assumption
    case hyt14 =>
      refine Or.inl ⟨by rfl, ?_⟩
      intro w hSw
      (try dsimp only at hSw)
      go_simp
      all_goals (with_reducible rfl)
    (try simp only [Act.put, List.setIfInBounds_toArray, List.set_cons_zero, List.set_cons_succ])
    refine wpAnyH_ready (rs := [9]) (by kernel_rfl) (by simp) ?_
    refine' AllReadyH.cons (o := _) ?hir9 (fun K hK => ?_) AllReadyH.nil
    case hir9 => (simp only [List.getElem?_toArray, List.getElem?_cons_succ, List.getElem?_cons_zero]; rfl)
    go_simp
    go_at_call 15
    refine (odd_e v _).mono ?_
    rw [← ho.out]
    rintro e w9 ⟨rfl, hb9⟩
    have hb79 := hb78.trans (hb9.mono hb78.size)
    refine hK.out _ _ ?_ (fun hHeld => ?_)
    exact hb79
    clear hK K
    (try simp only [Act.put, List.setIfInBounds_toArray, List.set_cons_zero, List.set_cons_succ])
    refine' wpAnyH_take (i := 15) (oi := _) (v := _) ?hit15 ?hst15 ?hft15 ?hrt15 ?hQt15 ?hyt15 ?hSt15 ?_
    case hit15 => (simp only [List.getElem?_toArray, List.getElem?_cons_succ, List.getElem?_cons_zero]; rfl)
    case hst15 => kernel_rfl
    case hft15 => kernel_rfl
    case hrt15 => kernel_rfl
    case hQt15 => exact fun _ _ _ h => h
    case hSt15 => assumption
    case hyt15 =>
      refine Or.inl ⟨by rfl, ?_⟩
      intro w hSw
      (try dsimp only at hSw)
      go_simp
      all_goals (with_reducible rfl)
    (try simp only [Act.put, List.setIfInBounds_toArray, List.set_cons_zero, List.set_cons_succ])
    refine' wpAnyH_take (i := 16) (oi := _) (v := _) ?hit16 ?hst16 ?hft16 ?hrt16 ?hQt16 ?hyt16 ?hSt16 ?_
    case hit16 => (simp only [List.getElem?_toArray, List.getElem?_cons_succ, List.getElem?_cons_zero]; rfl)
    case hst16 => kernel_rfl
    case hft16 => kernel_rfl
    case hrt16 => kernel_rfl
    case hQt16 => exact fun _ _ _ h => h
    case hSt16 => assumption
    case hyt16 =>
      refine Or.inl ⟨by rfl, ?_⟩
      intro w hSw
      (try dsimp only at hSw)
      go_simp
      all_goals (with_reducible rfl)
    (try simp only [Act.put, List.setIfInBounds_toArray, List.set_cons_zero, List.set_cons_succ])
    refine' wpAnyH_take (i := 17) (oi := _) (v := _) ?hit17 ?hst17 ?hft17 ?hrt17 ?hQt17 ?hyt17 ?hSt17 ?_
    case hit17 => (simp only [List.getElem?_toArray, List.getElem?_cons_succ, List.getElem?_cons_zero]; rfl)
    case hst17 => kernel_rfl
    case hft17 => kernel_rfl
    case hrt17 => kernel_rfl
    case hQt17 => exact fun _ _ _ h => h
    case hSt17 => assumption
    case hyt17 =>
      refine Or.inl ⟨by rfl, ?_⟩
      intro w hSw
      (try dsimp only at hSw)
      go_simp
      all_goals (with_reducible rfl)
    (try simp only [Act.put, List.setIfInBounds_toArray, List.set_cons_zero, List.set_cons_succ])
    refine wpAnyH_ready (rs := [18]) (by kernel_rfl) (by simp) ?_
    refine' AllReadyH.cons (o := _) ?hir18 (fun K hK => ?_) AllReadyH.nil
    case hir18 => (simp only [List.getElem?_toArray, List.getElem?_cons_succ, List.getElem?_cons_zero]; rfl)
    go_simp
    go_at_call 8
    refine (awake_any _ (HP.out.old (H7.out.trans (hb79.mono H7.out.size)))).mono ?_
    rintro e w10 ⟨rfl, hb10⟩
    have hb710 := hb79.trans (hb10.mono hb79.size)
    refine hK.out _ _ ?_ (fun hHeld => ?_)
    exact hb710
    clear hK K
    (try simp only [Act.put, List.setIfInBounds_toArray, List.set_cons_zero, List.set_cons_succ])
    refine' wpAnyH_take (i := 19) (oi := _) (v := _) ?hit19 ?hst19 ?hft19 ?hrt19 ?hQt19 ?hyt19 ?hSt19 ?_
    case hit19 => (simp only [List.getElem?_toArray, List.getElem?_cons_succ, List.getElem?_cons_zero]; rfl)
    case hst19 => kernel_rfl
    case hft19 => kernel_rfl
    case hrt19 => kernel_rfl
    case hQt19 => exact fun _ _ _ h => h
    case hSt19 => assumption
    case hyt19 =>
      refine Or.inl ⟨by rfl, ?_⟩
      intro w hSw
      (try dsimp only at hSw)
      go_simp
      all_goals (with_reducible rfl)
    (try simp only [Act.put, List.setIfInBounds_toArray, List.set_cons_zero, List.set_cons_succ])
    refine' wpAnyH_take (i := 20) (oi := _) (v := _) ?hit20 ?hst20 ?hft20 ?hrt20 ?hQt20 ?hyt20 ?hSt20 ?_
    case hit20 => (simp only [List.getElem?_toArray, List.getElem?_cons_succ, List.getElem?_cons_zero]; rfl)
    case hst20 => kernel_rfl
    case hft20 => kernel_rfl
    case hrt20 => kernel_rfl
    case hQt20 => exact fun _ _ _ h => h
    case hSt20 => assumption
    case hyt20 =>
      refine Or.inl ⟨by rfl, ?_⟩
      intro w hSw
      (try dsimp only at hSw)
      go_simp
      all_goals (with_reducible rfl)
    (try simp only [Act.put, List.setIfInBounds_toArray, List.set_cons_zero, List.set_cons_succ])
    refine wpAnyH_done (by kernel_rfl) ?_ _
    go_wp2
    go_ret
    exact ⟨rfl, H7.out.trans (hb710.mono H7.out.size)⟩
  · obtain ⟨hv256, rfl⟩ := HV32.out rfl
    obtain ⟨ad, rfl, hadb, hcell⟩ := HR.out.2 (by omega)
    clear hcell
    go_wp2_with fail
    refine (raw_any v hv256 ad c _ ((HR.out.below H5.out).more H5.out.size)).mono ?_
    rintro e w6 ⟨rfl, hb6⟩
    rw [show decide (v < P) = false by simpa using hvP]
    have X6 := Lib.hid (X5.out.old hb6)
    have H6 := Lib.hid (H5.out.trans (hb6.mono H5.out.size))
    have hz16 : Hid ((limF 0).size = (limF (v % P)).size) := Lib.hid (by rw [limF_size, limF_size])
    unfold refV
    obtain ⟨z, hz⟩ : ∃ z, Hid (z = limF 0) := ⟨_, Lib.hid rfl⟩
    have hz0 : ∀ W, (zeroValue 35).run Tryd.prog W = .ok (.agg z) W := by
      rw [hz.out, ← zero16]; exact (zero_of_info (n := 16) (by kernel_rfl)).1
    rw [← hz.out] at hz16
    have X7 := Lib.hid (X6.out.alloc (.cells (limF (v % P)) 35))
    have H7 := Lib.hid (H6.out.alloc H6.out.size (.cells (limF (v % P)) 35))
    clear hb6
    go_wp2_with (first | (refine wpList_store_row rfl 35 (.tmp 8) (.tmp 55) rfl w6.heap.size (limF (v % P)) rfl rfl 35 z (heap_alloc_new w6 _) (limF_info _) hz16.out (limF_one _) ?_; rw [setRow_alloc1]) |
      (refine wpList_load_lim (by rfl) 28 (.tmp 5) rfl w1.heap.size rfl 28 (limA 0) _ X7.out Tryd.underlying28 rfl (limA_infoE _) ?_))
    refine (same_zero _).mono ?_
    rintro e w8 ⟨rfl, hb8⟩
    have H8 := Lib.hid (H7.out.trans (hb8.mono H7.out.size))
    clear hb8
    go_wp2_with fail
    refine (awake_any _ (HP.out.old H8.out)).mono ?_
    rintro e w9 ⟨rfl, hb9⟩
    go_wp2
    go_ret
    exact ⟨rfl, H8.out.trans (hb9.mono H8.out.size)⟩
end Go.Proofs.YtphlehinjooncaaDoor
