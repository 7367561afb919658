/-
  The contracts of field's Inv and Root. Conditions: numbers below p; the limbs of the prime, and of turn, stand in their variables.
-/
import Derived.Test.YtphlehinjooncaaDoorFldPow
import Derived.Test.YtphlehinjooncaaDoorFldEq
import Derived.Test.YtphlehinjooncaaDoorFldGet
set_option linter.unusedVariables false
set_option linter.unusedSimpArgs false
namespace Go.Proofs.YtphlehinjooncaaDoor
open Go Go.Proofs Go.RowKit F5

/-- The limbs of turn stand in their variable. -/
def TurnAt (w : World) : Prop := 0 < w.heap.size ∧ ∀ j v, (limA I4)[j]? = some v → w.cell? ⟨0, 0 + j, none⟩ = some v
theorem TurnAt.old {w w' : World} (h : TurnAt w) (hb : Below w.heap.size w w') : TurnAt w' :=
  ⟨Nat.lt_of_lt_of_le h.1 hb.size, fun j v hj => (hb.cell (p := ⟨0, 0 + j, none⟩) h.1).trans (h.2 j v hj)⟩

theorem mul_pw (n a b : Nat) (V : World) (hV : PrimeAt V) : Calls Tryd.prog 21 #[.agg (limA (pw n a)), .agg (limA (pw n b))] V fun e w' => e = .returned (.agg (limA (pw n (a + b)))) ∧ Below V.heap.size V w' := by
  have := mul_e (pw n a) (pw n b) (pw_lt _ _) (pw_lt _ _) V hV
  rwa [pw_add] at this
theorem sq_pw (n a t : Nat) (ti : Int) (hti : ti = (t : Int)) (ht : t ≤ 1000) (V : World) (hV : PrimeAt V) : Calls Tryd.prog 35 #[.agg (limA (pw n a)), .int .i64 ti] V fun e w' => e = .returned (.agg (limA (pw n (a * 2 ^ t)))) ∧ Below V.heap.size V w' := by
  have := squared_any (pw n a) t (pw_lt _ _) ht V hV
  rw [pw_pw] at this
  rw [hti]; exact this
theorem ones_pw (n c : Nat) (ci : Int) (hci : ci = (c : Int)) (hc1 : 1 ≤ c) (hc : c ≤ 1000) (hn : n < P) (V : World) (hV : PrimeAt V) : Calls Tryd.prog 36 #[.agg (limA n), .int .i64 ci] V fun e w' => e = .returned (.agg (limA (pw n (2 ^ c - 1)))) ∧ Below V.heap.size V w' := by
  rw [hci]; exact ones_any c hc1 hc n V hn hV
theorem limA_ok (n : Nat) : (Tryd.prog.info? 28).map (·.size) = some (limA n).size ∧ (limA n).all (·.oneCell') = true ∧ Array.size (#[.int .u64 0, .int .u64 0, .int .u64 0, .int .u64 0] : Array Value) = (limA n).size := ⟨limA_infoE _, limA_one _, Z4_size _⟩
theorem inv_exp (a : Nat) (h : a = 2 ^ 250 - 1) : a * 2 ^ 5 + 8 + 2 + 1 = P - 2 := by subst h; decide +kernel
theorem root_exp (a : Nat) (h : a = 2 ^ 251 - 1) : a * 2 ^ 1 = E8 := by subst h; decide +kernel

set_option maxHeartbeats 8000000 in
theorem inv_e (n : Nat) (w : World) (hn : n < P) (hP : PrimeAt w) :
    Calls Tryd.prog 23 #[elemV n] w fun e w' => e = .returned (elemV (pw n (P - 2))) ∧ Below w.heap.size w w' := by
  unfold elemV
  have HP := Lib.hid hP
  have HN := Lib.hid hn
  have h2 := Two2.new w (limA n) #[.int .u64 0, .int .u64 0, .int .u64 0, .int .u64 0]
  obtain ⟨a, ha⟩ := named (2 ^ 250 - 1)
  have hres := inv_exp a ha.out
  rw [← hres]
  have C1 : Hid (∀ V, PrimeAt V → Calls Tryd.prog 35 #[.agg (limA n), .int .i64 1] V fun e w' => e = .returned (.agg (limA (pw n 2))) ∧ Below V.heap.size V w') := Lib.hid fun V hV => by
    have := sq_pw n 1 1 1 rfl (by omega) V hV
    rwa [pw_one HN.out] at this
  have C2 : Hid (∀ V, PrimeAt V → Calls Tryd.prog 35 #[.agg (limA (pw n 2)), .int .i64 2] V fun e w' => e = .returned (.agg (limA (pw n 8))) ∧ Below V.heap.size V w') := Lib.hid fun V hV => sq_pw n 2 2 2 rfl (by omega) V hV
  have C3 : Hid (∀ V, PrimeAt V → Calls Tryd.prog 36 #[.agg (limA n), .int .i64 250] V fun e w' => e = .returned (.agg (limA (pw n a))) ∧ Below V.heap.size V w') := Lib.hid fun V hV => by
    rw [ha.out]; exact ones_pw n 250 250 rfl (by omega) (by omega) HN.out V hV
  have C4 : Hid (∀ V, PrimeAt V → Calls Tryd.prog 35 #[.agg (limA (pw n a)), .int .i64 5] V fun e w' => e = .returned (.agg (limA (pw n (a * 2 ^ 5)))) ∧ Below V.heap.size V w') := Lib.hid fun V hV => sq_pw n a 5 5 rfl (by omega) V hV
  have C5 : Hid (∀ V, PrimeAt V → Calls Tryd.prog 21 #[.agg (limA (pw n (a * 2 ^ 5))), .agg (limA (pw n 8))] V fun e w' => e = .returned (.agg (limA (pw n (a * 2 ^ 5 + 8)))) ∧ Below V.heap.size V w') := Lib.hid fun V hV => mul_pw n _ _ V hV
  have C6 : Hid (∀ V, PrimeAt V → Calls Tryd.prog 21 #[.agg (limA (pw n (a * 2 ^ 5 + 8))), .agg (limA (pw n 2))] V fun e w' => e = .returned (.agg (limA (pw n (a * 2 ^ 5 + 8 + 2)))) ∧ Below V.heap.size V w') := Lib.hid fun V hV => mul_pw n _ _ V hV
  have C7 : Hid (∀ V, PrimeAt V → Calls Tryd.prog 21 #[.agg (limA (pw n (a * 2 ^ 5 + 8 + 2))), .agg (limA n)] V fun e w' => e = .returned (.agg (limA (pw n (a * 2 ^ 5 + 8 + 2 + 1)))) ∧ Below V.heap.size V w') := Lib.hid fun V hV => by
    have := mul_pw n (a * 2 ^ 5 + 8 + 2) 1 V hV
    rwa [pw_one HN.out] at this
  have o0 := Lib.hid (limA_ok n)
  have o2 := Lib.hid (limA_ok (pw n 2))
  have o8 := Lib.hid (limA_ok (pw n 8))
  have oR := Lib.hid (limA_ok (pw n (a * 2 ^ 5 + 8 + 2 + 1)))
  clear hP hn hres
  generalize limA (pw n (a * 2 ^ 5 + 8 + 2 + 1)) = R at *
  generalize limA (pw n (a * 2 ^ 5 + 8 + 2)) = c6 at *
  generalize limA (pw n (a * 2 ^ 5 + 8)) = c5 at *
  generalize limA (pw n (a * 2 ^ 5)) = c4 at *
  generalize limA (pw n a) = c3 at *
  generalize limA (pw n 2) = x2 at *
  generalize limA (pw n 8) = x8 at *
  generalize limA n = x at *
  go_enter Tryd.func23, Tryd.ntmps23
  go_upto_region 1 with fail
  generalize (w.alloc (.cells x 28)).alloc (.cells #[.int .u64 0, .int .u64 0, .int .u64 0, .int .u64 0] 28) = W at *
  have H2 := Lib.hid h2
  clear h2
  go_upto_region 2 with (first | (refine wpList_load_row rfl 28 (.tmp 1) rfl w.heap.size rfl 28 x (0, 0) _ H2.out.1 Tryd.underlying28 rfl o0.out.1 ?_))
  refine (C1.out _ (HP.out.old H2.out.2.2)).mono ?_
  rintro e w1 ⟨rfl, hb1⟩
  have H21 := Lib.hid (H2.out.next hb1)
  clear hb1
  go_upto_region 2 with (first | (refine wpList_store_row rfl 28 (.tmp 3) (.tmp 6) rfl w1.heap.size x2 rfl rfl 28 _ (heap_alloc_new w1 _) o2.out.1 o2.out.2.2 o2.out.2.1 ?_; rw [setRow_alloc1]))
  have h3 : Three2 w x #[.int .u64 0, .int .u64 0, .int .u64 0, .int .u64 0] x2 w1.heap.size (w1.alloc (.cells x2 28)) := ⟨H21.out.next ((Below.refl _ _).alloc (Nat.le_refl _) _), Blk.new _ _ _, H21.out.lt⟩
  generalize w1.alloc (.cells x2 28) = W1 at *
  generalize w1.heap.size = g3 at *
  have H3 := Lib.hid h3
  clear h3
  go_upto_region 3 with (first | (refine wpList_load_row rfl 28 (.tmp 3) rfl g3 rfl 28 x2 (0, 0) _ H3.out.2.1 Tryd.underlying28 rfl o2.out.1 ?_))
  refine (C2.out _ (HP.out.old H3.out.1.2.2)).mono ?_
  rintro e w2 ⟨rfl, hb1⟩
  have H31 := Lib.hid (H3.out.next hb1)
  clear hb1
  go_upto_region 3 with (first | (refine wpList_store_row rfl 28 (.tmp 4) (.tmp 8) rfl w2.heap.size x8 rfl rfl 28 _ (heap_alloc_new w2 _) o8.out.1 o8.out.2.2 o8.out.2.1 ?_; rw [setRow_alloc1]))
  have h4 : Three2 w x #[.int .u64 0, .int .u64 0, .int .u64 0, .int .u64 0] x2 g3 (w2.alloc (.cells x8 28)) := H31.out.next ((Below.refl _ _).alloc (Nat.le_refl _) _)
  have h8 : Blk (w2.alloc (.cells x8 28)) w2.heap.size 28 x8 := Blk.new _ _ _
  have hg4 : w.heap.size + 1 < w2.heap.size := H31.out.1.lt
  generalize w2.alloc (.cells x8 28) = W2 at *
  generalize w2.heap.size = g4 at *
  have H4 := Lib.hid h4
  have H8 := Lib.hid h8
  have G4 := Lib.hid hg4
  clear h4 h8 hg4
  (try simp only [Act.put, List.setIfInBounds_toArray, List.set_cons_zero, List.set_cons_succ])
  refine wp_region_held_drew (S := fun V => Far (w.heap.size + 1) W2 V) (by kernel_rfl) (Far.of (Below.refl _ _).drew) (fun hHeld => ?_)
  have HBW2 := Lib.hid ((Below.refl W2.heap.size W2).drew)
  generalize W2.drew = VW2 at *
  refine' wpAnyH_take (i := 0) (oi := _) (v := .agg x) ?hit1 ?hst1 ?hft1 ?hrt1 ?hQt1 ?hyt1 ?hSt1 ?_
  case hit1 => (simp only [List.getElem?_toArray, List.getElem?_cons_succ, List.getElem?_cons_zero]; rfl)
  case hst1 => kernel_rfl
  case hft1 => kernel_rfl
  case hrt1 => kernel_rfl
  case hQt1 => exact fun _ _ _ h => h
  case hSt1 => assumption
  case hyt1 =>
    refine Or.inl ⟨by rfl, ?_⟩
    intro W hS
    exact quiet_load_row 28 (.tmp 1) _ rfl 28 x _ (hS _ _ _ (by have := H4.out.2.2; have := G4.out; omega) H4.out.1.1) Tryd.underlying28 rfl o0.out.1 rfl
  (try simp only [Act.put, List.setIfInBounds_toArray, List.set_cons_zero, List.set_cons_succ])
  refine' wpAnyH_take (i := 3) (oi := _) (v := .agg x8) ?hit2 ?hst2 ?hft2 ?hrt2 ?hQt2 ?hyt2 ?hSt2 ?_
  case hit2 => (simp only [List.getElem?_toArray, List.getElem?_cons_succ, List.getElem?_cons_zero]; rfl)
  case hst2 => kernel_rfl
  case hft2 => kernel_rfl
  case hrt2 => kernel_rfl
  case hQt2 => exact fun _ _ _ h => h
  case hSt2 => assumption
  case hyt2 =>
    refine Or.inl ⟨by rfl, ?_⟩
    intro W hS
    exact quiet_load_row 28 (.tmp 4) _ rfl 28 x8 _ (hS _ _ _ (by have := H4.out.2.2; have := G4.out; omega) H8.out) Tryd.underlying28 rfl o8.out.1 rfl
  (try simp only [Act.put, List.setIfInBounds_toArray, List.set_cons_zero, List.set_cons_succ])
  refine' wpAnyH_take (i := 5) (oi := _) (v := .agg x2) ?hit3 ?hst3 ?hft3 ?hrt3 ?hQt3 ?hyt3 ?hSt3 ?_
  case hit3 => (simp only [List.getElem?_toArray, List.getElem?_cons_succ, List.getElem?_cons_zero]; rfl)
  case hst3 => kernel_rfl
  case hft3 => kernel_rfl
  case hrt3 => kernel_rfl
  case hQt3 => exact fun _ _ _ h => h
  case hSt3 => assumption
  case hyt3 =>
    refine Or.inl ⟨by rfl, ?_⟩
    intro W hS
    exact quiet_load_row 28 (.tmp 3) _ rfl 28 x2 _ (hS _ _ _ (by have := H4.out.2.2; have := G4.out; omega) H4.out.2.1) Tryd.underlying28 rfl o2.out.1 rfl
  (try simp only [Act.put, List.setIfInBounds_toArray, List.set_cons_zero, List.set_cons_succ])
  refine' wpAnyH_take (i := 7) (oi := _) (v := .agg x) ?hit4 ?hst4 ?hft4 ?hrt4 ?hQt4 ?hyt4 ?hSt4 ?_
  case hit4 => (simp only [List.getElem?_toArray, List.getElem?_cons_succ, List.getElem?_cons_zero]; rfl)
  case hst4 => kernel_rfl
  case hft4 => kernel_rfl
  case hrt4 => kernel_rfl
  case hQt4 => exact fun _ _ _ h => h
  case hSt4 => assumption
  case hyt4 =>
    refine Or.inl ⟨by rfl, ?_⟩
    intro W hS
    exact quiet_load_row 28 (.tmp 1) _ rfl 28 x _ (hS _ _ _ (by have := H4.out.2.2; have := G4.out; omega) H4.out.1.1) Tryd.underlying28 rfl o0.out.1 rfl
  (try simp only [Act.put, List.setIfInBounds_toArray, List.set_cons_zero, List.set_cons_succ])
  refine wpAnyH_ready (rs := [1]) (by kernel_rfl) (by simp) ?_
  refine' (AllReadyH.cons (o := _) ?hir5_1 (fun K hK => ?br5_1) AllReadyH.nil)
  case hir5_1 => (simp only [List.getElem?_toArray, List.getElem?_cons_succ, List.getElem?_cons_zero]; rfl)
  case br5_1 =>
    go_simp
    refine (C3.out _ (HP.out.old (H4.out.1.2.2.trans (HBW2.out.mono H4.out.1.2.2.size)))).mono ?_
    rintro e w6 ⟨rfl, hb6⟩
    have H6 := Lib.hid (HBW2.out.trans (hb6.mono HBW2.out.size))
    clear hb6
    go_wp2_with fail
    refine hK.out _ _ ?_ (fun hHeld => ?_)
    exact Far.of H6.out
    clear hK K
    (try simp only [Act.put, List.setIfInBounds_toArray, List.set_cons_zero, List.set_cons_succ])
    refine wpAnyH_ready (rs := [2]) (by kernel_rfl) (by simp) ?_
    refine' (AllReadyH.cons (o := _) ?hir7_2 (fun K hK => ?br7_2) AllReadyH.nil)
    case hir7_2 => (simp only [List.getElem?_toArray, List.getElem?_cons_succ, List.getElem?_cons_zero]; rfl)
    case br7_2 =>
      go_simp
      refine (C4.out _ (HP.out.old (H4.out.1.2.2.trans (H6.out.mono H4.out.1.2.2.size)))).mono ?_
      rintro e w8 ⟨rfl, hb8⟩
      have H8 := Lib.hid (H6.out.trans (hb8.mono H6.out.size))
      clear hb8
      go_wp2_with fail
      refine hK.out _ _ ?_ (fun hHeld => ?_)
      exact Far.of H8.out
      clear hK K
      (try simp only [Act.put, List.setIfInBounds_toArray, List.set_cons_zero, List.set_cons_succ])
      refine wpAnyH_ready (rs := [4]) (by kernel_rfl) (by simp) ?_
      refine' (AllReadyH.cons (o := _) ?hir9_4 (fun K hK => ?br9_4) AllReadyH.nil)
      case hir9_4 => (simp only [List.getElem?_toArray, List.getElem?_cons_succ, List.getElem?_cons_zero]; rfl)
      case br9_4 =>
        go_simp
        refine (C5.out _ (HP.out.old (H4.out.1.2.2.trans (H8.out.mono H4.out.1.2.2.size)))).mono ?_
        rintro e w10 ⟨rfl, hb10⟩
        have H10 := Lib.hid (H8.out.trans (hb10.mono H8.out.size))
        clear hb10
        go_wp2_with fail
        refine hK.out _ _ ?_ (fun hHeld => ?_)
        exact Far.of H10.out
        clear hK K
        (try simp only [Act.put, List.setIfInBounds_toArray, List.set_cons_zero, List.set_cons_succ])
        refine wpAnyH_ready (rs := [6]) (by kernel_rfl) (by simp) ?_
        refine' (AllReadyH.cons (o := _) ?hir11_6 (fun K hK => ?br11_6) AllReadyH.nil)
        case hir11_6 => (simp only [List.getElem?_toArray, List.getElem?_cons_succ, List.getElem?_cons_zero]; rfl)
        case br11_6 =>
          go_simp
          refine (C6.out _ (HP.out.old (H4.out.1.2.2.trans (H10.out.mono H4.out.1.2.2.size)))).mono ?_
          rintro e w12 ⟨rfl, hb12⟩
          have H12 := Lib.hid (H10.out.trans (hb12.mono H10.out.size))
          clear hb12
          go_wp2_with fail
          refine hK.out _ _ ?_ (fun hHeld => ?_)
          exact Far.of H12.out
          clear hK K
          (try simp only [Act.put, List.setIfInBounds_toArray, List.set_cons_zero, List.set_cons_succ])
          refine wpAnyH_ready (rs := [8]) (by kernel_rfl) (by simp) ?_
          refine' (AllReadyH.cons (o := _) ?hir13_8 (fun K hK => ?br13_8) AllReadyH.nil)
          case hir13_8 => (simp only [List.getElem?_toArray, List.getElem?_cons_succ, List.getElem?_cons_zero]; rfl)
          case br13_8 =>
            go_simp
            refine (C7.out _ (HP.out.old (H4.out.1.2.2.trans (H12.out.mono H4.out.1.2.2.size)))).mono ?_
            rintro e w14 ⟨rfl, hb14⟩
            have H14 := Lib.hid (H12.out.trans (hb14.mono H12.out.size))
            clear hb14
            go_wp2_with fail
            refine hK.out _ _ ?_ (fun hHeld => ?_)
            exact Far.of H14.out
            clear hK K
            (try simp only [Act.put, List.setIfInBounds_toArray, List.set_cons_zero, List.set_cons_succ])
            refine wpAnyH_ready (rs := [9]) (by kernel_rfl) (by simp) ?_
            refine' (AllReadyH.cons (o := _) ?hir15_9 (fun K hK => ?br15_9) AllReadyH.nil)
            case hir15_9 => (simp only [List.getElem?_toArray, List.getElem?_cons_succ, List.getElem?_cons_zero]; rfl)
            case br15_9 =>
              refine step_of_wp rfl ?_
              refine wp_store_row 28 (.tmp 2) (.tmp 17) rfl (w.heap.size + 1) R rfl rfl 28 _ (H4.out.1.2.1.old H14.out) oR.out.1 oR.out.2.2 oR.out.2.1 ?_
              refine hK.out _ _ ?_ (fun hHeld => ?_)
              exact (Far.of H14.out).row _
              clear hK K
              (try simp only [Act.put, List.setIfInBounds_toArray, List.set_cons_zero, List.set_cons_succ])
              refine wpAnyH_done (by kernel_rfl) ?_ _
              have H5 := Lib.hid ((H4.out.1.next H14.out).snd R)
              generalize World.setRow _ (w.heap.size + 1) R = V2 at *
              go_wp2_with fail
              refine bodyPost_ret (v := .agg R) ?_ rfl ⟨rfl, H5.out.2.2⟩
              exact results_cell_row Tryd.results23 _ _ (w.heap.size + 1) 28 R (0, 0) _ rfl H5.out.2.1 Tryd.underlying28 rfl oR.out.1

theorem pw_two (r : Nat) : pw r (2 ^ 1) = r * r % P := by rw [pw, show 2 ^ 1 = 2 from rfl, Nat.pow_two]
theorem odd_neg {r : Nat} (h : r < P) (ho : r % 2 = 1) : (0 + P - r) % P = P - r := by
  rw [Nat.zero_add]; exact Nat.mod_eq_of_lt (by have := P_pos; omega)

set_option maxHeartbeats 8000000 in
theorem root_e (n : Nat) (w : World) (hn : n < P) (hP : PrimeAt w) (hT : TurnAt w) :
    Calls Tryd.prog 24 #[elemV n] w fun e w' => e = .returned (.tuple #[elemV (root n), .bool (decide (hasRoot n))]) ∧ Below w.heap.size w w' := by
  unfold elemV
  have HP := Lib.hid hP
  have HT := Lib.hid hT
  have HN := Lib.hid hn
  have h2 := Two2.new w (limA n) #[.int .u64 0, .int .u64 0, .int .u64 0, .int .u64 0]
  obtain ⟨a, ha⟩ := named (2 ^ 251 - 1)
  have C1 : Hid (∀ V, PrimeAt V → Calls Tryd.prog 36 #[.agg (limA n), .int .i64 251] V fun e w' => e = .returned (.agg (limA (pw n a))) ∧ Below V.heap.size V w') := Lib.hid fun V hV => by
    rw [ha.out]; exact ones_pw n 251 251 rfl (by omega) (by omega) HN.out V hV
  have C2 : Hid (∀ V, PrimeAt V → Calls Tryd.prog 35 #[.agg (limA (pw n a)), .int .i64 1] V fun e w' => e = .returned (.agg (limA (pw n E8))) ∧ Below V.heap.size V w') := Lib.hid fun V hV => by
    have := sq_pw n a 1 1 rfl (by omega) V hV
    rwa [root_exp a ha.out] at this
  have hrl : pw n E8 < P := pw_lt _ _
  have hroot1 : root1 n = if pw n E8 * pw n E8 % P = n then pw n E8 else pw n E8 * I4 % P := rfl
  generalize pw n E8 = r at *
  have HR1 := Lib.hid hroot1
  have hr1l := root1_lt n
  have hroot : Hid (root n = if hasRoot n then (if root1 n % 2 = 1 then P - root1 n else root1 n) else 0) := Lib.hid rfl
  have hhas : Hid (hasRoot n ↔ root1 n * root1 n % P = n) := Lib.hid Iff.rfl
  have C3 : Hid (∀ V, PrimeAt V → Calls Tryd.prog 35 #[.agg (limA r), .int .i64 1] V fun e w' => e = .returned (.agg (limA (r * r % P))) ∧ Below V.heap.size V w') := Lib.hid fun V hV => by
    have := squared_any r 1 hrl (by omega) V hV
    rwa [pw_two] at this
  have C4 : Hid (∀ V, Calls Tryd.prog 13 #[.agg (limA (r * r % P)), .agg (limA n)] V fun e w' => e = .returned (.bool (decide (r * r % P = n))) ∧ Below V.heap.size V w') := Lib.hid fun V => same_e _ _ (Nat.mod_lt _ P_pos) HN.out V
  have C5 : Hid (∀ V, PrimeAt V → Calls Tryd.prog 21 #[.agg (limA r), .agg (limA I4)] V fun e w' => e = .returned (.agg (limA (r * I4 % P))) ∧ Below V.heap.size V w') := Lib.hid fun V hV => mul_e r I4 hrl I4_lt V hV
  have C6 : Hid (∀ V, PrimeAt V → Calls Tryd.prog 35 #[.agg (limA (root1 n)), .int .i64 1] V fun e w' => e = .returned (.agg (limA (root1 n * root1 n % P))) ∧ Below V.heap.size V w') := Lib.hid fun V hV => by
    have := squared_any (root1 n) 1 hr1l (by omega) V hV
    rwa [pw_two] at this
  have C7 : Hid (∀ V, Calls Tryd.prog 13 #[.agg (limA (root1 n * root1 n % P)), .agg (limA n)] V fun e w' => e = .returned (.bool (decide (root1 n * root1 n % P = n))) ∧ Below V.heap.size V w') := Lib.hid fun V => same_e _ _ (Nat.mod_lt _ P_pos) HN.out V
  have C8 : Hid (∀ V, Calls Tryd.prog 15 #[.agg (limA (root1 n))] V fun e w' => e = .returned (.bool (decide (root1 n % 2 = 1))) ∧ Below V.heap.size V w') := Lib.hid fun V => odd_e _ V
  have C9 : Hid (∀ V, PrimeAt V → Calls Tryd.prog 19 #[.agg #[.int .u64 0, .int .u64 0, .int .u64 0, .int .u64 0], .agg (limA (root1 n))] V fun e w' => e = .returned (.agg (limA ((0 + P - root1 n) % P))) ∧ Below V.heap.size V w') := Lib.hid fun V hV => sub_e 0 (root1 n) P_pos hr1l V hV
  have o0 := Lib.hid (limA_ok n)
  have or := Lib.hid (limA_ok r)
  have oI := Lib.hid (limA_ok (r * I4 % P))
  have o1 := Lib.hid (limA_ok (root1 n))
  have oN := Lib.hid (limA_ok ((0 + P - root1 n) % P))
  have hsz : Hid ((limA r).size = (limA (r * I4 % P)).size ∧ (limA (root1 n)).size = (limA ((0 + P - root1 n) % P)).size) := Lib.hid ⟨by rw [limA_size, limA_size], by rw [limA_size, limA_size]⟩
  have hbt := Lib.hid (built_lim I4)
  have hti := Lib.hid (limA_info I4)
  obtain ⟨ct, hct⟩ : ∃ c, Hid (c = limA I4) := ⟨_, Lib.hid rfl⟩
  have HT2 : Hid (∀ V, TurnAt V → ∀ j v, ct[j]? = some v → V.cell? ⟨0, 0 + j, none⟩ = some v) := Lib.hid fun V hV j v hj => hV.2 j v (by rw [← hct.out]; exact hj)
  rw [← hct.out] at C5 hbt hti
  obtain ⟨b1, hb1⟩ : ∃ b, Hid (b = decide (r * r % P = n)) := ⟨_, Lib.hid rfl⟩
  obtain ⟨b2, hb2⟩ : ∃ b, Hid (b = decide (root1 n * root1 n % P = n)) := ⟨_, Lib.hid rfl⟩
  obtain ⟨b3, hb3⟩ : ∃ b, Hid (b = decide (root1 n % 2 = 1)) := ⟨_, Lib.hid rfl⟩
  rw [← hb1.out] at C4
  rw [← hb2.out] at C7
  rw [← hb3.out] at C8
  obtain ⟨x, hx⟩ : ∃ c, Hid (c = limA n) := ⟨_, Lib.hid rfl⟩
  obtain ⟨cr, hcr⟩ : ∃ c, Hid (c = limA r) := ⟨_, Lib.hid rfl⟩
  obtain ⟨cI, hcI⟩ : ∃ c, Hid (c = limA (r * I4 % P)) := ⟨_, Lib.hid rfl⟩
  obtain ⟨c1, hc1⟩ : ∃ c, Hid (c = limA (root1 n)) := ⟨_, Lib.hid rfl⟩
  obtain ⟨cN, hcN⟩ : ∃ c, Hid (c = limA ((0 + P - root1 n) % P)) := ⟨_, Lib.hid rfl⟩
  rw [← hx.out] at C1 C4 C7 o0 h2 ⊢
  rw [← hcr.out] at C2 C3 C5 or hsz
  rw [← hcI.out] at C5 oI hsz
  rw [← hc1.out] at C6 C8 C9 o1 hsz
  rw [← hcN.out] at C9 oN hsz
  obtain ⟨cR, hcR⟩ : ∃ c, Hid (c = limA (root n)) := ⟨_, Lib.hid rfl⟩
  have HRl := Lib.hid hrl
  have HR1l := Lib.hid hr1l
  clear hP hn hT hroot1 hrl hr1l
  go_enter Tryd.func24, Tryd.ntmps24
  go_upto_region 1 with fail
  generalize (w.alloc (.cells x 28)).alloc (.cells #[.int .u64 0, .int .u64 0, .int .u64 0, .int .u64 0] 28) = W at *
  have H2 := Lib.hid h2
  clear h2
  go_upto_region 2 with (first | (refine wpList_load_row rfl 28 (.tmp 1) rfl w.heap.size rfl 28 x (0, 0) _ H2.out.1 Tryd.underlying28 rfl o0.out.1 ?_))
  refine (C1.out _ (HP.out.old H2.out.2.2)).mono ?_
  rintro e w1 ⟨rfl, hb⟩
  have H21 := Lib.hid (H2.out.next hb)
  clear hb
  go_upto_region 2 with fail
  refine (C2.out _ (HP.out.old H21.out.2.2)).mono ?_
  rintro e w1 ⟨rfl, hb⟩
  have H22 := Lib.hid (H21.out.next hb)
  clear hb
  go_upto_region 2 with (first | (refine wpList_store_row rfl 28 (.tmp 4) (.tmp 7) rfl w1.heap.size cr rfl rfl 28 _ (heap_alloc_new w1 _) or.out.1 or.out.2.2 or.out.2.1 ?_; rw [setRow_alloc1]))
  have h3 : Three2 w x #[.int .u64 0, .int .u64 0, .int .u64 0, .int .u64 0] cr w1.heap.size (w1.alloc (.cells cr 28)) := ⟨H22.out.next ((Below.refl _ _).alloc (Nat.le_refl _) _), Blk.new _ _ _, H22.out.lt⟩
  generalize w1.alloc (.cells cr 28) = W1 at *
  generalize w1.heap.size = g4 at *
  have H3 := Lib.hid h3
  clear h3
  (try simp only [Act.put, List.setIfInBounds_toArray, List.set_cons_zero, List.set_cons_succ])
  refine wp_region_held_drew (S := fun V => Below W1.heap.size W1 V) (by kernel_rfl) ((Below.refl _ _).drew) (fun hHeld => ?_)
  have HBW1 := Lib.hid ((Below.refl W1.heap.size W1).drew)
  generalize W1.drew = VW1 at *
  refine' wpAnyH_take (i := 0) (oi := _) (v := .agg cr) ?hit17 ?hst17 ?hft17 ?hrt17 ?hQt17 ?hyt17 ?hSt17 ?_
  case hit17 => (simp only [List.getElem?_toArray, List.getElem?_cons_succ, List.getElem?_cons_zero]; rfl)
  case hst17 => kernel_rfl
  case hft17 => kernel_rfl
  case hrt17 => kernel_rfl
  case hQt17 => exact fun _ _ _ h => h
  case hSt17 => assumption
  case hyt17 =>
    refine Or.inl ⟨by rfl, ?_⟩
    intro W hS
    exact quiet_load_row 28 (.tmp 4) _ rfl 28 cr _ (H3.out.2.1.old hS) Tryd.underlying28 rfl or.out.1 rfl
  (try simp only [Act.put, List.setIfInBounds_toArray, List.set_cons_zero, List.set_cons_succ])
  refine' wpAnyH_take (i := 2) (oi := _) (v := .agg x) ?hit18 ?hst18 ?hft18 ?hrt18 ?hQt18 ?hyt18 ?hSt18 ?_
  case hit18 => (simp only [List.getElem?_toArray, List.getElem?_cons_succ, List.getElem?_cons_zero]; rfl)
  case hst18 => kernel_rfl
  case hft18 => kernel_rfl
  case hrt18 => kernel_rfl
  case hQt18 => exact fun _ _ _ h => h
  case hSt18 => assumption
  case hyt18 =>
    refine Or.inl ⟨by rfl, ?_⟩
    intro W hS
    exact quiet_load_row 28 (.tmp 1) _ rfl 28 x _ (H3.out.1.1.old hS) Tryd.underlying28 rfl o0.out.1 rfl
  (try simp only [Act.put, List.setIfInBounds_toArray, List.set_cons_zero, List.set_cons_succ])
  refine wpAnyH_ready (rs := [1]) (by kernel_rfl) (by simp) ?_
  refine' (AllReadyH.cons (o := _) ?hir19_1 (fun K hK => ?br19_1) AllReadyH.nil)
  case hir19_1 => (simp only [List.getElem?_toArray, List.getElem?_cons_succ, List.getElem?_cons_zero]; rfl)
  case br19_1 =>
    go_simp
    refine (C3.out _ (HP.out.old (H3.out.1.2.2.trans (HBW1.out.mono H3.out.1.2.2.size)))).mono ?_
    rintro e w20 ⟨rfl, hb20⟩
    have H20 := Lib.hid (HBW1.out.trans (hb20.mono HBW1.out.size))
    clear hb20
    go_wp2_with fail
    refine hK.out _ _ ?_ (fun hHeld => ?_)
    exact H20.out
    clear hK K
    (try simp only [Act.put, List.setIfInBounds_toArray, List.set_cons_zero, List.set_cons_succ])
    refine wpAnyH_ready (rs := [3]) (by kernel_rfl) (by simp) ?_
    refine' (AllReadyH.cons (o := _) ?hir21_3 (fun K hK => ?br21_3) AllReadyH.nil)
    case hir21_3 => (simp only [List.getElem?_toArray, List.getElem?_cons_succ, List.getElem?_cons_zero]; rfl)
    case br21_3 =>
      go_simp
      refine (C4.out _).mono ?_
      rintro e w22 ⟨rfl, hb22⟩
      have H22 := Lib.hid (H20.out.trans (hb22.mono H20.out.size))
      clear hb22
      go_wp2_with fail
      refine hK.out _ _ ?_ (fun hHeld => ?_)
      exact H22.out
      clear hK K
      (try simp only [Act.put, List.setIfInBounds_toArray, List.set_cons_zero, List.set_cons_succ])
      refine' wpAnyH_take (i := 4) (oi := _) (v := _) ?hit23 ?hst23 ?hft23 ?hrt23 ?hQt23 ?hyt23 ?hSt23 ?_
      case hit23 => (simp only [List.getElem?_toArray, List.getElem?_cons_succ, List.getElem?_cons_zero]; rfl)
      case hst23 => kernel_rfl
      case hft23 => kernel_rfl
      case hrt23 => kernel_rfl
      case hQt23 => exact fun _ _ _ h => h
      case hSt23 => assumption
      case hyt23 =>
        refine Or.inl ⟨by rfl, ?_⟩
        intro w hSw
        (try dsimp only at hSw)
        go_simp
        all_goals (with_reducible rfl)
      (try simp only [Act.put, List.setIfInBounds_toArray, List.set_cons_zero, List.set_cons_succ])
      refine wpAnyH_done (by kernel_rfl) ?_ _
      have H4 := Lib.hid (H3.out.next H22.out)
      have HT4 := Lib.hid (HT2.out _ (HT.out.old H4.out.1.2.2))
      have HP4 := Lib.hid (HP.out.old H4.out.1.2.2)
      clear hHeld
      go_upto_if 12 with fail
      (try simp only [Act.put, List.setIfInBounds_toArray, List.set_cons_zero, List.set_cons_succ])
      go_cut [] (fun wx => Three2 w x #[.int .u64 0, .int .u64 0, .int .u64 0, .int .u64 0] c1 g4 wx)
      case first =>
        cases hb1v : b1
        · have e1 : Hid (cI = c1) := by
            rw [hcI.out, hc1.out, HR1.out, if_neg (by have := hb1.out; rw [hb1v] at this; simpa using this.symm)]; exact Lib.hid rfl
          clear hb1v
          go_wp2_with (first | (refine wpList_load_row rfl 28 (.tmp 4) rfl g4 rfl 28 cr (0, 0) _ H4.out.2.1 Tryd.underlying28 rfl or.out.1 ?_) |
            (refine wpList_load_at rfl 26 (.global 0) rfl 0 0 rfl 23 4 ct Tryd.underlying26 hti.out HT4.out ?_) |
            (refine wpList_build_to rfl 28 #[(0, .tmp 14)] rfl [(0, .agg ct)] (by simp [Act.eval, Act.put]) ct hbt.out ?_))
          refine (C5.out _ HP4.out).mono ?_
          rintro e w5 ⟨rfl, hb⟩
          have H5 := Lib.hid (H4.out.next hb)
          have H6 := Lib.hid (H5.out.third cI)
          clear hb
          go_wp2_with (first | (refine wpList_store_row rfl 28 (.tmp 4) (.tmp 16) rfl g4 cI rfl rfl 28 cr H5.out.2.1 oI.out.1 hsz.out.1 oI.out.2.1 ?_))
          go_meet
          exact (by rw [← e1.out]; exact H6.out)
        · have e1 : Hid (cr = c1) := by
            rw [hcr.out, hc1.out, HR1.out, if_pos (by have := hb1.out; rw [hb1v] at this; simpa using this.symm)]; exact Lib.hid rfl
          clear hb1v
          go_wp2_with fail
          go_meet
          exact (by rw [← e1.out]; exact H4.out)
      case rest =>
        have H7 := Lib.hid hcut
        clear hcut
        go_upto_region 4 with fail
        generalize wc = W4 at *
        (try simp only [Act.put, List.setIfInBounds_toArray, List.set_cons_zero, List.set_cons_succ])
        refine wp_region_held_drew (S := fun V => Below W4.heap.size W4 V) (by kernel_rfl) ((Below.refl _ _).drew) (fun hHeld => ?_)
        have HBW4 := Lib.hid ((Below.refl W4.heap.size W4).drew)
        generalize W4.drew = VW4 at *
        refine' wpAnyH_take (i := 0) (oi := _) (v := .agg c1) ?hit24 ?hst24 ?hft24 ?hrt24 ?hQt24 ?hyt24 ?hSt24 ?_
        case hit24 => (simp only [List.getElem?_toArray, List.getElem?_cons_succ, List.getElem?_cons_zero]; rfl)
        case hst24 => kernel_rfl
        case hft24 => kernel_rfl
        case hrt24 => kernel_rfl
        case hQt24 => exact fun _ _ _ h => h
        case hSt24 => assumption
        case hyt24 =>
          refine Or.inl ⟨by rfl, ?_⟩
          intro W hS
          exact quiet_load_row 28 (.tmp 4) _ rfl 28 c1 _ (H7.out.2.1.old hS) Tryd.underlying28 rfl o1.out.1 rfl
        (try simp only [Act.put, List.setIfInBounds_toArray, List.set_cons_zero, List.set_cons_succ])
        refine' wpAnyH_take (i := 2) (oi := _) (v := .agg x) ?hit25 ?hst25 ?hft25 ?hrt25 ?hQt25 ?hyt25 ?hSt25 ?_
        case hit25 => (simp only [List.getElem?_toArray, List.getElem?_cons_succ, List.getElem?_cons_zero]; rfl)
        case hst25 => kernel_rfl
        case hft25 => kernel_rfl
        case hrt25 => kernel_rfl
        case hQt25 => exact fun _ _ _ h => h
        case hSt25 => assumption
        case hyt25 =>
          refine Or.inl ⟨by rfl, ?_⟩
          intro W hS
          exact quiet_load_row 28 (.tmp 1) _ rfl 28 x _ (H7.out.1.1.old hS) Tryd.underlying28 rfl o0.out.1 rfl
        (try simp only [Act.put, List.setIfInBounds_toArray, List.set_cons_zero, List.set_cons_succ])
        refine wpAnyH_ready (rs := [1]) (by kernel_rfl) (by simp) ?_
        refine' (AllReadyH.cons (o := _) ?hir26_1 (fun K hK => ?br26_1) AllReadyH.nil)
        case hir26_1 => (simp only [List.getElem?_toArray, List.getElem?_cons_succ, List.getElem?_cons_zero]; rfl)
        case br26_1 =>
          go_simp
          refine (C6.out _ (HP.out.old (H7.out.1.2.2.trans (HBW4.out.mono H7.out.1.2.2.size)))).mono ?_
          rintro e w27 ⟨rfl, hb27⟩
          have H27 := Lib.hid (HBW4.out.trans (hb27.mono HBW4.out.size))
          clear hb27
          go_wp2_with fail
          refine hK.out _ _ ?_ (fun hHeld => ?_)
          exact H27.out
          clear hK K
          (try simp only [Act.put, List.setIfInBounds_toArray, List.set_cons_zero, List.set_cons_succ])
          refine wpAnyH_ready (rs := [3]) (by kernel_rfl) (by simp) ?_
          refine' (AllReadyH.cons (o := _) ?hir28_3 (fun K hK => ?br28_3) AllReadyH.nil)
          case hir28_3 => (simp only [List.getElem?_toArray, List.getElem?_cons_succ, List.getElem?_cons_zero]; rfl)
          case br28_3 =>
            go_simp
            refine (C7.out _).mono ?_
            rintro e w29 ⟨rfl, hb29⟩
            have H29 := Lib.hid (H27.out.trans (hb29.mono H27.out.size))
            clear hb29
            go_wp2_with fail
            refine hK.out _ _ ?_ (fun hHeld => ?_)
            exact H29.out
            clear hK K
            (try simp only [Act.put, List.setIfInBounds_toArray, List.set_cons_zero, List.set_cons_succ])
            refine' wpAnyH_take (i := 4) (oi := _) (v := _) ?hit30 ?hst30 ?hft30 ?hrt30 ?hQt30 ?hyt30 ?hSt30 ?_
            case hit30 => (simp only [List.getElem?_toArray, List.getElem?_cons_succ, List.getElem?_cons_zero]; rfl)
            case hst30 => kernel_rfl
            case hft30 => kernel_rfl
            case hrt30 => kernel_rfl
            case hQt30 => exact fun _ _ _ h => h
            case hSt30 => assumption
            case hyt30 =>
              refine Or.inl ⟨by rfl, ?_⟩
              intro w hSw
              (try dsimp only at hSw)
              go_simp
              all_goals (with_reducible rfl)
            (try simp only [Act.put, List.setIfInBounds_toArray, List.set_cons_zero, List.set_cons_succ])
            refine wpAnyH_done (by kernel_rfl) ?_ _
            have H8 := Lib.hid (H7.out.next H29.out)
            have HP8 := Lib.hid (HP.out.old H8.out.1.2.2)
            clear hHeld
            cases hb2v : b2
            · have hno : ¬ hasRoot n := by rw [hhas.out]; have := hb2.out; rw [hb2v] at this; simpa using this.symm
              have hr0 : Hid (root n = 0) := by rw [hroot.out, if_neg hno]; exact Lib.hid rfl
              have hd : Hid (decide (hasRoot n) = false) := Lib.hid (by simpa using hno)
              have hz := Lib.hid (limA_ok 0)
              rw [show limA 0 = #[.int .u64 0, .int .u64 0, .int .u64 0, .int .u64 0] from rfl] at hz
              clear hno hb2v
              go_wp2_with (first | (refine wpList_store_row rfl 28 (.tmp 2) (.tmp 22) rfl (w.heap.size + 1) #[.int .u64 0, .int .u64 0, .int .u64 0, .int .u64 0] rfl rfl 28 _ H8.out.1.2.1 hz.out.1 hz.out.2.2 hz.out.2.1 ?_; rw [setRow_self H8.out.1.2.1]))
              refine bodyPost_ret (v := .tuple #[.agg #[.int .u64 0, .int .u64 0, .int .u64 0, .int .u64 0], .bool false]) ?_ rfl ⟨by rw [hr0.out, hd.out]; rfl, H8.out.1.2.2⟩
              exact results_row_tmp1 Tryd.results24 _ _ (w.heap.size + 1) 28 _ _ _ rfl rfl H8.out.1.2.1 Tryd.underlying28 hz.out.1
            have hyes : hasRoot n := by rw [hhas.out]; have := hb2.out; rw [hb2v] at this; simpa using this.symm
            have hd : Hid (decide (hasRoot n) = true) := Lib.hid (by simpa using hyes)
            have hrr : root n = if root1 n % 2 = 1 then P - root1 n else root1 n := by rw [hroot.out, if_pos hyes]
            have HRR := Lib.hid hrr
            clear hyes hb2v hrr
            go_upto_if 24 with (first | (refine wpList_load_row rfl 28 (.tmp 4) rfl g4 rfl 28 c1 (0, 0) _ H8.out.2.1 Tryd.underlying28 rfl o1.out.1 ?_))
            refine (C8.out _).mono ?_
            rintro e w9 ⟨rfl, hb⟩
            have H9 := Lib.hid (H8.out.next hb)
            have HP9 := Lib.hid (HP.out.old H9.out.1.2.2)
            clear hb
            go_upto_if 24 with fail
            (try simp only [Act.put, List.setIfInBounds_toArray, List.set_cons_zero, List.set_cons_succ])
            go_cut [] (fun wx => Three2 w x #[.int .u64 0, .int .u64 0, .int .u64 0, .int .u64 0] cR g4 wx)
            case first =>
              cases hb3v : b3
              · have e1 : Hid (c1 = cR) := by
                  rw [hc1.out, hcR.out, HRR.out, if_neg (by have := hb3.out; rw [hb3v] at this; simpa using this.symm)]; exact Lib.hid rfl
                clear hb3v
                go_wp2_with fail
                go_meet
                exact (by rw [← e1.out]; exact H9.out)
              · have e1 : Hid (cN = cR) := by
                  have ho : root1 n % 2 = 1 := by have := hb3.out; rw [hb3v] at this; simpa using this.symm
                  rw [hcN.out, hcR.out, HRR.out, if_pos ho, odd_neg HR1l.out ho]; exact Lib.hid rfl
                clear hb3v
                go_wp2_with (first | (refine wpList_load_row rfl 28 (.tmp 4) rfl g4 rfl 28 c1 (0, 0) _ H9.out.2.1 Tryd.underlying28 rfl o1.out.1 ?_))
                refine (C9.out _ HP9.out).mono ?_
                rintro e w5 ⟨rfl, hb⟩
                have H5 := Lib.hid (H9.out.next hb)
                have H6 := Lib.hid (H5.out.third cN)
                clear hb
                go_wp2_with (first | (refine wpList_store_row rfl 28 (.tmp 4) (.tmp 27) rfl g4 cN rfl rfl 28 c1 H5.out.2.1 oN.out.1 hsz.out.2 oN.out.2.1 ?_))
                go_meet
                exact (by rw [← e1.out]; exact H6.out)
            case rest =>
              have HC := Lib.hid hcut
              have oR : Hid ((Tryd.prog.info? 28).map (·.size) = some cR.size ∧ cR.all (·.oneCell') = true ∧ Array.size (#[.int .u64 0, .int .u64 0, .int .u64 0, .int .u64 0] : Array Value) = cR.size) := by rw [hcR.out]; exact Lib.hid (limA_ok _)
              have HF := Lib.hid (hcut.1.snd cR)
              clear hcut
              go_wp2_with (first | (refine wpList_load_row rfl 28 (.tmp 4) rfl g4 rfl 28 cR (0, 0) _ HC.out.2.1 Tryd.underlying28 rfl oR.out.1 ?_) |
                (refine wpList_store_row rfl 28 (.tmp 2) (.tmp 28) rfl (w.heap.size + 1) cR rfl rfl 28 _ HC.out.1.2.1 oR.out.1 oR.out.2.2 oR.out.2.1 ?_))
              refine bodyPost_ret (v := .tuple #[.agg cR, .bool true]) ?_ rfl ⟨by rw [hcR.out, hd.out], HF.out.2.2⟩
              exact results_row_tmp1 Tryd.results24 _ _ (w.heap.size + 1) 28 _ _ _ rfl rfl HF.out.2.1 Tryd.underlying28 oR.out.1
end Go.Proofs.YtphlehinjooncaaDoor
