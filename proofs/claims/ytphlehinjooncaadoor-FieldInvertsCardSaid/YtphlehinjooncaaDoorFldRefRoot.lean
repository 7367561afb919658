/-
  The contracts of the reference's Inv and Root. Conditions: numbers below p.
-/
import Derived.Test.YtphlehinjooncaaDoorFldRefPow
set_option linter.unusedVariables false
set_option linter.unusedSimpArgs false
namespace Go.Proofs.YtphlehinjooncaaDoor
open Go Go.Proofs Go.RowKit F5

def TwoF (w : World) (a b : Array Value) (wr : World) : Prop := Blk wr w.heap.size 35 a ∧ Blk wr (w.heap.size + 1) 35 b ∧ Below w.heap.size w wr
theorem TwoF.new (w : World) (a b : Array Value) : TwoF w a b ((w.alloc (.cells a 35)).alloc (.cells b 35)) := by
  refine ⟨(Blk.new w 35 a).alloc _, ?_, ((Below.refl _ _).alloc (Nat.le_refl _) _).alloc (by simp) _⟩
  have := Blk.new (w.alloc (.cells a 35)) 35 b
  rwa [show (w.alloc (.cells a 35)).heap.size = w.heap.size + 1 by simp] at this
theorem TwoF.next {w wr w' : World} {a b : Array Value} (h : TwoF w a b wr) (hb : Below wr.heap.size wr w') : TwoF w a b w' := ⟨h.1.old hb, h.2.1.old hb, h.2.2.trans (hb.mono h.2.2.size)⟩
theorem TwoF.snd {w wr : World} {a b : Array Value} (h : TwoF w a b wr) (c : Array Value) : TwoF w a c (wr.setRow (w.heap.size + 1) c) := ⟨h.1.rowFar (by omega) c, h.2.1.row c, below_row h.2.2 (by omega) c⟩
theorem TwoF.far {w wr : World} {a b : Array Value} (h : TwoF w a b wr) {g : Nat} (hg : w.heap.size + 1 < g) (c : Array Value) : TwoF w a b (wr.setRow g c) := ⟨h.1.rowFar (by omega) c, h.2.1.rowFar (by omega) c, below_row h.2.2 (by omega) c⟩
theorem TwoF.lt {w wr : World} {a b : Array Value} (h : TwoF w a b wr) : w.heap.size + 1 < wr.heap.size := h.2.1.lt
def ThreeF (w : World) (a b c : Array Value) (g : Nat) (wr : World) : Prop := TwoF w a b wr ∧ Blk wr g 35 c ∧ w.heap.size + 1 < g
theorem ThreeF.next {w wr w' : World} {a b c : Array Value} {g : Nat} (h : ThreeF w a b c g wr) (hb : Below wr.heap.size wr w') : ThreeF w a b c g w' := ⟨h.1.next hb, h.2.1.old hb, h.2.2⟩
theorem ThreeF.third {w wr : World} {a b c : Array Value} {g : Nat} (h : ThreeF w a b c g wr) (d : Array Value) : ThreeF w a b d g (wr.setRow g d) := ⟨h.1.far h.2.2 d, h.2.1.row d, h.2.2⟩
theorem quiet_neq_F {o : Oper} {ev : Operand → Value} (w : World) (x y : Operand) (k : TypeId) (l l' : List Nat) (hl : l.length = 16) (hl' : l'.length = 16) (hx : ev x = .agg (u64s l)) (hy : ev y = .agg (u64s l'))
    (ho : o.op = .binOp .neq 35 x y k) : (execOp ev o).run Tryd.prog w = .ok (.value (.bool (!decide (l = l')))) w := by
  have hg : (eqGuard .neq 35 x y (.agg (u64s l)) (.agg (u64s l'))).run Tryd.prog w = .ok () w := run_eqGuard_agg w .neq _ x y _ _ (by kernel_rfl)
  unfold execOp
  simp only [ho, hx, hy, Sem.run_bind, hg, Result.andThen_ok, run_neq_u64s (i := default) Tryd.underlying35 l l' hl hl' w, Sem.run_pure]
theorem limF0_ok (n : Nat) : (Tryd.prog.info? 35).map (·.size) = some (limF n).size ∧ (limF n).all (·.oneCell') = true ∧ Array.size (limF 0) = (limF n).size := ⟨limF_info _, limF_one _, by rw [limF_size, limF_size]⟩
theorem refPower_of (n less down e : Nat) (li di : Int) (hli : li = (less : Int)) (hdi : di = (down : Int)) (hn : n < P) (hl : less ≤ 1000) (hd : down ≤ 255) (he : (P - less) / 2 ^ down = e) (w : World) :
    Calls Tryd.prog 37 #[.agg (limF n), .int .u64 li, .int .i64 di] w fun e' w' => e' = .returned (.agg (limF (pw n e))) ∧ Below w.heap.size w w' := by
  subst hli hdi he
  exact refPower_any n less down hn hl hd w
theorem refMul_of (n m r : Nat) (hn : n < P) (hm : m < P) (hr : n * m % P = r) (w : World) :
    Calls Tryd.prog 22 #[.agg (limF n), .agg (limF m)] w fun e w' => e = .returned (.agg (limF r)) ∧ Below w.heap.size w w' := by
  subst hr
  exact refMul_any n m (Nat.lt_trans hn (by decide)) (Nat.lt_trans hm (by decide)) w
theorem root_exp2 : (P - 5) / 2 ^ 3 + 1 = E8 := by decide +kernel
theorem I4_exp : (P - 1) / 2 ^ 2 = (P - 1) / 4 := rfl
theorem odd_neg2 {r : Nat} (h : r < P) (ho : r % 2 = 1) : (P - r) % P = P - r := Nat.mod_eq_of_lt (by have := P_pos; omega)

set_option maxHeartbeats 4000000 in
theorem refInv_any (n : Nat) (w : World) (hn : n < P) :
    Calls Tryd.prog 26 #[refV n] w fun e w' => e = .returned (refV (pw n (P - 2))) ∧ Below w.heap.size w w' := by
  unfold refV
  have C1 : Hid (∀ V, Calls Tryd.prog 37 #[.agg (limF n), .int .u64 2, .int .i64 0] V fun e w' => e = .returned (.agg (limF (pw n (P - 2)))) ∧ Below V.heap.size V w') := Lib.hid fun V =>
    refPower_of n 2 0 (P - 2) 2 0 rfl rfl hn (by omega) (by omega) (by rw [Nat.pow_zero, Nat.div_one]) V
  obtain ⟨z, hz⟩ : ∃ z, Hid (z = limF 0) := ⟨_, Lib.hid rfl⟩
  have hz0 : ∀ W, (zeroValue 35).run Tryd.prog W = .ok (.agg z) W := by
    rw [hz.out, ← zero16]; exact (zero_of_info (n := 16) (by kernel_rfl)).1
  have o0 := Lib.hid (limF0_ok n)
  have oR := Lib.hid (limF0_ok (pw n (P - 2)))
  rw [← hz.out] at o0 oR
  generalize limF (pw n (P - 2)) = R at *
  generalize limF n = x at *
  have H2 := Lib.hid (TwoF.new w x z)
  clear hn
  go_enter Tryd.func26, Tryd.ntmps26
  go_wp2_with (first | (refine wpList_load_row rfl 35 (.tmp 1) rfl w.heap.size rfl 35 x (0, 0) _ H2.out.1 Tryd.underlying35 rfl o0.out.1 ?_))
  refine (C1.out _).mono ?_
  rintro e w1 ⟨rfl, hb⟩
  have H3 := Lib.hid (H2.out.next hb)
  have H4 := Lib.hid (H3.out.snd R)
  clear hb
  go_wp2_with (first | (refine wpList_store_row rfl 35 (.tmp 2) (.tmp 4) rfl (w.heap.size + 1) R rfl rfl 35 z H3.out.2.1 oR.out.1 oR.out.2.2 oR.out.2.1 ?_))
  refine bodyPost_ret (v := .agg R) ?_ rfl ⟨rfl, H4.out.2.2⟩
  exact results_cell_row Tryd.results26 _ _ (w.heap.size + 1) 35 R (0, 0) _ rfl H4.out.2.1 Tryd.underlying35 rfl oR.out.1

set_option maxHeartbeats 8000000 in
theorem refRoot_any (n : Nat) (w : World) (hn : n < P) :
    Calls Tryd.prog 25 #[refV n] w fun e w' => e = .returned (.tuple #[refV (root n), .bool (decide (hasRoot n))]) ∧ Below w.heap.size w w' := by
  have hal : Tryd.prog.arrayLen 35 = 16 := by kernel_rfl
  have hel : Tryd.prog.elem 35 = 23 := by kernel_rfl
  unfold refV
  have HN := Lib.hid hn
  obtain ⟨q, hq⟩ := named ((P - 5) / 2 ^ 3)
  have C1 : Hid (∀ V, Calls Tryd.prog 37 #[.agg (limF n), .int .u64 5, .int .i64 3] V fun e w' => e = .returned (.agg (limF (pw n q))) ∧ Below V.heap.size V w') := Lib.hid fun V =>
    refPower_of n 5 3 q 5 3 rfl rfl HN.out (by omega) (by omega) hq.out.symm V
  have C2 : Hid (∀ V, Calls Tryd.prog 22 #[.agg (limF (pw n q)), .agg (limF n)] V fun e w' => e = .returned (.agg (limF (pw n E8))) ∧ Below V.heap.size V w') := Lib.hid fun V =>
    refMul_of (pw n q) n (pw n E8) (pw_lt _ _) HN.out (by rw [pw_next HN.out, hq.out, root_exp2]) V
  have hrl : pw n E8 < P := pw_lt _ _
  have hroot1 : root1 n = if pw n E8 * pw n E8 % P = n then pw n E8 else pw n E8 * I4 % P := rfl
  generalize pw n E8 = r at *
  have HR1 := Lib.hid hroot1
  have hr1l := root1_lt n
  have hroot : Hid (root n = if hasRoot n then (if root1 n % 2 = 1 then P - root1 n else root1 n) else 0) := Lib.hid rfl
  have hhas : Hid (hasRoot n ↔ root1 n * root1 n % P = n) := Lib.hid Iff.rfl
  obtain ⟨s1, hs1⟩ := named (r * r % P)
  have C3 : Hid (∀ V, Calls Tryd.prog 22 #[.agg (limF r), .agg (limF r)] V fun e w' => e = .returned (.agg (limF s1)) ∧ Below V.heap.size V w') := Lib.hid fun V => refMul_of r r s1 hrl hrl hs1.out.symm V
  have C4a : Hid (∀ V, Calls Tryd.prog 12 #[.int .u64 2] V fun e w' => e = .returned (.agg (limF 2)) ∧ Below V.heap.size V w') := Lib.hid fun V => refOf_any 2 (by decide) V
  have C4b : Hid (∀ V, Calls Tryd.prog 37 #[.agg (limF 2), .int .u64 1, .int .i64 2] V fun e w' => e = .returned (.agg (limF I4)) ∧ Below V.heap.size V w') := Lib.hid fun V => by
    have := refPower_of 2 1 2 ((P - 1) / 4) 1 2 rfl rfl (by decide) (by omega) (by omega) I4_exp V
    rwa [I4_pow] at this
  have C5 : Hid (∀ V, Calls Tryd.prog 22 #[.agg (limF r), .agg (limF I4)] V fun e w' => e = .returned (.agg (limF (r * I4 % P))) ∧ Below V.heap.size V w') := Lib.hid fun V => refMul_of r I4 _ hrl I4_lt rfl V
  obtain ⟨s2, hs2⟩ := named (root1 n * root1 n % P)
  have C6 : Hid (∀ V, Calls Tryd.prog 22 #[.agg (limF (root1 n)), .agg (limF (root1 n))] V fun e w' => e = .returned (.agg (limF s2)) ∧ Below V.heap.size V w') := Lib.hid fun V => refMul_of _ _ s2 hr1l hr1l hs2.out.symm V
  have C9 : Hid (∀ V, Calls Tryd.prog 33 #[.agg (limF (root1 n))] V fun e w' => e = .returned (.agg (limF ((P - root1 n) % P))) ∧ Below V.heap.size V w') := Lib.hid fun V => refNeg_any (root1 n) hr1l V
  have hs1l : s1 < P := by rw [hs1.out]; exact Nat.mod_lt _ P_pos
  have hs2l : s2 < P := by rw [hs2.out]; exact Nat.mod_lt _ P_pos
  obtain ⟨b1, hb1⟩ : ∃ b, Hid (b = !decide (s1 = n)) := ⟨_, Lib.hid rfl⟩
  obtain ⟨b2, hb2⟩ : ∃ b, Hid (b = !decide (s2 = n)) := ⟨_, Lib.hid rfl⟩
  have hd1 : Hid ((!decide (digs B s1 16 = digs B n 16)) = b1) := by
    rw [hb1.out]
    have := digs_eq (Nat.lt_trans hs1l (show P < 2 ^ 256 by decide)) (Nat.lt_trans hn (show P < 2 ^ 256 by decide))
    exact Lib.hid (by simp only [this])
  have hd2 : Hid ((!decide (digs B s2 16 = digs B n 16)) = b2) := by
    rw [hb2.out]
    have := digs_eq (Nat.lt_trans hs2l (show P < 2 ^ 256 by decide)) (Nat.lt_trans hn (show P < 2 ^ 256 by decide))
    exact Lib.hid (by simp only [this])
  obtain ⟨z, hz⟩ : ∃ z, Hid (z = limF 0) := ⟨_, Lib.hid rfl⟩
  have hz0 : ∀ W, (zeroValue 35).run Tryd.prog W = .ok (.agg z) W := by
    rw [hz.out, ← zero16]; exact (zero_of_info (n := 16) (by kernel_rfl)).1
  have o0 := Lib.hid (limF0_ok n)
  have or := Lib.hid (limF0_ok r)
  have oI := Lib.hid (limF0_ok (r * I4 % P))
  have o1 := Lib.hid (limF0_ok (root1 n))
  have oN := Lib.hid (limF0_ok ((P - root1 n) % P))
  have oz := Lib.hid (limF0_ok 0)
  have hsz : Hid ((limF r).size = (limF (r * I4 % P)).size ∧ (limF (root1 n)).size = (limF ((P - root1 n) % P)).size) := Lib.hid ⟨limF_sz _ _, limF_sz _ _⟩
  rw [← hz.out] at o0 or oI o1 oN oz
  obtain ⟨x, hx⟩ : ∃ c, Hid (c = limF n) := ⟨_, Lib.hid rfl⟩
  obtain ⟨cr, hcr⟩ : ∃ c, Hid (c = limF r) := ⟨_, Lib.hid rfl⟩
  obtain ⟨cI, hcI⟩ : ∃ c, Hid (c = limF (r * I4 % P)) := ⟨_, Lib.hid rfl⟩
  obtain ⟨c1, hc1⟩ : ∃ c, Hid (c = limF (root1 n)) := ⟨_, Lib.hid rfl⟩
  obtain ⟨cN, hcN⟩ : ∃ c, Hid (c = limF ((P - root1 n) % P)) := ⟨_, Lib.hid rfl⟩
  rw [← hx.out] at C1 C2 o0 ⊢
  rw [← hcr.out] at C2 C3 C5 or hsz
  rw [← hcI.out] at C5 oI hsz
  rw [← hc1.out] at C6 C9 o1 hsz
  rw [← hcN.out] at C9 oN hsz
  have h2 := TwoF.new w x z
  have HRl := Lib.hid hrl
  have HR1l := Lib.hid hr1l
  clear hn hroot1 hrl hr1l hs1l hs2l
  go_enter Tryd.func25, Tryd.ntmps25
  go_upto_region 1 with fail
  generalize (w.alloc (.cells x 35)).alloc (.cells z 35) = W at *
  have H2 := Lib.hid h2
  clear h2
  (try simp only [Act.put, List.setIfInBounds_toArray, List.set_cons_zero, List.set_cons_succ])
  go_cut [4] (fun p4 wx => ∃ g4, p4 = .pointer (some ⟨g4, 0, none⟩) ∧ ThreeF w x z cr g4 wx)
  case first =>
    refine wp_region_held_drew (S := fun V => Below W.heap.size W V) (by kernel_rfl) ((Below.refl _ _).drew) (fun hHeld => ?_)
    have HBW := Lib.hid ((Below.refl W.heap.size W).drew)
    generalize W.drew = VW at *
    refine' wpAnyH_take (i := 0) (oi := _) (v := .agg x) ?hit1 ?hst1 ?hft1 ?hrt1 ?hQt1 ?hyt1 ?hSt1 ?_
    case hit1 => (simp only [List.getElem?_toArray, List.getElem?_cons_succ, List.getElem?_cons_zero]; rfl)
    case hst1 => kernel_rfl
    case hft1 => kernel_rfl
    case hrt1 => kernel_rfl
    case hQt1 => exact fun _ _ _ h => h
    case hSt1 => assumption
    case hyt1 =>
      refine Or.inl ⟨by rfl, ?_⟩
      intro W hS
      exact quiet_load_row 35 (.tmp 1) _ rfl 35 x _ (H2.out.1.old hS) Tryd.underlying35 rfl o0.out.1 rfl
    (try simp only [Act.put, List.setIfInBounds_toArray, List.set_cons_zero, List.set_cons_succ])
    refine' wpAnyH_take (i := 2) (oi := _) (v := .agg x) ?hit2 ?hst2 ?hft2 ?hrt2 ?hQt2 ?hyt2 ?hSt2 ?_
    case hit2 => (simp only [List.getElem?_toArray, List.getElem?_cons_succ, List.getElem?_cons_zero]; rfl)
    case hst2 => kernel_rfl
    case hft2 => kernel_rfl
    case hrt2 => kernel_rfl
    case hQt2 => exact fun _ _ _ h => h
    case hSt2 => assumption
    case hyt2 =>
      refine Or.inl ⟨by rfl, ?_⟩
      intro W hS
      exact quiet_load_row 35 (.tmp 1) _ rfl 35 x _ (H2.out.1.old hS) Tryd.underlying35 rfl o0.out.1 rfl
    (try simp only [Act.put, List.setIfInBounds_toArray, List.set_cons_zero, List.set_cons_succ])
    refine wpAnyH_ready (rs := [1, 4]) (by kernel_rfl) (by simp) ?_
    refine' (AllReadyH.cons (o := _) ?hir3_1 (fun K hK => ?br3_1) (AllReadyH.cons (o := _) ?hir3_4 (fun K hK => ?br3_4) AllReadyH.nil))
    case hir3_1 => (simp only [List.getElem?_toArray, List.getElem?_cons_succ, List.getElem?_cons_zero]; rfl)
    case hir3_4 => (simp only [List.getElem?_toArray, List.getElem?_cons_succ, List.getElem?_cons_zero]; rfl)
    case br3_1 =>
      go_simp
      refine (C1.out _).mono ?_
      rintro e w4 ⟨rfl, hb4⟩
      have H4 := Lib.hid (HBW.out.trans (hb4.mono HBW.out.size))
      clear hb4
      go_wp2_with fail
      refine hK.out _ _ ?_ (fun hHeld => ?_)
      exact H4.out
      clear hK K
      (try simp only [Act.put, List.setIfInBounds_toArray, List.set_cons_zero, List.set_cons_succ])
      refine wpAnyH_ready (rs := [3, 4]) (by kernel_rfl) (by simp) ?_
      refine' (AllReadyH.cons (o := _) ?hir5_3 (fun K hK => ?br5_3) (AllReadyH.cons (o := _) ?hir5_4 (fun K hK => ?br5_4) AllReadyH.nil))
      case hir5_3 => (simp only [List.getElem?_toArray, List.getElem?_cons_succ, List.getElem?_cons_zero]; rfl)
      case hir5_4 => (simp only [List.getElem?_toArray, List.getElem?_cons_succ, List.getElem?_cons_zero]; rfl)
      case br5_3 =>
        go_simp
        refine (C2.out _).mono ?_
        rintro e w6 ⟨rfl, hb6⟩
        have H6 := Lib.hid (H4.out.trans (hb6.mono H4.out.size))
        clear hb6
        go_wp2_with fail
        refine hK.out _ _ ?_ (fun hHeld => ?_)
        exact H6.out
        clear hK K
        (try simp only [Act.put, List.setIfInBounds_toArray, List.set_cons_zero, List.set_cons_succ])
        refine wpAnyH_ready (rs := [4]) (by kernel_rfl) (by simp) ?_
        refine' (AllReadyH.cons (o := _) ?hir7_4 (fun K hK => ?br7_4) AllReadyH.nil)
        case hir7_4 => (simp only [List.getElem?_toArray, List.getElem?_cons_succ, List.getElem?_cons_zero]; rfl)
        case br7_4 =>
          go_simp
          refine hK.out _ _ ?_ (fun hHeld => ?_)
          · exact (H6.out.alloc H6.out.size _)
          have H8 := Lib.hid (H6.out.alloc H6.out.size (.cells z 35))
          have N4_8 := Lib.hid (alloc_new H6.out 35 z)
          have G4_8 := Lib.hid H6.out.size
          clear hK K
          (try simp only [Act.put, List.setIfInBounds_toArray, List.set_cons_zero, List.set_cons_succ])
          refine wpAnyH_ready (rs := [5]) (by kernel_rfl) (by simp) ?_
          refine' (AllReadyH.cons (o := _) ?hir9_5 (fun K hK => ?br9_5) AllReadyH.nil)
          case hir9_5 => (simp only [List.getElem?_toArray, List.getElem?_cons_succ, List.getElem?_cons_zero]; rfl)
          case br9_5 =>
            refine step_of_wp rfl ?_
            refine wp_store_row 35 (.tmp 4) (.tmp 8) rfl _ cr rfl rfl 35 _ N4_8.out or.out.1 or.out.2.2 or.out.2.1 ?_
            refine hK.out _ _ ?_ (fun hHeld => ?_)
            exact below_row H8.out G4_8.out _
            clear hK K
            (try simp only [Act.put, List.setIfInBounds_toArray, List.set_cons_zero, List.set_cons_succ])
            refine wpAnyH_done (by kernel_rfl) ?_ _
            go_wp2_with fail
            go_meet
            exact ⟨_, rfl, (H2.out.next H8.out).far (by have := H2.out.lt; have := G4_8.out; omega) _, N4_8.out.row _, by have := H2.out.lt; have := G4_8.out; omega⟩
      case br5_4 =>
        go_simp
        refine hK.out _ _ ?_ (fun hHeld => ?_)
        · exact (H4.out.alloc H4.out.size _)
        have H11 := Lib.hid (H4.out.alloc H4.out.size (.cells z 35))
        have N4_11 := Lib.hid (alloc_new H4.out 35 z)
        have G4_11 := Lib.hid H4.out.size
        clear hK K
        (try simp only [Act.put, List.setIfInBounds_toArray, List.set_cons_zero, List.set_cons_succ])
        refine wpAnyH_ready (rs := [3]) (by kernel_rfl) (by simp) ?_
        refine' (AllReadyH.cons (o := _) ?hir12_3 (fun K hK => ?br12_3) AllReadyH.nil)
        case hir12_3 => (simp only [List.getElem?_toArray, List.getElem?_cons_succ, List.getElem?_cons_zero]; rfl)
        case br12_3 =>
          go_simp
          refine (C2.out _).mono ?_
          rintro e w13 ⟨rfl, hb13⟩
          have H13 := Lib.hid (H11.out.trans (hb13.mono H11.out.size))
          have N4_13 := Lib.hid (N4_11.out.old hb13)
          clear hb13
          go_wp2_with fail
          refine hK.out _ _ ?_ (fun hHeld => ?_)
          exact H13.out
          clear hK K
          (try simp only [Act.put, List.setIfInBounds_toArray, List.set_cons_zero, List.set_cons_succ])
          refine wpAnyH_ready (rs := [5]) (by kernel_rfl) (by simp) ?_
          refine' (AllReadyH.cons (o := _) ?hir14_5 (fun K hK => ?br14_5) AllReadyH.nil)
          case hir14_5 => (simp only [List.getElem?_toArray, List.getElem?_cons_succ, List.getElem?_cons_zero]; rfl)
          case br14_5 =>
            refine step_of_wp rfl ?_
            refine wp_store_row 35 (.tmp 4) (.tmp 8) rfl _ cr rfl rfl 35 _ N4_13.out or.out.1 or.out.2.2 or.out.2.1 ?_
            refine hK.out _ _ ?_ (fun hHeld => ?_)
            exact below_row H13.out G4_11.out _
            clear hK K
            (try simp only [Act.put, List.setIfInBounds_toArray, List.set_cons_zero, List.set_cons_succ])
            refine wpAnyH_done (by kernel_rfl) ?_ _
            go_wp2_with fail
            go_meet
            exact ⟨_, rfl, (H2.out.next H13.out).far (by have := H2.out.lt; have := G4_11.out; omega) _, N4_13.out.row _, by have := H2.out.lt; have := G4_11.out; omega⟩
    case br3_4 =>
      go_simp
      refine hK.out _ _ ?_ (fun hHeld => ?_)
      · exact (HBW.out.alloc HBW.out.size _)
      have H16 := Lib.hid (HBW.out.alloc HBW.out.size (.cells z 35))
      have N4_16 := Lib.hid (alloc_new HBW.out 35 z)
      have G4_16 := Lib.hid HBW.out.size
      clear hK K
      (try simp only [Act.put, List.setIfInBounds_toArray, List.set_cons_zero, List.set_cons_succ])
      refine wpAnyH_ready (rs := [1]) (by kernel_rfl) (by simp) ?_
      refine' (AllReadyH.cons (o := _) ?hir17_1 (fun K hK => ?br17_1) AllReadyH.nil)
      case hir17_1 => (simp only [List.getElem?_toArray, List.getElem?_cons_succ, List.getElem?_cons_zero]; rfl)
      case br17_1 =>
        go_simp
        refine (C1.out _).mono ?_
        rintro e w18 ⟨rfl, hb18⟩
        have H18 := Lib.hid (H16.out.trans (hb18.mono H16.out.size))
        have N4_18 := Lib.hid (N4_16.out.old hb18)
        clear hb18
        go_wp2_with fail
        refine hK.out _ _ ?_ (fun hHeld => ?_)
        exact H18.out
        clear hK K
        (try simp only [Act.put, List.setIfInBounds_toArray, List.set_cons_zero, List.set_cons_succ])
        refine wpAnyH_ready (rs := [3]) (by kernel_rfl) (by simp) ?_
        refine' (AllReadyH.cons (o := _) ?hir19_3 (fun K hK => ?br19_3) AllReadyH.nil)
        case hir19_3 => (simp only [List.getElem?_toArray, List.getElem?_cons_succ, List.getElem?_cons_zero]; rfl)
        case br19_3 =>
          go_simp
          refine (C2.out _).mono ?_
          rintro e w20 ⟨rfl, hb20⟩
          have H20 := Lib.hid (H18.out.trans (hb20.mono H18.out.size))
          have N4_20 := Lib.hid (N4_18.out.old hb20)
          clear hb20
          go_wp2_with fail
          refine hK.out _ _ ?_ (fun hHeld => ?_)
          exact H20.out
          clear hK K
          (try simp only [Act.put, List.setIfInBounds_toArray, List.set_cons_zero, List.set_cons_succ])
          refine wpAnyH_ready (rs := [5]) (by kernel_rfl) (by simp) ?_
          refine' (AllReadyH.cons (o := _) ?hir21_5 (fun K hK => ?br21_5) AllReadyH.nil)
          case hir21_5 => (simp only [List.getElem?_toArray, List.getElem?_cons_succ, List.getElem?_cons_zero]; rfl)
          case br21_5 =>
            refine step_of_wp rfl ?_
            refine wp_store_row 35 (.tmp 4) (.tmp 8) rfl _ cr rfl rfl 35 _ N4_20.out or.out.1 or.out.2.2 or.out.2.1 ?_
            refine hK.out _ _ ?_ (fun hHeld => ?_)
            exact below_row H20.out G4_16.out _
            clear hK K
            (try simp only [Act.put, List.setIfInBounds_toArray, List.set_cons_zero, List.set_cons_succ])
            refine wpAnyH_done (by kernel_rfl) ?_ _
            go_wp2_with fail
            go_meet
            exact ⟨_, rfl, (H2.out.next H20.out).far (by have := H2.out.lt; have := G4_16.out; omega) _, N4_20.out.row _, by have := H2.out.lt; have := G4_16.out; omega⟩
  case rest =>
    obtain ⟨g4, rfl, h3⟩ := hcut
    have H3 := Lib.hid h3
    clear h3 hz0
    go_upto_region 2 with fail
    (try simp only [Act.put, List.setIfInBounds_toArray, List.set_cons_zero, List.set_cons_succ])
    generalize wc = W1 at *
    refine wp_region_held_drew (S := fun V => Below W1.heap.size W1 V) (by kernel_rfl) ((Below.refl _ _).drew) (fun hHeld => ?_)
    have HBW1 := Lib.hid ((Below.refl W1.heap.size W1).drew)
    generalize W1.drew = VW1 at *
    refine' wpAnyH_take (i := 0) (oi := _) (v := .agg cr) ?hit23 ?hst23 ?hft23 ?hrt23 ?hQt23 ?hyt23 ?hSt23 ?_
    case hit23 => (simp only [List.getElem?_toArray, List.getElem?_cons_succ, List.getElem?_cons_zero]; rfl)
    case hst23 => kernel_rfl
    case hft23 => kernel_rfl
    case hrt23 => kernel_rfl
    case hQt23 => exact fun _ _ _ h => h
    case hSt23 => assumption
    case hyt23 =>
      refine Or.inl ⟨by rfl, ?_⟩
      intro W hS
      exact quiet_load_row 35 (.tmp 4) _ rfl 35 cr _ (H3.out.2.1.old hS) Tryd.underlying35 rfl or.out.1 rfl
    (try simp only [Act.put, List.setIfInBounds_toArray, List.set_cons_zero, List.set_cons_succ])
    refine' wpAnyH_take (i := 1) (oi := _) (v := .agg cr) ?hit24 ?hst24 ?hft24 ?hrt24 ?hQt24 ?hyt24 ?hSt24 ?_
    case hit24 => (simp only [List.getElem?_toArray, List.getElem?_cons_succ, List.getElem?_cons_zero]; rfl)
    case hst24 => kernel_rfl
    case hft24 => kernel_rfl
    case hrt24 => kernel_rfl
    case hQt24 => exact fun _ _ _ h => h
    case hSt24 => assumption
    case hyt24 =>
      refine Or.inl ⟨by rfl, ?_⟩
      intro W hS
      exact quiet_load_row 35 (.tmp 4) _ rfl 35 cr _ (H3.out.2.1.old hS) Tryd.underlying35 rfl or.out.1 rfl
    (try simp only [Act.put, List.setIfInBounds_toArray, List.set_cons_zero, List.set_cons_succ])
    refine' wpAnyH_take (i := 3) (oi := _) (v := .agg x) ?hit25 ?hst25 ?hft25 ?hrt25 ?hQt25 ?hyt25 ?hSt25 ?_
    case hit25 => (simp only [List.getElem?_toArray, List.getElem?_cons_succ, List.getElem?_cons_zero]; rfl)
    case hst25 => kernel_rfl
    case hft25 => kernel_rfl
    case hrt25 => kernel_rfl
    case hQt25 => exact fun _ _ _ h => h
    case hSt25 => assumption
    case hyt25 =>
      refine Or.inl ⟨by rfl, ?_⟩
      intro W hS
      exact quiet_load_row 35 (.tmp 1) _ rfl 35 x _ (H3.out.1.1.old hS) Tryd.underlying35 rfl o0.out.1 rfl
    (try simp only [Act.put, List.setIfInBounds_toArray, List.set_cons_zero, List.set_cons_succ])
    refine wpAnyH_ready (rs := [2]) (by kernel_rfl) (by simp) ?_
    refine' (AllReadyH.cons (o := _) ?hir26_2 (fun K hK => ?br26_2) AllReadyH.nil)
    case hir26_2 => (simp only [List.getElem?_toArray, List.getElem?_cons_succ, List.getElem?_cons_zero]; rfl)
    case br26_2 =>
      go_simp
      refine (C3.out _).mono ?_
      rintro e w27 ⟨rfl, hb27⟩
      have H27 := Lib.hid (HBW1.out.trans (hb27.mono HBW1.out.size))
      clear hb27
      go_wp2_with fail
      refine hK.out _ _ ?_ (fun hHeld => ?_)
      exact H27.out
      clear hK K
      (try simp only [Act.put, List.setIfInBounds_toArray, List.set_cons_zero, List.set_cons_succ])
      refine' wpAnyH_take (i := 4) (oi := _) (v := .bool b1) ?hit28 ?hst28 ?hft28 ?hrt28 ?hQt28 ?hyt28 ?hSt28 ?_
      case hit28 => (simp only [List.getElem?_toArray, List.getElem?_cons_succ, List.getElem?_cons_zero]; rfl)
      case hst28 => kernel_rfl
      case hft28 => kernel_rfl
      case hrt28 => kernel_rfl
      case hQt28 => exact fun _ _ _ h => h
      case hSt28 => assumption
      case hyt28 =>
        refine Or.inl ⟨by rfl, ?_⟩
        intro W hS
        rw [← hd1.out]; exact quiet_neq_F W (.tmp 11) (.tmp 12) 35 _ _ (digs_length _ _ _) (digs_length _ _ _) rfl (show Value.agg x = .agg (limF n) by rw [hx.out]) rfl
      (try simp only [Act.put, List.setIfInBounds_toArray, List.set_cons_zero, List.set_cons_succ])
      refine wpAnyH_done (by kernel_rfl) ?_ _
      have H4 := Lib.hid (H3.out.next H27.out)
      clear hHeld
      go_upto_if 13 with fail
      (try simp only [Act.put, List.setIfInBounds_toArray, List.set_cons_zero, List.set_cons_succ])
      go_cut [] (fun wx => ThreeF w x z c1 g4 wx)
      case first =>
        cases hb1v : b1
        · have e1 : Hid (cr = c1) := by
            rw [hcr.out, hc1.out, HR1.out, if_pos (by have h0 := hb1.out; rw [hb1v] at h0; have h2 : s1 = n := by simpa using h0.symm
                                                      rw [← hs1.out]; exact h2)]; exact Lib.hid rfl
          clear hb1v
          go_wp2_with fail
          go_meet
          exact (by rw [← e1.out]; exact H4.out)
        · have e1 : Hid (cI = c1) := by
            rw [hcI.out, hc1.out, HR1.out, if_neg (by have h0 := hb1.out; rw [hb1v] at h0; have h2 : ¬ s1 = n := by simpa using h0.symm
                                                      rw [← hs1.out]; exact h2)]; exact Lib.hid rfl
          clear hb1v
          go_upto_region 3 with fail
          (try simp only [Act.put, List.setIfInBounds_toArray, List.set_cons_zero, List.set_cons_succ])
          refine wp_region_held_drew (S := fun V => Far g4 w27 V) (by kernel_rfl) (Far.of (Below.refl _ _).drew) (fun hHeld => ?_)
          have HBw27 := Lib.hid ((Below.refl w27.heap.size w27).drew)
          generalize w27.drew = Vw27 at *
          refine wpAnyH_ready (rs := [0, 1]) (by kernel_rfl) (by simp) ?_
          refine' (AllReadyH.cons (o := _) ?hir29_0 (fun K hK => ?br29_0) (AllReadyH.cons (o := _) ?hir29_1 (fun K hK => ?br29_1) AllReadyH.nil))
          case hir29_0 => (simp only [List.getElem?_toArray, List.getElem?_cons_succ, List.getElem?_cons_zero]; rfl)
          case hir29_1 => (simp only [List.getElem?_toArray, List.getElem?_cons_succ, List.getElem?_cons_zero]; rfl)
          case br29_0 =>
            refine step_of_wp rfl ?_
            refine wp_load_row 35 (.tmp 4) rfl g4 rfl 35 cr (0, 0) _ (H4.out.2.1.old HBw27.out) Tryd.underlying35 rfl or.out.1 ?_
            refine hK.out _ _ ?_ (fun hHeld => ?_)
            exact Far.of HBw27.out
            clear hK K
            (try simp only [Act.put, List.setIfInBounds_toArray, List.set_cons_zero, List.set_cons_succ])
            refine wpAnyH_ready (rs := [1]) (by kernel_rfl) (by simp) ?_
            refine' (AllReadyH.cons (o := _) ?hir31_1 (fun K hK => ?br31_1) AllReadyH.nil)
            case hir31_1 => (simp only [List.getElem?_toArray, List.getElem?_cons_succ, List.getElem?_cons_zero]; rfl)
            case br31_1 =>
              go_simp
              refine (C4a.out _).mono ?_
              rintro e w32 ⟨rfl, hb32⟩
              have H32 := Lib.hid (HBw27.out.trans (hb32.mono HBw27.out.size))
              clear hb32
              go_wp2_with fail
              refine hK.out _ _ ?_ (fun hHeld => ?_)
              exact Far.of H32.out
              clear hK K
              (try simp only [Act.put, List.setIfInBounds_toArray, List.set_cons_zero, List.set_cons_succ])
              refine wpAnyH_ready (rs := [2]) (by kernel_rfl) (by simp) ?_
              refine' (AllReadyH.cons (o := _) ?hir33_2 (fun K hK => ?br33_2) AllReadyH.nil)
              case hir33_2 => (simp only [List.getElem?_toArray, List.getElem?_cons_succ, List.getElem?_cons_zero]; rfl)
              case br33_2 =>
                go_simp
                refine (C4b.out _).mono ?_
                rintro e w34 ⟨rfl, hb34⟩
                have H34 := Lib.hid (H32.out.trans (hb34.mono H32.out.size))
                clear hb34
                go_wp2_with fail
                refine hK.out _ _ ?_ (fun hHeld => ?_)
                exact Far.of H34.out
                clear hK K
                (try simp only [Act.put, List.setIfInBounds_toArray, List.set_cons_zero, List.set_cons_succ])
                refine wpAnyH_ready (rs := [3]) (by kernel_rfl) (by simp) ?_
                refine' (AllReadyH.cons (o := _) ?hir35_3 (fun K hK => ?br35_3) AllReadyH.nil)
                case hir35_3 => (simp only [List.getElem?_toArray, List.getElem?_cons_succ, List.getElem?_cons_zero]; rfl)
                case br35_3 =>
                  go_simp
                  refine (C5.out _).mono ?_
                  rintro e w36 ⟨rfl, hb36⟩
                  have H36 := Lib.hid (H34.out.trans (hb36.mono H34.out.size))
                  clear hb36
                  go_wp2_with fail
                  refine hK.out _ _ ?_ (fun hHeld => ?_)
                  exact Far.of H36.out
                  clear hK K
                  (try simp only [Act.put, List.setIfInBounds_toArray, List.set_cons_zero, List.set_cons_succ])
                  refine wpAnyH_ready (rs := [4]) (by kernel_rfl) (by simp) ?_
                  refine' (AllReadyH.cons (o := _) ?hir37_4 (fun K hK => ?br37_4) AllReadyH.nil)
                  case hir37_4 => (simp only [List.getElem?_toArray, List.getElem?_cons_succ, List.getElem?_cons_zero]; rfl)
                  case br37_4 =>
                    refine step_of_wp rfl ?_
                    refine wp_store_row 35 (.tmp 4) (.tmp 17) rfl g4 cI rfl rfl 35 cr (H4.out.2.1.old H36.out) oI.out.1 hsz.out.1 oI.out.2.1 ?_
                    refine hK.out _ _ ?_ (fun hHeld => ?_)
                    exact (Far.of H36.out).row _
                    clear hK K
                    (try simp only [Act.put, List.setIfInBounds_toArray, List.set_cons_zero, List.set_cons_succ])
                    refine wpAnyH_done (by kernel_rfl) ?_ _
                    have H5 := Lib.hid ((H4.out.next H36.out).third cI)
                    clear hHeld
                    go_wp2_with fail
                    go_meet
                    exact (by rw [← e1.out]; exact H5.out)
          case br29_1 =>
            go_simp
            refine (C4a.out _).mono ?_
            rintro e w39 ⟨rfl, hb39⟩
            have H39 := Lib.hid (HBw27.out.trans (hb39.mono HBw27.out.size))
            clear hb39
            go_wp2_with fail
            refine hK.out _ _ ?_ (fun hHeld => ?_)
            exact Far.of H39.out
            clear hK K
            (try simp only [Act.put, List.setIfInBounds_toArray, List.set_cons_zero, List.set_cons_succ])
            refine wpAnyH_ready (rs := [0, 2]) (by kernel_rfl) (by simp) ?_
            refine' (AllReadyH.cons (o := _) ?hir40_0 (fun K hK => ?br40_0) (AllReadyH.cons (o := _) ?hir40_2 (fun K hK => ?br40_2) AllReadyH.nil))
            case hir40_0 => (simp only [List.getElem?_toArray, List.getElem?_cons_succ, List.getElem?_cons_zero]; rfl)
            case hir40_2 => (simp only [List.getElem?_toArray, List.getElem?_cons_succ, List.getElem?_cons_zero]; rfl)
            case br40_0 =>
              refine step_of_wp rfl ?_
              refine wp_load_row 35 (.tmp 4) rfl g4 rfl 35 cr (0, 0) _ (H4.out.2.1.old H39.out) Tryd.underlying35 rfl or.out.1 ?_
              refine hK.out _ _ ?_ (fun hHeld => ?_)
              exact Far.of H39.out
              clear hK K
              (try simp only [Act.put, List.setIfInBounds_toArray, List.set_cons_zero, List.set_cons_succ])
              refine wpAnyH_ready (rs := [2]) (by kernel_rfl) (by simp) ?_
              refine' (AllReadyH.cons (o := _) ?hir42_2 (fun K hK => ?br42_2) AllReadyH.nil)
              case hir42_2 => (simp only [List.getElem?_toArray, List.getElem?_cons_succ, List.getElem?_cons_zero]; rfl)
              case br42_2 =>
                go_simp
                refine (C4b.out _).mono ?_
                rintro e w43 ⟨rfl, hb43⟩
                have H43 := Lib.hid (H39.out.trans (hb43.mono H39.out.size))
                clear hb43
                go_wp2_with fail
                refine hK.out _ _ ?_ (fun hHeld => ?_)
                exact Far.of H43.out
                clear hK K
                (try simp only [Act.put, List.setIfInBounds_toArray, List.set_cons_zero, List.set_cons_succ])
                refine wpAnyH_ready (rs := [3]) (by kernel_rfl) (by simp) ?_
                refine' (AllReadyH.cons (o := _) ?hir44_3 (fun K hK => ?br44_3) AllReadyH.nil)
                case hir44_3 => (simp only [List.getElem?_toArray, List.getElem?_cons_succ, List.getElem?_cons_zero]; rfl)
                case br44_3 =>
                  go_simp
                  refine (C5.out _).mono ?_
                  rintro e w45 ⟨rfl, hb45⟩
                  have H45 := Lib.hid (H43.out.trans (hb45.mono H43.out.size))
                  clear hb45
                  go_wp2_with fail
                  refine hK.out _ _ ?_ (fun hHeld => ?_)
                  exact Far.of H45.out
                  clear hK K
                  (try simp only [Act.put, List.setIfInBounds_toArray, List.set_cons_zero, List.set_cons_succ])
                  refine wpAnyH_ready (rs := [4]) (by kernel_rfl) (by simp) ?_
                  refine' (AllReadyH.cons (o := _) ?hir46_4 (fun K hK => ?br46_4) AllReadyH.nil)
                  case hir46_4 => (simp only [List.getElem?_toArray, List.getElem?_cons_succ, List.getElem?_cons_zero]; rfl)
                  case br46_4 =>
                    refine step_of_wp rfl ?_
                    refine wp_store_row 35 (.tmp 4) (.tmp 17) rfl g4 cI rfl rfl 35 cr (H4.out.2.1.old H45.out) oI.out.1 hsz.out.1 oI.out.2.1 ?_
                    refine hK.out _ _ ?_ (fun hHeld => ?_)
                    exact (Far.of H45.out).row _
                    clear hK K
                    (try simp only [Act.put, List.setIfInBounds_toArray, List.set_cons_zero, List.set_cons_succ])
                    refine wpAnyH_done (by kernel_rfl) ?_ _
                    have H5 := Lib.hid ((H4.out.next H45.out).third cI)
                    clear hHeld
                    go_wp2_with fail
                    go_meet
                    exact (by rw [← e1.out]; exact H5.out)
            case br40_2 =>
              go_simp
              refine (C4b.out _).mono ?_
              rintro e w48 ⟨rfl, hb48⟩
              have H48 := Lib.hid (H39.out.trans (hb48.mono H39.out.size))
              clear hb48
              go_wp2_with fail
              refine hK.out _ _ ?_ (fun hHeld => ?_)
              exact Far.of H48.out
              clear hK K
              (try simp only [Act.put, List.setIfInBounds_toArray, List.set_cons_zero, List.set_cons_succ])
              refine wpAnyH_ready (rs := [0]) (by kernel_rfl) (by simp) ?_
              refine' (AllReadyH.cons (o := _) ?hir49_0 (fun K hK => ?br49_0) AllReadyH.nil)
              case hir49_0 => (simp only [List.getElem?_toArray, List.getElem?_cons_succ, List.getElem?_cons_zero]; rfl)
              case br49_0 =>
                refine step_of_wp rfl ?_
                refine wp_load_row 35 (.tmp 4) rfl g4 rfl 35 cr (0, 0) _ (H4.out.2.1.old H48.out) Tryd.underlying35 rfl or.out.1 ?_
                refine hK.out _ _ ?_ (fun hHeld => ?_)
                exact Far.of H48.out
                clear hK K
                (try simp only [Act.put, List.setIfInBounds_toArray, List.set_cons_zero, List.set_cons_succ])
                refine wpAnyH_ready (rs := [3]) (by kernel_rfl) (by simp) ?_
                refine' (AllReadyH.cons (o := _) ?hir51_3 (fun K hK => ?br51_3) AllReadyH.nil)
                case hir51_3 => (simp only [List.getElem?_toArray, List.getElem?_cons_succ, List.getElem?_cons_zero]; rfl)
                case br51_3 =>
                  go_simp
                  refine (C5.out _).mono ?_
                  rintro e w52 ⟨rfl, hb52⟩
                  have H52 := Lib.hid (H48.out.trans (hb52.mono H48.out.size))
                  clear hb52
                  go_wp2_with fail
                  refine hK.out _ _ ?_ (fun hHeld => ?_)
                  exact Far.of H52.out
                  clear hK K
                  (try simp only [Act.put, List.setIfInBounds_toArray, List.set_cons_zero, List.set_cons_succ])
                  refine wpAnyH_ready (rs := [4]) (by kernel_rfl) (by simp) ?_
                  refine' (AllReadyH.cons (o := _) ?hir53_4 (fun K hK => ?br53_4) AllReadyH.nil)
                  case hir53_4 => (simp only [List.getElem?_toArray, List.getElem?_cons_succ, List.getElem?_cons_zero]; rfl)
                  case br53_4 =>
                    refine step_of_wp rfl ?_
                    refine wp_store_row 35 (.tmp 4) (.tmp 17) rfl g4 cI rfl rfl 35 cr (H4.out.2.1.old H52.out) oI.out.1 hsz.out.1 oI.out.2.1 ?_
                    refine hK.out _ _ ?_ (fun hHeld => ?_)
                    exact (Far.of H52.out).row _
                    clear hK K
                    (try simp only [Act.put, List.setIfInBounds_toArray, List.set_cons_zero, List.set_cons_succ])
                    refine wpAnyH_done (by kernel_rfl) ?_ _
                    have H5 := Lib.hid ((H4.out.next H52.out).third cI)
                    clear hHeld
                    go_wp2_with fail
                    go_meet
                    exact (by rw [← e1.out]; exact H5.out)
      case rest =>
        have H7 := Lib.hid hcut
        clear hcut
        go_upto_region 4 with fail
        generalize wc = W4 at *
        (try simp only [Act.put, List.setIfInBounds_toArray, List.set_cons_zero, List.set_cons_succ])
        refine wp_region_held_drew (S := fun V => Below W4.heap.size W4 V) (by kernel_rfl) ((Below.refl _ _).drew) (fun hHeld => ?_)
        have HBW4 := Lib.hid ((Below.refl W4.heap.size W4).drew)
        generalize W4.drew = VW4 at *
        refine' wpAnyH_take (i := 0) (oi := _) (v := .agg c1) ?hit55 ?hst55 ?hft55 ?hrt55 ?hQt55 ?hyt55 ?hSt55 ?_
        case hit55 => (simp only [List.getElem?_toArray, List.getElem?_cons_succ, List.getElem?_cons_zero]; rfl)
        case hst55 => kernel_rfl
        case hft55 => kernel_rfl
        case hrt55 => kernel_rfl
        case hQt55 => exact fun _ _ _ h => h
        case hSt55 => assumption
        case hyt55 =>
          refine Or.inl ⟨by rfl, ?_⟩
          intro W hS
          exact quiet_load_row 35 (.tmp 4) _ rfl 35 c1 _ (H7.out.2.1.old hS) Tryd.underlying35 rfl o1.out.1 rfl
        (try simp only [Act.put, List.setIfInBounds_toArray, List.set_cons_zero, List.set_cons_succ])
        refine' wpAnyH_take (i := 1) (oi := _) (v := .agg c1) ?hit56 ?hst56 ?hft56 ?hrt56 ?hQt56 ?hyt56 ?hSt56 ?_
        case hit56 => (simp only [List.getElem?_toArray, List.getElem?_cons_succ, List.getElem?_cons_zero]; rfl)
        case hst56 => kernel_rfl
        case hft56 => kernel_rfl
        case hrt56 => kernel_rfl
        case hQt56 => exact fun _ _ _ h => h
        case hSt56 => assumption
        case hyt56 =>
          refine Or.inl ⟨by rfl, ?_⟩
          intro W hS
          exact quiet_load_row 35 (.tmp 4) _ rfl 35 c1 _ (H7.out.2.1.old hS) Tryd.underlying35 rfl o1.out.1 rfl
        (try simp only [Act.put, List.setIfInBounds_toArray, List.set_cons_zero, List.set_cons_succ])
        refine' wpAnyH_take (i := 3) (oi := _) (v := .agg x) ?hit57 ?hst57 ?hft57 ?hrt57 ?hQt57 ?hyt57 ?hSt57 ?_
        case hit57 => (simp only [List.getElem?_toArray, List.getElem?_cons_succ, List.getElem?_cons_zero]; rfl)
        case hst57 => kernel_rfl
        case hft57 => kernel_rfl
        case hrt57 => kernel_rfl
        case hQt57 => exact fun _ _ _ h => h
        case hSt57 => assumption
        case hyt57 =>
          refine Or.inl ⟨by rfl, ?_⟩
          intro W hS
          exact quiet_load_row 35 (.tmp 1) _ rfl 35 x _ (H7.out.1.1.old hS) Tryd.underlying35 rfl o0.out.1 rfl
        (try simp only [Act.put, List.setIfInBounds_toArray, List.set_cons_zero, List.set_cons_succ])
        refine wpAnyH_ready (rs := [2]) (by kernel_rfl) (by simp) ?_
        refine' (AllReadyH.cons (o := _) ?hir58_2 (fun K hK => ?br58_2) AllReadyH.nil)
        case hir58_2 => (simp only [List.getElem?_toArray, List.getElem?_cons_succ, List.getElem?_cons_zero]; rfl)
        case br58_2 =>
          go_simp
          refine (C6.out _).mono ?_
          rintro e w59 ⟨rfl, hb59⟩
          have H59 := Lib.hid (HBW4.out.trans (hb59.mono HBW4.out.size))
          clear hb59
          go_wp2_with fail
          refine hK.out _ _ ?_ (fun hHeld => ?_)
          exact H59.out
          clear hK K
          (try simp only [Act.put, List.setIfInBounds_toArray, List.set_cons_zero, List.set_cons_succ])
          refine' wpAnyH_take (i := 4) (oi := _) (v := .bool b2) ?hit60 ?hst60 ?hft60 ?hrt60 ?hQt60 ?hyt60 ?hSt60 ?_
          case hit60 => (simp only [List.getElem?_toArray, List.getElem?_cons_succ, List.getElem?_cons_zero]; rfl)
          case hst60 => kernel_rfl
          case hft60 => kernel_rfl
          case hrt60 => kernel_rfl
          case hQt60 => exact fun _ _ _ h => h
          case hSt60 => assumption
          case hyt60 =>
            refine Or.inl ⟨by rfl, ?_⟩
            intro W hS
            rw [← hd2.out]; exact quiet_neq_F W (.tmp 20) (.tmp 21) 35 _ _ (digs_length _ _ _) (digs_length _ _ _) rfl (show Value.agg x = .agg (limF n) by rw [hx.out]) rfl
          (try simp only [Act.put, List.setIfInBounds_toArray, List.set_cons_zero, List.set_cons_succ])
          refine wpAnyH_done (by kernel_rfl) ?_ _
          have H8 := Lib.hid (H7.out.next H59.out)
          clear hHeld
          cases hb2v : b2
          case true =>
            have hno : ¬ hasRoot n := by rw [hhas.out, ← hs2.out]; have h0 := hb2.out; rw [hb2v] at h0; simpa using h0.symm
            have hr0 : Hid (root n = 0) := by rw [hroot.out, if_neg hno]; exact Lib.hid rfl
            have hd : Hid (decide (hasRoot n) = false) := Lib.hid (by simpa using hno)
            have hzl : Hid ((#[.int .u64 0, .int .u64 0, .int .u64 0, .int .u64 0, .int .u64 0, .int .u64 0, .int .u64 0, .int .u64 0, .int .u64 0, .int .u64 0, .int .u64 0, .int .u64 0, .int .u64 0, .int .u64 0, .int .u64 0, .int .u64 0] : Array Value) = z) := by rw [hz.out]; exact Lib.hid limFZ
            rw [← hzl.out] at oz
            have H9 := Lib.hid (H8.out.1.snd #[.int .u64 0, .int .u64 0, .int .u64 0, .int .u64 0, .int .u64 0, .int .u64 0, .int .u64 0, .int .u64 0, .int .u64 0, .int .u64 0, .int .u64 0, .int .u64 0, .int .u64 0, .int .u64 0, .int .u64 0, .int .u64 0])
            clear hno hb2v
            go_wp2_with (first | (refine wpList_store_row rfl 35 (.tmp 2) (.tmp 23) rfl (w.heap.size + 1) #[.int .u64 0, .int .u64 0, .int .u64 0, .int .u64 0, .int .u64 0, .int .u64 0, .int .u64 0, .int .u64 0, .int .u64 0, .int .u64 0, .int .u64 0, .int .u64 0, .int .u64 0, .int .u64 0, .int .u64 0, .int .u64 0] rfl rfl 35 z H8.out.1.2.1 oz.out.1 (by rw [← hzl.out]) oz.out.2.1 ?_))
            refine bodyPost_ret (v := .tuple #[.agg #[.int .u64 0, .int .u64 0, .int .u64 0, .int .u64 0, .int .u64 0, .int .u64 0, .int .u64 0, .int .u64 0, .int .u64 0, .int .u64 0, .int .u64 0, .int .u64 0, .int .u64 0, .int .u64 0, .int .u64 0, .int .u64 0], .bool false]) ?_ rfl ⟨by rw [hr0.out, hd.out, ← hz.out, ← hzl.out], H9.out.2.2⟩
            exact results_row_tmp Tryd.results25 _ _ (w.heap.size + 1) 35 _ _ _ _ rfl rfl H9.out.2.1 Tryd.underlying35 oz.out.1
          case false =>
            have hyes : hasRoot n := by rw [hhas.out, ← hs2.out]; have h0 := hb2.out; rw [hb2v] at h0; simpa using h0.symm
            have hd : Hid (decide (hasRoot n) = true) := Lib.hid (by simpa using hyes)
            have hrr : root n = if root1 n % 2 = 1 then P - root1 n else root1 n := by rw [hroot.out, if_pos hyes]
            have HRR := Lib.hid hrr
            clear hyes hb2v hrr
            obtain ⟨y0, hy0⟩ := named ((digs B (root1 n) 16).getD 0 0)
            have hcell : ∀ V, Blk V g4 35 c1 → V.cell? ⟨g4, 0, none⟩ = some (.int .u64 (y0 : Int)) := fun V hV => by
              have := hV.cell 0
              rw [this, hc1.out, limF, u64s_get _ _ (by rw [digs_length]; omega), hy0.out]
            have hcc := hcell _ H8.out.2.1
            have hpar : Hid (y0 % 2 = root1 n % 2) := Lib.hid (by rw [hy0.out, digs_at (by omega), Nat.pow_zero, Nat.div_one]; unfold B; omega)
            have hyB : y0 < 65536 := by rw [hy0.out, digs_at (by omega)]; exact Nat.mod_lt _ (by decide)
            obtain ⟨b, hb⟩ := named (y0 % 2)
            have e1' : (y0 : Int) % 2 = (b : Int) := by rw [hb.out]; omega
            have e2' : (y0 : Int).tmod 2 = (b : Int) := by rw [Int.tmod_eq_emod_of_nonneg (by omega)]; omega
            have e3' : IntKind.u64.wrap (b : Int) = (b : Int) := by rw [IntKind.wrap_u64, hb.out]; omega
            have hb01 : b = 0 ∨ b = 1 := by rw [hb.out]; omega
            have hbp : Hid (root1 n % 2 = b) := Lib.hid (by rw [← hpar.out, hb.out])
            clear hcell
            obtain ⟨cR, hcR⟩ : ∃ c, Hid (c = limF (root n)) := ⟨_, Lib.hid rfl⟩
            have oR : Hid ((Tryd.prog.info? 35).map (·.size) = some cR.size ∧ cR.all (·.oneCell') = true ∧ z.size = cR.size) := by rw [hcR.out, hz.out]; exact Lib.hid (limF0_ok _)
            rcases hb01 with hb0 | hb0
            · have e1 : Hid (c1 = cR) := by
                rw [hc1.out, hcR.out, HRR.out, if_neg (by rw [hbp.out, hb0]; omega)]; exact Lib.hid rfl
              clear hbp hb
              subst hb0
              have HF := Lib.hid (H8.out.1.snd c1)
              go_wp2_with (first | (refine wpList_load_row rfl 35 (.tmp 4) rfl g4 rfl 35 c1 (0, 0) _ H8.out.2.1 Tryd.underlying35 rfl o1.out.1 ?_) |
                (refine wpList_store_row rfl 35 (.tmp 2) (.tmp 30) rfl (w.heap.size + 1) c1 rfl rfl 35 z H8.out.1.2.1 o1.out.1 o1.out.2.2 o1.out.2.1 ?_))
              refine bodyPost_ret (v := .tuple #[.agg c1, .bool true]) ?_ rfl ⟨by rw [e1.out, hcR.out, hd.out], HF.out.2.2⟩
              exact results_row_tmp Tryd.results25 _ _ (w.heap.size + 1) 35 _ _ _ _ rfl rfl HF.out.2.1 Tryd.underlying35 o1.out.1
            · have e1 : Hid (cN = cR) := by
                have ho : root1 n % 2 = 1 := by rw [hbp.out, hb0]
                rw [hcN.out, hcR.out, HRR.out, if_pos ho, odd_neg2 HR1l.out ho]; exact Lib.hid rfl
              clear hbp hb
              subst hb0
              go_wp2_with (first | (refine wpList_load_row rfl 35 (.tmp 4) rfl g4 rfl 35 c1 (0, 0) _ H8.out.2.1 Tryd.underlying35 rfl o1.out.1 ?_))
              refine (C9.out _).mono ?_
              rintro e w5 ⟨rfl, hb⟩
              have H9 := Lib.hid (H8.out.next hb)
              have HA := Lib.hid (H9.out.third cN)
              have HF := Lib.hid (HA.out.1.snd cN)
              clear hb
              go_wp2_with (first | (refine wpList_store_row rfl 35 (.tmp 4) (.tmp 29) rfl g4 cN rfl rfl 35 c1 H9.out.2.1 oN.out.1 hsz.out.2 oN.out.2.1 ?_) |
                (refine wpList_load_row rfl 35 (.tmp 4) rfl g4 rfl 35 cN (0, 0) _ HA.out.2.1 Tryd.underlying35 rfl oN.out.1 ?_) |
                (refine wpList_store_row rfl 35 (.tmp 2) (.tmp 30) rfl (w.heap.size + 1) cN rfl rfl 35 z HA.out.1.2.1 oN.out.1 oN.out.2.2 oN.out.2.1 ?_))
              refine bodyPost_ret (v := .tuple #[.agg cN, .bool true]) ?_ rfl ⟨by rw [e1.out, hcR.out, hd.out], HF.out.2.2⟩
              exact results_row_tmp Tryd.results25 _ _ (w.heap.size + 1) 35 _ _ _ _ rfl rfl HF.out.2.1 Tryd.underlying35 oN.out.1
end Go.Proofs.YtphlehinjooncaaDoor
