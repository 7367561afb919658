/-
  The contract of the reference's May: whether bytes are a scalar's. Condition: at most 1000 bytes.
-/
import Derived.Test.YtebnkbeejkopaaaDoorScaRef4
set_option linter.unusedVariables false
set_option linter.unusedSimpArgs false
namespace Go.Proofs.YtebnkbeejkopaaaDoor
open Go Go.Proofs Go.RowKit F5

theorem step_of_wp {P : Program} {ops : Array Oper} {o : Oper} {a : Act} {K : Act → World → Prop} {Q : Exit → Act → World → Prop} {E : Prop} {w : World} (hgd : o.guard = none) (h : Oper.wp P o a w K Q) :
    if Region.wanted o (yielded ops a.tmps) = true then Oper.wp P o a w K Q else E := by
  have hw : Region.wanted o (yielded ops a.tmps) = true := by simp [Region.wanted, hgd]
  rw [if_pos hw]
  exact h
theorem step_of_wpG {P : Program} {ops : Array Oper} {o : Oper} {a : Act} {K : Act → World → Prop} {Q : Exit → Act → World → Prop} {E : Prop} {w : World} (hw : Region.wanted o (yielded ops a.tmps) = true) (h : Oper.wp P o a w K Q) :
    if Region.wanted o (yielded ops a.tmps) = true then Oper.wp P o a w K Q else E := by
  rw [if_pos hw]; exact h
theorem quiet_back {o : Oper} {ev : Operand → Value} {w : World} (x : Operand) (A : Option Addr) (n c B : Nat) (l : List UInt8) (hx : ev x = .slice A n c) (hr : Reads w B 1 A n (Lib.byteCells l)) (ho : o.op = .convert 22 9 x) :
    (execOp ev o).run Tryd.prog w = .ok (.value (.string ⟨l.toArray⟩)) w := by
  unfold execOp
  simp only [ho, hx, Sem.run_bind, run_back hr, Result.andThen_ok, Sem.run_pure]
theorem wp_back {o : Oper} {a : Act} {w : World} {K : Act → World → Prop} {Q : Exit → Act → World → Prop} (x : Operand) (A : Option Addr) (n c B : Nat) (l : List UInt8) (hx : a.eval x = .slice A n c) (hr : Reads w B 1 A n (Lib.byteCells l)) (ho : o.op = .convert 22 9 x)
    (h : K (a.put o.dst (.string ⟨l.toArray⟩)) w) : o.wp Tryd.prog a w K Q := by
  unfold Oper.wp execOp
  simp only [ho, hx, Sem.run_bind, run_back hr, Result.andThen_ok, Sem.run_pure]
  exact h
theorem str_eq (l l' : List UInt8) : ((⟨l.toArray⟩ : ByteArray).toList == (⟨l'.toArray⟩ : ByteArray).toList) = decide (l = l') := by
  rw [Lib.toList_data, Lib.toList_data]
  rw [Bool.eq_iff_iff]
  simp


def mayB (l : List UInt8) : Bool := decide (l.length = 32 ∧ bval l < LL)
theorem mayB_eq {l : List UInt8} (h : l.length = 32) : decide (fbytes (bval l % LL) = l) = mayB l := by
  have hb : bval l < 2 ^ 256 := by have := bval_lt l; rwa [h] at this
  have hm : bval l % LL < 2 ^ 256 := Nat.lt_trans (Nat.mod_lt _ LL_pos) (by decide)
  unfold mayB
  rw [decide_eq_decide]
  constructor
  · intro e
    have h2 := congrArg bval e
    rw [bval_fbytes hm] at h2
    exact ⟨h, by rw [← h2]; exact Nat.mod_lt _ LL_pos⟩
  · rintro ⟨_, h2⟩
    rw [Nat.mod_eq_of_lt h2]
    obtain ⟨v, hv, rfl⟩ := fbytes_of l h
    rw [bval_fbytes hv]
theorem mayB_no {l : List UInt8} (h : l.length ≠ 32) : mayB l = false := decide_eq_false fun h2 => h h2.1

set_option maxHeartbeats 4000000 in
theorem may_any (A : Option Addr) (n c : Nat) (l : List UInt8) (w : World) (hn : n ≤ 1000) (hr : Reads w w.heap.size 1 A n (Lib.byteCells l)) :
    Calls Tryd.prog 11 #[.slice A n c] w fun e w' => e = .returned (.bool (mayB l)) ∧ Below w.heap.size w w' := by
  have hl : l.length = n := by have := hr.1; rw [Lib.byteCells_length] at this; omega
  have HR := Lib.hid hr
  have HB0 := Lib.hid ((Below.refl w.heap.size w).drew)
  by_cases h32 : n = 32
  · subst h32
    have HM := Lib.hid (mayB_eq hl)
    clear hr hl
    go_enter Tryd.func11, Tryd.ntmps11
    go_wp2_with fail
    refine wp_region_held_drew (S := fun V => Below w.heap.size w V) (by kernel_rfl) HB0.out (fun hHeld => ?_)
    generalize w.drew = W0 at *
    refine' wpAnyH_take (i := 0) (oi := _) (v := _) ?hit0 ?hst0 ?hft0 ?hrt0 ?hQt0 ?hyt0 ?hSt0 ?_
    case hit0 => (simp only [List.getElem?_toArray, List.getElem?_cons_succ, List.getElem?_cons_zero]; rfl)
    case hst0 => kernel_rfl
    case hft0 => kernel_rfl
    case hrt0 => kernel_rfl
    case hQt0 => exact fun _ _ _ h => h
    case hSt0 => assumption
    case hyt0 =>
      refine Or.inl ⟨by rfl, ?_⟩
      intro w hSw
      (try dsimp only at hSw)
      go_simp
      all_goals (with_reducible rfl)
    (try simp only [Act.put, List.setIfInBounds_toArray, List.set_cons_zero, List.set_cons_succ])
    refine' wpAnyH_take (i := 1) (oi := _) (v := _) ?hit1 ?hst1 ?hft1 ?hrt1 ?hQt1 ?hyt1 ?hSt1 ?_
    case hit1 => (simp only [List.getElem?_toArray, List.getElem?_cons_succ, List.getElem?_cons_zero]; rfl)
    case hst1 => kernel_rfl
    case hft1 => kernel_rfl
    case hrt1 => kernel_rfl
    case hQt1 => exact fun _ _ _ h => h
    case hSt1 => assumption
    case hyt1 =>
      refine Or.inl ⟨by rfl, ?_⟩
      intro w hSw
      (try dsimp only at hSw)
      go_simp
      all_goals (with_reducible rfl)
    (try simp only [Act.put, List.setIfInBounds_toArray, List.set_cons_zero, List.set_cons_succ])
    refine' wpAnyH_take (i := 2) (oi := _) (v := _) ?hit2 ?hst2 ?hft2 ?hrt2 ?hQt2 ?hyt2 ?hSt2 ?_
    case hit2 => (simp only [List.getElem?_toArray, List.getElem?_cons_succ, List.getElem?_cons_zero]; rfl)
    case hst2 => kernel_rfl
    case hft2 => kernel_rfl
    case hrt2 => kernel_rfl
    case hQt2 => exact fun _ _ _ h => h
    case hSt2 => assumption
    case hyt2 =>
      refine Or.inl ⟨by rfl, ?_⟩
      intro w hSw
      (try dsimp only at hSw)
      go_simp
      all_goals (with_reducible rfl)
    (try simp only [Act.put, List.setIfInBounds_toArray, List.set_cons_zero, List.set_cons_succ])
    refine' wpAnyH_take (i := 3) (oi := _) (v := _) ?hit3 ?hst3 ?hft3 ?hrt3 ?hQt3 ?hyt3 ?hSt3 ?_
    case hit3 => (simp only [List.getElem?_toArray, List.getElem?_cons_succ, List.getElem?_cons_zero]; rfl)
    case hst3 => kernel_rfl
    case hft3 => kernel_rfl
    case hrt3 => kernel_rfl
    case hQt3 => exact fun _ _ _ h => h
    case hSt3 => assumption
    case hyt3 =>
      refine Or.inl ⟨by rfl, ?_⟩
      intro w hSw
      (try dsimp only at hSw)
      go_simp
      all_goals (with_reducible rfl)
    (try simp only [Act.put, List.setIfInBounds_toArray, List.set_cons_zero, List.set_cons_succ])
    refine' wpAnyH_take (i := 4) (oi := _) (v := _) ?hit4 ?hst4 ?hft4 ?hrt4 ?hQt4 ?hyt4 ?hSt4 ?_
    case hit4 => (simp only [List.getElem?_toArray, List.getElem?_cons_succ, List.getElem?_cons_zero]; rfl)
    case hst4 => kernel_rfl
    case hft4 => kernel_rfl
    case hrt4 => kernel_rfl
    case hQt4 => exact fun _ _ _ h => h
    case hSt4 => assumption
    case hyt4 =>
      refine Or.inl ⟨by rfl, ?_⟩
      intro w hSw
      (try dsimp only at hSw)
      go_simp
      all_goals (with_reducible rfl)
    (try simp only [Act.put, List.setIfInBounds_toArray, List.set_cons_zero, List.set_cons_succ])
    refine' wpAnyH_take (i := 7) (oi := _) (v := _) ?hit7 ?hst7 ?hft7 ?hrt7 ?hQt7 ?hyt7 ?hSt7 ?_
    case hit7 => (simp only [List.getElem?_toArray, List.getElem?_cons_succ, List.getElem?_cons_zero]; rfl)
    case hst7 => kernel_rfl
    case hft7 => kernel_rfl
    case hrt7 => kernel_rfl
    case hQt7 => exact fun _ _ _ h => h
    case hSt7 => assumption
    case hyt7 =>
      refine Or.inl ⟨by rfl, ?_⟩
      intro w hSw
      (try dsimp only at hSw)
      go_simp
      all_goals (with_reducible rfl)
    (try simp only [Act.put, List.setIfInBounds_toArray, List.set_cons_zero, List.set_cons_succ])
    refine' wpAnyH_take (i := 8) (oi := _) (v := .string ⟨l.toArray⟩) ?hit8 ?hst8 ?hft8 ?hrt8 ?hQt8 ?hyt8 ?hSt8 ?_
    case hit8 => (simp only [List.getElem?_toArray, List.getElem?_cons_succ, List.getElem?_cons_zero]; rfl)
    case hst8 => kernel_rfl
    case hft8 => kernel_rfl
    case hrt8 => kernel_rfl
    case hQt8 => exact fun _ _ _ h => h
    case hSt8 => assumption
    case hyt8 =>
      refine Or.inl ⟨by rfl, ?_⟩
      intro W hS
      exact quiet_back (.tmp 10) A 32 c _ l rfl (HR.out.below hS) rfl
    (try simp only [Act.put, List.setIfInBounds_toArray, List.set_cons_zero, List.set_cons_succ])
    refine wpAnyH_ready (rs := [5]) (by kernel_rfl) (by simp) ?_
    refine' AllReadyH.cons (o := _) ?hir5 (fun K hK => ?_) AllReadyH.nil
    case hir5 => (simp only [List.getElem?_toArray, List.getElem?_cons_succ, List.getElem?_cons_zero]; rfl)
    go_simp
    refine (reduce_any A 32 c l _ (by omega) ((HR.out.below HB0.out).more HB0.out.size)).mono ?_
    rintro e w6 ⟨v6, rfl, ho6, hb6⟩
    obtain ⟨A6, c6, rfl, _⟩ := own_slice ho6
    have HR6 := Lib.hid (Reads.of_own ho6)
    have HB6 := Lib.hid (HB0.out.trans (hb6.mono HB0.out.size))
    clear ho6 hb6
    go_wp2_with fail
    refine hK.out _ _ ?_ (fun hHeld => ?_)
    exact HB6.out
    clear hK K
    (try simp only [Act.put, List.setIfInBounds_toArray, List.set_cons_zero, List.set_cons_succ])
    refine wpAnyH_ready (rs := [6]) (by kernel_rfl) (by simp) ?_
    refine' AllReadyH.cons (o := _) ?hir6 (fun K hK => ?_) AllReadyH.nil
    case hir6 => (simp only [List.getElem?_toArray, List.getElem?_cons_succ, List.getElem?_cons_zero]; rfl)
    refine step_of_wpG (by rfl) ?_
    refine wp_back (.tmp 8) A6 32 c6 _ (fbytes (bval l % LL)) rfl HR6.out rfl ?_
    refine hK.out _ _ ?_ (fun hHeld => ?_)
    exact HB6.out
    clear hK K
    (try simp only [Act.put, List.setIfInBounds_toArray, List.set_cons_zero, List.set_cons_succ])
    refine' wpAnyH_take (i := 9) (oi := _) (v := _) ?hit9 ?hst9 ?hft9 ?hrt9 ?hQt9 ?hyt9 ?hSt9 ?_
    case hit9 => (simp only [List.getElem?_toArray, List.getElem?_cons_succ, List.getElem?_cons_zero]; rfl)
    case hst9 => kernel_rfl
    case hft9 => kernel_rfl
    case hrt9 => kernel_rfl
    case hQt9 => exact fun _ _ _ h => h
    case hSt9 => assumption
    case hyt9 =>
      refine Or.inl ⟨by rfl, ?_⟩
      intro w hSw
      (try dsimp only at hSw)
      go_simp
      all_goals (with_reducible rfl)
    (try simp only [Act.put, List.setIfInBounds_toArray, List.set_cons_zero, List.set_cons_succ])
    refine' wpAnyH_take (i := 10) (oi := _) (v := _) ?hit10 ?hst10 ?hft10 ?hrt10 ?hQt10 ?hyt10 ?hSt10 ?_
    case hit10 => (simp only [List.getElem?_toArray, List.getElem?_cons_succ, List.getElem?_cons_zero]; rfl)
    case hst10 => kernel_rfl
    case hft10 => kernel_rfl
    case hrt10 => kernel_rfl
    case hQt10 => exact fun _ _ _ h => h
    case hSt10 => assumption
    case hyt10 =>
      refine Or.inl ⟨by rfl, ?_⟩
      intro w hSw
      (try dsimp only at hSw)
      go_simp
      all_goals (with_reducible rfl)
    (try simp only [Act.put, List.setIfInBounds_toArray, List.set_cons_zero, List.set_cons_succ])
    refine' wpAnyH_take (i := 11) (oi := _) (v := _) ?hit11 ?hst11 ?hft11 ?hrt11 ?hQt11 ?hyt11 ?hSt11 ?_
    case hit11 => (simp only [List.getElem?_toArray, List.getElem?_cons_succ, List.getElem?_cons_zero]; rfl)
    case hst11 => kernel_rfl
    case hft11 => kernel_rfl
    case hrt11 => kernel_rfl
    case hQt11 => exact fun _ _ _ h => h
    case hSt11 => assumption
    case hyt11 =>
      refine Or.inl ⟨by rfl, ?_⟩
      intro w hSw
      (try dsimp only at hSw)
      go_simp
      all_goals (with_reducible rfl)
    (try simp only [Act.put, List.setIfInBounds_toArray, List.set_cons_zero, List.set_cons_succ])
    refine wpAnyH_done (by kernel_rfl) ?_ _
    clear hHeld
    go_wp2_with fail
    go_ret
    refine ⟨?_, HB6.out⟩
    show Ending.returned (.bool _) = _
    rw [← HM.out]
    refine congrArg (fun b => Ending.returned (Value.bool b)) ?_
    rw [Bool.eq_iff_iff]
    simp
  · have hne : ((n : Int) == 32) = false := by rw [beq_eq_false_iff_ne]; omega
    have HM := Lib.hid (mayB_no (l := l) (by rw [hl]; exact h32))
    clear hr hl h32
    go_enter Tryd.func11, Tryd.ntmps11
    go_wp2_with fail
    refine wp_region_held_drew (S := fun V => Below w.heap.size w V) (by kernel_rfl) HB0.out (fun hHeld => ?_)
    generalize w.drew = W0 at *
    refine' wpAnyH_take (i := 0) (oi := _) (v := _) ?hit1 ?hst1 ?hft1 ?hrt1 ?hQt1 ?hyt1 ?hSt1 ?_
    case hit1 => (simp only [List.getElem?_toArray, List.getElem?_cons_succ, List.getElem?_cons_zero]; rfl)
    case hst1 => kernel_rfl
    case hft1 => kernel_rfl
    case hrt1 => kernel_rfl
    case hQt1 => exact fun _ _ _ h => h
    case hSt1 => assumption
    case hyt1 =>
      refine Or.inl ⟨by rfl, ?_⟩
      intro w hSw
      (try dsimp only at hSw)
      go_simp
      all_goals (with_reducible rfl)
    (try simp only [Act.put, List.setIfInBounds_toArray, List.set_cons_zero, List.set_cons_succ])
    refine' wpAnyH_take (i := 1) (oi := _) (v := _) ?hit2 ?hst2 ?hft2 ?hrt2 ?hQt2 ?hyt2 ?hSt2 ?_
    case hit2 => (simp only [List.getElem?_toArray, List.getElem?_cons_succ, List.getElem?_cons_zero]; rfl)
    case hst2 => kernel_rfl
    case hft2 => kernel_rfl
    case hrt2 => kernel_rfl
    case hQt2 => exact fun _ _ _ h => h
    case hSt2 => assumption
    case hyt2 =>
      refine Or.inl ⟨by rfl, ?_⟩
      intro w hSw
      (try dsimp only at hSw)
      go_simp
      all_goals (with_reducible rfl)
    (try simp only [Act.put, List.setIfInBounds_toArray, List.set_cons_zero, List.set_cons_succ])
    refine' wpAnyH_take (i := 2) (oi := _) (v := _) ?hit3 ?hst3 ?hft3 ?hrt3 ?hQt3 ?hyt3 ?hSt3 ?_
    case hit3 => (simp only [List.getElem?_toArray, List.getElem?_cons_succ, List.getElem?_cons_zero]; rfl)
    case hst3 => kernel_rfl
    case hft3 => kernel_rfl
    case hrt3 => kernel_rfl
    case hQt3 => exact fun _ _ _ h => h
    case hSt3 => assumption
    case hyt3 =>
      refine Or.inl ⟨by rfl, ?_⟩
      intro w hSw
      (try dsimp only at hSw)
      go_simp
      all_goals (with_reducible rfl)
    (try simp only [Act.put, List.setIfInBounds_toArray, List.set_cons_zero, List.set_cons_succ])
    refine' wpAnyH_take (i := 3) (oi := _) (v := _) ?hit4 ?hst4 ?hft4 ?hrt4 ?hQt4 ?hyt4 ?hSt4 ?_
    case hit4 => (simp only [List.getElem?_toArray, List.getElem?_cons_succ, List.getElem?_cons_zero]; rfl)
    case hst4 => kernel_rfl
    case hft4 => kernel_rfl
    case hrt4 => kernel_rfl
    case hQt4 => exact fun _ _ _ h => h
    case hSt4 => assumption
    case hyt4 =>
      refine Or.inl ⟨by rfl, ?_⟩
      intro w hSw
      (try dsimp only at hSw)
      go_simp
      all_goals (with_reducible rfl)
    (try simp only [Act.put, List.setIfInBounds_toArray, List.set_cons_zero, List.set_cons_succ])
    refine' wpAnyH_take (i := 4) (oi := _) (v := undef) ?hit5 ?hst5 ?hft5 ?hrt5 ?hQt5 ?hyt5 ?hSt5 ?_
    case hit5 => (simp only [List.getElem?_toArray, List.getElem?_cons_succ, List.getElem?_cons_zero]; rfl)
    case hst5 => kernel_rfl
    case hft5 => kernel_rfl
    case hrt5 => kernel_rfl
    case hQt5 => exact fun _ _ _ h => h
    case hSt5 => assumption
    case hyt5 =>
      exact Or.inr ⟨by rfl, rfl⟩
    (try simp only [Act.put, List.setIfInBounds_toArray, List.set_cons_zero, List.set_cons_succ])
    refine' wpAnyH_take (i := 5) (oi := _) (v := undef) ?hit6 ?hst6 ?hft6 ?hrt6 ?hQt6 ?hyt6 ?hSt6 ?_
    case hit6 => (simp only [List.getElem?_toArray, List.getElem?_cons_succ, List.getElem?_cons_zero]; rfl)
    case hst6 => kernel_rfl
    case hft6 => kernel_rfl
    case hrt6 => kernel_rfl
    case hQt6 => exact fun _ _ _ h => h
    case hSt6 => assumption
    case hyt6 =>
      exact Or.inr ⟨by rfl, rfl⟩
    (try simp only [Act.put, List.setIfInBounds_toArray, List.set_cons_zero, List.set_cons_succ])
    refine' wpAnyH_take (i := 6) (oi := _) (v := undef) ?hit7 ?hst7 ?hft7 ?hrt7 ?hQt7 ?hyt7 ?hSt7 ?_
    case hit7 => (simp only [List.getElem?_toArray, List.getElem?_cons_succ, List.getElem?_cons_zero]; rfl)
    case hst7 => kernel_rfl
    case hft7 => kernel_rfl
    case hrt7 => kernel_rfl
    case hQt7 => exact fun _ _ _ h => h
    case hSt7 => assumption
    case hyt7 =>
      exact Or.inr ⟨by rfl, rfl⟩
    (try simp only [Act.put, List.setIfInBounds_toArray, List.set_cons_zero, List.set_cons_succ])
    refine' wpAnyH_take (i := 7) (oi := _) (v := undef) ?hit8 ?hst8 ?hft8 ?hrt8 ?hQt8 ?hyt8 ?hSt8 ?_
    case hit8 => (simp only [List.getElem?_toArray, List.getElem?_cons_succ, List.getElem?_cons_zero]; rfl)
    case hst8 => kernel_rfl
    case hft8 => kernel_rfl
    case hrt8 => kernel_rfl
    case hQt8 => exact fun _ _ _ h => h
    case hSt8 => assumption
    case hyt8 =>
      exact Or.inr ⟨by rfl, rfl⟩
    (try simp only [Act.put, List.setIfInBounds_toArray, List.set_cons_zero, List.set_cons_succ])
    refine' wpAnyH_take (i := 8) (oi := _) (v := undef) ?hit9 ?hst9 ?hft9 ?hrt9 ?hQt9 ?hyt9 ?hSt9 ?_
    case hit9 => (simp only [List.getElem?_toArray, List.getElem?_cons_succ, List.getElem?_cons_zero]; rfl)
    case hst9 => kernel_rfl
    case hft9 => kernel_rfl
    case hrt9 => kernel_rfl
    case hQt9 => exact fun _ _ _ h => h
    case hSt9 => assumption
    case hyt9 =>
      exact Or.inr ⟨by rfl, rfl⟩
    (try simp only [Act.put, List.setIfInBounds_toArray, List.set_cons_zero, List.set_cons_succ])
    refine' wpAnyH_take (i := 9) (oi := _) (v := undef) ?hit10 ?hst10 ?hft10 ?hrt10 ?hQt10 ?hyt10 ?hSt10 ?_
    case hit10 => (simp only [List.getElem?_toArray, List.getElem?_cons_succ, List.getElem?_cons_zero]; rfl)
    case hst10 => kernel_rfl
    case hft10 => kernel_rfl
    case hrt10 => kernel_rfl
    case hQt10 => exact fun _ _ _ h => h
    case hSt10 => assumption
    case hyt10 =>
      exact Or.inr ⟨by rfl, rfl⟩
    (try simp only [Act.put, List.setIfInBounds_toArray, List.set_cons_zero, List.set_cons_succ])
    refine' wpAnyH_take (i := 10) (oi := _) (v := _) ?hit11 ?hst11 ?hft11 ?hrt11 ?hQt11 ?hyt11 ?hSt11 ?_
    case hit11 => (simp only [List.getElem?_toArray, List.getElem?_cons_succ, List.getElem?_cons_zero]; rfl)
    case hst11 => kernel_rfl
    case hft11 => kernel_rfl
    case hrt11 => kernel_rfl
    case hQt11 => exact fun _ _ _ h => h
    case hSt11 => assumption
    case hyt11 =>
      refine Or.inl ⟨by rfl, ?_⟩
      intro w hSw
      (try dsimp only at hSw)
      go_simp
      all_goals (with_reducible rfl)
    (try simp only [Act.put, List.setIfInBounds_toArray, List.set_cons_zero, List.set_cons_succ])
    refine' wpAnyH_take (i := 11) (oi := _) (v := _) ?hit12 ?hst12 ?hft12 ?hrt12 ?hQt12 ?hyt12 ?hSt12 ?_
    case hit12 => (simp only [List.getElem?_toArray, List.getElem?_cons_succ, List.getElem?_cons_zero]; rfl)
    case hst12 => kernel_rfl
    case hft12 => kernel_rfl
    case hrt12 => kernel_rfl
    case hQt12 => exact fun _ _ _ h => h
    case hSt12 => assumption
    case hyt12 =>
      refine Or.inl ⟨by rfl, ?_⟩
      intro w hSw
      (try dsimp only at hSw)
      go_simp
      all_goals (with_reducible rfl)
    (try simp only [Act.put, List.setIfInBounds_toArray, List.set_cons_zero, List.set_cons_succ])
    refine wpAnyH_done (by kernel_rfl) ?_ _
    clear hHeld
    go_wp2_with fail
    go_ret
    exact ⟨by rw [HM.out]; rfl, HB0.out⟩
end Go.Proofs.YtebnkbeejkopaaaDoor
