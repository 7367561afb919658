/-
  The walk of the law SexpWrites. Conditions: the library's table of powers of ten holds what its text lays; the tree has at most 2^40 nodes, and its form as many bytes.
-/
import Derived.Test.YtaenahilnnlbfaaDoorSexpMath
import Derived.Deep.RegionHeld3
set_option linter.unusedVariables false
namespace Go.Proofs.YtaenahilnnlbfaaDoor
open Go Go.Proofs Go.RowKit Sx

set_option maxHeartbeats 2000000 in
set_option maxRecDepth 100000 in
theorem writes_walk (t : SX) (w : World) (S : Nat → Prop) (cs : List Value) (hs : SIn w S t cs) (ht : Tab w) (hn : nodes t ≤ 1099511627776) (hf : (form t).length ≤ 1099511627776) :
    Calls Tryd.prog 3 #[.agg cs.toArray] w fun e w' => e = .returned (.bool true) ∧ Below w.heap.size w w' := by
  obtain ⟨l, h, hi, da, ks, A1, n1, c1, A2, n2, c2, A3, n3, c3, eT, rfl⟩ := hs.form_
  have hb0 := below_new w (.cells #[Value.bool l, Value.bool h, Value.slice A1 n1 c1, Value.slice A2 n2 c2, Value.slice A3 n3 c3] 25)
  have HX := Lib.hid (heap_alloc_new w (.cells #[Value.bool l, Value.bool h, Value.slice A1 n1 c1, Value.slice A2 n2 c2, Value.slice A3 n3 c3] 25))
  have hs0 := hs.old hb0
  have ht0 := ht.old hb0
  have HS := Lib.hid (fun W hb => hs0.old (w' := W) hb)
  have HT := Lib.hid (fun W hb => ht0.old (w' := W) hb)
  have C1 := Lib.hid (great_any t _ S _ 0 hs0 (by omega) (by omega))
  have C2 := Lib.hid (fun W hb => refMay_any t W S _ (HS.out W hb) hn hf)
  have C3 := Lib.hid (fun W hb => may_any t W S _ (HS.out W hb) (HT.out W hb))
  have C4 := Lib.hid (fun W hb => form_any t W S _ (HS.out W hb) hf)
  have CA := Lib.hid (fun W hb => awake_any W (HT.out W hb))
  have hsz0 : (w.alloc (.cells #[Value.bool l, Value.bool h, Value.slice A1 n1 c1, Value.slice A2 n2 c2, Value.slice A3 n3 c3] 25)).heap.size = w.heap.size + 1 := by simp
  clear hs ht hs0 ht0 eT
  go_enter Tryd.func3, Tryd.ntmps3
  go_wp2_with fail
  generalize (w.alloc (.cells #[Value.bool l, Value.bool h, Value.slice A1 n1 c1, Value.slice A2 n2 c2, Value.slice A3 n3 c3] 25)) = W at *
  refine C1.out.mono ?_
  rintro e w1 ⟨b, rfl, hb1⟩
  cases b with
  | true =>
    go_wp2_with ((with_reducible refine (CA.out _ hb1).mono ?_); rintro e wA ⟨rfl, hbA⟩)
    go_ret
    exact ⟨rfl, hb0.trans ((hb1.trans (hbA.mono hb1.size)).mono (by omega))⟩
  | false =>
  obtain ⟨e0, e1, e2, e3, e4⟩ := box5b (below_at hb1 HX.out)
  go_wp2_with fail
  refine (put_any t w1 S _ (HS.out _ hb1) (HT.out _ hb1)).mono ?_
  intro e w2 hE
  clear e0 e1 e2 e3 e4
  cases hm : may t with
  | false =>
    have HM := Lib.hid hm
    obtain ⟨_, rfl, hb2⟩ := hE.elim (fun h => by have := h.1; rw [hm] at this; cases this) id
    have hb2' := hb1.trans (hb2.mono hb1.size)
    clear hm
    obtain ⟨e0, e1, e2, e3, e4⟩ := box5b (below_at hb2' HX.out)
    go_wp2_with fail
    refine (C2.out _ hb2').mono ?_
    rintro e w3 ⟨rfl, hb3⟩
    have hb3' := hb2'.trans (hb3.mono hb2'.size)
    rw [HM.out]
    clear e0 e1 e2 e3 e4
    obtain ⟨e0, e1, e2, e3, e4⟩ := box5b (below_at hb3' HX.out)
    go_wp2_with fail
    refine (C3.out _ hb3').mono ?_
    rintro e w4 ⟨rfl, hb4⟩
    have hb4' := hb3'.trans (hb4.mono hb3'.size)
    rw [HM.out]
    go_wp2_with ((with_reducible refine (CA.out _ hb4').mono ?_); rintro e wA ⟨rfl, hbA⟩)
    go_ret
    exact ⟨rfl, hb0.trans ((hb4'.trans (hbA.mono hb4'.size)).mono (by omega))⟩
  | true =>
  have HM := Lib.hid hm
  obtain ⟨_, A, c, rfl, hc, hr, hb2⟩ := hE.elim id (fun h => by have := h.1; rw [hm] at this; cases this)
  have hb2' := hb1.trans (hb2.mono hb1.size)
  clear hm
  obtain ⟨e0, e1, e2, e3, e4⟩ := box5b (below_at hb2' HX.out)
  go_wp2_with fail
  refine (C2.out _ hb2').mono ?_
  rintro e w3 ⟨rfl, hb3⟩
  have hb3' := hb2'.trans (hb3.mono hb2'.size)
  have hr3 := hr.below hb3
  rw [HM.out]
  clear e0 e1 e2 e3 e4
  have C5 := get_any A _ c (form t) w3 (hr3.more hb3.size) hc
  rw [pGet_full HM.out] at C5
  have C5 := Lib.hid C5
  have HR := Lib.hid (hr3.more hb3.size)
  clear hr hr3
  generalize form t = ft at *
  go_wp2_with fail
  refine C5.out.mono ?_
  rintro e w4 ⟨v0, v1, v2, v3, v4, rfl, hin, hb4⟩
  have hb4' := hb3'.trans (hb4.mono hb3'.size)
  obtain ⟨l', h', hi', da', ks', B1, m1, j1, B2, m2, j2, B3, m3, j3, eZ, eE⟩ := hin.form_
  injection eE with eE0 eE; injection eE with eE1 eE; injection eE with eE2 eE; injection eE with eE3 eE; injection eE with eE4 eE
  subst eE0 eE1 eE2 eE3 eE4
  clear eE eZ
  have X0 : Box (w4.alloc (.cells #[.bool false, .bool false, .slice none 0 0, .slice none 0 0, .slice none 0 0] 25)) w4.heap.size (.bool false) (.bool false) (.slice none 0 0) (.slice none 0 0) (.slice none 0 0) := heap_alloc_new w4 _
  obtain ⟨⟨d0, d1, d2, d3, d4⟩, dz⟩ := X0.all
  have dz0 := dz 0
  have dz1 := dz 1
  have dz2 := dz 2
  have dz3 := dz 3
  have dz4 := dz 4
  have hbx := below_new w4 (.cells #[.bool l', .bool h', .slice B1 m1 j1, .slice B2 m2 j2, .slice B3 m3 j3] 25)
  have hbF := hb4'.trans (hbx.mono hb4'.size)
  have HIN := Lib.hid (in_box hin (.cells #[.bool l', .bool h', .slice B1 m1 j1, .slice B2 m2 j2, .slice B3 m3 j3] 25))
  have XB : Box (w4.alloc (.cells #[.bool l', .bool h', .slice B1 m1 j1, .slice B2 m2 j2, .slice B3 m3 j3] 25)) w4.heap.size (.bool l') (.bool h') (.slice B1 m1 j1) (.slice B2 m2 j2) (.slice B3 m3 j3) := heap_alloc_new w4 _
  have HXB := Lib.hid XB
  have HXF := Lib.hid (below_at hbF HX.out)
  have hrF := HR.out.below (hb4.trans (hbx.mono hb4.size))
  have HRF := Lib.hid (hrF.more (hb4.trans (hbx.mono hb4.size)).size)
  clear dz X0 XB hin hrF
  go_wp2_with fail
  generalize hP : (w4.alloc (.cells #[.bool l', .bool h', .slice B1 m1 j1, .slice B2 m2 j2, .slice B3 m3 j3] 25)) = P at *
  have HSS : ∀ W' (hb : Below P.heap.size P W'), (convert 22 9 (.slice A ft.length c)).run Tryd.prog W' = .ok (.string ⟨ft.toArray⟩) W' ∧ W'.cell? ⟨w.heap.size, 0, none⟩ = some (Value.bool l) ∧ W'.cell? ⟨w.heap.size, 1, none⟩ = some (Value.bool h) ∧ W'.cell? ⟨w.heap.size, 2, none⟩ = some (Value.slice A1 n1 c1) ∧ W'.cell? ⟨w.heap.size, 3, none⟩ = some (Value.slice A2 n2 c2) ∧ W'.cell? ⟨w.heap.size, 4, none⟩ = some (Value.slice A3 n3 c3) ∧ W'.cell? ⟨w4.heap.size, 0, none⟩ = some (Value.bool l') ∧ W'.cell? ⟨w4.heap.size, 1, none⟩ = some (Value.bool h') ∧ W'.cell? ⟨w4.heap.size, 2, none⟩ = some (Value.slice B1 m1 j1) ∧ W'.cell? ⟨w4.heap.size, 3, none⟩ = some (Value.slice B2 m2 j2) ∧ W'.cell? ⟨w4.heap.size, 4, none⟩ = some (Value.slice B3 m3 j3) := fun W' hb => by
    obtain ⟨x0, x1, x2, x3, x4⟩ := box5b (below_at hb HXF.out)
    obtain ⟨y0, y1, y2, y3, y4⟩ := box5b (below_at hb HXB.out)
    exact ⟨run_back (HRF.out.below hb) (c := c), x0, x1, x2, x3, x4, y0, y1, y2, y3, y4⟩
  have HK := Lib.hid HSS
  have hbd : Below P.heap.size P P.drew := (Below.refl _ _).drew
  have C6 := Lib.hid (fun W' (hb : Below P.heap.size P W') => refSame_any t t W' _ S _ _ (HIN.out.old hb) (HS.out _ (hbF.trans (hb.mono hbF.size))))
  have hst : Hid (same t t = true) := same_refl t
  clear C1 C5
  have C3' := Lib.hid (C3.out _ (hbF.trans (hbd.mono hbF.size)))
  have C4' := Lib.hid (fun W' (hb : Below P.heap.size P W') => C4.out W' (hbF.trans (hb.mono hbF.size)))
  have CA' := Lib.hid (fun W' (hb : Below P.heap.size P W') => CA.out W' (hbF.trans (hb.mono hbF.size)))
  clear C2 C3 C4 CA HS HT HX HXF HRF HXB HIN hP HSS
  refine wp_region_held_drew (S := fun w' => (convert 22 9 (.slice A ft.length c)).run Tryd.prog w' = .ok (.string ⟨ft.toArray⟩) w' ∧ w'.cell? ⟨w.heap.size, 0, none⟩ = some (Value.bool l) ∧ w'.cell? ⟨w.heap.size, 1, none⟩ = some (Value.bool h) ∧ w'.cell? ⟨w.heap.size, 2, none⟩ = some (Value.slice A1 n1 c1) ∧ w'.cell? ⟨w.heap.size, 3, none⟩ = some (Value.slice A2 n2 c2) ∧ w'.cell? ⟨w.heap.size, 4, none⟩ = some (Value.slice A3 n3 c3) ∧ w'.cell? ⟨w4.heap.size, 0, none⟩ = some (Value.bool l') ∧ w'.cell? ⟨w4.heap.size, 1, none⟩ = some (Value.bool h') ∧ w'.cell? ⟨w4.heap.size, 2, none⟩ = some (Value.slice B1 m1 j1) ∧ w'.cell? ⟨w4.heap.size, 3, none⟩ = some (Value.slice B2 m2 j2) ∧ w'.cell? ⟨w4.heap.size, 4, none⟩ = some (Value.slice B3 m3 j3)) (by kernel_rfl) (HK.out _ hbd) (fun hHeld => ?_)
  refine' wpAnyH_take (i := 0) (oi := _) (v := _) ?hit0 ?hst0 ?hft0 ?hrt0 ?hQt0 ?hyt0 ?hSt0 ?_
  case hit0 => (simp only [List.getElem?_toArray, List.getElem?_cons_succ, List.getElem?_cons_zero]; rfl)
  case hst0 => kernel_rfl
  case hft0 => kernel_rfl
  case hrt0 => kernel_rfl
  case hQt0 => exact fun _ _ _ h => h
  case hSt0 => assumption
  case hyt0 =>
    refine Or.inl ⟨by rfl, ?_⟩
    intro w hSw
    (try dsimp only at hSw)
    go_simp
    all_goals (with_reducible rfl)
  (try simp only [Act.put, List.setIfInBounds_toArray, List.set_cons_zero, List.set_cons_succ])
  refine wpAnyH_ready (rs := [1]) (by kernel_rfl) (by simp) ?_
  refine' AllReadyH.cons (o := _) ?hir1 (fun K hK => ?_) AllReadyH.nil
  case hir1 => (simp only [List.getElem?_toArray, List.getElem?_cons_succ, List.getElem?_cons_zero]; rfl)
  go_simp
  refine C3'.out.mono ?_
  rintro e w7 ⟨rfl, hb7⟩
  rw [HM.out]
  have hb7 := hbd.trans (hb7.mono hbd.size)
  go_wp2_with fail
  refine hK.out _ _ ?_ (fun hHeld => ?_)
  · exact HK.out _ hb7
  clear hK K
  (try simp only [Act.put, List.setIfInBounds_toArray, List.set_cons_zero, List.set_cons_succ])
  refine' wpAnyH_take (i := 2) (oi := _) (v := _) ?hit2 ?hst2 ?hft2 ?hrt2 ?hQt2 ?hyt2 ?hSt2 ?_
  case hit2 => (simp only [List.getElem?_toArray, List.getElem?_cons_succ, List.getElem?_cons_zero]; rfl)
  case hst2 => kernel_rfl
  case hft2 => kernel_rfl
  case hrt2 => kernel_rfl
  case hQt2 => exact fun _ _ _ h => h
  case hSt2 => assumption
  case hyt2 =>
    refine Or.inl ⟨by rfl, ?_⟩
    intro w hSw
    (try dsimp only at hSw)
    go_simp
    all_goals (with_reducible rfl)
  (try simp only [Act.put, List.setIfInBounds_toArray, List.set_cons_zero, List.set_cons_succ])
  refine' wpAnyH_take (i := 3) (oi := _) (v := _) ?hit3 ?hst3 ?hft3 ?hrt3 ?hQt3 ?hyt3 ?hSt3 ?_
  case hit3 => (simp only [List.getElem?_toArray, List.getElem?_cons_succ, List.getElem?_cons_zero]; rfl)
  case hst3 => kernel_rfl
  case hft3 => kernel_rfl
  case hrt3 => kernel_rfl
  case hQt3 => exact fun _ _ _ h => h
  case hSt3 => assumption
  case hyt3 =>
    refine Or.inl ⟨by rfl, ?_⟩
    intro w hSw
    (try dsimp only at hSw)
    go_simp
    all_goals (with_reducible rfl)
  (try simp only [Act.put, List.setIfInBounds_toArray, List.set_cons_zero, List.set_cons_succ])
  refine' wpAnyH_take (i := 4) (oi := _) (v := _) ?hit4 ?hst4 ?hft4 ?hrt4 ?hQt4 ?hyt4 ?hSt4 ?_
  case hit4 => (simp only [List.getElem?_toArray, List.getElem?_cons_succ, List.getElem?_cons_zero]; rfl)
  case hst4 => kernel_rfl
  case hft4 => kernel_rfl
  case hrt4 => kernel_rfl
  case hQt4 => exact fun _ _ _ h => h
  case hSt4 => assumption
  case hyt4 =>
    refine Or.inl ⟨by rfl, ?_⟩
    intro w hSw
    (try dsimp only at hSw)
    go_simp
    all_goals (with_reducible rfl)
  (try simp only [Act.put, List.setIfInBounds_toArray, List.set_cons_zero, List.set_cons_succ])
  refine' wpAnyH_take (i := 5) (oi := _) (v := _) ?hit5 ?hst5 ?hft5 ?hrt5 ?hQt5 ?hyt5 ?hSt5 ?_
  case hit5 => (simp only [List.getElem?_toArray, List.getElem?_cons_succ, List.getElem?_cons_zero]; rfl)
  case hst5 => kernel_rfl
  case hft5 => kernel_rfl
  case hrt5 => kernel_rfl
  case hQt5 => exact fun _ _ _ h => h
  case hSt5 => assumption
  case hyt5 =>
    refine Or.inl ⟨by rfl, ?_⟩
    intro w hSw
    (try dsimp only at hSw)
    go_simp
    all_goals (with_reducible rfl)
  (try simp only [Act.put, List.setIfInBounds_toArray, List.set_cons_zero, List.set_cons_succ])
  refine' wpAnyH_take (i := 6) (oi := _) (v := _) ?hit6 ?hst6 ?hft6 ?hrt6 ?hQt6 ?hyt6 ?hSt6 ?_
  case hit6 => (simp only [List.getElem?_toArray, List.getElem?_cons_succ, List.getElem?_cons_zero]; rfl)
  case hst6 => kernel_rfl
  case hft6 => kernel_rfl
  case hrt6 => kernel_rfl
  case hQt6 => exact fun _ _ _ h => h
  case hSt6 => assumption
  case hyt6 =>
    refine Or.inl ⟨by rfl, ?_⟩
    intro w hSw
    (try dsimp only at hSw)
    go_simp
    all_goals (with_reducible rfl)
  (try simp only [Act.put, List.setIfInBounds_toArray, List.set_cons_zero, List.set_cons_succ])
  refine' wpAnyH_take (i := 7) (oi := _) (v := _) ?hit7 ?hst7 ?hft7 ?hrt7 ?hQt7 ?hyt7 ?hSt7 ?_
  case hit7 => (simp only [List.getElem?_toArray, List.getElem?_cons_succ, List.getElem?_cons_zero]; rfl)
  case hst7 => kernel_rfl
  case hft7 => kernel_rfl
  case hrt7 => kernel_rfl
  case hQt7 => exact fun _ _ _ h => h
  case hSt7 => assumption
  case hyt7 =>
    refine Or.inl ⟨by rfl, ?_⟩
    intro w hSw
    (try dsimp only at hSw)
    go_simp
    all_goals (with_reducible rfl)
  (try simp only [Act.put, List.setIfInBounds_toArray, List.set_cons_zero, List.set_cons_succ])
  refine' wpAnyH_take (i := 8) (oi := _) (v := _) ?hit8 ?hst8 ?hft8 ?hrt8 ?hQt8 ?hyt8 ?hSt8 ?_
  case hit8 => (simp only [List.getElem?_toArray, List.getElem?_cons_succ, List.getElem?_cons_zero]; rfl)
  case hst8 => kernel_rfl
  case hft8 => kernel_rfl
  case hrt8 => kernel_rfl
  case hQt8 => exact fun _ _ _ h => h
  case hSt8 => assumption
  case hyt8 =>
    refine Or.inl ⟨by rfl, ?_⟩
    intro w hSw
    (try dsimp only at hSw)
    go_simp
    all_goals (with_reducible rfl)
  (try simp only [Act.put, List.setIfInBounds_toArray, List.set_cons_zero, List.set_cons_succ])
  refine' wpAnyH_take (i := 9) (oi := _) (v := _) ?hit9 ?hst9 ?hft9 ?hrt9 ?hQt9 ?hyt9 ?hSt9 ?_
  case hit9 => (simp only [List.getElem?_toArray, List.getElem?_cons_succ, List.getElem?_cons_zero]; rfl)
  case hst9 => kernel_rfl
  case hft9 => kernel_rfl
  case hrt9 => kernel_rfl
  case hQt9 => exact fun _ _ _ h => h
  case hSt9 => assumption
  case hyt9 =>
    refine Or.inl ⟨by rfl, ?_⟩
    intro w hSw
    (try dsimp only at hSw)
    go_simp
    all_goals (with_reducible rfl)
  (try simp only [Act.put, List.setIfInBounds_toArray, List.set_cons_zero, List.set_cons_succ])
  refine wpAnyH_ready (rs := [10]) (by kernel_rfl) (by simp) ?_
  refine' AllReadyH.cons (o := _) ?hir10 (fun K hK => ?_) AllReadyH.nil
  case hir10 => (simp only [List.getElem?_toArray, List.getElem?_cons_succ, List.getElem?_cons_zero]; rfl)
  go_simp
  refine (C4'.out _ hb7).mono ?_
  rintro e w8 ⟨Af, cf, rfl, hcf, hrf, hb8⟩
  have hb8 := hb7.trans (hb8.mono hb7.size)
  have kf := run_back hrf (c := cf)
  clear hrf hcf
  go_wp2_with fail
  refine hK.out _ _ ?_ (fun hHeld => ?_)
  · exact HK.out _ hb8
  clear hK K
  (try simp only [Act.put, List.setIfInBounds_toArray, List.set_cons_zero, List.set_cons_succ])
  refine wpAnyH_ready (rs := [11]) (by kernel_rfl) (by simp) ?_
  refine' AllReadyH.cons (o := _) ?hir11 (fun K hK => ?_) AllReadyH.nil
  case hir11 => (simp only [List.getElem?_toArray, List.getElem?_cons_succ, List.getElem?_cons_zero]; rfl)
  go_simp
  refine hK.out _ _ ?_ (fun hHeld => ?_)
  · exact HK.out _ hb8
  clear hK K
  (try simp only [Act.put, List.setIfInBounds_toArray, List.set_cons_zero, List.set_cons_succ])
  clear kf
  refine' wpAnyH_take (i := 12) (oi := _) (v := _) ?hit12 ?hst12 ?hft12 ?hrt12 ?hQt12 ?hyt12 ?hSt12 ?_
  case hit12 => (simp only [List.getElem?_toArray, List.getElem?_cons_succ, List.getElem?_cons_zero]; rfl)
  case hst12 => kernel_rfl
  case hft12 => kernel_rfl
  case hrt12 => kernel_rfl
  case hQt12 => exact fun _ _ _ h => h
  case hSt12 => assumption
  case hyt12 =>
    refine Or.inl ⟨by rfl, ?_⟩
    intro w hSw
    (try dsimp only at hSw)
    go_simp
    all_goals (with_reducible rfl)
  (try simp only [Act.put, List.setIfInBounds_toArray, List.set_cons_zero, List.set_cons_succ])
  refine' wpAnyH_take (i := 13) (oi := _) (v := _) ?hit13 ?hst13 ?hft13 ?hrt13 ?hQt13 ?hyt13 ?hSt13 ?_
  case hit13 => (simp only [List.getElem?_toArray, List.getElem?_cons_succ, List.getElem?_cons_zero]; rfl)
  case hst13 => kernel_rfl
  case hft13 => kernel_rfl
  case hrt13 => kernel_rfl
  case hQt13 => exact fun _ _ _ h => h
  case hSt13 => assumption
  case hyt13 =>
    refine Or.inl ⟨by rfl, ?_⟩
    intro w hSw
    (try dsimp only at hSw)
    go_simp
    all_goals (with_reducible rfl)
  (try simp only [Act.put, List.setIfInBounds_toArray, List.set_cons_zero, List.set_cons_succ])
  refine' wpAnyH_take (i := 14) (oi := _) (v := _) ?hit14 ?hst14 ?hft14 ?hrt14 ?hQt14 ?hyt14 ?hSt14 ?_
  case hit14 => (simp only [List.getElem?_toArray, List.getElem?_cons_succ, List.getElem?_cons_zero]; rfl)
  case hst14 => kernel_rfl
  case hft14 => kernel_rfl
  case hrt14 => kernel_rfl
  case hQt14 => exact fun _ _ _ h => h
  case hSt14 => assumption
  case hyt14 =>
    refine Or.inl ⟨by rfl, ?_⟩
    intro w hSw
    (try dsimp only at hSw)
    go_simp
    all_goals (with_reducible rfl)
  (try simp only [Act.put, List.setIfInBounds_toArray, List.set_cons_zero, List.set_cons_succ])
  refine' wpAnyH_take (i := 15) (oi := _) (v := _) ?hit15 ?hst15 ?hft15 ?hrt15 ?hQt15 ?hyt15 ?hSt15 ?_
  case hit15 => (simp only [List.getElem?_toArray, List.getElem?_cons_succ, List.getElem?_cons_zero]; rfl)
  case hst15 => kernel_rfl
  case hft15 => kernel_rfl
  case hrt15 => kernel_rfl
  case hQt15 => exact fun _ _ _ h => h
  case hSt15 => assumption
  case hyt15 =>
    refine Or.inl ⟨by rfl, ?_⟩
    intro w hSw
    (try dsimp only at hSw)
    go_simp
    all_goals (with_reducible rfl)
  (try simp only [Act.put, List.setIfInBounds_toArray, List.set_cons_zero, List.set_cons_succ])
  refine' wpAnyH_take (i := 16) (oi := _) (v := _) ?hit16 ?hst16 ?hft16 ?hrt16 ?hQt16 ?hyt16 ?hSt16 ?_
  case hit16 => (simp only [List.getElem?_toArray, List.getElem?_cons_succ, List.getElem?_cons_zero]; rfl)
  case hst16 => kernel_rfl
  case hft16 => kernel_rfl
  case hrt16 => kernel_rfl
  case hQt16 => exact fun _ _ _ h => h
  case hSt16 => assumption
  case hyt16 =>
    refine Or.inl ⟨by rfl, ?_⟩
    intro w hSw
    (try dsimp only at hSw)
    go_simp
    all_goals (with_reducible rfl)
  (try simp only [Act.put, List.setIfInBounds_toArray, List.set_cons_zero, List.set_cons_succ])
  refine wpAnyH_ready (rs := [17]) (by kernel_rfl) (by simp) ?_
  refine' AllReadyH.cons (o := _) ?hir17 (fun K hK => ?_) AllReadyH.nil
  case hir17 => (simp only [List.getElem?_toArray, List.getElem?_cons_succ, List.getElem?_cons_zero]; rfl)
  go_simp
  refine (C6.out _ hb8).mono ?_
  rintro e w9 ⟨rfl, hb9⟩
  rw [hst.out]
  have hb9 := hb8.trans (hb9.mono hb8.size)
  go_wp2_with fail
  refine hK.out _ _ ?_ (fun hHeld => ?_)
  · exact HK.out _ hb9
  clear hK K
  (try simp only [Act.put, List.setIfInBounds_toArray, List.set_cons_zero, List.set_cons_succ])
  refine' wpAnyH_take (i := 18) (oi := _) (v := _) ?hit18 ?hst18 ?hft18 ?hrt18 ?hQt18 ?hyt18 ?hSt18 ?_
  case hit18 => (simp only [List.getElem?_toArray, List.getElem?_cons_succ, List.getElem?_cons_zero]; rfl)
  case hst18 => kernel_rfl
  case hft18 => kernel_rfl
  case hrt18 => kernel_rfl
  case hQt18 => exact fun _ _ _ h => h
  case hSt18 => assumption
  case hyt18 =>
    refine Or.inl ⟨by rfl, ?_⟩
    intro w hSw
    (try dsimp only at hSw)
    go_simp
    all_goals (with_reducible rfl)
  (try simp only [Act.put, List.setIfInBounds_toArray, List.set_cons_zero, List.set_cons_succ])
  refine' wpAnyH_take (i := 19) (oi := _) (v := _) ?hit19 ?hst19 ?hft19 ?hrt19 ?hQt19 ?hyt19 ?hSt19 ?_
  case hit19 => (simp only [List.getElem?_toArray, List.getElem?_cons_succ, List.getElem?_cons_zero]; rfl)
  case hst19 => kernel_rfl
  case hft19 => kernel_rfl
  case hrt19 => kernel_rfl
  case hQt19 => exact fun _ _ _ h => h
  case hSt19 => assumption
  case hyt19 =>
    refine Or.inl ⟨by rfl, ?_⟩
    intro w hSw
    (try dsimp only at hSw)
    go_simp
    all_goals (with_reducible rfl)
  (try simp only [Act.put, List.setIfInBounds_toArray, List.set_cons_zero, List.set_cons_succ])
  refine' wpAnyH_take (i := 20) (oi := _) (v := _) ?hit20 ?hst20 ?hft20 ?hrt20 ?hQt20 ?hyt20 ?hSt20 ?_
  case hit20 => (simp only [List.getElem?_toArray, List.getElem?_cons_succ, List.getElem?_cons_zero]; rfl)
  case hst20 => kernel_rfl
  case hft20 => kernel_rfl
  case hrt20 => kernel_rfl
  case hQt20 => exact fun _ _ _ h => h
  case hSt20 => assumption
  case hyt20 =>
    refine Or.inl ⟨by rfl, ?_⟩
    intro w hSw
    (try dsimp only at hSw)
    go_simp
    all_goals (with_reducible rfl)
  (try simp only [Act.put, List.setIfInBounds_toArray, List.set_cons_zero, List.set_cons_succ])
  refine' wpAnyH_take (i := 21) (oi := _) (v := _) ?hit21 ?hst21 ?hft21 ?hrt21 ?hQt21 ?hyt21 ?hSt21 ?_
  case hit21 => (simp only [List.getElem?_toArray, List.getElem?_cons_succ, List.getElem?_cons_zero]; rfl)
  case hst21 => kernel_rfl
  case hft21 => kernel_rfl
  case hrt21 => kernel_rfl
  case hQt21 => exact fun _ _ _ h => h
  case hSt21 => assumption
  case hyt21 =>
    refine Or.inl ⟨by rfl, ?_⟩
    intro w hSw
    (try dsimp only at hSw)
    go_simp
    all_goals (with_reducible rfl)
  (try simp only [Act.put, List.setIfInBounds_toArray, List.set_cons_zero, List.set_cons_succ])
  refine' wpAnyH_take (i := 22) (oi := _) (v := _) ?hit22 ?hst22 ?hft22 ?hrt22 ?hQt22 ?hyt22 ?hSt22 ?_
  case hit22 => (simp only [List.getElem?_toArray, List.getElem?_cons_succ, List.getElem?_cons_zero]; rfl)
  case hst22 => kernel_rfl
  case hft22 => kernel_rfl
  case hrt22 => kernel_rfl
  case hQt22 => exact fun _ _ _ h => h
  case hSt22 => assumption
  case hyt22 =>
    refine Or.inl ⟨by rfl, ?_⟩
    intro w hSw
    (try dsimp only at hSw)
    go_simp
    all_goals (with_reducible rfl)
  (try simp only [Act.put, List.setIfInBounds_toArray, List.set_cons_zero, List.set_cons_succ])
  refine' wpAnyH_take (i := 23) (oi := _) (v := _) ?hit23 ?hst23 ?hft23 ?hrt23 ?hQt23 ?hyt23 ?hSt23 ?_
  case hit23 => (simp only [List.getElem?_toArray, List.getElem?_cons_succ, List.getElem?_cons_zero]; rfl)
  case hst23 => kernel_rfl
  case hft23 => kernel_rfl
  case hrt23 => kernel_rfl
  case hQt23 => exact fun _ _ _ h => h
  case hSt23 => assumption
  case hyt23 =>
    refine Or.inl ⟨by rfl, ?_⟩
    intro w hSw
    (try dsimp only at hSw)
    go_simp
    all_goals (with_reducible rfl)
  (try simp only [Act.put, List.setIfInBounds_toArray, List.set_cons_zero, List.set_cons_succ])
  refine' wpAnyH_take (i := 24) (oi := _) (v := _) ?hit24 ?hst24 ?hft24 ?hrt24 ?hQt24 ?hyt24 ?hSt24 ?_
  case hit24 => (simp only [List.getElem?_toArray, List.getElem?_cons_succ, List.getElem?_cons_zero]; rfl)
  case hst24 => kernel_rfl
  case hft24 => kernel_rfl
  case hrt24 => kernel_rfl
  case hQt24 => exact fun _ _ _ h => h
  case hSt24 => assumption
  case hyt24 =>
    refine Or.inl ⟨by rfl, ?_⟩
    intro w hSw
    (try dsimp only at hSw)
    go_simp
    all_goals (with_reducible rfl)
  (try simp only [Act.put, List.setIfInBounds_toArray, List.set_cons_zero, List.set_cons_succ])
  refine' wpAnyH_take (i := 25) (oi := _) (v := _) ?hit25 ?hst25 ?hft25 ?hrt25 ?hQt25 ?hyt25 ?hSt25 ?_
  case hit25 => (simp only [List.getElem?_toArray, List.getElem?_cons_succ, List.getElem?_cons_zero]; rfl)
  case hst25 => kernel_rfl
  case hft25 => kernel_rfl
  case hrt25 => kernel_rfl
  case hQt25 => exact fun _ _ _ h => h
  case hSt25 => assumption
  case hyt25 =>
    refine Or.inl ⟨by rfl, ?_⟩
    intro w hSw
    (try dsimp only at hSw)
    go_simp
    all_goals (with_reducible rfl)
  (try simp only [Act.put, List.setIfInBounds_toArray, List.set_cons_zero, List.set_cons_succ])
  refine' wpAnyH_take (i := 26) (oi := _) (v := _) ?hit26 ?hst26 ?hft26 ?hrt26 ?hQt26 ?hyt26 ?hSt26 ?_
  case hit26 => (simp only [List.getElem?_toArray, List.getElem?_cons_succ, List.getElem?_cons_zero]; rfl)
  case hst26 => kernel_rfl
  case hft26 => kernel_rfl
  case hrt26 => kernel_rfl
  case hQt26 => exact fun _ _ _ h => h
  case hSt26 => assumption
  case hyt26 =>
    refine Or.inl ⟨by rfl, ?_⟩
    intro w hSw
    (try dsimp only at hSw)
    go_simp
    all_goals (with_reducible rfl)
  (try simp only [Act.put, List.setIfInBounds_toArray, List.set_cons_zero, List.set_cons_succ])
  refine' wpAnyH_take (i := 27) (oi := _) (v := _) ?hit27 ?hst27 ?hft27 ?hrt27 ?hQt27 ?hyt27 ?hSt27 ?_
  case hit27 => (simp only [List.getElem?_toArray, List.getElem?_cons_succ, List.getElem?_cons_zero]; rfl)
  case hst27 => kernel_rfl
  case hft27 => kernel_rfl
  case hrt27 => kernel_rfl
  case hQt27 => exact fun _ _ _ h => h
  case hSt27 => assumption
  case hyt27 =>
    refine Or.inl ⟨by rfl, ?_⟩
    intro w hSw
    (try dsimp only at hSw)
    go_simp
    all_goals (with_reducible rfl)
  (try simp only [Act.put, List.setIfInBounds_toArray, List.set_cons_zero, List.set_cons_succ])
  refine wpAnyH_ready (rs := [28]) (by kernel_rfl) (by simp) ?_
  refine' AllReadyH.cons (o := _) ?hir28 (fun K hK => ?_) AllReadyH.nil
  case hir28 => (simp only [List.getElem?_toArray, List.getElem?_cons_succ, List.getElem?_cons_zero]; rfl)
  go_simp
  refine (CA'.out _ hb9).mono ?_
  rintro e w10 ⟨rfl, hb10⟩
  have hb10 := hb9.trans (hb10.mono hb9.size)
  go_wp2_with fail
  refine hK.out _ _ ?_ (fun hHeld => ?_)
  · exact HK.out _ hb10
  clear hK K
  (try simp only [Act.put, List.setIfInBounds_toArray, List.set_cons_zero, List.set_cons_succ])
  refine' wpAnyH_take (i := 29) (oi := _) (v := _) ?hit29 ?hst29 ?hft29 ?hrt29 ?hQt29 ?hyt29 ?hSt29 ?_
  case hit29 => (simp only [List.getElem?_toArray, List.getElem?_cons_succ, List.getElem?_cons_zero]; rfl)
  case hst29 => kernel_rfl
  case hft29 => kernel_rfl
  case hrt29 => kernel_rfl
  case hQt29 => exact fun _ _ _ h => h
  case hSt29 => assumption
  case hyt29 =>
    refine Or.inl ⟨by rfl, ?_⟩
    intro w hSw
    (try dsimp only at hSw)
    go_simp
    all_goals (with_reducible rfl)
  (try simp only [Act.put, List.setIfInBounds_toArray, List.set_cons_zero, List.set_cons_succ])
  refine' wpAnyH_take (i := 30) (oi := _) (v := _) ?hit30 ?hst30 ?hft30 ?hrt30 ?hQt30 ?hyt30 ?hSt30 ?_
  case hit30 => (simp only [List.getElem?_toArray, List.getElem?_cons_succ, List.getElem?_cons_zero]; rfl)
  case hst30 => kernel_rfl
  case hft30 => kernel_rfl
  case hrt30 => kernel_rfl
  case hQt30 => exact fun _ _ _ h => h
  case hSt30 => assumption
  case hyt30 =>
    refine Or.inl ⟨by rfl, ?_⟩
    intro w hSw
    (try dsimp only at hSw)
    go_simp
    all_goals (with_reducible rfl)
  (try simp only [Act.put, List.setIfInBounds_toArray, List.set_cons_zero, List.set_cons_succ])
  refine wpAnyH_done (by kernel_rfl) ?_ _
  go_wp2_with fail
  go_ret
  exact ⟨rfl, hb0.trans ((hbF.trans (hb10.mono hbF.size)).mono (by omega))⟩
end Go.Proofs.YtaenahilnnlbfaaDoor
