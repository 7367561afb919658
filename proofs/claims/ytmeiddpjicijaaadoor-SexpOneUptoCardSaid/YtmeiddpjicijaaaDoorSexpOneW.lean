/-
  The walk of the law SexpOne. Conditions: the library's table of powers of ten holds what its text lays; the trees have at most 2^40 nodes, and their forms as many bytes.
-/
import Derived.Test.YtmeiddpjicijaaaDoorAwake2
import Derived.Test.YtmeiddpjicijaaaDoorRefSame
import Derived.Test.YtmeiddpjicijaaaDoorParse2
import Derived.Deep.RegionHeld3
set_option linter.unusedVariables false
namespace Go.Proofs.YtmeiddpjicijaaaDoor
open Go Go.Proofs Go.RowKit Sx

set_option maxHeartbeats 4000000 in
set_option maxRecDepth 100000 in
theorem one_walk (t t' : SX) (w : World) (S S' : Nat → Prop) (cs cs' : List Value) (hs : SIn w S t cs) (hs' : SIn w S' t' cs') (ht : Tab w)
    (hn : nodes t ≤ 1099511627776) (hn' : nodes t' ≤ 1099511627776) (hf : (form t).length ≤ 1099511627776) (hf' : (form t').length ≤ 1099511627776) :
    Calls Tryd.prog 6 #[.agg cs.toArray, .agg cs'.toArray] w fun e w' => e = .returned (.bool true) ∧ Below w.heap.size w w' := by
  obtain ⟨l, h, hi, da, ks, A1, n1, c1, A2, n2, c2, A3, n3, c3, eT, rfl⟩ := hs.form_
  obtain ⟨l', h', hi', da', ks', A1', n1', c1', A2', n2', c2', A3', n3', c3', eT', rfl⟩ := hs'.form_
  have hb0 := (below_new w (.cells #[Value.bool l, Value.bool h, Value.slice A1 n1 c1, Value.slice A2 n2 c2, Value.slice A3 n3 c3] 25)).trans ((below_new (w.alloc (.cells #[Value.bool l, Value.bool h, Value.slice A1 n1 c1, Value.slice A2 n2 c2, Value.slice A3 n3 c3] 25)) (.cells #[Value.bool l', Value.bool h', Value.slice A1' n1' c1', Value.slice A2' n2' c2', Value.slice A3' n3' c3'] 25)).mono (by simp))
  have hX1 : ((w.alloc (.cells #[Value.bool l, Value.bool h, Value.slice A1 n1 c1, Value.slice A2 n2 c2, Value.slice A3 n3 c3] 25)).alloc (.cells #[Value.bool l', Value.bool h', Value.slice A1' n1' c1', Value.slice A2' n2' c2', Value.slice A3' n3' c3'] 25)).heap[w.heap.size]? = some (Obj.cells #[Value.bool l, Value.bool h, Value.slice A1 n1 c1, Value.slice A2 n2 c2, Value.slice A3 n3 c3] 25 (0, 0)) := below_at (below_new _ _) (heap_alloc_new w _)
  have hX2 : ((w.alloc (.cells #[Value.bool l, Value.bool h, Value.slice A1 n1 c1, Value.slice A2 n2 c2, Value.slice A3 n3 c3] 25)).alloc (.cells #[Value.bool l', Value.bool h', Value.slice A1' n1' c1', Value.slice A2' n2' c2', Value.slice A3' n3' c3'] 25)).heap[w.heap.size + 1]? = some (Obj.cells #[Value.bool l', Value.bool h', Value.slice A1' n1' c1', Value.slice A2' n2' c2', Value.slice A3' n3' c3'] 25 (0, 0)) := by
    have := heap_alloc_new (w.alloc (.cells #[Value.bool l, Value.bool h, Value.slice A1 n1 c1, Value.slice A2 n2 c2, Value.slice A3 n3 c3] 25)) (.cells #[Value.bool l', Value.bool h', Value.slice A1' n1' c1', Value.slice A2' n2' c2', Value.slice A3' n3' c3'] 25)
    have e : (w.alloc (.cells #[Value.bool l, Value.bool h, Value.slice A1 n1 c1, Value.slice A2 n2 c2, Value.slice A3 n3 c3] 25)).heap.size = w.heap.size + 1 := by simp
    rw [e] at this
    exact this
  have hs0 := hs.old hb0
  have hs0' := hs'.old hb0
  have ht0 := ht.old hb0
  have HX1 := Lib.hid hX1
  have HX2 := Lib.hid hX2
  have HS := Lib.hid (fun W hb => hs0.old (w' := W) hb)
  have HS' := Lib.hid (fun W hb => hs0'.old (w' := W) hb)
  have HT := Lib.hid (fun W hb => ht0.old (w' := W) hb)
  have C1 := Lib.hid (great_any t _ S _ 0 hs0 (by omega) (by omega))
  have C2 := Lib.hid (fun W hb => great_any t' W S' _ 0 (HS'.out W hb) (by omega) (by omega))
  have C3 := Lib.hid (fun W hb => refMay_any t W S _ (HS.out W hb) hn hf)
  have C4 := Lib.hid (fun W hb => refMay_any t' W S' _ (HS'.out W hb) hn' hf')
  have CA := Lib.hid (fun W hb => awake_any W (HT.out W hb))
  have hsz0 : ((w.alloc (.cells #[Value.bool l, Value.bool h, Value.slice A1 n1 c1, Value.slice A2 n2 c2, Value.slice A3 n3 c3] 25)).alloc (.cells #[Value.bool l', Value.bool h', Value.slice A1' n1' c1', Value.slice A2' n2' c2', Value.slice A3' n3' c3'] 25)).heap.size = w.heap.size + 2 := by simp
  clear hs hs' ht hX1 hX2 hs0 hs0' ht0 eT eT'
  go_enter Tryd.func6, Tryd.ntmps6
  go_wp2_with fail
  generalize ((w.alloc (.cells #[Value.bool l, Value.bool h, Value.slice A1 n1 c1, Value.slice A2 n2 c2, Value.slice A3 n3 c3] 25)).alloc (.cells #[Value.bool l', Value.bool h', Value.slice A1' n1' c1', Value.slice A2' n2' c2', Value.slice A3' n3' c3'] 25)) = W at *
  refine C1.out.mono ?_
  rintro e w1 ⟨b, rfl, hb1⟩
  cases b with
  | true =>
    go_wp2_with ((with_reducible refine (CA.out _ hb1).mono ?_); rintro e wA ⟨rfl, hbA⟩)
    go_ret
    exact ⟨rfl, hb0.trans ((hb1.trans (hbA.mono hb1.size)).mono (by omega))⟩
  | false =>
  obtain ⟨e0, e1, e2, e3, e4⟩ := box5b (below_at hb1 HX1.out)
  obtain ⟨e0', e1', e2', e3', e4'⟩ := box5b (below_at hb1 HX2.out)
  go_wp2_with fail
  refine (C2.out _ hb1).mono ?_
  rintro e w2 ⟨b, rfl, hb2⟩
  have hb2 := hb1.trans (hb2.mono hb1.size)
  clear e0 e1 e2 e3 e4 e0' e1' e2' e3' e4'
  cases b with
  | true =>
    go_wp2_with ((with_reducible refine (CA.out _ hb2).mono ?_); rintro e wA ⟨rfl, hbA⟩)
    go_ret
    exact ⟨rfl, hb0.trans ((hb2.trans (hbA.mono hb2.size)).mono (by omega))⟩
  | false =>
  obtain ⟨e0, e1, e2, e3, e4⟩ := box5b (below_at hb2 HX1.out)
  obtain ⟨e0', e1', e2', e3', e4'⟩ := box5b (below_at hb2 HX2.out)
  go_wp2_with fail
  refine (C3.out _ hb2).mono ?_
  rintro e w3 ⟨rfl, hb3⟩
  have hb3 := hb2.trans (hb3.mono hb2.size)
  clear e0 e1 e2 e3 e4 e0' e1' e2' e3' e4'
  cases hm : may t with
  | false =>
    clear hm
    go_wp2_with ((with_reducible refine (CA.out _ hb3).mono ?_); rintro e wA ⟨rfl, hbA⟩)
    go_ret
    exact ⟨rfl, hb0.trans ((hb3.trans (hbA.mono hb3.size)).mono (by omega))⟩
  | true =>
  have HM := Lib.hid hm
  clear hm
  obtain ⟨e0, e1, e2, e3, e4⟩ := box5b (below_at hb3 HX1.out)
  obtain ⟨e0', e1', e2', e3', e4'⟩ := box5b (below_at hb3 HX2.out)
  go_wp2_with fail
  refine (C4.out _ hb3).mono ?_
  rintro e w4 ⟨rfl, hb4⟩
  have hb4 := hb3.trans (hb4.mono hb3.size)
  clear e0 e1 e2 e3 e4 e0' e1' e2' e3' e4'
  cases hm : may t' with
  | false =>
    clear hm
    go_wp2_with ((with_reducible refine (CA.out _ hb4).mono ?_); rintro e wA ⟨rfl, hbA⟩)
    go_ret
    exact ⟨rfl, hb0.trans ((hb4.trans (hbA.mono hb4.size)).mono (by omega))⟩
  | true =>
  have HM' := Lib.hid hm
  clear hm
  obtain ⟨e0, e1, e2, e3, e4⟩ := box5b (below_at hb4 HX1.out)
  go_wp2_with fail
  refine (put_any t w4 S _ (HS.out _ hb4) (HT.out _ hb4)).mono ?_
  intro e w5 hE
  obtain ⟨_, A, c, rfl, hc, hr, hb5⟩ := hE.elim id (fun h => by have := HM.out; rw [h.1] at this; cases this)
  have hb5' := hb4.trans (hb5.mono hb4.size)
  clear e0 e1 e2 e3 e4
  obtain ⟨e0', e1', e2', e3', e4'⟩ := box5b (below_at hb5' HX2.out)
  go_wp2_with fail
  refine (put_any t' w5 S' _ (HS'.out _ hb5') (HT.out _ hb5')).mono ?_
  intro e w6 hE
  obtain ⟨_, A', c', rfl, hc', hr', hb6⟩ := hE.elim id (fun h => by have := HM'.out; rw [h.1] at this; cases this)
  have hb6' := hb5'.trans (hb6.mono hb5'.size)
  have hrr := hr.below hb6
  clear e0' e1' e2' e3' e4'
  obtain ⟨e0, e1, e2, e3, e4⟩ := box5b (below_at hb6' HX1.out)
  obtain ⟨e0', e1', e2', e3', e4'⟩ := box5b (below_at hb6' HX2.out)
  clear e0 e1 e2 e3 e4 e0' e1' e2' e3' e4'
  have HR := Lib.hid (fun W' (hb : Below w6.heap.size w6 W') => run_back ((hrr.more hb6.size).below hb) (c := c))
  have HR' := Lib.hid (fun W' (hb : Below w6.heap.size w6 W') => run_back (hr'.below hb) (c := c'))
  have HBX := Lib.hid (fun W' (hb : Below w6.heap.size w6 W') => box5b (below_at hb (below_at hb6' HX1.out)))
  have HBX' := Lib.hid (fun W' (hb : Below w6.heap.size w6 W') => box5b (below_at hb (below_at hb6' HX2.out)))
  have HSS : ∀ W' (hb : Below w6.heap.size w6 W'), (convert 22 9 (.slice A (form t).length c)).run Tryd.prog W' = .ok (.string ⟨(form t).toArray⟩) W' ∧ (convert 22 9 (.slice A' (form t').length c')).run Tryd.prog W' = .ok (.string ⟨(form t').toArray⟩) W' ∧ W'.cell? ⟨w.heap.size, 0, none⟩ = some (Value.bool l) ∧ W'.cell? ⟨w.heap.size, 1, none⟩ = some (Value.bool h) ∧ W'.cell? ⟨w.heap.size, 2, none⟩ = some (Value.slice A1 n1 c1) ∧ W'.cell? ⟨w.heap.size, 3, none⟩ = some (Value.slice A2 n2 c2) ∧ W'.cell? ⟨w.heap.size, 4, none⟩ = some (Value.slice A3 n3 c3) ∧ W'.cell? ⟨w.heap.size + 1, 0, none⟩ = some (Value.bool l') ∧ W'.cell? ⟨w.heap.size + 1, 1, none⟩ = some (Value.bool h') ∧ W'.cell? ⟨w.heap.size + 1, 2, none⟩ = some (Value.slice A1' n1' c1') ∧ W'.cell? ⟨w.heap.size + 1, 3, none⟩ = some (Value.slice A2' n2' c2') ∧ W'.cell? ⟨w.heap.size + 1, 4, none⟩ = some (Value.slice A3' n3' c3') := fun W' hb =>
    ⟨HR.out W' hb, HR'.out W' hb, (HBX.out W' hb).1, (HBX.out W' hb).2.1, (HBX.out W' hb).2.2.1, (HBX.out W' hb).2.2.2.1, (HBX.out W' hb).2.2.2.2, HBX'.out W' hb⟩
  have HK := Lib.hid HSS
  have hbd : Below w6.heap.size w6 w6.drew := (Below.refl _ _).drew
  have C5 := Lib.hid (refSame_any t t' w6.drew S S' _ _ (HS.out _ (hb6'.trans (hbd.mono hb6'.size))) (HS'.out _ (hb6'.trans (hbd.mono hb6'.size))))
  clear HSS hrr hr' hr
  by_cases hq : t = t'
  · subst hq
    have hsm : same t t = true := same_refl t
    rw [hsm] at C5
    clear hsm
    generalize form t = ft at *
    go_wp2_with fail
    go_region_held3 (fun w' => (convert 22 9 (.slice A ft.length c)).run Tryd.prog w' = .ok (.string ⟨ft.toArray⟩) w' ∧ (convert 22 9 (.slice A' ft.length c')).run Tryd.prog w' = .ok (.string ⟨ft.toArray⟩) w' ∧ w'.cell? ⟨w.heap.size, 0, none⟩ = some (Value.bool l) ∧ w'.cell? ⟨w.heap.size, 1, none⟩ = some (Value.bool h) ∧ w'.cell? ⟨w.heap.size, 2, none⟩ = some (Value.slice A1 n1 c1) ∧ w'.cell? ⟨w.heap.size, 3, none⟩ = some (Value.slice A2 n2 c2) ∧ w'.cell? ⟨w.heap.size, 4, none⟩ = some (Value.slice A3 n3 c3) ∧ w'.cell? ⟨w.heap.size + 1, 0, none⟩ = some (Value.bool l') ∧ w'.cell? ⟨w.heap.size + 1, 1, none⟩ = some (Value.bool h') ∧ w'.cell? ⟨w.heap.size + 1, 2, none⟩ = some (Value.slice A1' n1' c1') ∧ w'.cell? ⟨w.heap.size + 1, 3, none⟩ = some (Value.slice A2' n2' c2') ∧ w'.cell? ⟨w.heap.size + 1, 4, none⟩ = some (Value.slice A3' n3' c3'))
      (first | exact HK.out _ (Below.refl _ _) | exact HK.out _ hbd | exact HK.out _ hb7 | exact HK.out _ hb8 | go_keep)
      ((first
        | ((with_reducible refine C5.out.mono ?_); rintro e w7 ⟨rfl, hb7⟩; have hb7 := hbd.trans (hb7.mono hbd.size))
        | ((with_reducible refine (CA.out _ (hb6'.trans (hb7.mono hb6'.size))).mono ?_); rintro e w8 ⟨rfl, hb8⟩; have hb8 := hb7.trans (hb8.mono hb7.size))))
    all_goals
      clear C5
      go_wp2_with fail
      go_ret
      exact ⟨rfl, hb0.trans ((hb6'.trans (hb8.mono hb6'.size)).mono (by omega))⟩
  · have hfe : ¬ form t = form t' := fun h => hq (form_inj HM.out HM'.out h)
    have hsm : same t t' = false := same_of_ne hq
    rw [hsm] at C5
    clear hsm hq
    generalize form t' = ft' at *
    generalize form t = ft at *
    go_wp2_with fail
    go_region_held3 (fun w' => (convert 22 9 (.slice A ft.length c)).run Tryd.prog w' = .ok (.string ⟨ft.toArray⟩) w' ∧ (convert 22 9 (.slice A' ft'.length c')).run Tryd.prog w' = .ok (.string ⟨ft'.toArray⟩) w' ∧ w'.cell? ⟨w.heap.size, 0, none⟩ = some (Value.bool l) ∧ w'.cell? ⟨w.heap.size, 1, none⟩ = some (Value.bool h) ∧ w'.cell? ⟨w.heap.size, 2, none⟩ = some (Value.slice A1 n1 c1) ∧ w'.cell? ⟨w.heap.size, 3, none⟩ = some (Value.slice A2 n2 c2) ∧ w'.cell? ⟨w.heap.size, 4, none⟩ = some (Value.slice A3 n3 c3) ∧ w'.cell? ⟨w.heap.size + 1, 0, none⟩ = some (Value.bool l') ∧ w'.cell? ⟨w.heap.size + 1, 1, none⟩ = some (Value.bool h') ∧ w'.cell? ⟨w.heap.size + 1, 2, none⟩ = some (Value.slice A1' n1' c1') ∧ w'.cell? ⟨w.heap.size + 1, 3, none⟩ = some (Value.slice A2' n2' c2') ∧ w'.cell? ⟨w.heap.size + 1, 4, none⟩ = some (Value.slice A3' n3' c3'))
      (first | exact HK.out _ (Below.refl _ _) | exact HK.out _ hbd | exact HK.out _ hb7 | exact HK.out _ hb8 | go_keep)
      ((first
        | ((with_reducible refine C5.out.mono ?_); rintro e w7 ⟨rfl, hb7⟩; have hb7 := hbd.trans (hb7.mono hbd.size))
        | ((with_reducible refine (CA.out _ (hb6'.trans (hb7.mono hb6'.size))).mono ?_); rintro e w8 ⟨rfl, hb8⟩; have hb8 := hb7.trans (hb8.mono hb7.size))))
    all_goals
      clear C5
      go_wp2_with fail
      go_ret
      exact ⟨by simp [hfe], hb0.trans ((hb6'.trans (hb8.mono hb6'.size)).mono (by omega))⟩
end Go.Proofs.YtmeiddpjicijaaaDoor
