/-
  The walk of the law SexpLists. Conditions: the library's table of powers of ten holds what its text lays; the trees have together at most 2^39 nodes, and their forms as many bytes.
-/
import Derived.Test.YtaenahilnnlbfaaDoorAwake2
import Derived.Test.YtaenahilnnlbfaaDoorDeep
set_option linter.unusedVariables false
namespace Go.Proofs.YtaenahilnnlbfaaDoor
open Go Go.Proofs Go.RowKit Sx

theorem Kids.at_ {w : World} {S : Nat → Prop} {A : Option Addr} {n : Nat} {xs : List Value} {ks : List SX} (hr : RIn w S 5 A n xs) (hk : ks.length = n) (hs : Kids w S ks xs) {k : Nat} (hlt : k < n) :
    ∃ ad v0 v1 v2 v3 v4 t, A = some ad ∧ S ad.block ∧ ks[k]? = some t ∧ t ∈ ks ∧ SIn w S t [v0, v1, v2, v3, v4] ∧
      w.cell? (ad.add (k * 5)) = some v0 ∧ w.cell? ⟨(ad.add (k * 5)).block, (ad.add (k * 5)).off + 1, none⟩ = some v1 ∧ w.cell? ⟨(ad.add (k * 5)).block, (ad.add (k * 5)).off + 2, none⟩ = some v2 ∧
      w.cell? ⟨(ad.add (k * 5)).block, (ad.add (k * 5)).off + 3, none⟩ = some v3 ∧ w.cell? ⟨(ad.add (k * 5)).block, (ad.add (k * 5)).off + 4, none⟩ = some v4 := by
  obtain ⟨ad, v0, v1, v2, v3, v4, rfl, hS, hcs, d0, d1, d2, d3, d4⟩ := hr.at5 hlt
  have hkl : k < ks.length := by omega
  have := hs k ks[k] (List.getElem?_eq_getElem hkl)
  rw [hcs] at this
  exact ⟨ad, v0, v1, v2, v3, v4, ks[k], rfl, hS, List.getElem?_eq_getElem hkl, List.getElem_mem hkl, this, d0, d1, d2, d3, d4⟩
theorem cell_old {w w' : World} {p : Addr} {v : Value} (h : w.cell? p = some v) (hb : Below w.heap.size w w') : w'.cell? p = some v := (hb.cell (World.block_lt_of_cell? _ _ h)).trans h
/-- An element's cells in a later world. -/
theorem five_old {w w' : World} {ad : Addr} {v0 v1 v2 v3 v4 : Value} (hb : Below w.heap.size w w') (h : w.cell? ad = some v0 ∧ w.cell? ⟨ad.block, ad.off + 1, none⟩ = some v1 ∧ w.cell? ⟨ad.block, ad.off + 2, none⟩ = some v2 ∧ w.cell? ⟨ad.block, ad.off + 3, none⟩ = some v3 ∧ w.cell? ⟨ad.block, ad.off + 4, none⟩ = some v4) :
    w'.cell? ad = some v0 ∧ w'.cell? ⟨ad.block, ad.off + 1, none⟩ = some v1 ∧ w'.cell? ⟨ad.block, ad.off + 2, none⟩ = some v2 ∧ w'.cell? ⟨ad.block, ad.off + 3, none⟩ = some v3 ∧ w'.cell? ⟨ad.block, ad.off + 4, none⟩ = some v4 :=
  ⟨cell_old h.1 hb, cell_old h.2.1 hb, cell_old h.2.2.1 hb, cell_old h.2.2.2.1 hb, cell_old h.2.2.2.2 hb⟩
theorem nodesL_take_le (l : List SX) (k : Nat) (x : SX) (h : l[k]? = some x) : nodesL (l.take k) + nodes x ≤ nodesL l := by
  have e := nodesL_append (l.take (k + 1)) (l.drop (k + 1))
  rw [List.take_append_drop, nodesL_take l k x h] at e
  omega

set_option maxHeartbeats 4000000 in
set_option maxRecDepth 100000 in
theorem lists_walk (A : Option Addr) (n c : Nat) (ks : List SX) (xs : List Value) (S : Nat → Prop) (w : World) (hr : RIn w S 5 A n xs) (hc : n ≤ c) (hn80 : n * 80 ≤ 140737488355328) (hk : ks.length = n) (hs : Kids w S ks xs) (ht : Tab w)
    (hn : nodesL ks ≤ 549755813888) (hf : (formL ks).length ≤ 549755813888) :
    Calls Tryd.prog 8 #[.slice A n c] w fun e w' => e = .returned (.bool true) ∧ Below w.heap.size w w' := by
  have CA := Lib.hid (fun W (hb : Below w.heap.size w W) => awake_any W (ht.old hb))
  by_cases h20 : 20 < n
  · go_enter Tryd.func8, Tryd.ntmps8
    go_wp2_with ((with_reducible refine (CA.out _ (Below.refl _ _)).mono ?_); rintro e wA ⟨rfl, hbA⟩)
    go_ret
    exact ⟨rfl, hbA⟩
  · have HR := Lib.hid (fun W (hb : Below w.heap.size w W) => hr.old (w' := W) (by omega) hb)
    have HS := Lib.hid (fun W (hb : Below w.heap.size w W) i t h => (hs i t h).old (w' := W) hb)
    have HT := Lib.hid (fun W (hb : Below w.heap.size w W) => ht.old hb)
    have HK := Lib.hid hk
    clear hr hs ht hk
    go_enter Tryd.func8, Tryd.ntmps8
    go_wp2_with fail
    go_loopw [3, 4] (fun v i wr => ∃ k : Nat, k ≤ n ∧ i = .int .i64 k ∧ v = .string ⟨(40 :: formL (ks.take k)).toArray⟩ ∧ Below w.heap.size w wr) (fun _ i _ => n - (intOf i).toNat)
    case atStart => exact ⟨0, Nat.zero_le _, rfl, rfl, Below.refl _ _⟩
    case round =>
      obtain ⟨k, hkn, rfl, rfl, hbel⟩ := hrel
      by_cases hlt : k < n
      · obtain ⟨ad, v0, v1, v2, v3, v4, t, rfl, hS, hks, hm, hin, d0, d1, d2, d3, d4⟩ := Kids.at_ (HR.out _ hbel) HK.out (HS.out _ hbel) hlt
        have hdk := formL_take_le ks k t hks
        have hdn := nodesL_take_le ks k t hks
        have HKS := Lib.hid hks
        have HIN := Lib.hid (fun W (hb : Below wr.heap.size wr W) => hin.old (w' := W) hb)
        have C1 := Lib.hid (great_any t _ S _ 0 hin (by omega) (by omega))
        have C2 := Lib.hid (fun W hb => refMay_any t W S _ (HIN.out W hb) (by omega) (by omega))
        have C3 := Lib.hid (fun W hb => put_any t W S _ (HIN.out W hb) (HT.out W (hbel.trans (hb.mono hbel.size))))
        have H5 := Lib.hid (And.intro d0 (And.intro d1 (And.intro d2 (And.intro d3 d4))))
        clear hks hm hin
        go_wp2_with fail
        refine C1.out.mono ?_
        rintro e w1 ⟨b, rfl, hb1⟩
        have hw1 := hbel.trans (hb1.mono hbel.size)
        cases b with
        | true =>
          go_wp2_with ((with_reducible refine (CA.out _ hw1).mono ?_); rintro e wA ⟨rfl, hbA⟩)
          go_ret
          exact ⟨rfl, hw1.trans (hbA.mono hw1.size)⟩
        | false =>
        clear d0 d1 d2 d3 d4
        obtain ⟨d0, d1, d2, d3, d4⟩ := five_old hb1 H5.out
        go_wp2_with fail
        refine (C2.out _ hb1).mono ?_
        rintro e w2 ⟨rfl, hb2⟩
        have hb2 := hb1.trans (hb2.mono hb1.size)
        have hw2 := hbel.trans (hb2.mono hbel.size)
        cases hmt : may t with
        | false =>
          clear hmt
          go_wp2_with ((with_reducible refine (CA.out _ hw2).mono ?_); rintro e wA ⟨rfl, hbA⟩)
          go_ret
          exact ⟨rfl, hw2.trans (hbA.mono hw2.size)⟩
        | true =>
        have HM := Lib.hid hmt
        clear hmt d0 d1 d2 d3 d4
        obtain ⟨d0, d1, d2, d3, d4⟩ := five_old hb2 H5.out
        go_wp2_with fail
        refine (C3.out _ hb2).mono ?_
        intro e w3 hE
        obtain ⟨_, A', c', rfl, hc', hr', hb3⟩ := hE.elim id (fun h => by have := HM.out; rw [h.1] at this; cases this)
        have hb3 := hb2.trans (hb3.mono hb2.size)
        have hw3 := hbel.trans (hb3.mono hbel.size)
        have kc := run_back hr' (c := c')
        have hcat := Lib.hid (cat_mk (40 :: formL (ks.take k)) (form t))
        have hft := Lib.hid (formL_take ks k t HKS.out)
        clear hr' hc' d0 d1 d2 d3 d4
        go_wp2_with fail
        refine ⟨⟨k + 1, by omega, by go_num, ?_, hw3⟩, by simp [intOf]; omega⟩
        rw [hft.out]
        exact congrArg Value.string (hcat.out.trans (by simp))
      · obtain rfl : k = n := by omega
        have hall : Hid (ks.take k = ks) := List.take_of_length_le (by rw [HK.out]; exact Nat.le_refl _)
        rw [hall.out]
        have C4 := Lib.hid (list_any ks A k c xs S wr (HR.out _ hbel) HK.out (HS.out _ hbel) hn80)
        have hcat := Lib.hid (cat_mk (40 :: formL ks) [41])
        go_wp2_with fail
        rw [hcat.out]
        refine C4.out.mono ?_
        rintro e w1 ⟨x0, x1, x2, x3, x4, rfl, hin1, hb1⟩
        obtain ⟨l', h', hi', da', ks', B1, m1, j1, B2, m2, j2, B3, m3, j3, _, eE⟩ := hin1.form_
        injection eE with eE0 eE; injection eE with eE1 eE; injection eE with eE2 eE; injection eE with eE3 eE; injection eE with eE4 eE
        subst eE0 eE1 eE2 eE3 eE4
        have hw1 := hbel.trans (hb1.mono hbel.size)
        have hbx := below_new w1 (.cells #[Value.bool l', Value.bool h', Value.slice B1 m1 j1, Value.slice B2 m2 j2, Value.slice B3 m3 j3] 25)
        have hw2 := hw1.trans (hbx.mono hw1.size)
        have HX := Lib.hid (heap_alloc_new w1 (.cells #[Value.bool l', Value.bool h', Value.slice B1 m1 j1, Value.slice B2 m2 j2, Value.slice B3 m3 j3] 25))
        have hinx := hin1.old hbx
        have eN : nodes (.mk true false [] [] ks) = 1 + nodesL ks := by rw [nodes]
        have eF : form (.mk true false [] [] ks) = 40 :: (formL ks ++ [41]) := by rw [form]; rfl
        have eFl : (form (.mk true false [] [] ks)).length = (formL ks).length + 2 := by rw [eF]; simp
        have C5 := Lib.hid (put_any _ _ _ _ hinx (HT.out _ hw2))
        have C6 := Lib.hid (fun W hb => refMay_any _ W _ _ (hinx.old (w' := W) hb) (by omega) (by omega))
        have HEF := Lib.hid eF
        have hgs : (w1.alloc (.cells #[Value.bool l', Value.bool h', Value.slice B1 m1 j1, Value.slice B2 m2 j2, Value.slice B3 m3 j3] 25)).heap.size = w1.heap.size + 1 := by simp
        clear hin1 hinx eN eF eFl
        go_wp2_with fail
        refine C5.out.mono ?_
        intro e w3 hE
        cases hmt : may (.mk true false [] [] ks) with
        | false =>
          have HM := Lib.hid hmt
          obtain ⟨_, rfl, hb3⟩ := hE.elim (fun h => by have := h.1; rw [hmt] at this; cases this) id
          clear hmt
          have hw3 := hw2.trans (hb3.mono hw2.size)
          obtain ⟨d0, d1, d2, d3, d4⟩ := box5b (below_at hb3 HX.out)
          go_wp2_with (first
            | ((with_reducible refine (C6.out _ hb3).mono ?_); rintro e w4 ⟨rfl, hb4⟩; rw [HM.out]; have hw4 := hw3.trans (hb4.mono hw3.size))
            | ((with_reducible refine (CA.out _ hw4).mono ?_); rintro e wA ⟨rfl, hbA⟩))
          go_ret
          exact ⟨rfl, hw4.trans (hbA.mono hw4.size)⟩
        | true =>
          have HM := Lib.hid hmt
          obtain ⟨_, A', c', rfl, hc', hr', hb3⟩ := hE.elim id (fun h => by have := h.1; rw [hmt] at this; cases this)
          clear hmt
          have hw3 := hw2.trans (hb3.mono hw2.size)
          obtain ⟨d0, d1, d2, d3, d4⟩ := box5b (below_at hb3 HX.out)
          rw [HEF.out] at hr' ⊢
          have HRR := Lib.hid hr'
          clear hr' hc' HEF
          generalize 40 :: (formL ks ++ [41]) = F at *
          go_wp2_with (first
            | ((with_reducible refine (C6.out _ hb3).mono ?_); rintro e w4 ⟨rfl, hb4⟩; rw [HM.out]; have hw4 := hw3.trans (hb4.mono hw3.size); have k4 := run_back (HRR.out.below hb4) (c := c'))
            | ((with_reducible refine (CA.out _ hw4).mono ?_); rintro e wA ⟨rfl, hbA⟩))
          go_ret
          exact ⟨rfl, hw4.trans (hbA.mono hw4.size)⟩
end Go.Proofs.YtaenahilnnlbfaaDoor
