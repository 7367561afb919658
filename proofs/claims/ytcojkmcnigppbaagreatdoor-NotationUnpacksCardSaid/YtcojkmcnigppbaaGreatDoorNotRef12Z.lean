/-
  The contract of the document's answer value (package greffierref03), in full: lists too. Conditions: at most 2^40 bytes.
-/
import Derived.Test.YtcojkmcnigppbaaGreatDoorNotRef11Z
set_option linter.unusedVariables false
set_option linter.unusedSimpArgs false
open Go.Lib (hid)
open Go.Proofs.YtcojkmcnigppbaaGreatDoor (zA zB zC zD zE zF)
namespace Go.Proofs.YtcojkmcnigppbaaGreatDoor
open Go Go.Proofs Go.RowKit Sx Oct
def RRel3 (w : World) (s : ByteArray) (ar f : Nat) (R : Res (List SX × Nat)) (i1 i3 : Value) (wr : World) : Prop :=
  ∃ (acc : List SX) (g : Nat) (sk : List UInt8) (ndk : Nat) (v : Value) (ys : List Value), RHas w wr 0 0 acc v ys ∧ i1 = .int .i64 (s.size - sk.length : Nat) ∧ i3 = .int .i64 ndk ∧ sk.length ≤ s.size ∧ s.data.toList.drop (s.size - sk.length) = sk ∧
    g ≤ f ∧ 2 * sk.length + 2 ≤ g ∧ R = addK acc (aKids g sk ndk ar) ∧ ndk ≤ 512 ∧ acc.length ≤ ndk
def V3Spec (f : Nat) : Prop := ∀ (s : ByteArray) (p nd ar : Nat) (w : World), s.size ≤ 1099511627776 → p ≤ s.size → nd ≤ 512 → ar ≤ 16 → 2 * (s.size - p) + 1 ≤ f →
    Calls Tryz.prog 37 #[.string s, .int .i64 p, .int .i64 ((ar : Int) + 1), .int .i64 nd] w fun e w' => RVal w 0 0 s.size e w' (aVal f (s.data.toList.drop p) nd ar)
theorem str_at {s : ByteArray} {q : Nat} {c : UInt8} {r : List UInt8} (h : s.data.toList.drop q = c :: r) : q < s.size ∧ s.data.toList.drop (q + 1) = r ∧ (∀ (hq : q < s.size), s[q] = c) ∧ r.length + 1 + q = s.size := by
  have hl := congrArg List.length h
  rw [List.length_drop, show s.data.toList.length = s.size by simp, List.length_cons] at hl
  have hlt : q < s.size := by omega
  refine ⟨hlt, by rw [← List.drop_drop, h]; rfl, fun _ => ?_, by omega⟩
  have := List.drop_eq_getElem_cons (l := s.data.toList) (i := q) (by simpa using hlt)
  rw [h] at this
  injection this with h1 h2
  exact h1.symm
set_option maxHeartbeats 4000000 in
set_option maxRecDepth 100000 in
theorem value3_list (f : Nat) (hV : ∀ g, g < f → V3Spec g) (s : ByteArray) (p nd ar : Nat) (w : World) (hs : s.size ≤ 1099511627776) (hp : p ≤ s.size) (hnd : nd < 512) (har : ar < 16)
    (x : UInt8) (hx : x = 40) (r : List UInt8) (hq : skip (s.data.toList.drop p) = x :: r) (hf : 2 * r.length + 2 ≤ f) :
    Calls Tryz.prog 37 #[.string s, .int .i64 p, .int .i64 ((ar : Int) + 1), .int .i64 nd] w fun e w' => RVal w 0 0 s.size e w' (listRes (aKids f r (nd + 1) (ar + 1))) := by
  generalize hRR : aKids f r (nd + 1) (ar + 1) = R
  have hz1 : (w.alloc (.cells #[.bool false, .bool false, .slice none 0 0, .slice none 0 0, .slice none 0 0, .int .i64 0, .int .i64 0, .int .i64 0] 55)).heap.size = w.heap.size + 1 := by simp
  have b1 := below_new w (.cells #[.bool false, .bool false, .slice none 0 0, .slice none 0 0, .slice none 0 0, .int .i64 0, .int .i64 0, .int .i64 0] 55)
  have b2 := below_new (w.alloc (.cells #[.bool false, .bool false, .slice none 0 0, .slice none 0 0, .slice none 0 0, .int .i64 0, .int .i64 0, .int .i64 0] 55)) (.cells #[.bool true, .bool false, .slice none 0 0, .slice none 0 0, .slice none 0 0] 25)
  have hb0 := b1.trans (b2.mono (by omega))
  have X1 : Box8 ((w.alloc (.cells #[.bool false, .bool false, .slice none 0 0, .slice none 0 0, .slice none 0 0, .int .i64 0, .int .i64 0, .int .i64 0] 55)).alloc (.cells #[.bool true, .bool false, .slice none 0 0, .slice none 0 0, .slice none 0 0] 25)) w.heap.size (.bool false) (.bool false) (.slice none 0 0) (.slice none 0 0) (.slice none 0 0) (.int .i64 0) (.int .i64 0) (.int .i64 0) := below_at b2 (heap_alloc_new w _)
  have X2 : Box ((w.alloc (.cells #[.bool false, .bool false, .slice none 0 0, .slice none 0 0, .slice none 0 0, .int .i64 0, .int .i64 0, .int .i64 0] 55)).alloc (.cells #[.bool true, .bool false, .slice none 0 0, .slice none 0 0, .slice none 0 0] 25)) (w.heap.size + 1) (.bool true) (.bool false) (.slice none 0 0) (.slice none 0 0) (.slice none 0 0) := by
    have := heap_alloc_new (w.alloc (.cells #[.bool false, .bool false, .slice none 0 0, .slice none 0 0, .slice none 0 0, .int .i64 0, .int .i64 0, .int .i64 0] 55)) (.cells #[.bool true, .bool false, .slice none 0 0, .slice none 0 0, .slice none 0 0] 25)
    rw [hz1] at this
    exact this
  have hz2 : ((w.alloc (.cells #[.bool false, .bool false, .slice none 0 0, .slice none 0 0, .slice none 0 0, .int .i64 0, .int .i64 0, .int .i64 0] 55)).alloc (.cells #[.bool true, .bool false, .slice none 0 0, .slice none 0 0, .slice none 0 0] 25)).heap.size = w.heap.size + 2 := by simp
  have CS := refSkip_any s p (w.alloc (.cells #[.bool false, .bool false, .slice none 0 0, .slice none 0 0, .slice none 0 0, .int .i64 0, .int .i64 0, .int .i64 0] 55)) hs hp
  rw [hq] at CS
  have hd1 := drop_tail (s := s) rfl (Tail.skip (s.data.toList.drop p))
  rw [hq] at hd1
  obtain ⟨a1, ha1⟩ : ∃ a1 : Nat, s.size - (x :: r).length = a1 := ⟨_, rfl⟩
  rw [ha1] at hd1 CS
  obtain ⟨hlt, hd2, hsx0, hrl⟩ := str_at hd1
  have hsx := hsx0 hlt
  have CT := tokSign_any x (w.alloc (.cells #[.bool false, .bool false, .slice none 0 0, .slice none 0 0, .slice none 0 0, .int .i64 0, .int .i64 0, .int .i64 0] 55))
  have hlt' : (a1 : Int) < s.size := by omega
  have hge' : ¬ (s.size : Int) ≤ a1 := by omega
  have hwa : IntKind.i64.wrap ((a1 : Int) + 1) = (a1 : Int) + 1 := IntWalk.i64_in _ (by omega)
  have hw1 : IntKind.i64.wrap ((nd : Int) + 1) = (nd : Int) + 1 := IntWalk.i64_in _ (by omega)
  have hgt : ¬ (512 : Int) < (nd : Int) + 1 := by omega
  have har2 : ¬ (16 : Int) < (ar : Int) + 1 := by omega
  have e40 : ((x.toNat : Int) == 40) = true := by rw [hx]; rfl
  have b40 : ((x.toNat : Int) != 40) = false := by rw [hx]; rfl
  have e91 : ((x.toNat : Int) == 91) = false := by rw [hx]; rfl
  have hi1 : (Value.int .i64 ((s.size - r.length : Nat) : Int)) = .int .i64 ((a1 : Int) + 1) := by congr 1; omega
  have hi3 : (Value.int .i64 ((nd + 1 : Nat) : Int)) = .int .i64 ((nd : Int) + 1) := by congr 1
  have hL0 : RHas w ((w.alloc (.cells #[.bool false, .bool false, .slice none 0 0, .slice none 0 0, .slice none 0 0, .int .i64 0, .int .i64 0, .int .i64 0] 55)).alloc (.cells #[.bool true, .bool false, .slice none 0 0, .slice none 0 0, .slice none 0 0] 25)) 0 0 [] (.slice none 0 0) [] :=
    ⟨X1, X2, ⟨rfl, .inl ⟨rfl, rfl⟩⟩, fun i t hit => by simp at hit, hb0, by omega⟩
  have hRe : Hid (R = addK [] (aKids f r (nd + 1) (ar + 1))) := by
    show _ = _
    rw [hRR]
    cases R <;> simp [addK]
  have HL0 := hid hL0
  have HD := hid (show s.data.toList.drop (s.size - r.length) = r by rw [show s.size - r.length = a1 + 1 by omega]; exact hd2)
  have HV := hid hV
  have HS := hid hs
  have HRL := hid hrl
  have CS := hid CS
  have CT := hid CT
  clear hL0 X1 X2 hb0 b1 b2 hd1 hd2 hV hRR hq ha1 hsx0 hx hs hrl
  go_enter Tryz.func37, Tryz.ntmps37
  go_wp2_with (first | ((with_reducible refine CS.out.mono ?_); rintro e w1 ⟨rfl, rfl⟩) | ((with_reducible refine CT.out.mono ?_); rintro e w1 ⟨rfl, rfl⟩))
  go_loopw [1, 3] (fun i1 i3 wr => Hid (RRel3 w s (ar + 1) f R i1 i3 wr)) (fun i1 _ _ => s.size - (intOf i1).toNat)
  case atStart => exact ⟨[], f, r, nd + 1, _, _, HL0.out, hi1.symm, hi3.symm, by have := HRL.out; omega, HD.out, Nat.le_refl _, by omega, hRe.out, by omega, Nat.zero_le _⟩
  case round =>
    obtain ⟨acc, g, sk, ndk, v, ys, hH, rfl, rfl, hskl, hsk, hgf, hg2, hRk2, hndk, haccl⟩ := hrel.out
    clear HL0 hrel hRe CS CT hsx hlt hlt' hge' hwa e40 b40 e91 HRL
    have hw := hH.2.2.2.2.1
    have hwz := hH.2.2.2.2.2
    have hw2 : IntKind.i64.wrap ((ar : Int) + 1 + 1) = (ar : Int) + 1 + 1 := IntWalk.i64_in _ (by omega)
    have HW := hid hw
    have HH := hid hH
    obtain ⟨g, rfl⟩ : ∃ g', g = g' + 1 := ⟨g - 1, by omega⟩
    have CS := refSkip_any s (s.size - sk.length) wr HS.out (by omega)
    rw [hsk] at CS
    have hdt := drop_tail (s := s) hsk (Tail.skip sk)
    have hst := (Tail.skip sk).le
    rw [aKids] at hRk2
    cases hsq : skip sk with
    | nil =>
      rw [hsq] at CS hRk2
      have hRk2 : R = .err 2 [] := hRk2
      have HRK := hid hRk2
      obtain ⟨g, rfl⟩ : ∃ g', g = g' + 1 := ⟨g - 1, by omega⟩
      have C := HV.out (g + 1) (by omega) s s.size ndk (ar + 1) wr HS.out (Nat.le_refl _) hndk (by omega) (by omega)
      rw [show ((ar + 1 : Nat) : Int) + 1 = (ar : Int) + 1 + 1 by omega, List.drop_eq_nil_of_le (by simp), aVal] at C
      have hn0 : ((s.size - ([] : List UInt8).length : Nat) : Int) = s.size := by simp
      rw [hn0] at CS
      have C := hid C
      have CS := hid CS
      clear hH hw hsk hRk2 hskl hg2 hdt hst hsq
      go_wp2_with (first | ((with_reducible refine CS.out.mono ?_); rintro e w1 ⟨rfl, rfl⟩))
      refine C.out.mono ?_
      rintro e w3 ⟨hk1, hk2, rfl, hb3⟩
      try rw [hn0]
      have X0 : Box8 (w3.alloc (.cells #[.bool false, .bool false, .slice none 0 0, .slice none 0 0, .slice none 0 0, .int .i64 0, .int .i64 0, .int .i64 0] 55)) w3.heap.size (.bool false) (.bool false) (.slice none 0 0) (.slice none 0 0) (.slice none 0 0) (.int .i64 0) (.int .i64 0) (.int .i64 0) := heap_alloc_new w3 _
      obtain ⟨⟨d0, d1, d2, d3, d4, d5, d6, d7⟩, dz⟩ := X0.all
      have dz0 := dz 0
      have dz1 := dz 1
      have dz2 := dz 2
      have dz3 := dz 3
      have dz4 := dz 4
      have dz5 := dz 5
      have dz6 := dz 6
      have dz7 := dz 7
      have hbx := below_new w3 (.cells #[.bool false, .bool false, .slice none 0 0, .slice none 0 0, .slice none 0 0, .int .i64 s.size, .int .i64 0, .int .i64 2] 55)
      have hw3 := HW.out.trans (hb3.mono HW.out.size)
      have hw4 := hw3.trans (hbx.mono hw3.size)
      obtain ⟨⟨f0, f1, f2, f3, f4, f5, f6, f7⟩, fz⟩ := ((HH.out.1.old hb3).old hbx).all
      have fz0 := fz 0
      have fz1 := fz 1
      have fz2 := fz 2
      have fz3 := fz 3
      have fz4 := fz 4
      have fz5 := fz 5
      have fz6 := fz 6
      have fz7 := fz 7
      have HF := hid (put8_below hw4 (Nat.le_refl _) (.bool false) (.bool false) (.slice none 0 0) (.slice none 0 0) (.slice none 0 0) (.int .i64 s.size) (.int .i64 0) (.int .i64 2))
      clear dz fz X0 hbx hw3 hw4 hb3
      go_wp2_with fail
      refine bodyPost_ret (v := .agg #[.bool false, .bool false, .slice none 0 0, .slice none 0 0, .slice none 0 0, .int .i64 s.size, .int .i64 0, .int .i64 2]) (by simp [results, Tryz.results37, go_sem, d0, d1, d2, d3, d4, d5, d6, d7, f0, f1, f2, f3, f4, f5, f6, f7]) rfl ?_
      rw [HRK.out]
      exact ⟨by omega, by omega, by simp, HF.out⟩
    | cons c0 r0 =>
      rw [hsq] at CS hRk2 hdt hst
      simp only at hRk2
      have hlr : (c0 :: r0).length = r0.length + 1 := by simp
      obtain ⟨q, hq⟩ : ∃ q, q = s.size - (c0 :: r0).length := ⟨_, rfl⟩
      rw [← hq] at hdt CS
      have HQ := hid hq
      obtain ⟨hql0, hdq, hsx0, hqn⟩ := str_at hdt
      have hsx := hsx0 hql0
      clear hq hsx0
      have hq0 : (0 : Int) ≤ q := by omega
      have hql : (q : Int) < s.size := by omega
      have CS := hid CS
      by_cases h41 : c0 = 41
      · rw [if_pos h41] at hRk2
        have e41 : ((c0.toNat : Int) == 41) = true := by rw [h41]; rfl
        replace hRk2 : R = .ok (acc ++ [], ndk) r0 := hRk2
        rw [List.append_nil] at hRk2
        have HRK := hid hRk2
        have hpl : ((s.size - r0.length : Nat) : Int) = (q : Int) + 1 := by omega
        have HPL := hid hpl
        have hwq : IntKind.i64.wrap ((q : Int) + 1) = (q : Int) + 1 := IntWalk.i64_in _ (by have := HS.out; omega)
        obtain ⟨x1, x2, ho, hk, hgw, hz⟩ := hH
        obtain ⟨A3, c3, rfl⟩ := own_form ho
        obtain ⟨_, _, e1, hnc, hri⟩ := RIn.of_own ho
        injection e1 with e1a e1b e1c
        subst e1a e1c
        obtain ⟨⟨f0, f1, f2, f3, f4, f5, f6, f7⟩, fz⟩ := x1.all
        obtain ⟨⟨d0, d1, d2, d3, d4⟩, dz⟩ := x2.all
        have fz0 := fz 0
        have fz1 := fz 1
        have fz2 := fz 2
        have fz3 := fz 3
        have fz4 := fz 4
        have fz5 := fz 5
        have fz6 := fz 6
        have fz7 := fz 7
        have hKF := fun (q' : Addr) (hq' : (0 ≤ q'.block ∧ q'.block < 0) ∨ w.heap.size + 1 ≤ q'.block) => put8_far (w := wr) (b := w.heap.size) (x0 := .bool true) (x1 := .bool false) (x2 := .slice none 0 0) (x3 := .slice none 0 0) (x4 := .slice A3 acc.length c3) (x5 := .int .i64 ((q : Int) + 1)) (x6 := .int .i64 ndk) (x7 := .int .i64 0) q' (by omega)
        have hiF : SIn (put8 wr w.heap.size (.bool true) (.bool false) (.slice none 0 0) (.slice none 0 0) (.slice A3 acc.length c3) (.int .i64 ((q : Int) + 1)) (.int .i64 ndk) (.int .i64 0)) (fun k => (0 ≤ k ∧ k < 0) ∨ w.heap.size ≤ k) (.mk true false [] [] acc) [.bool true, .bool false, .slice none 0 0, .slice none 0 0, .slice A3 acc.length c3] :=
          .mk RIn.none_ ⟨Nat.le_refl _, by omega⟩ RIn.none_ ⟨Nat.le_refl _, by omega⟩ (((hri.more (S' := fun b => (0 ≤ b ∧ b < 0) ∨ w.heap.size + 1 ≤ b) fun b hb => by omega).keep hKF).more fun b hb => by omega) ⟨hnc, by omega⟩ rfl
            (fun i t hit => (((hk i t hit).more (S' := fun b => (0 ≤ b ∧ b < 0) ∨ w.heap.size + 1 ≤ b) fun b hb => by omega).keep hKF).more fun b hb => by omega)
        have hbF := put8_below hgw (Nat.le_refl _) (.bool true) (.bool false) (.slice none 0 0) (.slice none 0 0) (.slice A3 acc.length c3) (.int .i64 ((q : Int) + 1)) (.int .i64 ndk) (.int .i64 0)
        have HF := hid (And.intro hiF hbF)
        clear dz fz x1 x2 ho hk hgw hri hiF hbF hKF hw hsk hRk2 hpl HH hdt hdq h41
        go_wp2_with (first | ((with_reducible refine CS.out.mono ?_); rintro e w1 ⟨rfl, rfl⟩))
        refine bodyPost_ret (v := .agg #[.bool true, .bool false, .slice none 0 0, .slice none 0 0, .slice A3 acc.length c3, .int .i64 ((q : Int) + 1), .int .i64 ndk, .int .i64 0]) (by simp [results, Tryz.results37, go_sem, d0, d1, d2, d3, d4, f0, f1, f2, f3, f4, f5, f6, f7]) rfl ?_
        rw [HRK.out]
        exact ⟨_, _, _, _, _, by rw [HPL.out], HF.out⟩
      · rw [if_neg h41] at hRk2
        have h41' : ((c0.toNat : Int) == 41) = false := by
          rw [beq_eq_false_iff_ne]
          intro e
          exact h41 (UInt8.toNat_inj.1 (by show c0.toNat = 41; omega))
        have C := HV.out g (by omega) s q ndk (ar + 1) wr HS.out (by omega) hndk (by omega) (by omega)
        rw [show ((ar + 1 : Nat) : Int) + 1 = (ar : Int) + 1 + 1 by omega, hdt] at C
        cases hpv : aVal g (c0 :: r0) ndk (ar + 1) with
        | err k rest =>
          rw [hpv] at hRk2 C
          have hRk2 : R = .err k rest := hRk2
          have HRK := hid hRk2
          have C := hid C
          clear hH hw hsk hRk2 hskl hg2 hpv h41 hdt hdq
          go_wp2_with (first | ((with_reducible refine CS.out.mono ?_); rintro e w1 ⟨rfl, rfl⟩))
          refine C.out.mono ?_
          rintro e w3 ⟨hk1, hk2, rfl, hb3⟩
          have hk0 : ¬ ((k : Int) = 0) := by omega
          have X0 : Box8 (w3.alloc (.cells #[.bool false, .bool false, .slice none 0 0, .slice none 0 0, .slice none 0 0, .int .i64 0, .int .i64 0, .int .i64 0] 55)) w3.heap.size (.bool false) (.bool false) (.slice none 0 0) (.slice none 0 0) (.slice none 0 0) (.int .i64 0) (.int .i64 0) (.int .i64 0) := heap_alloc_new w3 _
          obtain ⟨⟨d0, d1, d2, d3, d4, d5, d6, d7⟩, dz⟩ := X0.all
          have dz0 := dz 0
          have dz1 := dz 1
          have dz2 := dz 2
          have dz3 := dz 3
          have dz4 := dz 4
          have dz5 := dz 5
          have dz6 := dz 6
          have dz7 := dz 7
          have hbx := below_new w3 (.cells #[.bool false, .bool false, .slice none 0 0, .slice none 0 0, .slice none 0 0, .int .i64 (s.size - rest.length : Nat), .int .i64 0, .int .i64 k] 55)
          have hw3 := HW.out.trans (hb3.mono HW.out.size)
          have hw4 := hw3.trans (hbx.mono hw3.size)
          obtain ⟨⟨f0, f1, f2, f3, f4, f5, f6, f7⟩, fz⟩ := ((HH.out.1.old hb3).old hbx).all
          have fz0 := fz 0
          have fz1 := fz 1
          have fz2 := fz 2
          have fz3 := fz 3
          have fz4 := fz 4
          have fz5 := fz 5
          have fz6 := fz 6
          have fz7 := fz 7
          have HF := hid (put8_below hw4 (Nat.le_refl _) (.bool false) (.bool false) (.slice none 0 0) (.slice none 0 0) (.slice none 0 0) (.int .i64 (s.size - rest.length : Nat)) (.int .i64 0) (.int .i64 k))
          clear dz fz X0 hbx hw3 hw4 hb3
          go_wp2_with fail
          refine bodyPost_ret (v := .agg #[.bool false, .bool false, .slice none 0 0, .slice none 0 0, .slice none 0 0, .int .i64 (s.size - rest.length : Nat), .int .i64 0, .int .i64 k]) (by simp [results, Tryz.results37, go_sem, d0, d1, d2, d3, d4, d5, d6, d7, f0, f1, f2, f3, f4, f5, f6, f7]) rfl ?_
          rw [HRK.out]
          exact ⟨by omega, by omega, by simp, HF.out⟩
        | ok y rest =>
          obtain ⟨t, nd'⟩ := y
          rw [hpv] at hRk2 C
          have hgood := (aVal_good g).1 (c0 :: r0) ndk (ar + 1) (by omega) hndk
          rw [hpv] at hgood
          obtain ⟨htl, hrl, hnd', hnd5⟩ := hgood
          have HST := hid htl
          have HND := hid hnd'
          have HR2 := hid hRk2
          have C := hid C
          have HSK := hid hdt
          have hnp := nodes_pos t
          clear hH hw hsk hRk2 hpv h41 htl hnd' hdq
          go_wp2_with (first | ((with_reducible refine CS.out.mono ?_); rintro e w1 ⟨rfl, rfl⟩))
          refine C.out.mono ?_
          rintro e w3 ⟨v0, v1, v2, v3, v4, rfl, hin, hb3⟩
          obtain ⟨l', h', hi', da', ks', B1, m1, j1, B2, m2, j2, B3, m3, j3, eZ, eE⟩ := hin.form_
          injection eE with eE0 eE; injection eE with eE1 eE; injection eE with eE2 eE; injection eE with eE3 eE; injection eE with eE4 eE
          subst eE0 eE1 eE2 eE3 eE4
          clear eE eZ
          have X0 : Box8 (w3.alloc (.cells #[.bool false, .bool false, .slice none 0 0, .slice none 0 0, .slice none 0 0, .int .i64 0, .int .i64 0, .int .i64 0] 55)) w3.heap.size (.bool false) (.bool false) (.slice none 0 0) (.slice none 0 0) (.slice none 0 0) (.int .i64 0) (.int .i64 0) (.int .i64 0) := heap_alloc_new w3 _
          obtain ⟨⟨d0, d1, d2, d3, d4, d5, d6, d7⟩, dz⟩ := X0.all
          have dz0 := dz 0
          have dz1 := dz 1
          have dz2 := dz 2
          have dz3 := dz 3
          have dz4 := dz 4
          have dz5 := dz 5
          have dz6 := dz 6
          have dz7 := dz 7
          have hbx := below_new w3 (.cells #[.bool l', .bool h', .slice B1 m1 j1, .slice B2 m2 j2, .slice B3 m3 j3, .int .i64 (s.size - rest.length : Nat), .int .i64 nd', .int .i64 0] 55)
          obtain ⟨⟨g0, g1, g2, g3, g4⟩, gz⟩ := ((HH.out.2.1.old hb3).old hbx).all
          have gz4 := gz 4
          clear dz gz
          obtain ⟨i0, hi, hz0, hz1i, hz2i⟩ := info_parts infoSexp
          have HI := hid hi
          have hR5 := reads_five (w := (w3.alloc (.cells #[.bool l', .bool h', .slice B1 m1 j1, .slice B2 m2 j2, .slice B3 m3 j3, .int .i64 (s.size - rest.length : Nat), .int .i64 nd', .int .i64 0] 55))) (v0 := .bool l') (v1 := .bool h') (v2 := .slice B1 m1 j1) (v3 := .slice B2 m2 j2) (v4 := .slice B3 m3 j3) 25 (0, 0)
          have hg1 := hb3.trans (hbx.mono hb3.size)
          have hH3 := HH.out.keep hg1
          have HH3 := hid hH3
          have hb4 := below_new (w3.alloc (.cells #[.bool l', .bool h', .slice B1 m1 j1, .slice B2 m2 j2, .slice B3 m3 j3, .int .i64 (s.size - rest.length : Nat), .int .i64 nd', .int .i64 0] 55)) (.cells #[.bool l', .bool h', .slice B1 m1 j1, .slice B2 m2 j2, .slice B3 m3 j3] 25)
          have hown3 := own_old hH3.2.2.1 hb4
          have HIN := hid (hin.old hbx)
          have hone := sin_one hin
          have hz3 := hb3.size
          have hsz8 : (w3.alloc (.cells #[.bool l', .bool h', .slice B1 m1 j1, .slice B2 m2 j2, .slice B3 m3 j3, .int .i64 (s.size - rest.length : Nat), .int .i64 nd', .int .i64 0] 55)).heap.size = w3.heap.size + 1 := by simp
          rw [hsz8] at hR5
          have hsz5 : ((w3.alloc (.cells #[.bool l', .bool h', .slice B1 m1 j1, .slice B2 m2 j2, .slice B3 m3 j3, .int .i64 (s.size - rest.length : Nat), .int .i64 nd', .int .i64 0] 55)).alloc (.cells #[.bool l', .bool h', .slice B1 m1 j1, .slice B2 m2 j2, .slice B3 m3 j3] 25)).heap.size = w3.heap.size + 1 + 1 := by simp
          have HX8 := hid (show Box8 (w3.alloc (.cells #[.bool l', .bool h', .slice B1 m1 j1, .slice B2 m2 j2, .slice B3 m3 j3, .int .i64 (s.size - rest.length : Nat), .int .i64 nd', .int .i64 0] 55)) w3.heap.size (.bool l') (.bool h') (.slice B1 m1 j1) (.slice B2 m2 j2) (.slice B3 m3 j3) (.int .i64 (s.size - rest.length : Nat)) (.int .i64 nd') (.int .i64 0) from heap_alloc_new w3 _)
          have HBX := hid hH3.2.1
          have hovn : ∀ k, k < w.heap.size + 2 ∨ wr.heap.size ≤ k → v.ownBlock ≠ some k := fun k hk e => by have := own_lt HH.out.2.2.1 e; omega
          have HOV := hid hovn
          clear hi hH3 hin hbx hovn
          go_wp2_with (at_builtin; refine wpList_append_any _ rfl (.tmp 127) (.tmp 130) 23 rfl (w.heap.size + 2) 25 i0 _ 5 80 Tryz.underlying23 HI.out hz0 hz1i hz2i rfl (by omega) v acc.length ys rfl hown3 _ _ 1 _ [.bool l', .bool h', .slice B1 m1 j1, .slice B2 m2 j2, .slice B3 m3 j3] rfl hR5 hone (by unfold maxLen; omega) (by omega) (by simp; omega) ?_)
          intro v' w5 hown5 hg5 hv5
          have hHS := HH3.out.step (Nat.zero_le _) HIN.out (fun k hk => (own_lt HH.out.2.2.1 hk).2) (by omega) hown5 hg5 (by rw [hsz5]; exact hv5)
          obtain ⟨A5, c5, rfl⟩ := own_form hown5
          have hx5 := (HBX.out.old hb4).grown hg5 (HOV.out _ (by omega))
          have m7 := hx5.all.1.2.2.2.2
          have mz7 := hx5.all.2 4
          have hx8 : Box8 (w5.setCell ⟨w.heap.size + 1, 4, none⟩ (.slice A5 (acc.length + 1) c5)) w3.heap.size (.bool l') (.bool h') (.slice B1 m1 j1) (.slice B2 m2 j2) (.slice B3 m3 j3) (.int .i64 (s.size - rest.length : Nat)) (.int .i64 nd') (.int .i64 0) :=
            (Below.heap_setCell w5 ⟨w.heap.size + 1, 4, none⟩ _ w3.heap.size (by show w3.heap.size ≠ w.heap.size + 1; omega)).trans ((hg5.block w3.heap.size (by simp; omega) (fun e => HOV.out _ (by omega) e.symm)).trans (below_at hb4 HX8.out))
          obtain ⟨⟨-, -, -, -, -, y5, y6, -⟩, -⟩ := hx8.all
          have HHS := hid hHS
          clear hHS hx5 hx8 hown5 hg5 hv5 hown3 g0 g1 g2 g3 g4 d0 d1 d2 d3 d4 d5 d6 d7
          go_wp2_with fail
          have hd2 := drop_tail (s := s) HSK.out HST.out
          have hq1 := tail_size (s := s) HSK.out HST.out
          have hRR : R = addK (acc ++ [t]) (aKids g rest nd' (ar + 1)) := by
            rw [HR2.out]
            cases aKids g rest nd' (ar + 1) with
            | err e q => rfl
            | ok y q => obtain ⟨ks, q2⟩ := y; simp [addK]
          have hnd := HND.out
          refine ⟨⟨acc ++ [t], g, rest, nd', _, _, HHS.out, rfl, rfl, by omega, hd2, by omega, by omega, hRR, hnd5, by simp; omega⟩, ?_⟩
          simp only [intOf, Int.toNat_natCast]
          omega
theorem value3_all (f : Nat) : V3Spec f := by
  induction f using Nat.strongRecOn with
  | _ f ih =>
    cases f with
    | zero =>
      intro s p nd ar w hs hp hnd har hf
      omega
    | succ f =>
      intro s p nd ar w hs hp hnd har hf
      by_cases hq : (∃ r, skip (s.data.toList.drop p) = 40 :: r) ∧ nd < 512 ∧ ar < 16
      · obtain ⟨⟨r, hr⟩, h1, h2⟩ := hq
        have hsl := (Tail.skip (s.data.toList.drop p)).le
        rw [hr, List.length_drop, show s.data.toList.length = s.size by simp, List.length_cons] at hsl
        have h := value3_list f (fun g hg => ih g (by omega)) s p nd ar w hs hp h1 h2 40 rfl r hr (by omega)
        have e : aVal (f + 1) (s.data.toList.drop p) nd ar = listRes (aKids f r (nd + 1) (ar + 1)) := by
          rw [aVal, hr]
          simp only
          rw [if_neg (by decide), if_neg (by omega), if_pos trivial]
          rfl
        rw [e]
        exact h
      · refine value3_small f s p nd ar w hs hp hnd har fun r hr => ?_
        rcases Nat.lt_or_ge nd 512 with h1 | h1
        · rcases Nat.lt_or_ge ar 16 with h2 | h2
          · exact absurd ⟨⟨r, hr⟩, h1, h2⟩ hq
          · exact .inr h2
        · exact .inl h1
end Go.Proofs.YtcojkmcnigppbaaGreatDoor
