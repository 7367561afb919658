/-
  The contract of the document's answer value (package greffierref02), in full: lists too. Conditions: the bytes are at most 5000.
-/
import Derived.Test.YtaenahilnnlbfaaDoorRefRead5
set_option linter.unusedVariables false
namespace Go.Proofs.YtaenahilnnlbfaaDoor
open Go Go.Proofs Go.RowKit Sx Oct

set_option maxHeartbeats 4000000 in
set_option maxRecDepth 100000 in
theorem refValue_list (f : Nat) (hV : ∀ g, g < f → RValSpec g) (A : Option Addr) (n c p nd ar : Nat) (b : List UInt8) (B : Nat) (w : World) (hr : Reads w B 1 A n (Lib.byteCells b)) (hBw : B ≤ w.heap.size) (hn : n ≤ 5000) (hc : n ≤ c) (hnd : nd < 512) (har : ar < 16)
    (s : List UInt8) (hs : b.drop p = 40 :: s) (hf : 2 * s.length + 2 ≤ f) :
    Calls Tryd.prog 30 #[.slice A n c, .int .i64 p, .int .i64 ((ar : Int) + 1), .int .i64 nd] w fun e w' => RVal w B n e w' (listRes (pKids f s (nd + 1) (ar + 1))) := by
  generalize hRR : pKids f s (nd + 1) (ar + 1) = R
  have hl : b.length = n := by have := hr.1; simpa [Lib.byteCells_length] using this
  have hsl : (40 :: s : List UInt8).length = n - p := by rw [← hs, List.length_drop, hl]
  have hsl' : s.length + 1 = n - p := by rw [← hsl]; simp
  have hz1 : (w.alloc (.cells #[.bool false, .bool false, .slice none 0 0, .slice none 0 0, .slice none 0 0, .int .i64 0, .int .i64 0, .int .i64 0] 55)).heap.size = w.heap.size + 1 := by simp
  have b1 := below_new w (.cells #[.bool false, .bool false, .slice none 0 0, .slice none 0 0, .slice none 0 0, .int .i64 0, .int .i64 0, .int .i64 0] 55)
  have b2 := below_new (w.alloc (.cells #[.bool false, .bool false, .slice none 0 0, .slice none 0 0, .slice none 0 0, .int .i64 0, .int .i64 0, .int .i64 0] 55)) (.cells #[.bool true, .bool false, .slice none 0 0, .slice none 0 0, .slice none 0 0] 25)
  have hb0 := b1.trans (b2.mono (by omega))
  have X1 : Box8 ((w.alloc (.cells #[.bool false, .bool false, .slice none 0 0, .slice none 0 0, .slice none 0 0, .int .i64 0, .int .i64 0, .int .i64 0] 55)).alloc (.cells #[.bool true, .bool false, .slice none 0 0, .slice none 0 0, .slice none 0 0] 25)) w.heap.size (.bool false) (.bool false) (.slice none 0 0) (.slice none 0 0) (.slice none 0 0) (.int .i64 0) (.int .i64 0) (.int .i64 0) := below_at b2 (heap_alloc_new w _)
  have X2 : Box ((w.alloc (.cells #[.bool false, .bool false, .slice none 0 0, .slice none 0 0, .slice none 0 0, .int .i64 0, .int .i64 0, .int .i64 0] 55)).alloc (.cells #[.bool true, .bool false, .slice none 0 0, .slice none 0 0, .slice none 0 0] 25)) (w.heap.size + 1) (.bool true) (.bool false) (.slice none 0 0) (.slice none 0 0) (.slice none 0 0) := by
    have := heap_alloc_new (w.alloc (.cells #[.bool false, .bool false, .slice none 0 0, .slice none 0 0, .slice none 0 0, .int .i64 0, .int .i64 0, .int .i64 0] 55)) (.cells #[.bool true, .bool false, .slice none 0 0, .slice none 0 0, .slice none 0 0] 25)
    rw [hz1] at this
    exact this
  have hz2 : ((w.alloc (.cells #[.bool false, .bool false, .slice none 0 0, .slice none 0 0, .slice none 0 0, .int .i64 0, .int .i64 0, .int .i64 0] 55)).alloc (.cells #[.bool true, .bool false, .slice none 0 0, .slice none 0 0, .slice none 0 0] 25)).heap.size = w.heap.size + 2 := by simp
  have hr1 := hr.keep (w' := (w.alloc (.cells #[.bool false, .bool false, .slice none 0 0, .slice none 0 0, .slice none 0 0, .int .i64 0, .int .i64 0, .int .i64 0] 55))) fun q hq => b1.cell (by omega)
  obtain ⟨ad, rfl, hadB, hcell⟩ := at_drop hr1 (p := p) (by omega) hs
  have hp0 : (0 : Int) ≤ p := by omega
  have hplt : (p : Int) < n := by omega
  have hpge : ¬ (n : Int) ≤ p := by omega
  have hw1 : IntKind.i64.wrap ((nd : Int) + 1) = (nd : Int) + 1 := IntWalk.i64_in _ (by omega)
  have hgt : ¬ (512 : Int) < (nd : Int) + 1 := by omega
  have har2 : ¬ (16 : Int) < (ar : Int) + 1 := by omega
  have hd1 : b.drop (n - s.length) = s := by rw [show n - s.length = p + 1 by omega, ← List.drop_drop, hs]; rfl
  have hi1 : (Value.int .i64 ((n - s.length : Nat) : Int)) = .int .i64 ((p : Int) + 1) := by congr 1; omega
  have hi3 : (Value.int .i64 ((nd + 1 : Nat) : Int)) = .int .i64 ((nd : Int) + 1) := by congr 1
  have hL0 : RHas w ((w.alloc (.cells #[.bool false, .bool false, .slice none 0 0, .slice none 0 0, .slice none 0 0, .int .i64 0, .int .i64 0, .int .i64 0] 55)).alloc (.cells #[.bool true, .bool false, .slice none 0 0, .slice none 0 0, .slice none 0 0] 25)) B [] (.slice none 0 0) [] :=
    ⟨X1, X2, ⟨rfl, .inl ⟨rfl, rfl⟩⟩, fun i t hit => by simp at hit, hb0, by omega⟩
  have hRe : Hid (R = addK [] (pKids f s (nd + 1) (ar + 1))) := by
    show _ = _
    rw [hRR]
    cases R <;> simp [addK]
  have HL0 := Lib.hid hL0
  have HD := Lib.hid hd1
  have HV := Lib.hid hV
  have HR := Lib.hid hr
  have HHL := Lib.hid hl
  clear hL0 X1 X2 hb0 b1 b2 hs hsl hd1 hV hr hr1 hl hRR
  go_enter Tryd.func30, Tryd.ntmps30
  go_wp2_with fail
  go_loopw [1, 3] (fun i1 i3 wr => Hid (RRel w (some ad) n (ar + 1) f b B R i1 i3 wr)) (fun i1 _ _ => n - (intOf i1).toNat)
  case atStart => exact ⟨[], f, s, nd + 1, _, _, HL0.out, hi1.symm, hi3.symm, by omega, HD.out, Nat.le_refl _, by omega, hRe.out, by omega, Nat.zero_le _⟩
  case round =>
    obtain ⟨acc, g, sk, ndk, v, ys, hH, rfl, rfl, hskl, hsk, hgf, hg2, hRk2, hndk, haccl⟩ := hrel.out
    clear HL0 hrel hRe
    have hw := hH.2.2.2.2.1
    have hwz := hH.2.2.2.2.2
    have hrk := HR.out.keep (w' := wr) fun q hq => hw.cell (by omega)
    have hw2 : IntKind.i64.wrap ((ar : Int) + 1 + 1) = (ar : Int) + 1 + 1 := IntWalk.i64_in _ (by omega)
    have HW := Lib.hid hw
    have HH := Lib.hid hH
    obtain ⟨g, rfl⟩ : ∃ g', g = g' + 1 := ⟨g - 1, by omega⟩
    cases sk with
    | nil =>
      have hRk2 : R = .err 2 [] := by rw [pKids] at hRk2; exact hRk2
      have HRK := Lib.hid hRk2
      obtain ⟨g, rfl⟩ : ∃ g', g = g' + 1 := ⟨g - 1, by simp at hg2; omega⟩
      have C := HV.out (g + 1) (by omega) (some ad) n c n ndk (ar + 1) b B wr hrk (by have := hw.size; omega) hn hc (Nat.le_refl _) hndk (by omega) (by omega)
      rw [show ((ar + 1 : Nat) : Int) + 1 = (ar : Int) + 1 + 1 by omega, List.drop_eq_nil_of_le (by rw [HHL.out]; exact Nat.le_refl _), pVal] at C
      have hn0 : ((n - ([] : List UInt8).length : Nat) : Int) = n := by simp
      have C := Lib.hid C
      rw [hn0]
      clear hH hw hrk hsk hRk2 hskl hg2
      go_wp2_with fail
      refine C.out.mono ?_
      rintro e w3 ⟨hk1, hk2, rfl, hb3⟩
      rw [hn0]
      have X0 : Box8 (w3.alloc (.cells #[.bool false, .bool false, .slice none 0 0, .slice none 0 0, .slice none 0 0, .int .i64 0, .int .i64 0, .int .i64 0] 55)) w3.heap.size (.bool false) (.bool false) (.slice none 0 0) (.slice none 0 0) (.slice none 0 0) (.int .i64 0) (.int .i64 0) (.int .i64 0) := heap_alloc_new w3 _
      obtain ⟨⟨d0, d1, d2, d3, d4, d5, d6, d7⟩, dz⟩ := X0.all
      have dz0 := dz 0
      have dz1 := dz 1
      have dz2 := dz 2
      have dz3 := dz 3
      have dz4 := dz 4
      have dz5 := dz 5
      have dz6 := dz 6
      have dz7 := dz 7
      have hbx := below_new w3 (.cells #[.bool false, .bool false, .slice none 0 0, .slice none 0 0, .slice none 0 0, .int .i64 n, .int .i64 0, .int .i64 2] 55)
      have hw3 := HW.out.trans (hb3.mono HW.out.size)
      have hw4 := hw3.trans (hbx.mono hw3.size)
      obtain ⟨⟨f0, f1, f2, f3, f4, f5, f6, f7⟩, fz⟩ := ((HH.out.1.old hb3).old hbx).all
      have fz0 := fz 0
      have fz1 := fz 1
      have fz2 := fz 2
      have fz3 := fz 3
      have fz4 := fz 4
      have fz5 := fz 5
      have fz6 := fz 6
      have fz7 := fz 7
      have HF := Lib.hid (put8_below hw4 (Nat.le_refl _) (.bool false) (.bool false) (.slice none 0 0) (.slice none 0 0) (.slice none 0 0) (.int .i64 n) (.int .i64 0) (.int .i64 2))
      clear dz fz X0 hbx hw3 hw4 hb3
      go_wp2_with fail
      refine bodyPost_ret (v := .agg #[.bool false, .bool false, .slice none 0 0, .slice none 0 0, .slice none 0 0, .int .i64 n, .int .i64 0, .int .i64 2]) (by simp [results, Tryd.results30, go_sem, d0, d1, d2, d3, d4, d5, d6, d7, f0, f1, f2, f3, f4, f5, f6, f7]) rfl ?_
      rw [HRK.out]
      exact ⟨by omega, by omega, by simp, HF.out⟩
    | cons c0 r0 =>
      have hlr : (c0 :: r0).length = r0.length + 1 := by simp
      obtain ⟨q, hq⟩ : ∃ q, q = n - (c0 :: r0).length := ⟨_, rfl⟩
      rw [← hq] at hsk
      have hn1 : ((n - (c0 :: r0).length : Nat) : Int) = (q : Int) := by rw [hq]
      rw [hn1]
      have HQ := Lib.hid hq
      clear hn1
      have hqn : q + r0.length + 1 = n := by omega
      obtain ⟨ad', hA', -, hc0⟩ := at_drop hrk (p := q) (by omega) hsk
      injection hA' with hA'
      subst hA'
      clear hq
      have hq0 : (0 : Int) ≤ q := by omega
      have hql : (q : Int) < n := by omega
      rw [pKids] at hRk2
      try simp only at hRk2
      by_cases h41 : c0 = 41
      · subst h41
        rw [if_pos rfl] at hRk2
        replace hRk2 : R = .ok (acc ++ [], ndk) r0 := hRk2
        rw [List.append_nil] at hRk2
        have HRK := Lib.hid hRk2
        have hpl : ((n - r0.length : Nat) : Int) = (q : Int) + 1 := by omega
        have HPL := Lib.hid hpl
        have hwq : IntKind.i64.wrap ((q : Int) + 1) = (q : Int) + 1 := IntWalk.i64_in _ (by omega)
        obtain ⟨x1, x2, ho, hk, hgw, hz⟩ := hH
        obtain ⟨A3, c3, rfl⟩ := own_form ho
        obtain ⟨_, _, e1, hnc, hri⟩ := RIn.of_own ho
        injection e1 with e1a e1b e1c
        subst e1a e1c
        obtain ⟨⟨f0, f1, f2, f3, f4, f5, f6, f7⟩, fz⟩ := x1.all
        obtain ⟨⟨d0, d1, d2, d3, d4⟩, dz⟩ := x2.all
        have fz0 := fz 0
        have fz1 := fz 1
        have fz2 := fz 2
        have fz3 := fz 3
        have fz4 := fz 4
        have fz5 := fz 5
        have fz6 := fz 6
        have fz7 := fz 7
        have hKF := fun (q' : Addr) (hq' : q'.block < B ∨ w.heap.size + 1 ≤ q'.block) => put8_far (w := wr) (b := w.heap.size) (x0 := .bool true) (x1 := .bool false) (x2 := .slice none 0 0) (x3 := .slice none 0 0) (x4 := .slice A3 acc.length c3) (x5 := .int .i64 ((q : Int) + 1)) (x6 := .int .i64 ndk) (x7 := .int .i64 0) q' (by omega)
        have hiF : SIn (put8 wr w.heap.size (.bool true) (.bool false) (.slice none 0 0) (.slice none 0 0) (.slice A3 acc.length c3) (.int .i64 ((q : Int) + 1)) (.int .i64 ndk) (.int .i64 0)) (fun k => k < B ∨ w.heap.size ≤ k) (.mk true false [] [] acc) [.bool true, .bool false, .slice none 0 0, .slice none 0 0, .slice A3 acc.length c3] :=
          .mk RIn.none_ ⟨Nat.le_refl _, by omega⟩ RIn.none_ ⟨Nat.le_refl _, by omega⟩ (((hri.more (S' := fun b => b < B ∨ w.heap.size + 1 ≤ b) fun b hb => by omega).keep hKF).more fun b hb => by omega) ⟨hnc, by omega⟩ rfl
            (fun i t hit => (((hk i t hit).more (S' := fun b => b < B ∨ w.heap.size + 1 ≤ b) fun b hb => by omega).keep hKF).more fun b hb => by omega)
        have hbF := put8_below hgw (Nat.le_refl _) (.bool true) (.bool false) (.slice none 0 0) (.slice none 0 0) (.slice A3 acc.length c3) (.int .i64 ((q : Int) + 1)) (.int .i64 ndk) (.int .i64 0)
        have HF := Lib.hid (And.intro hiF hbF)
        clear dz fz x1 x2 ho hk hgw hri hiF hbF hKF hw hrk hsk hRk2 hpl HH
        go_wp2_with fail
        refine bodyPost_ret (v := .agg #[.bool true, .bool false, .slice none 0 0, .slice none 0 0, .slice A3 acc.length c3, .int .i64 ((q : Int) + 1), .int .i64 ndk, .int .i64 0]) (by simp [results, Tryd.results30, go_sem, d0, d1, d2, d3, d4, f0, f1, f2, f3, f4, f5, f6, f7]) rfl ?_
        rw [HRK.out]
        exact ⟨_, _, _, _, _, by rw [HPL.out], HF.out⟩
      · rw [if_neg h41] at hRk2
        have h41' : ((c0.toNat : Int) == 41) = false := by
          rw [beq_eq_false_iff_ne]
          intro e
          exact h41 (UInt8.toNat_inj.1 (by show c0.toNat = 41; omega))
        have C := HV.out g (by omega) (some ad) n c q ndk (ar + 1) b B wr hrk (by have := hw.size; omega) hn hc (by omega) hndk (by omega) (by omega)
        rw [show ((ar + 1 : Nat) : Int) + 1 = (ar : Int) + 1 + 1 by omega, hsk] at C
        cases hpv : pVal g (c0 :: r0) ndk (ar + 1) with
        | err k rest =>
          rw [hpv] at hRk2 C
          have hRk2 : R = .err k rest := hRk2
          have HRK := Lib.hid hRk2
          have C := Lib.hid C
          clear hH hw hrk hsk hRk2 hskl hg2 hpv h41
          go_wp2_with fail
          refine C.out.mono ?_
          rintro e w3 ⟨hk1, hk2, rfl, hb3⟩
          have hk0 : ¬ ((k : Int) = 0) := by omega
          have X0 : Box8 (w3.alloc (.cells #[.bool false, .bool false, .slice none 0 0, .slice none 0 0, .slice none 0 0, .int .i64 0, .int .i64 0, .int .i64 0] 55)) w3.heap.size (.bool false) (.bool false) (.slice none 0 0) (.slice none 0 0) (.slice none 0 0) (.int .i64 0) (.int .i64 0) (.int .i64 0) := heap_alloc_new w3 _
          obtain ⟨⟨d0, d1, d2, d3, d4, d5, d6, d7⟩, dz⟩ := X0.all
          have dz0 := dz 0
          have dz1 := dz 1
          have dz2 := dz 2
          have dz3 := dz 3
          have dz4 := dz 4
          have dz5 := dz 5
          have dz6 := dz 6
          have dz7 := dz 7
          have hbx := below_new w3 (.cells #[.bool false, .bool false, .slice none 0 0, .slice none 0 0, .slice none 0 0, .int .i64 (n - rest.length : Nat), .int .i64 0, .int .i64 k] 55)
          have hw3 := HW.out.trans (hb3.mono HW.out.size)
          have hw4 := hw3.trans (hbx.mono hw3.size)
          obtain ⟨⟨f0, f1, f2, f3, f4, f5, f6, f7⟩, fz⟩ := ((HH.out.1.old hb3).old hbx).all
          have fz0 := fz 0
          have fz1 := fz 1
          have fz2 := fz 2
          have fz3 := fz 3
          have fz4 := fz 4
          have fz5 := fz 5
          have fz6 := fz 6
          have fz7 := fz 7
          have HF := Lib.hid (put8_below hw4 (Nat.le_refl _) (.bool false) (.bool false) (.slice none 0 0) (.slice none 0 0) (.slice none 0 0) (.int .i64 (n - rest.length : Nat)) (.int .i64 0) (.int .i64 k))
          clear dz fz X0 hbx hw3 hw4 hb3
          go_wp2_with fail
          refine bodyPost_ret (v := .agg #[.bool false, .bool false, .slice none 0 0, .slice none 0 0, .slice none 0 0, .int .i64 (n - rest.length : Nat), .int .i64 0, .int .i64 k]) (by simp [results, Tryd.results30, go_sem, d0, d1, d2, d3, d4, d5, d6, d7, f0, f1, f2, f3, f4, f5, f6, f7]) rfl ?_
          rw [HRK.out]
          exact ⟨by omega, by omega, by simp, HF.out⟩
        | ok y rest =>
          obtain ⟨t, nd'⟩ := y
          rw [hpv] at hRk2 C
          obtain ⟨hst, -, hnd', hnd5, -⟩ := (sound g).1 _ _ _ _ _ _ hpv (by omega)
          have HST := Lib.hid hst
          have HND := Lib.hid hnd'
          have HR2 := Lib.hid hRk2
          have C := Lib.hid C
          have HSK := Lib.hid hsk
          have hnp := nodes_pos t
          clear hH hw hrk hsk hRk2 hpv h41 hst hnd'
          go_wp2_with fail
          refine C.out.mono ?_
          rintro e w3 ⟨v0, v1, v2, v3, v4, rfl, hin, hb3⟩
          obtain ⟨l', h', hi', da', ks', B1, m1, j1, B2, m2, j2, B3, m3, j3, eZ, eE⟩ := hin.form_
          injection eE with eE0 eE; injection eE with eE1 eE; injection eE with eE2 eE; injection eE with eE3 eE; injection eE with eE4 eE
          subst eE0 eE1 eE2 eE3 eE4
          clear eE eZ
          have X0 : Box8 (w3.alloc (.cells #[.bool false, .bool false, .slice none 0 0, .slice none 0 0, .slice none 0 0, .int .i64 0, .int .i64 0, .int .i64 0] 55)) w3.heap.size (.bool false) (.bool false) (.slice none 0 0) (.slice none 0 0) (.slice none 0 0) (.int .i64 0) (.int .i64 0) (.int .i64 0) := heap_alloc_new w3 _
          obtain ⟨⟨d0, d1, d2, d3, d4, d5, d6, d7⟩, dz⟩ := X0.all
          have dz0 := dz 0
          have dz1 := dz 1
          have dz2 := dz 2
          have dz3 := dz 3
          have dz4 := dz 4
          have dz5 := dz 5
          have dz6 := dz 6
          have dz7 := dz 7
          have hbx := below_new w3 (.cells #[.bool l', .bool h', .slice B1 m1 j1, .slice B2 m2 j2, .slice B3 m3 j3, .int .i64 (n - rest.length : Nat), .int .i64 nd', .int .i64 0] 55)
          obtain ⟨⟨g0, g1, g2, g3, g4⟩, gz⟩ := ((HH.out.2.1.old hb3).old hbx).all
          have gz4 := gz 4
          clear dz gz
          obtain ⟨i0, hi, hz0, hz1i, hz2i⟩ := info_parts infoSexp
          have HI := Lib.hid hi
          have hR5 := reads_five (w := (w3.alloc (.cells #[.bool l', .bool h', .slice B1 m1 j1, .slice B2 m2 j2, .slice B3 m3 j3, .int .i64 (n - rest.length : Nat), .int .i64 nd', .int .i64 0] 55))) (v0 := .bool l') (v1 := .bool h') (v2 := .slice B1 m1 j1) (v3 := .slice B2 m2 j2) (v4 := .slice B3 m3 j3) 25 (0, 0)
          have hg1 := hb3.trans (hbx.mono hb3.size)
          have hH3 := HH.out.keep hg1
          have HH3 := Lib.hid hH3
          have hb4 := below_new (w3.alloc (.cells #[.bool l', .bool h', .slice B1 m1 j1, .slice B2 m2 j2, .slice B3 m3 j3, .int .i64 (n - rest.length : Nat), .int .i64 nd', .int .i64 0] 55)) (.cells #[.bool l', .bool h', .slice B1 m1 j1, .slice B2 m2 j2, .slice B3 m3 j3] 25)
          have hown3 := own_old hH3.2.2.1 hb4
          have HIN := Lib.hid (hin.old hbx)
          have hone := sin_one hin
          have hz3 := hb3.size
          have hsz8 : (w3.alloc (.cells #[.bool l', .bool h', .slice B1 m1 j1, .slice B2 m2 j2, .slice B3 m3 j3, .int .i64 (n - rest.length : Nat), .int .i64 nd', .int .i64 0] 55)).heap.size = w3.heap.size + 1 := by simp
          rw [hsz8] at hR5
          have hsz5 : ((w3.alloc (.cells #[.bool l', .bool h', .slice B1 m1 j1, .slice B2 m2 j2, .slice B3 m3 j3, .int .i64 (n - rest.length : Nat), .int .i64 nd', .int .i64 0] 55)).alloc (.cells #[.bool l', .bool h', .slice B1 m1 j1, .slice B2 m2 j2, .slice B3 m3 j3] 25)).heap.size = w3.heap.size + 1 + 1 := by simp
          have HX8 := Lib.hid (show Box8 (w3.alloc (.cells #[.bool l', .bool h', .slice B1 m1 j1, .slice B2 m2 j2, .slice B3 m3 j3, .int .i64 (n - rest.length : Nat), .int .i64 nd', .int .i64 0] 55)) w3.heap.size (.bool l') (.bool h') (.slice B1 m1 j1) (.slice B2 m2 j2) (.slice B3 m3 j3) (.int .i64 (n - rest.length : Nat)) (.int .i64 nd') (.int .i64 0) from heap_alloc_new w3 _)
          have HBX := Lib.hid hH3.2.1
          have hovn : ∀ k, k < w.heap.size + 2 ∨ wr.heap.size ≤ k → v.ownBlock ≠ some k := fun k hk e => by have := own_lt HH.out.2.2.1 e; omega
          have HOV := Lib.hid hovn
          clear hi hH3 hin hbx hovn
          go_wp2_with (at_builtin; refine wpList_append_any _ rfl (.tmp 91) (.tmp 94) 23 rfl (w.heap.size + 2) 25 i0 _ 5 80 Tryd.underlying23 HI.out hz0 hz1i hz2i rfl (by omega) v acc.length ys rfl hown3 _ _ 1 _ [.bool l', .bool h', .slice B1 m1 j1, .slice B2 m2 j2, .slice B3 m3 j3] rfl hR5 hone (by unfold maxLen; omega) (by omega) (by simp; omega) ?_)
          intro v' w5 hown5 hg5 hv5
          have hHS := HH3.out.step hBw HIN.out (fun k hk => (own_lt HH.out.2.2.1 hk).2) (by omega) hown5 hg5 (by rw [hsz5]; exact hv5)
          obtain ⟨A5, c5, rfl⟩ := own_form hown5
          have hx5 := (HBX.out.old hb4).grown hg5 (HOV.out _ (by omega))
          have m7 := hx5.all.1.2.2.2.2
          have mz7 := hx5.all.2 4
          have hx8 : Box8 (w5.setCell ⟨w.heap.size + 1, 4, none⟩ (.slice A5 (acc.length + 1) c5)) w3.heap.size (.bool l') (.bool h') (.slice B1 m1 j1) (.slice B2 m2 j2) (.slice B3 m3 j3) (.int .i64 (n - rest.length : Nat)) (.int .i64 nd') (.int .i64 0) :=
            (Below.heap_setCell w5 ⟨w.heap.size + 1, 4, none⟩ _ w3.heap.size (by show w3.heap.size ≠ w.heap.size + 1; omega)).trans ((hg5.block w3.heap.size (by simp; omega) (fun e => HOV.out _ (by omega) e.symm)).trans (below_at hb4 HX8.out))
          obtain ⟨⟨-, -, -, -, -, y5, y6, -⟩, -⟩ := hx8.all
          have HHS := Lib.hid hHS
          clear hHS hx5 hx8 hown5 hg5 hv5 hown3 g0 g1 g2 g3 g4 d0 d1 d2 d3 d4 d5 d6 d7
          go_wp2_with fail
          obtain ⟨hd2, hq1, hq2⟩ := drop_rest (by rw [HHL.out]; omega) HSK.out HST.out
          rw [HHL.out] at hd2 hq1 hq2
          have hfl : 1 ≤ (form t).length := by
            obtain ⟨c1, q1, hq, -⟩ := form_head t
            rw [hq]; simp
          have hlt : rest.length + (form t).length = (c0 :: r0).length := by
            have := congrArg List.length HST.out
            rw [List.length_append] at this
            omega
          have hRR : R = addK (acc ++ [t]) (pKids g rest nd' (ar + 1)) := by
            rw [HR2.out]
            cases pKids g rest nd' (ar + 1) with
            | err e q => rfl
            | ok y q => obtain ⟨ks, q2⟩ := y; simp [addK]
          have hnd := HND.out
          refine ⟨⟨acc ++ [t], g, rest, nd', _, _, HHS.out, rfl, rfl, by omega, hd2, by omega, by omega, hRR, hnd5, by simp; omega⟩, ?_⟩
          simp only [intOf, Int.toNat_natCast]
          omega

theorem refValue_all (f : Nat) : RValSpec f := by
  induction f using Nat.strongRecOn with
  | _ f ih =>
    cases f with
    | zero =>
      intro A n c p nd ar b B w hr hB hn hc hp hnd har hf
      omega
    | succ f =>
      intro A n c p nd ar b B w hr hB hn hc hp hnd har hf
      by_cases hq : (∃ s, b.drop p = 40 :: s) ∧ nd < 512 ∧ ar < 16
      · obtain ⟨⟨s, hs⟩, h1, h2⟩ := hq
        have hl : b.length = n := by have := hr.1; simpa [Lib.byteCells_length] using this
        have hsl := congrArg List.length hs
        rw [List.length_drop, hl, List.length_cons] at hsl
        have h := refValue_list f (fun g hg => ih g (by omega)) A n c p nd ar b B w hr hB hn hc h1 h2 s hs (by omega)
        have e : pVal (f + 1) (b.drop p) nd ar = listRes (pKids f s (nd + 1) (ar + 1)) := by
          rw [hs, pVal]
          have hb : begins 40 = true := rfl
          simp only [hb]
          rw [if_neg (by simp), if_neg (by omega), if_pos trivial]
          rfl
        rw [e]
        exact h
      · refine refValue_small f A n c p nd ar b B w hr hB hn hc hp hnd har fun s hs => ?_
        rcases Nat.lt_or_ge nd 512 with h1 | h1
        · rcases Nat.lt_or_ge ar 16 with h2 | h2
          · exact absurd ⟨⟨s, hs⟩, h1, h2⟩ hq
          · exact .inr h2
        · exact .inl h1
end Go.Proofs.YtaenahilnnlbfaaDoor
