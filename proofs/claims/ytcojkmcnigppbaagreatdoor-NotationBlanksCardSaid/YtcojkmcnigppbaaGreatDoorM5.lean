/-
  Several texts in one: RefRead6, NotRef10, NtHint, NtVal, NtList, Get, NtFrm, NtAll, NtCat, NtRead, NtPub, NpTok, NpPl, NpM, Shelf3, NpAdv, NpPrint, NotAwake, SexpZero, RefGet, NotM5, RefSame. Conditions: those that each theorem states.
-/
import Derived.Test.YtcojkmcnigppbaaGreatDoorM4
import Derived.Defers
import Derived.Recover
import Derived.Lib.Join
import Derived.Shelf.Strings.Builder1
import Derived.Shelf.Strings.Builder2
import Derived.Shelf.Strings.OnBuilder
import Derived.Shelf.Strings.Trim
import Derived.Shelf.Small.Strs
import Derived.Shelf.Strings.BuilderF
import Derived.Shelf.Strings.BuilderK
import Derived.Shelf.Strconv.Itoa0
import Derived.Shelf.Strconv.Itoa1
import Derived.Shelf.LaysM
import Derived.Shelf.Strconv.Itoa2
import Derived.Shelf.Strconv.Itoa3
import Derived.Shelf.Strings.Search1
import Derived.Ground.SlbCloneProg
import Derived.Shelf.Bytes.SlClone
import Derived.Test.YtcojkmcnigppbaaGreatDoorProg
import Derived.Deep.OwnRows
import Derived.StillTailTactics
set_option linter.unusedVariables false
set_option linter.unusedSimpArgs false
open Go.Lib (hid)
open Go.Proofs.YtcojkmcnigppbaaGreatDoor (zA zB zC zD zE zF)

section
namespace Go.Proofs.YtcojkmcnigppbaaGreatDoor
open Go Go.Proofs Go.RowKit Sx Oct
set_option maxHeartbeats 4000000 in
set_option maxRecDepth 100000 in
theorem refValue_list (f : Nat) (hV : ∀ g, g < f → RValSpec g) (A : Option Addr) (n c p nd ar : Nat) (b : List UInt8) (L B : Nat) (w : World) (hr : Reads w B 1 A n (Lib.byteCells b)) (hLo : ∀ ad, A = some ad → L ≤ ad.block) (hBw : B ≤ w.heap.size) (hn : n ≤ 5000) (hc : n ≤ c) (hnd : nd < 512) (har : ar < 16)
    (s : List UInt8) (hs : b.drop p = 40 :: s) (hf : 2 * s.length + 2 ≤ f) :
    Calls Tryz.prog 66 #[.slice A n c, .int .i64 p, .int .i64 ((ar : Int) + 1), .int .i64 nd] w fun e w' => RVal w L B n e w' (listRes (pKids f s (nd + 1) (ar + 1))) := by
  generalize hRR : pKids f s (nd + 1) (ar + 1) = R
  have hl : b.length = n := by have := hr.1; simpa [Lib.byteCells_length] using this
  have hsl : (40 :: s : List UInt8).length = n - p := by rw [← hs, List.length_drop, hl]
  have hsl' : s.length + 1 = n - p := by rw [← hsl]; simp
  have hz1 : (w.alloc (.cells #[.bool false, .bool false, .slice none 0 0, .slice none 0 0, .slice none 0 0, .int .i64 0, .int .i64 0, .int .i64 0] 55)).heap.size = w.heap.size + 1 := by simp
  have b1 := below_new w (.cells #[.bool false, .bool false, .slice none 0 0, .slice none 0 0, .slice none 0 0, .int .i64 0, .int .i64 0, .int .i64 0] 55)
  have b2 := below_new (w.alloc (.cells #[.bool false, .bool false, .slice none 0 0, .slice none 0 0, .slice none 0 0, .int .i64 0, .int .i64 0, .int .i64 0] 55)) (.cells #[.bool true, .bool false, .slice none 0 0, .slice none 0 0, .slice none 0 0] 25)
  have hb0 := b1.trans (b2.mono (by omega))
  have X1 : Box8 ((w.alloc (.cells #[.bool false, .bool false, .slice none 0 0, .slice none 0 0, .slice none 0 0, .int .i64 0, .int .i64 0, .int .i64 0] 55)).alloc (.cells #[.bool true, .bool false, .slice none 0 0, .slice none 0 0, .slice none 0 0] 25)) w.heap.size (.bool false) (.bool false) (.slice none 0 0) (.slice none 0 0) (.slice none 0 0) (.int .i64 0) (.int .i64 0) (.int .i64 0) := below_at b2 (heap_alloc_new w _)
  have X2 : Box ((w.alloc (.cells #[.bool false, .bool false, .slice none 0 0, .slice none 0 0, .slice none 0 0, .int .i64 0, .int .i64 0, .int .i64 0] 55)).alloc (.cells #[.bool true, .bool false, .slice none 0 0, .slice none 0 0, .slice none 0 0] 25)) (w.heap.size + 1) (.bool true) (.bool false) (.slice none 0 0) (.slice none 0 0) (.slice none 0 0) := by
    have := heap_alloc_new (w.alloc (.cells #[.bool false, .bool false, .slice none 0 0, .slice none 0 0, .slice none 0 0, .int .i64 0, .int .i64 0, .int .i64 0] 55)) (.cells #[.bool true, .bool false, .slice none 0 0, .slice none 0 0, .slice none 0 0] 25)
    rw [hz1] at this
    exact this
  have hz2 : ((w.alloc (.cells #[.bool false, .bool false, .slice none 0 0, .slice none 0 0, .slice none 0 0, .int .i64 0, .int .i64 0, .int .i64 0] 55)).alloc (.cells #[.bool true, .bool false, .slice none 0 0, .slice none 0 0, .slice none 0 0] 25)).heap.size = w.heap.size + 2 := by simp
  have hr1 := hr.keep (w' := (w.alloc (.cells #[.bool false, .bool false, .slice none 0 0, .slice none 0 0, .slice none 0 0, .int .i64 0, .int .i64 0, .int .i64 0] 55))) fun q hq => b1.cell (by omega)
  obtain ⟨ad, rfl, hadB, hcell⟩ := at_drop hr1 (p := p) (by omega) hs
  have hp0 : (0 : Int) ≤ p := by omega
  have hplt : (p : Int) < n := by omega
  have hpge : ¬ (n : Int) ≤ p := by omega
  have hw1 : IntKind.i64.wrap ((nd : Int) + 1) = (nd : Int) + 1 := IntWalk.i64_in _ (by omega)
  have hgt : ¬ (512 : Int) < (nd : Int) + 1 := by omega
  have har2 : ¬ (16 : Int) < (ar : Int) + 1 := by omega
  have hd1 : b.drop (n - s.length) = s := by rw [show n - s.length = p + 1 by omega, ← List.drop_drop, hs]; rfl
  have hi1 : (Value.int .i64 ((n - s.length : Nat) : Int)) = .int .i64 ((p : Int) + 1) := by congr 1; omega
  have hi3 : (Value.int .i64 ((nd + 1 : Nat) : Int)) = .int .i64 ((nd : Int) + 1) := by congr 1
  have hL0 : RHas w ((w.alloc (.cells #[.bool false, .bool false, .slice none 0 0, .slice none 0 0, .slice none 0 0, .int .i64 0, .int .i64 0, .int .i64 0] 55)).alloc (.cells #[.bool true, .bool false, .slice none 0 0, .slice none 0 0, .slice none 0 0] 25)) L B [] (.slice none 0 0) [] :=
    ⟨X1, X2, ⟨rfl, .inl ⟨rfl, rfl⟩⟩, fun i t hit => by simp at hit, hb0, by omega⟩
  have hRe : Hid (R = addK [] (pKids f s (nd + 1) (ar + 1))) := by
    show _ = _
    rw [hRR]
    cases R <;> simp [addK]
  have HL0 := hid hL0
  have HD := hid hd1
  have HV := hid hV
  have HR := hid hr
  have HHL := hid hl
  clear hL0 X1 X2 hb0 b1 b2 hs hsl hd1 hV hr hr1 hl hRR
  go_enter Tryz.func66, Tryz.ntmps66
  go_wp2_with fail
  go_loopw [1, 3] (fun i1 i3 wr => Hid (RRel w (some ad) n (ar + 1) f b L B R i1 i3 wr)) (fun i1 _ _ => n - (intOf i1).toNat)
  case atStart => exact ⟨[], f, s, nd + 1, _, _, HL0.out, hi1.symm, hi3.symm, by omega, HD.out, Nat.le_refl _, by omega, hRe.out, by omega, Nat.zero_le _⟩
  case round =>
    obtain ⟨acc, g, sk, ndk, v, ys, hH, rfl, rfl, hskl, hsk, hgf, hg2, hRk2, hndk, haccl⟩ := hrel.out
    clear HL0 hrel hRe
    have hw := hH.2.2.2.2.1
    have hwz := hH.2.2.2.2.2
    have hrk := HR.out.keep (w' := wr) fun q hq => hw.cell (by omega)
    have hw2 : IntKind.i64.wrap ((ar : Int) + 1 + 1) = (ar : Int) + 1 + 1 := IntWalk.i64_in _ (by omega)
    have HW := hid hw
    have HH := hid hH
    obtain ⟨g, rfl⟩ : ∃ g', g = g' + 1 := ⟨g - 1, by omega⟩
    cases sk with
    | nil =>
      have hRk2 : R = .err 2 [] := by rw [pKids] at hRk2; exact hRk2
      have HRK := hid hRk2
      obtain ⟨g, rfl⟩ : ∃ g', g = g' + 1 := ⟨g - 1, by simp at hg2; omega⟩
      have C := HV.out (g + 1) (by omega) (some ad) n c n ndk (ar + 1) b L B wr hrk hLo (by have := hw.size; omega) hn hc (Nat.le_refl _) hndk (by omega) (by omega)
      rw [show ((ar + 1 : Nat) : Int) + 1 = (ar : Int) + 1 + 1 by omega, List.drop_eq_nil_of_le (by rw [HHL.out]; exact Nat.le_refl _), pVal] at C
      have hn0 : ((n - ([] : List UInt8).length : Nat) : Int) = n := by simp
      have C := hid C
      rw [hn0]
      clear hH hw hrk hsk hRk2 hskl hg2
      go_wp2_with fail
      refine C.out.mono ?_
      rintro e w3 ⟨hk1, hk2, rfl, hb3⟩
      rw [hn0]
      have X0 : Box8 (w3.alloc (.cells #[.bool false, .bool false, .slice none 0 0, .slice none 0 0, .slice none 0 0, .int .i64 0, .int .i64 0, .int .i64 0] 55)) w3.heap.size (.bool false) (.bool false) (.slice none 0 0) (.slice none 0 0) (.slice none 0 0) (.int .i64 0) (.int .i64 0) (.int .i64 0) := heap_alloc_new w3 _
      obtain ⟨⟨d0, d1, d2, d3, d4, d5, d6, d7⟩, dz⟩ := X0.all
      have dz0 := dz 0
      have dz1 := dz 1
      have dz2 := dz 2
      have dz3 := dz 3
      have dz4 := dz 4
      have dz5 := dz 5
      have dz6 := dz 6
      have dz7 := dz 7
      have hbx := below_new w3 (.cells #[.bool false, .bool false, .slice none 0 0, .slice none 0 0, .slice none 0 0, .int .i64 n, .int .i64 0, .int .i64 2] 55)
      have hw3 := HW.out.trans (hb3.mono HW.out.size)
      have hw4 := hw3.trans (hbx.mono hw3.size)
      obtain ⟨⟨f0, f1, f2, f3, f4, f5, f6, f7⟩, fz⟩ := ((HH.out.1.old hb3).old hbx).all
      have fz0 := fz 0
      have fz1 := fz 1
      have fz2 := fz 2
      have fz3 := fz 3
      have fz4 := fz 4
      have fz5 := fz 5
      have fz6 := fz 6
      have fz7 := fz 7
      have HF := hid (put8_below hw4 (Nat.le_refl _) (.bool false) (.bool false) (.slice none 0 0) (.slice none 0 0) (.slice none 0 0) (.int .i64 n) (.int .i64 0) (.int .i64 2))
      clear dz fz X0 hbx hw3 hw4 hb3
      go_wp2_with fail
      refine bodyPost_ret (v := .agg #[.bool false, .bool false, .slice none 0 0, .slice none 0 0, .slice none 0 0, .int .i64 n, .int .i64 0, .int .i64 2]) (by simp [results, Tryz.results66, go_sem, d0, d1, d2, d3, d4, d5, d6, d7, f0, f1, f2, f3, f4, f5, f6, f7]) rfl ?_
      rw [HRK.out]
      exact ⟨by omega, by omega, by simp, HF.out⟩
    | cons c0 r0 =>
      have hlr : (c0 :: r0).length = r0.length + 1 := by simp
      obtain ⟨q, hq⟩ : ∃ q, q = n - (c0 :: r0).length := ⟨_, rfl⟩
      rw [← hq] at hsk
      have hn1 : ((n - (c0 :: r0).length : Nat) : Int) = (q : Int) := by rw [hq]
      rw [hn1]
      have HQ := hid hq
      clear hn1
      have hqn : q + r0.length + 1 = n := by omega
      obtain ⟨ad', hA', -, hc0⟩ := at_drop hrk (p := q) (by omega) hsk
      injection hA' with hA'
      subst hA'
      clear hq
      have hq0 : (0 : Int) ≤ q := by omega
      have hql : (q : Int) < n := by omega
      rw [pKids] at hRk2
      try simp only at hRk2
      by_cases h41 : c0 = 41
      · subst h41
        rw [if_pos rfl] at hRk2
        replace hRk2 : R = .ok (acc ++ [], ndk) r0 := hRk2
        rw [List.append_nil] at hRk2
        have HRK := hid hRk2
        have hpl : ((n - r0.length : Nat) : Int) = (q : Int) + 1 := by omega
        have HPL := hid hpl
        have hwq : IntKind.i64.wrap ((q : Int) + 1) = (q : Int) + 1 := IntWalk.i64_in _ (by omega)
        obtain ⟨x1, x2, ho, hk, hgw, hz⟩ := hH
        obtain ⟨A3, c3, rfl⟩ := own_form ho
        obtain ⟨_, _, e1, hnc, hri⟩ := RIn.of_own ho
        injection e1 with e1a e1b e1c
        subst e1a e1c
        obtain ⟨⟨f0, f1, f2, f3, f4, f5, f6, f7⟩, fz⟩ := x1.all
        obtain ⟨⟨d0, d1, d2, d3, d4⟩, dz⟩ := x2.all
        have fz0 := fz 0
        have fz1 := fz 1
        have fz2 := fz 2
        have fz3 := fz 3
        have fz4 := fz 4
        have fz5 := fz 5
        have fz6 := fz 6
        have fz7 := fz 7
        have hKF := fun (q' : Addr) (hq' : (L ≤ q'.block ∧ q'.block < B) ∨ w.heap.size + 1 ≤ q'.block) => put8_far (w := wr) (b := w.heap.size) (x0 := .bool true) (x1 := .bool false) (x2 := .slice none 0 0) (x3 := .slice none 0 0) (x4 := .slice A3 acc.length c3) (x5 := .int .i64 ((q : Int) + 1)) (x6 := .int .i64 ndk) (x7 := .int .i64 0) q' (by omega)
        have hiF : SIn (put8 wr w.heap.size (.bool true) (.bool false) (.slice none 0 0) (.slice none 0 0) (.slice A3 acc.length c3) (.int .i64 ((q : Int) + 1)) (.int .i64 ndk) (.int .i64 0)) (fun k => (L ≤ k ∧ k < B) ∨ w.heap.size ≤ k) (.mk true false [] [] acc) [.bool true, .bool false, .slice none 0 0, .slice none 0 0, .slice A3 acc.length c3] :=
          .mk RIn.none_ ⟨Nat.le_refl _, by omega⟩ RIn.none_ ⟨Nat.le_refl _, by omega⟩ (((hri.more (S' := fun b => (L ≤ b ∧ b < B) ∨ w.heap.size + 1 ≤ b) fun b hb => by omega).keep hKF).more fun b hb => by omega) ⟨hnc, by omega⟩ rfl
            (fun i t hit => (((hk i t hit).more (S' := fun b => (L ≤ b ∧ b < B) ∨ w.heap.size + 1 ≤ b) fun b hb => by omega).keep hKF).more fun b hb => by omega)
        have hbF := put8_below hgw (Nat.le_refl _) (.bool true) (.bool false) (.slice none 0 0) (.slice none 0 0) (.slice A3 acc.length c3) (.int .i64 ((q : Int) + 1)) (.int .i64 ndk) (.int .i64 0)
        have HF := hid (And.intro hiF hbF)
        clear dz fz x1 x2 ho hk hgw hri hiF hbF hKF hw hrk hsk hRk2 hpl HH
        go_wp2_with fail
        refine bodyPost_ret (v := .agg #[.bool true, .bool false, .slice none 0 0, .slice none 0 0, .slice A3 acc.length c3, .int .i64 ((q : Int) + 1), .int .i64 ndk, .int .i64 0]) (by simp [results, Tryz.results66, go_sem, d0, d1, d2, d3, d4, f0, f1, f2, f3, f4, f5, f6, f7]) rfl ?_
        rw [HRK.out]
        exact ⟨_, _, _, _, _, by rw [HPL.out], HF.out⟩
      · rw [if_neg h41] at hRk2
        have h41' : ((c0.toNat : Int) == 41) = false := by
          rw [beq_eq_false_iff_ne]
          intro e
          exact h41 (UInt8.toNat_inj.1 (by show c0.toNat = 41; omega))
        have C := HV.out g (by omega) (some ad) n c q ndk (ar + 1) b L B wr hrk hLo (by have := hw.size; omega) hn hc (by omega) hndk (by omega) (by omega)
        rw [show ((ar + 1 : Nat) : Int) + 1 = (ar : Int) + 1 + 1 by omega, hsk] at C
        cases hpv : pVal g (c0 :: r0) ndk (ar + 1) with
        | err k rest =>
          rw [hpv] at hRk2 C
          have hRk2 : R = .err k rest := hRk2
          have HRK := hid hRk2
          have C := hid C
          clear hH hw hrk hsk hRk2 hskl hg2 hpv h41
          go_wp2_with fail
          refine C.out.mono ?_
          rintro e w3 ⟨hk1, hk2, rfl, hb3⟩
          have hk0 : ¬ ((k : Int) = 0) := by omega
          have X0 : Box8 (w3.alloc (.cells #[.bool false, .bool false, .slice none 0 0, .slice none 0 0, .slice none 0 0, .int .i64 0, .int .i64 0, .int .i64 0] 55)) w3.heap.size (.bool false) (.bool false) (.slice none 0 0) (.slice none 0 0) (.slice none 0 0) (.int .i64 0) (.int .i64 0) (.int .i64 0) := heap_alloc_new w3 _
          obtain ⟨⟨d0, d1, d2, d3, d4, d5, d6, d7⟩, dz⟩ := X0.all
          have dz0 := dz 0
          have dz1 := dz 1
          have dz2 := dz 2
          have dz3 := dz 3
          have dz4 := dz 4
          have dz5 := dz 5
          have dz6 := dz 6
          have dz7 := dz 7
          have hbx := below_new w3 (.cells #[.bool false, .bool false, .slice none 0 0, .slice none 0 0, .slice none 0 0, .int .i64 (n - rest.length : Nat), .int .i64 0, .int .i64 k] 55)
          have hw3 := HW.out.trans (hb3.mono HW.out.size)
          have hw4 := hw3.trans (hbx.mono hw3.size)
          obtain ⟨⟨f0, f1, f2, f3, f4, f5, f6, f7⟩, fz⟩ := ((HH.out.1.old hb3).old hbx).all
          have fz0 := fz 0
          have fz1 := fz 1
          have fz2 := fz 2
          have fz3 := fz 3
          have fz4 := fz 4
          have fz5 := fz 5
          have fz6 := fz 6
          have fz7 := fz 7
          have HF := hid (put8_below hw4 (Nat.le_refl _) (.bool false) (.bool false) (.slice none 0 0) (.slice none 0 0) (.slice none 0 0) (.int .i64 (n - rest.length : Nat)) (.int .i64 0) (.int .i64 k))
          clear dz fz X0 hbx hw3 hw4 hb3
          go_wp2_with fail
          refine bodyPost_ret (v := .agg #[.bool false, .bool false, .slice none 0 0, .slice none 0 0, .slice none 0 0, .int .i64 (n - rest.length : Nat), .int .i64 0, .int .i64 k]) (by simp [results, Tryz.results66, go_sem, d0, d1, d2, d3, d4, d5, d6, d7, f0, f1, f2, f3, f4, f5, f6, f7]) rfl ?_
          rw [HRK.out]
          exact ⟨by omega, by omega, by simp, HF.out⟩
        | ok y rest =>
          obtain ⟨t, nd'⟩ := y
          rw [hpv] at hRk2 C
          obtain ⟨hst, -, hnd', hnd5, -⟩ := (sound g).1 _ _ _ _ _ _ hpv (by omega)
          have HST := hid hst
          have HND := hid hnd'
          have HR2 := hid hRk2
          have C := hid C
          have HSK := hid hsk
          have hnp := nodes_pos t
          clear hH hw hrk hsk hRk2 hpv h41 hst hnd'
          go_wp2_with fail
          refine C.out.mono ?_
          rintro e w3 ⟨v0, v1, v2, v3, v4, rfl, hin, hb3⟩
          obtain ⟨l', h', hi', da', ks', B1, m1, j1, B2, m2, j2, B3, m3, j3, eZ, eE⟩ := hin.form_
          injection eE with eE0 eE; injection eE with eE1 eE; injection eE with eE2 eE; injection eE with eE3 eE; injection eE with eE4 eE
          subst eE0 eE1 eE2 eE3 eE4
          clear eE eZ
          have X0 : Box8 (w3.alloc (.cells #[.bool false, .bool false, .slice none 0 0, .slice none 0 0, .slice none 0 0, .int .i64 0, .int .i64 0, .int .i64 0] 55)) w3.heap.size (.bool false) (.bool false) (.slice none 0 0) (.slice none 0 0) (.slice none 0 0) (.int .i64 0) (.int .i64 0) (.int .i64 0) := heap_alloc_new w3 _
          obtain ⟨⟨d0, d1, d2, d3, d4, d5, d6, d7⟩, dz⟩ := X0.all
          have dz0 := dz 0
          have dz1 := dz 1
          have dz2 := dz 2
          have dz3 := dz 3
          have dz4 := dz 4
          have dz5 := dz 5
          have dz6 := dz 6
          have dz7 := dz 7
          have hbx := below_new w3 (.cells #[.bool l', .bool h', .slice B1 m1 j1, .slice B2 m2 j2, .slice B3 m3 j3, .int .i64 (n - rest.length : Nat), .int .i64 nd', .int .i64 0] 55)
          obtain ⟨⟨g0, g1, g2, g3, g4⟩, gz⟩ := ((HH.out.2.1.old hb3).old hbx).all
          have gz4 := gz 4
          clear dz gz
          obtain ⟨i0, hi, hz0, hz1i, hz2i⟩ := info_parts infoSexp
          have HI := hid hi
          have hR5 := reads_five (w := (w3.alloc (.cells #[.bool l', .bool h', .slice B1 m1 j1, .slice B2 m2 j2, .slice B3 m3 j3, .int .i64 (n - rest.length : Nat), .int .i64 nd', .int .i64 0] 55))) (v0 := .bool l') (v1 := .bool h') (v2 := .slice B1 m1 j1) (v3 := .slice B2 m2 j2) (v4 := .slice B3 m3 j3) 25 (0, 0)
          have hg1 := hb3.trans (hbx.mono hb3.size)
          have hH3 := HH.out.keep hg1
          have HH3 := hid hH3
          have hb4 := below_new (w3.alloc (.cells #[.bool l', .bool h', .slice B1 m1 j1, .slice B2 m2 j2, .slice B3 m3 j3, .int .i64 (n - rest.length : Nat), .int .i64 nd', .int .i64 0] 55)) (.cells #[.bool l', .bool h', .slice B1 m1 j1, .slice B2 m2 j2, .slice B3 m3 j3] 25)
          have hown3 := own_old hH3.2.2.1 hb4
          have HIN := hid (hin.old hbx)
          have hone := sin_one hin
          have hz3 := hb3.size
          have hsz8 : (w3.alloc (.cells #[.bool l', .bool h', .slice B1 m1 j1, .slice B2 m2 j2, .slice B3 m3 j3, .int .i64 (n - rest.length : Nat), .int .i64 nd', .int .i64 0] 55)).heap.size = w3.heap.size + 1 := by simp
          rw [hsz8] at hR5
          have hsz5 : ((w3.alloc (.cells #[.bool l', .bool h', .slice B1 m1 j1, .slice B2 m2 j2, .slice B3 m3 j3, .int .i64 (n - rest.length : Nat), .int .i64 nd', .int .i64 0] 55)).alloc (.cells #[.bool l', .bool h', .slice B1 m1 j1, .slice B2 m2 j2, .slice B3 m3 j3] 25)).heap.size = w3.heap.size + 1 + 1 := by simp
          have HX8 := hid (show Box8 (w3.alloc (.cells #[.bool l', .bool h', .slice B1 m1 j1, .slice B2 m2 j2, .slice B3 m3 j3, .int .i64 (n - rest.length : Nat), .int .i64 nd', .int .i64 0] 55)) w3.heap.size (.bool l') (.bool h') (.slice B1 m1 j1) (.slice B2 m2 j2) (.slice B3 m3 j3) (.int .i64 (n - rest.length : Nat)) (.int .i64 nd') (.int .i64 0) from heap_alloc_new w3 _)
          have HBX := hid hH3.2.1
          have hovn : ∀ k, k < w.heap.size + 2 ∨ wr.heap.size ≤ k → v.ownBlock ≠ some k := fun k hk e => by have := own_lt HH.out.2.2.1 e; omega
          have HOV := hid hovn
          clear hi hH3 hin hbx hovn
          go_wp2_with (at_builtin; refine wpList_append_any _ rfl (.tmp 91) (.tmp 94) 23 rfl (w.heap.size + 2) 25 i0 _ 5 80 Tryz.underlying23 HI.out hz0 hz1i hz2i rfl (by omega) v acc.length ys rfl hown3 _ _ 1 _ [.bool l', .bool h', .slice B1 m1 j1, .slice B2 m2 j2, .slice B3 m3 j3] rfl hR5 hone (by unfold maxLen; omega) (by omega) (by simp; omega) ?_)
          intro v' w5 hown5 hg5 hv5
          have hHS := HH3.out.step hBw HIN.out (fun k hk => (own_lt HH.out.2.2.1 hk).2) (by omega) hown5 hg5 (by rw [hsz5]; exact hv5)
          obtain ⟨A5, c5, rfl⟩ := own_form hown5
          have hx5 := (HBX.out.old hb4).grown hg5 (HOV.out _ (by omega))
          have m7 := hx5.all.1.2.2.2.2
          have mz7 := hx5.all.2 4
          have hx8 : Box8 (w5.setCell ⟨w.heap.size + 1, 4, none⟩ (.slice A5 (acc.length + 1) c5)) w3.heap.size (.bool l') (.bool h') (.slice B1 m1 j1) (.slice B2 m2 j2) (.slice B3 m3 j3) (.int .i64 (n - rest.length : Nat)) (.int .i64 nd') (.int .i64 0) :=
            (Below.heap_setCell w5 ⟨w.heap.size + 1, 4, none⟩ _ w3.heap.size (by show w3.heap.size ≠ w.heap.size + 1; omega)).trans ((hg5.block w3.heap.size (by simp; omega) (fun e => HOV.out _ (by omega) e.symm)).trans (below_at hb4 HX8.out))
          obtain ⟨⟨-, -, -, -, -, y5, y6, -⟩, -⟩ := hx8.all
          have HHS := hid hHS
          clear hHS hx5 hx8 hown5 hg5 hv5 hown3 g0 g1 g2 g3 g4 d0 d1 d2 d3 d4 d5 d6 d7
          go_wp2_with fail
          obtain ⟨hd2, hq1, hq2⟩ := drop_rest (by rw [HHL.out]; omega) HSK.out HST.out
          rw [HHL.out] at hd2 hq1 hq2
          have hfl : 1 ≤ (form t).length := by
            obtain ⟨c1, q1, hq, -⟩ := form_head t
            rw [hq]; simp
          have hlt : rest.length + (form t).length = (c0 :: r0).length := by
            have := congrArg List.length HST.out
            rw [List.length_append] at this
            omega
          have hRR : R = addK (acc ++ [t]) (pKids g rest nd' (ar + 1)) := by
            rw [HR2.out]
            cases pKids g rest nd' (ar + 1) with
            | err e q => rfl
            | ok y q => obtain ⟨ks, q2⟩ := y; simp [addK]
          have hnd := HND.out
          refine ⟨⟨acc ++ [t], g, rest, nd', _, _, HHS.out, rfl, rfl, by omega, hd2, by omega, by omega, hRR, hnd5, by simp; omega⟩, ?_⟩
          simp only [intOf, Int.toNat_natCast]
          omega
theorem refValue_all (f : Nat) : RValSpec f := by
  induction f using Nat.strongRecOn with
  | _ f ih =>
    cases f with
    | zero =>
      intro A n c p nd ar b L B w hr hLo hB hn hc hp hnd har hf
      omega
    | succ f =>
      intro A n c p nd ar b L B w hr hLo hB hn hc hp hnd har hf
      by_cases hq : (∃ s, b.drop p = 40 :: s) ∧ nd < 512 ∧ ar < 16
      · obtain ⟨⟨s, hs⟩, h1, h2⟩ := hq
        have hl : b.length = n := by have := hr.1; simpa [Lib.byteCells_length] using this
        have hsl := congrArg List.length hs
        rw [List.length_drop, hl, List.length_cons] at hsl
        have h := refValue_list f (fun g hg => ih g (by omega)) A n c p nd ar b L B w hr hLo hB hn hc h1 h2 s hs (by omega)
        have e : pVal (f + 1) (b.drop p) nd ar = listRes (pKids f s (nd + 1) (ar + 1)) := by
          rw [hs, pVal]
          have hb : begins 40 = true := rfl
          simp only [hb]
          rw [if_neg (by simp), if_neg (by omega), if_pos trivial]
          rfl
        rw [e]
        exact h
      · refine refValue_small f A n c p nd ar b L B w hr hLo hB hn hc hp hnd har fun s hs => ?_
        rcases Nat.lt_or_ge nd 512 with h1 | h1
        · rcases Nat.lt_or_ge ar 16 with h2 | h2
          · exact absurd ⟨⟨s, hs⟩, h1, h2⟩ hq
          · exact .inr h2
        · exact .inl h1
end Go.Proofs.YtcojkmcnigppbaaGreatDoor
end
section
namespace Go.Proofs.YtcojkmcnigppbaaGreatDoor
open Go Go.Proofs Go.RowKit Sx Oct
theorem drop_tail {s : ByteArray} {q r : List UInt8} {p : Nat} (hr : s.data.toList.drop p = r) (h : Tail q r) : s.data.toList.drop (s.size - q.length) = q := by
  have := (h.trans (hr ▸ Tail.drop s.data.toList p)).at_
  rw [show s.data.toList.length = s.size by simp] at this
  exact this
theorem tail_size {s : ByteArray} {q r : List UInt8} {p : Nat} (hr : s.data.toList.drop p = r) (h : Tail q r) : q.length ≤ s.size := by
  have := h.le
  have h2 : r.length ≤ s.size := by rw [← hr, List.length_drop, show s.data.toList.length = s.size by simp]; omega
  omega
theorem b64_ge (y : List UInt8) : y.length ≤ (b64 y).length := by
  rw [b64_groups, List.length_append, List.length_map, List.length_range]
  omega
theorem unhex_le {l b : List UInt8} (h : unhex l = some b) : b.length ≤ l.length := by
  rcases Nat.mod_two_eq_zero_or_one l.length with h2 | h2
  · have := unhex_length (l.length / 2) l b (by omega) h
    omega
  · rw [unhex_odd (l.length / 2) l (by omega)] at h
    cases h
theorem aMean_le {may : UInt8 → Bool} {stop : UInt8} {mean : List UInt8 → Option (List UInt8)} (hm : ∀ l b, mean l = some b → b.length ≤ l.length) {s b q : List UInt8} (h : aMean mean (aSome may stop s) = .ok b q) : b.length ≤ s.length := by
  unfold aMean at h
  cases hx : aSome may stop s with
  | err e q' => rw [hx] at h; cases h
  | ok l q' =>
    rw [hx] at h
    simp only at h
    cases hl : mean l with
    | none => rw [hl] at h; cases h
    | some b' =>
      rw [hl] at h
      injection h with h1 h2
      subst h1
      have h3 := hm l _ hl
      have h4 := (aSome_len hx).1
      omega
theorem aQuoted_le : ∀ (f : Nat) {s b q : List UInt8}, aQuoted f s = .ok b q → b.length ≤ s.length
  | 0, s, b, q, h => by cases h
  | f + 1, [], b, q, h => by cases h
  | f + 1, c :: r, b, q, h => by
    rw [aQuoted] at h
    split at h
    · injection h with h1 h2
      subst h1
      simp
    · split at h
      · cases hE : aEsc r with
        | err e q' => rw [hE] at h; cases h
        | ok y q' =>
          rw [hE] at h
          simp only at h
          have ht := (aEsc_tail hE).le
          cases hQ : aQuoted f q' with
          | err e q'' => rw [hQ] at h; cases h
          | ok l q'' =>
            rw [hQ] at h
            injection h with h1 h2
            subst h1
            have := aQuoted_le f hQ
            simp
            omega
      · cases hQ : aQuoted f r with
        | err e q'' => rw [hQ] at h; cases h
        | ok l q'' =>
          rw [hQ] at h
          injection h with h1 h2
          subst h1
          have := aQuoted_le f hQ
          simp
          omega
theorem aPlain_le {s b q : List UInt8} (h : aPlain s = .ok b q) : b.length ≤ s.length := by
  match s with
  | [] => cases h
  | c :: r =>
    simp only [aPlain] at h
    split at h
    · have := (pBytes_sound h).1
      rw [this]
      simp [text]
      omega
    · split at h
      · injection h with h1 h2
        rw [← h1]
        have := congrArg List.length (List.takeWhile_append_dropWhile (p := isTok) (l := c :: r))
        rw [List.length_append] at this
        omega
      · split at h
        · have := aQuoted_le _ h
          simp
          omega
        · split at h
          · have := aMean_le (fun l b hl => unhex_le hl) h
            simp
            omega
          · split at h
            · have := aMean_le (fun l b hl => by have h1 := b64_ge b; rw [b64_ub64 l b hl] at h1; exact h1) h
              simp
              omega
            · cases h
theorem aPlain_len {s b q : List UInt8} (h : aPlain s = .ok b q) (hs : s.length ≤ 1099511627776) : b.length ≤ 140737488355328 := by
  have := aPlain_le h
  omega
theorem aPlain_tail {s b q : List UInt8} (h : aPlain s = .ok b q) : Tail q s := by
  have := aPlain_fine s
  rw [h] at this
  exact this
set_option maxHeartbeats 4000000 in
set_option maxRecDepth 100000 in
theorem hinted3_any (s : ByteArray) (p nd : Nat) (w : World) (hs : s.size ≤ 1099511627776) (hp : p ≤ s.size) :
    Calls Tryz.prog 61 #[.string s, .int .i64 p, .int .i64 nd] w fun e w' => RVal w 0 0 s.size e w' (hintRes (aHint (s.data.toList.drop p)) nd) := by
  have hb1 := below_new w (.cells #[.bool false, .bool false, .slice none 0 0, .slice none 0 0, .slice none 0 0, .int .i64 0, .int .i64 0, .int .i64 0] 55)
  have HX : Hid (Box8 (w.alloc (.cells #[.bool false, .bool false, .slice none 0 0, .slice none 0 0, .slice none 0 0, .int .i64 0, .int .i64 0, .int .i64 0] 55)) w.heap.size (.bool false) (.bool false) (.slice none 0 0) (.slice none 0 0) (.slice none 0 0) (.int .i64 0) (.int .i64 0) (.int .i64 0)) := heap_alloc_new w _
  have hWz : (w.alloc (.cells #[.bool false, .bool false, .slice none 0 0, .slice none 0 0, .slice none 0 0, .int .i64 0, .int .i64 0, .int .i64 0] 55)).heap.size = w.heap.size + 1 := by simp
  have CS := refSkip_any s p (w.alloc (.cells #[.bool false, .bool false, .slice none 0 0, .slice none 0 0, .slice none 0 0, .int .i64 0, .int .i64 0, .int .i64 0] 55)) hs hp
  obtain ⟨a1, ha1⟩ : ∃ a1 : Nat, s.size - (skip (s.data.toList.drop p)).length = a1 := ⟨_, rfl⟩
  have hd1 := drop_tail (s := s) rfl (Tail.skip (s.data.toList.drop p))
  rw [ha1] at CS hd1
  have CP := plain3_any s a1 (w.alloc (.cells #[.bool false, .bool false, .slice none 0 0, .slice none 0 0, .slice none 0 0, .int .i64 0, .int .i64 0, .int .i64 0] 55)) hs (by omega)
  rw [hd1] at CP
  have CS := hid CS
  unfold aHint
  cases hX : aPlain (skip (s.data.toList.drop p)) with
  | err k q =>
    rw [hX] at CP
    have CP := hid CP
    simp only [hintRes]
    clear hX hd1 ha1
    go_enter Tryz.func61, Tryz.ntmps61
    go_wp2_with ((with_reducible refine CS.out.mono ?_); rintro e w1 ⟨rfl, rfl⟩)
    refine CP.out.mono ?_
    rintro e w2 ⟨hk1, hk2, rfl, hb2⟩
    have hw2 := hb1.trans (hb2.mono hb1.size)
    have hbx := below_new w2 (.cells #[.slice none 0 0, .int .i64 (s.size - q.length : Nat), .int .i64 k] 59)
    have X0 := heap_alloc_new w2 (.cells #[.slice none 0 0, .int .i64 0, .int .i64 0] 59)
    obtain ⟨⟨f0, f1, f2⟩, fz⟩ := box3b X0
    have fz0 := fz 0
    have fz1 := fz 1
    have fz2 := fz 2
    have hk0 : ¬ ((k : Int) = 0) := by omega
    obtain ⟨⟨d0, d1, d2, d3, d4, d5, d6, d7⟩, dz⟩ := ((HX.out.old hb2).old hbx).all
    have dz0 := dz 0
    have dz1 := dz 1
    have dz2 := dz 2
    have dz3 := dz 3
    have dz4 := dz 4
    have dz5 := dz 5
    have dz6 := dz 6
    have dz7 := dz 7
    clear dz
    have hw3 := hw2.trans (hbx.mono hw2.size)
    clear fz X0 hbx hb2
    have HF := hid (put8_below hw3 (Nat.le_refl _) (.bool false) (.bool false) (.slice none 0 0) (.slice none 0 0) (.slice none 0 0) (.int .i64 (s.size - q.length : Nat)) (.int .i64 0) (.int .i64 k))
    go_wp2_with fail
    exact bodyPost_ret (v := .agg #[.bool false, .bool false, .slice none 0 0, .slice none 0 0, .slice none 0 0, .int .i64 (s.size - q.length : Nat), .int .i64 0, .int .i64 k]) (by simp [results, Tryz.results61, go_sem, d0, d1, d2, d3, d4, d5, d6, d7]) rfl ⟨hk1, hk2, rfl, HF.out⟩
  | ok hi q =>
    rw [hX] at CP
    have CP := hid CP
    have HB1 := hid (aPlain_len hX (Nat.le_trans (tail_size hd1 (Tail.refl _)) hs))
    simp only
    have hd2 := drop_tail hd1 (aPlain_tail hX)
    obtain ⟨a2, ha2⟩ : ∃ a2 : Nat, s.size - q.length = a2 := ⟨_, rfl⟩
    rw [ha2] at hd2
    have CS2 := fun W => refSkip_any s a2 W hs (by omega)
    rw [hd2] at CS2
    have hd3 := drop_tail hd2 (Tail.skip q)
    have HA2 : Hid (((s.size - q.length : Nat) : Int) = a2) := by show _ = _; rw [ha2]
    clear hX hd1 ha1 ha2
    cases hq2 : skip q with
    | nil =>
      rw [hq2] at CS2
      have HPL : Hid (((s.size - ([] : List UInt8).length : Nat) : Int) = s.size) := by show _ = _; simp
      rw [HPL.out] at CS2
      have CS2 := hid CS2
      simp only [hintRes]
      clear hq2 hd2 hd3
      go_enter Tryz.func61, Tryz.ntmps61
      go_wp2_with ((with_reducible refine CS.out.mono ?_); rintro e w1 ⟨rfl, rfl⟩)
      refine CP.out.mono ?_
      rintro e w2 ⟨A2, c2, rfl, hc2, hri, hb2⟩
      rw [HA2.out]
      have hw2 := hb1.trans (hb2.mono hb1.size)
      have X0 := heap_alloc_new w2 (.cells #[.slice none 0 0, .int .i64 0, .int .i64 0] 59)
      obtain ⟨⟨f0, f1, f2⟩, fz⟩ := box3b X0
      have fz0 := fz 0
      have fz1 := fz 1
      have fz2 := fz 2
      have hbx := below_new w2 (.cells #[.slice A2 hi.length c2, .int .i64 a2, .int .i64 0] 59)
      have HXX := hid (heap_alloc_new w2 (.cells #[.slice A2 hi.length c2, .int .i64 a2, .int .i64 0] 59))
      have HXR := hid ((HX.out.old hb2).old hbx)
      have hw3 := hw2.trans (hbx.mono hw2.size)
      have hri3 := hid ((hri.size_ (by omega)).keep (w' := w2.alloc (.cells #[.slice A2 hi.length c2, .int .i64 a2, .int .i64 0] 59)) fun p hp => hbx.cell hp.2)
      have hz3 : (w2.alloc (.cells #[.slice A2 hi.length c2, .int .i64 a2, .int .i64 0] 59)).heap.size = w2.heap.size + 1 := by simp
      have hz2 := hb2.size
      clear fz X0 hbx hb2 hri hw2
      obtain ⟨⟨d0, d1, d2, d3, d4, d5, d6, d7⟩, dz⟩ := HXR.out.all
      have dz0 := dz 0
      have dz1 := dz 1
      have dz2 := dz 2
      have dz3 := dz 3
      have dz4 := dz 4
      have dz5 := dz 5
      have dz6 := dz 6
      have dz7 := dz 7
      clear dz
      have HF := hid (put8_below hw3 (Nat.le_refl _) (.bool false) (.bool false) (.slice none 0 0) (.slice none 0 0) (.slice none 0 0) (.int .i64 s.size) (.int .i64 0) (.int .i64 2))
      go_wp2_with ((with_reducible refine (CS2.out _).mono ?_); rintro e w1 ⟨rfl, rfl⟩)
      exact bodyPost_ret (v := .agg #[.bool false, .bool false, .slice none 0 0, .slice none 0 0, .slice none 0 0, .int .i64 s.size, .int .i64 0, .int .i64 2]) (by simp [results, Tryz.results61, go_sem, d0, d1, d2, d3, d4, d5, d6, d7]) rfl ⟨by omega, by omega, by rw [HPL.out]; first | done | rfl, HF.out⟩
    | cons c q3 =>
      rw [hq2] at CS2 hd3
      have hsz := tail_size hd3 (Tail.refl _)
      obtain ⟨a3, ha3⟩ : ∃ a3 : Nat, s.size - (c :: q3).length = a3 := ⟨_, rfl⟩
      rw [ha3] at hd3
      have HPL : Hid (((s.size - (c :: q3).length : Nat) : Int) = a3) := by show _ = _; rw [ha3]
      rw [HPL.out] at CS2
      have CS2 := hid CS2
      have hlt : a3 < s.size := by simp only [List.length_cons] at ha3 hsz; omega
      have hsx : s[a3] = c := by
        have := List.drop_eq_getElem_cons (l := s.data.toList) (i := a3) (by simpa using hlt)
        rw [hd3] at this
        injection this with h1 h2
        exact h1.symm
      have hd4 : s.data.toList.drop (a3 + 1) = q3 := by rw [← List.drop_drop, hd3]; rfl
      have hlt' : (a3 : Int) < s.size := by omega
      have hge' : ¬ (s.size : Int) ≤ a3 := by omega
      have hwa : IntKind.i64.wrap ((a3 : Int) + 1) = (a3 : Int) + 1 := IntWalk.i64_in _ (by omega)
      simp only
      clear ha3 hsz hq2 hd2 hd3
      by_cases hc : c = 93
      · rw [if_neg (fun h => h hc)]
        have e93 : ((c.toNat : Int) == 93) = true := by rw [hc]; rfl
        have e93' : ((c.toNat : Int) != 93) = false := by rw [hc]; rfl
        have CS3 := fun W => refSkip_any s (a3 + 1) W hs (by omega)
        have ec : ((a3 + 1 : Nat) : Int) = (a3 : Int) + 1 := by omega
        have hd5 := drop_tail hd4 (Tail.skip q3)
        rw [hd4, ec] at CS3
        obtain ⟨a4, ha4⟩ : ∃ a4 : Nat, s.size - (skip q3).length = a4 := ⟨_, rfl⟩
        rw [ha4] at CS3 hd5
        have CP3 := fun W => plain3_any s a4 W hs (by omega)
        rw [hd5] at CP3
        have CS3 := hid CS3
        have HQ3 : Hid ((skip q3).length ≤ 1099511627776) := Nat.le_trans (tail_size hd5 (Tail.refl _)) hs
        clear ec hd4 ha4 hd5 hc
        cases hX : aPlain (skip q3) with
        | err k q4 =>
          rw [hX] at CP3
          have CP3 := hid CP3
          simp only [hintRes]
          clear hX
          go_enter Tryz.func61, Tryz.ntmps61
          go_wp2_with ((with_reducible refine CS.out.mono ?_); rintro e w1 ⟨rfl, rfl⟩)
          refine CP.out.mono ?_
          rintro e w2 ⟨A2, c2, rfl, hc2, hri, hb2⟩
          rw [HA2.out]
          have hw2 := hb1.trans (hb2.mono hb1.size)
          have X0 := heap_alloc_new w2 (.cells #[.slice none 0 0, .int .i64 0, .int .i64 0] 59)
          obtain ⟨⟨f0, f1, f2⟩, fz⟩ := box3b X0
          have fz0 := fz 0
          have fz1 := fz 1
          have fz2 := fz 2
          have hbx := below_new w2 (.cells #[.slice A2 hi.length c2, .int .i64 a2, .int .i64 0] 59)
          have HXX := hid (heap_alloc_new w2 (.cells #[.slice A2 hi.length c2, .int .i64 a2, .int .i64 0] 59))
          have HXR := hid ((HX.out.old hb2).old hbx)
          have hw3 := hw2.trans (hbx.mono hw2.size)
          have hri3 := hid ((hri.size_ (by omega)).keep (w' := w2.alloc (.cells #[.slice A2 hi.length c2, .int .i64 a2, .int .i64 0] 59)) fun p hp => hbx.cell hp.2)
          have hz3 : (w2.alloc (.cells #[.slice A2 hi.length c2, .int .i64 a2, .int .i64 0] 59)).heap.size = w2.heap.size + 1 := by simp
          have hz2 := hb2.size
          clear fz X0 hbx hb2 hri hw2
          go_wp2_with (first | ((with_reducible refine (CS2.out _).mono ?_); rintro e w1 ⟨rfl, rfl⟩) | ((with_reducible refine (CS3.out _).mono ?_); rintro e w1 ⟨rfl, rfl⟩))
          generalize (w2.alloc (.cells #[.slice A2 hi.length c2, .int .i64 a2, .int .i64 0] 59)) = W at *
          clear f0 f1 f2 fz0 fz1 fz2
          refine (CP3.out _).mono ?_
          rintro e w4 ⟨hk1, hk2, rfl, hb4⟩
          have hk0 : ¬ ((k : Int) = 0) := by omega
          have hw4 := hw3.trans (hb4.mono hw3.size)
          have hbx := below_new w4 (.cells #[.slice none 0 0, .int .i64 (s.size - q4.length : Nat), .int .i64 k] 59)
          have X0 := heap_alloc_new w4 (.cells #[.slice none 0 0, .int .i64 0, .int .i64 0] 59)
          obtain ⟨⟨f0, f1, f2⟩, fz⟩ := box3b X0
          have fz0 := fz 0
          have fz1 := fz 1
          have fz2 := fz 2
          obtain ⟨⟨d0, d1, d2, d3, d4, d5, d6, d7⟩, dz⟩ := ((HXR.out.old hb4).old hbx).all
          have dz0 := dz 0
          have dz1 := dz 1
          have dz2 := dz 2
          have dz3 := dz 3
          have dz4 := dz 4
          have dz5 := dz 5
          have dz6 := dz 6
          have dz7 := dz 7
          clear dz
          have hw5 := hw4.trans (hbx.mono hw4.size)
          clear fz X0 hbx hb4
          have HF := hid (put8_below hw5 (Nat.le_refl _) (.bool false) (.bool false) (.slice none 0 0) (.slice none 0 0) (.slice none 0 0) (.int .i64 (s.size - q4.length : Nat)) (.int .i64 0) (.int .i64 k))
          go_wp2_with fail
          exact bodyPost_ret (v := .agg #[.bool false, .bool false, .slice none 0 0, .slice none 0 0, .slice none 0 0, .int .i64 (s.size - q4.length : Nat), .int .i64 0, .int .i64 k]) (by simp [results, Tryz.results61, go_sem, d0, d1, d2, d3, d4, d5, d6, d7]) rfl ⟨hk1, hk2, rfl, HF.out⟩
        | ok da q4 =>
          rw [hX] at CP3
          have CP3 := hid CP3
          have HB2 := hid (aPlain_len hX HQ3.out)
          simp only [hintRes]
          clear hX
          go_enter Tryz.func61, Tryz.ntmps61
          go_wp2_with ((with_reducible refine CS.out.mono ?_); rintro e w1 ⟨rfl, rfl⟩)
          refine CP.out.mono ?_
          rintro e w2 ⟨A2, c2, rfl, hc2, hri, hb2⟩
          rw [HA2.out]
          have hw2 := hb1.trans (hb2.mono hb1.size)
          have X0 := heap_alloc_new w2 (.cells #[.slice none 0 0, .int .i64 0, .int .i64 0] 59)
          obtain ⟨⟨f0, f1, f2⟩, fz⟩ := box3b X0
          have fz0 := fz 0
          have fz1 := fz 1
          have fz2 := fz 2
          have hbx := below_new w2 (.cells #[.slice A2 hi.length c2, .int .i64 a2, .int .i64 0] 59)
          have HXX := hid (heap_alloc_new w2 (.cells #[.slice A2 hi.length c2, .int .i64 a2, .int .i64 0] 59))
          have HXR := hid ((HX.out.old hb2).old hbx)
          have hw3 := hw2.trans (hbx.mono hw2.size)
          have hri3 := hid ((hri.size_ (by omega)).keep (w' := w2.alloc (.cells #[.slice A2 hi.length c2, .int .i64 a2, .int .i64 0] 59)) fun p hp => hbx.cell hp.2)
          have hz3 : (w2.alloc (.cells #[.slice A2 hi.length c2, .int .i64 a2, .int .i64 0] 59)).heap.size = w2.heap.size + 1 := by simp
          have hz2 := hb2.size
          clear fz X0 hbx hb2 hri hw2
          go_wp2_with (first | ((with_reducible refine (CS2.out _).mono ?_); rintro e w1 ⟨rfl, rfl⟩) | ((with_reducible refine (CS3.out _).mono ?_); rintro e w1 ⟨rfl, rfl⟩))
          generalize (w2.alloc (.cells #[.slice A2 hi.length c2, .int .i64 a2, .int .i64 0] 59)) = W at *
          clear f0 f1 f2 fz0 fz1 fz2
          refine (CP3.out _).mono ?_
          rintro e w4 ⟨A5, c5, rfl, hc5, hda, hb4⟩
          have hw4 := hw3.trans (hb4.mono hw3.size)
          have hbx := below_new w4 (.cells #[.slice A5 da.length c5, .int .i64 (s.size - q4.length : Nat), .int .i64 0] 59)
          have X0 := heap_alloc_new w4 (.cells #[.slice none 0 0, .int .i64 0, .int .i64 0] 59)
          obtain ⟨⟨f0, f1, f2⟩, fz⟩ := box3b X0
          have fz0 := fz 0
          have fz1 := fz 1
          have fz2 := fz 2
          obtain ⟨⟨g0, g1, g2⟩, -⟩ := box3b (below_at hbx (below_at hb4 HXX.out))
          obtain ⟨⟨d0, d1, d2, d3, d4, d5, d6, d7⟩, dz⟩ := ((HXR.out.old hb4).old hbx).all
          have dz0 := dz 0
          have dz1 := dz 1
          have dz2 := dz 2
          have dz3 := dz 3
          have dz4 := dz 4
          have dz5 := dz 5
          have dz6 := dz 6
          have dz7 := dz 7
          clear dz
          have hw5 := hw4.trans (hbx.mono hw4.size)
          have hz4 := hb4.size
          have hzb := hbx.size
          have hfar : ∀ q : Addr, q.block ≠ w.heap.size → (put8 (w4.alloc (.cells #[.slice A5 da.length c5, .int .i64 (s.size - q4.length : Nat), .int .i64 0] 59)) w.heap.size (.bool false) (.bool true) (.slice A2 hi.length c2) (.slice A5 da.length c5) (.slice none 0 0) (.int .i64 (s.size - q4.length : Nat)) (.int .i64 nd) (.int .i64 0)).cell? q = (w4.alloc (.cells #[.slice A5 da.length c5, .int .i64 (s.size - q4.length : Nat), .int .i64 0] 59)).cell? q := fun q hq => put8_far q hq
          have r1 := ((hri3.out.keep (w' := w4) fun p hp => hb4.cell (by omega)).keep (w' := w4.alloc (.cells #[.slice A5 da.length c5, .int .i64 (s.size - q4.length : Nat), .int .i64 0] 59)) fun p hp => hbx.cell (by omega))
          have r2 := (hda.size_ (by omega)).keep (w' := w4.alloc (.cells #[.slice A5 da.length c5, .int .i64 (s.size - q4.length : Nat), .int .i64 0] 59)) fun p hp => hbx.cell hp.2
          have hiF : SIn (put8 (w4.alloc (.cells #[.slice A5 da.length c5, .int .i64 (s.size - q4.length : Nat), .int .i64 0] 59)) w.heap.size (.bool false) (.bool true) (.slice A2 hi.length c2) (.slice A5 da.length c5) (.slice none 0 0) (.int .i64 (s.size - q4.length : Nat)) (.int .i64 nd) (.int .i64 0)) (fun k => (0 ≤ k ∧ k < 0) ∨ w.heap.size ≤ k) (.mk false true hi da []) [.bool false, .bool true, .slice A2 hi.length c2, .slice A5 da.length c5, .slice none 0 0] :=
            .mk (xs := []) ((r1.keep fun q hq => hfar q (by omega)).more fun k hk => .inr (by omega)) ⟨hc2, HB1.out⟩ ((r2.keep fun q hq => hfar q (by omega)).more fun k hk => .inr (by omega)) ⟨hc5, HB2.out⟩ RIn.none_ ⟨Nat.le_refl _, by omega⟩ rfl (fun i t hit => by simp at hit)
          have hbF := put8_below hw5 (Nat.le_refl _) (.bool false) (.bool true) (.slice A2 hi.length c2) (.slice A5 da.length c5) (.slice none 0 0) (.int .i64 (s.size - q4.length : Nat)) (.int .i64 nd) (.int .i64 0)
          have HF := hid (And.intro hiF hbF)
          clear fz X0 hbx hb4 hfar r1 r2 hiF hbF hda
          go_wp2_with fail
          exact bodyPost_ret (v := .agg #[.bool false, .bool true, .slice A2 hi.length c2, .slice A5 da.length c5, .slice none 0 0, .int .i64 (s.size - q4.length : Nat), .int .i64 nd, .int .i64 0]) (by simp [results, Tryz.results61, go_sem, d0, d1, d2, d3, d4, d5, d6, d7]) rfl ⟨_, _, _, _, _, rfl, HF.out⟩
      · rw [if_pos hc]
        have m93 : ¬ (c.toNat : Int) = 93 := fun e => hc (UInt8.toNat_inj.1 (show c.toNat = 93 by omega))
        have e93 : ((c.toNat : Int) == 93) = false := by rw [beq_eq_false_iff_ne]; exact m93
        have e93' : ((c.toNat : Int) != 93) = true := by rw [bne, e93]; rfl
        simp only [hintRes]
        clear hc hd4
        go_enter Tryz.func61, Tryz.ntmps61
        go_wp2_with ((with_reducible refine CS.out.mono ?_); rintro e w1 ⟨rfl, rfl⟩)
        refine CP.out.mono ?_
        rintro e w2 ⟨A2, c2, rfl, hc2, hri, hb2⟩
        rw [HA2.out]
        have hw2 := hb1.trans (hb2.mono hb1.size)
        have X0 := heap_alloc_new w2 (.cells #[.slice none 0 0, .int .i64 0, .int .i64 0] 59)
        obtain ⟨⟨f0, f1, f2⟩, fz⟩ := box3b X0
        have fz0 := fz 0
        have fz1 := fz 1
        have fz2 := fz 2
        have hbx := below_new w2 (.cells #[.slice A2 hi.length c2, .int .i64 a2, .int .i64 0] 59)
        have HXX := hid (heap_alloc_new w2 (.cells #[.slice A2 hi.length c2, .int .i64 a2, .int .i64 0] 59))
        have HXR := hid ((HX.out.old hb2).old hbx)
        have hw3 := hw2.trans (hbx.mono hw2.size)
        have hri3 := hid ((hri.size_ (by omega)).keep (w' := w2.alloc (.cells #[.slice A2 hi.length c2, .int .i64 a2, .int .i64 0] 59)) fun p hp => hbx.cell hp.2)
        have hz3 : (w2.alloc (.cells #[.slice A2 hi.length c2, .int .i64 a2, .int .i64 0] 59)).heap.size = w2.heap.size + 1 := by simp
        have hz2 := hb2.size
        clear fz X0 hbx hb2 hri hw2
        obtain ⟨⟨d0, d1, d2, d3, d4, d5, d6, d7⟩, dz⟩ := HXR.out.all
        have dz0 := dz 0
        have dz1 := dz 1
        have dz2 := dz 2
        have dz3 := dz 3
        have dz4 := dz 4
        have dz5 := dz 5
        have dz6 := dz 6
        have dz7 := dz 7
        clear dz
        have HF := hid (put8_below hw3 (Nat.le_refl _) (.bool false) (.bool false) (.slice none 0 0) (.slice none 0 0) (.slice none 0 0) (.int .i64 a3) (.int .i64 0) (.int .i64 3))
        go_wp2_with ((with_reducible refine (CS2.out _).mono ?_); rintro e w1 ⟨rfl, rfl⟩)
        exact bodyPost_ret (v := .agg #[.bool false, .bool false, .slice none 0 0, .slice none 0 0, .slice none 0 0, .int .i64 a3, .int .i64 0, .int .i64 3]) (by simp [results, Tryz.results61, go_sem, d0, d1, d2, d3, d4, d5, d6, d7]) rfl ⟨by omega, by omega, by rw [HPL.out]; first | done | rfl, HF.out⟩
end Go.Proofs.YtcojkmcnigppbaaGreatDoor
end
section
set_option maxRecDepth 100000
namespace Go.Proofs.YtcojkmcnigppbaaGreatDoor.Nt
open Go Go.Proofs Go.RowKit Sx Oct
def ValEnd (w : World) (r : Nat) (A : Option Addr) (n c : Nat) (e : Ending) (w' : World) : Res (SX × Nat) → Prop
  | .err k rest => Thrown k (n - rest.length) e ∧ w.grownBy w' (some r)
  | .ok (t, nd') rest => ∃ v0 v1 v2 v3 v4, e = .returned (.agg #[v0, v1, v2, v3, v4]) ∧ SIn w' (fun k => w.heap.size ≤ k) t [v0, v1, v2, v3, v4] ∧ RdAt w' r A n c (n - rest.length : Nat) nd' ∧ w.grownBy w' (some r)
theorem RdAt.far {w : World} {r : Nat} {A : Option Addr} {n c : Nat} {p nd : Int} (h : RdAt w r A n c p nd) {q : Addr} (hq : r ≠ q.block) (x : Value) : RdAt (w.setCell q x) r A n c p nd := (Below.heap_setCell w q x r hq).trans h
set_option maxHeartbeats 4000000 in
theorem hinted_any (r : Nat) (A : Option Addr) (n c : Nat) (p : Nat) (nd : Nat) (b : List UInt8) (B : Nat) (w : World) (h : RdAt w r A n c p nd) (hr : Reads w B 1 A n (Lib.byteCells b)) (hB : B ≤ r) (hn : n ≤ 20000) (hc : n ≤ c) (hp : p ≤ n) (s : List UInt8) (hs : b.drop p = 91 :: s) :
    Calls Tryz.prog 83 #[.pointer (some ⟨r, 0, none⟩)] w fun e w' => ValEnd w r A n c e w' (hintRes (aHint s) nd) := by
  generalize hRR : hintRes (aHint s) nd = R
  have HRR := hid hRR
  clear hRR
  have hl : b.length = n := by have := hr.1; simpa [Lib.byteCells_length] using this
  have hsl' : s.length + 1 = n - p := by have := congrArg List.length hs; rw [List.length_drop, hl] at this; simpa using this.symm
  have hd1 : b.drop (n - s.length) = s := drop_tail hs hl hp (Tail.cons _ _)
  have hrl := h.lt
  have hb0 := (below_new w (.cells #[.bool false, .bool false, .slice none 0 0, .slice none 0 0, .slice none 0 0] 25)).trans ((below_new (w.alloc (.cells #[.bool false, .bool false, .slice none 0 0, .slice none 0 0, .slice none 0 0] 25)) (.cells #[.bool false, .bool true, .slice none 0 0, .slice none 0 0, .slice none 0 0] 25)).mono (by simp))
  have X1 : Box ((w.alloc (.cells #[.bool false, .bool false, .slice none 0 0, .slice none 0 0, .slice none 0 0] 25)).alloc (.cells #[.bool false, .bool true, .slice none 0 0, .slice none 0 0, .slice none 0 0] 25)) w.heap.size (.bool false) (.bool false) (.slice none 0 0) (.slice none 0 0) (.slice none 0 0) :=
    below_at (below_new _ _) (heap_alloc_new w _)
  have X2 : Box ((w.alloc (.cells #[.bool false, .bool false, .slice none 0 0, .slice none 0 0, .slice none 0 0] 25)).alloc (.cells #[.bool false, .bool true, .slice none 0 0, .slice none 0 0, .slice none 0 0] 25)) (w.heap.size + 1) (.bool false) (.bool true) (.slice none 0 0) (.slice none 0 0) (.slice none 0 0) := by
    have := heap_alloc_new (w.alloc (.cells #[.bool false, .bool false, .slice none 0 0, .slice none 0 0, .slice none 0 0] 25)) (.cells #[.bool false, .bool true, .slice none 0 0, .slice none 0 0, .slice none 0 0] 25)
    have e : (w.alloc (.cells #[.bool false, .bool false, .slice none 0 0, .slice none 0 0, .slice none 0 0] 25)).heap.size = w.heap.size + 1 := by simp
    rw [e] at this
    exact this
  have hsz : ((w.alloc (.cells #[.bool false, .bool false, .slice none 0 0, .slice none 0 0, .slice none 0 0] 25)).alloc (.cells #[.bool false, .bool true, .slice none 0 0, .slice none 0 0, .slice none 0 0] 25)).heap.size = w.heap.size + 2 := by simp
  go_enter Tryz.func83, Tryz.ntmps83
  go_wp2_with fail
  generalize ((w.alloc (.cells #[.bool false, .bool false, .slice none 0 0, .slice none 0 0, .slice none 0 0] 25)).alloc (.cells #[.bool false, .bool true, .slice none 0 0, .slice none 0 0, .slice none 0 0] 25)) = W at *
  have hg0 := grown_below hb0 (some r)
  refine (expect_at 91 (by decide) r A n c p nd b B W (h.old hb0) (reads_grown hr hg0 hB) hB hp hn hc s hs).mono ?_
  rintro e w1 ⟨rfl, hR1, hg1⟩
  have hg01 := hg0.trans hg1
  have hr1 := reads_grown hr hg01 hB
  have C2 := plain_any r A n c (n - s.length) nd b B w1 hR1 hr1 hB (by omega) hn hc s hd1
  have X1 := X1.grown hg1 (fun e => by injection e with e; omega)
  have X2 := X2.grown hg1 (fun e => by injection e with e; omega)
  have hz1 := hg1.size
  clear hg0 hg1 hR1 h
  cases hp1 : aPlain (skip s) with
  | err k rest =>
    rw [hp1] at C2
    have HC := hid C2
    have hRe : Hid (R = .err k rest) := by show _ = _; rw [← HRR.out]; simp [hintRes, aHint, hp1]
    clear C2 hp1
    go_wp2_with ((with_reducible refine HC.out.mono ?_); rintro e w2 ⟨rfl, hg2⟩)
    refine ⟨rfl, ?_⟩
    rw [hRe.out]
    exact ⟨rfl, hg01.trans hg2⟩
  | ok hi rest =>
    rw [hp1] at C2
    have ht1 : Tail rest s := (aPlain_tail hp1).trans (Tail.skip s)
    have hhl := aPlain_le hp1
    have hsk := (Tail.skip s).le
    have hd2 := drop_tail hd1 hl (by omega) ht1
    have hrl2 := ht1.le
    have HC := hid C2
    have HP1 := hid hp1
    clear C2 hp1
    go_wp2_with fail
    refine HC.out.mono ?_
    rintro e w2 ⟨A1, c1, rfl, hc1, q1, hR2, hg2⟩
    have hg02 := hg01.trans hg2
    have X1 := X1.grown hg2 (fun e => by injection e with e; omega)
    have X2 := X2.grown hg2 (fun e => by injection e with e; omega)
    have hz2 := hg2.size
    obtain ⟨⟨-, -, f2, -, -⟩, fz⟩ := X2.all
    have fz2 := fz 2
    have Y1 := X1.far (p := ⟨w.heap.size + 1, 2, none⟩) (by show w.heap.size ≠ w.heap.size + 1; omega) (.slice A1 hi.length c1)
    have Y2 := X2.set2 (.slice A1 hi.length c1)
    have hgY := grown_own hg02 (b := w.heap.size + 1) (i := 2) (by omega) (.slice A1 hi.length c1)
    have hRY := hR2.far (q := ⟨w.heap.size + 1, 2, none⟩) (by show r ≠ w.heap.size + 1; omega) (.slice A1 hi.length c1)
    have qY := (q1.more (S' := fun k => w.heap.size + 2 ≤ k) (fun k hk => by omega)).far (p := ⟨w.heap.size + 1, 2, none⟩) (fun k hk => by show k ≠ w.heap.size + 1; omega) (.slice A1 hi.length c1)
    have hzY : (w2.setCell ⟨w.heap.size + 1, 2, none⟩ (.slice A1 hi.length c1)).heap.size = w2.heap.size := by simp
    clear X1 X2 fz hg02 hR2 q1 hg2 hg01
    have hr2 := reads_grown hr hgY hB
    clear HC
    have C3 := expect_any 93 r A n c (n - rest.length) nd b B _ hRY hr2 hB (by omega) hn hc rest hd2
    unfold ExpEnd at C3
    have C3 : Calls Tryz.prog 53 #[.pointer (some ⟨r, 0, none⟩), .int .u8 93] _ _ := C3
    cases hsr : skip rest with
    | nil =>
      have hRe : Hid (R = .err 2 []) := by show _ = _; rw [← HRR.out]; simp [hintRes, aHint, HP1.out, hsr]
      rw [hsr] at C3
      simp only at C3
      have C3 := hid C3
      go_wp2_with ((with_reducible refine C3.out.mono ?_); rintro e w3 ⟨rfl, hg3⟩)
      refine ⟨rfl, ?_⟩
      rw [hRe.out]
      exact ⟨rfl, hgY.trans hg3⟩
    | cons c0 r2 =>
      rw [hsr] at C3
      simp only at C3
      have hlr : (c0 :: r2).length = r2.length + 1 := by simp
      have ht2 : Tail (c0 :: r2) rest := hsr ▸ Tail.skip rest
      have hle := ht2.le
      by_cases hc0 : c0 ≠ 93
      · have hRe : Hid (R = .err 3 (c0 :: r2)) := by show _ = _; rw [← HRR.out]; simp [hintRes, aHint, HP1.out, hsr, hc0]
        simp only [if_neg hc0] at C3
        have C3 := hid C3
        clear hc0 hsr
        go_wp2_with ((with_reducible refine C3.out.mono ?_); rintro e w3 ⟨rfl, hg3⟩)
        refine ⟨rfl, ?_⟩
        rw [hRe.out]
        exact ⟨rfl, hgY.trans hg3⟩
      · have hc0 : c0 = 93 := Classical.not_not.1 hc0
        subst hc0
        simp only [if_true] at C3
        have C3 := hid C3
        have hd3 : b.drop (n - r2.length) = r2 := drop_tail hd2 hl (by omega) ((Tail.cons _ _).trans ht2)
        have hr2s := (Tail.skip r2).le
        generalize hWY : w2.setCell ⟨w.heap.size + 1, 2, none⟩ (.slice A1 hi.length c1) = WY at *
        have C4 := fun W hW hrW => plain_any r A n c (n - r2.length) nd b B W hW hrW hB (by omega) hn hc r2 hd3
        cases hp3 : aPlain (skip r2) with
        | err k rest =>
          have hRe : Hid (R = .err k rest) := by show _ = _; rw [← HRR.out]; simp [hintRes, aHint, HP1.out, hsr, hp3]
          rw [hp3] at C4
          have HC4 := hid C4
          have HRG := hid (fun W (hg : WY.grownBy W (some r)) => reads_grown hr2 hg hB)
          clear C4 hp3 hsr
          go_wp2_with (first
            | ((with_reducible refine C3.out.mono ?_); rintro e w3 ⟨rfl, hR3, hg3⟩)
            | ((with_reducible refine (HC4.out w3 hR3 (HRG.out _ hg3)).mono ?_); rintro e w4 ⟨rfl, hg4⟩))
          refine ⟨rfl, ?_⟩
          rw [hRe.out]
          exact ⟨rfl, (hgY.trans hg3).trans hg4⟩
        | ok da rest =>
          have hRe : Hid (R = .ok (.mk false true hi da [], nd) rest) := by show _ = _; rw [← HRR.out]; simp [hintRes, aHint, HP1.out, hsr, hp3]
          rw [hp3] at C4
          have HC4 := hid C4
          have HRG := hid (fun W (hg : WY.grownBy W (some r)) => reads_grown hr2 hg hB)
          have hdl := aPlain_le hp3
          clear C4 hp3 hsr
          go_wp2_with ((with_reducible refine C3.out.mono ?_); rintro e w3 ⟨rfl, hR3, hg3⟩)
          refine (HC4.out w3 hR3 (HRG.out _ hg3)).mono ?_
          rintro e w4 ⟨A2, c2, rfl, hc2, q2, hR4, hg4⟩
          have hgZ := (hgY.trans hg3).trans hg4
          have hgYZ := hg3.trans hg4
          have Z1 := Y1.grown hgYZ (fun e => by injection e with e; omega)
          have Z2 := Y2.grown hgYZ (fun e => by injection e with e; omega)
          have qZ := qY.grown (by omega) hgYZ (fun k hk e => by injection e with e; omega)
          have hz4 := hgYZ.size
          have hz3 := hg3.size
          obtain ⟨⟨d0, d1, d2, d3, d4⟩, dz⟩ := Z1.all
          obtain ⟨⟨f0, f1, f2, f3, f4⟩, fz⟩ := Z2.all
          have fz3 := fz 3
          have dz0 := dz 0
          have dz1 := dz 1
          have dz2 := dz 2
          have dz3 := dz 3
          have dz4 := dz 4
          clear fz dz Z1 Z2 Y1 Y2 qY hRY
          go_wp2_with fail
          have F : ∀ q : Addr, w.heap.size + 2 ≤ q.block → (put5 (w4.setCell ⟨w.heap.size + 1, 3, none⟩ (.slice A2 da.length c2)) w.heap.size (.bool false) (.bool true) (.slice A1 hi.length c1) (.slice A2 da.length c2) (.slice none 0 0)).cell? q = w4.cell? q := by
            intro q hq
            rw [put5_far q (by omega)]
            exact World.cell?_setCell_other _ _ _ _ (fun e => by rw [← e] at hq; simp at hq)
          have hgF := put5_grown (grown_own hgZ (b := w.heap.size + 1) (i := 3) (by omega) (.slice A2 da.length c2)) (Nat.le_refl _) (.bool false) (.bool true) (.slice A1 hi.length c1) (.slice A2 da.length c2) (.slice none 0 0)
          have hRF : RdAt (put5 (w4.setCell ⟨w.heap.size + 1, 3, none⟩ (.slice A2 da.length c2)) w.heap.size (.bool false) (.bool true) (.slice A1 hi.length c1) (.slice A2 da.length c2) (.slice none 0 0)) r A n c (n - rest.length : Nat) nd :=
            (put5_block (by omega) _ _ _ _ _).trans (hR4.far (q := ⟨w.heap.size + 1, 3, none⟩) (by show r ≠ w.heap.size + 1; omega) _)
          refine bodyPost_ret (v := .agg #[.bool false, .bool true, .slice A1 hi.length c1, .slice A2 da.length c2, .slice none 0 0]) (by simp [results, Tryz.results83, go_sem, d0, d1, d2, d3, d4]) rfl ?_
          rw [hRe.out]
          refine ⟨_, _, _, _, _, rfl, ?_, hRF, hgF⟩
          exact .mk (xs := []) ((qZ.keep F).more fun k hk => by omega) ⟨hc1, by omega⟩ (((q2.more (S' := fun k => w.heap.size + 2 ≤ k) fun k hk => by omega).keep F).more fun k hk => by omega) ⟨hc2, by omega⟩ RIn.none_ ⟨Nat.le_refl _, by omega⟩ rfl (fun i t hit => by simp at hit)
end Go.Proofs.YtcojkmcnigppbaaGreatDoor.Nt
end
section
namespace Go.Proofs.YtcojkmcnigppbaaGreatDoor.Nt
open Go Go.Proofs Go.RowKit Sx Oct
def ValSpec (f : Nat) : Prop := ∀ (r : Nat) (A : Option Addr) (n c p nd ar : Nat) (b : List UInt8) (B : Nat) (w : World), RdAt w r A n c p nd → Reads w B 1 A n (Lib.byteCells b) → B ≤ r → n ≤ 20000 → n ≤ c → p ≤ n → nd ≤ 512 → ar ≤ 16 → 2 * (n - p) + 1 ≤ f →
    Calls Tryz.prog 52 #[.pointer (some ⟨r, 0, none⟩), .int .i64 ar] w fun e w' => ValEnd w r A n c e w' (aVal f (b.drop p) nd ar)
def ListSpec (f : Nat) : Prop := ∀ (r : Nat) (A : Option Addr) (n c p nd ar : Nat) (b : List UInt8) (B : Nat) (w : World) (s : List UInt8), RdAt w r A n c p nd → Reads w B 1 A n (Lib.byteCells b) → B ≤ r → n ≤ 20000 → n ≤ c → p ≤ n → b.drop p = 40 :: s → nd ≤ 512 → ar < 16 → 2 * s.length + 2 ≤ f →
    Calls Tryz.prog 82 #[.pointer (some ⟨r, 0, none⟩), .int .i64 ar] w fun e w' => ValEnd w r A n c e w' (listRes (aKids f s nd (ar + 1)))
theorem ValEnd.from {w W : World} {r : Nat} {A : Option Addr} {n c : Nat} {e : Ending} {w' : World} {R : Res (SX × Nat)} (h : ValEnd W r A n c e w' R) (hg : w.grownBy W (some r)) : ValEnd w r A n c e w' R := by
  cases R with
  | err k rest => exact ⟨h.1, hg.trans h.2⟩
  | ok x rest =>
    obtain ⟨t, nd'⟩ := x
    obtain ⟨v0, v1, v2, v3, v4, he, hin, hR, hg2⟩ := h
    exact ⟨v0, v1, v2, v3, v4, he, hin.more fun k hk => by have := hg.size; omega, hR, hg.trans hg2⟩
theorem skip_self {q s : List UInt8} {x : UInt8} (h : skip q = x :: s) : skip (x :: s) = x :: s := skip_at (skip_head h) s
set_option maxHeartbeats 4000000 in
set_option maxRecDepth 100000 in
theorem value_step (f : Nat) (hL : ListSpec f) : ValSpec (f + 1) := by
  intro r A n c p nd ar b B w h hr hB hn hc hp hnd har hf
  generalize hRR : aVal (f + 1) (b.drop p) nd ar = R
  have hl : b.length = n := by have := hr.1; simpa [Lib.byteCells_length] using this
  have hrl := h.lt
  have hb0 := below_new w (.cells #[.bool false, .bool false, .slice none 0 0, .slice none 0 0, .slice none 0 0] 25)
  have X1 : Box (w.alloc (.cells #[.bool false, .bool false, .slice none 0 0, .slice none 0 0, .slice none 0 0] 25)) w.heap.size (.bool false) (.bool false) (.slice none 0 0) (.slice none 0 0) (.slice none 0 0) := heap_alloc_new w _
  have hsz : (w.alloc (.cells #[.bool false, .bool false, .slice none 0 0, .slice none 0 0, .slice none 0 0] 25)).heap.size = w.heap.size + 1 := by simp
  have h0 := h.old hb0
  have hr0 : Reads (w.alloc (.cells #[.bool false, .bool false, .slice none 0 0, .slice none 0 0, .slice none 0 0] 25)) B 1 A n (Lib.byteCells b) := hr.keep fun q hq => hb0.cell (by omega)
  have hg0 := grown_below hb0 (some r)
  cases hs : skip (b.drop p) with
  | nil =>
    rw [aVal, hs] at hRR
    subst hRR
    have C := part_any r A n c p nd b B _ h0 hr0 hB hp hn hc _ rfl
    unfold PartEnd at C
    rw [hs] at C
    simp only at C
    have C := hid C
    clear h h0 hr hr0 X1 hs
    go_enter Tryz.func52, Tryz.ntmps52
    go_wp2_with ((with_reducible refine C.out.mono ?_); rintro e w1 ⟨rfl, hg1⟩)
    exact ⟨rfl, rfl, hg0.trans hg1⟩
  | cons x s =>
    have C := part_any r A n c p nd b B _ h0 hr0 hB hp hn hc _ rfl
    unfold PartEnd at C
    rw [hs] at C
    simp only at C
    have htl : Tail (x :: s) (b.drop p) := hs ▸ Tail.skip _
    have hds := drop_tail rfl hl hp htl
    have hle := htl.le
    rw [List.length_drop, hl] at hle
    have hlen1 : (x :: s).length = s.length + 1 := rfl
    obtain ⟨pk, hpk⟩ := namedN (n - (x :: s).length)
    rw [← hpk.out] at C hds
    have hpkn : pk + (s.length + 1) = n := by rw [hpk.out]; omega
    have C := hid C
    have CB := hid (fun W => begins_any x W)
    rw [aVal, hs] at hRR
    try simp only at hRR
    have hplace : n - (x :: s).length = pk := hpk.out.symm
    have HPL := hid hplace
    by_cases hbg : aBegins x = false
    · rw [if_pos hbg] at hRR
      subst hRR
      rw [hbg] at CB
      clear h h0 hr hr0 X1 hs htl hds hplace
      go_enter Tryz.func52, Tryz.ntmps52
      go_wp2_with (first
        | ((with_reducible refine C.out.mono ?_); rintro e w1 ⟨rfl, hR1, hg1⟩)
        | ((with_reducible refine (CB.out _).mono ?_); rintro e w2 ⟨rfl, hb2⟩; have hR2 := hR1.old hb2; obtain ⟨c0, c1, c2, f1, f2⟩ := hR2.all))
      exact ⟨rfl, by show Thrown 3 (n - (x :: s).length) _; rw [HPL.out]; rfl, hg0.trans (hg1.trans (grown_below hb2 _))⟩
    · rw [if_neg hbg] at hRR
      have hbg : aBegins x = true := by simpa using hbg
      rw [hbg] at CB
      clear hbg
      by_cases hlim : 512 ≤ nd ∨ (x = 40 ∧ 16 ≤ ar)
      · rw [if_pos hlim] at hRR
        subst hRR
        by_cases h512 : 512 ≤ nd
        · have h512' : (512 : Int) ≤ nd := by omega
          clear h h0 hr hr0 X1 hs htl hds hplace hlim
          go_enter Tryz.func52, Tryz.ntmps52
          go_wp2_with (first
            | ((with_reducible refine C.out.mono ?_); rintro e w1 ⟨rfl, hR1, hg1⟩)
            | ((with_reducible refine (CB.out _).mono ?_); rintro e w2 ⟨rfl, hb2⟩; have hR2 := hR1.old hb2; obtain ⟨c0, c1, c2, f1, f2⟩ := hR2.all))
          exact ⟨rfl, by show Thrown 4 (n - (x :: s).length) _; rw [HPL.out]; rfl, hg0.trans (hg1.trans (grown_below hb2 _))⟩
        · obtain ⟨hx, ha⟩ := hlim.elim (fun h => absurd h h512) id
          subst hx
          have h512' : (nd : Int) < 512 := by omega
          have ha' : (16 : Int) ≤ ar := by omega
          clear h h0 hr hr0 X1 hs htl hds hplace hlim
          go_enter Tryz.func52, Tryz.ntmps52
          go_wp2_with (first
            | ((with_reducible refine C.out.mono ?_); rintro e w1 ⟨rfl, hR1, hg1⟩)
            | ((refine (CB.out _).mono ?_); rintro e w2 ⟨rfl, hb2⟩; have hR2 := hR1.old hb2; obtain ⟨c0, c1, c2, f1, f2⟩ := hR2.all))
          exact ⟨rfl, by show Thrown 4 (n - (40 :: s : List UInt8).length) _; rw [HPL.out]; rfl, hg0.trans (hg1.trans (grown_below hb2 _))⟩
      · rw [if_neg hlim] at hRR
        have h512' : (nd : Int) < 512 := by
          have : ¬ 512 ≤ nd := fun h => hlim (.inl h)
          omega
        have hnd1 : nd + 1 ≤ 512 := by omega
        have hcast : ((nd + 1 : Nat) : Int) = (nd : Int) + 1 := by omega
        have HR1 := hid (fun W1 (hR : RdAt W1 r A n c (pk : Nat) nd) (hb1 : (w.alloc (.cells #[.bool false, .bool false, .slice none 0 0, .slice none 0 0, .slice none 0 0] 25)).grownBy W1 (some r)) => (by
          have h1 := hR.set2 ((nd : Int) + 1)
          have h2 := hg0.trans (hb1.trans (grown_set W1 r 2 (.int .i64 ((nd : Int) + 1))))
          have h3 : Box (W1.setCell ⟨r, 2, none⟩ (.int .i64 ((nd : Int) + 1))) w.heap.size (.bool false) (.bool false) (.slice none 0 0) (.slice none 0 0) (.slice none 0 0) := (X1.grown hb1 (fun e => by injection e with e; omega)).far (by show w.heap.size ≠ r; omega) _
          have h4 := reads_grown hr h2 hB
          rw [← hcast] at h1
          exact And.intro h1 (And.intro h2 (And.intro h3 h4)) :
            RdAt (W1.setCell ⟨r, 2, none⟩ (.int .i64 ((nd : Int) + 1))) r A n c (pk : Nat) (nd + 1 : Nat) ∧ w.grownBy (W1.setCell ⟨r, 2, none⟩ (.int .i64 ((nd : Int) + 1))) (some r) ∧
            Box (W1.setCell ⟨r, 2, none⟩ (.int .i64 ((nd : Int) + 1))) w.heap.size (.bool false) (.bool false) (.slice none 0 0) (.slice none 0 0) (.slice none 0 0) ∧ Reads (W1.setCell ⟨r, 2, none⟩ (.int .i64 ((nd : Int) + 1))) B 1 A n (Lib.byteCells b)))
        by_cases h40 : x = 40
        · subst h40
          rw [if_pos rfl] at hRR
          have ha : ar < 16 := by
            have : ¬ 16 ≤ ar := fun h => hlim (.inr ⟨rfl, h⟩)
            omega
          have ha' : (ar : Int) < 16 := by omega
          have CL := hid (fun W2 hR hrd => hL r A n c pk (nd + 1) ar b B W2 s hR hrd hB hn hc (by omega) hds hnd1 ha (by omega))
          have hRR : listRes (aKids f s (nd + 1) (ar + 1)) = R := hRR
          rw [hRR] at CL
          clear h h0 hr hr0 hs htl hds hplace hlim hRR HPL hL
          go_enter Tryz.func52, Tryz.ntmps52
          go_wp2_with (first
            | ((with_reducible refine C.out.mono ?_); rintro e w1 ⟨rfl, hR1, hg1⟩)
            | ((refine (CB.out _).mono ?_); rintro e w2 ⟨rfl, hb2⟩; have hR2 := hR1.old hb2; obtain ⟨c0, c1, c2, f1, f2⟩ := hR2.all))
          have hg12 := hg1.trans (grown_below hb2 (some r))
          have hz12 := hg12.size
          obtain ⟨hR2, hg2, hX2, hrd2⟩ := HR1.out _ hR2 hg12
          refine (CL.out _ hR2 hrd2).mono ?_
          intro e w3 hE
          cases R with
          | err k rest =>
            obtain ⟨rfl, hg3⟩ := hE
            go_wp2_with fail
            exact ⟨rfl, rfl, hg2.trans hg3⟩
          | ok y rest =>
            obtain ⟨t, nd'⟩ := y
            obtain ⟨x0, x1, x2, x3, x4, rfl, hin, hR3, hg3⟩ := hE
            obtain ⟨l', h', hi', da', ks', B1, m1, j1, B2, m2, j2, B3, m3, j3, _, eE⟩ := hin.form_
            injection eE with eE0 eE; injection eE with eE1 eE; injection eE with eE2 eE; injection eE with eE3 eE; injection eE with eE4 eE
            subst eE0 eE1 eE2 eE3 eE4
            have hz2 : w.heap.size + 1 ≤ (w2.setCell ⟨r, 2, none⟩ (.int .i64 ((nd : Int) + 1))).heap.size := by simp at hz12 ⊢; omega
            have hgF := put5_grown (hg2.trans hg3) (Nat.le_refl _) (.bool l') (.bool h') (.slice B1 m1 j1) (.slice B2 m2 j2) (.slice B3 m3 j3)
            have hRF : RdAt (put5 w3 w.heap.size (.bool l') (.bool h') (.slice B1 m1 j1) (.slice B2 m2 j2) (.slice B3 m3 j3)) r A n c (n - rest.length : Nat) nd' := (put5_block (by omega) _ _ _ _ _).trans hR3
            have hiF : SIn (put5 w3 w.heap.size (.bool l') (.bool h') (.slice B1 m1 j1) (.slice B2 m2 j2) (.slice B3 m3 j3)) (fun k => w.heap.size ≤ k) t [.bool l', .bool h', .slice B1 m1 j1, .slice B2 m2 j2, .slice B3 m3 j3] :=
              ((hin.more (S' := fun k => w.heap.size + 1 ≤ k) fun k hk => by omega).keep fun q hq => put5_far q (by omega)).more fun k hk => by omega
            obtain ⟨⟨d0, d1, d2, d3, d4⟩, dz⟩ := (hX2.grown hg3 (fun e => by injection e with e; omega)).all
            have dz0 := dz 0
            have dz1 := dz 1
            have dz2 := dz 2
            have dz3 := dz 3
            have dz4 := dz 4
            have HF := hid (And.intro hiF (And.intro hRF hgF))
            clear dz hX2 hin hR3 hR2 hiF hRF hgF hrd2
            go_wp2_with fail
            exact bodyPost_ret (v := .agg #[.bool l', .bool h', .slice B1 m1 j1, .slice B2 m2 j2, .slice B3 m3 j3]) (by simp [results, Tryz.results52, go_sem, d0, d1, d2, d3, d4]) rfl ⟨_, _, _, _, _, rfl, HF.out⟩
        · rw [if_neg h40] at hRR
          have h40' : ((x.toNat : Int) == 40) = false := by
            rw [beq_eq_false_iff_ne]
            intro e
            exact h40 (UInt8.toNat_inj.1 (by show x.toNat = 40; omega))
          by_cases h91 : x = 91
          · subst h91
            rw [if_pos rfl] at hRR
            have CL := hid (fun W2 hR hrd => hinted_any r A n c pk (nd + 1) b B W2 hR hrd hB hn hc (by omega) s hds)
            have hRR : hintRes (aHint s) (nd + 1) = R := hRR
            rw [hRR] at CL
            clear h h0 hr hr0 hs htl hds hplace hlim hRR HPL hL
            go_enter Tryz.func52, Tryz.ntmps52
            go_wp2_with (first
              | ((with_reducible refine C.out.mono ?_); rintro e w1 ⟨rfl, hR1, hg1⟩)
              | ((refine (CB.out _).mono ?_); rintro e w2 ⟨rfl, hb2⟩; have hR2 := hR1.old hb2; obtain ⟨c0, c1, c2, f1, f2⟩ := hR2.all))
            have hg12 := hg1.trans (grown_below hb2 (some r))
            have hz12 := hg12.size
            obtain ⟨hR2, hg2, hX2, hrd2⟩ := HR1.out _ hR2 hg12
            refine (CL.out _ hR2 hrd2).mono ?_
            intro e w3 hE
            cases R with
            | err k rest =>
              obtain ⟨rfl, hg3⟩ := hE
              go_wp2_with fail
              exact ⟨rfl, rfl, hg2.trans hg3⟩
            | ok y rest =>
              obtain ⟨t, nd'⟩ := y
              obtain ⟨x0, x1, x2, x3, x4, rfl, hin, hR3, hg3⟩ := hE
              obtain ⟨l', h', hi', da', ks', B1, m1, j1, B2, m2, j2, B3, m3, j3, _, eE⟩ := hin.form_
              injection eE with eE0 eE; injection eE with eE1 eE; injection eE with eE2 eE; injection eE with eE3 eE; injection eE with eE4 eE
              subst eE0 eE1 eE2 eE3 eE4
              have hz2 : w.heap.size + 1 ≤ (w2.setCell ⟨r, 2, none⟩ (.int .i64 ((nd : Int) + 1))).heap.size := by simp at hz12 ⊢; omega
              have hgF := put5_grown (hg2.trans hg3) (Nat.le_refl _) (.bool l') (.bool h') (.slice B1 m1 j1) (.slice B2 m2 j2) (.slice B3 m3 j3)
              have hRF : RdAt (put5 w3 w.heap.size (.bool l') (.bool h') (.slice B1 m1 j1) (.slice B2 m2 j2) (.slice B3 m3 j3)) r A n c (n - rest.length : Nat) nd' := (put5_block (by omega) _ _ _ _ _).trans hR3
              have hiF : SIn (put5 w3 w.heap.size (.bool l') (.bool h') (.slice B1 m1 j1) (.slice B2 m2 j2) (.slice B3 m3 j3)) (fun k => w.heap.size ≤ k) t [.bool l', .bool h', .slice B1 m1 j1, .slice B2 m2 j2, .slice B3 m3 j3] :=
                ((hin.more (S' := fun k => w.heap.size + 1 ≤ k) fun k hk => by omega).keep fun q hq => put5_far q (by omega)).more fun k hk => by omega
              obtain ⟨⟨d0, d1, d2, d3, d4⟩, dz⟩ := (hX2.grown hg3 (fun e => by injection e with e; omega)).all
              have dz0 := dz 0
              have dz1 := dz 1
              have dz2 := dz 2
              have dz3 := dz 3
              have dz4 := dz 4
              have HF := hid (And.intro hiF (And.intro hRF hgF))
              clear dz hX2 hin hR3 hR2 hiF hRF hgF hrd2
              go_wp2_with fail
              exact bodyPost_ret (v := .agg #[.bool l', .bool h', .slice B1 m1 j1, .slice B2 m2 j2, .slice B3 m3 j3]) (by simp [results, Tryz.results52, go_sem, d0, d1, d2, d3, d4]) rfl ⟨_, _, _, _, _, rfl, HF.out⟩
          · rw [if_neg h91] at hRR
            have h91' : ((x.toNat : Int) == 91) = false := by
              rw [beq_eq_false_iff_ne]
              intro e
              exact h91 (UInt8.toNat_inj.1 (by show x.toNat = 91; omega))
            have CL := hid (fun W2 hR hrd => plain_any r A n c pk (nd + 1 : Nat) b B W2 hR hrd hB (by omega) hn hc (x :: s) hds)
            rw [skip_self hs] at CL
            clear h h0 hr hr0 hs htl hds hplace hlim HPL hL h40 h91
            cases hpb : aPlain (x :: s) with
            | err k rest =>
              rw [hpb] at hRR CL
              have hRR : Res.err k rest = R := hRR
              subst hRR
              clear hpb
              go_enter Tryz.func52, Tryz.ntmps52
              go_wp2_with (first
                | ((with_reducible refine C.out.mono ?_); rintro e w1 ⟨rfl, hR1, hg1⟩)
                | ((with_reducible refine (CB.out _).mono ?_); rintro e w2 ⟨rfl, hb2⟩; have hR2 := hR1.old hb2; obtain ⟨c0, c1, c2, f1, f2⟩ := hR2.all))
              have hg12 := hg1.trans (grown_below hb2 (some r))
              have hz12 := hg12.size
              obtain ⟨hR2, hg2, hX2, hrd2⟩ := HR1.out _ hR2 hg12
              refine (CL.out _ hR2 hrd2).mono ?_
              rintro e w3 ⟨rfl, hg3⟩
              go_wp2_with fail
              exact ⟨rfl, rfl, hg2.trans hg3⟩
            | ok da rest =>
              rw [hpb] at hRR CL
              have hRR : Res.ok (SX.mk false false [] da [], nd + 1) rest = R := hRR
              subst hRR
              have hdl := aPlain_le hpb
              clear hpb
              go_enter Tryz.func52, Tryz.ntmps52
              go_wp2_with (first
                | ((with_reducible refine C.out.mono ?_); rintro e w1 ⟨rfl, hR1, hg1⟩)
                | ((with_reducible refine (CB.out _).mono ?_); rintro e w2 ⟨rfl, hb2⟩; have hR2 := hR1.old hb2; obtain ⟨c0, c1, c2, f1, f2⟩ := hR2.all))
              have hg12 := hg1.trans (grown_below hb2 (some r))
              have hz12 := hg12.size
              obtain ⟨hR2, hg2, hX2, hrd2⟩ := HR1.out _ hR2 hg12
              refine (CL.out _ hR2 hrd2).mono ?_
              rintro e w3 ⟨A2, c2, rfl, hc2, q2, hR3, hg3⟩
              have hz2 : w.heap.size + 1 ≤ (w2.setCell ⟨r, 2, none⟩ (.int .i64 ((nd : Int) + 1))).heap.size := by simp at hz12 ⊢; omega
              have hgF := put5_grown (hg2.trans hg3) (Nat.le_refl _) (.bool false) (.bool false) (.slice none 0 0) (.slice A2 da.length c2) (.slice none 0 0)
              have hRF : RdAt (put5 w3 w.heap.size (.bool false) (.bool false) (.slice none 0 0) (.slice A2 da.length c2) (.slice none 0 0)) r A n c (n - rest.length : Nat) (nd + 1 : Nat) := (put5_block (by omega) _ _ _ _ _).trans hR3
              have hiF : SIn (put5 w3 w.heap.size (.bool false) (.bool false) (.slice none 0 0) (.slice A2 da.length c2) (.slice none 0 0)) (fun k => w.heap.size ≤ k) (.mk false false [] da []) [.bool false, .bool false, .slice none 0 0, .slice A2 da.length c2, .slice none 0 0] :=
                .mk (xs := []) RIn.none_ ⟨Nat.le_refl _, by omega⟩ (((q2.more (S' := fun k => w.heap.size + 1 ≤ k) fun k hk => by omega).keep fun q hq => put5_far q (by omega)).more fun k hk => by omega) ⟨hc2, by omega⟩ RIn.none_ ⟨Nat.le_refl _, by omega⟩ rfl (fun i t hit => by simp at hit)
              obtain ⟨⟨d0, d1, d2, d3, d4⟩, dz⟩ := (hX2.grown hg3 (fun e => by injection e with e; omega)).all
              have dz0 := dz 0
              have dz1 := dz 1
              have dz2 := dz 2
              have dz3 := dz 3
              have dz4 := dz 4
              have HF := hid (And.intro hiF (And.intro hRF hgF))
              clear dz hX2 q2 hR3 hR2 hiF hRF hgF hrd2
              go_wp2_with fail
              exact bodyPost_ret (v := .agg #[.bool false, .bool false, .slice none 0 0, .slice A2 da.length c2, .slice none 0 0]) (by simp [results, Tryz.results52, go_sem, d0, d1, d2, d3, d4]) rfl ⟨_, _, _, _, _, rfl, HF.out⟩
end Go.Proofs.YtcojkmcnigppbaaGreatDoor.Nt
end
section
namespace Go.Proofs.YtcojkmcnigppbaaGreatDoor.Nt
open Go Go.Proofs Go.RowKit Sx Oct
def LRel (w : World) (r : Nat) (A : Option Addr) (n c ar f : Nat) (b : List UInt8) (R : Res (List SX × Nat)) (wr : World) : Prop :=
  ∃ (acc : List SX) (g : Nat) (sk : List UInt8) (ndk : Nat) (v : Value) (ys : List Value), LHas w wr r acc v ys ∧ RdAt wr r A n c (n - sk.length : Nat) ndk ∧ sk.length ≤ n ∧ b.drop (n - sk.length) = sk ∧
    g ≤ f ∧ 2 * sk.length + 2 ≤ g ∧ R = addK acc (aKids g sk ndk ar) ∧ ndk ≤ 512 ∧ acc.length ≤ ndk
set_option maxHeartbeats 4000000 in
set_option maxRecDepth 100000 in
theorem list_step (f : Nat) (hV : ∀ g, g < f → ValSpec g) : ListSpec f := by
  intro r A n c p nd ar b B w s h hr hB hn hc hp hs hnd har hf
  generalize hRR : aKids f s nd (ar + 1) = R
  have hl : b.length = n := by have := hr.1; simpa [Lib.byteCells_length] using this
  have hsl : (40 :: s).length = n - p := by rw [← hs, List.length_drop, hl]
  have hsl' : s.length + 1 = n - p := by rw [← hsl]; simp
  have hrl := h.lt
  have hb0 := (below_new w (.cells #[.bool false, .bool false, .slice none 0 0, .slice none 0 0, .slice none 0 0] 25)).trans ((below_new (w.alloc (.cells #[.bool false, .bool false, .slice none 0 0, .slice none 0 0, .slice none 0 0] 25)) (.cells #[.bool true, .bool false, .slice none 0 0, .slice none 0 0, .slice none 0 0] 25)).mono (by simp))
  have X1 : Box ((w.alloc (.cells #[.bool false, .bool false, .slice none 0 0, .slice none 0 0, .slice none 0 0] 25)).alloc (.cells #[.bool true, .bool false, .slice none 0 0, .slice none 0 0, .slice none 0 0] 25)) w.heap.size (.bool false) (.bool false) (.slice none 0 0) (.slice none 0 0) (.slice none 0 0) :=
    below_at (below_new _ _) (heap_alloc_new w _)
  have X2 : Box ((w.alloc (.cells #[.bool false, .bool false, .slice none 0 0, .slice none 0 0, .slice none 0 0] 25)).alloc (.cells #[.bool true, .bool false, .slice none 0 0, .slice none 0 0, .slice none 0 0] 25)) (w.heap.size + 1) (.bool true) (.bool false) (.slice none 0 0) (.slice none 0 0) (.slice none 0 0) := by
    have := heap_alloc_new (w.alloc (.cells #[.bool false, .bool false, .slice none 0 0, .slice none 0 0, .slice none 0 0] 25)) (.cells #[.bool true, .bool false, .slice none 0 0, .slice none 0 0, .slice none 0 0] 25)
    have e : (w.alloc (.cells #[.bool false, .bool false, .slice none 0 0, .slice none 0 0, .slice none 0 0] 25)).heap.size = w.heap.size + 1 := by simp
    rw [e] at this
    exact this
  have hsz : ((w.alloc (.cells #[.bool false, .bool false, .slice none 0 0, .slice none 0 0, .slice none 0 0] 25)).alloc (.cells #[.bool true, .bool false, .slice none 0 0, .slice none 0 0, .slice none 0 0] 25)).heap.size = w.heap.size + 2 := by simp
  go_enter Tryz.func82, Tryz.ntmps82
  go_wp2_with fail
  generalize ((w.alloc (.cells #[.bool false, .bool false, .slice none 0 0, .slice none 0 0, .slice none 0 0] 25)).alloc (.cells #[.bool true, .bool false, .slice none 0 0, .slice none 0 0, .slice none 0 0] 25)) = W at *
  have hg0 := grown_below hb0 (some r)
  refine (expect_at 40 (by decide) r A n c p nd b B W (h.old hb0) (reads_grown hr hg0 hB) hB hp hn hc s hs).mono ?_
  rintro e w1 ⟨rfl, hR1, hg1⟩
  have hd1 : b.drop (n - s.length) = s := by rw [show n - s.length = p + 1 by omega, ← List.drop_drop, hs]; rfl
  have hL0 : LHas w W r [] (.slice none 0 0) [] := ⟨X1, X2, ⟨rfl, .inl ⟨rfl, rfl⟩⟩, fun i t hit => by simp at hit, hg0, by omega⟩
  have hL1 := hid (And.intro (hL0.keep hrl hg1) hR1)
  have hRe : Hid (R = addK [] (aKids f s nd (ar + 1))) := by
    show _ = _
    rw [hRR]
    cases R <;> simp [addK]
  clear hL0 X1 X2 hg0 hg1 hR1 hb0 hsz hs hsl hRR
  have HD := hid hd1
  have HV := hid hV
  clear hd1 hV
  go_wp2_with fail
  go_loopw [] (fun wr => Hid (LRel w r A n c (ar + 1) f b R wr)) (fun wr => n - (intOf ((wr.cell? ⟨r, 1, none⟩).getD (.int .i64 0))).toNat)
  case atStart => exact ⟨[], f, s, nd, _, _, hL1.out.1, hL1.out.2, by omega, HD.out, Nat.le_refl _, by omega, hRe.out, hnd, Nat.zero_le _⟩
  case round =>
    obtain ⟨acc, g, sk, ndk, v, ys, hH, hRk, hskl, hsk, hgf, hg2, hRk2, hndk, haccl⟩ := hrel.out
    clear hL1 hrel hRe
    obtain ⟨g, rfl⟩ : ∃ g', g = g' + 1 := ⟨g - 1, by omega⟩
    have hrk := reads_grown hr hH.2.2.2.2.1 hB
    have hplace : (n - (n - sk.length) : Nat) = sk.length := by omega
    have C := part_any r A n c (n - sk.length) ndk b B wr hRk hrk hB (by omega) hn hc sk hsk
    have htl := Tail.skip sk
    have hds := drop_tail hsk hl (by omega) htl
    have hdl := htl.le
    unfold PartEnd at C
    rw [aKids] at hRk2
    cases hss : skip sk with
    | nil =>
      rw [hss] at C hRk2
      simp only at C
      have hRk2 : R = .err 2 [] := hRk2
      have C := hid C
      have HG := hid hH.2.2.2.2.1
      clear hH hRk hskl hsk hg2 hplace HV hds htl hdl hss
      go_wp2_with ((with_reducible refine C.out.mono ?_); rintro e w3 ⟨rfl, hg3⟩)
      rw [hRk2]
      exact ⟨rfl, rfl, HG.out.trans hg3⟩
    | cons c0 r0 =>
      have hlr : (c0 :: r0).length = r0.length + 1 := by simp
      rw [hss] at C hRk2 hds hdl
      have hs0 := skip_self hss
      try simp only at hRk2
      simp only at C
      have C := hid C
      clear hss htl
      by_cases h41 : c0 = 41
      · subst h41
        rw [if_pos rfl] at hRk2
        have hRk2 : R = .ok (acc ++ [], ndk) r0 := hRk2
        have HH := hid hH
        have HRD := hid hRk
        have HSK := hid hsk
        clear hH hRk hsk hplace HV hrk
        have HDS := hid hds
        clear hds
        go_wp2_with ((with_reducible refine C.out.mono ?_); rintro e w3 ⟨rfl, hR3, hg3⟩)
        have hH3 := HH.out.keep hrl hg3
        have hr3 := reads_grown hr hH3.2.2.2.2.1 hB
        refine (expect_at 41 (by decide) r A n c (n - (41 :: r0 : List UInt8).length) ndk b B w3 hR3 hr3 hB (by omega) hn hc r0 HDS.out).mono ?_
        rintro e w4 ⟨rfl, hR4, hg4⟩
        have hH4 := hH3.keep hrl hg4
        obtain ⟨A3, c3, rfl⟩ := own_form hH4.2.2.1
        obtain ⟨x1, x2, ho, hk, hgw, hz⟩ := hH4
        obtain ⟨_, _, e1, hnc, hri⟩ := RIn.of_own ho
        injection e1 with e1a e1b e1c
        subst e1a e1c
        obtain ⟨⟨d0, d1, d2, d3, d4⟩, dz⟩ := x1.all
        obtain ⟨⟨f0, f1, f2, f3, f4⟩, fz⟩ := x2.all
        have dz0 := dz 0
        have dz1 := dz 1
        have dz2 := dz 2
        have dz3 := dz 3
        have dz4 := dz 4
        have hKF := fun (q : Addr) (hq : w.heap.size + 1 ≤ q.block) => put5_far (w := w4) (b := w.heap.size) (x0 := .bool true) (x1 := .bool false) (x2 := .slice none 0 0) (x3 := .slice none 0 0) (x4 := .slice A3 acc.length c3) q (by omega)
        have hgF := put5_grown hgw (Nat.le_refl _) (.bool true) (.bool false) (.slice none 0 0) (.slice none 0 0) (.slice A3 acc.length c3)
        have hRF : RdAt (put5 w4 w.heap.size (.bool true) (.bool false) (.slice none 0 0) (.slice none 0 0) (.slice A3 acc.length c3)) r A n c (n - r0.length : Nat) ndk := by
          exact (put5_block (by omega) _ _ _ _ _).trans hR4
        have hiF : SIn (put5 w4 w.heap.size (.bool true) (.bool false) (.slice none 0 0) (.slice none 0 0) (.slice A3 acc.length c3)) (fun k => w.heap.size ≤ k) (.mk true false [] [] acc) [.bool true, .bool false, .slice none 0 0, .slice none 0 0, .slice A3 acc.length c3] :=
          .mk RIn.none_ ⟨Nat.le_refl _, by omega⟩ RIn.none_ ⟨Nat.le_refl _, by omega⟩ (((hri.more (S' := fun b => w.heap.size + 1 ≤ b) fun b hb => by omega).keep hKF).more fun b hb => by omega) ⟨hnc, by omega⟩ rfl
            (fun i t hit => (((hk i t hit).more (S' := fun b => w.heap.size + 1 ≤ b) fun b hb => by omega).keep hKF).more fun b hb => by omega)
        have HF := hid (And.intro hiF (And.intro hRF hgF))
        clear dz fz x1 x2 ho hk hgw hri hiF hRF hgF hKF hR4 hg4 hH3 hR3 hr3 hg3 HH HRD
        go_wp2_with fail
        refine bodyPost_ret (v := .agg #[.bool true, .bool false, .slice none 0 0, .slice none 0 0, .slice A3 acc.length c3]) (by simp [results, Tryz.results82, go_sem, d0, d1, d2, d3, d4]) rfl ?_
        rw [hRk2, List.append_nil]
        exact ⟨_, _, _, _, _, rfl, HF.out⟩
      · rw [if_neg h41] at hRk2
        have h41' : ((c0.toNat : Int) == 41) = false := by
          rw [beq_eq_false_iff_ne]
          intro e
          exact h41 (UInt8.toNat_inj.1 (by show c0.toNat = 41; omega))
        have HH := hid hH
        have HRD := hid hRk
        have HSK := hid hsk
        have hwz := hH.2.2.2.2.2
        have HDS := hid hds
        have hr0n : r0.length + 1 ≤ n := by omega
        have CV := hid (fun W hW (hg : wr.grownBy W (some r)) => (HV.out g (by omega)) r A n c (n - (c0 :: r0).length) ndk (ar + 1) b B W hW (reads_grown hrk hg hB) hB hn hc (by omega) hndk (by omega) (by omega))
        rw [hds] at CV
        have hat : ((ar + 1 : Nat) : Int) = IntKind.i64.wrap ((ar : Int) + 1) := by rw [IntWalk.i64_in _ (by omega)]; omega
        rw [hat] at CV
        have HK := hid (fun W' (hb : Box W' (w.heap.size + 1) (.bool true) (.bool false) (.slice none 0 0) (.slice none 0 0) v) => (And.intro hb.all.1.2.2.2.2 (hb.all.2 4) : W'.cell? ⟨w.heap.size + 1, 4, none⟩ = some v ∧ W'.frozen? ⟨w.heap.size + 1, 4, none⟩ = false))
        clear hH hRk hsk hplace HV hrk hds
        cases hpv : aVal g (c0 :: r0) ndk (ar + 1) with
        | err k rest =>
          rw [hpv] at hRk2 CV
          have hRk2 : R = .err k rest := hRk2
          clear hpv
          go_wp2_with ((with_reducible refine C.out.mono ?_); rintro e w3 ⟨rfl, hR3, hg3⟩)
          have hb3' : wr.grownBy w3.drew (some r) := hg3.trans (grown_below (Below.refl _ _).drew _)
          have hR3' : RdAt w3.drew r A n c (n - (c0 :: r0).length : Nat) ndk := hR3
          have hx3 := HH.out.2.1.grown hb3' (fun e => by injection e with e; have := hrl; omega)
          have C2 := hid (CV.out _ hR3' hb3')
          obtain ⟨m4, mz⟩ := HK.out _ hx3
          have HE := hid (fun w4 (hg4 : w3.drew.grownBy w4 (some r)) => (by rw [hRk2]; exact ⟨rfl, HH.out.2.2.2.2.1.trans (hb3'.trans hg4)⟩ : ValEnd w r A n c (.panicked [{ v := .iface (kindT k) (.int .i64 (n - rest.length : Nat)), recovered := false }]) w4 (listRes R)))
          go_region_dies
          all_goals
            (refine C2.out.mono ?_)
            rintro e w4 ⟨rfl, hg4⟩
            exact ⟨rfl, HE.out _ hg4⟩
        | ok y rest =>
          obtain ⟨t, nd'⟩ := y
          rw [hpv] at hRk2 CV
          have hgd := (aVal_good g).1 (c0 :: r0) ndk (ar + 1) (by omega) hndk
          rw [hpv] at hgd
          obtain ⟨hst, hlt0, hnd', hnd5⟩ := hgd
          clear hpv
          go_wp2_with ((with_reducible refine C.out.mono ?_); rintro e w3 ⟨rfl, hR3, hg3⟩)
          have hb3' : wr.grownBy w3.drew (some r) := hg3.trans (grown_below (Below.refl _ _).drew _)
          have hR3' : RdAt w3.drew r A n c (n - (c0 :: r0).length : Nat) ndk := hR3
          have hx3 := HH.out.2.1.grown hb3' (fun e => by injection e with e; have := hrl; omega)
          have hH3 := HH.out.keep hrl hb3'
          have C2 := hid (CV.out _ hR3' hb3')
          obtain ⟨i0, hi, hz0, hz1, hz2⟩ := info_parts infoSexp
          have HO := hid hH3
          have HI := hid hi
          clear hH3
          obtain ⟨m4, mz4⟩ := HK.out _ hx3
          have HS := hid hst
          have HR2 := hid hRk2
          have hnp := nodes_pos t
          clear hst hRk2
          go_region_law
            ((first
              | (go_simp; (with_reducible refine C2.out.mono ?_); rintro e w4 ⟨x0, x1, x2, x3, x4, rfl, hin, hR4, hg4⟩; have hH4 := HO.out.keep hrl hg4; have hx4 := hH4.2.1; have hz4 := hg4.size; have hz3 := hb3'.size; obtain ⟨m5, mz5⟩ := HK.out _ hx4; have m6 := fun o => (HK.out _ (hx4.old (below_new w4 o))).1)
              | (refine step_append_any _ rfl (.tmp 13) (.tmp 18) 23 rfl (w.heap.size + 2) 25 i0 _ 5 80 Tryz.underlying23 HI.out hz0 hz1 hz2 rfl (by omega) v acc.length ys rfl (own_old hH4.2.2.1 (below_new _ _)) _ _ 1 _ [x0, x1, x2, x3, x4] rfl (reads_five _ _) (sin_one hin) (by unfold maxLen; omega) (by omega) (by simp; omega) ?_; intro v' w5 hown5 hg5 hv5; obtain ⟨A5, c5, rfl⟩ := own_form hown5; have hx5 := (hx4.old (below_new _ _)).grown hg5 (fun e => by have := (own_lt hH4.2.2.1 e).1; omega); obtain ⟨m7, mz7⟩ := HK.out _ hx5)))
          all_goals
            have hsk0 := HSK.out
            have hst' := HS.out
            have hd2 := drop_tail HDS.out hl (by omega) hst'
            have hlt := hlt0
            have hHS := hH4.step hrl hin (fun k hk => (own_lt HO.out.2.2.1 hk).2) (by omega) hown5 hg5 hv5
            have hRS : RdAt (w5.setCell ⟨w.heap.size + 1, 4, none⟩ (.slice A5 (acc.length + 1) c5)) r A n c (n - rest.length : Nat) nd' :=
              ((hR4.old (below_new _ _)).grown hg5 (fun e => by have := (own_lt hH4.2.2.1 e.symm).1; omega)).far (q := ⟨w.heap.size + 1, 4, none⟩) (by show r ≠ w.heap.size + 1; omega) _
            have hme := hRS.all
            have hmr := HRD.out.all
            have hRR : R = addK (acc ++ [t]) (aKids g rest nd' (ar + 1)) := by
              rw [HR2.out]
              cases aKids g rest nd' (ar + 1) with
              | err e q => rfl
              | ok y q => obtain ⟨ks, q2⟩ := y; simp [addK]
            refine ⟨⟨_, _, _, _, _, _, _, _, _, _, _, _, ⟨acc ++ [t], g, rest, nd', _, _, hHS, hRS, by omega, hd2, by omega, by omega, hRR, hnd5, by simp; omega⟩, rfl⟩, ?_⟩
            rw [hme.2.1, hmr.2.1]
            simp only [Option.getD_some, intOf, Int.toNat_natCast]
            omega
theorem value_all (f : Nat) : ValSpec f := by
  induction f using Nat.strongRecOn with
  | _ f ih =>
    cases f with
    | zero =>
      intro r A n c p nd ar b B w h hr hB hn hc hp hnd har hf
      omega
    | succ f => exact value_step f (list_step f fun g hg => ih g (by omega))
end Go.Proofs.YtcojkmcnigppbaaGreatDoor.Nt
end
section
namespace Go.Proofs.YtcojkmcnigppbaaGreatDoor
open Go Go.Proofs Go.RowKit Sx Oct
theorem ta_has (t : TypeId) (d : TypeDesc) (hu : Tryz.prog.underlying t = some d) (hd : ∀ x, d ≠ .interface x) (v : Value) (x : TypeId) (w : World) :
    (Instr.typeAssert (.iface t v) x t true).run Tryz.prog w = .ok (.tuple #[v, .bool true]) w := by
  cases d <;> first | exact absurd rfl (hd _) | simp [Instr.typeAssert, run_underlying hu, go_sem, Result.andThen]
theorem ta_lacks (t t' : TypeId) (d : TypeDesc) (hu : Tryz.prog.underlying t = some d) (hd : ∀ x, d ≠ .interface x) (hi : (Tryz.prog.info? t).map (fun i => i.zero) = some (some (.int .i64 0))) (hne : t' ≠ t) (v : Value) (x : TypeId) (w : World) :
    (Instr.typeAssert (.iface t' v) x t true).run Tryz.prog w = .ok (.tuple #[.int .i64 0, .bool false]) w := by
  obtain ⟨i, h1, h2⟩ := Option.map_eq_some_iff.1 hi
  cases d <;> first | exact absurd rfl (hd _) | simp [Instr.typeAssert, run_underlying hu, go_sem, Result.andThen, hne, zeroValue, typeInfo, h1, h2]
theorem kinds_info : ∀ k, 2 ≤ k → k ≤ 5 → Tryz.prog.underlying (kindT k) = some (.int .i64) ∧ (Tryz.prog.info? (kindT k)).map (fun i => i.zero) = some (some (.int .i64 0)) := by
  intro k h1 h2
  have hk4 : k = 2 ∨ k = 3 ∨ k = 4 ∨ k = 5 := by omega
  rcases hk4 with rfl | rfl | rfl | rfl <;> exact ⟨by kernel_rfl, by kernel_rfl⟩
theorem ta_kind (k j : Nat) (hk : 2 ≤ k ∧ k ≤ 5) (hj : 2 ≤ j ∧ j ≤ 5) (v : Value) (x : TypeId) (w : World) :
    (Instr.typeAssert (.iface (kindT k) v) x (kindT j) true).run Tryz.prog w = .ok (.tuple #[if k = j then v else .int .i64 0, .bool (decide (k = j))]) w := by
  obtain ⟨h1, h2⟩ := kinds_info j hj.1 hj.2
  by_cases h : k = j
  · subst h
    rw [if_pos rfl, decide_eq_true rfl]
    exact ta_has _ _ h1 (fun _ e => by cases e) v x w
  · rw [if_neg h, decide_eq_false h]
    refine ta_lacks _ _ _ h1 (fun _ e => by cases e) h2 ?_ v x w
    have a : k = 2 ∨ k = 3 ∨ k = 4 ∨ k = 5 := by omega
    have b : j = 2 ∨ j = 3 ∨ j = 4 ∨ j = 5 := by omega
    rcases a with rfl | rfl | rfl | rfl <;> rcases b with rfl | rfl | rfl | rfl <;> first | exact absurd rfl h | decide
set_option maxHeartbeats 4000000 in
set_option maxRecDepth 100000 in
theorem catch_throw (k : Nat) (hk : 2 ≤ k ∧ k ≤ 5) (p : Nat) (a1 a2 : Nat) (hne : a1 ≠ a2) (w : World) (hc1 : w.cell? ⟨a1, 0, none⟩ = some (.int .i64 0)) (hz1 : w.frozen? ⟨a1, 0, none⟩ = false) (hc2 : w.cell? ⟨a2, 0, none⟩ = some (.int .i64 0)) (hz2 : w.frozen? ⟨a2, 0, none⟩ = false) :
    CallsD Tryz.prog 41 #[.pointer (some ⟨a1, 0, none⟩), .pointer (some ⟨a2, 0, none⟩)] (.panicking [{ v := .iface (kindT k) (.int .i64 p), recovered := false }]) w fun e u' w' =>
      e = .returned (.tuple #[]) ∧ u' = .panicking [{ v := .iface (kindT k) (.int .i64 p), recovered := true }] ∧ w' = (w.setCell ⟨a1, 0, none⟩ (.int .i64 p)).setCell ⟨a2, 0, none⟩ (.int .i64 k) := by
  have t2 := ta_kind k 2 hk (by omega) (.int .i64 p)
  have t3 := ta_kind k 3 hk (by omega) (.int .i64 p)
  have t4 := ta_kind k 4 hk (by omega) (.int .i64 p)
  have t5 := ta_kind k 5 hk (by omega) (.int .i64 p)
  have hk4 : k = 2 ∨ k = 3 ∨ k = 4 ∨ k = 5 := by omega
  have hne' : ¬ a2 = a1 := fun h => hne h.symm
  rcases hk4 with rfl | rfl | rfl | rfl
  all_goals
    simp [kindT] at t2 t3 t4 t5
    refine callsD_of_wpS Tryz.func41 rfl fun c₀ cs hu => ?_
    apply wpS_seq
    apply wpS_region
    simp [wpOpsS, go_sem, recoverD, hu, Tryz.ntmps41, Exit.thenS, kindT]
    refine wpS_of_wp ?_
    simp only [Array.replicate]
    go_wp2_with fail
    simp [bodyPostS, results, Tryz.results41]
set_option maxHeartbeats 4000000 in
set_option maxRecDepth 100000 in
theorem catch_idle (a1 a2 : Addr) (w : World) :
    CallsD Tryz.prog 41 #[.pointer (some a1), .pointer (some a2)] .returning w fun e u' w' => e = .returned (.tuple #[]) ∧ u' = .returning ∧ w' = w := by
  refine callsD_of_wpS Tryz.func41 rfl fun c₀ cs hu => ?_
  apply wpS_seq
  apply wpS_region
  simp [wpOpsS, go_sem, recoverD, hu, Tryz.ntmps41, Exit.thenS]
  refine wpS_of_wp ?_
  simp only [Array.replicate]
  go_wp2_with fail
  cases c₀
  simp_all [bodyPostS, results, Tryz.results41]
def GetEnd (w : World) (e : Ending) (w' : World) (x : SX × Nat × Nat) : Prop :=
  ∃ v0 v1 v2 v3 v4, e = .returned (.tuple #[.agg #[v0, v1, v2, v3, v4], .int .i64 x.2.1, .int .i64 x.2.2]) ∧ SIn w' (fun k => w.heap.size ≤ k) x.1 [v0, v1, v2, v3, v4] ∧ Below w.heap.size w w'
set_option maxHeartbeats 4000000 in
set_option maxRecDepth 100000 in
theorem get_any (A : Option Addr) (n c : Nat) (b : List UInt8) (w : World) (hr : Reads w w.heap.size 1 A n (Lib.byteCells b)) (hc : n ≤ c) :
    Calls Tryz.prog 22 #[.slice A n c] w fun e w' => GetEnd w e w' (pGet b) := by
  have hmf : ∀ (fn : Fn) (first cap : Array Value) (w : World), (Instr.makeFunc fn first cap).run Tryz.prog w = .ok (.func fn first cap) w := fun _ _ _ _ => rfl
  generalize hPG : pGet b = PG
  have hz1 : (w.alloc (.cells #[.bool false, .bool false, .slice none 0 0, .slice none 0 0, .slice none 0 0] 25)).heap.size = w.heap.size + 1 := by simp
  have hz2 : ((w.alloc (.cells #[.bool false, .bool false, .slice none 0 0, .slice none 0 0, .slice none 0 0] 25)).alloc (.cells #[.int .i64 0] 3)).heap.size = w.heap.size + 1 + 1 := by simp
  have hz3 : (((w.alloc (.cells #[.bool false, .bool false, .slice none 0 0, .slice none 0 0, .slice none 0 0] 25)).alloc (.cells #[.int .i64 0] 3)).alloc (.cells #[.int .i64 0] 28)).heap.size = w.heap.size + 1 + 1 + 1 := by simp
  have b1 := below_new w (.cells #[.bool false, .bool false, .slice none 0 0, .slice none 0 0, .slice none 0 0] 25)
  have b2 := below_new (w.alloc (.cells #[.bool false, .bool false, .slice none 0 0, .slice none 0 0, .slice none 0 0] 25)) (.cells #[.int .i64 0] 3)
  have b3 := below_new ((w.alloc (.cells #[.bool false, .bool false, .slice none 0 0, .slice none 0 0, .slice none 0 0] 25)).alloc (.cells #[.int .i64 0] 3)) (.cells #[.int .i64 0] 28)
  have hb0 := b1.trans ((b2.mono (by omega)).trans (b3.mono (by omega)))
  have X1 : Box (((w.alloc (.cells #[.bool false, .bool false, .slice none 0 0, .slice none 0 0, .slice none 0 0] 25)).alloc (.cells #[.int .i64 0] 3)).alloc (.cells #[.int .i64 0] 28)) w.heap.size (.bool false) (.bool false) (.slice none 0 0) (.slice none 0 0) (.slice none 0 0) := below_at b3 (below_at b2 (heap_alloc_new w _))
  have X2 : (((w.alloc (.cells #[.bool false, .bool false, .slice none 0 0, .slice none 0 0, .slice none 0 0] 25)).alloc (.cells #[.int .i64 0] 3)).alloc (.cells #[.int .i64 0] 28)).heap[w.heap.size + 1]? = some (Obj.cells #[.int .i64 0] 3 (0, 0)) := by
    have := heap_alloc_new (w.alloc (.cells #[.bool false, .bool false, .slice none 0 0, .slice none 0 0, .slice none 0 0] 25)) (.cells #[.int .i64 0] 3)
    rw [hz1] at this
    exact below_at b3 this
  have X3 : (((w.alloc (.cells #[.bool false, .bool false, .slice none 0 0, .slice none 0 0, .slice none 0 0] 25)).alloc (.cells #[.int .i64 0] 3)).alloc (.cells #[.int .i64 0] 28)).heap[w.heap.size + 1 + 1]? = some (Obj.cells #[.int .i64 0] 28 (0, 0)) := by
    have := heap_alloc_new ((w.alloc (.cells #[.bool false, .bool false, .slice none 0 0, .slice none 0 0, .slice none 0 0] 25)).alloc (.cells #[.int .i64 0] 3)) (.cells #[.int .i64 0] 28)
    rw [hz2] at this
    exact this
  go_enter_defers Tryz.func22, Tryz.ntmps22
  go_wp2_with fail
  clear b1 b2 b3 hz1 hz2
  generalize (((w.alloc (.cells #[.bool false, .bool false, .slice none 0 0, .slice none 0 0, .slice none 0 0] 25)).alloc (.cells #[.int .i64 0] 3)).alloc (.cells #[.int .i64 0] 28)) = W at *
  have C := readAll_any A n c b W ((hr.keep (fun q hq => hb0.cell hq)).more hb0.size) hc
  rw [hPG] at C
  refine C.mono ?_
  intro e w3 hE
  obtain ⟨t, p, k⟩ := PG
  cases k with
  | zero =>
    obtain ⟨rfl, v0, v1, v2, v3, v4, rfl, hin, hb3⟩ := hE
    obtain ⟨l', h', hi', da', ks', B1, m1, j1, B2, m2, j2, B3, m3, j3, _, eE⟩ := hin.form_
    injection eE with eE0 eE; injection eE with eE1 eE; injection eE with eE2 eE; injection eE with eE3 eE; injection eE with eE4 eE
    subst eE0 eE1 eE2 eE3 eE4
    have hz4 := hb3.size
    obtain ⟨⟨d0, d1, d2, d3, d4⟩, dz⟩ := (X1.old hb3).all
    have dz0 := dz 0
    have dz1 := dz 1
    have dz2 := dz 2
    have dz3 := dz 3
    have dz4 := dz 4
    have Y2 := below_at hb3 X2
    have Y3 := below_at hb3 X3
    have g2 : w3.cell? ⟨w.heap.size + 1, 0, none⟩ = some (.int .i64 0) := by rw [Lib.cell_of_heap Y2]; rfl
    have g3 : w3.cell? ⟨w.heap.size + 1 + 1, 0, none⟩ = some (.int .i64 0) := by rw [Lib.cell_of_heap Y3]; rfl
    have gz2 : w3.frozen? ⟨w.heap.size + 1, 0, none⟩ = false := by simp [World.frozen?, Y2]
    have gz3 : w3.frozen? ⟨w.heap.size + 1 + 1, 0, none⟩ = false := by simp [World.frozen?, Y3]
    have hbF := ((put5_below (hb0.trans (hb3.mono hb0.size)) (Nat.le_refl _) (.bool l') (.bool h') (.slice B1 m1 j1) (.slice B2 m2 j2) (.slice B3 m3 j3)).setCell (p := ⟨w.heap.size + 1, 0, none⟩) (by show w.heap.size ≤ w.heap.size + 1; omega) (.int .i64 0)).setCell (p := ⟨w.heap.size + 1 + 1, 0, none⟩) (by show w.heap.size ≤ w.heap.size + 1 + 1; omega) (.int .i64 0)
    have hiF : SIn (((put5 w3 w.heap.size (.bool l') (.bool h') (.slice B1 m1 j1) (.slice B2 m2 j2) (.slice B3 m3 j3)).setCell ⟨w.heap.size + 1, 0, none⟩ (.int .i64 0)).setCell ⟨w.heap.size + 1 + 1, 0, none⟩ (.int .i64 0)) (fun k => w.heap.size ≤ k) t [.bool l', .bool h', .slice B1 m1 j1, .slice B2 m2 j2, .slice B3 m3 j3] :=
      (((((hin.more (S' := fun k => w.heap.size + 1 + 1 + 1 ≤ k) fun k hk => by omega).keep fun q hq => put5_far q (by omega)).far (p := ⟨w.heap.size + 1, 0, none⟩) (fun k hk => by show k ≠ w.heap.size + 1; omega) _).far (p := ⟨w.heap.size + 1 + 1, 0, none⟩) (fun k hk => by show k ≠ w.heap.size + 1 + 1; omega) _)).more fun k hk => by omega
    have HF := hid (And.intro hiF hbF)
    clear hiF hbF hin hb3 hb0 X1 X2 X3 Y2 Y3 dz
    go_wp2_with fail
    refine leaves_cons (f := 41) (args := #[.pointer (some ⟨w.heap.size + 1, 0, none⟩), .pointer (some ⟨w.heap.size + 1 + 1, 0, none⟩)]) (by simp) (by simp [go_sem]) ?_
    refine (catch_idle _ _ _).mono ?_
    rintro e u' w'' ⟨rfl, rfl, rfl⟩
    simp [Leaves, settle, results, Tryz.results22, go_sem, d0, d1, d2, d3, d4, g2, g3]
    exact ⟨_, _, _, _, _, rfl, HF.out⟩
  | succ k =>
    obtain ⟨rfl, hk1, hk2, hp, hth, hb3⟩ := hE
    have hth : e = .panicked [{ v := .iface (kindT (k + 1)) (.int .i64 (p : Nat)), recovered := false }] := hth
    subst hth
    have hz4 := hb3.size
    have Y1 := X1.old hb3
    have Y2 := below_at hb3 X2
    have Y3 := below_at hb3 X3
    have g2 : w3.cell? ⟨w.heap.size + 1, 0, none⟩ = some (.int .i64 0) := by rw [Lib.cell_of_heap Y2]; rfl
    have g3 : w3.cell? ⟨w.heap.size + 1 + 1, 0, none⟩ = some (.int .i64 0) := by rw [Lib.cell_of_heap Y3]; rfl
    have gz2 : w3.frozen? ⟨w.heap.size + 1, 0, none⟩ = false := by simp [World.frozen?, Y2]
    have gz3 : w3.frozen? ⟨w.heap.size + 1 + 1, 0, none⟩ = false := by simp [World.frozen?, Y3]
    obtain ⟨⟨d0, d1, d2, d3, d4⟩, -⟩ := Y1.all
    have hbF := ((hb0.trans (hb3.mono hb0.size)).setCell (p := ⟨w.heap.size + 1, 0, none⟩) (by show w.heap.size ≤ w.heap.size + 1; omega) (.int .i64 p)).setCell (p := ⟨w.heap.size + 1 + 1, 0, none⟩) (by show w.heap.size ≤ w.heap.size + 1 + 1; omega) (.int .i64 ((k + 1 : Nat) : Int))
    have hiF : SIn ((w3.setCell ⟨w.heap.size + 1, 0, none⟩ (.int .i64 p)).setCell ⟨w.heap.size + 1 + 1, 0, none⟩ (.int .i64 ((k + 1 : Nat) : Int))) (fun k => w.heap.size ≤ k) zeroS [.bool false, .bool false, .slice none 0 0, .slice none 0 0, .slice none 0 0] :=
      .mk (xs := []) RIn.none_ ⟨Nat.le_refl _, by omega⟩ RIn.none_ ⟨Nat.le_refl _, by omega⟩ RIn.none_ ⟨Nat.le_refl _, by omega⟩ rfl (fun i t hit => by simp at hit)
    have HF := hid (And.intro hiF hbF)
    clear hiF hbF hb3 hb0 X1 X2 X3 Y1 Y2 Y3
    go_wp2_with fail
    refine leaves_cons (f := 41) (args := #[.pointer (some ⟨w.heap.size + 1, 0, none⟩), .pointer (some ⟨w.heap.size + 1 + 1, 0, none⟩)]) (by simp) (by simp [go_sem]) ?_
    refine (catch_throw (k + 1) ⟨hk1, hk2⟩ p _ _ (by omega) _ g2 gz2 g3 gz3).mono ?_
    rintro e u' w'' ⟨rfl, rfl, rfl⟩
    simp [Leaves, settle, results, Tryz.results22, go_sem, d0, d1, d2, d3, d4, g2, g3]
    exact ⟨_, _, _, _, _, rfl, HF.out⟩
end Go.Proofs.YtcojkmcnigppbaaGreatDoor
end
section
set_option maxRecDepth 100000
namespace Go.Proofs.YtcojkmcnigppbaaGreatDoor.Nt
open Go Go.Proofs Go.RowKit Sx Oct
inductive FR where
  | err (k : Nat) (rest : List UInt8)
  | packed (k : Nat) (rest : List UInt8)
  | ok (t : SX) (rest : List UInt8)
def Packed (k : Nat) (p : Nat) (e : Ending) : Prop := e = .panicked [{ v := .iface 89 (.agg #[.int .i64 (p : Nat), .int .i64 (k : Nat)]), recovered := false }]
def FrmEnd (w : World) (r : Nat) (A : Option Addr) (n c : Nat) (e : Ending) (w' : World) : FR → Prop
  | .err k rest => Thrown k (n - rest.length) e ∧ w.grownBy w' (some r)
  | .packed k rest => Packed k (n - rest.length) e ∧ w.grownBy w' (some r)
  | .ok t rest => ∃ v0 v1 v2 v3 v4 nd', e = .returned (.agg #[v0, v1, v2, v3, v4]) ∧ SIn w' (fun k => w.heap.size ≤ k) t [v0, v1, v2, v3, v4] ∧ RdAt w' r A n c (n - rest.length : Nat) nd' ∧ w.grownBy w' (some r)
def fAdv (s : List UInt8) : FR := match aVal (2 * s.length + 1) s 0 0 with
  | .err e r => .err e r
  | .ok (t, _) r => .ok t r
def fTrn (s : List UInt8) : FR := match skip s with
  | [] => .err 2 []
  | c :: r => if c ≠ 123 then .err 3 (c :: r) else
    match aSome isB64S 125 r with
    | .err e q => .err e q
    | .ok l q => match ub64 l with
      | none => .err 3 q
      | some b => match pGet b with
        | (t, _, 0) => .ok t (q.drop 1)
        | (_, _, e + 1) => .packed (e + 1) q
def aAll (F : List UInt8 → FR) (s : List UInt8) : SX × Nat × Nat :=
  if 16384 < s.length then (zeroS, 16384, 4)
  else match F s with
    | .err e r => (zeroS, s.length - r.length, e)
    | .packed e r => (zeroS, s.length - r.length, e)
    | .ok t r => aEnd s.length t r
theorem aRead_all (s : List UInt8) : aRead s = aAll fAdv s := by
  unfold aRead aAll fAdv
  split
  · rfl
  · cases aVal (2 * s.length + 1) s 0 0 with
    | err e r => rfl
    | ok y r => obtain ⟨t, nd⟩ := y; rfl
theorem aUnpack_all (s : List UInt8) : aUnpack s = aAll fTrn s := by
  unfold aUnpack aAll fTrn
  split
  · rfl
  · cases skip s with
    | nil => simp
    | cons c r =>
      simp only
      by_cases hc : c ≠ 123
      · rw [if_pos hc, if_pos hc]
      · rw [if_neg hc, if_neg hc]
        cases aSome isB64S 125 r with
        | err e q => rfl
        | ok l q =>
          simp only
          cases ub64 l with
          | none => rfl
          | some b =>
            simp only
            obtain ⟨t, p, k⟩ := pGet b
            cases k <;> rfl
set_option maxHeartbeats 2000000 in
theorem advanced_any (r : Nat) (A : Option Addr) (n c : Nat) (b : List UInt8) (B : Nat) (w : World) (h : RdAt w r A n c (0 : Nat) (0 : Nat)) (hr : Reads w B 1 A n (Lib.byteCells b)) (hB : B ≤ r) (hn : n ≤ 20000) (hc : n ≤ c) :
    Calls Tryz.prog 31 #[.pointer (some ⟨r, 0, none⟩)] w fun e w' => FrmEnd w r A n c e w' (fAdv b) := by
  have hl : b.length = n := by have := hr.1; simpa [Lib.byteCells_length] using this
  have hrl := h.lt
  have hb0 := below_new w (.cells #[.bool false, .bool false, .slice none 0 0, .slice none 0 0, .slice none 0 0] 25)
  have X1 : Box (w.alloc (.cells #[.bool false, .bool false, .slice none 0 0, .slice none 0 0, .slice none 0 0] 25)) w.heap.size (.bool false) (.bool false) (.slice none 0 0) (.slice none 0 0) (.slice none 0 0) := heap_alloc_new w _
  have hsz : (w.alloc (.cells #[.bool false, .bool false, .slice none 0 0, .slice none 0 0, .slice none 0 0] 25)).heap.size = w.heap.size + 1 := by simp
  have hg0 := grown_below hb0 (some r)
  have C := value_all (2 * n + 1) r A n c 0 0 0 b B _ (h.old hb0) (reads_grown hr hg0 hB) hB hn hc (by omega) (by omega) (by omega) (by omega)
  rw [List.drop_zero] at C
  rw [fAdv, hl]
  cases hv : aVal (2 * n + 1) b 0 0 with
  | err k rest =>
    rw [hv] at C
    simp only [ValEnd] at C
    have C := hid C
    clear h hr X1
    go_enter Tryz.func31, Tryz.ntmps31
    go_wp2_with fail
    refine C.out.mono ?_
    rintro e w1 ⟨rfl, hg1⟩
    go_wp2_with fail
    exact ⟨rfl, rfl, hg0.trans hg1⟩
  | ok y rest =>
    obtain ⟨t, nd'⟩ := y
    rw [hv] at C
    simp only [ValEnd] at C
    have C := hid C
    clear h hr
    go_enter Tryz.func31, Tryz.ntmps31
    go_wp2_with fail
    refine C.out.mono ?_
    rintro e w3 ⟨v0, v1, v2, v3, v4, rfl, hin, hR3, hg3⟩
    obtain ⟨l', h', hi', da', ks', B1, m1, j1, B2, m2, j2, B3, m3, j3, _, eE⟩ := hin.form_
    injection eE with eE0 eE; injection eE with eE1 eE; injection eE with eE2 eE; injection eE with eE3 eE; injection eE with eE4 eE
    subst eE0 eE1 eE2 eE3 eE4
    have hgF := put5_grown (hg0.trans hg3) (Nat.le_refl _) (.bool l') (.bool h') (.slice B1 m1 j1) (.slice B2 m2 j2) (.slice B3 m3 j3)
    have hRF : RdAt (put5 w3 w.heap.size (.bool l') (.bool h') (.slice B1 m1 j1) (.slice B2 m2 j2) (.slice B3 m3 j3)) r A n c (n - rest.length : Nat) nd' := (put5_block (by omega) _ _ _ _ _).trans hR3
    have hiF : SIn (put5 w3 w.heap.size (.bool l') (.bool h') (.slice B1 m1 j1) (.slice B2 m2 j2) (.slice B3 m3 j3)) (fun k => w.heap.size ≤ k) t [.bool l', .bool h', .slice B1 m1 j1, .slice B2 m2 j2, .slice B3 m3 j3] :=
      ((hin.more (S' := fun k => w.heap.size + 1 ≤ k) fun k hk => by omega).keep fun q hq => put5_far q (by omega)).more fun k hk => by omega
    obtain ⟨⟨d0, d1, d2, d3, d4⟩, dz⟩ := (X1.grown hg3 (fun e => by injection e with e; omega)).all
    have dz0 := dz 0
    have dz1 := dz 1
    have dz2 := dz 2
    have dz3 := dz 3
    have dz4 := dz 4
    have HF := hid (And.intro hiF (And.intro hRF hgF))
    clear dz X1 hin hR3 hiF hRF hgF
    go_wp2_with fail
    exact bodyPost_ret (v := .agg #[.bool l', .bool h', .slice B1 m1 j1, .slice B2 m2 j2, .slice B3 m3 j3]) (by simp [results, Tryz.results31, go_sem, d0, d1, d2, d3, d4]) rfl ⟨_, _, _, _, _, _, rfl, HF.out⟩
set_option maxHeartbeats 8000000 in
theorem transport_any (r : Nat) (A : Option Addr) (n c : Nat) (b : List UInt8) (B : Nat) (w : World) (h : RdAt w r A n c (0 : Nat) (0 : Nat)) (hr : Reads w B 1 A n (Lib.byteCells b)) (hB : B ≤ r) (hn : n ≤ 20000) (hc : n ≤ c) :
    Calls Tryz.prog 32 #[.pointer (some ⟨r, 0, none⟩)] w fun e w' => FrmEnd w r A n c e w' (fTrn b) := by
  generalize hRR : fTrn b = R
  have HRR := hid hRR
  clear hRR
  have hl : b.length = n := by have := hr.1; simpa [Lib.byteCells_length] using this
  have hrl := h.lt
  have hb0 := below_new w (.cells #[.bool false, .bool false, .slice none 0 0, .slice none 0 0, .slice none 0 0] 25)
  have X1 : Box (w.alloc (.cells #[.bool false, .bool false, .slice none 0 0, .slice none 0 0, .slice none 0 0] 25)) w.heap.size (.bool false) (.bool false) (.slice none 0 0) (.slice none 0 0) (.slice none 0 0) := heap_alloc_new w _
  have hsz : (w.alloc (.cells #[.bool false, .bool false, .slice none 0 0, .slice none 0 0, .slice none 0 0] 25)).heap.size = w.heap.size + 1 := by simp
  have hg0 := grown_below hb0 (some r)
  have C := expect_any 123 r A n c 0 (0 : Nat) b B _ (h.old hb0) (reads_grown hr hg0 hB) hB (by omega) hn hc b (List.drop_zero)
  unfold ExpEnd at C
  have hsk := (Tail.skip b).le
  have hd0 := drop_tail (List.drop_zero (l := b)) hl (by omega) (Tail.skip b)
  cases hs : skip b with
  | nil =>
    have hRe : Hid (R = .err 2 []) := by show _ = _; rw [← HRR.out, fTrn, hs]
    rw [hs] at C
    simp only at C
    have C := hid C
    clear h hr X1 hs
    go_enter Tryz.func32, Tryz.ntmps32
    go_wp2_with fail
    refine C.out.mono ?_
    rintro e w1 ⟨rfl, hg1⟩
    go_wp2_with fail
    rw [hRe.out]
    exact ⟨rfl, rfl, hg0.trans hg1⟩
  | cons x q =>
    rw [hs] at C hd0 hsk
    simp only at C
    have hlr : (x :: q).length = q.length + 1 := rfl
    by_cases hx : x = 123
    · simp only [if_pos hx] at C
      have C := hid C
      have hd1 : b.drop (n - q.length) = q := drop_tail hd0 hl (by omega) (Tail.cons _ _)
      have hRe : Hid (R = match aSome isB64S 125 q with | .err e q => .err e q | .ok l q => match ub64 l with | none => .err 3 q | some b => match pGet b with | (t, _, 0) => .ok t (q.drop 1) | (_, _, e + 1) => .packed (e + 1) q) := by
        show _ = _
        rw [← HRR.out, fTrn, hs]
        simp only [hx, ne_eq, not_true_eq_false, if_false]
      clear hx
      have HR := hid hr
      have C2 : Hid (∀ W, Calls Tryz.prog 55 #[.string b64T] W fun e w' => e = .returned (.func (.func 87) #[] #[.pointer (some ⟨W.heap.size, 0, none⟩)]) ∧ w' = W.alloc (.cells #[.string b64T] 9)) := hid fun W => oneOf_any b64T W
      have C3 : Hid (∀ W, RdAt W r A n c (n - q.length : Nat) (0 : Nat) → w.grownBy W (some r) → Calls Tryz.prog 54 #[.pointer (some ⟨r, 0, none⟩), .int .u8 125, .func (.func 87) #[] #[.pointer (some ⟨W.heap.size, 0, none⟩)], .func (.func 56) #[] #[]] (W.alloc (.cells #[.string b64T] 9)) fun e w' => AtomEnd (W.alloc (.cells #[.string b64T] 9)) r A n c (0 : Nat) e w' (aSgn ub64 (aSome isB64S 125 q))) := hid fun W hW hg => by
        have hb := below_new W (.cells #[.string b64T] 9)
        have := signs_b64 b64T 125 (by decide) (by rw [b64T_sign]; decide) (by rw [b64T_sign]; intro x hx; exact (blank_no x hx).2) W.heap.size r A n c (n - q.length) (0 : Nat) b B (W.alloc (.cells #[.string b64T] 9)) (hW.old hb) (reads_grown HR.out (hg.trans (grown_below hb (some r))) hB) hB (cell_new W b64T) (by have := hW.lt; omega) (by omega) hn hc q hd1
        rw [b64T_sign] at this
        exact this
      clear h hr hs hd0
      cases hso : aSome isB64S 125 q with
      | err k rest =>
        rw [hso] at C3 hRe
        have HRf : Hid (R = .err k rest) := hid hRe.out
        clear hRe hso hd1
        go_enter Tryz.func32, Tryz.ntmps32
        go_wp2_with fail
        refine C.out.mono ?_
        rintro e w1 ⟨rfl, hR1, hg1⟩
        go_wp2_with fail
        refine (C2.out w1).mono ?_
        rintro e w2 ⟨rfl, rfl⟩
        go_wp2_with fail
        have C4 := C3.out w1 hR1 (hg0.trans hg1)
        simp only [aSgn, AtomEnd] at C4
        refine C4.mono ?_
        rintro e w3 ⟨rfl, hg3⟩
        go_wp2_with fail
        rw [HRf.out]
        exact ⟨rfl, rfl, hg0.trans (hg1.trans ((grown_below (below_new w1 _) _).trans hg3))⟩
      | ok l rest =>
        obtain ⟨t, rfl⟩ := aSome_stop hso
        have ht : Tail (125 :: t) q := by have := aSome_fine isB64S 125 q; rw [hso] at this; exact this
        have htl := ht.le
        have hd2 := hid (drop_tail hd1 hl (by omega) ht)
        rw [hso] at C3 hRe
        have hll := aSome_len hso
        cases hm : ub64 l with
        | none =>
          have HRf : Hid (R = .err 3 (125 :: t)) := hid (by rw [hRe.out]; simp only [hm])
          have HM := hid hm
          clear hRe hso hd1 hm
          go_enter Tryz.func32, Tryz.ntmps32
          go_wp2_with fail
          refine C.out.mono ?_
          rintro e w1 ⟨rfl, hR1, hg1⟩
          go_wp2_with fail
          refine (C2.out w1).mono ?_
          rintro e w2 ⟨rfl, rfl⟩
          go_wp2_with fail
          have C4 := C3.out w1 hR1 (hg0.trans hg1)
          simp only [aSgn, HM.out, AtomEnd] at C4
          refine C4.mono ?_
          rintro e w3 ⟨rfl, hg3⟩
          go_wp2_with fail
          rw [HRf.out]
          exact ⟨rfl, rfl, hg0.trans (hg1.trans ((grown_below (below_new w1 _) _).trans hg3))⟩
        | some bs =>
          have HM := hid hm
          have C5 : Hid (∀ W, RdAt W r A n c (n - (125 :: t).length : Nat) (0 : Nat) → w.grownBy W (some r) → Calls Tryz.prog 53 #[.pointer (some ⟨r, 0, none⟩), .int .u8 125] W fun e w' => e = .returned (.tuple #[]) ∧ RdAt w' r A n c (n - t.length : Nat) (0 : Nat) ∧ W.grownBy w' (some r)) := hid fun W hW hg =>
            expect_at 125 (by decide) r A n c _ (0 : Nat) b B W hW (reads_grown HR.out hg hB) hB (by omega) hn hc t hd2.out
          have CG : Hid (∀ W A' c', RIn W (fun k => w.heap.size ≤ k) 1 A' bs.length (Lib.byteCells bs) → bs.length ≤ c' → Calls Tryz.prog 22 #[.slice A' bs.length c'] W fun e w' => GetEnd W e w' (pGet bs)) := hid fun W A' c' hi hc' => get_any A' bs.length c' bs W (hi.reads (by omega)) hc'
          generalize hpg : pGet bs = PG at *
          obtain ⟨pt, pp, pk⟩ := PG
          have hRe2 := hRe.out
          simp only [hm, hpg] at hRe2
          cases pk with
          | zero =>
            have HRf : Hid (R = .ok pt t) := hid hRe2
            clear hRe hso hd1 hm hpg hRe2
            go_enter Tryz.func32, Tryz.ntmps32
            go_wp2_with fail
            refine C.out.mono ?_
            rintro e w1 ⟨rfl, hR1, hg1⟩
            go_wp2_with fail
            refine (C2.out w1).mono ?_
            rintro e w2 ⟨rfl, rfl⟩
            go_wp2_with fail
            have C4 := C3.out w1 hR1 (hg0.trans hg1)
            simp only [aSgn, HM.out, AtomEnd] at C4
            refine C4.mono ?_
            rintro e w3 ⟨A', c', rfl, h1, h2, hR3, hg3⟩
            go_wp2_with fail
            have hg03 := hg0.trans (hg1.trans ((grown_below (below_new w1 (.cells #[.string b64T] 9)) (some r)).trans hg3))
            have hz3 := hg03.size
            have hz13 := (hg1.trans ((grown_below (below_new w1 (.cells #[.string b64T] 9)) (some r)).trans hg3)).size
            have hz1 := (hg0.trans hg1).size
            have h2 := h2.more (S' := fun k => w.heap.size ≤ k) (fun k hk => by have := (below_new w1 (.cells #[.string b64T] 9)).size; omega)
            refine (CG.out w3 A' c' h2 h1).mono ?_
            rintro e w4 ⟨v0, v1, v2, v3, v4, rfl, hin, hb4⟩
            obtain ⟨l', h', hi', da', ks', B1, m1, j1, B2, m2, j2, B3, m3, j3, _, eE⟩ := hin.form_
            injection eE with eE0 eE; injection eE with eE1 eE; injection eE with eE2 eE; injection eE with eE3 eE; injection eE with eE4 eE
            subst eE0 eE1 eE2 eE3 eE4
            have hbn := below_new w4 (.cells #[.bool l', .bool h', .slice B1 m1 j1, .slice B2 m2 j2, .slice B3 m3 j3] 25)
            have hb5 := hb4.trans (hbn.mono hb4.size)
            have hR5 := hR3.old hb5
            have hg5 := hg03.trans (grown_below hb5 (some r))
            have X4 : Box (w4.alloc (.cells #[.bool l', .bool h', .slice B1 m1 j1, .slice B2 m2 j2, .slice B3 m3 j3] 25)) w4.heap.size (.bool l') (.bool h') (.slice B1 m1 j1) (.slice B2 m2 j2) (.slice B3 m3 j3) := heap_alloc_new w4 _
            have hz4 := hb4.size
            have hin5 := hin.old hbn
            have X1 := ((X1.grown (hg1.trans ((grown_below (below_new w1 (.cells #[.string b64T] 9)) (some r)).trans hg3)) (fun e => by injection e with e; omega)).old hb5)
            have CE := hid (C5.out _ hR5 hg5)
            clear hR1 hg1 hg3 hR3 h2 hb4 hin C4
            go_wp2_with fail
            refine CE.out.mono ?_
            rintro e w6 ⟨rfl, hR6, hg6⟩
            have hz6 := hg6.size
            have hz5 : (w4.alloc (.cells #[.bool l', .bool h', .slice B1 m1 j1, .slice B2 m2 j2, .slice B3 m3 j3] 25)).heap.size = w4.heap.size + 1 := by simp
            obtain ⟨⟨d0, d1, d2, d3, d4⟩, dz⟩ := (X1.grown hg6 (fun e => by injection e with e; omega)).all
            obtain ⟨⟨f0, f1, f2, f3, f4⟩, -⟩ := (X4.grown hg6 (fun e => by injection e with e; omega)).all
            have dz0 := dz 0
            have dz1 := dz 1
            have dz2 := dz 2
            have dz3 := dz 3
            have dz4 := dz 4
            have hin6 := hin5.grown hg6 (fun k hk e => by injection e with e; omega)
            have hgF := put5_grown (hg5.trans hg6) (Nat.le_refl _) (.bool l') (.bool h') (.slice B1 m1 j1) (.slice B2 m2 j2) (.slice B3 m3 j3)
            have hRF : RdAt (put5 w6 w.heap.size (.bool l') (.bool h') (.slice B1 m1 j1) (.slice B2 m2 j2) (.slice B3 m3 j3)) r A n c (n - t.length : Nat) (0 : Nat) := (put5_block (by omega) _ _ _ _ _).trans hR6
            have hiF : SIn (put5 w6 w.heap.size (.bool l') (.bool h') (.slice B1 m1 j1) (.slice B2 m2 j2) (.slice B3 m3 j3)) (fun k => w.heap.size ≤ k) pt [.bool l', .bool h', .slice B1 m1 j1, .slice B2 m2 j2, .slice B3 m3 j3] :=
              ((hin6.more (S' := fun k => w.heap.size + 1 ≤ k) fun k hk => by omega).keep fun q hq => put5_far q (by omega)).more fun k hk => by omega
            have HF := hid (And.intro hiF (And.intro hRF hgF))
            clear dz X1 X4 hin5 hin6 hR5 hR6 hiF hRF hgF hg5 hg6
            go_wp2_with fail
            refine bodyPost_ret (v := .agg #[.bool l', .bool h', .slice B1 m1 j1, .slice B2 m2 j2, .slice B3 m3 j3]) (by simp [results, Tryz.results32, go_sem, d0, d1, d2, d3, d4]) rfl ?_
            rw [HRf.out]
            exact ⟨_, _, _, _, _, _, rfl, HF.out⟩
          | succ pk =>
            have HRf : Hid (R = .packed (pk + 1) (125 :: t)) := hid hRe2
            clear hRe hso hd1 hm hpg hRe2
            go_enter Tryz.func32, Tryz.ntmps32
            go_wp2_with fail
            refine C.out.mono ?_
            rintro e w1 ⟨rfl, hR1, hg1⟩
            go_wp2_with fail
            refine (C2.out w1).mono ?_
            rintro e w2 ⟨rfl, rfl⟩
            go_wp2_with fail
            have C4 := C3.out w1 hR1 (hg0.trans hg1)
            simp only [aSgn, HM.out, AtomEnd] at C4
            refine C4.mono ?_
            rintro e w3 ⟨A', c', rfl, h1, h2, hR3, hg3⟩
            go_wp2_with fail
            have hg03 := hg0.trans (hg1.trans ((grown_below (below_new w1 (.cells #[.string b64T] 9)) (some r)).trans hg3))
            have hz3 := hg03.size
            have hz13 := (hg1.trans ((grown_below (below_new w1 (.cells #[.string b64T] 9)) (some r)).trans hg3)).size
            have hz1 := (hg0.trans hg1).size
            have h2 := h2.more (S' := fun k => w.heap.size ≤ k) (fun k hk => by have := (below_new w1 (.cells #[.string b64T] 9)).size; omega)
            refine (CG.out w3 A' c' h2 h1).mono ?_
            rintro e w4 ⟨v0, v1, v2, v3, v4, rfl, hin, hb4⟩
            obtain ⟨l', h', hi', da', ks', B1, m1, j1, B2, m2, j2, B3, m3, j3, _, eE⟩ := hin.form_
            injection eE with eE0 eE; injection eE with eE1 eE; injection eE with eE2 eE; injection eE with eE3 eE; injection eE with eE4 eE
            subst eE0 eE1 eE2 eE3 eE4
            have hbn := below_new w4 (.cells #[.bool l', .bool h', .slice B1 m1 j1, .slice B2 m2 j2, .slice B3 m3 j3] 25)
            have hb5 := hb4.trans (hbn.mono hb4.size)
            have hR5 := hR3.old hb5
            have hg5 := hg03.trans (grown_below hb5 (some r))
            obtain ⟨c0, c1, c2, f1, f2⟩ := hR5.all
            have hkk : ((((pk + 1 : Nat) : Int)) != 0) = true := by rw [bne_iff_ne]; omega
            clear hR1 hg1 hg3 hR3 h2 hb4 hin C4 X1
            go_wp2_with fail
            rw [HRf.out]
            exact ⟨rfl, rfl, hg5⟩
    · simp only [if_neg hx] at C
      have hRe : Hid (R = .err 3 (x :: q)) := by show _ = _; rw [← HRR.out, fTrn, hs]; simp only [ne_eq, hx, not_false_eq_true, if_true]
      have C := hid C
      clear h hr X1 hs hx
      go_enter Tryz.func32, Tryz.ntmps32
      go_wp2_with fail
      refine C.out.mono ?_
      rintro e w1 ⟨rfl, hg1⟩
      go_wp2_with fail
      rw [hRe.out]
      exact ⟨rfl, rfl, hg0.trans hg1⟩
end Go.Proofs.YtcojkmcnigppbaaGreatDoor.Nt
end
section
set_option maxRecDepth 100000
namespace Go.Proofs.YtcojkmcnigppbaaGreatDoor.Nt
open Go Go.Proofs Go.RowKit Sx Oct
def AllEnd (w : World) (e : Ending) (w' : World) : SX × Nat × Nat → Prop
  | (t, p, 0) => p = 0 ∧ ∃ v0 v1 v2 v3 v4, e = .returned (.agg #[v0, v1, v2, v3, v4]) ∧ SIn w' (fun k => w.heap.size ≤ k) t [v0, v1, v2, v3, v4] ∧ Below w.heap.size w w'
  | (t, p, k + 1) => t = zeroS ∧ ((2 ≤ k + 1 ∧ k + 1 ≤ 5 ∧ Thrown (k + 1) p e) ∨ Packed (k + 1) p e) ∧ Below w.heap.size w w'
def FineF (s : List UInt8) : FR → Prop
  | .err e q => 2 ≤ e ∧ e ≤ 4
  | .packed e q => 0 < e
  | .ok _ q => Tail q s
theorem fAdv_fine (s : List UInt8) : FineF s (fAdv s) := by
  have := (aVal_good (2 * s.length + 1)).1 s 0 0 (Nat.le_refl _) (by omega)
  unfold fAdv
  cases h : aVal (2 * s.length + 1) s 0 0 with
  | err e r => rw [h] at this; exact ⟨this.1, this.2.1⟩
  | ok y r => obtain ⟨t, nd⟩ := y; rw [h] at this; exact this.1
theorem fTrn_fine (s : List UInt8) : FineF s (fTrn s) := by
  unfold fTrn
  have hs := Tail.skip s
  cases h : skip s with
  | nil => exact ⟨by omega, by omega⟩
  | cons c r =>
    rw [h] at hs
    simp only
    split
    · exact ⟨by omega, by omega⟩
    · have h2 := aSome_fine isB64S 125 r
      cases ha : aSome isB64S 125 r with
      | err e q => rw [ha] at h2; exact ⟨h2.1, h2.2.1⟩
      | ok l q =>
        rw [ha] at h2
        simp only
        cases ub64 l with
        | none => exact ⟨by omega, by omega⟩
        | some b =>
          simp only
          obtain ⟨t, p, k⟩ := pGet b
          cases k with
          | zero => exact (Tail.drop q 1).trans (Tail.trans h2 ((Tail.cons c r).trans hs))
          | succ k => exact Nat.succ_pos k
set_option maxHeartbeats 8000000 in
theorem readAll_adv (s : ByteArray) (w : World) (ht : Tab w) :
    Calls Tryz.prog 51 #[.string s, .func (.func 31) #[] #[]] w fun e w' => AllEnd w e w' (aAll fAdv s.data.toList) := by
  have hl : s.data.toList.length = s.size := by simp
  have hb0 := below_new w (.cells #[.bool false, .bool false, .slice none 0 0, .slice none 0 0, .slice none 0 0] 25)
  generalize hPG : aAll fAdv s.data.toList = PG
  unfold aAll at hPG
  rw [hl] at hPG
  by_cases h4 : 16384 < s.size
  · have hPG : PG = (zeroS, 16384, 4) := by rw [← hPG, if_pos h4]
    subst hPG
    have h4' : (16384 : Int) < s.size := by omega
    go_enter Tryz.func51, Tryz.ntmps51
    go_wp2_with fail
    exact ⟨rfl, rfl, .inl ⟨by decide, by decide, rfl⟩, hb0⟩
  · have hn' : ¬ (16384 : Int) < s.size := by omega
    rw [if_neg h4] at hPG
    have hsz : (w.alloc (.cells #[.bool false, .bool false, .slice none 0 0, .slice none 0 0, .slice none 0 0] 25)).heap.size = w.heap.size + 1 := by simp
    have X1 : Box (w.alloc (.cells #[.bool false, .bool false, .slice none 0 0, .slice none 0 0, .slice none 0 0] 25)) w.heap.size (.bool false) (.bool false) (.slice none 0 0) (.slice none 0 0) (.slice none 0 0) := heap_alloc_new w _
    have HPG := hid hPG
    clear hPG
    go_enter Tryz.func51, Tryz.ntmps51
    go_wp2_with fail
    generalize w.alloc (.cells #[.bool false, .bool false, .slice none 0 0, .slice none 0 0, .slice none 0 0] 25) = W at *
    rw [Lib.run_convert_string_bytes W 9 22 5 _ Tryz.underlying9 Tryz.underlying22 Tryz.underlying5]
    simp only [Result.andThen]
    rw [Oper.upon_value]
    have hrd := (HoldsBytes.new W s).reads
    have hb3 := bytesWorld_below W s
    have hcap := grownCap_ge W s.size 0 5
    have hsz3 : (Lib.bytesWorld W 5 s).heap.size = W.heap.size + 1 := Lib.bytesWorld_size W _ s
    generalize Lib.bytesWorld W 5 s = w3 at *
    generalize grownCap W s.size 0 5 = cap at *
    rw [hl] at hrd
    have hb03 := hb0.trans (hb3.mono hb0.size)
    have X1 := X1.old hb3
    obtain ⟨A0, hA0⟩ : ∃ A0, A0 = (some ⟨W.heap.size, 0, none⟩ : Option Addr) := ⟨_, rfl⟩
    rw [← hA0] at hrd ⊢
    have hbn := below_new w3 (.cells #[.slice A0 s.size cap, .int .i64 0, .int .i64 0] 98)
    have hR4 : RdAt (w3.alloc (.cells #[.slice A0 s.size cap, .int .i64 0, .int .i64 0] 98)) w3.heap.size A0 s.size cap (0 : Nat) (0 : Nat) := heap_alloc_new w3 _
    have hrd4 : Reads (w3.alloc (.cells #[.slice A0 s.size cap, .int .i64 0, .int .i64 0] 98)) w3.heap.size 1 A0 s.size (Lib.byteCells s.data.toList) := hrd.keep fun q hq => hbn.cell hq
    have C := advanced_any w3.heap.size A0 s.size cap s.data.toList w3.heap.size _ hR4 hrd4 (Nat.le_refl _) (by omega) hcap
    have hb04 := hb03.trans (hbn.mono hb03.size)
    have X1 := X1.old hbn
    have hfin := fAdv_fine s.data.toList
    have ht4 := ht.old hb04
    have HR4 := hid hrd4
    have hz03 := hb03.size
    have hz3w : w3.heap.size < (w3.alloc (.cells #[.slice A0 s.size cap, .int .i64 0, .int .i64 0] 98)).heap.size := by simp
    have hr0 : w.heap.size < w3.heap.size := by omega
    clear hrd hrd4 hR4 hsz hsz3 hA0
    go_wp2_with fail
    cases hv : fAdv s.data.toList with
    | err k rest =>
      rw [hv] at C hfin
      have HP := HPG.out
      rw [hv] at HP
      simp only at HP
      obtain ⟨k, rfl⟩ : ∃ k', k = k' + 1 := ⟨k - 1, by have := hfin.1; omega⟩
      subst HP
      refine C.mono ?_
      rintro e w5 ⟨rfl, hg5⟩
      go_wp2_with fail
      exact ⟨rfl, rfl, .inl ⟨hfin.1, by have := hfin.2; omega, rfl⟩, hb04.grown hg5 (by omega) (fun k e => by injection e with e; omega)⟩
    | packed k rest =>
      rw [hv] at C hfin
      have HP := HPG.out
      rw [hv] at HP
      simp only at HP
      obtain ⟨k, rfl⟩ : ∃ k', k = k' + 1 := ⟨k - 1, by have : 0 < k := hfin; omega⟩
      subst HP
      refine C.mono ?_
      rintro e w5 ⟨rfl, hg5⟩
      go_wp2_with fail
      exact ⟨rfl, rfl, .inr rfl, hb04.grown hg5 (by omega) (fun k e => by injection e with e; omega)⟩
    | ok t rest =>
      rw [hv] at C hfin
      have htl : Tail rest s.data.toList := hfin
      have hrl := htl.le
      rw [hl] at hrl
      have hd := drop_tail (List.drop_zero (l := s.data.toList)) hl (Nat.zero_le _) htl
      have HP := HPG.out
      rw [hv] at HP
      simp only [aEnd] at HP
      refine C.mono ?_
      rintro e w5 ⟨v0, v1, v2, v3, v4, nd', rfl, hin, hR5, hg5⟩
      obtain ⟨l', h', hi', da', ks', B1, m1, j1, B2, m2, j2, B3, m3, j3, _, eE⟩ := hin.form_
      injection eE with eE0 eE; injection eE with eE1 eE; injection eE with eE2 eE; injection eE with eE3 eE; injection eE with eE4 eE
      subst eE0 eE1 eE2 eE3 eE4
      have hz5 := hg5.size
      have hb05 := hb04.grown hg5 (by omega) (fun k e => by injection e with e; omega)
      have X1 := X1.grown hg5 (fun e => by injection e with e; omega)
      have ht5 := ht.old hb05
      have hbm := below_new w5 (.cells #[.bool l', .bool h', .slice B1 m1 j1, .slice B2 m2 j2, .slice B3 m3 j3] 25)
      have X6 : Box (w5.alloc (.cells #[.bool l', .bool h', .slice B1 m1 j1, .slice B2 m2 j2, .slice B3 m3 j3] 25)) w5.heap.size (.bool l') (.bool h') (.slice B1 m1 j1) (.slice B2 m2 j2) (.slice B3 m3 j3) := heap_alloc_new w5 _
      have hin6 := hin.old hbm
      have hR6 := hR5.old hbm
      have X1 := X1.old hbm
      have hb06 := hb05.trans (hbm.mono hb05.size)
      have hrd6 := reads_grown HR4.out (hg5.trans (grown_below hbm (some w3.heap.size))) (Nat.le_refl _)
      have hz6 : w5.heap.size < (w5.alloc (.cells #[.bool l', .bool h', .slice B1 m1 j1, .slice B2 m2 j2, .slice B3 m3 j3] 25)).heap.size := by simp
      have C1 := oneOf_any blS (w5.alloc (.cells #[.bool l', .bool h', .slice B1 m1 j1, .slice B2 m2 j2, .slice B3 m3 j3] 25))
      have C2 := one_run blS w3.heap.size A0 s.size cap (s.size - rest.length) nd' s.data.toList w3.heap.size (w5.alloc (.cells #[.bool l', .bool h', .slice B1 m1 j1, .slice B2 m2 j2, .slice B3 m3 j3] 25)) hR6 hrd6 (Nat.le_refl _) (by omega) (by omega) hcap rest hd
      rw [blank_sign] at C2
      have C1 := hid C1
      have C2 := hid C2
      clear hR5 hR6 C hin hd hrd6
      go_wp2_with fail
      generalize w5.alloc (.cells #[.bool l', .bool h', .slice B1 m1 j1, .slice B2 m2 j2, .slice B3 m3 j3] 25) = w6 at *
      refine C1.out.mono ?_
      rintro e w7 ⟨rfl, rfl⟩
      go_wp2_with fail
      refine C2.out.mono ?_
      rintro e w8 ⟨A8, c8, rfl, -, -, hR8, hg8⟩
      have hz8 := hg8.size
      have X6 := X6.grown hg8 (fun e => by injection e with e; omega)
      have X1 := X1.grown hg8 (fun e => by injection e with e; omega)
      have hin8 := (hin6.grown hg8 (fun k hk e => by injection e with e; omega)).more (S' := fun k => w3.heap.size + 1 ≤ k) (fun k hk => by omega)
      have hb08 := hb06.grown hg8 (by omega) (fun k e => by injection e with e; omega)
      have ht8 := ht.old hb08
      have hR8 : RdAt w8 w3.heap.size A0 s.size cap (s.size - (skip rest).length : Nat) nd' := hR8
      obtain ⟨⟨f0, f1, f2, f3, f4⟩, -⟩ := X6.all
      clear hg8 hin6 hg5 ht5 ht4
      have hskl := (Tail.skip rest).le
      cases hsk : skip rest with
      | cons x q =>
        rw [hsk] at hR8 HP hskl
        simp only at HP
        subst HP
        have hlr : (x :: q).length = q.length + 1 := rfl
        have hlt : ((s.size - (x :: q).length : Nat) : Int) < s.size := by omega
        obtain ⟨g0, g1, g2, -, -⟩ := hR8.all
        go_wp2_with fail
        go_quiet (fail)
        go_wp2_with fail
        have hbq := below_drewN w8 nq
        have hR9 := hR8.old hbq
        have hb09 := hb08.trans (hbq.mono hb08.size)
        have X1 := X1.old hbq
        have X6 := X6.old hbq
        have hin9 := hin8.old hbq
        have ht9 := ht8.old hbq
        clear hbq g0 g1 g2 hR8 hb08 hin8 ht8 f0 f1 f2 f3 f4
        generalize w8.drewN nq = w9 at *
        obtain ⟨g0, g1, g2, -, -⟩ := hR9.all
        go_wp2_with fail
        exact ⟨rfl, rfl, .inl ⟨by decide, by decide, rfl⟩, hb09⟩
      | nil =>
        rw [hsk] at hR8 HP
        simp only at HP
        have hlt : ¬ ((s.size - ([] : List UInt8).length : Nat) : Int) < s.size := by simp
        obtain ⟨g0, g1, g2, -, -⟩ := hR8.all
        go_wp2_with fail
        go_quiet (fail)
        go_wp2_with fail
        have hbq := below_drewN w8 nq
        have hR9 := hR8.old hbq
        have hb09 := hb08.trans (hbq.mono hb08.size)
        have X1 := X1.old hbq
        have X6 := X6.old hbq
        have hin9 := hin8.old hbq
        have ht9 := ht8.old hbq
        clear hbq g0 g1 g2 hR8 hb08 hin8 ht8 f0 f1 f2 f3 f4
        generalize w8.drewN nq = w9 at *
        obtain ⟨g0, g1, g2, -, -⟩ := hR9.all
        obtain ⟨⟨f0, f1, f2, f3, f4⟩, -⟩ := X6.all
        have CM := may_any t w9 _ _ hin9 ht9
        have hz9 := hb09.size
        by_cases hm : may t = true
        · rw [if_pos hm] at HP
          rw [hm] at CM
          have CM := hid CM
          subst HP
          go_wp2_with fail
          refine CM.out.mono ?_
          rintro e w10 ⟨rfl, hb10⟩
          have hz10 := hb10.size
          have X1 := X1.old hb10
          have X6 := X6.old hb10
          have hin10 := hin9.old hb10
          obtain ⟨⟨d0, d1, d2, d3, d4⟩, dz⟩ := X1.all
          obtain ⟨⟨f0, f1, f2, f3, f4⟩, -⟩ := X6.all
          have dz0 := dz 0
          have dz1 := dz 1
          have dz2 := dz 2
          have dz3 := dz 3
          have dz4 := dz 4
          have hF := put5_below (w' := w10) (hb09.trans (hb10.mono hb09.size)) (Nat.le_refl _) (.bool l') (.bool h') (.slice B1 m1 j1) (.slice B2 m2 j2) (.slice B3 m3 j3)
          have hiF : SIn (put5 w10 w.heap.size (.bool l') (.bool h') (.slice B1 m1 j1) (.slice B2 m2 j2) (.slice B3 m3 j3)) (fun k => w.heap.size ≤ k) t [.bool l', .bool h', .slice B1 m1 j1, .slice B2 m2 j2, .slice B3 m3 j3] :=
            ((hin10.more (S' := fun k => w.heap.size + 1 ≤ k) fun k hk => by omega).keep fun q hq => put5_far q (by omega)).more fun k hk => by omega
          have HF := hid (And.intro hiF hF)
          clear hF hiF hin9 hin10 dz X1 X6
          go_wp2_with fail
          exact bodyPost_ret (v := .agg #[.bool l', .bool h', .slice B1 m1 j1, .slice B2 m2 j2, .slice B3 m3 j3]) (by simp [results, Tryz.results51, go_sem, d0, d1, d2, d3, d4]) rfl ⟨rfl, _, _, _, _, _, rfl, HF.out⟩
        · rw [if_neg hm] at HP
          have hm0 : may t = false := by simpa using hm
          rw [hm0] at CM
          have CM := hid CM
          subst HP
          go_wp2_with ((refine CM.out.mono ?_); rintro e w10 ⟨rfl, hb10⟩; obtain ⟨g0, g1, g2, -, -⟩ := (hR9.old hb10).all)
          exact ⟨rfl, rfl, .inl ⟨by decide, by decide, rfl⟩, hb09.trans (hb10.mono hb09.size)⟩
set_option maxHeartbeats 8000000 in
theorem readAll_trn (s : ByteArray) (w : World) (ht : Tab w) :
    Calls Tryz.prog 51 #[.string s, .func (.func 32) #[] #[]] w fun e w' => AllEnd w e w' (aAll fTrn s.data.toList) := by
  have hl : s.data.toList.length = s.size := by simp
  have hb0 := below_new w (.cells #[.bool false, .bool false, .slice none 0 0, .slice none 0 0, .slice none 0 0] 25)
  generalize hPG : aAll fTrn s.data.toList = PG
  unfold aAll at hPG
  rw [hl] at hPG
  by_cases h4 : 16384 < s.size
  · have hPG : PG = (zeroS, 16384, 4) := by rw [← hPG, if_pos h4]
    subst hPG
    have h4' : (16384 : Int) < s.size := by omega
    go_enter Tryz.func51, Tryz.ntmps51
    go_wp2_with fail
    exact ⟨rfl, rfl, .inl ⟨by decide, by decide, rfl⟩, hb0⟩
  · have hn' : ¬ (16384 : Int) < s.size := by omega
    rw [if_neg h4] at hPG
    have hsz : (w.alloc (.cells #[.bool false, .bool false, .slice none 0 0, .slice none 0 0, .slice none 0 0] 25)).heap.size = w.heap.size + 1 := by simp
    have X1 : Box (w.alloc (.cells #[.bool false, .bool false, .slice none 0 0, .slice none 0 0, .slice none 0 0] 25)) w.heap.size (.bool false) (.bool false) (.slice none 0 0) (.slice none 0 0) (.slice none 0 0) := heap_alloc_new w _
    have HPG := hid hPG
    clear hPG
    go_enter Tryz.func51, Tryz.ntmps51
    go_wp2_with fail
    generalize w.alloc (.cells #[.bool false, .bool false, .slice none 0 0, .slice none 0 0, .slice none 0 0] 25) = W at *
    rw [Lib.run_convert_string_bytes W 9 22 5 _ Tryz.underlying9 Tryz.underlying22 Tryz.underlying5]
    simp only [Result.andThen]
    rw [Oper.upon_value]
    have hrd := (HoldsBytes.new W s).reads
    have hb3 := bytesWorld_below W s
    have hcap := grownCap_ge W s.size 0 5
    have hsz3 : (Lib.bytesWorld W 5 s).heap.size = W.heap.size + 1 := Lib.bytesWorld_size W _ s
    generalize Lib.bytesWorld W 5 s = w3 at *
    generalize grownCap W s.size 0 5 = cap at *
    rw [hl] at hrd
    have hb03 := hb0.trans (hb3.mono hb0.size)
    have X1 := X1.old hb3
    obtain ⟨A0, hA0⟩ : ∃ A0, A0 = (some ⟨W.heap.size, 0, none⟩ : Option Addr) := ⟨_, rfl⟩
    rw [← hA0] at hrd ⊢
    have hbn := below_new w3 (.cells #[.slice A0 s.size cap, .int .i64 0, .int .i64 0] 98)
    have hR4 : RdAt (w3.alloc (.cells #[.slice A0 s.size cap, .int .i64 0, .int .i64 0] 98)) w3.heap.size A0 s.size cap (0 : Nat) (0 : Nat) := heap_alloc_new w3 _
    have hrd4 : Reads (w3.alloc (.cells #[.slice A0 s.size cap, .int .i64 0, .int .i64 0] 98)) w3.heap.size 1 A0 s.size (Lib.byteCells s.data.toList) := hrd.keep fun q hq => hbn.cell hq
    have C := transport_any w3.heap.size A0 s.size cap s.data.toList w3.heap.size _ hR4 hrd4 (Nat.le_refl _) (by omega) hcap
    have hb04 := hb03.trans (hbn.mono hb03.size)
    have X1 := X1.old hbn
    have hfin := fTrn_fine s.data.toList
    have ht4 := ht.old hb04
    have HR4 := hid hrd4
    have hz03 := hb03.size
    have hz3w : w3.heap.size < (w3.alloc (.cells #[.slice A0 s.size cap, .int .i64 0, .int .i64 0] 98)).heap.size := by simp
    have hr0 : w.heap.size < w3.heap.size := by omega
    clear hrd hrd4 hR4 hsz hsz3 hA0
    go_wp2_with fail
    cases hv : fTrn s.data.toList with
    | err k rest =>
      rw [hv] at C hfin
      have HP := HPG.out
      rw [hv] at HP
      simp only at HP
      obtain ⟨k, rfl⟩ : ∃ k', k = k' + 1 := ⟨k - 1, by have := hfin.1; omega⟩
      subst HP
      refine C.mono ?_
      rintro e w5 ⟨rfl, hg5⟩
      go_wp2_with fail
      exact ⟨rfl, rfl, .inl ⟨hfin.1, by have := hfin.2; omega, rfl⟩, hb04.grown hg5 (by omega) (fun k e => by injection e with e; omega)⟩
    | packed k rest =>
      rw [hv] at C hfin
      have HP := HPG.out
      rw [hv] at HP
      simp only at HP
      obtain ⟨k, rfl⟩ : ∃ k', k = k' + 1 := ⟨k - 1, by have : 0 < k := hfin; omega⟩
      subst HP
      refine C.mono ?_
      rintro e w5 ⟨rfl, hg5⟩
      go_wp2_with fail
      exact ⟨rfl, rfl, .inr rfl, hb04.grown hg5 (by omega) (fun k e => by injection e with e; omega)⟩
    | ok t rest =>
      rw [hv] at C hfin
      have htl : Tail rest s.data.toList := hfin
      have hrl := htl.le
      rw [hl] at hrl
      have hd := drop_tail (List.drop_zero (l := s.data.toList)) hl (Nat.zero_le _) htl
      have HP := HPG.out
      rw [hv] at HP
      simp only [aEnd] at HP
      refine C.mono ?_
      rintro e w5 ⟨v0, v1, v2, v3, v4, nd', rfl, hin, hR5, hg5⟩
      obtain ⟨l', h', hi', da', ks', B1, m1, j1, B2, m2, j2, B3, m3, j3, _, eE⟩ := hin.form_
      injection eE with eE0 eE; injection eE with eE1 eE; injection eE with eE2 eE; injection eE with eE3 eE; injection eE with eE4 eE
      subst eE0 eE1 eE2 eE3 eE4
      have hz5 := hg5.size
      have hb05 := hb04.grown hg5 (by omega) (fun k e => by injection e with e; omega)
      have X1 := X1.grown hg5 (fun e => by injection e with e; omega)
      have ht5 := ht.old hb05
      have hbm := below_new w5 (.cells #[.bool l', .bool h', .slice B1 m1 j1, .slice B2 m2 j2, .slice B3 m3 j3] 25)
      have X6 : Box (w5.alloc (.cells #[.bool l', .bool h', .slice B1 m1 j1, .slice B2 m2 j2, .slice B3 m3 j3] 25)) w5.heap.size (.bool l') (.bool h') (.slice B1 m1 j1) (.slice B2 m2 j2) (.slice B3 m3 j3) := heap_alloc_new w5 _
      have hin6 := hin.old hbm
      have hR6 := hR5.old hbm
      have X1 := X1.old hbm
      have hb06 := hb05.trans (hbm.mono hb05.size)
      have hrd6 := reads_grown HR4.out (hg5.trans (grown_below hbm (some w3.heap.size))) (Nat.le_refl _)
      have hz6 : w5.heap.size < (w5.alloc (.cells #[.bool l', .bool h', .slice B1 m1 j1, .slice B2 m2 j2, .slice B3 m3 j3] 25)).heap.size := by simp
      have C1 := oneOf_any blS (w5.alloc (.cells #[.bool l', .bool h', .slice B1 m1 j1, .slice B2 m2 j2, .slice B3 m3 j3] 25))
      have C2 := one_run blS w3.heap.size A0 s.size cap (s.size - rest.length) nd' s.data.toList w3.heap.size (w5.alloc (.cells #[.bool l', .bool h', .slice B1 m1 j1, .slice B2 m2 j2, .slice B3 m3 j3] 25)) hR6 hrd6 (Nat.le_refl _) (by omega) (by omega) hcap rest hd
      rw [blank_sign] at C2
      have C1 := hid C1
      have C2 := hid C2
      clear hR5 hR6 C hin hd hrd6
      go_wp2_with fail
      generalize w5.alloc (.cells #[.bool l', .bool h', .slice B1 m1 j1, .slice B2 m2 j2, .slice B3 m3 j3] 25) = w6 at *
      refine C1.out.mono ?_
      rintro e w7 ⟨rfl, rfl⟩
      go_wp2_with fail
      refine C2.out.mono ?_
      rintro e w8 ⟨A8, c8, rfl, -, -, hR8, hg8⟩
      have hz8 := hg8.size
      have X6 := X6.grown hg8 (fun e => by injection e with e; omega)
      have X1 := X1.grown hg8 (fun e => by injection e with e; omega)
      have hin8 := (hin6.grown hg8 (fun k hk e => by injection e with e; omega)).more (S' := fun k => w3.heap.size + 1 ≤ k) (fun k hk => by omega)
      have hb08 := hb06.grown hg8 (by omega) (fun k e => by injection e with e; omega)
      have ht8 := ht.old hb08
      have hR8 : RdAt w8 w3.heap.size A0 s.size cap (s.size - (skip rest).length : Nat) nd' := hR8
      obtain ⟨⟨f0, f1, f2, f3, f4⟩, -⟩ := X6.all
      clear hg8 hin6 hg5 ht5 ht4
      have hskl := (Tail.skip rest).le
      cases hsk : skip rest with
      | cons x q =>
        rw [hsk] at hR8 HP hskl
        simp only at HP
        subst HP
        have hlr : (x :: q).length = q.length + 1 := rfl
        have hlt : ((s.size - (x :: q).length : Nat) : Int) < s.size := by omega
        obtain ⟨g0, g1, g2, -, -⟩ := hR8.all
        go_wp2_with fail
        go_quiet (fail)
        go_wp2_with fail
        have hbq := below_drewN w8 nq
        have hR9 := hR8.old hbq
        have hb09 := hb08.trans (hbq.mono hb08.size)
        have X1 := X1.old hbq
        have X6 := X6.old hbq
        have hin9 := hin8.old hbq
        have ht9 := ht8.old hbq
        clear hbq g0 g1 g2 hR8 hb08 hin8 ht8 f0 f1 f2 f3 f4
        generalize w8.drewN nq = w9 at *
        obtain ⟨g0, g1, g2, -, -⟩ := hR9.all
        go_wp2_with fail
        exact ⟨rfl, rfl, .inl ⟨by decide, by decide, rfl⟩, hb09⟩
      | nil =>
        rw [hsk] at hR8 HP
        simp only at HP
        have hlt : ¬ ((s.size - ([] : List UInt8).length : Nat) : Int) < s.size := by simp
        obtain ⟨g0, g1, g2, -, -⟩ := hR8.all
        go_wp2_with fail
        go_quiet (fail)
        go_wp2_with fail
        have hbq := below_drewN w8 nq
        have hR9 := hR8.old hbq
        have hb09 := hb08.trans (hbq.mono hb08.size)
        have X1 := X1.old hbq
        have X6 := X6.old hbq
        have hin9 := hin8.old hbq
        have ht9 := ht8.old hbq
        clear hbq g0 g1 g2 hR8 hb08 hin8 ht8 f0 f1 f2 f3 f4
        generalize w8.drewN nq = w9 at *
        obtain ⟨g0, g1, g2, -, -⟩ := hR9.all
        obtain ⟨⟨f0, f1, f2, f3, f4⟩, -⟩ := X6.all
        have CM := may_any t w9 _ _ hin9 ht9
        have hz9 := hb09.size
        by_cases hm : may t = true
        · rw [if_pos hm] at HP
          rw [hm] at CM
          have CM := hid CM
          subst HP
          go_wp2_with fail
          refine CM.out.mono ?_
          rintro e w10 ⟨rfl, hb10⟩
          have hz10 := hb10.size
          have X1 := X1.old hb10
          have X6 := X6.old hb10
          have hin10 := hin9.old hb10
          obtain ⟨⟨d0, d1, d2, d3, d4⟩, dz⟩ := X1.all
          obtain ⟨⟨f0, f1, f2, f3, f4⟩, -⟩ := X6.all
          have dz0 := dz 0
          have dz1 := dz 1
          have dz2 := dz 2
          have dz3 := dz 3
          have dz4 := dz 4
          have hF := put5_below (w' := w10) (hb09.trans (hb10.mono hb09.size)) (Nat.le_refl _) (.bool l') (.bool h') (.slice B1 m1 j1) (.slice B2 m2 j2) (.slice B3 m3 j3)
          have hiF : SIn (put5 w10 w.heap.size (.bool l') (.bool h') (.slice B1 m1 j1) (.slice B2 m2 j2) (.slice B3 m3 j3)) (fun k => w.heap.size ≤ k) t [.bool l', .bool h', .slice B1 m1 j1, .slice B2 m2 j2, .slice B3 m3 j3] :=
            ((hin10.more (S' := fun k => w.heap.size + 1 ≤ k) fun k hk => by omega).keep fun q hq => put5_far q (by omega)).more fun k hk => by omega
          have HF := hid (And.intro hiF hF)
          clear hF hiF hin9 hin10 dz X1 X6
          go_wp2_with fail
          exact bodyPost_ret (v := .agg #[.bool l', .bool h', .slice B1 m1 j1, .slice B2 m2 j2, .slice B3 m3 j3]) (by simp [results, Tryz.results51, go_sem, d0, d1, d2, d3, d4]) rfl ⟨rfl, _, _, _, _, _, rfl, HF.out⟩
        · rw [if_neg hm] at HP
          have hm0 : may t = false := by simpa using hm
          rw [hm0] at CM
          have CM := hid CM
          subst HP
          go_wp2_with ((refine CM.out.mono ?_); rintro e w10 ⟨rfl, hb10⟩; obtain ⟨g0, g1, g2, -, -⟩ := (hR9.old hb10).all)
          exact ⟨rfl, rfl, .inl ⟨by decide, by decide, rfl⟩, hb09.trans (hb10.mono hb09.size)⟩
end Go.Proofs.YtcojkmcnigppbaaGreatDoor.Nt
end
section
set_option maxRecDepth 100000
namespace Go.Proofs.YtcojkmcnigppbaaGreatDoor.Nt
open Go Go.Proofs Go.RowKit Sx Oct
theorem kinds_info : ∀ k, 2 ≤ k → k ≤ 5 → Tryz.prog.underlying (kindT k) = some (.int .i64) ∧ (Tryz.prog.info? (kindT k)).map (fun i => i.zero) = some (some (.int .i64 0)) := by
  intro k h1 h2
  have hk4 : k = 2 ∨ k = 3 ∨ k = 4 ∨ k = 5 := by omega
  rcases hk4 with rfl | rfl | rfl | rfl <;> exact ⟨by kernel_rfl, by kernel_rfl⟩
theorem ta_kind (k j : Nat) (hk : 2 ≤ k ∧ k ≤ 5) (hj : 2 ≤ j ∧ j ≤ 5) (v : Value) (x : TypeId) (w : World) :
    (Instr.typeAssert (.iface (kindT k) v) x (kindT j) true).run Tryz.prog w = .ok (.tuple #[if k = j then v else .int .i64 0, .bool (decide (k = j))]) w := by
  obtain ⟨h1, h2⟩ := kinds_info j hj.1 hj.2
  by_cases h : k = j
  · subst h
    rw [if_pos rfl, decide_eq_true rfl]
    exact ta_has _ _ h1 (fun _ e => by cases e) v x w
  · rw [if_neg h, decide_eq_false h]
    refine ta_lacks _ _ _ h1 (fun _ e => by cases e) h2 ?_ v x w
    have a : k = 2 ∨ k = 3 ∨ k = 4 ∨ k = 5 := by omega
    have b : j = 2 ∨ j = 3 ∨ j = 4 ∨ j = 5 := by omega
    rcases a with rfl | rfl | rfl | rfl <;> rcases b with rfl | rfl | rfl | rfl <;> first | exact absurd rfl h | decide
theorem ta_other (k : Nat) (hk : 2 ≤ k ∧ k ≤ 5) (v : Value) (x : TypeId) (w : World) :
    (Instr.typeAssert (.iface 89 v) x (kindT k) true).run Tryz.prog w = .ok (.tuple #[.int .i64 0, .bool false]) w := by
  obtain ⟨h1, h2⟩ := kinds_info k hk.1 hk.2
  refine ta_lacks _ _ _ h1 (fun _ e => by cases e) h2 ?_ v x w
  have a : k = 2 ∨ k = 3 ∨ k = 4 ∨ k = 5 := by omega
  rcases a with rfl | rfl | rfl | rfl <;> decide
set_option maxHeartbeats 4000000 in
set_option maxRecDepth 100000 in
theorem catch_throw (k : Nat) (hk : 2 ≤ k ∧ k ≤ 5) (p : Nat) (a1 a2 : Nat) (hne : a1 ≠ a2) (w : World) (hc1 : w.cell? ⟨a1, 0, none⟩ = some (.int .i64 0)) (hz1 : w.frozen? ⟨a1, 0, none⟩ = false) (hc2 : w.cell? ⟨a2, 0, none⟩ = some (.int .i64 0)) (hz2 : w.frozen? ⟨a2, 0, none⟩ = false) :
    CallsD Tryz.prog 50 #[.pointer (some ⟨a1, 0, none⟩), .pointer (some ⟨a2, 0, none⟩)] (.panicking [{ v := .iface (kindT k) (.int .i64 p), recovered := false }]) w fun e u' w' =>
      e = .returned (.tuple #[]) ∧ u' = .panicking [{ v := .iface (kindT k) (.int .i64 p), recovered := true }] ∧ w' = (w.setCell ⟨a1, 0, none⟩ (.int .i64 p)).setCell ⟨a2, 0, none⟩ (.int .i64 k) := by
  have t2 := ta_kind k 2 hk (by omega) (.int .i64 p)
  have t3 := ta_kind k 3 hk (by omega) (.int .i64 p)
  have t4 := ta_kind k 4 hk (by omega) (.int .i64 p)
  have t5 := ta_kind k 5 hk (by omega) (.int .i64 p)
  have hk4 : k = 2 ∨ k = 3 ∨ k = 4 ∨ k = 5 := by omega
  have hne' : ¬ a2 = a1 := fun h => hne h.symm
  rcases hk4 with rfl | rfl | rfl | rfl
  all_goals
    simp [kindT] at t2 t3 t4 t5
    refine callsD_of_wpS Tryz.func50 rfl fun c₀ cs hu => ?_
    apply wpS_seq
    apply wpS_region
    simp [wpOpsS, go_sem, recoverD, hu, Tryz.ntmps50, Exit.thenS, kindT]
    refine wpS_of_wp ?_
    simp only [Array.replicate]
    go_wp2_with fail
    simp [bodyPostS, results, Tryz.results50]
set_option maxHeartbeats 4000000 in
set_option maxRecDepth 100000 in
theorem catch_idle (a1 a2 : Addr) (w : World) :
    CallsD Tryz.prog 50 #[.pointer (some a1), .pointer (some a2)] .returning w fun e u' w' => e = .returned (.tuple #[]) ∧ u' = .returning ∧ w' = w := by
  refine callsD_of_wpS Tryz.func50 rfl fun c₀ cs hu => ?_
  apply wpS_seq
  apply wpS_region
  simp [wpOpsS, go_sem, recoverD, hu, Tryz.ntmps50, Exit.thenS]
  refine wpS_of_wp ?_
  simp only [Array.replicate]
  go_wp2_with fail
  cases c₀
  simp_all [bodyPostS, results, Tryz.results50]
set_option maxHeartbeats 4000000 in
theorem catch_packed (k p : Nat) (a1 a2 : Nat) (hne : a1 ≠ a2) (w : World) (hc1 : w.cell? ⟨a1, 0, none⟩ = some (.int .i64 0)) (hz1 : w.frozen? ⟨a1, 0, none⟩ = false) (hc2 : w.cell? ⟨a2, 0, none⟩ = some (.int .i64 0)) (hz2 : w.frozen? ⟨a2, 0, none⟩ = false) :
    CallsD Tryz.prog 50 #[.pointer (some ⟨a1, 0, none⟩), .pointer (some ⟨a2, 0, none⟩)] (.panicking [{ v := .iface 89 (.agg #[.int .i64 p, .int .i64 k]), recovered := false }]) w fun e u' w' =>
      e = .returned (.tuple #[]) ∧ u' = .panicking [{ v := .iface 89 (.agg #[.int .i64 p, .int .i64 k]), recovered := true }] ∧ ∃ W, Below w.heap.size w W ∧ w' = (W.setCell ⟨a1, 0, none⟩ (.int .i64 p)).setCell ⟨a2, 0, none⟩ (.int .i64 k) := by
  have t2 := ta_other 2 (by omega) (.agg #[.int .i64 p, .int .i64 k])
  have t3 := ta_other 3 (by omega) (.agg #[.int .i64 p, .int .i64 k])
  have t4 := ta_other 4 (by omega) (.agg #[.int .i64 p, .int .i64 k])
  have t5 := ta_other 5 (by omega) (.agg #[.int .i64 p, .int .i64 k])
  have tp : ∀ x w, (Instr.typeAssert (.iface 89 (.agg #[.int .i64 p, .int .i64 k])) x 89 true).run Tryz.prog w = .ok (.tuple #[.agg #[.int .i64 p, .int .i64 k], .bool true]) w := fun x w => ta_has _ _ Tryz.underlying89 (fun _ e => by cases e) _ x w
  have hne' : ¬ a2 = a1 := fun h => hne h.symm
  simp [kindT] at t2 t3 t4 t5
  refine callsD_of_wpS Tryz.func50 rfl fun c₀ cs hu => ?_
  apply wpS_seq
  apply wpS_region
  simp [wpOpsS, go_sem, recoverD, hu, Tryz.ntmps50, Exit.thenS]
  refine wpS_of_wp ?_
  simp only [Array.replicate]
  go_wp2_with fail
  have hl1 : a1 < w.heap.size := World.block_lt_of_cell? _ _ hc1
  have hl2 : a2 < w.heap.size := World.block_lt_of_cell? _ _ hc2
  have hb := below_new w (.cells #[.int .i64 p, .int .i64 k] 89)
  have X : (w.alloc (.cells #[.int .i64 p, .int .i64 k] 89)).heap[w.heap.size]? = some (.cells #[.int .i64 p, .int .i64 k] 89 (0, 0)) := heap_alloc_new w _
  have c1 := (hb.cell (p := ⟨a1, 0, none⟩) hl1).trans hc1
  have c2 := (hb.cell (p := ⟨a2, 0, none⟩) hl2).trans hc2
  have z1 : (w.alloc (.cells #[.int .i64 p, .int .i64 k] 89)).frozen? ⟨a1, 0, none⟩ = false := by
    have := hb.block a1 hl1
    simp only [World.frozen?, this] at hz1 ⊢
    exact hz1
  have z2 : (w.alloc (.cells #[.int .i64 p, .int .i64 k] 89)).frozen? ⟨a2, 0, none⟩ = false := by
    have := hb.block a2 hl2
    simp only [World.frozen?, this] at hz2 ⊢
    exact hz2
  have x0 : (w.alloc (.cells #[.int .i64 p, .int .i64 k] 89)).cell? ⟨w.heap.size, 0, none⟩ = some (.int .i64 p) := by rw [Lib.cell_of_heap X]; rfl
  have x1 : (w.alloc (.cells #[.int .i64 p, .int .i64 k] 89)).cell? ⟨w.heap.size, 1, none⟩ = some (.int .i64 k) := by rw [Lib.cell_of_heap X]; rfl
  obtain ⟨g, hg⟩ : ∃ g, g = w.heap.size := ⟨_, rfl⟩
  rw [← hg] at x0 x1 ⊢
  have n1 : ¬ g = a1 := by omega
  have n2 : ¬ g = a2 := by omega
  have n1' : ¬ a1 = g := by omega
  have n2' : ¬ a2 = g := by omega
  have HB := hid hb
  have HG := hid hg
  clear X hb hg hc1 hc2 hz1 hz2
  generalize w.alloc (.cells #[.int .i64 p, .int .i64 k] 89) = W at *
  go_region_law (fail)
  all_goals
    go_wp2_with fail
    simp [bodyPostS, results, Tryz.results50]
    exact ⟨W.drew, HB.out.drew, rfl⟩
end Go.Proofs.YtcojkmcnigppbaaGreatDoor.Nt
end
section
set_option maxRecDepth 100000
namespace Go.Proofs.YtcojkmcnigppbaaGreatDoor.Nt
open Go Go.Proofs Go.RowKit Sx Oct
set_option maxHeartbeats 4000000 in
set_option maxRecDepth 100000 in
theorem read_adv (s : ByteArray) (w : World) (ht : Tab w) :
    Calls Tryz.prog 30 #[.string s, .func (.func 31) #[] #[]] w fun e w' => GetEnd w e w' (aAll fAdv s.data.toList) := by
  have hmf : ∀ (fn : Fn) (first cap : Array Value) (w : World), (Instr.makeFunc fn first cap).run Tryz.prog w = .ok (.func fn first cap) w := fun _ _ _ _ => rfl
  generalize hPG : aAll fAdv s.data.toList = PG
  have hz1 : (w.alloc (.cells #[.bool false, .bool false, .slice none 0 0, .slice none 0 0, .slice none 0 0] 25)).heap.size = w.heap.size + 1 := by simp
  have hz2 : ((w.alloc (.cells #[.bool false, .bool false, .slice none 0 0, .slice none 0 0, .slice none 0 0] 25)).alloc (.cells #[.int .i64 0] 3)).heap.size = w.heap.size + 1 + 1 := by simp
  have hz3 : (((w.alloc (.cells #[.bool false, .bool false, .slice none 0 0, .slice none 0 0, .slice none 0 0] 25)).alloc (.cells #[.int .i64 0] 3)).alloc (.cells #[.int .i64 0] 28)).heap.size = w.heap.size + 1 + 1 + 1 := by simp
  have b1 := below_new w (.cells #[.bool false, .bool false, .slice none 0 0, .slice none 0 0, .slice none 0 0] 25)
  have b2 := below_new (w.alloc (.cells #[.bool false, .bool false, .slice none 0 0, .slice none 0 0, .slice none 0 0] 25)) (.cells #[.int .i64 0] 3)
  have b3 := below_new ((w.alloc (.cells #[.bool false, .bool false, .slice none 0 0, .slice none 0 0, .slice none 0 0] 25)).alloc (.cells #[.int .i64 0] 3)) (.cells #[.int .i64 0] 28)
  have hb0 := b1.trans ((b2.mono (by omega)).trans (b3.mono (by omega)))
  have X1 : Box (((w.alloc (.cells #[.bool false, .bool false, .slice none 0 0, .slice none 0 0, .slice none 0 0] 25)).alloc (.cells #[.int .i64 0] 3)).alloc (.cells #[.int .i64 0] 28)) w.heap.size (.bool false) (.bool false) (.slice none 0 0) (.slice none 0 0) (.slice none 0 0) := below_at b3 (below_at b2 (heap_alloc_new w _))
  have X2 : (((w.alloc (.cells #[.bool false, .bool false, .slice none 0 0, .slice none 0 0, .slice none 0 0] 25)).alloc (.cells #[.int .i64 0] 3)).alloc (.cells #[.int .i64 0] 28)).heap[w.heap.size + 1]? = some (Obj.cells #[.int .i64 0] 3 (0, 0)) := by
    have := heap_alloc_new (w.alloc (.cells #[.bool false, .bool false, .slice none 0 0, .slice none 0 0, .slice none 0 0] 25)) (.cells #[.int .i64 0] 3)
    rw [hz1] at this
    exact below_at b3 this
  have X3 : (((w.alloc (.cells #[.bool false, .bool false, .slice none 0 0, .slice none 0 0, .slice none 0 0] 25)).alloc (.cells #[.int .i64 0] 3)).alloc (.cells #[.int .i64 0] 28)).heap[w.heap.size + 1 + 1]? = some (Obj.cells #[.int .i64 0] 28 (0, 0)) := by
    have := heap_alloc_new ((w.alloc (.cells #[.bool false, .bool false, .slice none 0 0, .slice none 0 0, .slice none 0 0] 25)).alloc (.cells #[.int .i64 0] 3)) (.cells #[.int .i64 0] 28)
    rw [hz2] at this
    exact this
  go_enter_defers Tryz.func30, Tryz.ntmps30
  go_wp2_with fail
  clear b1 b2 b3 hz1 hz2
  generalize (((w.alloc (.cells #[.bool false, .bool false, .slice none 0 0, .slice none 0 0, .slice none 0 0] 25)).alloc (.cells #[.int .i64 0] 3)).alloc (.cells #[.int .i64 0] 28)) = W at *
  have C := readAll_adv s W (ht.old hb0)
  rw [hPG] at C
  refine C.mono ?_
  intro e w3 hE
  obtain ⟨t, p, k⟩ := PG
  cases k with
  | zero =>
    obtain ⟨rfl, v0, v1, v2, v3, v4, rfl, hin, hb3⟩ := hE
    obtain ⟨l', h', hi', da', ks', B1, m1, j1, B2, m2, j2, B3, m3, j3, _, eE⟩ := hin.form_
    injection eE with eE0 eE; injection eE with eE1 eE; injection eE with eE2 eE; injection eE with eE3 eE; injection eE with eE4 eE
    subst eE0 eE1 eE2 eE3 eE4
    have hz4 := hb3.size
    obtain ⟨⟨d0, d1, d2, d3, d4⟩, dz⟩ := (X1.old hb3).all
    have dz0 := dz 0
    have dz1 := dz 1
    have dz2 := dz 2
    have dz3 := dz 3
    have dz4 := dz 4
    have Y2 := below_at hb3 X2
    have Y3 := below_at hb3 X3
    have g2 : w3.cell? ⟨w.heap.size + 1, 0, none⟩ = some (.int .i64 0) := by rw [Lib.cell_of_heap Y2]; rfl
    have g3 : w3.cell? ⟨w.heap.size + 1 + 1, 0, none⟩ = some (.int .i64 0) := by rw [Lib.cell_of_heap Y3]; rfl
    have gz2 : w3.frozen? ⟨w.heap.size + 1, 0, none⟩ = false := by simp [World.frozen?, Y2]
    have gz3 : w3.frozen? ⟨w.heap.size + 1 + 1, 0, none⟩ = false := by simp [World.frozen?, Y3]
    have hbF := ((put5_below (hb0.trans (hb3.mono hb0.size)) (Nat.le_refl _) (.bool l') (.bool h') (.slice B1 m1 j1) (.slice B2 m2 j2) (.slice B3 m3 j3)).setCell (p := ⟨w.heap.size + 1, 0, none⟩) (by show w.heap.size ≤ w.heap.size + 1; omega) (.int .i64 0)).setCell (p := ⟨w.heap.size + 1 + 1, 0, none⟩) (by show w.heap.size ≤ w.heap.size + 1 + 1; omega) (.int .i64 0)
    have hiF : SIn (((put5 w3 w.heap.size (.bool l') (.bool h') (.slice B1 m1 j1) (.slice B2 m2 j2) (.slice B3 m3 j3)).setCell ⟨w.heap.size + 1, 0, none⟩ (.int .i64 0)).setCell ⟨w.heap.size + 1 + 1, 0, none⟩ (.int .i64 0)) (fun k => w.heap.size ≤ k) t [.bool l', .bool h', .slice B1 m1 j1, .slice B2 m2 j2, .slice B3 m3 j3] :=
      (((((hin.more (S' := fun k => w.heap.size + 1 + 1 + 1 ≤ k) fun k hk => by omega).keep fun q hq => put5_far q (by omega)).far (p := ⟨w.heap.size + 1, 0, none⟩) (fun k hk => by show k ≠ w.heap.size + 1; omega) _).far (p := ⟨w.heap.size + 1 + 1, 0, none⟩) (fun k hk => by show k ≠ w.heap.size + 1 + 1; omega) _)).more fun k hk => by omega
    have HF := hid (And.intro hiF hbF)
    clear hiF hbF hin hb3 hb0 X1 X2 X3 Y2 Y3 dz
    go_wp2_with fail
    refine leaves_cons (f := 50) (args := #[.pointer (some ⟨w.heap.size + 1, 0, none⟩), .pointer (some ⟨w.heap.size + 1 + 1, 0, none⟩)]) (by simp) (by simp [go_sem]) ?_
    refine (catch_idle _ _ _).mono ?_
    rintro e u' w'' ⟨rfl, rfl, rfl⟩
    simp [Leaves, settle, results, Tryz.results30, go_sem, d0, d1, d2, d3, d4, g2, g3]
    exact ⟨_, _, _, _, _, rfl, HF.out⟩
  | succ k =>
    obtain ⟨rfl, hE, hb3⟩ := hE
    have hz4 := hb3.size
    have Y1 := X1.old hb3
    have Y2 := below_at hb3 X2
    have Y3 := below_at hb3 X3
    have g2 : w3.cell? ⟨w.heap.size + 1, 0, none⟩ = some (.int .i64 0) := by rw [Lib.cell_of_heap Y2]; rfl
    have g3 : w3.cell? ⟨w.heap.size + 1 + 1, 0, none⟩ = some (.int .i64 0) := by rw [Lib.cell_of_heap Y3]; rfl
    have gz2 : w3.frozen? ⟨w.heap.size + 1, 0, none⟩ = false := by simp [World.frozen?, Y2]
    have gz3 : w3.frozen? ⟨w.heap.size + 1 + 1, 0, none⟩ = false := by simp [World.frozen?, Y3]
    obtain ⟨⟨d0, d1, d2, d3, d4⟩, -⟩ := Y1.all
    rcases hE with ⟨hk1, hk2, hth⟩ | hth
    · have hth : e = .panicked [{ v := .iface (kindT (k + 1)) (.int .i64 (p : Nat)), recovered := false }] := hth
      subst hth
      have hbF := ((hb0.trans (hb3.mono hb0.size)).setCell (p := ⟨w.heap.size + 1, 0, none⟩) (by show w.heap.size ≤ w.heap.size + 1; omega) (.int .i64 p)).setCell (p := ⟨w.heap.size + 1 + 1, 0, none⟩) (by show w.heap.size ≤ w.heap.size + 1 + 1; omega) (.int .i64 ((k + 1 : Nat) : Int))
      have hiF : SIn ((w3.setCell ⟨w.heap.size + 1, 0, none⟩ (.int .i64 p)).setCell ⟨w.heap.size + 1 + 1, 0, none⟩ (.int .i64 ((k + 1 : Nat) : Int))) (fun k => w.heap.size ≤ k) zeroS [.bool false, .bool false, .slice none 0 0, .slice none 0 0, .slice none 0 0] :=
        .mk (xs := []) RIn.none_ ⟨Nat.le_refl _, by omega⟩ RIn.none_ ⟨Nat.le_refl _, by omega⟩ RIn.none_ ⟨Nat.le_refl _, by omega⟩ rfl (fun i t hit => by simp at hit)
      have HF := hid (And.intro hiF hbF)
      clear hiF hbF hb3 hb0 X1 X2 X3 Y1 Y2 Y3
      go_wp2_with fail
      refine leaves_cons (f := 50) (args := #[.pointer (some ⟨w.heap.size + 1, 0, none⟩), .pointer (some ⟨w.heap.size + 1 + 1, 0, none⟩)]) (by simp) (by simp [go_sem]) ?_
      refine (catch_throw (k + 1) ⟨hk1, hk2⟩ p _ _ (by omega) _ g2 gz2 g3 gz3).mono ?_
      rintro e u' w'' ⟨rfl, rfl, rfl⟩
      simp [Leaves, settle, results, Tryz.results30, go_sem, d0, d1, d2, d3, d4, g2, g3]
      exact ⟨_, _, _, _, _, rfl, HF.out⟩
    · have hth : e = .panicked [{ v := .iface 89 (.agg #[.int .i64 (p : Nat), .int .i64 ((k + 1 : Nat) : Int)]), recovered := false }] := hth
      subst hth
      clear Y2 Y3
      go_wp2_with fail
      refine leaves_cons (f := 50) (args := #[.pointer (some ⟨w.heap.size + 1, 0, none⟩), .pointer (some ⟨w.heap.size + 1 + 1, 0, none⟩)]) (by simp) (by simp [go_sem]) ?_
      refine (catch_packed (k + 1) p _ _ (by omega) _ g2 gz2 g3 gz3).mono ?_
      rintro e u' w'' ⟨rfl, rfl, W3, hbW, rfl⟩
      have g2' := (hbW.cell (p := ⟨w.heap.size + 1, 0, none⟩) (by show w.heap.size + 1 < _; omega)).trans g2
      have g3' := (hbW.cell (p := ⟨w.heap.size + 1 + 1, 0, none⟩) (by show w.heap.size + 1 + 1 < _; omega)).trans g3
      have hzW := hbW.size
      obtain ⟨⟨d0, d1, d2, d3, d4⟩, -⟩ := (Y1.old hbW).all
      have hbF := (((hb0.trans (hb3.mono hb0.size)).trans (hbW.mono (by omega))).setCell (p := ⟨w.heap.size + 1, 0, none⟩) (by show w.heap.size ≤ w.heap.size + 1; omega) (.int .i64 p)).setCell (p := ⟨w.heap.size + 1 + 1, 0, none⟩) (by show w.heap.size ≤ w.heap.size + 1 + 1; omega) (.int .i64 ((k + 1 : Nat) : Int))
      have hiF : SIn ((W3.setCell ⟨w.heap.size + 1, 0, none⟩ (.int .i64 p)).setCell ⟨w.heap.size + 1 + 1, 0, none⟩ (.int .i64 ((k + 1 : Nat) : Int))) (fun k => w.heap.size ≤ k) zeroS [.bool false, .bool false, .slice none 0 0, .slice none 0 0, .slice none 0 0] :=
        .mk (xs := []) RIn.none_ ⟨Nat.le_refl _, by omega⟩ RIn.none_ ⟨Nat.le_refl _, by omega⟩ RIn.none_ ⟨Nat.le_refl _, by omega⟩ rfl (fun i t hit => by simp at hit)
      have HF := hid (And.intro hiF hbF)
      clear hiF hbF hb3 hb0 X1 X2 X3 Y1
      simp [Leaves, settle, results, Tryz.results30, go_sem, d0, d1, d2, d3, d4, g2', g3']
      exact ⟨_, _, _, _, _, rfl, HF.out⟩
set_option maxHeartbeats 4000000 in
set_option maxRecDepth 100000 in
theorem read_trn (s : ByteArray) (w : World) (ht : Tab w) :
    Calls Tryz.prog 30 #[.string s, .func (.func 32) #[] #[]] w fun e w' => GetEnd w e w' (aAll fTrn s.data.toList) := by
  have hmf : ∀ (fn : Fn) (first cap : Array Value) (w : World), (Instr.makeFunc fn first cap).run Tryz.prog w = .ok (.func fn first cap) w := fun _ _ _ _ => rfl
  generalize hPG : aAll fTrn s.data.toList = PG
  have hz1 : (w.alloc (.cells #[.bool false, .bool false, .slice none 0 0, .slice none 0 0, .slice none 0 0] 25)).heap.size = w.heap.size + 1 := by simp
  have hz2 : ((w.alloc (.cells #[.bool false, .bool false, .slice none 0 0, .slice none 0 0, .slice none 0 0] 25)).alloc (.cells #[.int .i64 0] 3)).heap.size = w.heap.size + 1 + 1 := by simp
  have hz3 : (((w.alloc (.cells #[.bool false, .bool false, .slice none 0 0, .slice none 0 0, .slice none 0 0] 25)).alloc (.cells #[.int .i64 0] 3)).alloc (.cells #[.int .i64 0] 28)).heap.size = w.heap.size + 1 + 1 + 1 := by simp
  have b1 := below_new w (.cells #[.bool false, .bool false, .slice none 0 0, .slice none 0 0, .slice none 0 0] 25)
  have b2 := below_new (w.alloc (.cells #[.bool false, .bool false, .slice none 0 0, .slice none 0 0, .slice none 0 0] 25)) (.cells #[.int .i64 0] 3)
  have b3 := below_new ((w.alloc (.cells #[.bool false, .bool false, .slice none 0 0, .slice none 0 0, .slice none 0 0] 25)).alloc (.cells #[.int .i64 0] 3)) (.cells #[.int .i64 0] 28)
  have hb0 := b1.trans ((b2.mono (by omega)).trans (b3.mono (by omega)))
  have X1 : Box (((w.alloc (.cells #[.bool false, .bool false, .slice none 0 0, .slice none 0 0, .slice none 0 0] 25)).alloc (.cells #[.int .i64 0] 3)).alloc (.cells #[.int .i64 0] 28)) w.heap.size (.bool false) (.bool false) (.slice none 0 0) (.slice none 0 0) (.slice none 0 0) := below_at b3 (below_at b2 (heap_alloc_new w _))
  have X2 : (((w.alloc (.cells #[.bool false, .bool false, .slice none 0 0, .slice none 0 0, .slice none 0 0] 25)).alloc (.cells #[.int .i64 0] 3)).alloc (.cells #[.int .i64 0] 28)).heap[w.heap.size + 1]? = some (Obj.cells #[.int .i64 0] 3 (0, 0)) := by
    have := heap_alloc_new (w.alloc (.cells #[.bool false, .bool false, .slice none 0 0, .slice none 0 0, .slice none 0 0] 25)) (.cells #[.int .i64 0] 3)
    rw [hz1] at this
    exact below_at b3 this
  have X3 : (((w.alloc (.cells #[.bool false, .bool false, .slice none 0 0, .slice none 0 0, .slice none 0 0] 25)).alloc (.cells #[.int .i64 0] 3)).alloc (.cells #[.int .i64 0] 28)).heap[w.heap.size + 1 + 1]? = some (Obj.cells #[.int .i64 0] 28 (0, 0)) := by
    have := heap_alloc_new ((w.alloc (.cells #[.bool false, .bool false, .slice none 0 0, .slice none 0 0, .slice none 0 0] 25)).alloc (.cells #[.int .i64 0] 3)) (.cells #[.int .i64 0] 28)
    rw [hz2] at this
    exact this
  go_enter_defers Tryz.func30, Tryz.ntmps30
  go_wp2_with fail
  clear b1 b2 b3 hz1 hz2
  generalize (((w.alloc (.cells #[.bool false, .bool false, .slice none 0 0, .slice none 0 0, .slice none 0 0] 25)).alloc (.cells #[.int .i64 0] 3)).alloc (.cells #[.int .i64 0] 28)) = W at *
  have C := readAll_trn s W (ht.old hb0)
  rw [hPG] at C
  refine C.mono ?_
  intro e w3 hE
  obtain ⟨t, p, k⟩ := PG
  cases k with
  | zero =>
    obtain ⟨rfl, v0, v1, v2, v3, v4, rfl, hin, hb3⟩ := hE
    obtain ⟨l', h', hi', da', ks', B1, m1, j1, B2, m2, j2, B3, m3, j3, _, eE⟩ := hin.form_
    injection eE with eE0 eE; injection eE with eE1 eE; injection eE with eE2 eE; injection eE with eE3 eE; injection eE with eE4 eE
    subst eE0 eE1 eE2 eE3 eE4
    have hz4 := hb3.size
    obtain ⟨⟨d0, d1, d2, d3, d4⟩, dz⟩ := (X1.old hb3).all
    have dz0 := dz 0
    have dz1 := dz 1
    have dz2 := dz 2
    have dz3 := dz 3
    have dz4 := dz 4
    have Y2 := below_at hb3 X2
    have Y3 := below_at hb3 X3
    have g2 : w3.cell? ⟨w.heap.size + 1, 0, none⟩ = some (.int .i64 0) := by rw [Lib.cell_of_heap Y2]; rfl
    have g3 : w3.cell? ⟨w.heap.size + 1 + 1, 0, none⟩ = some (.int .i64 0) := by rw [Lib.cell_of_heap Y3]; rfl
    have gz2 : w3.frozen? ⟨w.heap.size + 1, 0, none⟩ = false := by simp [World.frozen?, Y2]
    have gz3 : w3.frozen? ⟨w.heap.size + 1 + 1, 0, none⟩ = false := by simp [World.frozen?, Y3]
    have hbF := ((put5_below (hb0.trans (hb3.mono hb0.size)) (Nat.le_refl _) (.bool l') (.bool h') (.slice B1 m1 j1) (.slice B2 m2 j2) (.slice B3 m3 j3)).setCell (p := ⟨w.heap.size + 1, 0, none⟩) (by show w.heap.size ≤ w.heap.size + 1; omega) (.int .i64 0)).setCell (p := ⟨w.heap.size + 1 + 1, 0, none⟩) (by show w.heap.size ≤ w.heap.size + 1 + 1; omega) (.int .i64 0)
    have hiF : SIn (((put5 w3 w.heap.size (.bool l') (.bool h') (.slice B1 m1 j1) (.slice B2 m2 j2) (.slice B3 m3 j3)).setCell ⟨w.heap.size + 1, 0, none⟩ (.int .i64 0)).setCell ⟨w.heap.size + 1 + 1, 0, none⟩ (.int .i64 0)) (fun k => w.heap.size ≤ k) t [.bool l', .bool h', .slice B1 m1 j1, .slice B2 m2 j2, .slice B3 m3 j3] :=
      (((((hin.more (S' := fun k => w.heap.size + 1 + 1 + 1 ≤ k) fun k hk => by omega).keep fun q hq => put5_far q (by omega)).far (p := ⟨w.heap.size + 1, 0, none⟩) (fun k hk => by show k ≠ w.heap.size + 1; omega) _).far (p := ⟨w.heap.size + 1 + 1, 0, none⟩) (fun k hk => by show k ≠ w.heap.size + 1 + 1; omega) _)).more fun k hk => by omega
    have HF := hid (And.intro hiF hbF)
    clear hiF hbF hin hb3 hb0 X1 X2 X3 Y2 Y3 dz
    go_wp2_with fail
    refine leaves_cons (f := 50) (args := #[.pointer (some ⟨w.heap.size + 1, 0, none⟩), .pointer (some ⟨w.heap.size + 1 + 1, 0, none⟩)]) (by simp) (by simp [go_sem]) ?_
    refine (catch_idle _ _ _).mono ?_
    rintro e u' w'' ⟨rfl, rfl, rfl⟩
    simp [Leaves, settle, results, Tryz.results30, go_sem, d0, d1, d2, d3, d4, g2, g3]
    exact ⟨_, _, _, _, _, rfl, HF.out⟩
  | succ k =>
    obtain ⟨rfl, hE, hb3⟩ := hE
    have hz4 := hb3.size
    have Y1 := X1.old hb3
    have Y2 := below_at hb3 X2
    have Y3 := below_at hb3 X3
    have g2 : w3.cell? ⟨w.heap.size + 1, 0, none⟩ = some (.int .i64 0) := by rw [Lib.cell_of_heap Y2]; rfl
    have g3 : w3.cell? ⟨w.heap.size + 1 + 1, 0, none⟩ = some (.int .i64 0) := by rw [Lib.cell_of_heap Y3]; rfl
    have gz2 : w3.frozen? ⟨w.heap.size + 1, 0, none⟩ = false := by simp [World.frozen?, Y2]
    have gz3 : w3.frozen? ⟨w.heap.size + 1 + 1, 0, none⟩ = false := by simp [World.frozen?, Y3]
    obtain ⟨⟨d0, d1, d2, d3, d4⟩, -⟩ := Y1.all
    rcases hE with ⟨hk1, hk2, hth⟩ | hth
    · have hth : e = .panicked [{ v := .iface (kindT (k + 1)) (.int .i64 (p : Nat)), recovered := false }] := hth
      subst hth
      have hbF := ((hb0.trans (hb3.mono hb0.size)).setCell (p := ⟨w.heap.size + 1, 0, none⟩) (by show w.heap.size ≤ w.heap.size + 1; omega) (.int .i64 p)).setCell (p := ⟨w.heap.size + 1 + 1, 0, none⟩) (by show w.heap.size ≤ w.heap.size + 1 + 1; omega) (.int .i64 ((k + 1 : Nat) : Int))
      have hiF : SIn ((w3.setCell ⟨w.heap.size + 1, 0, none⟩ (.int .i64 p)).setCell ⟨w.heap.size + 1 + 1, 0, none⟩ (.int .i64 ((k + 1 : Nat) : Int))) (fun k => w.heap.size ≤ k) zeroS [.bool false, .bool false, .slice none 0 0, .slice none 0 0, .slice none 0 0] :=
        .mk (xs := []) RIn.none_ ⟨Nat.le_refl _, by omega⟩ RIn.none_ ⟨Nat.le_refl _, by omega⟩ RIn.none_ ⟨Nat.le_refl _, by omega⟩ rfl (fun i t hit => by simp at hit)
      have HF := hid (And.intro hiF hbF)
      clear hiF hbF hb3 hb0 X1 X2 X3 Y1 Y2 Y3
      go_wp2_with fail
      refine leaves_cons (f := 50) (args := #[.pointer (some ⟨w.heap.size + 1, 0, none⟩), .pointer (some ⟨w.heap.size + 1 + 1, 0, none⟩)]) (by simp) (by simp [go_sem]) ?_
      refine (catch_throw (k + 1) ⟨hk1, hk2⟩ p _ _ (by omega) _ g2 gz2 g3 gz3).mono ?_
      rintro e u' w'' ⟨rfl, rfl, rfl⟩
      simp [Leaves, settle, results, Tryz.results30, go_sem, d0, d1, d2, d3, d4, g2, g3]
      exact ⟨_, _, _, _, _, rfl, HF.out⟩
    · have hth : e = .panicked [{ v := .iface 89 (.agg #[.int .i64 (p : Nat), .int .i64 ((k + 1 : Nat) : Int)]), recovered := false }] := hth
      subst hth
      clear Y2 Y3
      go_wp2_with fail
      refine leaves_cons (f := 50) (args := #[.pointer (some ⟨w.heap.size + 1, 0, none⟩), .pointer (some ⟨w.heap.size + 1 + 1, 0, none⟩)]) (by simp) (by simp [go_sem]) ?_
      refine (catch_packed (k + 1) p _ _ (by omega) _ g2 gz2 g3 gz3).mono ?_
      rintro e u' w'' ⟨rfl, rfl, W3, hbW, rfl⟩
      have g2' := (hbW.cell (p := ⟨w.heap.size + 1, 0, none⟩) (by show w.heap.size + 1 < _; omega)).trans g2
      have g3' := (hbW.cell (p := ⟨w.heap.size + 1 + 1, 0, none⟩) (by show w.heap.size + 1 + 1 < _; omega)).trans g3
      have hzW := hbW.size
      obtain ⟨⟨d0, d1, d2, d3, d4⟩, -⟩ := (Y1.old hbW).all
      have hbF := (((hb0.trans (hb3.mono hb0.size)).trans (hbW.mono (by omega))).setCell (p := ⟨w.heap.size + 1, 0, none⟩) (by show w.heap.size ≤ w.heap.size + 1; omega) (.int .i64 p)).setCell (p := ⟨w.heap.size + 1 + 1, 0, none⟩) (by show w.heap.size ≤ w.heap.size + 1 + 1; omega) (.int .i64 ((k + 1 : Nat) : Int))
      have hiF : SIn ((W3.setCell ⟨w.heap.size + 1, 0, none⟩ (.int .i64 p)).setCell ⟨w.heap.size + 1 + 1, 0, none⟩ (.int .i64 ((k + 1 : Nat) : Int))) (fun k => w.heap.size ≤ k) zeroS [.bool false, .bool false, .slice none 0 0, .slice none 0 0, .slice none 0 0] :=
        .mk (xs := []) RIn.none_ ⟨Nat.le_refl _, by omega⟩ RIn.none_ ⟨Nat.le_refl _, by omega⟩ RIn.none_ ⟨Nat.le_refl _, by omega⟩ rfl (fun i t hit => by simp at hit)
      have HF := hid (And.intro hiF hbF)
      clear hiF hbF hb3 hb0 X1 X2 X3 Y1
      simp [Leaves, settle, results, Tryz.results30, go_sem, d0, d1, d2, d3, d4, g2', g3']
      exact ⟨_, _, _, _, _, rfl, HF.out⟩
end Go.Proofs.YtcojkmcnigppbaaGreatDoor.Nt
end
section
set_option maxRecDepth 100000
namespace Go.Proofs.YtcojkmcnigppbaaGreatDoor.Nt
open Go Go.Proofs Go.RowKit Sx Oct
set_option maxHeartbeats 4000000 in
theorem Read_any (s : ByteArray) (w : World) (ht : Tab w) : Calls Tryz.prog 14 #[.string s] w fun e w' => GetEnd w e w' (aRead s.data.toList) := by
  have hb0 := below_new w (.cells #[.bool false, .bool false, .slice none 0 0, .slice none 0 0, .slice none 0 0] 25)
  have X1 : Box (w.alloc (.cells #[.bool false, .bool false, .slice none 0 0, .slice none 0 0, .slice none 0 0] 25)) w.heap.size (.bool false) (.bool false) (.slice none 0 0) (.slice none 0 0) (.slice none 0 0) := heap_alloc_new w _
  have hsz : (w.alloc (.cells #[.bool false, .bool false, .slice none 0 0, .slice none 0 0, .slice none 0 0] 25)).heap.size = w.heap.size + 1 := by simp
  have C := hid (read_adv s _ (ht.old hb0))
  rw [aRead_all]
  generalize aAll fAdv s.data.toList = PG at *
  go_enter Tryz.func14, Tryz.ntmps14
  go_wp2_with fail
  refine C.out.mono ?_
  rintro e w3 ⟨v0, v1, v2, v3, v4, rfl, hin, hb3⟩
  obtain ⟨l', h', hi', da', ks', B1, m1, j1, B2, m2, j2, B3, m3, j3, _, eE⟩ := hin.form_
  injection eE with eE0 eE; injection eE with eE1 eE; injection eE with eE2 eE; injection eE with eE3 eE; injection eE with eE4 eE
  subst eE0 eE1 eE2 eE3 eE4
  have hz3 := hb3.size
  obtain ⟨⟨d0, d1, d2, d3, d4⟩, dz⟩ := (X1.old hb3).all
  have dz0 := dz 0
  have dz1 := dz 1
  have dz2 := dz 2
  have dz3 := dz 3
  have dz4 := dz 4
  have hF := put5_below (w' := w3) (hb0.trans (hb3.mono hb0.size)) (Nat.le_refl _) (.bool l') (.bool h') (.slice B1 m1 j1) (.slice B2 m2 j2) (.slice B3 m3 j3)
  have hiF : SIn (put5 w3 w.heap.size (.bool l') (.bool h') (.slice B1 m1 j1) (.slice B2 m2 j2) (.slice B3 m3 j3)) (fun k => w.heap.size ≤ k) PG.1 [.bool l', .bool h', .slice B1 m1 j1, .slice B2 m2 j2, .slice B3 m3 j3] :=
    ((hin.more (S' := fun k => w.heap.size + 1 ≤ k) fun k hk => by omega).keep fun q hq => put5_far q (by omega)).more fun k hk => by omega
  have HF := hid (And.intro hiF hF)
  clear hF hiF hin dz X1 hb3 hb0
  go_wp2_with fail
  refine bodyPost_ret (v := .tuple #[.agg #[.bool l', .bool h', .slice B1 m1 j1, .slice B2 m2 j2, .slice B3 m3 j3], .int .i64 PG.2.1, .int .i64 PG.2.2]) (by simp [results, Tryz.results14, go_sem, d0, d1, d2, d3, d4]) rfl ?_
  exact ⟨_, _, _, _, _, rfl, HF.out⟩
set_option maxHeartbeats 4000000 in
theorem Unpack_any (s : ByteArray) (w : World) (ht : Tab w) : Calls Tryz.prog 15 #[.string s] w fun e w' => GetEnd w e w' (aUnpack s.data.toList) := by
  have hb0 := below_new w (.cells #[.bool false, .bool false, .slice none 0 0, .slice none 0 0, .slice none 0 0] 25)
  have X1 : Box (w.alloc (.cells #[.bool false, .bool false, .slice none 0 0, .slice none 0 0, .slice none 0 0] 25)) w.heap.size (.bool false) (.bool false) (.slice none 0 0) (.slice none 0 0) (.slice none 0 0) := heap_alloc_new w _
  have hsz : (w.alloc (.cells #[.bool false, .bool false, .slice none 0 0, .slice none 0 0, .slice none 0 0] 25)).heap.size = w.heap.size + 1 := by simp
  have C := hid (read_trn s _ (ht.old hb0))
  rw [aUnpack_all]
  generalize aAll fTrn s.data.toList = PG at *
  go_enter Tryz.func15, Tryz.ntmps15
  go_wp2_with fail
  refine C.out.mono ?_
  rintro e w3 ⟨v0, v1, v2, v3, v4, rfl, hin, hb3⟩
  obtain ⟨l', h', hi', da', ks', B1, m1, j1, B2, m2, j2, B3, m3, j3, _, eE⟩ := hin.form_
  injection eE with eE0 eE; injection eE with eE1 eE; injection eE with eE2 eE; injection eE with eE3 eE; injection eE with eE4 eE
  subst eE0 eE1 eE2 eE3 eE4
  have hz3 := hb3.size
  obtain ⟨⟨d0, d1, d2, d3, d4⟩, dz⟩ := (X1.old hb3).all
  have dz0 := dz 0
  have dz1 := dz 1
  have dz2 := dz 2
  have dz3 := dz 3
  have dz4 := dz 4
  have hF := put5_below (w' := w3) (hb0.trans (hb3.mono hb0.size)) (Nat.le_refl _) (.bool l') (.bool h') (.slice B1 m1 j1) (.slice B2 m2 j2) (.slice B3 m3 j3)
  have hiF : SIn (put5 w3 w.heap.size (.bool l') (.bool h') (.slice B1 m1 j1) (.slice B2 m2 j2) (.slice B3 m3 j3)) (fun k => w.heap.size ≤ k) PG.1 [.bool l', .bool h', .slice B1 m1 j1, .slice B2 m2 j2, .slice B3 m3 j3] :=
    ((hin.more (S' := fun k => w.heap.size + 1 ≤ k) fun k hk => by omega).keep fun q hq => put5_far q (by omega)).more fun k hk => by omega
  have HF := hid (And.intro hiF hF)
  clear hF hiF hin dz X1 hb3 hb0
  go_wp2_with fail
  refine bodyPost_ret (v := .tuple #[.agg #[.bool l', .bool h', .slice B1 m1 j1, .slice B2 m2 j2, .slice B3 m3 j3], .int .i64 PG.2.1, .int .i64 PG.2.2]) (by simp [results, Tryz.results15, go_sem, d0, d1, d2, d3, d4]) rfl ?_
  exact ⟨_, _, _, _, _, rfl, HF.out⟩
end Go.Proofs.YtcojkmcnigppbaaGreatDoor.Nt
end
section
set_option maxRecDepth 100000
namespace Go.Proofs.YtcojkmcnigppbaaGreatDoor.Np
open Go Go.Proofs Go.RowKit Sx Oct Nt
open Sch (wp_R gr_val gr_is gr_fresh gr_nil gr_on gr_onV gr_offV op_callR Rk)
def CloR (s : ByteArray) (v : Value) (V : World) : Prop := ∃ g, v = .func (.func 87) #[] #[.pointer (some ⟨g, 0, none⟩)] ∧ V.cell? ⟨g, 0, none⟩ = some (.string s)
theorem CloR.keep (s : ByteArray) (v : Value) (V V' : World) (h : CloR s v V) (hb : Below V.heap.size V V') : CloR s v V' := by
  obtain ⟨g, h1, h2⟩ := h
  exact ⟨g, h1, (hb.cell (World.block_lt_of_cell? _ _ h2)).trans h2⟩
theorem oneOf_clo (s : ByteArray) (V : World) : Calls Tryz.prog 55 #[.string s] V fun e w' => ∃ v, e = .returned v ∧ CloR s v w' ∧ Below V.heap.size V w' :=
  (oneOf_new s V).mono fun e w' ⟨g, h1, h2, h3⟩ => ⟨_, h1, ⟨g, rfl, h2⟩, h3⟩
theorem op_ask {o : Oper} {a : Act} {V : World} {K : Act → World → Prop} {Q : Exit → Act → World → Prop} (s : ByteArray) (x : UInt8) (t : Tmp) (y : Operand) (ho : o.op = .call (callOf o)) (hc : (callOf o).callee = .value (.tmp t)) (hx : (callOf o).args = #[y]) (hv : CloR s (a.eval (.tmp t)) V) (hy : a.eval y = .int .u8 x.toNat) (hK : ∀ V', Below V.heap.size V V' → K (a.put o.dst (.bool (oneB s x))) V') : o.wp Tryz.prog a V K Q := by
  obtain ⟨g, h1, h2⟩ := hv
  exact op_callC t #[y] #[.int .u8 x.toNat] ho hc hx h1 (map1 hy) (oneOf_ask s g x V h2) (by kernel_rfl) hK
theorem op_every {o : Oper} {a : Act} {V : World} {K : Act → World → Prop} {Q : Exit → Act → World → Prop} (s : ByteArray) (A : Option Addr) (n c : Nat) (l : List UInt8) (hn : n ≤ 1099511627776) (hr : Reads V V.heap.size 1 A n (Lib.byteCells l)) (x y : Operand) (ho : o.op = .call (callOf o)) (hc : (callOf o).callee = .value (.func 73)) (hx : (callOf o).args = #[x, y]) (h1 : a.eval x = .slice A n c) (hv : CloR s (a.eval y) V) (hK : ∀ V', Below V.heap.size V V' → K (a.put o.dst (.bool (l.all (oneB s)))) V') : o.wp Tryz.prog a V K Q := by
  obtain ⟨g, h2, h3⟩ := hv
  exact op_callK #[x, y] #[.slice A n c, .func (.func 87) #[] #[.pointer (some ⟨g, 0, none⟩)]] ho hc hx (map2 h1 h2) ((every_one s g A n c l V hr hn h3).mono fun e w' ⟨h4, h5⟩ => ⟨h4, by rw [h5]; exact Below.refl _ _⟩) (by kernel_rfl) hK
theorem quiet_notB {o : Oper} {ev : Operand → Value} {V : World} {b b' : Bool} (t : TypeId) (x : Operand) (hb : (!b) = b') (hx : ev x = .bool b) (ho : o.op = .unOp .not t x) : (execOp ev o).run Tryz.prog V = .ok (.value (.bool b')) V := by
  rw [← hb]; exact quiet_not t x hx ho
set_option maxHeartbeats 8000000 in
theorem isToken_any (A : Option Addr) (n c : Nat) (l : List UInt8) (w : World) (hr : Reads w w.heap.size 1 A n (Lib.byteCells l)) (hn : n ≤ 1099511627776) :
    Calls Tryz.prog 72 #[.slice A n c] w fun e w' => e = .returned (.bool (Sx.isToken l)) ∧ Below w.heap.size w w' := by
  have hl : l.length = n := by have := hr.1; simpa [Lib.byteCells_length] using this
  cases l with
  | nil =>
    have hn0 : n = 0 := by simpa using hl.symm
    have hgt : Hid (decide ((0 : Int) < (n : Int)) = false) := hid (by simp; omega)
    have e : Sx.isToken [] = false := rfl
    rw [e]
    clear e hr hl hn0
    go_enter Tryz.func72, Tryz.ntmps72
    go_upto_region 1 with fail
    (try simp only [Act.put, zA, zB, zC])
    refine wp_R [3, 4, 5, 6, 7, 8, 9, 10, 11, 12, 13, 14, 15, 16, 17, 18, 2] [Rk.val (.slice A n c), Rk.val (.int .i64 (n : Nat)), Rk.val (.bool false), Rk.val (.bool false), Rk.val undef, Rk.val undef, Rk.val undef, Rk.val undef, Rk.val undef, Rk.val undef, Rk.val (.bool false), Rk.val (.bool false), Rk.val undef, Rk.val undef, Rk.val undef, Rk.val (.bool false), Rk.val (.bool false)] rfl (by kernel_rfl) (by kernel_rfl) (by kernel_rfl) (by kernel_rfl) ?hg1 _ (by rfl) ?hf1
    case hg1 =>
      refine gr_val rfl (by kernel_rfl) (fun a V H K Q hK => op_quiet (quiet_move (.tmp 0) (H.old 0 (by kernel_rfl) (by kernel_rfl)) (.inl (by kernel_rfl))) hK) ?_
      refine gr_val rfl (by kernel_rfl) (fun a V H K Q hK => op_quiet (quiet_len (.tmp 3) A n c 22 5 (H.rel 0 3 (by kernel_rfl) (by kernel_rfl) rfl) Tryz.underlying22 (by kernel_rfl)) hK) ?_
      refine gr_val rfl (by kernel_rfl) (fun a V H K Q hK => op_quiet (quiet_gtrB (.tmp 4) (.const (.int .i64 0)) (n : Int) 0 3 3 false hgt.out (H.rel 1 4 (by kernel_rfl) (by kernel_rfl) rfl) rfl Tryz.underlying3 (by kernel_rfl)) hK) ?_
      refine gr_val rfl (by kernel_rfl) (fun a V H K Q hK => op_quiet (quiet_move (.tmp 5) (H.rel 2 5 (by kernel_rfl) (by kernel_rfl) rfl) (.inl (by kernel_rfl))) hK) ?_
      refine gr_offV (j := 3) (d := 6) (want := true) (u := .bool false) rfl (by kernel_rfl) (by kernel_rfl) (fun a V H => (H.rel 3 6 (by kernel_rfl) (by kernel_rfl) rfl)) (by kernel_rfl) ?_
      refine gr_offV (j := 3) (d := 6) (want := true) (u := .bool false) rfl (by kernel_rfl) (by kernel_rfl) (fun a V H => (H.rel 3 6 (by kernel_rfl) (by kernel_rfl) rfl)) (by kernel_rfl) ?_
      refine gr_offV (j := 3) (d := 6) (want := true) (u := .bool false) rfl (by kernel_rfl) (by kernel_rfl) (fun a V H => (H.rel 3 6 (by kernel_rfl) (by kernel_rfl) rfl)) (by kernel_rfl) ?_
      refine gr_offV (j := 3) (d := 6) (want := true) (u := .bool false) rfl (by kernel_rfl) (by kernel_rfl) (fun a V H => (H.rel 3 6 (by kernel_rfl) (by kernel_rfl) rfl)) (by kernel_rfl) ?_
      refine gr_offV (j := 3) (d := 6) (want := true) (u := .bool false) rfl (by kernel_rfl) (by kernel_rfl) (fun a V H => (H.rel 3 6 (by kernel_rfl) (by kernel_rfl) rfl)) (by kernel_rfl) ?_
      refine gr_offV (j := 3) (d := 6) (want := true) (u := .bool false) rfl (by kernel_rfl) (by kernel_rfl) (fun a V H => (H.rel 3 6 (by kernel_rfl) (by kernel_rfl) rfl)) (by kernel_rfl) ?_
      refine gr_val rfl (by kernel_rfl) (fun a V H K Q hK => op_quiet (quiet_pickF (.tmp 6) (.tmp 12) (.const (.bool false)) (H.rel 3 6 (by kernel_rfl) (by kernel_rfl) rfl) rfl (by kernel_rfl)) hK) ?_
      refine gr_val rfl (by kernel_rfl) (fun a V H K Q hK => op_quiet (quiet_move (.tmp 13) (H.rel 10 13 (by kernel_rfl) (by kernel_rfl) rfl) (.inl (by kernel_rfl))) hK) ?_
      refine gr_offV (j := 11) (d := 14) (want := true) (u := .bool false) rfl (by kernel_rfl) (by kernel_rfl) (fun a V H => (H.rel 11 14 (by kernel_rfl) (by kernel_rfl) rfl)) (by kernel_rfl) ?_
      refine gr_offV (j := 11) (d := 14) (want := true) (u := .bool false) rfl (by kernel_rfl) (by kernel_rfl) (fun a V H => (H.rel 11 14 (by kernel_rfl) (by kernel_rfl) rfl)) (by kernel_rfl) ?_
      refine gr_offV (j := 11) (d := 14) (want := true) (u := .bool false) rfl (by kernel_rfl) (by kernel_rfl) (fun a V H => (H.rel 11 14 (by kernel_rfl) (by kernel_rfl) rfl)) (by kernel_rfl) ?_
      refine gr_val rfl (by kernel_rfl) (fun a V H K Q hK => op_quiet (quiet_pickF (.tmp 14) (.tmp 17) (.const (.bool false)) (H.rel 11 14 (by kernel_rfl) (by kernel_rfl) rfl) rfl (by kernel_rfl)) hK) ?_
      refine gr_val rfl (by kernel_rfl) (fun a V H K Q hK => op_quiet (quiet_move (.tmp 18) (H.rel 15 18 (by kernel_rfl) (by kernel_rfl) rfl) (.inr (by kernel_rfl))) hK) ?_
      exact gr_nil
    case hf1 =>
    intro x_ V hF
    have e0 : x_ 0 = .slice A n c := hF.rel 0 _ rfl
    have e1 : x_ 1 = .int .i64 (n : Nat) := hF.rel 1 _ rfl
    have e2 : x_ 2 = .bool false := hF.rel 2 _ rfl
    have e3 : x_ 3 = .bool false := hF.rel 3 _ rfl
    have e4 : x_ 4 = undef := hF.rel 4 _ rfl
    have e5 : x_ 5 = undef := hF.rel 5 _ rfl
    have e6 : x_ 6 = undef := hF.rel 6 _ rfl
    have e7 : x_ 7 = undef := hF.rel 7 _ rfl
    have e8 : x_ 8 = undef := hF.rel 8 _ rfl
    have e9 : x_ 9 = undef := hF.rel 9 _ rfl
    have e10 : x_ 10 = .bool false := hF.rel 10 _ rfl
    have e11 : x_ 11 = .bool false := hF.rel 11 _ rfl
    have e12 : x_ 12 = undef := hF.rel 12 _ rfl
    have e13 : x_ 13 = undef := hF.rel 13 _ rfl
    have e14 : x_ 14 = undef := hF.rel 14 _ rfl
    have e15 : x_ 15 = .bool false := hF.rel 15 _ rfl
    have e16 : x_ 16 = .bool false := hF.rel 16 _ rfl
    have hbf := hF.frame
    clear hF
    simp only [Sch.finL, zA, zB, zC, e0, e1, e2, e3, e4, e5, e6, e7, e8, e9, e10, e11, e12, e13, e14, e15, e16]
    clear e0 e1 e2 e3 e4 e5 e6 e7 e8 e9 e10 e11 e12 e13 e14 e15 e16
    refine tail_nil ?_
    go_wp2_with fail
    go_ret
    exact ⟨rfl, hbf⟩
  | cons x r =>
    have hlen : (x :: r).length = r.length + 1 := rfl
    have h0 : 0 < n := by omega
    obtain ⟨ad, u, rfl, had, hu, hc0⟩ := hr.at_ h0
    have hu' : u = .int .u8 x.toNat := by
      simp [Lib.byteCells] at hu
      exact hu.symm
    subst hu'
    have hadl : Hid ((ad.add 0).block < w.heap.size) := hid (by rw [block_of_add]; exact had)
    have hcell := hid hc0
    have hgt : Hid (decide ((0 : Int) < (n : Int)) = true) := hid (by simp; omega)
    replace hr := hid hr
    clear hc0 hu had hl
    cases hdd : isDig x with
    | true =>
      have hd := hid hdd
      have e : Sx.isToken (x :: r) = false := by simp [Sx.isToken, hdd]
      rw [e]
      clear e hdd
      go_enter Tryz.func72, Tryz.ntmps72
      go_upto_region 1 with fail
      (try simp only [Act.put, zA, zB, zC])
      refine wp_R [3, 4, 5, 6, 7, 8, 9, 10, 11, 12, 13, 14, 15, 16, 17, 18, 2] [Rk.val (.slice (some ad) n c), Rk.val (.int .i64 (n : Nat)), Rk.val (.bool true), Rk.val (.bool true), Rk.is (CloR digS) (CloR.keep digS), Rk.val (.slice (some ad) n c), Rk.val (.pointer (some (ad.add 0))), Rk.val (.int .u8 (x.toNat : Nat)), Rk.val (.bool true), Rk.val (.bool false), Rk.val (.bool false), Rk.val (.bool false), Rk.val undef, Rk.val undef, Rk.val undef, Rk.val (.bool false), Rk.val (.bool false)] rfl (by kernel_rfl) (by kernel_rfl) (by kernel_rfl) (by kernel_rfl) ?hg2 _ (by rfl) ?hf2
      case hg2 =>
        refine gr_val rfl (by kernel_rfl) (fun a V H K Q hK => op_quiet (quiet_move (.tmp 0) (H.old 0 (by kernel_rfl) (by kernel_rfl)) (.inl (by kernel_rfl))) hK) ?_
        refine gr_val rfl (by kernel_rfl) (fun a V H K Q hK => op_quiet (quiet_len (.tmp 3) (some ad) n c 22 5 (H.rel 0 3 (by kernel_rfl) (by kernel_rfl) rfl) Tryz.underlying22 (by kernel_rfl)) hK) ?_
        refine gr_val rfl (by kernel_rfl) (fun a V H K Q hK => op_quiet (quiet_gtrB (.tmp 4) (.const (.int .i64 0)) (n : Int) 0 3 3 true hgt.out (H.rel 1 4 (by kernel_rfl) (by kernel_rfl) rfl) rfl Tryz.underlying3 (by kernel_rfl)) hK) ?_
        refine gr_val rfl (by kernel_rfl) (fun a V H K Q hK => op_quiet (quiet_move (.tmp 5) (H.rel 2 5 (by kernel_rfl) (by kernel_rfl) rfl) (.inl (by kernel_rfl))) hK) ?_
        refine gr_on (j := 3) (d := 6) (want := true) (u := .bool true) rfl (by kernel_rfl) (by kernel_rfl) (fun a V H => (H.rel 3 6 (by kernel_rfl) (by kernel_rfl) rfl)) (by kernel_rfl) (fun a V H K Q hK => op_callR #[.const (.string digS)] #[.string digS] (by kernel_rfl) (by kernel_rfl) (by kernel_rfl) (map1 rfl) (oneOf_clo digS V) (by kernel_rfl) hK) ?_
        refine gr_onV (j := 3) (d := 6) (want := true) (u := .bool true) rfl (by kernel_rfl) (by kernel_rfl) (fun a V H => (H.rel 3 6 (by kernel_rfl) (by kernel_rfl) rfl)) (by kernel_rfl) (fun a V H K Q hK => op_quiet (quiet_move (.tmp 0) (H.old 0 (by kernel_rfl) (by kernel_rfl)) (.inl (by kernel_rfl))) hK) ?_
        refine gr_onV (j := 3) (d := 6) (want := true) (u := .bool true) rfl (by kernel_rfl) (by kernel_rfl) (fun a V H => (H.rel 3 6 (by kernel_rfl) (by kernel_rfl) rfl)) (by kernel_rfl) (fun a V H K Q hK => op_quiet (quiet_index (.tmp 8) (.const (.int .i64 0)) ad n c 0 22 5 (H.rel 5 8 (by kernel_rfl) (by kernel_rfl) rfl) rfl h0 Tryz.underlying22 (by kernel_rfl) (by kernel_rfl)) hK) ?_
        refine gr_onV (j := 3) (d := 6) (want := true) (u := .bool true) rfl (by kernel_rfl) (by kernel_rfl) (fun a V H => (H.rel 3 6 (by kernel_rfl) (by kernel_rfl) rfl)) (by kernel_rfl) (fun a V H K Q hK => op_quiet (quiet_cell 5 (.tmp 9) _ (H.rel 6 9 (by kernel_rfl) (by kernel_rfl) rfl) Tryz.underlying5 rfl ((H.frame.cell hadl.out).trans hcell.out) (by kernel_rfl)) hK) ?_
        refine gr_onV (j := 3) (d := 6) (want := true) (u := .bool true) rfl (by kernel_rfl) (by kernel_rfl) (fun a V H => (H.rel 3 6 (by kernel_rfl) (by kernel_rfl) rfl)) (by kernel_rfl) (fun a V H K Q hK => op_ask digS x 7 (.tmp 10) (by kernel_rfl) (by kernel_rfl) (by kernel_rfl) (H.rel 4 7 (by kernel_rfl) (by kernel_rfl) rfl) (H.rel 7 10 (by kernel_rfl) (by kernel_rfl) rfl) (by rw [dig_sign, hd.out]; exact hK)) ?_
        refine gr_onV (j := 3) (d := 6) (want := true) (u := .bool true) rfl (by kernel_rfl) (by kernel_rfl) (fun a V H => (H.rel 3 6 (by kernel_rfl) (by kernel_rfl) rfl)) (by kernel_rfl) (fun a V H K Q hK => op_quiet (quiet_notB 4 (.tmp 11) rfl (H.rel 8 11 (by kernel_rfl) (by kernel_rfl) rfl) (by kernel_rfl)) hK) ?_
        refine gr_val rfl (by kernel_rfl) (fun a V H K Q hK => op_quiet (quiet_pickT (.tmp 6) (.tmp 12) (.const (.bool false)) (H.rel 3 6 (by kernel_rfl) (by kernel_rfl) rfl) (H.rel 9 12 (by kernel_rfl) (by kernel_rfl) rfl) (by kernel_rfl)) hK) ?_
        refine gr_val rfl (by kernel_rfl) (fun a V H K Q hK => op_quiet (quiet_move (.tmp 13) (H.rel 10 13 (by kernel_rfl) (by kernel_rfl) rfl) (.inl (by kernel_rfl))) hK) ?_
        refine gr_offV (j := 11) (d := 14) (want := true) (u := .bool false) rfl (by kernel_rfl) (by kernel_rfl) (fun a V H => (H.rel 11 14 (by kernel_rfl) (by kernel_rfl) rfl)) (by kernel_rfl) ?_
        refine gr_offV (j := 11) (d := 14) (want := true) (u := .bool false) rfl (by kernel_rfl) (by kernel_rfl) (fun a V H => (H.rel 11 14 (by kernel_rfl) (by kernel_rfl) rfl)) (by kernel_rfl) ?_
        refine gr_offV (j := 11) (d := 14) (want := true) (u := .bool false) rfl (by kernel_rfl) (by kernel_rfl) (fun a V H => (H.rel 11 14 (by kernel_rfl) (by kernel_rfl) rfl)) (by kernel_rfl) ?_
        refine gr_val rfl (by kernel_rfl) (fun a V H K Q hK => op_quiet (quiet_pickF (.tmp 14) (.tmp 17) (.const (.bool false)) (H.rel 11 14 (by kernel_rfl) (by kernel_rfl) rfl) rfl (by kernel_rfl)) hK) ?_
        refine gr_val rfl (by kernel_rfl) (fun a V H K Q hK => op_quiet (quiet_move (.tmp 18) (H.rel 15 18 (by kernel_rfl) (by kernel_rfl) rfl) (.inr (by kernel_rfl))) hK) ?_
        exact gr_nil
      case hf2 =>
      intro x_ V hF
      have e0 : x_ 0 = .slice (some ad) n c := hF.rel 0 _ rfl
      have e1 : x_ 1 = .int .i64 (n : Nat) := hF.rel 1 _ rfl
      have e2 : x_ 2 = .bool true := hF.rel 2 _ rfl
      have e3 : x_ 3 = .bool true := hF.rel 3 _ rfl
      obtain ⟨v4, e4⟩ : ∃ v4, x_ 4 = v4 := ⟨_, rfl⟩
      have e5 : x_ 5 = .slice (some ad) n c := hF.rel 5 _ rfl
      have e6 : x_ 6 = .pointer (some (ad.add 0)) := hF.rel 6 _ rfl
      have e7 : x_ 7 = .int .u8 (x.toNat : Nat) := hF.rel 7 _ rfl
      have e8 : x_ 8 = .bool true := hF.rel 8 _ rfl
      have e9 : x_ 9 = .bool false := hF.rel 9 _ rfl
      have e10 : x_ 10 = .bool false := hF.rel 10 _ rfl
      have e11 : x_ 11 = .bool false := hF.rel 11 _ rfl
      have e12 : x_ 12 = undef := hF.rel 12 _ rfl
      have e13 : x_ 13 = undef := hF.rel 13 _ rfl
      have e14 : x_ 14 = undef := hF.rel 14 _ rfl
      have e15 : x_ 15 = .bool false := hF.rel 15 _ rfl
      have e16 : x_ 16 = .bool false := hF.rel 16 _ rfl
      have hbf := hF.frame
      clear hF
      simp only [Sch.finL, zA, zB, zC, e0, e1, e2, e3, e4, e5, e6, e7, e8, e9, e10, e11, e12, e13, e14, e15, e16]
      clear e0 e1 e2 e3 e4 e5 e6 e7 e8 e9 e10 e11 e12 e13 e14 e15 e16
      refine tail_nil ?_
      go_wp2_with fail
      go_ret
      exact ⟨rfl, hbf⟩
    | false =>
      have hd := hid hdd
      have e : Sx.isToken (x :: r) = (x :: r).all isTok := by simp [Sx.isToken, hdd]
      rw [e]
      clear e hdd
      generalize hlg : x :: r = l at *
      clear hlg hlen
      go_enter Tryz.func72, Tryz.ntmps72
      go_upto_region 1 with fail
      (try simp only [Act.put, zA, zB, zC])
      refine wp_R [3, 4, 5, 6, 7, 8, 9, 10, 11, 12, 13, 14, 15, 16, 17, 18, 2] [Rk.val (.slice (some ad) n c), Rk.val (.int .i64 (n : Nat)), Rk.val (.bool true), Rk.val (.bool true), Rk.is (CloR digS) (CloR.keep digS), Rk.val (.slice (some ad) n c), Rk.val (.pointer (some (ad.add 0))), Rk.val (.int .u8 (x.toNat : Nat)), Rk.val (.bool false), Rk.val (.bool true), Rk.val (.bool true), Rk.val (.bool true), Rk.val (.slice (some ad) n c), Rk.is (CloR tokS) (CloR.keep tokS), Rk.val (.bool (l.all isTok)), Rk.val (.bool (l.all isTok)), Rk.val (.bool (l.all isTok))] rfl (by kernel_rfl) (by kernel_rfl) (by kernel_rfl) (by kernel_rfl) ?hg3 _ (by rfl) ?hf3
      case hg3 =>
        refine gr_val rfl (by kernel_rfl) (fun a V H K Q hK => op_quiet (quiet_move (.tmp 0) (H.old 0 (by kernel_rfl) (by kernel_rfl)) (.inl (by kernel_rfl))) hK) ?_
        refine gr_val rfl (by kernel_rfl) (fun a V H K Q hK => op_quiet (quiet_len (.tmp 3) (some ad) n c 22 5 (H.rel 0 3 (by kernel_rfl) (by kernel_rfl) rfl) Tryz.underlying22 (by kernel_rfl)) hK) ?_
        refine gr_val rfl (by kernel_rfl) (fun a V H K Q hK => op_quiet (quiet_gtrB (.tmp 4) (.const (.int .i64 0)) (n : Int) 0 3 3 true hgt.out (H.rel 1 4 (by kernel_rfl) (by kernel_rfl) rfl) rfl Tryz.underlying3 (by kernel_rfl)) hK) ?_
        refine gr_val rfl (by kernel_rfl) (fun a V H K Q hK => op_quiet (quiet_move (.tmp 5) (H.rel 2 5 (by kernel_rfl) (by kernel_rfl) rfl) (.inl (by kernel_rfl))) hK) ?_
        refine gr_on (j := 3) (d := 6) (want := true) (u := .bool true) rfl (by kernel_rfl) (by kernel_rfl) (fun a V H => (H.rel 3 6 (by kernel_rfl) (by kernel_rfl) rfl)) (by kernel_rfl) (fun a V H K Q hK => op_callR #[.const (.string digS)] #[.string digS] (by kernel_rfl) (by kernel_rfl) (by kernel_rfl) (map1 rfl) (oneOf_clo digS V) (by kernel_rfl) hK) ?_
        refine gr_onV (j := 3) (d := 6) (want := true) (u := .bool true) rfl (by kernel_rfl) (by kernel_rfl) (fun a V H => (H.rel 3 6 (by kernel_rfl) (by kernel_rfl) rfl)) (by kernel_rfl) (fun a V H K Q hK => op_quiet (quiet_move (.tmp 0) (H.old 0 (by kernel_rfl) (by kernel_rfl)) (.inl (by kernel_rfl))) hK) ?_
        refine gr_onV (j := 3) (d := 6) (want := true) (u := .bool true) rfl (by kernel_rfl) (by kernel_rfl) (fun a V H => (H.rel 3 6 (by kernel_rfl) (by kernel_rfl) rfl)) (by kernel_rfl) (fun a V H K Q hK => op_quiet (quiet_index (.tmp 8) (.const (.int .i64 0)) ad n c 0 22 5 (H.rel 5 8 (by kernel_rfl) (by kernel_rfl) rfl) rfl h0 Tryz.underlying22 (by kernel_rfl) (by kernel_rfl)) hK) ?_
        refine gr_onV (j := 3) (d := 6) (want := true) (u := .bool true) rfl (by kernel_rfl) (by kernel_rfl) (fun a V H => (H.rel 3 6 (by kernel_rfl) (by kernel_rfl) rfl)) (by kernel_rfl) (fun a V H K Q hK => op_quiet (quiet_cell 5 (.tmp 9) _ (H.rel 6 9 (by kernel_rfl) (by kernel_rfl) rfl) Tryz.underlying5 rfl ((H.frame.cell hadl.out).trans hcell.out) (by kernel_rfl)) hK) ?_
        refine gr_onV (j := 3) (d := 6) (want := true) (u := .bool true) rfl (by kernel_rfl) (by kernel_rfl) (fun a V H => (H.rel 3 6 (by kernel_rfl) (by kernel_rfl) rfl)) (by kernel_rfl) (fun a V H K Q hK => op_ask digS x 7 (.tmp 10) (by kernel_rfl) (by kernel_rfl) (by kernel_rfl) (H.rel 4 7 (by kernel_rfl) (by kernel_rfl) rfl) (H.rel 7 10 (by kernel_rfl) (by kernel_rfl) rfl) (by rw [dig_sign, hd.out]; exact hK)) ?_
        refine gr_onV (j := 3) (d := 6) (want := true) (u := .bool true) rfl (by kernel_rfl) (by kernel_rfl) (fun a V H => (H.rel 3 6 (by kernel_rfl) (by kernel_rfl) rfl)) (by kernel_rfl) (fun a V H K Q hK => op_quiet (quiet_notB 4 (.tmp 11) rfl (H.rel 8 11 (by kernel_rfl) (by kernel_rfl) rfl) (by kernel_rfl)) hK) ?_
        refine gr_val rfl (by kernel_rfl) (fun a V H K Q hK => op_quiet (quiet_pickT (.tmp 6) (.tmp 12) (.const (.bool false)) (H.rel 3 6 (by kernel_rfl) (by kernel_rfl) rfl) (H.rel 9 12 (by kernel_rfl) (by kernel_rfl) rfl) (by kernel_rfl)) hK) ?_
        refine gr_val rfl (by kernel_rfl) (fun a V H K Q hK => op_quiet (quiet_move (.tmp 13) (H.rel 10 13 (by kernel_rfl) (by kernel_rfl) rfl) (.inl (by kernel_rfl))) hK) ?_
        refine gr_onV (j := 11) (d := 14) (want := true) (u := .bool true) rfl (by kernel_rfl) (by kernel_rfl) (fun a V H => (H.rel 11 14 (by kernel_rfl) (by kernel_rfl) rfl)) (by kernel_rfl) (fun a V H K Q hK => op_quiet (quiet_move (.tmp 0) (H.old 0 (by kernel_rfl) (by kernel_rfl)) (.inl (by kernel_rfl))) hK) ?_
        refine gr_on (j := 11) (d := 14) (want := true) (u := .bool true) rfl (by kernel_rfl) (by kernel_rfl) (fun a V H => (H.rel 11 14 (by kernel_rfl) (by kernel_rfl) rfl)) (by kernel_rfl) (fun a V H K Q hK => op_callR #[.const (.string tokS)] #[.string tokS] (by kernel_rfl) (by kernel_rfl) (by kernel_rfl) (map1 rfl) (oneOf_clo tokS V) (by kernel_rfl) hK) ?_
        refine gr_onV (j := 11) (d := 14) (want := true) (u := .bool true) rfl (by kernel_rfl) (by kernel_rfl) (fun a V H => (H.rel 11 14 (by kernel_rfl) (by kernel_rfl) rfl)) (by kernel_rfl) (fun a V H K Q hK => op_every tokS (some ad) n c l hn ((hr.out.keep fun q hq => H.frame.cell hq).more H.frame.size) (.tmp 15) (.tmp 16) (by kernel_rfl) (by kernel_rfl) (by kernel_rfl) (H.rel 12 15 (by kernel_rfl) (by kernel_rfl) rfl) (H.rel 13 16 (by kernel_rfl) (by kernel_rfl) rfl) (by rw [tok_sign]; exact hK)) ?_
        refine gr_val rfl (by kernel_rfl) (fun a V H K Q hK => op_quiet (quiet_pickT (.tmp 14) (.tmp 17) (.const (.bool false)) (H.rel 11 14 (by kernel_rfl) (by kernel_rfl) rfl) (H.rel 14 17 (by kernel_rfl) (by kernel_rfl) rfl) (by kernel_rfl)) hK) ?_
        refine gr_val rfl (by kernel_rfl) (fun a V H K Q hK => op_quiet (quiet_move (.tmp 18) (H.rel 15 18 (by kernel_rfl) (by kernel_rfl) rfl) (.inr (by kernel_rfl))) hK) ?_
        exact gr_nil
      case hf3 =>
      intro x_ V hF
      have e0 : x_ 0 = .slice (some ad) n c := hF.rel 0 _ rfl
      have e1 : x_ 1 = .int .i64 (n : Nat) := hF.rel 1 _ rfl
      have e2 : x_ 2 = .bool true := hF.rel 2 _ rfl
      have e3 : x_ 3 = .bool true := hF.rel 3 _ rfl
      obtain ⟨v4, e4⟩ : ∃ v4, x_ 4 = v4 := ⟨_, rfl⟩
      have e5 : x_ 5 = .slice (some ad) n c := hF.rel 5 _ rfl
      have e6 : x_ 6 = .pointer (some (ad.add 0)) := hF.rel 6 _ rfl
      have e7 : x_ 7 = .int .u8 (x.toNat : Nat) := hF.rel 7 _ rfl
      have e8 : x_ 8 = .bool false := hF.rel 8 _ rfl
      have e9 : x_ 9 = .bool true := hF.rel 9 _ rfl
      have e10 : x_ 10 = .bool true := hF.rel 10 _ rfl
      have e11 : x_ 11 = .bool true := hF.rel 11 _ rfl
      have e12 : x_ 12 = .slice (some ad) n c := hF.rel 12 _ rfl
      obtain ⟨v13, e13⟩ : ∃ v13, x_ 13 = v13 := ⟨_, rfl⟩
      have e14 : x_ 14 = .bool (l.all isTok) := hF.rel 14 _ rfl
      have e15 : x_ 15 = .bool (l.all isTok) := hF.rel 15 _ rfl
      have e16 : x_ 16 = .bool (l.all isTok) := hF.rel 16 _ rfl
      have hbf := hF.frame
      clear hF
      simp only [Sch.finL, zA, zB, zC, e0, e1, e2, e3, e4, e5, e6, e7, e8, e9, e10, e11, e12, e13, e14, e15, e16]
      clear e0 e1 e2 e3 e4 e5 e6 e7 e8 e9 e10 e11 e12 e13 e14 e15 e16
      refine tail_nil ?_
      go_wp2_with fail
      go_ret
      exact ⟨rfl, hbf⟩
end Go.Proofs.YtcojkmcnigppbaaGreatDoor.Np
end
section
set_option maxRecDepth 100000
namespace Go.Proofs.YtcojkmcnigppbaaGreatDoor.Np
open Go Go.Proofs Go.RowKit Sx Oct
theorem escL_esc (l : List UInt8) : escL l = Sx.esc l := rfl
theorem join3 (k m : UInt8) (l : List UInt8) : ((⟨#[k]⟩ : ByteArray) ++ ⟨l.toArray⟩ ++ ⟨#[m]⟩) = ⟨(k :: (l ++ [m])).toArray⟩ := by
  apply ByteArray.ext; simp
set_option maxHeartbeats 4000000 in
theorem plainP_any (A : Option Addr) (n c : Nat) (l : List UInt8) (w : World) (hr : Reads w w.heap.size 1 A n (Lib.byteCells l)) (hn : n ≤ 100000) (hnc : n ≤ c) :
    Calls Tryz.prog 45 #[.slice A n c] w fun e w' => e = .returned (.string ⟨(aBytes l).toArray⟩) ∧ Below w.heap.size w w' := by
  have hl : l.length = n := by have := hr.1; simpa [Lib.byteCells_length] using this
  have C1 := hid (isToken_any A n c l w hr (by omega))
  have HR : Hid (∀ V, Below w.heap.size w V → Reads V V.heap.size 1 A n (Lib.byteCells l)) := hid fun V hb => (hr.keep fun q hq => hb.cell hq).more hb.size
  unfold aBytes
  cases ht : Sx.isToken l with
  | true =>
    rw [ht] at C1
    simp only [if_true]
    clear hr hl
    go_enter Tryz.func45, Tryz.ntmps45
    go_wp2_with ((with_reducible refine C1.out.mono ?_); rintro e w1 ⟨rfl, hb1⟩)
    rw [run_back (HR.out w1 hb1)]
    simp only [Result.andThen]
    rw [Oper.upon_value]
    go_wp2_with fail
    go_ret
    exact ⟨rfl, hb1⟩
  | false =>
    rw [ht] at C1
    simp only [Bool.false_eq_true, if_false]
    have C2 : Hid (∀ V, Below w.heap.size w V → Calls Tryz.prog 73 #[.slice A n c, .func (.func 74) #[] #[]] V fun e w' => e = .returned (.bool (l.all isPr)) ∧ w' = V) := hid fun V hb => every_print A n c l V (HR.out V hb) (by omega)
    cases hp : l.all isPr with
    | true =>
      rw [hp] at C2
      simp only [if_true]
      have C3 := hid (quote_any ⟨l.toArray⟩ (by show l.toArray.size ≤ _; simp; omega))
      rw [show (⟨l.toArray⟩ : ByteArray).data.toList = l by simp, escL_esc] at C3
      clear hr hl ht hp
      go_enter Tryz.func45, Tryz.ntmps45
      go_wp2_with ((with_reducible refine C1.out.mono ?_); rintro e w1 ⟨rfl, hb1⟩)
      refine (C2.out w1 hb1).mono ?_
      rintro e w2 ⟨rfl, h2⟩
      have h2 := h2.symm
      subst h2
      go_wp2_with fail
      rw [run_back (HR.out w1 hb1)]
      simp only [Result.andThen]
      rw [Oper.upon_value]
      go_wp2_with fail
      refine (C3.out w1).mono ?_
      rintro e w3 ⟨rfl, hb3⟩
      go_wp2_with fail
      go_ret
      exact ⟨rfl, hb1.trans (hb3.mono hb1.size)⟩
    | false =>
      rw [hp] at C2
      simp only [Bool.false_eq_true, if_false]
      by_cases h16 : l.length ≤ 16
      · rw [if_pos h16]
        have h16' : (n : Int) ≤ 16 := by omega
        have C3 : Hid (∀ V, Below w.heap.size w V → Calls Tryz.prog 76 #[.slice A n c] V fun e w' => e = .returned (.string ⟨(hexOf l).toArray⟩) ∧ Below V.heap.size V w') := hid fun V hb => Go.Proofs.YtcojkmcnigppbaaGreatDoor.hex_any A n c l V (HR.out V hb) (by omega)
        have hx := hexOf_length l
        have hq1 : ¬ 9223372036854775807 < 1 + (hexOf l).length := by omega
        have hq2 : ¬ 9223372036854775807 < 1 + (hexOf l).length + 1 := by omega
        clear hr hl ht hp h16 hx
        go_enter Tryz.func45, Tryz.ntmps45
        go_wp2_with ((with_reducible refine C1.out.mono ?_); rintro e w1 ⟨rfl, hb1⟩)
        refine (C2.out w1 hb1).mono ?_
        rintro e w2 ⟨rfl, h2⟩
        have h2 := h2.symm
        subst h2
        go_wp2_with fail
        refine (C3.out w1 hb1).mono ?_
        rintro e w3 ⟨rfl, hb3⟩
        go_wp2_with fail
        go_ret
        refine ⟨?_, hb1.trans (hb3.mono hb1.size)⟩
        exact congrArg (fun x => Ending.returned (.string x)) (join3 35 35 (hexOf l))
      · rw [if_neg h16]
        have h16' : ¬ (n : Int) ≤ 16 := by omega
        have C3 : Hid (∀ V, Below w.heap.size w V → Calls Tryz.prog 27 #[.slice A n c] V fun e w' => e = .returned (.string ⟨(b64 l).toArray⟩) ∧ Below V.heap.size V w') := hid fun V hb => Go.Proofs.YtcojkmcnigppbaaGreatDoor.base64_any A n c l V (HR.out V hb) (by omega) hnc
        have hx := b64_length l
        have hq1 : ¬ 9223372036854775807 < 1 + (b64 l).length := by omega
        have hq2 : ¬ 9223372036854775807 < 1 + (b64 l).length + 1 := by omega
        clear hr hl ht hp h16 hx
        go_enter Tryz.func45, Tryz.ntmps45
        go_wp2_with ((with_reducible refine C1.out.mono ?_); rintro e w1 ⟨rfl, hb1⟩)
        refine (C2.out w1 hb1).mono ?_
        rintro e w2 ⟨rfl, h2⟩
        have h2 := h2.symm
        subst h2
        go_wp2_with fail
        refine (C3.out w1 hb1).mono ?_
        rintro e w3 ⟨rfl, hb3⟩
        go_wp2_with fail
        go_ret
        refine ⟨?_, hb1.trans (hb3.mono hb1.size)⟩
        exact congrArg (fun x => Ending.returned (.string x)) (join3 124 124 (b64 l))
end Go.Proofs.YtcojkmcnigppbaaGreatDoor.Np
end
section
namespace Sx
open Go Oct
theorem esc_le (b : List UInt8) : (esc b).length ≤ 2 * b.length := by
  induction b with
  | nil => simp [esc]
  | cons c r ih =>
    have e : esc (c :: r) = escB c ++ esc r := rfl
    have h : (escB c).length ≤ 2 := by unfold escB; split <;> simp
    rw [e, List.length_append, List.length_cons]
    omega
theorem aBytes_le (b : List UInt8) : (aBytes b).length ≤ 4 * b.length + 2 := by
  unfold aBytes
  have h1 := esc_le b
  have h2 := hexOf_length b
  have h3 := b64_length b
  split
  · omega
  · split
    · simp; omega
    · split
      · simp; omega
      · simp; omega
theorem text_ge (b : List UInt8) : b.length + 2 ≤ (text b).length := by
  have h : 1 ≤ (Lib.decDigits b.length).length := by
    rw [Lib.decDigits]
    split <;> simp
  simp [text]
  omega
mutual
theorem aPrint_le : ∀ t : SX, (aPrint t).length + 4 ≤ 4 * (form t).length
  | .mk l h hi da ks => by
    have hk := aKids_le true ks
    have h1 := aBytes_le hi
    have h2 := aBytes_le da
    have h3 := text_ge hi
    have h4 := text_ge da
    unfold aPrint
    rw [form, gForm]
    cases l
    · cases h
      · simp; omega
      · simp; omega
    · simp; omega
theorem aKids_le : ∀ (first : Bool) (ks : List SX), (gKids aBytes [32] first ks).length + 3 * ks.length ≤ 4 * (formL ks).length
  | first, [] => by simp [gKids, formL]
  | first, k :: r => by
    have h1 := aPrint_le k
    have h2 := aKids_le false r
    unfold aPrint at h1
    rw [gKids, formL]
    cases first
    · simp; omega
    · simp; omega
end
theorem aKids_tail : ∀ ks : List SX, gKids aBytes [32] false ks = Lib.joinTail [32] (ks.map aPrint)
  | [] => by simp [gKids, Lib.joinTail]
  | k :: r => by
    rw [gKids, aKids_tail r]
    simp [Lib.joinTail, aPrint]
theorem aKids_join (ks : List SX) : gKids aBytes [32] true ks = Lib.join (ks.map aPrint) [32] := by
  cases ks with
  | nil => simp [gKids, Lib.join_nil]
  | cons k r =>
    rw [gKids, aKids_tail r, List.map_cons, Lib.join_cons]
    simp [aPrint]
theorem form_kid : ∀ {ks : List SX} {t : SX}, t ∈ ks → (form t).length ≤ (formL ks).length
  | k :: r, t, h => by
    rw [formL, List.length_append]
    rcases List.mem_cons.1 h with rfl | h
    · omega
    · have := form_kid h; omega
theorem kids_le (ks : List SX) : ks.length ≤ (formL ks).length := by
  have := aKids_le true ks
  induction ks with
  | nil => simp
  | cons k r ih =>
    have h1 := aPrint_le k
    have h2 := ih (aKids_le true r)
    rw [formL, List.length_append, List.length_cons]
    omega
theorem aPrint_list (l h : Bool) (hi da : List UInt8) (ks : List SX) : aPrint (.mk l h hi da ks) = if l then 40 :: (Lib.join (ks.map aPrint) [32] ++ [41]) else if h then 91 :: (aBytes hi ++ 93 :: aBytes da) else aBytes da := by
  rw [← aKids_join]
  unfold aPrint
  rw [gForm]
end Sx
end
section
namespace Go.Proofs
open Go.Shelf
def Tryz.lays156_ren : Go.Shelf.Ren := ⟨fun | 156 => 44 | 165 => 71 | 166 => 48 | 169 => 49 | 240 => 78 | 241 => 103 | 276 => 107 | 277 => 121 | n => n, fun | 31 => 69 | 9 => 9 | 3 => 3 | 4 => 4 | 0 => 0 | 20 => 20 | 72 => 74 | 76 => 81 | 70 => 72 | 37 => 22 | 75 => 79 | 127 => 115 | 164 => 129 | 5 => 5 | 80 => 83 | n => n, fun | n => n⟩
theorem Tryz.lays156 : Go.Proofs.Lays.n156 Tryz.prog Tryz.lays156_ren := {
  mixed := by kernel_rfl
  f156 := Tryz.func44.trans (congrArg some (by kernel_rfl))
  f165 := Tryz.func71.trans (congrArg some (by kernel_rfl))
  f166 := Tryz.func48.trans (congrArg some (by kernel_rfl))
  f169 := Tryz.func49.trans (congrArg some (by kernel_rfl))
  f240 := Tryz.func78.trans (congrArg some (by kernel_rfl))
  f241 := Tryz.func103.trans (congrArg some (by kernel_rfl))
  f276 := Tryz.func107.trans (congrArg some (by kernel_rfl))
  f277 := Tryz.func121.trans (congrArg some (by kernel_rfl))
  t0 := Tryz.underlying0
  a0 := Tryz.isAgg0
  z0 := Tryz.sizeOf0
  v0 := Tryz.zeroValue0
  t3 := Tryz.underlying3
  a3 := Tryz.isAgg3
  z3 := Tryz.sizeOf3
  v3 := Tryz.zeroValue3
  t4 := Tryz.underlying4
  a4 := Tryz.isAgg4
  z4 := Tryz.sizeOf4
  v4 := Tryz.zeroValue4
  t9 := Tryz.underlying9
  a9 := Tryz.isAgg9
  z9 := Tryz.sizeOf9
  v9 := Tryz.zeroValue9
  t20 := Tryz.underlying20
  a20 := Tryz.isAgg20
  z20 := Tryz.sizeOf20
  v20 := Tryz.zeroValue20
  t31 := Tryz.underlying69
  a31 := Tryz.isAgg69
  z31 := Tryz.sizeOf69
  v31 := Tryz.zeroValue69
  t37 := Tryz.underlying22
  a37 := Tryz.isAgg22
  z37 := Tryz.sizeOf22
  v37 := Tryz.zeroValue22
  t70 := Tryz.underlying72
  a70 := Tryz.isAgg72
  z70 := Tryz.sizeOf72
  v70 := Tryz.zeroValue72
  t72 := Tryz.underlying74
  a72 := Tryz.isAgg74
  z72 := Tryz.sizeOf74
  v72 := Tryz.zeroValue74
  t75 := Tryz.underlying79
  a75 := Tryz.isAgg79
  z75 := Tryz.sizeOf79
  v75 := Tryz.zeroValue79
  t76 := Tryz.underlying81
  a76 := Tryz.isAgg81
  z76 := Tryz.sizeOf81
  v76 := Tryz.zeroValue81
  t127 := Tryz.underlying115
  a127 := Tryz.isAgg115
  z127 := Tryz.sizeOf115
  v127 := Tryz.zeroValue115
  t164 := Tryz.underlying129
  a164 := Tryz.isAgg129
  z164 := Tryz.sizeOf129
  v164 := Tryz.zeroValue129 }
theorem Tryz.Builder_Extra_156 : Builder.Extra Tryz.prog Tryz.lays156_ren := {
  sizeBuilder := by kernel_rfl
  liesBuilder := by kernel_rfl
  t5 := Tryz.underlying5
  a5 := Tryz.isAgg5
  z5 := Tryz.sizeOf5
  v5 := Tryz.zeroValue5
  infoByte := by kernel_rfl
  cellsByte := by kernel_rfl
  sizeByte := by kernel_rfl
  neB5 := by decide }
open Go.RowKit in
theorem Tryz.strings_Join (bk o c : Nat) (xs : List ByteArray) (sep : ByteArray) (w : World) (hcells : ∀ (j : Nat) x, xs[j]? = some x → w.cell? ⟨bk, o + j, none⟩ = some (.string x)) (hbk : bk < w.heap.size) (hN : xs.length ≤ 140737488355328) (hcap : xs.length ≤ c) (hlen : (Lib.join (xs.map (·.data.toList)) sep.data.toList).length ≤ 140737488355328) :
    Calls Tryz.prog 44 #[.slice (some ⟨bk, o, none⟩) xs.length c, .string sep] w fun e w' => e = .returned (.string ⟨(Lib.join (xs.map (·.data.toList)) sep.data.toList).toArray⟩) ∧ Below w.heap.size w w' := Any.strings_Join Tryz.lays156 Tryz.Builder_Extra_156 bk o c xs sep w hcells hbk hN hcap hlen
end Go.Proofs
end
section
set_option maxRecDepth 100000
namespace Go.Proofs.YtcojkmcnigppbaaGreatDoor.Np
open Go Go.Proofs Go.RowKit Sx Oct Nt
open Sch (wp_R gr_val gr_is gr_fresh gr_nil gr_on gr_onV gr_offV op_callR Rk)
theorem infoS : (Tryz.prog.info? 9).map (fun i => (i.zero, i.size, i.bytes)) = some (some (.string ⟨#[]⟩), 1, 16) := by kernel_rfl
def strsA (L : List ByteArray) : Array Value := (L.map Value.string).toArray
def prt (t : SX) : ByteArray := ⟨(aPrint t).toArray⟩
def rowL (ks : List SX) (k n : Nat) : List ByteArray := (ks.take k).map prt ++ List.replicate (n - k) ⟨#[]⟩
theorem made_strs (n : Nat) : madeCells #[.string ⟨#[]⟩] n = strsA (List.replicate n ⟨#[]⟩) := by
  unfold madeCells strsA
  apply Array.ext
  · simp
  · intro i h1 h2
    simp
    rw [Nat.mod_one]
    rfl
theorem rowL_zero (ks : List SX) (n : Nat) : rowL ks 0 n = List.replicate n ⟨#[]⟩ := by simp [rowL]
theorem rowL_end (ks : List SX) : rowL ks ks.length ks.length = ks.map prt := by simp [rowL]
theorem rowL_length (ks : List SX) (k : Nat) (h : k ≤ ks.length) : (rowL ks k ks.length).length = ks.length := by simp [rowL]; omega
theorem rowL_set (ks : List SX) (k : Nat) (t : SX) (h : ks[k]? = some t) : (strsA (rowL ks k ks.length)).setIfInBounds k (.string (prt t)) = strsA (rowL ks (k + 1) ks.length) := by
  have hk : k < ks.length := (List.getElem?_eq_some_iff.1 h).1
  have ht : ks[k] = t := (List.getElem?_eq_some_iff.1 h).2
  unfold strsA
  rw [List.setIfInBounds_toArray]
  congr 1
  apply List.ext_getElem?
  intro i
  rw [List.getElem?_set]
  simp only [List.length_map, rowL_length ks k (by omega)]
  have hr : (rowL ks k ks.length)[i]? = if i < k then (ks[i]?).map prt else if i < ks.length then some ⟨#[]⟩ else none := by
    unfold rowL
    rw [List.getElem?_append]
    simp only [List.length_map, List.length_take, Nat.min_eq_left (Nat.le_of_lt hk)]
    split
    · rw [List.getElem?_map, List.getElem?_take, if_pos (by assumption)]
    · rw [List.getElem?_replicate]
      by_cases hi : i < ks.length
      · rw [if_pos (by omega), if_pos hi]
      · rw [if_neg (by omega), if_neg hi]
  have hr2 : (rowL ks (k + 1) ks.length)[i]? = if i < k + 1 then (ks[i]?).map prt else if i < ks.length then some ⟨#[]⟩ else none := by
    unfold rowL
    rw [List.getElem?_append]
    simp only [List.length_map, List.length_take, Nat.min_eq_left (show k + 1 ≤ ks.length by omega)]
    split
    · rw [List.getElem?_map, List.getElem?_take, if_pos (by assumption)]
    · rw [List.getElem?_replicate]
      by_cases hi : i < ks.length
      · rw [if_pos (by omega), if_pos hi]
      · rw [if_neg (by omega), if_neg hi]
  rw [List.getElem?_map, List.getElem?_map, hr, hr2]
  by_cases hik : k = i
  · subst hik
    rw [if_pos rfl, if_pos hk, if_pos (by omega), h]
    rfl
  · rw [if_neg hik]
    by_cases h1 : i < k
    · simp only [if_pos h1, if_pos (show i < k + 1 by omega)]
    · simp only [if_neg h1, if_neg (show ¬ i < k + 1 by omega)]
theorem quiet_strAdd {o : Oper} {ev : Operand → Value} {V : World} (x y : Operand) (a b : ByteArray) (hz : a.size + b.size ≤ 1000000000) (hx : ev x = .string a) (hy : ev y = .string b) (ho : o.op = .binOp .add 9 x y 9) : (execOp ev o).run Tryz.prog V = .ok (.value (.string (a ++ b))) V := by
  have hq : ¬ 9223372036854775807 < a.size + b.size := by omega
  unfold execOp
  simp only [ho, hx, hy]
  go_simp
theorem fs0 (g : Nat) (W : World) : (Instr.fieldAt 25 (.pointer (some ⟨g, 0, none⟩)) 2).run Tryz.prog W = .ok (.pointer (some ⟨g, 2, none⟩)) W := by go_simp
theorem fs3 (g : Nat) (W : World) : (Instr.fieldAt 25 (.pointer (some ⟨g, 0, none⟩)) 3).run Tryz.prog W = .ok (.pointer (some ⟨g, 3, none⟩)) W := by go_simp
def AdvSpec (t : SX) : Prop := ∀ (w : World) (S : Nat → Prop) (cs : List Value), SIn w S t cs → (form t).length ≤ 4096 →
  Calls Tryz.prog 25 #[.agg cs.toArray] w fun e w' => e = .returned (.string (prt t)) ∧ Below w.heap.size w w'
set_option maxHeartbeats 8000000 in
theorem advP_any (t : SX) : AdvSpec t := by
  induction t using SX.ind with
  | H l h hi da ks ih =>
    intro w S cs hs hM
    obtain ⟨_, _, _, _, _, A1, n1, c1, A2, n2, c2, A3, n3, c3, e, rfl⟩ := hs.form_
    cases e
    have hs' := hs.size_
    cases hs' with
    | @mk _ _ _ _ _ _ _ _ _ _ _ _ _ _ xs r1 b1 r2 b2 r3 b3 hk hks =>
    have IH := hid ih
    have hb0 := below_new w (.cells #[Value.bool l, Value.bool h, Value.slice A1 n1 c1, Value.slice A2 n2 c2, Value.slice A3 n3 c3] 25)
    have X1 : Box (w.alloc (.cells #[Value.bool l, Value.bool h, Value.slice A1 n1 c1, Value.slice A2 n2 c2, Value.slice A3 n3 c3] 25)) w.heap.size (.bool l) (.bool h) (.slice A1 n1 c1) (.slice A2 n2 c2) (.slice A3 n3 c3) := heap_alloc_new w _
    have hz0 : (w.alloc (.cells #[Value.bool l, Value.bool h, Value.slice A1 n1 c1, Value.slice A2 n2 c2, Value.slice A3 n3 c3] 25)).heap.size = w.heap.size + 1 := by simp
    have hPR : prt (.mk l h hi da ks) = ⟨(if l then 40 :: (Lib.join (ks.map aPrint) [32] ++ [41]) else if h then 91 :: (aBytes hi ++ 93 :: aBytes da) else aBytes da).toArray⟩ := by unfold prt; rw [aPrint_list]
    rw [form] at hM
    have hl1 : hi.length = n1 := by have := r1.1; simpa [Lib.byteCells_length] using this
    have hl2 : da.length = n2 := by have := r2.1; simpa [Lib.byteCells_length] using this
    have ht1 := text_ge hi
    have ht2 := text_ge da
    have hkl := aKids_le true ks
    have hkn := kids_le ks
    cases l with
    | true =>
      simp only [if_true] at hPR hM
      have hM2 : (formL ks).length + 2 ≤ 4096 := by simpa using hM
      rw [hPR]
      have hn3 : n3 ≤ 4096 := by omega
      have HK := hid hk
      have HKS := hid hks
      have R3 := hid r3
      have HF : Hid (∀ t, t ∈ ks → (form t).length ≤ 4096) := hid fun t ht => by have := form_kid ht; omega
      have hjl : (Lib.join (ks.map aPrint) [32]).length ≤ 20000 := by rw [← aKids_join]; omega
      obtain ⟨iS, hiS, hzS0, hzS1, hzS2⟩ := info_parts infoS
      have HIS := hid hiS
      clear hs r1 r2 r3 hks ih hM hPR ht1 ht2 hkl hkn hk hiS
      go_enter Tryz.func25, Tryz.ntmps25
      go_wp2_with (at_make; refine wpList_make_row _ rfl _ _ 69 rfl 9 iS (.string ⟨#[]⟩) Tryz.underlying69 HIS.out hzS0 hzS1 rfl .i64 .i64 n3 rfl rfl (by rw [hzS2]; omega) (by omega) ?_)
      rw [made_strs]
      have hnew : Blk ((w.alloc (.cells #[Value.bool true, Value.bool h, Value.slice A1 n1 c1, Value.slice A2 n2 c2, Value.slice A3 n3 c3] 25)).alloc (.cells (strsA (List.replicate n3 ⟨#[]⟩)) 9)) (w.heap.size + 1) 9 (strsA (List.replicate n3 ⟨#[]⟩)) := by
        have := heap_alloc_new (w.alloc (.cells #[Value.bool true, Value.bool h, Value.slice A1 n1 c1, Value.slice A2 n2 c2, Value.slice A3 n3 c3] 25)) (.cells (strsA (List.replicate n3 ⟨#[]⟩)) 9)
        rw [hz0] at this
        exact this
      have hb1 := hb0.trans ((below_new (w.alloc (.cells #[Value.bool true, Value.bool h, Value.slice A1 n1 c1, Value.slice A2 n2 c2, Value.slice A3 n3 c3] 25)) (.cells (strsA (List.replicate n3 ⟨#[]⟩)) 9)).mono hb0.size)
      generalize (w.alloc (.cells #[Value.bool true, Value.bool h, Value.slice A1 n1 c1, Value.slice A2 n2 c2, Value.slice A3 n3 c3] 25)).alloc (.cells (strsA (List.replicate n3 ⟨#[]⟩)) 9) = W at *
      clear X1 hz0 hb0
      have HNEW : Hid (Blk W (w.heap.size + 1) 9 (strsA (rowL ks 0 ks.length))) := hid (by rw [rowL_zero, HK.out]; exact hnew)
      clear hnew
      go_loopg [16] n3 (fun gg i wr => ∃ k : Nat, gg + k = n3 ∧ i = .int .i64 (k : Nat) ∧ Below w.heap.size w wr ∧ Hid (Blk wr (w.heap.size + 1) 9 (strsA (rowL ks k ks.length))))
      case atStart => exact ⟨0, rfl, rfl, hb1, HNEW⟩
      case round =>
        obtain ⟨k, hgk, rfl, hbr, hB⟩ := hrel
        clear HNEW hb1
        by_cases hlt : k < n3
        · have hlt' : (k : Int) < n3 := by omega
          have hkl : k < ks.length := by rw [HK.out]; exact hlt
          obtain ⟨t, ht⟩ : ∃ t, t = ks[k] := ⟨_, rfl⟩
          have hks : Hid (ks[k]? = some t) := hid (by rw [ht]; exact List.getElem?_eq_getElem hkl)
          have hM := hid (show t ∈ ks by rw [ht]; exact List.getElem_mem hkl)
          have hri := R3.out.keep (w' := wr) fun q hq => hbr.cell hq.2
          have hin := (HKS.out k t hks.out).keep (w' := wr) fun q hq => hbr.cell hq.2
          obtain ⟨ad, v0, v1, v2, v3, v4, hA3, hS, hcs, d0, d1, d2, d3, d4⟩ := hri.at5 hlt
          subst hA3
          rw [hcs] at hin
          have hsz := hbr.size
          have hbn := below_new wr (.cells #[v0, v1, v2, v3, v4] 25)
          have CA := hid (IH.out t hM.out _ _ _ (hin.old hbn) (HF.out t hM.out))
          obtain ⟨l', h', _, _, _, B1, m1, j1, B2, m2, j2, B3, m3, j3, eT, eE⟩ := hin.form_
          clear eT
          injection eE with eE0 eE; injection eE with eE1 eE; injection eE with eE2 eE; injection eE with eE3 eE; injection eE with eE4 eE
          subst eE0 eE1 eE2 eE3 eE4
          clear ht hkl hri hcs hin hbn
          go_wp2_with fail
          refine CA.out.mono ?_
          rintro e w5 ⟨rfl, hb5⟩
          have hbn := below_new wr (.cells #[.bool l', .bool h', .slice B1 m1 j1, .slice B2 m2 j2, .slice B3 m3 j3] 25)
          have hb6 := hbr.trans ((hbn.trans (hb5.mono hbn.size)).mono hsz)
          have hBa := (hB.out.alloc _).old hb5
          obtain ⟨x, hx⟩ : ∃ x, (strsA (rowL ks k ks.length))[k]? = some (.string x) := by
            have hlk : k < (rowL ks k ks.length).length := by rw [rowL_length ks k (by rw [HK.out]; omega), HK.out]; exact hlt
            refine ⟨(rowL ks k ks.length)[k], ?_⟩
            unfold strsA
            simp [List.getElem?_eq_getElem hlk]
          have hst := (hBa.cell k).trans hx
          have hfz := hBa.frozen k
          have hBn : Hid (Blk (w5.setCell ⟨w.heap.size + 1, k, none⟩ (.string (prt t))) (w.heap.size + 1) 9 (strsA (rowL ks (k + 1) ks.length))) := hid (by
            rw [← rowL_set ks k t hks.out]
            exact hBa.set_ k _)
          have hb7 := hid (hb6.setCell (p := ⟨w.heap.size + 1, k, none⟩) (Nat.le_succ _) (.string (prt t)))
          have hwp : IntKind.i64.wrap ((k : Int) + 1) = ((k + 1 : Nat) : Int) := by rw [IntWalk.i64_in _ (by omega)]; rfl
          clear hx hBa hbn hb6 hB hbr hb5 CA
          go_wp2_with fail
          go_roundg (gk - 1)
          case measure => omega
          case rel => exact ⟨k + 1, by omega, rfl, hb7.out, hBn⟩
        · have hk3 : k = n3 := by omega
          subst hk3
          have hBe : Blk wr (w.heap.size + 1) 9 (strsA (ks.map prt)) := by
            have := hB.out
            rw [← HK.out] at this
            rwa [rowL_end] at this
          have hlen : (ks.map prt).length = k := by rw [List.length_map, HK.out]
          have hmm : (ks.map prt).map (·.data.toList) = ks.map aPrint := by rw [List.map_map]; rfl
          have CJ := Tryz.strings_Join (w.heap.size + 1) 0 k (ks.map prt) ⟨#[32]⟩ wr (fun j x hj => by
            rw [Nat.zero_add]
            refine (hBe.cell j).trans ?_
            unfold strsA
            simp only [List.getElem?_toArray, List.getElem?_map] at hj ⊢
            cases hkj : ks[j]? with
            | none => rw [hkj] at hj; cases hj
            | some y => rw [hkj] at hj; simp at hj; simp [hj]) hBe.lt (by omega) (by omega) (by rw [hmm]; show (Lib.join (ks.map aPrint) [32]).length ≤ _; omega)
          rw [hlen, hmm] at CJ
          have CJ : Calls Tryz.prog 44 #[.slice (some ⟨w.heap.size + 1, 0, none⟩) k k, .string ⟨#[32]⟩] wr fun e w' => e = .returned (.string ⟨(Lib.join (ks.map aPrint) [32]).toArray⟩) ∧ Below wr.heap.size wr w' := CJ
          have CJ := hid CJ
          have hq1 : ¬ 9223372036854775807 < 1 + (Lib.join (ks.map aPrint) [32]).length := by omega
          have hq2 : ¬ 9223372036854775807 < 1 + (Lib.join (ks.map aPrint) [32]).length + 1 := by omega
          have hlt' : ¬ (k : Int) < k := by omega
          clear hBe hB hmm
          go_wp2_with fail
          refine CJ.out.mono ?_
          rintro e w6 ⟨rfl, hb6⟩
          go_wp2_with fail
          go_ret
          exact ⟨congrArg (fun x => Ending.returned (.string x)) (join3 40 41 (Lib.join (ks.map aPrint) [32])), hbr.trans (hb6.mono hbr.size)⟩
    | false =>
      simp only [Bool.false_eq_true, if_false] at hPR hM
      have C2 : Hid (∀ V, Below w.heap.size w V → Calls Tryz.prog 45 #[.slice A2 n2 c2] V fun e w' => e = .returned (.string ⟨(aBytes da).toArray⟩) ∧ Below V.heap.size V w') := hid fun V hb => plainP_any A2 n2 c2 da V ((r2.keep fun q hq => hb.cell hq.2).more (S' := fun b => b < V.heap.size) fun b hb2 => Nat.lt_of_lt_of_le hb2.2 hb.size) (by simp at hM; omega) b2.1
      cases h with
      | false =>
        simp only [Bool.false_eq_true, if_false] at hPR hM
        rw [hPR]
        clear hs r1 r2 r3 hks ih hM hPR ht1 ht2 hkl hkn
        go_enter Tryz.func25, Tryz.ntmps25
        go_wp2_with fail
        refine (C2.out _ hb0).mono ?_
        rintro e w1 ⟨rfl, hb1⟩
        go_wp2_with fail
        go_ret
        exact ⟨rfl, hb0.trans (hb1.mono hb0.size)⟩
      | true =>
        simp only [if_true] at hPR hM
        have C1 : Hid (∀ V, Below w.heap.size w V → Calls Tryz.prog 45 #[.slice A1 n1 c1] V fun e w' => e = .returned (.string ⟨(aBytes hi).toArray⟩) ∧ Below V.heap.size V w') := hid fun V hb => plainP_any A1 n1 c1 hi V ((r1.keep fun q hq => hb.cell hq.2).more (S' := fun b => b < V.heap.size) fun b hb2 => Nat.lt_of_lt_of_le hb2.2 hb.size) (by simp at hM; omega) b1.1
        have hz1 : (aBytes hi).length ≤ 20000 := by have := aBytes_le hi; simp at hM; omega
        have hz2 : (aBytes da).length ≤ 20000 := by have := aBytes_le da; simp at hM; omega
        obtain ⟨sH, hsH⟩ : ∃ sH, Hid (sH = (⟨(aBytes hi).toArray⟩ : ByteArray)) := ⟨_, hid rfl⟩
        obtain ⟨sD, hsD⟩ : ∃ sD, Hid (sD = (⟨(aBytes da).toArray⟩ : ByteArray)) := ⟨_, hid rfl⟩
        rw [← hsH.out] at C1
        rw [← hsD.out] at C2
        have hzH : sH.size ≤ 20000 := by rw [hsH.out]; show (aBytes hi).toArray.size ≤ _; simpa using hz1
        have hzD : sD.size ≤ 20000 := by rw [hsD.out]; show (aBytes da).toArray.size ≤ _; simpa using hz2
        have HP : Hid (prt (.mk false true hi da ks) = ⟨#[91]⟩ ++ sH ++ ⟨#[93]⟩ ++ sD) := hid (by
          rw [hPR, hsH.out, hsD.out]
          apply ByteArray.ext
          simp)
        rw [HP.out]
        replace hb0 := hid hb0
        replace X1 := hid X1
        clear hs r1 r2 r3 hks ih hM hPR ht1 ht2 hkl hkn hz1 hz2 HP hsH hsD
        go_enter Tryz.func25, Tryz.ntmps25
        go_upto_region 10 with fail
        (try simp only [Act.put, zA, zB, zC])
        refine wp_R [34, 35, 36, 37, 38, 39, 40, 41, 42, 2] [Rk.val (.pointer (some ⟨w.heap.size, 2, none⟩)), Rk.val (.slice A1 n1 c1), Rk.val (.string sH), Rk.val (.string ((⟨#[91]⟩ : ByteArray) ++ sH)), Rk.val (.string ((⟨#[91]⟩ : ByteArray) ++ sH ++ (⟨#[93]⟩ : ByteArray))), Rk.val (.pointer (some ⟨w.heap.size, 3, none⟩)), Rk.val (.slice A2 n2 c2), Rk.val (.string sD), Rk.val (.string ((⟨#[91]⟩ : ByteArray) ++ sH ++ (⟨#[93]⟩ : ByteArray) ++ sD)), Rk.val (.string ((⟨#[91]⟩ : ByteArray) ++ sH ++ (⟨#[93]⟩ : ByteArray) ++ sD))] rfl (by kernel_rfl) (by kernel_rfl) (by kernel_rfl) (by kernel_rfl) ?hg1 _ (by rfl) ?hf1
        case hg1 =>
          refine gr_val rfl (by kernel_rfl) (fun a V H K Q hK => op_quiet (quiet_field _ (.tmp 1) 2 _ _ (H.old 1 (by kernel_rfl) (by kernel_rfl)) (fs0 _) (by kernel_rfl)) hK) ?_
          refine gr_val rfl (by kernel_rfl) (fun a V H K Q hK => op_quiet (quiet_cell 22 (.tmp 34) _ (H.rel 0 34 (by kernel_rfl) (by kernel_rfl) rfl) Tryz.underlying22 rfl ((X1.out.old H.frame).all.1.2.2.1) (by kernel_rfl)) hK) ?_
          refine gr_val rfl (by kernel_rfl) (fun a V H K Q hK => op_callK #[.tmp 35] #[.slice A1 n1 c1] (by kernel_rfl) (by kernel_rfl) (by kernel_rfl) (map1 (H.rel 1 35 (by kernel_rfl) (by kernel_rfl) rfl)) (C1.out V (hb0.out.trans (H.frame.mono hb0.out.size))) (by kernel_rfl) hK) ?_
          refine gr_val rfl (by kernel_rfl) (fun a V H K Q hK => op_quiet (quiet_strAdd (.const (.string (⟨#[91]⟩ : ByteArray))) (.tmp 36) ((⟨#[91]⟩ : ByteArray)) (sH) (by have h1 : (⟨#[91]⟩ : ByteArray).size = 1 := rfl; have h2 : (⟨#[93]⟩ : ByteArray).size = 1 := rfl; (try simp only [ByteArray.size_append]); omega) rfl (H.rel 2 36 (by kernel_rfl) (by kernel_rfl) rfl) (by kernel_rfl)) hK) ?_
          refine gr_val rfl (by kernel_rfl) (fun a V H K Q hK => op_quiet (quiet_strAdd (.tmp 37) (.const (.string (⟨#[93]⟩ : ByteArray))) ((⟨#[91]⟩ : ByteArray) ++ sH) ((⟨#[93]⟩ : ByteArray)) (by have h1 : (⟨#[91]⟩ : ByteArray).size = 1 := rfl; have h2 : (⟨#[93]⟩ : ByteArray).size = 1 := rfl; (try simp only [ByteArray.size_append]); omega) (H.rel 3 37 (by kernel_rfl) (by kernel_rfl) rfl) rfl (by kernel_rfl)) hK) ?_
          refine gr_val rfl (by kernel_rfl) (fun a V H K Q hK => op_quiet (quiet_field _ (.tmp 1) 3 _ _ (H.old 1 (by kernel_rfl) (by kernel_rfl)) (fs3 _) (by kernel_rfl)) hK) ?_
          refine gr_val rfl (by kernel_rfl) (fun a V H K Q hK => op_quiet (quiet_cell 22 (.tmp 39) _ (H.rel 5 39 (by kernel_rfl) (by kernel_rfl) rfl) Tryz.underlying22 rfl ((X1.out.old H.frame).all.1.2.2.2.1) (by kernel_rfl)) hK) ?_
          refine gr_val rfl (by kernel_rfl) (fun a V H K Q hK => op_callK #[.tmp 40] #[.slice A2 n2 c2] (by kernel_rfl) (by kernel_rfl) (by kernel_rfl) (map1 (H.rel 6 40 (by kernel_rfl) (by kernel_rfl) rfl)) (C2.out V (hb0.out.trans (H.frame.mono hb0.out.size))) (by kernel_rfl) hK) ?_
          refine gr_val rfl (by kernel_rfl) (fun a V H K Q hK => op_quiet (quiet_strAdd (.tmp 38) (.tmp 41) ((⟨#[91]⟩ : ByteArray) ++ sH ++ (⟨#[93]⟩ : ByteArray)) (sD) (by have h1 : (⟨#[91]⟩ : ByteArray).size = 1 := rfl; have h2 : (⟨#[93]⟩ : ByteArray).size = 1 := rfl; (try simp only [ByteArray.size_append]); omega) (H.rel 4 38 (by kernel_rfl) (by kernel_rfl) rfl) (H.rel 7 41 (by kernel_rfl) (by kernel_rfl) rfl) (by kernel_rfl)) hK) ?_
          refine gr_val rfl (by kernel_rfl) (fun a V H K Q hK => op_quiet (quiet_move (.tmp 42) (H.rel 8 42 (by kernel_rfl) (by kernel_rfl) rfl) (.inr (by kernel_rfl))) hK) ?_
          exact gr_nil
        case hf1 =>
        intro x_ V hF
        have e0 : x_ 0 = .pointer (some ⟨w.heap.size, 2, none⟩) := hF.rel 0 _ rfl
        have e1 : x_ 1 = .slice A1 n1 c1 := hF.rel 1 _ rfl
        have e2 : x_ 2 = .string sH := hF.rel 2 _ rfl
        have e3 : x_ 3 = .string ((⟨#[91]⟩ : ByteArray) ++ sH) := hF.rel 3 _ rfl
        have e4 : x_ 4 = .string ((⟨#[91]⟩ : ByteArray) ++ sH ++ (⟨#[93]⟩ : ByteArray)) := hF.rel 4 _ rfl
        have e5 : x_ 5 = .pointer (some ⟨w.heap.size, 3, none⟩) := hF.rel 5 _ rfl
        have e6 : x_ 6 = .slice A2 n2 c2 := hF.rel 6 _ rfl
        have e7 : x_ 7 = .string sD := hF.rel 7 _ rfl
        have e8 : x_ 8 = .string ((⟨#[91]⟩ : ByteArray) ++ sH ++ (⟨#[93]⟩ : ByteArray) ++ sD) := hF.rel 8 _ rfl
        have e9 : x_ 9 = .string ((⟨#[91]⟩ : ByteArray) ++ sH ++ (⟨#[93]⟩ : ByteArray) ++ sD) := hF.rel 9 _ rfl
        have hbf := hF.frame
        clear hF
        simp only [Sch.finL, zA, zB, zC, e0, e1, e2, e3, e4, e5, e6, e7, e8, e9]
        clear e0 e1 e2 e3 e4 e5 e6 e7 e8 e9
        refine tail_nil ?_
        go_wp2_with fail
        go_ret
        exact ⟨rfl, hb0.out.trans (hbf.mono hb0.out.size)⟩
end Go.Proofs.YtcojkmcnigppbaaGreatDoor.Np
end
section
set_option maxRecDepth 100000
namespace Go.Proofs.YtcojkmcnigppbaaGreatDoor.Np
open Go Go.Proofs Go.RowKit Sx Oct Nt
set_option maxHeartbeats 4000000 in
theorem print_any (t : SX) (w : World) (S : Nat → Prop) (cs : List Value) (hs : SIn w S t cs) (ht : Tab w) :
    Calls Tryz.prog 11 #[.agg cs.toArray] w fun e w' => e = .returned (if may t then .tuple #[.string (prt t), .int .i64 0] else .tuple #[.string ⟨#[]⟩, .int .i64 4]) ∧ Below w.heap.size w w' := by
  obtain ⟨l, h, hi, da, ks, A1, n1, c1, A2, n2, c2, A3, n3, c3, eT, rfl⟩ := hs.form_
  clear eT
  have hb0 := below_new w (.cells #[Value.bool l, Value.bool h, Value.slice A1 n1 c1, Value.slice A2 n2 c2, Value.slice A3 n3 c3] 25)
  have X1 : Box (w.alloc (.cells #[Value.bool l, Value.bool h, Value.slice A1 n1 c1, Value.slice A2 n2 c2, Value.slice A3 n3 c3] 25)) w.heap.size (.bool l) (.bool h) (.slice A1 n1 c1) (.slice A2 n2 c2) (.slice A3 n3 c3) := heap_alloc_new w _
  have C1 := hid (may_any t _ S _ (hs.old hb0) (ht.old hb0))
  have C2 : Hid (may t = true → ∀ W, Below w.heap.size w W → Calls Tryz.prog 25 #[.agg #[Value.bool l, Value.bool h, Value.slice A1 n1 c1, Value.slice A2 n2 c2, Value.slice A3 n3 c3]] W fun e w' => e = .returned (.string (prt t)) ∧ Below W.heap.size W w') := hid fun hm W hW =>
    advP_any t W _ _ (hs.old hW) (by unfold may at hm; simp at hm; exact hm.2)
  have HB0 := hid hb0
  have X1 := hid X1
  clear hs ht hb0
  cases hm : may t with
  | true =>
    rw [hm] at C1
    simp only [if_true]
    have C2 := hid (C2.out hm)
    clear hm
    go_enter Tryz.func11, Tryz.ntmps11
    go_wp2_with fail
    refine C1.out.mono ?_
    rintro e w1 ⟨rfl, hb1⟩
    have hbb := HB0.out.trans (hb1.mono HB0.out.size)
    obtain ⟨⟨d0, d1, d2, d3, d4⟩, -⟩ := (X1.out.old hb1).all
    go_wp2_with fail
    refine (C2.out w1 hbb).mono ?_
    rintro e w2 ⟨rfl, hb2⟩
    go_wp2_with fail
    go_ret2
    exact ⟨rfl, hbb.trans (hb2.mono hbb.size)⟩
  | false =>
    rw [hm] at C1
    simp only [Bool.false_eq_true, if_false]
    clear hm C2
    go_enter Tryz.func11, Tryz.ntmps11
    go_wp2_with fail
    refine C1.out.mono ?_
    rintro e w1 ⟨rfl, hb1⟩
    go_wp2_with fail
    go_ret2
    exact ⟨rfl, HB0.out.trans (hb1.mono HB0.out.size)⟩
end Go.Proofs.YtcojkmcnigppbaaGreatDoor.Np
end
section
set_option maxRecDepth 100000
namespace Go.Proofs.YtcojkmcnigppbaaGreatDoor
open Go Go.Proofs Go.RowKit Sx Oct Nt Np
def exL : List UInt8 := [40, 97, 32, 34, 98, 32, 99, 34, 32, 35, 102, 102, 35, 41]
def exT : SX := .mk true false [] [] [.mk false false [] [97] [], .mk false false [] [98, 32, 99] [], .mk false false [] [255] []]
theorem ex_may : may exT = true := by decide +kernel
theorem ex_print : aPrint exT = exL := by decide +kernel
theorem ex_read : aRead exL = (exT, 0, 0) := by
  have h := aRead_print ex_may (b1 := []) (b2 := []) (by simp) (by simp) (by rw [ex_print]; decide)
  rw [ex_print] at h
  simpa using h
set_option maxHeartbeats 4000000 in
theorem awake3_any (w : World) (ht : Tab w) : Calls Tryz.prog 10 #[] w fun e w' => e = .returned (.bool true) ∧ Below w.heap.size w w' := by
  have C := Read_any ⟨#[40, 97, 32, 34, 98, 32, 99, 34, 32, 35, 102, 102, 35, 41]⟩ w ht
  rw [show (⟨#[40, 97, 32, 34, 98, 32, 99, 34, 32, 35, 102, 102, 35, 41]⟩ : ByteArray).data.toList = exL from rfl, ex_read] at C
  have C := hid C
  have HT := hid (fun W hb => ht.old (w' := W) hb)
  have HP : Hid (prt exT = ⟨#[40, 97, 32, 34, 98, 32, 99, 34, 32, 35, 102, 102, 35, 41]⟩) := hid (by unfold prt; rw [ex_print]; rfl)
  go_enter Tryz.func10, Tryz.ntmps10
  go_wp2_with fail
  refine C.out.mono ?_
  rintro e w1 ⟨v0, v1, v2, v3, v4, rfl, hin, hb1⟩
  obtain ⟨l', h', hi', da', ks', B1, m1, j1, B2, m2, j2, B3, m3, j3, eZ, eE⟩ := hin.form_
  injection eE with eE0 eE; injection eE with eE1 eE; injection eE with eE2 eE; injection eE with eE3 eE; injection eE with eE4 eE
  subst eE0 eE1 eE2 eE3 eE4
  clear eE eZ
  have X0 : Box (w1.alloc (.cells #[.bool false, .bool false, .slice none 0 0, .slice none 0 0, .slice none 0 0] 25)) w1.heap.size (.bool false) (.bool false) (.slice none 0 0) (.slice none 0 0) (.slice none 0 0) := heap_alloc_new w1 _
  obtain ⟨⟨d0, d1, d2, d3, d4⟩, dz⟩ := X0.all
  have dz0 := dz 0
  have dz1 := dz 1
  have dz2 := dz 2
  have dz3 := dz 3
  have dz4 := dz 4
  have hbx := below_new w1 (.cells #[.bool l', .bool h', .slice B1 m1 j1, .slice B2 m2 j2, .slice B3 m3 j3] 25)
  have hbF := hb1.trans (hbx.mono hb1.size)
  have XB : Box (w1.alloc (.cells #[.bool l', .bool h', .slice B1 m1 j1, .slice B2 m2 j2, .slice B3 m3 j3] 25)) w1.heap.size (.bool l') (.bool h') (.slice B1 m1 j1) (.slice B2 m2 j2) (.slice B3 m3 j3) := heap_alloc_new w1 _
  obtain ⟨e0, e1, e2, e3, e4⟩ := XB.all.1
  have D := print_any exT _ _ _ (hin.old hbx) (HT.out _ hbF)
  rw [ex_may, if_pos rfl, HP.out] at D
  have D := hid D
  clear dz X0 XB hin
  go_wp2_with fail
  refine D.out.mono ?_
  rintro e w2 ⟨rfl, hb2⟩
  go_wp2_with fail
  go_ret
  exact ⟨rfl, hbF.trans (hb2.mono hbF.size)⟩
end Go.Proofs.YtcojkmcnigppbaaGreatDoor
end
section
namespace Go.Proofs.YtcojkmcnigppbaaGreatDoor
open Go Go.Proofs Go.RowKit Sx
theorem sin_zero (w : World) (S : Nat → Prop) : SIn w S zeroS [.bool false, .bool false, .slice none 0 0, .slice none 0 0, .slice none 0 0] :=
  .mk (xs := []) RIn.none_ ⟨Nat.le_refl _, by omega⟩ RIn.none_ ⟨Nat.le_refl _, by omega⟩ RIn.none_ ⟨Nat.le_refl _, by omega⟩ rfl (fun i t hit => by simp at hit)
end Go.Proofs.YtcojkmcnigppbaaGreatDoor
end
section
namespace Go.Proofs.YtcojkmcnigppbaaGreatDoor
open Go Go.Proofs Go.RowKit Sx Oct
def RGetEnd (w : World) (e : Ending) (w' : World) (x : SX × Nat × Nat) : Prop :=
  ∃ v0 v1 v2 v3 v4, e = .returned (.tuple #[.agg #[v0, v1, v2, v3, v4], .int .i64 x.2.1, .int .i64 x.2.2]) ∧ SIn w' (fun _ => True) x.1 [v0, v1, v2, v3, v4] ∧ Below w.heap.size w w'
def REnd (S : Nat → Prop) (w : World) (e : Ending) (w' : World) (x : SX × Nat × Nat) : Prop :=
  ∃ v0 v1 v2 v3 v4, e = .returned (.tuple #[.agg #[v0, v1, v2, v3, v4], .int .i64 x.2.1, .int .i64 x.2.2]) ∧ SIn w' S x.1 [v0, v1, v2, v3, v4] ∧ Below w.heap.size w w'
theorem REnd.all {S : Nat → Prop} {w w' : World} {e : Ending} {x : SX × Nat × Nat} (h : REnd S w e w' x) : RGetEnd w e w' x := by
  obtain ⟨v0, v1, v2, v3, v4, he, hs, hb⟩ := h
  exact ⟨v0, v1, v2, v3, v4, he, hs.more fun _ _ => trivial, hb⟩
set_option maxHeartbeats 4000000 in
set_option maxRecDepth 100000 in
theorem refGet_lo (A : Option Addr) (n c : Nat) (b : List UInt8) (L : Nat) (w : World) (hr : Reads w w.heap.size 1 A n (Lib.byteCells b)) (hLo : ∀ ad, A = some ad → L ≤ ad.block) (hc : n ≤ c) :
    Calls Tryz.prog 40 #[.slice A n c] w fun e w' => REnd (fun k => (L ≤ k ∧ k < w.heap.size) ∨ w.heap.size ≤ k) w e w' (pGet b) := by
  have hl : b.length = n := by have := hr.1; simpa [Lib.byteCells_length] using this
  by_cases h4 : 4096 < n
  · have hpg : pGet b = (zeroS, 4096, 4) := by unfold pGet; rw [if_pos (by omega)]
    rw [hpg]
    have h4' : (4096 : Int) < n := by omega
    clear hr hl hpg
    go_enter Tryz.func40, Tryz.ntmps40
    have X0 : Box (w.alloc (.cells #[.bool false, .bool false, .slice none 0 0, .slice none 0 0, .slice none 0 0] 25)) w.heap.size (.bool false) (.bool false) (.slice none 0 0) (.slice none 0 0) (.slice none 0 0) := heap_alloc_new w _
    obtain ⟨⟨d0, d1, d2, d3, d4⟩, dz⟩ := X0.all
    have dz0 := dz 0
    have dz1 := dz 1
    have dz2 := dz 2
    have dz3 := dz 3
    have dz4 := dz 4
    clear dz X0
    go_wp2_with fail
    exact bodyPost_ret (v := .tuple #[.agg #[.bool false, .bool false, .slice none 0 0, .slice none 0 0, .slice none 0 0], .int .i64 4096, .int .i64 4]) (by simp [results, Tryz.results40, go_sem, d0, d1, d2, d3, d4]) rfl ⟨_, _, _, _, _, rfl, sin_zero _ _, below_new _ _⟩
  · have h4' : ¬ (4096 : Int) < n := by omega
    have hn : n ≤ 5000 := by omega
    have C := refValue_all (2 * b.length + 1) A n c 0 0 0 b L w.heap.size (w.alloc (.cells #[.bool false, .bool false, .slice none 0 0, .slice none 0 0, .slice none 0 0] 25)) (hr.keep fun q hq => (below_new w _).cell hq) hLo (by simp) hn hc (by omega) (by omega) (by omega) (by omega)
    rw [List.drop_zero] at C
    have hpg : pGet b = match pVal (2 * b.length + 1) b 0 0 with
        | .err e r => (zeroS, b.length - r.length, e)
        | .ok (t, _) r => match r with
          | [] => (t, 0, 0)
          | _ :: _ => (zeroS, b.length - r.length, 5) := by
      unfold pGet; rw [if_neg (by omega)]; rfl
    rw [hpg]
    have hb0 := below_new w (.cells #[.bool false, .bool false, .slice none 0 0, .slice none 0 0, .slice none 0 0] 25)
    have hz0 : (w.alloc (.cells #[.bool false, .bool false, .slice none 0 0, .slice none 0 0, .slice none 0 0] 25)).heap.size = w.heap.size + 1 := by simp
    have HX := hid (show Box (w.alloc (.cells #[.bool false, .bool false, .slice none 0 0, .slice none 0 0, .slice none 0 0] 25)) w.heap.size (.bool false) (.bool false) (.slice none 0 0) (.slice none 0 0) (.slice none 0 0) from heap_alloc_new w _)
    clear hr hpg
    cases hv : pVal (2 * b.length + 1) b 0 0 with
    | err k r =>
      rw [hv] at C
      have C := hid C
      show Calls Tryz.prog _ _ _ (fun e w' => REnd (fun k => (L ≤ k ∧ k < w.heap.size) ∨ w.heap.size ≤ k) w e w' (zeroS, b.length - r.length, k))
      rw [hl]
      clear hv
      go_enter Tryz.func40, Tryz.ntmps40
      go_wp2_with fail
      refine C.out.mono ?_
      rintro e w3 ⟨hk1, hk2, rfl, hb3⟩
      have hk0 : ¬ ((k : Int) = 0) := by omega
      have X0 : Box8 (w3.alloc (.cells #[.bool false, .bool false, .slice none 0 0, .slice none 0 0, .slice none 0 0, .int .i64 0, .int .i64 0, .int .i64 0] 55)) w3.heap.size (.bool false) (.bool false) (.slice none 0 0) (.slice none 0 0) (.slice none 0 0) (.int .i64 0) (.int .i64 0) (.int .i64 0) := heap_alloc_new w3 _
      obtain ⟨⟨d0, d1, d2, d3, d4, d5, d6, d7⟩, dz⟩ := X0.all
      have dz0 := dz 0
      have dz1 := dz 1
      have dz2 := dz 2
      have dz3 := dz 3
      have dz4 := dz 4
      have dz5 := dz 5
      have dz6 := dz 6
      have dz7 := dz 7
      have hbx := below_new w3 (.cells #[.bool false, .bool false, .slice none 0 0, .slice none 0 0, .slice none 0 0, .int .i64 (n - r.length : Nat), .int .i64 0, .int .i64 k] 55)
      have hw3 := hb0.trans (hb3.mono hb0.size)
      have hw4 := hw3.trans (hbx.mono hw3.size)
      obtain ⟨⟨f0, f1, f2, f3, f4⟩, fz⟩ := ((HX.out.old hb3).old hbx).all
      have fz0 := fz 0
      have fz1 := fz 1
      have fz2 := fz 2
      have fz3 := fz 3
      have fz4 := fz 4
      obtain ⟨⟨g0, g1, g2, g3, g4, g5, g6, g7⟩, -⟩ := Box8.all (heap_alloc_new w3 (.cells #[.bool false, .bool false, .slice none 0 0, .slice none 0 0, .slice none 0 0, .int .i64 (n - r.length : Nat), .int .i64 0, .int .i64 k] 55))
      have HF := hid (put5_below hw4 (Nat.le_refl _) (.bool false) (.bool false) (.slice none 0 0) (.slice none 0 0) (.slice none 0 0)).drew
      clear dz fz X0 hw3 hw4
      go_wp2_with fail
      generalize (w3.alloc (.cells #[.bool false, .bool false, .slice none 0 0, .slice none 0 0, .slice none 0 0, .int .i64 (n - r.length : Nat), .int .i64 0, .int .i64 k] 55)) = G at *
      clear hbx d0 d1 d2 d3 d4 d5 d6 d7 dz0 dz1 dz2 dz3 dz4 dz5 dz6 dz7
      go_region
      all_goals
        go_wp2_with fail
        exact bodyPost_ret (v := .tuple #[.agg #[.bool false, .bool false, .slice none 0 0, .slice none 0 0, .slice none 0 0], .int .i64 (n - r.length : Nat), .int .i64 k]) (by simp [results, Tryz.results40, go_sem, f0, f1, f2, f3, f4]) rfl ⟨_, _, _, _, _, rfl, sin_zero _ _, HF.out⟩
    | ok y r =>
      obtain ⟨t, nd'⟩ := y
      rw [hv] at C
      have C := hid C
      cases r with
      | nil =>
        clear hv
        show Calls Tryz.prog _ _ _ (fun e w' => REnd (fun k => (L ≤ k ∧ k < w.heap.size) ∨ w.heap.size ≤ k) w e w' (t, 0, 0))
        have hn0 : ((n - ([] : List UInt8).length : Nat) : Int) = n := by simp
        have HN := hid hn0
        clear hn0
        go_enter Tryz.func40, Tryz.ntmps40
        go_wp2_with fail
        refine C.out.mono ?_
        rintro e w3 ⟨v0, v1, v2, v3, v4, rfl, hin, hb3⟩
        rw [HN.out]
        obtain ⟨l', h', hi', da', ks', B1, m1, j1, B2, m2, j2, B3, m3, j3, eZ, eE⟩ := hin.form_
        injection eE with eE0 eE; injection eE with eE1 eE; injection eE with eE2 eE; injection eE with eE3 eE; injection eE with eE4 eE
        subst eE0 eE1 eE2 eE3 eE4
        clear eE eZ
        have X0 : Box8 (w3.alloc (.cells #[.bool false, .bool false, .slice none 0 0, .slice none 0 0, .slice none 0 0, .int .i64 0, .int .i64 0, .int .i64 0] 55)) w3.heap.size (.bool false) (.bool false) (.slice none 0 0) (.slice none 0 0) (.slice none 0 0) (.int .i64 0) (.int .i64 0) (.int .i64 0) := heap_alloc_new w3 _
        obtain ⟨⟨d0, d1, d2, d3, d4, d5, d6, d7⟩, dz⟩ := X0.all
        have dz0 := dz 0
        have dz1 := dz 1
        have dz2 := dz 2
        have dz3 := dz 3
        have dz4 := dz 4
        have dz5 := dz 5
        have dz6 := dz 6
        have dz7 := dz 7
        have hbx := below_new w3 (.cells #[.bool l', .bool h', .slice B1 m1 j1, .slice B2 m2 j2, .slice B3 m3 j3, .int .i64 n, .int .i64 nd', .int .i64 0] 55)
        have hw3 := hb0.trans (hb3.mono hb0.size)
        have hw4 := hw3.trans (hbx.mono hw3.size)
        obtain ⟨⟨f0, f1, f2, f3, f4⟩, fz⟩ := ((HX.out.old hb3).old hbx).all
        have fz0 := fz 0
        have fz1 := fz 1
        have fz2 := fz 2
        have fz3 := fz 3
        have fz4 := fz 4
        have HF := hid (put5_below hw4 (Nat.le_refl _) (.bool l') (.bool h') (.slice B1 m1 j1) (.slice B2 m2 j2) (.slice B3 m3 j3))
        have HI := hid (((((hin.old hbx).keep fun q hq => put5_far (w := w3.alloc (.cells #[.bool l', .bool h', .slice B1 m1 j1, .slice B2 m2 j2, .slice B3 m3 j3, .int .i64 n, .int .i64 nd', .int .i64 0] 55)) (b := w.heap.size) (x0 := .bool l') (x1 := .bool h') (x2 := .slice B1 m1 j1) (x3 := .slice B2 m2 j2) (x4 := .slice B3 m3 j3) q (by omega))).more (S' := fun k => (L ≤ k ∧ k < w.heap.size) ∨ w.heap.size ≤ k) fun k hk => by omega))
        clear dz fz X0 hw3 hw4
        go_wp2_with fail
        exact bodyPost_ret (v := .tuple #[.agg #[.bool l', .bool h', .slice B1 m1 j1, .slice B2 m2 j2, .slice B3 m3 j3], .int .i64 0, .int .i64 0]) (by simp [results, Tryz.results40, go_sem, f0, f1, f2, f3, f4]) rfl ⟨_, _, _, _, _, rfl, HI.out, HF.out⟩
      | cons c0 r0 =>
        obtain ⟨q, hq⟩ : ∃ q, q = n - (c0 :: r0).length := ⟨_, rfl⟩
        have hlr : (c0 :: r0).length = r0.length + 1 := by simp
        have hn0 : ((n - (c0 :: r0).length : Nat) : Int) = q := by rw [hq]
        have HN := hid hn0
        show Calls Tryz.prog _ _ _ (fun e w' => REnd (fun k => (L ≤ k ∧ k < w.heap.size) ∨ w.heap.size ≤ k) w e w' (zeroS, b.length - (c0 :: r0).length, 5))
        have hn0' : n ≠ 0 := by
          intro h0
          have hbn : b = [] := List.eq_nil_of_length_eq_zero (by omega)
          rw [hbn] at hv
          rw [pVal] at hv
          cases hv
        clear hv
        have hql : (q : Int) < n := by omega
        rw [hl, ← hq]
        clear hn0 hq
        go_enter Tryz.func40, Tryz.ntmps40
        go_wp2_with fail
        refine C.out.mono ?_
        rintro e w3 ⟨v0, v1, v2, v3, v4, rfl, hin, hb3⟩
        rw [HN.out]
        obtain ⟨l', h', hi', da', ks', B1, m1, j1, B2, m2, j2, B3, m3, j3, eZ, eE⟩ := hin.form_
        injection eE with eE0 eE; injection eE with eE1 eE; injection eE with eE2 eE; injection eE with eE3 eE; injection eE with eE4 eE
        subst eE0 eE1 eE2 eE3 eE4
        clear eE eZ
        have X0 : Box8 (w3.alloc (.cells #[.bool false, .bool false, .slice none 0 0, .slice none 0 0, .slice none 0 0, .int .i64 0, .int .i64 0, .int .i64 0] 55)) w3.heap.size (.bool false) (.bool false) (.slice none 0 0) (.slice none 0 0) (.slice none 0 0) (.int .i64 0) (.int .i64 0) (.int .i64 0) := heap_alloc_new w3 _
        obtain ⟨⟨d0, d1, d2, d3, d4, d5, d6, d7⟩, dz⟩ := X0.all
        have dz0 := dz 0
        have dz1 := dz 1
        have dz2 := dz 2
        have dz3 := dz 3
        have dz4 := dz 4
        have dz5 := dz 5
        have dz6 := dz 6
        have dz7 := dz 7
        have hbx := below_new w3 (.cells #[.bool l', .bool h', .slice B1 m1 j1, .slice B2 m2 j2, .slice B3 m3 j3, .int .i64 q, .int .i64 nd', .int .i64 0] 55)
        have hw3 := hb0.trans (hb3.mono hb0.size)
        have hw4 := hw3.trans (hbx.mono hw3.size)
        obtain ⟨⟨f0, f1, f2, f3, f4⟩, fz⟩ := ((HX.out.old hb3).old hbx).all
        have fz0 := fz 0
        have fz1 := fz 1
        have fz2 := fz 2
        have fz3 := fz 3
        have fz4 := fz 4
        obtain ⟨⟨g0, g1, g2, g3, g4, g5, g6, g7⟩, -⟩ := Box8.all (heap_alloc_new w3 (.cells #[.bool l', .bool h', .slice B1 m1 j1, .slice B2 m2 j2, .slice B3 m3 j3, .int .i64 q, .int .i64 nd', .int .i64 0] 55))
        have HF := hid (put5_below hw4 (Nat.le_refl _) (.bool false) (.bool false) (.slice none 0 0) (.slice none 0 0) (.slice none 0 0)).drew
        clear dz fz X0 hw3 hw4
        go_wp2_with fail
        generalize (w3.alloc (.cells #[.bool l', .bool h', .slice B1 m1 j1, .slice B2 m2 j2, .slice B3 m3 j3, .int .i64 q, .int .i64 nd', .int .i64 0] 55)) = G at *
        clear hbx d0 d1 d2 d3 d4 d5 d6 d7 dz0 dz1 dz2 dz3 dz4 dz5 dz6 dz7
        go_region
        all_goals
          go_wp2_with fail
          exact bodyPost_ret (v := .tuple #[.agg #[.bool false, .bool false, .slice none 0 0, .slice none 0 0, .slice none 0 0], .int .i64 q, .int .i64 5]) (by simp [results, Tryz.results40, go_sem, f0, f1, f2, f3, f4]) rfl ⟨_, _, _, _, _, rfl, sin_zero _ _, HF.out⟩
theorem refGet_any (A : Option Addr) (n c : Nat) (b : List UInt8) (w : World) (hr : Reads w w.heap.size 1 A n (Lib.byteCells b)) (hc : n ≤ c) :
    Calls Tryz.prog 40 #[.slice A n c] w fun e w' => RGetEnd w e w' (pGet b) :=
  (refGet_lo A n c b 0 w hr (fun _ _ => Nat.zero_le _) hc).mono fun _ _ h => h.all
end Go.Proofs.YtcojkmcnigppbaaGreatDoor
end
section
namespace Go.Proofs.YtcojkmcnigppbaaGreatDoor
open Go Go.Proofs Go.RowKit Sx Oct
theorem text_le2 {b : List UInt8} {n : Nat} (h : b.length ≤ n) : (text b).length ≤ 2 * n + 2 := by
  have := text_le b
  omega
theorem aHint_le {s hi da r : List UInt8} (h : aHint s = .ok (hi, da) r) : hi.length ≤ s.length ∧ da.length ≤ s.length := by
  unfold aHint at h
  have t1 := (Tail.skip s).le
  cases hP : aPlain (skip s) with
  | err e q => rw [hP] at h; cases h
  | ok b q =>
    rw [hP] at h
    simp only at h
    have h1 := aPlain_le hP
    have h2 := aPlain_lt hP
    cases hq : skip q with
    | nil => rw [hq] at h; cases h
    | cons c q2 =>
      rw [hq] at h
      simp only at h
      have t2 := (Tail.skip q).le
      rw [hq, List.length_cons] at t2
      split at h
      · cases h
      · have t3 := (Tail.skip q2).le
        cases hP2 : aPlain (skip q2) with
        | err e q3 => rw [hP2] at h; cases h
        | ok b2 q3 =>
          rw [hP2] at h
          injection h with h3 h4
          injection h3 with h5 h6
          subst h5 h6
          have h7 := aPlain_le hP2
          exact ⟨by omega, by omega⟩
theorem mul_up {a m n : Nat} (h : m ≤ n) : a * (4 * m + 10) ≤ a * (4 * n + 10) := Nat.mul_le_mul_left _ (by omega)
theorem aVal_form (f : Nat) : (∀ s nd ar t nd' r, aVal f s nd ar = .ok (t, nd') r → (form t).length ≤ nodes t * (4 * s.length + 10) ∧ r.length ≤ s.length) ∧
    (∀ s nd ar ts nd' r, aKids f s nd ar = .ok (ts, nd') r → (formL ts).length ≤ nodesL ts * (4 * s.length + 10) ∧ r.length ≤ s.length) := by
  induction f with
  | zero => exact ⟨fun s nd ar t nd' r h => (by rw [aVal] at h; cases h), fun s nd ar ts nd' r h => (by rw [aKids] at h; cases h)⟩
  | succ f ih =>
    constructor
    · intro s nd ar t nd' r h
      rw [aVal] at h
      have t1 := (Tail.skip s).le
      cases hs : skip s with
      | nil => rw [hs] at h; cases h
      | cons c q =>
        rw [hs] at h
        rw [hs, List.length_cons] at t1
        simp only at h
        split at h
        · cases h
        · split at h
          · cases h
          · split at h
            · cases hk : aKids f q (nd + 1) (ar + 1) with
              | err e r' => rw [hk] at h; cases h
              | ok y r' =>
                obtain ⟨ks, n2⟩ := y
                rw [hk] at h
                injection h with h1 h2
                injection h1 with h3 h4
                subst h3 h2
                have hk2 := ih.2 _ _ _ _ _ _ hk
                have hm := mul_up (a := nodesL ks) (show q.length ≤ s.length by omega)
                rw [form, nodes, Nat.add_mul]
                simp
                omega
            · split at h
              · cases hH : aHint q with
                | err e r' => rw [hH] at h; cases h
                | ok y r' =>
                  obtain ⟨hi, da⟩ := y
                  rw [hH] at h
                  injection h with h1 h2
                  injection h1 with h3 h4
                  subst h3 h2
                  have hl := aHint_le hH
                  have hf := aHint_fine q
                  rw [hH] at hf
                  have hr := Tail.le (show Tail r' q from hf)
                  have x1 := text_le2 hl.1
                  have x2 := text_le2 hl.2
                  rw [form, nodes, nodesL]
                  simp
                  omega
              · cases hP : aPlain (c :: q) with
                | err e r' => rw [hP] at h; cases h
                | ok da r' =>
                  rw [hP] at h
                  injection h with h1 h2
                  injection h1 with h3 h4
                  subst h3 h2
                  have hl := aPlain_le hP
                  have hr := aPlain_lt hP
                  rw [List.length_cons] at hl hr
                  have x2 := text_le2 hl
                  rw [form, nodes, nodesL]
                  simp
                  omega
    · intro s nd ar ts nd' r h
      rw [aKids] at h
      have t1 := (Tail.skip s).le
      cases hs : skip s with
      | nil => rw [hs] at h; cases h
      | cons c q =>
        rw [hs] at h
        rw [hs, List.length_cons] at t1
        simp only at h
        split at h
        · injection h with h1 h2
          injection h1 with h3 h4
          subst h3 h2
          rw [formL]
          exact ⟨by simp, by omega⟩
        · cases hv : aVal f (c :: q) nd ar with
          | err e r' => rw [hv] at h; cases h
          | ok y r' =>
            obtain ⟨u, n2⟩ := y
            rw [hv] at h
            simp only at h
            cases hk : aKids f r' n2 ar with
            | err e r2 => rw [hk] at h; cases h
            | ok z r2 =>
              obtain ⟨us, n3⟩ := z
              rw [hk] at h
              injection h with h1 h2
              injection h1 with h3 h4
              subst h3 h2
              have a1 := ih.1 _ _ _ _ _ _ hv
              have a2 := ih.2 _ _ _ _ _ _ hk
              rw [List.length_cons] at a1
              have m1 := mul_up (a := nodes u) (show q.length + 1 ≤ s.length by omega)
              have m2 := mul_up (a := nodesL us) (show r'.length ≤ s.length by omega)
              rw [formL, nodesL, Nat.add_mul, List.length_append]
              omega
theorem pGetOk {b : List UInt8} {t : SX} {p : Nat} (h : pGet b = (t, p, 0)) : form t = b ∧ may t = true ∧ p = 0 :=
  pGet_sound h (fun r hr => by
    have := (pVal_kind _).1 _ _ _ _ _ hr (Nat.le_refl _) (by omega)
    omega)
end Go.Proofs.YtcojkmcnigppbaaGreatDoor
end
section
namespace Go.Proofs.YtcojkmcnigppbaaGreatDoor
open Go Go.Proofs Go.RowKit Sx
theorem sameL_take (a b : List SX) (k : Nat) (x y : SX) (hx : a[k]? = some x) (hy : b[k]? = some y) : sameL (a.take (k + 1)) (b.take (k + 1)) = (sameL (a.take k) (b.take k) && same x y) := by
  induction a generalizing b k with
  | nil => simp at hx
  | cons u r ih =>
    cases b with
    | nil => simp at hy
    | cons v s =>
      cases k with
      | zero =>
        simp at hx hy
        subst hx hy
        simp [sameL]
      | succ k =>
        simp at hx hy
        simp [sameL, ih s k hx hy, Bool.and_assoc]
theorem sameL_bad (a b : List SX) (k : Nat) (x y : SX) (hx : a[k]? = some x) (hy : b[k]? = some y) (h : same x y = false) : sameL a b = false := by
  rw [Bool.eq_false_iff]
  intro e
  have := (sameL_iff a b).1 e
  subst this
  rw [hx] at hy
  injection hy with hy
  subst hy
  rw [same_refl] at h
  cases h
theorem sameL_len (a b : List SX) (h : a.length ≠ b.length) : sameL a b = false := by
  rw [Bool.eq_false_iff]
  intro e
  have := (sameL_iff a b).1 e
  subst this
  exact h rfl
set_option maxHeartbeats 2000000 in
set_option maxRecDepth 100000 in
theorem refSame_any (t : SX) : ∀ (t' : SX) (w : World) (S S' : Nat → Prop) (cs cs' : List Value), SIn w S t cs → SIn w S' t' cs' →
    Calls Tryz.prog 19 #[.agg cs.toArray, .agg cs'.toArray] w fun e w' => e = .returned (.bool (same t t')) ∧ Below w.heap.size w w' := by
  induction t using SX.ind with
  | H l h hi da ks ih =>
    intro t' w S S' cs cs' hs hs'
    obtain ⟨_, _, _, _, _, A1, n1, c1, A2, n2, c2, A3, n3, c3, e, rfl⟩ := hs.form_
    cases e
    obtain ⟨l', h', hi', da', ks', A1', n1', c1', A2', n2', c2', A3', n3', c3', e, rfl⟩ := hs'.form_
    subst e
    have HS := hid hs
    have HS' := hid hs'
    have IH := hid ih
    have hM : Hid (same (.mk l h hi da ks) (.mk l' h' hi' da' ks') = (l == l' && h == h' && hi == hi' && da == da' && sameL ks ks')) := by show _ = _; rw [same]
    have hb0 := (below_new w (.cells #[Value.bool l, Value.bool h, Value.slice A1 n1 c1, Value.slice A2 n2 c2, Value.slice A3 n3 c3] 25)).trans ((below_new (w.alloc (.cells #[Value.bool l, Value.bool h, Value.slice A1 n1 c1, Value.slice A2 n2 c2, Value.slice A3 n3 c3] 25)) (.cells #[Value.bool l', Value.bool h', Value.slice A1' n1' c1', Value.slice A2' n2' c2', Value.slice A3' n3' c3'] 25)).mono (by simp))
    obtain ⟨_, _, r1, r2, g1, g2, hk, b11, b12, b21, b22, b31, b32⟩ := (hs.old hb0).inv
    obtain ⟨_, _, r1', r2', g1', g2', hk', b11', b12', b21', b22', b31', b32'⟩ := (hs'.old hb0).inv
    have k1 := run_back (r1.reads (by omega)) (c := c1)
    have k2 := run_back (r2.reads (by omega)) (c := c2)
    have k1' := run_back (r1'.reads (by omega)) (c := c1')
    have k2' := run_back (r2'.reads (by omega)) (c := c2')
    have HK := hid hk
    have HK' := hid hk'
    clear hs hs' ih r1 r2 r1' r2' g1 g2 g1' g2' hk hk'
    by_cases q1 : ¬ l = l'
    · have HQ := hid q1
      have q1' : (l != l') = true := by simpa using q1
      clear q1
      go_enter Tryz.func19, Tryz.ntmps19
      go_wp2_with fail
      go_ret
      exact ⟨ret_bool (by rw [hM.out]; simp [HQ.out]), hb0⟩
    have q1 : l = l' := Classical.not_not.1 q1
    subst q1
    by_cases q2 : ¬ h = h'
    · have HQ := hid q2
      have q2' : (h != h') = true := by simpa using q2
      clear q2
      go_enter Tryz.func19, Tryz.ntmps19
      go_wp2_with fail
      go_ret
      exact ⟨ret_bool (by rw [hM.out]; simp [HQ.out]), hb0⟩
    have q2 : h = h' := Classical.not_not.1 q2
    subst q2
    by_cases q3 : ¬ hi = hi'
    · have HQ := hid q3
      go_enter Tryz.func19, Tryz.ntmps19
      go_wp2_with fail
      go_ret
      exact ⟨ret_bool (by rw [hM.out]; simp [HQ.out]), hb0⟩
    have q3 : hi = hi' := Classical.not_not.1 q3
    subst q3
    by_cases q4 : ¬ da = da'
    · have HQ := hid q4
      go_enter Tryz.func19, Tryz.ntmps19
      go_wp2_with fail
      go_ret
      exact ⟨ret_bool (by rw [hM.out]; simp [HQ.out]), hb0⟩
    have q4 : da = da' := Classical.not_not.1 q4
    subst q4
    by_cases q5 : ¬ n3 = n3'
    · have HQ := hid (sameL_len ks ks' (by rw [HK.out, HK'.out]; exact q5))
      have q5' : ((n3 : Int) != (n3' : Int)) = true := by rw [bne_iff_ne]; omega
      clear q5
      go_enter Tryz.func19, Tryz.ntmps19
      go_wp2_with fail
      go_ret
      exact ⟨ret_bool (by rw [hM.out]; simp [HQ.out]), hb0⟩
    have q5 : n3 = n3' := Classical.not_not.1 q5
    subst q5
    have hM' : Hid (same (.mk l h hi da ks) (.mk l h hi da ks') = sameL ks ks') := by show _ = _; rw [hM.out]; simp
    have HX1 := hid (below_at (below_new (w.alloc (Obj.cells #[Value.bool l, Value.bool h, Value.slice A1 n1 c1, Value.slice A2 n2 c2, Value.slice A3 n3 c3] 25 (0, 0))) (Obj.cells #[Value.bool l, Value.bool h, Value.slice A1' n1' c1', Value.slice A2' n2' c2', Value.slice A3' n3 c3'] 25 (0, 0))) (heap_alloc_new w (Obj.cells #[Value.bool l, Value.bool h, Value.slice A1 n1 c1, Value.slice A2 n2 c2, Value.slice A3 n3 c3] 25 (0, 0))))
    have HX2 := hid (heap_alloc_new (w.alloc (Obj.cells #[Value.bool l, Value.bool h, Value.slice A1 n1 c1, Value.slice A2 n2 c2, Value.slice A3 n3 c3] 25 (0, 0))) (Obj.cells #[Value.bool l, Value.bool h, Value.slice A1' n1' c1', Value.slice A2' n2' c2', Value.slice A3' n3 c3'] 25 (0, 0)))
    have hsz0 : (w.alloc (Obj.cells #[Value.bool l, Value.bool h, Value.slice A1 n1 c1, Value.slice A2 n2 c2, Value.slice A3 n3 c3] 25 (0, 0))).heap.size = w.heap.size + 1 := by simp
    rw [hsz0] at HX2
    clear hsz0
    clear hM
    go_enter Tryz.func19, Tryz.ntmps19
    go_wp2_with fail
    go_loopw [48] (fun i wr => ∃ k : Nat, k ≤ n3 ∧ i = .int .i64 k ∧ Hid (sameL (ks.take k) (ks'.take k) = true) ∧ Below w.heap.size w wr ∧ Hid (wr.heap[w.heap.size]? = some (Obj.cells #[Value.bool l, Value.bool h, Value.slice A1 n1 c1, Value.slice A2 n2 c2, Value.slice A3 n3 c3] 25 (0, 0))) ∧ Hid (wr.heap[w.heap.size + 1]? = some (Obj.cells #[Value.bool l, Value.bool h, Value.slice A1' n1' c1', Value.slice A2' n2' c2', Value.slice A3' n3 c3'] 25 (0, 0)))) (fun i _ => n3 - (intOf i).toNat)
    case atStart => exact ⟨0, Nat.zero_le _, rfl, rfl, hb0, HX1.out, HX2.out⟩
    case round =>
      obtain ⟨k, hkn, rfl, hcl, hbel, hB1, hB2⟩ := hrel
      clear hb0 HX1 HX2 k1 k2 k1' k2'
      by_cases hlt : k < n3
      · obtain ⟨ad, v0, v1, v2, v3, v4, t, rfl, hS, hks, hm, hin, d0, d1, d2, d3, d4⟩ := (HS.out.old hbel).kid hlt
        obtain ⟨ad', v0', v1', v2', v3', v4', t', rfl, hS', hks', hm', hin', d0', d1', d2', d3', d4'⟩ := (HS'.out.old hbel).kid hlt
        have e4 := (box5b hB1.out).2.2.2.2
        have e4' := (box5b hB2.out).2.2.2.2
        have hlt' : (k : Int) < n3 := by omega
        have hdr : Below wr.heap.size wr wr.drew := (Below.refl _ _).drew
        have hdin := hin.old hdr
        have hdin' := hin'.old hdr
        have hbd := hbel.trans (hdr.mono hbel.size)
        have HBd1 := hid (below_at hdr hB1.out)
        have HBd2 := hid (below_at hdr hB2.out)
        have HM := hid hm
        have HT := hid (sameL_take ks ks' k t t' hks hks')
        have HBad := hid (sameL_bad ks ks' k t t' hks hks')
        clear hks hks' hm hm' hin hin'
        go_wp2_with fail
        go_still_tail 10, (by kernel_rfl)
        change wpList _ _ _ _ _ wr.drew
        clear d0 d1 d2 d3 d4 d0' d1' d2' d3' d4' e4 e4' hdr hbel hB1 hB2
        generalize wr.drew = wd at *
        by_cases hct : same t t' = true
        · have hct' := hid hct
          have ihh := IH.out t HM.out t'
          rw [hct] at ihh
          clear hct
          go_wp2_with ((with_reducible refine (ihh _ S S' _ _ hdin hdin').mono ?_); rintro e w2 ⟨rfl, hb2⟩)
          go_roundw
          case rel => exact ⟨k + 1, by omega, by go_num, (show _ = _ by rw [HT.out, hcl.out, hct'.out]; rfl), hbd.trans (hb2.mono hbd.size), below_at hb2 HBd1.out, below_at hb2 HBd2.out⟩
          case measure => simp [intOf]; omega
        · have hct : same t t' = false := by simpa using hct
          have hct' := hid hct
          have ihh := IH.out t HM.out t'
          rw [hct] at ihh
          clear hct
          go_wp2_with ((with_reducible refine (ihh _ S S' _ _ hdin hdin').mono ?_); rintro e w2 ⟨rfl, hb2⟩)
          go_ret
          exact ⟨ret_bool (by rw [hM'.out, HBad.out hct'.out]), hbd.trans (hb2.mono hbd.size)⟩
      · obtain rfl : k = n3 := by omega
        have hall : Hid (sameL ks ks' = true) := by
          have h := hcl.out
          rw [List.take_of_length_le (by rw [HK.out]; exact Nat.le_refl _), List.take_of_length_le (by rw [HK'.out]; exact Nat.le_refl _)] at h
          exact h
        go_wp2_with fail
        go_ret
        exact ⟨ret_bool (by rw [hM'.out, hall.out]), hbel⟩
end Go.Proofs.YtcojkmcnigppbaaGreatDoor
end
