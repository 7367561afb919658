/-
  The contracts of the document's answers Read and Unpack (package greffierref03). Conditions: at most 20000 bytes.
-/
import Derived.Test.YtcojkmcnigppbaaGreatDoorNotRef13Z
set_option linter.unusedVariables false
set_option linter.unusedSimpArgs false
open Go.Lib (hid)
open Go.Proofs.YtcojkmcnigppbaaGreatDoor (zA zB zC zD zE zF)
set_option maxRecDepth 100000
namespace Go.Proofs.YtcojkmcnigppbaaGreatDoor
open Go Go.Proofs Go.RowKit Sx Oct
theorem sin_zero_any {w : World} {S S' : Nat → Prop} {cs : List Value} (h : SIn w S zeroS cs) : SIn w S' zeroS cs := by
  unfold zeroS at h ⊢
  cases h with
  | mk h1 b1 h2 b2 h3 b3 hl hs =>
    have e1 := h1.1
    have e2 := h2.1
    simp [Lib.byteCells] at e1 e2 hl
    refine .mk ⟨h1.1, fun hn => by omega⟩ b1 ⟨h2.1, fun hn => by omega⟩ b2 ⟨h3.1, fun hn => by omega⟩ b3 (by simp; omega) (fun i t hit => by simp at hit)
set_option maxHeartbeats 4000000 in
theorem refRead_any (s : ByteArray) (w : World) (hs : s.size ≤ 20000) :
    Calls Tryz.prog 20 #[.string s] w fun e w' => REnd (fun k => w.heap.size ≤ k) w e w' (aRead s.data.toList) := by
  have hsl : s.data.toList.length = s.size := by simp
  have hb0 := below_new w (.cells #[.bool false, .bool false, .slice none 0 0, .slice none 0 0, .slice none 0 0] 25)
  have X5 : Box (w.alloc (.cells #[.bool false, .bool false, .slice none 0 0, .slice none 0 0, .slice none 0 0] 25)) w.heap.size (.bool false) (.bool false) (.slice none 0 0) (.slice none 0 0) (.slice none 0 0) := heap_alloc_new w _
  have hz1 : (w.alloc (.cells #[.bool false, .bool false, .slice none 0 0, .slice none 0 0, .slice none 0 0] 25)).heap.size = w.heap.size + 1 := by simp
  have HX := hid X5
  have HB := hid hb0
  obtain ⟨⟨f0, f1, f2, f3, f4⟩, fz⟩ := (X5).all
  have fz0 := fz 0
  have fz1 := fz 1
  have fz2 := fz 2
  have fz3 := fz 3
  have fz4 := fz 4
  by_cases hb : 16384 < s.size
  · have hb' : (16384 : Int) < s.size := by omega
    rw [show aRead s.data.toList = (zeroS, 16384, 4) by unfold aRead; rw [if_pos (by omega)]]
    clear hsl X5 fz hb0 HX hz1
    go_enter Tryz.func20, Tryz.ntmps20
    go_wp2_with fail
    exact bodyPost_ret (v := .tuple #[.agg #[.bool false, .bool false, .slice none 0 0, .slice none 0 0, .slice none 0 0], .int .i64 16384, .int .i64 4]) (by simp [results, Tryz.results20, go_sem, f0, f1, f2, f3, f4]) rfl ⟨_, _, _, _, _, rfl, sin_zero _ _, HB.out⟩
  · have hb' : ¬ (16384 : Int) < s.size := by omega
    have C := value3_all (2 * s.size + 1) s 0 0 0 (w.alloc (.cells #[.bool false, .bool false, .slice none 0 0, .slice none 0 0, .slice none 0 0] 25)) (by omega) (by omega) (by omega) (by omega) (by omega)
    rw [List.drop_zero] at C
    have hE : aRead s.data.toList = match aVal (2 * s.size + 1) s.data.toList 0 0 with
        | .err e r => (zeroS, s.size - r.length, e)
        | .ok (t, _) r => aEnd s.size t r := by
      unfold aRead; rw [if_neg (by omega), hsl]; rfl
    rw [hE]
    clear hE
    cases hv : aVal (2 * s.size + 1) s.data.toList 0 0 with
    | err k r =>
      rw [hv] at C
      have C := hid C
      show Calls Tryz.prog _ _ w fun e w' => REnd (fun k => w.heap.size ≤ k) w e w' (zeroS, s.size - r.length, k)
      clear X5 hb0 fz f0 f1 f2 f3 f4 fz0 fz1 fz2 fz3 fz4 hsl hv
      go_enter Tryz.func20, Tryz.ntmps20
      go_wp2_with fail
      refine C.out.mono ?_
      rintro e w3 ⟨hk1, hk2, rfl, hb3⟩
      have D := hid (ended_err s (s.size - r.length) k w3 (fun k => w.heap.size + 1 ≤ k) hk1)
      have HB3 := hid (HB.out.trans (hb3.mono HB.out.size))
      have HX3 := hid (HX.out.old hb3)
      clear hb3
      go_wp2_with fail
      refine D.out.mono ?_
      rintro e w9 ⟨v0, v1, v2, v3, v4, rfl, hin, hb9⟩
      obtain ⟨l', h', hi', da', ks', B1, m1, j1, B2, m2, j2, B3, m3, j3, eZ, eE⟩ := hin.form_
      injection eE with eE0 eE; injection eE with eE1 eE; injection eE with eE2 eE; injection eE with eE3 eE; injection eE with eE4 eE
      subst eE0 eE1 eE2 eE3 eE4
      clear eE eZ
      obtain ⟨⟨f0, f1, f2, f3, f4⟩, fz⟩ := (HX3.out.old hb9).all
      have fz0 := fz 0
      have fz1 := fz 1
      have fz2 := fz 2
      have fz3 := fz 3
      have fz4 := fz 4
      have HF := hid (put5_below (HB3.out.trans (hb9.mono HB3.out.size)) (Nat.le_refl _) (.bool l') (.bool h') (.slice B1 m1 j1) (.slice B2 m2 j2) (.slice B3 m3 j3))
      have HI := hid ((hin.keep (w' := put5 w9 w.heap.size (.bool l') (.bool h') (.slice B1 m1 j1) (.slice B2 m2 j2) (.slice B3 m3 j3)) fun q hq => put5_far q (by have hq : w.heap.size + 1 ≤ q.block := hq; omega)).more (S' := fun k => w.heap.size ≤ k) fun k hk => by have hk : w.heap.size + 1 ≤ k := hk; omega)
      clear fz hb9 hin
      go_wp2_with fail
      exact bodyPost_ret (v := .tuple #[.agg #[.bool l', .bool h', .slice B1 m1 j1, .slice B2 m2 j2, .slice B3 m3 j3], .int .i64 (s.size - r.length : Nat), .int .i64 k]) (by simp [results, Tryz.results20, go_sem, f0, f1, f2, f3, f4]) rfl ⟨_, _, _, _, _, rfl, HI.out, HF.out⟩
    | ok y r =>
      obtain ⟨t, nd⟩ := y
      have hfm := (aVal_form _).1 _ _ _ _ _ _ hv
      have hgd := (aVal_good (2 * s.size + 1)).1 s.data.toList 0 0 (by omega) (by omega)
      rw [hv] at hgd C
      obtain ⟨htl, hrl, hnd, hnd5⟩ := hgd
      rw [hsl] at hfm hrl
      have hat := htl.at_
      rw [hsl] at hat
      have hn5 : nodes t ≤ 512 := by omega
      have hfl : (form t).length ≤ 1099511627776 := by
        have h1 : nodes t * (4 * s.size + 10) ≤ 512 * (4 * s.size + 10) := Nat.mul_le_mul_right _ hn5
        omega
      have C := hid C
      have HFL := hid (And.intro hn5 (And.intro hfl (And.intro hat hrl)))
      show Calls Tryz.prog _ _ w fun e w' => REnd (fun k => w.heap.size ≤ k) w e w' (aEnd s.size t r)
      clear X5 hb0 fz f0 f1 f2 f3 f4 fz0 fz1 fz2 fz3 fz4 hsl hv hfm htl hrl hnd hnd5 hat hn5 hfl
      generalize hEN : aEnd s.size t r = X at *
      have HEN := hid hEN
      clear hEN
      go_enter Tryz.func20, Tryz.ntmps20
      go_wp2_with fail
      refine C.out.mono ?_
      rintro e w3 ⟨v0, v1, v2, v3, v4, rfl, hin, hb3⟩
      replace hin := hin.more (S' := (fun k => w.heap.size + 1 ≤ k)) fun k hk => by omega
      have D := ended_ok s t r nd w3 _ _ hin (by omega) (s.size - r.length) rfl HFL.out.2.2.1 (by have := HFL.out.2.2.2; omega) (by have := HFL.out.1; omega) HFL.out.2.1
      rw [HEN.out] at D
      obtain ⟨l', h', hi', da', ks', B1, m1, j1, B2, m2, j2, B3, m3, j3, eZ, eE⟩ := hin.form_
      injection eE with eE0 eE; injection eE with eE1 eE; injection eE with eE2 eE; injection eE with eE3 eE; injection eE with eE4 eE
      subst eE0 eE1 eE2 eE3 eE4
      clear eE eZ
      have D : Hid (Calls Tryz.prog 36 #[.string s, .agg #[.bool l', .bool h', .slice B1 m1 j1, .slice B2 m2 j2, .slice B3 m3 j3, .int .i64 (s.size - r.length : Nat), .int .i64 nd, .int .i64 0]] w3 fun e w' => REnd (fun k => w.heap.size + 1 ≤ k) w3 e w' X) := hid D
      have HB3 := hid (HB.out.trans (hb3.mono HB.out.size))
      have HX3 := hid (HX.out.old hb3)
      clear hb3 hin
      go_wp2_with fail
      refine D.out.mono ?_
      rintro e w9 ⟨v0, v1, v2, v3, v4, rfl, hin, hb9⟩
      obtain ⟨l', h', hi', da', ks', B1, m1, j1, B2, m2, j2, B3, m3, j3, eZ, eE⟩ := hin.form_
      injection eE with eE0 eE; injection eE with eE1 eE; injection eE with eE2 eE; injection eE with eE3 eE; injection eE with eE4 eE
      subst eE0 eE1 eE2 eE3 eE4
      clear eE eZ
      obtain ⟨⟨f0, f1, f2, f3, f4⟩, fz⟩ := (HX3.out.old hb9).all
      have fz0 := fz 0
      have fz1 := fz 1
      have fz2 := fz 2
      have fz3 := fz 3
      have fz4 := fz 4
      have HF := hid (put5_below (HB3.out.trans (hb9.mono HB3.out.size)) (Nat.le_refl _) (.bool l') (.bool h') (.slice B1 m1 j1) (.slice B2 m2 j2) (.slice B3 m3 j3))
      have HI := hid ((hin.keep (w' := put5 w9 w.heap.size (.bool l') (.bool h') (.slice B1 m1 j1) (.slice B2 m2 j2) (.slice B3 m3 j3)) fun q hq => put5_far q (by have hq : w.heap.size + 1 ≤ q.block := hq; omega)).more (S' := fun k => w.heap.size ≤ k) fun k hk => by have hk : w.heap.size + 1 ≤ k := hk; omega)
      clear fz hb9 hin
      go_wp2_with fail
      exact bodyPost_ret (v := .tuple #[.agg #[.bool l', .bool h', .slice B1 m1 j1, .slice B2 m2 j2, .slice B3 m3 j3], .int .i64 X.2.1, .int .i64 X.2.2]) (by simp [results, Tryz.results20, go_sem, f0, f1, f2, f3, f4]) rfl ⟨_, _, _, _, _, rfl, HI.out, HF.out⟩
set_option maxHeartbeats 4000000 in
theorem refUnpack_any (s : ByteArray) (w : World) (hs : s.size ≤ 20000) :
    Calls Tryz.prog 21 #[.string s] w fun e w' => REnd (fun k => w.heap.size ≤ k) w e w' (aUnpack s.data.toList) := by
  have hsl : s.data.toList.length = s.size := by simp
  have hb0 := below_new w (.cells #[.bool false, .bool false, .slice none 0 0, .slice none 0 0, .slice none 0 0] 25)
  have X5 : Box (w.alloc (.cells #[.bool false, .bool false, .slice none 0 0, .slice none 0 0, .slice none 0 0] 25)) w.heap.size (.bool false) (.bool false) (.slice none 0 0) (.slice none 0 0) (.slice none 0 0) := heap_alloc_new w _
  have hz1 : (w.alloc (.cells #[.bool false, .bool false, .slice none 0 0, .slice none 0 0, .slice none 0 0] 25)).heap.size = w.heap.size + 1 := by simp
  have HX := hid X5
  have HB := hid hb0
  obtain ⟨⟨f0, f1, f2, f3, f4⟩, fz⟩ := (X5).all
  have fz0 := fz 0
  have fz1 := fz 1
  have fz2 := fz 2
  have fz3 := fz 3
  have fz4 := fz 4
  by_cases hb : 16384 < s.size
  · have hb' : (16384 : Int) < s.size := by omega
    rw [show aUnpack s.data.toList = (zeroS, 16384, 4) by unfold aUnpack; rw [if_pos (by omega)]]
    clear hsl X5 fz hb0 HX hz1
    go_enter Tryz.func21, Tryz.ntmps21
    go_wp2_with fail
    exact bodyPost_ret (v := .tuple #[.agg #[.bool false, .bool false, .slice none 0 0, .slice none 0 0, .slice none 0 0], .int .i64 16384, .int .i64 4]) (by simp [results, Tryz.results21, go_sem, f0, f1, f2, f3, f4]) rfl ⟨_, _, _, _, _, rfl, sin_zero _ _, HB.out⟩
  · have hb' : ¬ (16384 : Int) < s.size := by omega
    have CS := refSkip_any s 0 (w.alloc (.cells #[.bool false, .bool false, .slice none 0 0, .slice none 0 0, .slice none 0 0] 25)) (by omega) (by omega)
    rw [List.drop_zero, show ((0 : Nat) : Int) = 0 from rfl] at CS
    have hE : aUnpack s.data.toList = match skip s.data.toList with
        | [] => (zeroS, s.size, 2)
        | c :: r => if c ≠ 123 then (zeroS, s.size - (c :: r).length, 3) else
          match aSome isB64S 125 r with
          | .err e q => (zeroS, s.size - q.length, e)
          | .ok l q => match ub64 l with
            | none => (zeroS, s.size - q.length, 3)
            | some b => match pGet b with
              | (t, _, 0) => aEnd s.size t (q.drop 1)
              | (_, _, e) => (zeroS, s.size - q.length, e) := by
      unfold aUnpack; rw [if_neg (by omega), hsl]; rfl
    rw [hE]
    clear hE
    have hskl := (Tail.skip s.data.toList).le
    have hska := (Tail.skip s.data.toList).at_
    rw [hsl] at hskl hska
    cases hq : skip s.data.toList with
    | nil =>
      rw [hq] at CS
      have hn0 : ((s.size - ([] : List UInt8).length : Nat) : Int) = s.size := by simp
      rw [hn0] at CS
      have CS := hid CS
      show Calls Tryz.prog _ _ w fun e w' => REnd (fun k => w.heap.size ≤ k) w e w' (zeroS, s.size, 2)
      clear hq hn0 hskl hska X5 hb0 fz hsl
      go_enter Tryz.func21, Tryz.ntmps21
      go_wp2_with (first | ((with_reducible refine CS.out.mono ?_); rintro e w1 ⟨rfl, rfl⟩))
      exact bodyPost_ret (v := .tuple #[.agg #[.bool false, .bool false, .slice none 0 0, .slice none 0 0, .slice none 0 0], .int .i64 s.size, .int .i64 2]) (by simp [results, Tryz.results21, go_sem, f0, f1, f2, f3, f4]) rfl ⟨_, _, _, _, _, rfl, sin_zero _ _, HB.out⟩
    | cons c r =>
      rw [hq] at CS hskl hska
      have hcl : (c :: r).length = r.length + 1 := by simp
      obtain ⟨a, ha⟩ : ∃ a, a = s.size - (c :: r).length := ⟨_, rfl⟩
      rw [← ha] at CS hska
      have CS := hid CS
      obtain ⟨hal, hd1, hsx0, hra⟩ := str_at hska
      have hsx := hsx0 hal
      have hlt : (a : Int) < s.size := by omega
      have hge : ¬ (s.size : Int) ≤ a := by omega
      have HRA := hid hra
      have HA := hid ha
      clear ha hsx0 hra hska hskl hcl hq
      by_cases hc : c ≠ 123
      · have hne : ((c.toNat : Int) == 123) = false := by
          rw [beq_eq_false_iff_ne]
          intro e
          exact hc (UInt8.toNat_inj.1 (by show c.toNat = 123; omega))
        show Calls Tryz.prog _ _ w fun e w' => REnd (fun k => w.heap.size ≤ k) w e w' (if c ≠ 123 then (zeroS, s.size - (c :: r).length, 3) else _)
        rw [if_pos hc, ← HA.out]
        clear hd1 X5 hb0 fz hsl hc
        go_enter Tryz.func21, Tryz.ntmps21
        go_wp2_with (first | ((with_reducible refine CS.out.mono ?_); rintro e w1 ⟨rfl, rfl⟩))
        exact bodyPost_ret (v := .tuple #[.agg #[.bool false, .bool false, .slice none 0 0, .slice none 0 0, .slice none 0 0], .int .i64 a, .int .i64 3]) (by simp [results, Tryz.results21, go_sem, f0, f1, f2, f3, f4]) rfl ⟨_, _, _, _, _, rfl, sin_zero _ _, HB.out⟩
      · have hc : c = 123 := Classical.not_not.1 hc
        have hne : ((c.toNat : Int) == 123) = true := by rw [hc]; rfl
        have hwa : IntKind.i64.wrap ((a : Int) + 1) = (a : Int) + 1 := IntWalk.i64_in _ (by omega)
        have CB := b643_any s 125 (a + 1) (w.alloc (.cells #[.bool false, .bool false, .slice none 0 0, .slice none 0 0, .slice none 0 0] 25)) (by omega) (by omega)
        rw [hd1, show ((a + 1 : Nat) : Int) = (a : Int) + 1 by omega] at CB
        show Calls Tryz.prog _ _ w fun e w' => REnd (fun k => w.heap.size ≤ k) w e w' (if c ≠ 123 then (zeroS, s.size - (c :: r).length, 3) else _)
        rw [if_neg (by simp [hc])]
        have herr : ∀ (k : Nat) (q : List UInt8), 2 ≤ k → (Calls Tryz.prog 39 #[.string s, .int .i64 ((a : Int) + 1), .int .u8 ((125 : UInt8).toNat : Nat)] (w.alloc (.cells #[.bool false, .bool false, .slice none 0 0, .slice none 0 0, .slice none 0 0] 25)) fun e w' => BEnd s.size (w.alloc (.cells #[.bool false, .bool false, .slice none 0 0, .slice none 0 0, .slice none 0 0] 25)) e w' (.err k q)) →
            Calls Tryz.prog 21 #[.string s] w fun e w' => REnd (fun k => w.heap.size ≤ k) w e w' (zeroS, s.size - q.length, k) := by
          intro k q hk C
          have hk0 : ¬ ((k : Int) = 0) := by omega
          have C := hid C
          clear CB hd1 X5 hb0 fz hsl hc HRA HA f0 f1 f2 f3 f4 fz0 fz1 fz2 fz3 fz4
          go_enter Tryz.func21, Tryz.ntmps21
          go_wp2_with (first | ((with_reducible refine CS.out.mono ?_); rintro e w1 ⟨rfl, rfl⟩))
          refine C.out.mono ?_
          rintro e w3 ⟨hk1, hk2, rfl, hb3⟩
          have X0 := heap_alloc_new w3 (.cells #[.slice none 0 0, .int .i64 0, .int .i64 0] 59)
          obtain ⟨⟨d0, d1, d2⟩, dz⟩ := box3b X0
          have dz0 := dz 0
          have dz1 := dz 1
          have dz2 := dz 2
          have XB := heap_alloc_new w3 (.cells #[.slice none 0 0, .int .i64 (s.size - q.length : Nat), .int .i64 k] 59)
          obtain ⟨⟨g0, g1, g2⟩, gz⟩ := box3b XB
          have hbx := below_new w3 (.cells #[.slice none 0 0, .int .i64 (s.size - q.length : Nat), .int .i64 k] 59)
          obtain ⟨⟨f0, f1, f2, f3, f4⟩, fz⟩ := ((HX.out.old hb3).old hbx).all
          have fz0 := fz 0
          have fz1 := fz 1
          have fz2 := fz 2
          have fz3 := fz 3
          have fz4 := fz 4
          have hw3 := HB.out.trans (hb3.mono HB.out.size)
          have hz3 : w.heap.size + 1 ≤ w3.heap.size := by have := hb3.size; omega
          have HF := hid (put5_below (hw3.trans (hbx.mono hw3.size)) (Nat.le_refl _) (.bool false) (.bool false) (.slice none 0 0) (.slice none 0 0) (.slice none 0 0)).drew
          clear dz gz fz X0 XB hw3 hb3
          go_wp2_with fail
          generalize (w3.alloc (.cells #[.slice none 0 0, .int .i64 (s.size - q.length : Nat), .int .i64 k] 59)) = G at *
          clear hbx d0 d1 d2 dz0 dz1 dz2
          go_region
          all_goals
            go_wp2_with fail
            exact bodyPost_ret (v := .tuple #[.agg #[.bool false, .bool false, .slice none 0 0, .slice none 0 0, .slice none 0 0], .int .i64 (s.size - q.length : Nat), .int .i64 k]) (by simp [results, Tryz.results21, go_sem, f0, f1, f2, f3, f4]) rfl ⟨_, _, _, _, _, rfl, sin_zero _ _, HF.out⟩
        cases hS : aSome isB64S 125 r with
        | err k q =>
          rw [hS] at CB
          exact herr k q (aSome_err hS).1 CB
        | ok l q =>
          rw [hS] at CB
          show Calls Tryz.prog _ _ w fun e w' => REnd (fun k => w.heap.size ≤ k) w e w' (match ub64 l with
            | none => (zeroS, s.size - q.length, 3)
            | some b => match pGet b with
              | (t, _, 0) => aEnd s.size t (q.drop 1)
              | (_, _, e) => (zeroS, s.size - q.length, e))
          cases hU : ub64 l with
          | none =>
            rw [show aMean ub64 (.ok l q) = .err 3 q by unfold aMean; simp only [hU]] at CB
            exact herr 3 q (by omega) CB
          | some b =>
            rw [show aMean ub64 (.ok l q) = .ok b (q.drop 1) by unfold aMean; simp only [hU]] at CB
            obtain ⟨-, q2, hq2⟩ := aSome_len hS
            subst hq2
            have htl := aSome_fine isB64S 125 r
            rw [hS] at htl
            have htl2 : Tail q2 r := (Tail.cons 125 q2).trans htl
            have hat := drop_tail (s := s) hd1 htl2
            have hql := (show Tail (125 :: q2) r from htl).le
            rw [List.length_cons] at hql
            rw [show List.drop 1 (125 :: q2) = q2 from rfl] at CB ⊢
            rw [show s.size - (125 :: q2).length = s.size - q2.length - 1 by rw [List.length_cons]; omega]
            have hm1 : IntKind.i64.wrap (((s.size - q2.length : Nat) : Int) - 1) = ((s.size - q2.length - 1 : Nat) : Int) := by have := HRA.out; rw [IntWalk.i64_in _ (by omega)]; omega
            obtain ⟨at_, hat_⟩ : ∃ x, x = s.size - q2.length := ⟨_, rfl⟩
            rw [← hat_] at hat hm1 ⊢
            have CB : Hid (Calls Tryz.prog 39 #[.string s, .int .i64 ((a : Int) + 1), .int .u8 ((125 : UInt8).toNat : Nat)] (w.alloc (.cells #[.bool false, .bool false, .slice none 0 0, .slice none 0 0, .slice none 0 0] 25)) fun e w' => ∃ A c, e = .returned (.agg #[.slice A b.length c, .int .i64 at_, .int .i64 0]) ∧ b.length ≤ c ∧ RIn w' (fun k => (w.alloc (.cells #[.bool false, .bool false, .slice none 0 0, .slice none 0 0, .slice none 0 0] 25)).heap.size ≤ k) 1 A b.length (Lib.byteCells b) ∧ Below (w.alloc (.cells #[.bool false, .bool false, .slice none 0 0, .slice none 0 0, .slice none 0 0] 25)).heap.size (w.alloc (.cells #[.bool false, .bool false, .slice none 0 0, .slice none 0 0, .slice none 0 0] 25)) w') := hid (by rw [hat_]; exact CB)
            show Calls Tryz.prog _ _ w fun e w' => REnd (fun k => w.heap.size ≤ k) w e w' (match pGet b with
              | (t, _, 0) => aEnd s.size t q2
              | (_, _, e) => (zeroS, at_ - 1, e))
            obtain ⟨y, hy⟩ : ∃ y, y = pGet b := ⟨_, rfl⟩
            obtain ⟨t, p, k⟩ := y
            have HPG := hid hy
            rw [← hy]
            have HAT := hid (And.intro hat (And.intro hat_ hql))
            clear hat hat_ hql htl htl2 hS hU hy hd1 herr X5 hb0 fz hsl hc f0 f1 f2 f3 f4 fz0 fz1 fz2 fz3 fz4 HA
            have hkd : k = 0 ∨ 1 ≤ k := by omega
            have hend : (match ((t, p, k) : SX × Nat × Nat) with
              | (t, _, 0) => aEnd s.size t q2
              | (_, _, e) => (zeroS, at_ - 1, e)) = if k = 0 then aEnd s.size t q2 else (zeroS, at_ - 1, k) := by
              rcases hkd with rfl | h
              · rfl
              · obtain ⟨k, rfl⟩ : ∃ j, k = j + 1 := ⟨k - 1, by omega⟩
                rfl
            rw [hend]
            clear hend
            generalize hY : (if k = 0 then aEnd s.size t q2 else (zeroS, at_ - 1, k)) = Y
            have HY := hid hY
            clear hY
            go_enter Tryz.func21, Tryz.ntmps21
            go_wp2_with (first | ((with_reducible refine CS.out.mono ?_); rintro e w1 ⟨rfl, rfl⟩))
            refine CB.out.mono ?_
            rintro e w3 ⟨A, cc, rfl, hcc, hrow, hb3⟩
            have X0 := heap_alloc_new w3 (.cells #[.slice none 0 0, .int .i64 0, .int .i64 0] 59)
            obtain ⟨⟨d0, d1, d2⟩, dz⟩ := box3b X0
            have dz0 := dz 0
            have dz1 := dz 1
            have dz2 := dz 2
            have XB := heap_alloc_new w3 (.cells #[.slice A b.length cc, .int .i64 at_, .int .i64 0] 59)
            obtain ⟨⟨g0, g1, g2⟩, gz⟩ := box3b XB
            have HXB := hid XB
            have hbx := below_new w3 (.cells #[.slice A b.length cc, .int .i64 at_, .int .i64 0] 59)
            have hw3 := HB.out.trans (hb3.mono HB.out.size)
            have HB4 := hid (hw3.trans (hbx.mono hw3.size))
            have HX4 := hid ((HX.out.old hb3).old hbx)
            have hrow2 := hrow.old (by omega) hbx
            have CG : Hid (Calls Tryz.prog 40 #[.slice A b.length cc] (w3.alloc (.cells #[.slice A b.length cc, .int .i64 at_, .int .i64 0] 59)) fun e w' => REnd (fun k => w.heap.size + 1 ≤ k) (w3.alloc (.cells #[.slice A b.length cc, .int .i64 at_, .int .i64 0] 59)) e w' (pGet b)) := by
              have hz3 := hbx.size
              by_cases hb0 : b.length = 0
              · have hbn : b = [] := List.eq_nil_of_length_eq_zero hb0
                refine hid ((refGet_any A b.length cc b _ (hrow2.reads (by omega)) hcc).mono fun e w' h => ?_)
                obtain ⟨v0, v1, v2, v3, v4, he, hs2, hb2⟩ := h
                have hz : (pGet b).1 = zeroS := by rw [hbn]; unfold pGet; simp [pVal]
                rw [hz] at hs2
                exact ⟨v0, v1, v2, v3, v4, he, by rw [hz]; exact sin_zero_any hs2, hb2⟩
              · obtain ⟨ad, hA, hS, -⟩ := hrow2.2 (by omega)
                have hS : (w.alloc (.cells #[.bool false, .bool false, .slice none 0 0, .slice none 0 0, .slice none 0 0] 25)).heap.size ≤ ad.block := hS
                refine hid ((refGet_lo A b.length cc b (w.heap.size + 1) _ (hrow2.reads (by omega)) (fun ad2 e2 => by rw [hA] at e2; injection e2 with e2; subst e2; omega) hcc).mono fun e w' h => ?_)
                obtain ⟨v0, v1, v2, v3, v4, he, hs2, hb2⟩ := h
                have hz4 := hw3.size
                exact ⟨v0, v1, v2, v3, v4, he, hs2.more fun k hk => by have hz5 := hb3.size; omega, hb2⟩
            rw [← HPG.out] at CG
            have hz3 : w.heap.size + 1 ≤ w3.heap.size := by have := hb3.size; omega
            clear dz gz X0 XB hw3 hb3 hrow hrow2
            go_wp2_with fail
            generalize hGG : (w3.alloc (.cells #[.slice A b.length cc, .int .i64 at_, .int .i64 0] 59)) = G at *
            have hzG : G.heap.size = w3.heap.size + 1 := by rw [← hGG]; simp
            clear hGG
            clear hbx d0 d1 d2 dz0 dz1 dz2
            refine CG.out.mono ?_
            rintro e w5 ⟨v0, v1, v2, v3, v4, rfl, hin, hb5⟩
            obtain ⟨l', h', hi', da', ks', B1, m1, j1, B2, m2, j2, B3, m3, j3, eZ, eE⟩ := hin.form_
            injection eE with eE0 eE; injection eE with eE1 eE; injection eE with eE2 eE; injection eE with eE3 eE; injection eE with eE4 eE
            subst eE0 eE1 eE2 eE3 eE4
            clear eE eZ
            have X0 : Box (w5.alloc (.cells #[.bool false, .bool false, .slice none 0 0, .slice none 0 0, .slice none 0 0] 25)) w5.heap.size (.bool false) (.bool false) (.slice none 0 0) (.slice none 0 0) (.slice none 0 0) := heap_alloc_new w5 _
            obtain ⟨⟨d0, d1, d2, d3, d4⟩, dz⟩ := (X0).all
            have dz0 := dz 0
            have dz1 := dz 1
            have dz2 := dz 2
            have dz3 := dz 3
            have dz4 := dz 4
            have X7 : Box (w5.alloc (.cells #[.bool l', .bool h', .slice B1 m1 j1, .slice B2 m2 j2, .slice B3 m3 j3] 25)) w5.heap.size (.bool l') (.bool h') (.slice B1 m1 j1) (.slice B2 m2 j2) (.slice B3 m3 j3) := heap_alloc_new w5 _
            have hbx := below_new w5 (.cells #[.bool l', .bool h', .slice B1 m1 j1, .slice B2 m2 j2, .slice B3 m3 j3] 25)
            have hw5 := HB4.out.trans (hb5.mono HB4.out.size)
            have HB6 := hid (hw5.trans (hbx.mono hw5.size))
            have HX6 := hid ((HX4.out.old hb5).old hbx)
            obtain ⟨⟨g0, g1, g2⟩, -⟩ := box3b (below_at hbx (below_at hb5 HXB.out))
            have hin6 := hin.old hbx
            have hz5 : w3.heap.size + 1 ≤ w5.heap.size := by have := hb5.size; omega
            clear dz X0 hw5 hb5 hin
            rcases hkd with hk | hk
            · subst hk
              obtain ⟨e0, e1, e2, e3, e4⟩ := X7.all.1
              obtain ⟨hfm, hmay, hp0⟩ := pGetOk HPG.out.symm
              have hok := may_ok hmay
              have D := ended_ok s t q2 0 _ _ _ hin6 (by omega) at_ HAT.out.2.1 HAT.out.1 (by have := HAT.out.2.2; have := HRA.out; omega) (by have := hok.2.1; omega) (by have := hok.2.2.2; omega)
              have hY := HY.out
              rw [if_pos rfl] at hY
              rw [hY] at D
              clear HY hY
              have D : Hid (Calls Tryz.prog 36 #[.string s, .agg #[.bool l', .bool h', .slice B1 m1 j1, .slice B2 m2 j2, .slice B3 m3 j3, .int .i64 at_, .int .i64 0, .int .i64 0]] (w5.alloc (.cells #[.bool l', .bool h', .slice B1 m1 j1, .slice B2 m2 j2, .slice B3 m3 j3] 25)) fun e w' => REnd (fun k => w.heap.size + 1 ≤ k) (w5.alloc (.cells #[.bool l', .bool h', .slice B1 m1 j1, .slice B2 m2 j2, .slice B3 m3 j3] 25)) e w' Y) := hid D
              clear hfm hmay hp0 hok hin6 X7 hbx
              go_wp2_with fail
              refine D.out.mono ?_
              clear D g0 g1 g2 e0 e1 e2 e3 e4 d0 d1 d2 d3 d4 dz0 dz1 dz2 dz3 dz4
              generalize (w5.alloc (.cells #[.bool l', .bool h', .slice B1 m1 j1, .slice B2 m2 j2, .slice B3 m3 j3] 25)) = w6 at *
              rintro e w9 ⟨v0, v1, v2, v3, v4, rfl, hin, hb9⟩
              obtain ⟨l', h', hi', da', ks', B1, m1, j1, B2, m2, j2, B3, m3, j3, eZ, eE⟩ := hin.form_
              injection eE with eE0 eE; injection eE with eE1 eE; injection eE with eE2 eE; injection eE with eE3 eE; injection eE with eE4 eE
              subst eE0 eE1 eE2 eE3 eE4
              clear eE eZ
              obtain ⟨⟨f0, f1, f2, f3, f4⟩, fz⟩ := (HX6.out.old hb9).all
              have fz0 := fz 0
              have fz1 := fz 1
              have fz2 := fz 2
              have fz3 := fz 3
              have fz4 := fz 4
              have HF := hid (put5_below (HB6.out.trans (hb9.mono HB6.out.size)) (Nat.le_refl _) (.bool l') (.bool h') (.slice B1 m1 j1) (.slice B2 m2 j2) (.slice B3 m3 j3))
              have HI := hid ((hin.keep (w' := put5 w9 w.heap.size (.bool l') (.bool h') (.slice B1 m1 j1) (.slice B2 m2 j2) (.slice B3 m3 j3)) fun q hq => put5_far q (by have hq : w.heap.size + 1 ≤ q.block := hq; omega)).more (S' := fun k => w.heap.size ≤ k) fun k hk => by have hk : w.heap.size + 1 ≤ k := hk; omega)
              clear fz hb9 hin
              go_wp2_with fail
              exact bodyPost_ret (v := .tuple #[.agg #[.bool l', .bool h', .slice B1 m1 j1, .slice B2 m2 j2, .slice B3 m3 j3], .int .i64 Y.2.1, .int .i64 Y.2.2]) (by simp [results, Tryz.results21, go_sem, f0, f1, f2, f3, f4]) rfl ⟨_, _, _, _, _, rfl, HI.out, HF.out⟩
            · have hY := HY.out
              rw [if_neg (by omega)] at hY
              subst hY
              clear HY
              have hk0 : ¬ ((k : Int) = 0) := by omega
              obtain ⟨⟨f0, f1, f2, f3, f4⟩, fz⟩ := (HX6.out).all
              have fz0 := fz 0
              have fz1 := fz 1
              have fz2 := fz 2
              have fz3 := fz 3
              have fz4 := fz 4
              have HF := hid (put5_below HB6.out (Nat.le_refl _) (.bool false) (.bool false) (.slice none 0 0) (.slice none 0 0) (.slice none 0 0)).drew
              clear fz hin6 X7 hbx
              go_wp2_with fail
              generalize (w5.alloc (.cells #[.bool l', .bool h', .slice B1 m1 j1, .slice B2 m2 j2, .slice B3 m3 j3] 25)) = w6 at *
              clear d0 d1 d2 d3 d4 dz0 dz1 dz2 dz3 dz4
              go_region
              all_goals
                go_wp2_with fail
                exact bodyPost_ret (v := .tuple #[.agg #[.bool false, .bool false, .slice none 0 0, .slice none 0 0, .slice none 0 0], .int .i64 (at_ - 1 : Nat), .int .i64 k]) (by simp [results, Tryz.results21, go_sem, f0, f1, f2, f3, f4]) rfl ⟨_, _, _, _, _, rfl, sin_zero _ _, HF.out⟩
end Go.Proofs.YtcojkmcnigppbaaGreatDoor
