/-
  The contract of the document's answer value (package greffierref03), but for lists. Conditions: at most 2^40 bytes.
-/
import Derived.Test.YtcojkmcnigppbaaGreatDoorM5
set_option linter.unusedVariables false
set_option linter.unusedSimpArgs false
open Go.Lib (hid)
open Go.Proofs.YtcojkmcnigppbaaGreatDoor (zA zB zC zD zE zF)
namespace Go.Proofs.YtcojkmcnigppbaaGreatDoor
open Go Go.Proofs Go.RowKit Sx Oct
set_option maxHeartbeats 4000000 in
set_option maxRecDepth 100000 in
theorem value3_small (f : Nat) (s : ByteArray) (p nd ar : Nat) (w : World) (hs : s.size ≤ 1099511627776) (hp : p ≤ s.size) (hnd : nd ≤ 512) (har : ar ≤ 16)
    (hnl : ∀ r, skip (s.data.toList.drop p) = 40 :: r → 512 ≤ nd ∨ 16 ≤ ar) :
    Calls Tryz.prog 37 #[.string s, .int .i64 p, .int .i64 ((ar : Int) + 1), .int .i64 nd] w fun e w' => RVal w 0 0 s.size e w' (aVal (f + 1) (s.data.toList.drop p) nd ar) := by
  generalize hRR : aVal (f + 1) (s.data.toList.drop p) nd ar = R
  rw [aVal] at hRR
  have hz1 : (w.alloc (.cells #[.bool false, .bool false, .slice none 0 0, .slice none 0 0, .slice none 0 0, .int .i64 0, .int .i64 0, .int .i64 0] 55)).heap.size = w.heap.size + 1 := by simp
  have HB := hid (below_new w (.cells #[.bool false, .bool false, .slice none 0 0, .slice none 0 0, .slice none 0 0, .int .i64 0, .int .i64 0, .int .i64 0] 55))
  have HX : Hid (Box8 (w.alloc (.cells #[.bool false, .bool false, .slice none 0 0, .slice none 0 0, .slice none 0 0, .int .i64 0, .int .i64 0, .int .i64 0] 55)) w.heap.size (.bool false) (.bool false) (.slice none 0 0) (.slice none 0 0) (.slice none 0 0) (.int .i64 0) (.int .i64 0) (.int .i64 0)) := heap_alloc_new w _
  have CS := refSkip_any s p (w.alloc (.cells #[.bool false, .bool false, .slice none 0 0, .slice none 0 0, .slice none 0 0, .int .i64 0, .int .i64 0, .int .i64 0] 55)) hs hp
  have hd1 := drop_tail (s := s) rfl (Tail.skip (s.data.toList.drop p))
  cases hq : skip (s.data.toList.drop p) with
  | nil =>
    rw [hq] at hRR CS
    simp only at hRR
    subst hRR
    have HPL : Hid (((s.size - ([] : List UInt8).length : Nat) : Int) = s.size) := by show _ = _; simp
    rw [HPL.out] at CS
    have CS := hid CS
    clear hd1 hnl hq
    obtain ⟨⟨d0, d1, d2, d3, d4, d5, d6, d7⟩, dz⟩ := HX.out.all
    have dz0 := dz 0
    have dz1 := dz 1
    have dz2 := dz 2
    have dz3 := dz 3
    have dz4 := dz 4
    have dz5 := dz 5
    have dz6 := dz 6
    have dz7 := dz 7
    clear dz
    go_enter Tryz.func37, Tryz.ntmps37
    go_wp2_with ((with_reducible refine CS.out.mono ?_); rintro e w1 ⟨rfl, rfl⟩)
    refine bodyPost_ret (v := .agg #[.bool false, .bool false, .slice none 0 0, .slice none 0 0, .slice none 0 0, .int .i64 s.size, .int .i64 0, .int .i64 2]) (by simp [results, Tryz.results37, go_sem, d0, d1, d2, d3, d4, d5, d6, d7]) rfl ?_
    exact ⟨by omega, by omega, by rw [HPL.out]; first | done | rfl, below_new _ _⟩
  | cons x r =>
    replace hnl : x = 40 → 512 ≤ nd ∨ 16 ≤ ar := fun h => hnl r (by rw [hq, h])
    rw [hq] at hRR CS hd1
    simp only at hRR
    have hsz := tail_size (s := s) rfl (Tail.skip (s.data.toList.drop p))
    rw [hq] at hsz
    obtain ⟨a1, ha1⟩ : ∃ a1 : Nat, s.size - (x :: r).length = a1 := ⟨_, rfl⟩
    rw [ha1] at hd1 CS
    have HPL : Hid (((s.size - (x :: r).length : Nat) : Int) = a1) := by show _ = _; rw [ha1]
    have HLX : Hid ((x :: r).length ≤ 1099511627776) := Nat.le_trans hsz hs
    have CS := hid CS
    have hlt : a1 < s.size := by simp only [List.length_cons] at ha1 hsz; omega
    have hsx : s[a1] = x := by
      have := List.drop_eq_getElem_cons (l := s.data.toList) (i := a1) (by simpa using hlt)
      rw [hd1] at this
      injection this with h1 h2
      exact h1.symm
    have hd2 : s.data.toList.drop (a1 + 1) = r := by rw [← List.drop_drop, hd1]; rfl
    have hlt' : (a1 : Int) < s.size := by omega
    have hge' : ¬ (s.size : Int) ≤ a1 := by omega
    have hwa : IntKind.i64.wrap ((a1 : Int) + 1) = (a1 : Int) + 1 := IntWalk.i64_in _ (by omega)
    have hw1 : IntKind.i64.wrap ((nd : Int) + 1) = (nd : Int) + 1 := IntWalk.i64_in _ (by omega)
    clear ha1 hsz hq
    have CT := tokSign_any x (w.alloc (.cells #[.bool false, .bool false, .slice none 0 0, .slice none 0 0, .slice none 0 0, .int .i64 0, .int .i64 0, .int .i64 0] 55))
    by_cases h40 : x = 40
    · have hlim := hnl h40
      rw [if_neg (by rw [h40]; decide), if_pos (by rcases hlim with h | h; exact .inl h; exact .inr ⟨h40, h⟩)] at hRR
      subst hRR
      have CT := hid CT
      have e40 : ((x.toNat : Int) == 40) = true := by rw [h40]; rfl
      have b40 : ((x.toNat : Int) != 40) = false := by rw [h40]; rfl
      clear hd1 hd2 hnl h40
      by_cases h512 : 512 ≤ nd
      · have hgt : (512 : Int) < (nd : Int) + 1 := by omega
        clear hlim
        obtain ⟨⟨d0, d1, d2, d3, d4, d5, d6, d7⟩, dz⟩ := HX.out.all
        have dz0 := dz 0
        have dz1 := dz 1
        have dz2 := dz 2
        have dz3 := dz 3
        have dz4 := dz 4
        have dz5 := dz 5
        have dz6 := dz 6
        have dz7 := dz 7
        clear dz
        go_enter Tryz.func37, Tryz.ntmps37
        go_wp2_with (first | ((with_reducible refine CS.out.mono ?_); rintro e w1 ⟨rfl, rfl⟩) | ((with_reducible refine CT.out.mono ?_); rintro e w1 ⟨rfl, rfl⟩))
        refine bodyPost_ret (v := .agg #[.bool false, .bool false, .slice none 0 0, .slice none 0 0, .slice none 0 0, .int .i64 a1, .int .i64 0, .int .i64 4]) (by simp [results, Tryz.results37, go_sem, d0, d1, d2, d3, d4, d5, d6, d7]) rfl ?_
        exact ⟨by omega, by omega, by rw [HPL.out]; first | done | rfl, below_new _ _⟩
      · have hgt : ¬ (512 : Int) < (nd : Int) + 1 := by omega
        have har2 : (16 : Int) < (ar : Int) + 1 := by omega
        clear hlim
        obtain ⟨⟨d0, d1, d2, d3, d4, d5, d6, d7⟩, dz⟩ := HX.out.all
        have dz0 := dz 0
        have dz1 := dz 1
        have dz2 := dz 2
        have dz3 := dz 3
        have dz4 := dz 4
        have dz5 := dz 5
        have dz6 := dz 6
        have dz7 := dz 7
        clear dz
        go_enter Tryz.func37, Tryz.ntmps37
        go_wp2_with (first | ((with_reducible refine CS.out.mono ?_); rintro e w1 ⟨rfl, rfl⟩) | ((with_reducible refine CT.out.mono ?_); rintro e w1 ⟨rfl, rfl⟩))
        refine bodyPost_ret (v := .agg #[.bool false, .bool false, .slice none 0 0, .slice none 0 0, .slice none 0 0, .int .i64 a1, .int .i64 0, .int .i64 4]) (by simp [results, Tryz.results37, go_sem, d0, d1, d2, d3, d4, d5, d6, d7]) rfl ?_
        exact ⟨by omega, by omega, by rw [HPL.out]; first | done | rfl, below_new _ _⟩
    have n40 : ¬ (x.toNat : Int) = 40 := fun e => h40 (UInt8.toNat_inj.1 (show x.toNat = 40 by omega))
    have e40 : ((x.toNat : Int) == 40) = false := by rw [beq_eq_false_iff_ne]; exact n40
    have b40 : ((x.toNat : Int) != 40) = true := by rw [bne, e40]; rfl
    clear hnl
    by_cases h91 : x = 91
    · rw [if_neg (by rw [h91]; decide)] at hRR
      have CT := hid CT
      have e91 : ((x.toNat : Int) == 91) = true := by rw [h91]; rfl
      have b91 : ((x.toNat : Int) != 91) = false := by rw [h91]; rfl
      by_cases h512 : 512 ≤ nd
      · rw [if_pos (.inl h512)] at hRR
        subst hRR
        have hgt : (512 : Int) < (nd : Int) + 1 := by omega
        clear hd1 hd2
        obtain ⟨⟨d0, d1, d2, d3, d4, d5, d6, d7⟩, dz⟩ := HX.out.all
        have dz0 := dz 0
        have dz1 := dz 1
        have dz2 := dz 2
        have dz3 := dz 3
        have dz4 := dz 4
        have dz5 := dz 5
        have dz6 := dz 6
        have dz7 := dz 7
        clear dz
        go_enter Tryz.func37, Tryz.ntmps37
        go_wp2_with (first | ((with_reducible refine CS.out.mono ?_); rintro e w1 ⟨rfl, rfl⟩) | ((with_reducible refine CT.out.mono ?_); rintro e w1 ⟨rfl, rfl⟩))
        refine bodyPost_ret (v := .agg #[.bool false, .bool false, .slice none 0 0, .slice none 0 0, .slice none 0 0, .int .i64 a1, .int .i64 0, .int .i64 4]) (by simp [results, Tryz.results37, go_sem, d0, d1, d2, d3, d4, d5, d6, d7]) rfl ?_
        exact ⟨by omega, by omega, by rw [HPL.out]; first | done | rfl, below_new _ _⟩
      rw [if_neg (by intro h; rcases h with h | h; exact h512 h; exact h40 h.1), if_neg h40, if_pos h91] at hRR
      have hgt : ¬ (512 : Int) < (nd : Int) + 1 := by omega
      have C := hinted3_any s (a1 + 1) (nd + 1) (w.alloc (.cells #[.bool false, .bool false, .slice none 0 0, .slice none 0 0, .slice none 0 0, .int .i64 0, .int .i64 0, .int .i64 0] 55)) hs (by omega)
      rw [hd2, show ((nd + 1 : Nat) : Int) = (nd : Int) + 1 by omega, show ((a1 + 1 : Nat) : Int) = (a1 : Int) + 1 by omega] at C
      have C := hid C
      have HRR : Hid (hintRes (aHint r) (nd + 1) = R) := by
        show _ = _
        rw [← hRR]
        unfold hintRes
        rfl
      clear hRR hd1 hd2
      go_enter Tryz.func37, Tryz.ntmps37
      go_wp2_with (first | ((with_reducible refine CS.out.mono ?_); rintro e w1 ⟨rfl, rfl⟩) | ((with_reducible refine CT.out.mono ?_); rintro e w1 ⟨rfl, rfl⟩))
      refine C.out.mono ?_
      intro e w2 hE
      rw [HRR.out] at hE
      cases R with
      | err k rest =>
        obtain ⟨hk1, hk2, rfl, hb2⟩ := hE
        obtain ⟨⟨d0, d1, d2, d3, d4, d5, d6, d7⟩, dz⟩ := (HX.out.old hb2).all
        have dz0 := dz 0
        have dz1 := dz 1
        have dz2 := dz 2
        have dz3 := dz 3
        have dz4 := dz 4
        have dz5 := dz 5
        have dz6 := dz 6
        have dz7 := dz 7
        clear dz
        have HF := hid (put8_below (HB.out.trans (hb2.mono HB.out.size)) (Nat.le_refl _) (.bool false) (.bool false) (.slice none 0 0) (.slice none 0 0) (.slice none 0 0) (.int .i64 (s.size - rest.length : Nat)) (.int .i64 0) (.int .i64 k))
        clear hb2
        go_wp2_with fail
        exact bodyPost_ret (v := .agg #[.bool false, .bool false, .slice none 0 0, .slice none 0 0, .slice none 0 0, .int .i64 (s.size - rest.length : Nat), .int .i64 0, .int .i64 k]) (by simp [results, Tryz.results37, go_sem, d0, d1, d2, d3, d4, d5, d6, d7]) rfl ⟨hk1, hk2, rfl, HF.out⟩
      | ok y rest =>
        obtain ⟨t, nd'⟩ := y
        obtain ⟨v0, v1, v2, v3, v4, rfl, hin, hb2⟩ := hE
        obtain ⟨l', h', hi', da', ks', B1, m1, j1, B2, m2, j2, B3, m3, j3, eZ, eE⟩ := hin.form_
        injection eE with eE0 eE; injection eE with eE1 eE; injection eE with eE2 eE; injection eE with eE3 eE; injection eE with eE4 eE
        subst eE0 eE1 eE2 eE3 eE4
        clear eE eZ
        obtain ⟨⟨d0, d1, d2, d3, d4, d5, d6, d7⟩, dz⟩ := (HX.out.old hb2).all
        have dz0 := dz 0
        have dz1 := dz 1
        have dz2 := dz 2
        have dz3 := dz 3
        have dz4 := dz 4
        have dz5 := dz 5
        have dz6 := dz 6
        have dz7 := dz 7
        clear dz
        have HF := hid (sin_put8 hin hb2 HB.out (Nat.zero_le _) hz1 (.int .i64 (s.size - rest.length : Nat)) (.int .i64 nd') (.int .i64 0))
        clear hb2 hin
        go_wp2_with fail
        exact bodyPost_ret (v := .agg #[.bool l', .bool h', .slice B1 m1 j1, .slice B2 m2 j2, .slice B3 m3 j3, .int .i64 (s.size - rest.length : Nat), .int .i64 nd', .int .i64 0]) (by simp [results, Tryz.results37, go_sem, d0, d1, d2, d3, d4, d5, d6, d7]) rfl ⟨_, _, _, _, _, rfl, HF.out⟩
    have n91 : ¬ (x.toNat : Int) = 91 := fun e => h91 (UInt8.toNat_inj.1 (show x.toNat = 91 by omega))
    have e91 : ((x.toNat : Int) == 91) = false := by rw [beq_eq_false_iff_ne]; exact n91
    have b91 : ((x.toNat : Int) != 91) = true := by rw [bne, e91]; rfl
    by_cases h34 : x = 34
    · rw [if_neg (by rw [h34]; decide)] at hRR
      have CT := hid CT
      have e34 : ((x.toNat : Int) == 34) = true := by rw [h34]; rfl
      have b34 : ((x.toNat : Int) != 34) = false := by rw [h34]; rfl
      by_cases h512 : 512 ≤ nd
      · rw [if_pos (.inl h512)] at hRR
        subst hRR
        have hgt : (512 : Int) < (nd : Int) + 1 := by omega
        clear hd1 hd2
        obtain ⟨⟨d0, d1, d2, d3, d4, d5, d6, d7⟩, dz⟩ := HX.out.all
        have dz0 := dz 0
        have dz1 := dz 1
        have dz2 := dz 2
        have dz3 := dz 3
        have dz4 := dz 4
        have dz5 := dz 5
        have dz6 := dz 6
        have dz7 := dz 7
        clear dz
        go_enter Tryz.func37, Tryz.ntmps37
        go_wp2_with (first | ((with_reducible refine CS.out.mono ?_); rintro e w1 ⟨rfl, rfl⟩) | ((with_reducible refine CT.out.mono ?_); rintro e w1 ⟨rfl, rfl⟩))
        refine bodyPost_ret (v := .agg #[.bool false, .bool false, .slice none 0 0, .slice none 0 0, .slice none 0 0, .int .i64 a1, .int .i64 0, .int .i64 4]) (by simp [results, Tryz.results37, go_sem, d0, d1, d2, d3, d4, d5, d6, d7]) rfl ?_
        exact ⟨by omega, by omega, by rw [HPL.out]; first | done | rfl, below_new _ _⟩
      rw [if_neg (by intro h; rcases h with h | h; exact h512 h; exact h40 h.1), if_neg h40, if_neg h91] at hRR
      have hgt : ¬ (512 : Int) < (nd : Int) + 1 := by omega
      have C := plain3_any s a1 (w.alloc (.cells #[.bool false, .bool false, .slice none 0 0, .slice none 0 0, .slice none 0 0, .int .i64 0, .int .i64 0, .int .i64 0] 55)) hs (by omega)
      rw [hd1] at C
      cases hP : aPlain (x :: r) with
      | err k q =>
        rw [hP] at C hRR
        have C := hid C
        subst hRR
        clear hP hd1 hd2
        go_enter Tryz.func37, Tryz.ntmps37
        go_wp2_with (first | ((with_reducible refine CS.out.mono ?_); rintro e w1 ⟨rfl, rfl⟩) | ((with_reducible refine CT.out.mono ?_); rintro e w1 ⟨rfl, rfl⟩))
        refine C.out.mono ?_
        rintro e w2 ⟨hk1, hk2, rfl, hb2⟩
        have hk0 : ¬ ((k : Int) = 0) := by omega
        have hw2 := HB.out.trans (hb2.mono HB.out.size)
        have hbx := below_new w2 (.cells #[.slice none 0 0, .int .i64 (s.size - q.length : Nat), .int .i64 k] 59)
        have X0 := heap_alloc_new w2 (.cells #[.slice none 0 0, .int .i64 0, .int .i64 0] 59)
        obtain ⟨⟨f0, f1, f2⟩, fz⟩ := box3b X0
        have fz0 := fz 0
        have fz1 := fz 1
        have fz2 := fz 2
        obtain ⟨⟨d0, d1, d2, d3, d4, d5, d6, d7⟩, dz⟩ := ((HX.out.old hb2).old hbx).all
        have dz0 := dz 0
        have dz1 := dz 1
        have dz2 := dz 2
        have dz3 := dz 3
        have dz4 := dz 4
        have dz5 := dz 5
        have dz6 := dz 6
        have dz7 := dz 7
        clear dz
        have hw3 := hw2.trans (hbx.mono hw2.size)
        have HF := hid (put8_below hw3 (Nat.le_refl _) (.bool false) (.bool false) (.slice none 0 0) (.slice none 0 0) (.slice none 0 0) (.int .i64 (s.size - q.length : Nat)) (.int .i64 0) (.int .i64 k))
        clear fz X0 hbx hb2
        go_wp2_with fail
        exact bodyPost_ret (v := .agg #[.bool false, .bool false, .slice none 0 0, .slice none 0 0, .slice none 0 0, .int .i64 (s.size - q.length : Nat), .int .i64 0, .int .i64 k]) (by simp [results, Tryz.results37, go_sem, d0, d1, d2, d3, d4, d5, d6, d7]) rfl ⟨hk1, hk2, rfl, HF.out⟩
      | ok da q =>
        rw [hP] at C hRR
        have C := hid C
        subst hRR
        have HB1 := hid (aPlain_len hP HLX.out)
        clear hP hd1 hd2
        go_enter Tryz.func37, Tryz.ntmps37
        go_wp2_with (first | ((with_reducible refine CS.out.mono ?_); rintro e w1 ⟨rfl, rfl⟩) | ((with_reducible refine CT.out.mono ?_); rintro e w1 ⟨rfl, rfl⟩))
        refine C.out.mono ?_
        rintro e w2 ⟨A5, c5, rfl, hc5, hda, hb2⟩
        have hw2 := HB.out.trans (hb2.mono HB.out.size)
        have hbx := below_new w2 (.cells #[.slice A5 da.length c5, .int .i64 (s.size - q.length : Nat), .int .i64 0] 59)
        have X0 := heap_alloc_new w2 (.cells #[.slice none 0 0, .int .i64 0, .int .i64 0] 59)
        obtain ⟨⟨f0, f1, f2⟩, fz⟩ := box3b X0
        have fz0 := fz 0
        have fz1 := fz 1
        have fz2 := fz 2
        obtain ⟨⟨d0, d1, d2, d3, d4, d5, d6, d7⟩, dz⟩ := ((HX.out.old hb2).old hbx).all
        have dz0 := dz 0
        have dz1 := dz 1
        have dz2 := dz 2
        have dz3 := dz 3
        have dz4 := dz 4
        have dz5 := dz 5
        have dz6 := dz 6
        have dz7 := dz 7
        clear dz
        have hw3 := hw2.trans (hbx.mono hw2.size)
        have r2 := (hda.size_ (by omega)).keep (w' := w2.alloc (.cells #[.slice A5 da.length c5, .int .i64 (s.size - q.length : Nat), .int .i64 0] 59)) fun p hp => hbx.cell hp.2
        have hiF : SIn (put8 (w2.alloc (.cells #[.slice A5 da.length c5, .int .i64 (s.size - q.length : Nat), .int .i64 0] 59)) w.heap.size (.bool false) (.bool false) (.slice none 0 0) (.slice A5 da.length c5) (.slice none 0 0) (.int .i64 (s.size - q.length : Nat)) (.int .i64 ((nd : Int) + 1)) (.int .i64 0)) (fun k => (0 ≤ k ∧ k < 0) ∨ w.heap.size ≤ k) (.mk false false [] da []) [.bool false, .bool false, .slice none 0 0, .slice A5 da.length c5, .slice none 0 0] :=
          .mk (xs := []) RIn.none_ ⟨Nat.le_refl _, by omega⟩ ((r2.keep fun q hq => put8_far q (by omega)).more fun k hk => .inr (by omega)) ⟨hc5, HB1.out⟩ RIn.none_ ⟨Nat.le_refl _, by omega⟩ rfl (fun i t hit => by simp at hit)
        have hbF := put8_below hw3 (Nat.le_refl _) (.bool false) (.bool false) (.slice none 0 0) (.slice A5 da.length c5) (.slice none 0 0) (.int .i64 (s.size - q.length : Nat)) (.int .i64 ((nd : Int) + 1)) (.int .i64 0)
        have HF := hid (And.intro hiF hbF)
        have ec : ((nd + 1 : Nat) : Int) = (nd : Int) + 1 := by omega
        have HEC := hid ec
        clear fz X0 hbx hb2 r2 hiF hbF hda ec
        go_wp2_with fail
        refine bodyPost_ret (v := .agg #[.bool false, .bool false, .slice none 0 0, .slice A5 da.length c5, .slice none 0 0, .int .i64 (s.size - q.length : Nat), .int .i64 ((nd : Int) + 1), .int .i64 0]) (by simp [results, Tryz.results37, go_sem, d0, d1, d2, d3, d4, d5, d6, d7]) rfl ?_
        exact ⟨_, _, _, _, _, by rw [HEC.out], HF.out⟩
    have n34 : ¬ (x.toNat : Int) = 34 := fun e => h34 (UInt8.toNat_inj.1 (show x.toNat = 34 by omega))
    have e34 : ((x.toNat : Int) == 34) = false := by rw [beq_eq_false_iff_ne]; exact n34
    have b34 : ((x.toNat : Int) != 34) = true := by rw [bne, e34]; rfl
    by_cases h35 : x = 35
    · rw [if_neg (by rw [h35]; decide)] at hRR
      have CT := hid CT
      have e35 : ((x.toNat : Int) == 35) = true := by rw [h35]; rfl
      have b35 : ((x.toNat : Int) != 35) = false := by rw [h35]; rfl
      by_cases h512 : 512 ≤ nd
      · rw [if_pos (.inl h512)] at hRR
        subst hRR
        have hgt : (512 : Int) < (nd : Int) + 1 := by omega
        clear hd1 hd2
        obtain ⟨⟨d0, d1, d2, d3, d4, d5, d6, d7⟩, dz⟩ := HX.out.all
        have dz0 := dz 0
        have dz1 := dz 1
        have dz2 := dz 2
        have dz3 := dz 3
        have dz4 := dz 4
        have dz5 := dz 5
        have dz6 := dz 6
        have dz7 := dz 7
        clear dz
        go_enter Tryz.func37, Tryz.ntmps37
        go_wp2_with (first | ((with_reducible refine CS.out.mono ?_); rintro e w1 ⟨rfl, rfl⟩) | ((with_reducible refine CT.out.mono ?_); rintro e w1 ⟨rfl, rfl⟩))
        refine bodyPost_ret (v := .agg #[.bool false, .bool false, .slice none 0 0, .slice none 0 0, .slice none 0 0, .int .i64 a1, .int .i64 0, .int .i64 4]) (by simp [results, Tryz.results37, go_sem, d0, d1, d2, d3, d4, d5, d6, d7]) rfl ?_
        exact ⟨by omega, by omega, by rw [HPL.out]; first | done | rfl, below_new _ _⟩
      rw [if_neg (by intro h; rcases h with h | h; exact h512 h; exact h40 h.1), if_neg h40, if_neg h91] at hRR
      have hgt : ¬ (512 : Int) < (nd : Int) + 1 := by omega
      have C := plain3_any s a1 (w.alloc (.cells #[.bool false, .bool false, .slice none 0 0, .slice none 0 0, .slice none 0 0, .int .i64 0, .int .i64 0, .int .i64 0] 55)) hs (by omega)
      rw [hd1] at C
      cases hP : aPlain (x :: r) with
      | err k q =>
        rw [hP] at C hRR
        have C := hid C
        subst hRR
        clear hP hd1 hd2
        go_enter Tryz.func37, Tryz.ntmps37
        go_wp2_with (first | ((with_reducible refine CS.out.mono ?_); rintro e w1 ⟨rfl, rfl⟩) | ((with_reducible refine CT.out.mono ?_); rintro e w1 ⟨rfl, rfl⟩))
        refine C.out.mono ?_
        rintro e w2 ⟨hk1, hk2, rfl, hb2⟩
        have hk0 : ¬ ((k : Int) = 0) := by omega
        have hw2 := HB.out.trans (hb2.mono HB.out.size)
        have hbx := below_new w2 (.cells #[.slice none 0 0, .int .i64 (s.size - q.length : Nat), .int .i64 k] 59)
        have X0 := heap_alloc_new w2 (.cells #[.slice none 0 0, .int .i64 0, .int .i64 0] 59)
        obtain ⟨⟨f0, f1, f2⟩, fz⟩ := box3b X0
        have fz0 := fz 0
        have fz1 := fz 1
        have fz2 := fz 2
        obtain ⟨⟨d0, d1, d2, d3, d4, d5, d6, d7⟩, dz⟩ := ((HX.out.old hb2).old hbx).all
        have dz0 := dz 0
        have dz1 := dz 1
        have dz2 := dz 2
        have dz3 := dz 3
        have dz4 := dz 4
        have dz5 := dz 5
        have dz6 := dz 6
        have dz7 := dz 7
        clear dz
        have hw3 := hw2.trans (hbx.mono hw2.size)
        have HF := hid (put8_below hw3 (Nat.le_refl _) (.bool false) (.bool false) (.slice none 0 0) (.slice none 0 0) (.slice none 0 0) (.int .i64 (s.size - q.length : Nat)) (.int .i64 0) (.int .i64 k))
        clear fz X0 hbx hb2
        go_wp2_with fail
        exact bodyPost_ret (v := .agg #[.bool false, .bool false, .slice none 0 0, .slice none 0 0, .slice none 0 0, .int .i64 (s.size - q.length : Nat), .int .i64 0, .int .i64 k]) (by simp [results, Tryz.results37, go_sem, d0, d1, d2, d3, d4, d5, d6, d7]) rfl ⟨hk1, hk2, rfl, HF.out⟩
      | ok da q =>
        rw [hP] at C hRR
        have C := hid C
        subst hRR
        have HB1 := hid (aPlain_len hP HLX.out)
        clear hP hd1 hd2
        go_enter Tryz.func37, Tryz.ntmps37
        go_wp2_with (first | ((with_reducible refine CS.out.mono ?_); rintro e w1 ⟨rfl, rfl⟩) | ((with_reducible refine CT.out.mono ?_); rintro e w1 ⟨rfl, rfl⟩))
        refine C.out.mono ?_
        rintro e w2 ⟨A5, c5, rfl, hc5, hda, hb2⟩
        have hw2 := HB.out.trans (hb2.mono HB.out.size)
        have hbx := below_new w2 (.cells #[.slice A5 da.length c5, .int .i64 (s.size - q.length : Nat), .int .i64 0] 59)
        have X0 := heap_alloc_new w2 (.cells #[.slice none 0 0, .int .i64 0, .int .i64 0] 59)
        obtain ⟨⟨f0, f1, f2⟩, fz⟩ := box3b X0
        have fz0 := fz 0
        have fz1 := fz 1
        have fz2 := fz 2
        obtain ⟨⟨d0, d1, d2, d3, d4, d5, d6, d7⟩, dz⟩ := ((HX.out.old hb2).old hbx).all
        have dz0 := dz 0
        have dz1 := dz 1
        have dz2 := dz 2
        have dz3 := dz 3
        have dz4 := dz 4
        have dz5 := dz 5
        have dz6 := dz 6
        have dz7 := dz 7
        clear dz
        have hw3 := hw2.trans (hbx.mono hw2.size)
        have r2 := (hda.size_ (by omega)).keep (w' := w2.alloc (.cells #[.slice A5 da.length c5, .int .i64 (s.size - q.length : Nat), .int .i64 0] 59)) fun p hp => hbx.cell hp.2
        have hiF : SIn (put8 (w2.alloc (.cells #[.slice A5 da.length c5, .int .i64 (s.size - q.length : Nat), .int .i64 0] 59)) w.heap.size (.bool false) (.bool false) (.slice none 0 0) (.slice A5 da.length c5) (.slice none 0 0) (.int .i64 (s.size - q.length : Nat)) (.int .i64 ((nd : Int) + 1)) (.int .i64 0)) (fun k => (0 ≤ k ∧ k < 0) ∨ w.heap.size ≤ k) (.mk false false [] da []) [.bool false, .bool false, .slice none 0 0, .slice A5 da.length c5, .slice none 0 0] :=
          .mk (xs := []) RIn.none_ ⟨Nat.le_refl _, by omega⟩ ((r2.keep fun q hq => put8_far q (by omega)).more fun k hk => .inr (by omega)) ⟨hc5, HB1.out⟩ RIn.none_ ⟨Nat.le_refl _, by omega⟩ rfl (fun i t hit => by simp at hit)
        have hbF := put8_below hw3 (Nat.le_refl _) (.bool false) (.bool false) (.slice none 0 0) (.slice A5 da.length c5) (.slice none 0 0) (.int .i64 (s.size - q.length : Nat)) (.int .i64 ((nd : Int) + 1)) (.int .i64 0)
        have HF := hid (And.intro hiF hbF)
        have ec : ((nd + 1 : Nat) : Int) = (nd : Int) + 1 := by omega
        have HEC := hid ec
        clear fz X0 hbx hb2 r2 hiF hbF hda ec
        go_wp2_with fail
        refine bodyPost_ret (v := .agg #[.bool false, .bool false, .slice none 0 0, .slice A5 da.length c5, .slice none 0 0, .int .i64 (s.size - q.length : Nat), .int .i64 ((nd : Int) + 1), .int .i64 0]) (by simp [results, Tryz.results37, go_sem, d0, d1, d2, d3, d4, d5, d6, d7]) rfl ?_
        exact ⟨_, _, _, _, _, by rw [HEC.out], HF.out⟩
    have n35 : ¬ (x.toNat : Int) = 35 := fun e => h35 (UInt8.toNat_inj.1 (show x.toNat = 35 by omega))
    have e35 : ((x.toNat : Int) == 35) = false := by rw [beq_eq_false_iff_ne]; exact n35
    have b35 : ((x.toNat : Int) != 35) = true := by rw [bne, e35]; rfl
    by_cases h124 : x = 124
    · rw [if_neg (by rw [h124]; decide)] at hRR
      have CT := hid CT
      have e124 : ((x.toNat : Int) == 124) = true := by rw [h124]; rfl
      have b124 : ((x.toNat : Int) != 124) = false := by rw [h124]; rfl
      by_cases h512 : 512 ≤ nd
      · rw [if_pos (.inl h512)] at hRR
        subst hRR
        have hgt : (512 : Int) < (nd : Int) + 1 := by omega
        clear hd1 hd2
        obtain ⟨⟨d0, d1, d2, d3, d4, d5, d6, d7⟩, dz⟩ := HX.out.all
        have dz0 := dz 0
        have dz1 := dz 1
        have dz2 := dz 2
        have dz3 := dz 3
        have dz4 := dz 4
        have dz5 := dz 5
        have dz6 := dz 6
        have dz7 := dz 7
        clear dz
        go_enter Tryz.func37, Tryz.ntmps37
        go_wp2_with (first | ((with_reducible refine CS.out.mono ?_); rintro e w1 ⟨rfl, rfl⟩) | ((with_reducible refine CT.out.mono ?_); rintro e w1 ⟨rfl, rfl⟩))
        refine bodyPost_ret (v := .agg #[.bool false, .bool false, .slice none 0 0, .slice none 0 0, .slice none 0 0, .int .i64 a1, .int .i64 0, .int .i64 4]) (by simp [results, Tryz.results37, go_sem, d0, d1, d2, d3, d4, d5, d6, d7]) rfl ?_
        exact ⟨by omega, by omega, by rw [HPL.out]; first | done | rfl, below_new _ _⟩
      rw [if_neg (by intro h; rcases h with h | h; exact h512 h; exact h40 h.1), if_neg h40, if_neg h91] at hRR
      have hgt : ¬ (512 : Int) < (nd : Int) + 1 := by omega
      have C := plain3_any s a1 (w.alloc (.cells #[.bool false, .bool false, .slice none 0 0, .slice none 0 0, .slice none 0 0, .int .i64 0, .int .i64 0, .int .i64 0] 55)) hs (by omega)
      rw [hd1] at C
      cases hP : aPlain (x :: r) with
      | err k q =>
        rw [hP] at C hRR
        have C := hid C
        subst hRR
        clear hP hd1 hd2
        go_enter Tryz.func37, Tryz.ntmps37
        go_wp2_with (first | ((with_reducible refine CS.out.mono ?_); rintro e w1 ⟨rfl, rfl⟩) | ((with_reducible refine CT.out.mono ?_); rintro e w1 ⟨rfl, rfl⟩))
        refine C.out.mono ?_
        rintro e w2 ⟨hk1, hk2, rfl, hb2⟩
        have hk0 : ¬ ((k : Int) = 0) := by omega
        have hw2 := HB.out.trans (hb2.mono HB.out.size)
        have hbx := below_new w2 (.cells #[.slice none 0 0, .int .i64 (s.size - q.length : Nat), .int .i64 k] 59)
        have X0 := heap_alloc_new w2 (.cells #[.slice none 0 0, .int .i64 0, .int .i64 0] 59)
        obtain ⟨⟨f0, f1, f2⟩, fz⟩ := box3b X0
        have fz0 := fz 0
        have fz1 := fz 1
        have fz2 := fz 2
        obtain ⟨⟨d0, d1, d2, d3, d4, d5, d6, d7⟩, dz⟩ := ((HX.out.old hb2).old hbx).all
        have dz0 := dz 0
        have dz1 := dz 1
        have dz2 := dz 2
        have dz3 := dz 3
        have dz4 := dz 4
        have dz5 := dz 5
        have dz6 := dz 6
        have dz7 := dz 7
        clear dz
        have hw3 := hw2.trans (hbx.mono hw2.size)
        have HF := hid (put8_below hw3 (Nat.le_refl _) (.bool false) (.bool false) (.slice none 0 0) (.slice none 0 0) (.slice none 0 0) (.int .i64 (s.size - q.length : Nat)) (.int .i64 0) (.int .i64 k))
        clear fz X0 hbx hb2
        go_wp2_with fail
        exact bodyPost_ret (v := .agg #[.bool false, .bool false, .slice none 0 0, .slice none 0 0, .slice none 0 0, .int .i64 (s.size - q.length : Nat), .int .i64 0, .int .i64 k]) (by simp [results, Tryz.results37, go_sem, d0, d1, d2, d3, d4, d5, d6, d7]) rfl ⟨hk1, hk2, rfl, HF.out⟩
      | ok da q =>
        rw [hP] at C hRR
        have C := hid C
        subst hRR
        have HB1 := hid (aPlain_len hP HLX.out)
        clear hP hd1 hd2
        go_enter Tryz.func37, Tryz.ntmps37
        go_wp2_with (first | ((with_reducible refine CS.out.mono ?_); rintro e w1 ⟨rfl, rfl⟩) | ((with_reducible refine CT.out.mono ?_); rintro e w1 ⟨rfl, rfl⟩))
        refine C.out.mono ?_
        rintro e w2 ⟨A5, c5, rfl, hc5, hda, hb2⟩
        have hw2 := HB.out.trans (hb2.mono HB.out.size)
        have hbx := below_new w2 (.cells #[.slice A5 da.length c5, .int .i64 (s.size - q.length : Nat), .int .i64 0] 59)
        have X0 := heap_alloc_new w2 (.cells #[.slice none 0 0, .int .i64 0, .int .i64 0] 59)
        obtain ⟨⟨f0, f1, f2⟩, fz⟩ := box3b X0
        have fz0 := fz 0
        have fz1 := fz 1
        have fz2 := fz 2
        obtain ⟨⟨d0, d1, d2, d3, d4, d5, d6, d7⟩, dz⟩ := ((HX.out.old hb2).old hbx).all
        have dz0 := dz 0
        have dz1 := dz 1
        have dz2 := dz 2
        have dz3 := dz 3
        have dz4 := dz 4
        have dz5 := dz 5
        have dz6 := dz 6
        have dz7 := dz 7
        clear dz
        have hw3 := hw2.trans (hbx.mono hw2.size)
        have r2 := (hda.size_ (by omega)).keep (w' := w2.alloc (.cells #[.slice A5 da.length c5, .int .i64 (s.size - q.length : Nat), .int .i64 0] 59)) fun p hp => hbx.cell hp.2
        have hiF : SIn (put8 (w2.alloc (.cells #[.slice A5 da.length c5, .int .i64 (s.size - q.length : Nat), .int .i64 0] 59)) w.heap.size (.bool false) (.bool false) (.slice none 0 0) (.slice A5 da.length c5) (.slice none 0 0) (.int .i64 (s.size - q.length : Nat)) (.int .i64 ((nd : Int) + 1)) (.int .i64 0)) (fun k => (0 ≤ k ∧ k < 0) ∨ w.heap.size ≤ k) (.mk false false [] da []) [.bool false, .bool false, .slice none 0 0, .slice A5 da.length c5, .slice none 0 0] :=
          .mk (xs := []) RIn.none_ ⟨Nat.le_refl _, by omega⟩ ((r2.keep fun q hq => put8_far q (by omega)).more fun k hk => .inr (by omega)) ⟨hc5, HB1.out⟩ RIn.none_ ⟨Nat.le_refl _, by omega⟩ rfl (fun i t hit => by simp at hit)
        have hbF := put8_below hw3 (Nat.le_refl _) (.bool false) (.bool false) (.slice none 0 0) (.slice A5 da.length c5) (.slice none 0 0) (.int .i64 (s.size - q.length : Nat)) (.int .i64 ((nd : Int) + 1)) (.int .i64 0)
        have HF := hid (And.intro hiF hbF)
        have ec : ((nd + 1 : Nat) : Int) = (nd : Int) + 1 := by omega
        have HEC := hid ec
        clear fz X0 hbx hb2 r2 hiF hbF hda ec
        go_wp2_with fail
        refine bodyPost_ret (v := .agg #[.bool false, .bool false, .slice none 0 0, .slice A5 da.length c5, .slice none 0 0, .int .i64 (s.size - q.length : Nat), .int .i64 ((nd : Int) + 1), .int .i64 0]) (by simp [results, Tryz.results37, go_sem, d0, d1, d2, d3, d4, d5, d6, d7]) rfl ?_
        exact ⟨_, _, _, _, _, by rw [HEC.out], HF.out⟩
    have n124 : ¬ (x.toNat : Int) = 124 := fun e => h124 (UInt8.toNat_inj.1 (show x.toNat = 124 by omega))
    have e124 : ((x.toNat : Int) == 124) = false := by rw [beq_eq_false_iff_ne]; exact n124
    have b124 : ((x.toNat : Int) != 124) = true := by rw [bne, e124]; rfl
    cases hT : isTok x with
    | true =>
      rw [hT] at CT
      have CT := hid CT
      rw [if_neg (by unfold aBegins; rw [hT]; simp)] at hRR
      clear hT
      skip
      by_cases h512 : 512 ≤ nd
      · rw [if_pos (.inl h512)] at hRR
        subst hRR
        have hgt : (512 : Int) < (nd : Int) + 1 := by omega
        clear hd1 hd2
        obtain ⟨⟨d0, d1, d2, d3, d4, d5, d6, d7⟩, dz⟩ := HX.out.all
        have dz0 := dz 0
        have dz1 := dz 1
        have dz2 := dz 2
        have dz3 := dz 3
        have dz4 := dz 4
        have dz5 := dz 5
        have dz6 := dz 6
        have dz7 := dz 7
        clear dz
        go_enter Tryz.func37, Tryz.ntmps37
        go_wp2_with (first | ((with_reducible refine CS.out.mono ?_); rintro e w1 ⟨rfl, rfl⟩) | ((with_reducible refine CT.out.mono ?_); rintro e w1 ⟨rfl, rfl⟩))
        refine bodyPost_ret (v := .agg #[.bool false, .bool false, .slice none 0 0, .slice none 0 0, .slice none 0 0, .int .i64 a1, .int .i64 0, .int .i64 4]) (by simp [results, Tryz.results37, go_sem, d0, d1, d2, d3, d4, d5, d6, d7]) rfl ?_
        exact ⟨by omega, by omega, by rw [HPL.out]; first | done | rfl, below_new _ _⟩
      rw [if_neg (by intro h; rcases h with h | h; exact h512 h; exact h40 h.1), if_neg h40, if_neg h91] at hRR
      have hgt : ¬ (512 : Int) < (nd : Int) + 1 := by omega
      have C := plain3_any s a1 (w.alloc (.cells #[.bool false, .bool false, .slice none 0 0, .slice none 0 0, .slice none 0 0, .int .i64 0, .int .i64 0, .int .i64 0] 55)) hs (by omega)
      rw [hd1] at C
      cases hP : aPlain (x :: r) with
      | err k q =>
        rw [hP] at C hRR
        have C := hid C
        subst hRR
        clear hP hd1 hd2
        go_enter Tryz.func37, Tryz.ntmps37
        go_wp2_with (first | ((with_reducible refine CS.out.mono ?_); rintro e w1 ⟨rfl, rfl⟩) | ((with_reducible refine CT.out.mono ?_); rintro e w1 ⟨rfl, rfl⟩))
        refine C.out.mono ?_
        rintro e w2 ⟨hk1, hk2, rfl, hb2⟩
        have hk0 : ¬ ((k : Int) = 0) := by omega
        have hw2 := HB.out.trans (hb2.mono HB.out.size)
        have hbx := below_new w2 (.cells #[.slice none 0 0, .int .i64 (s.size - q.length : Nat), .int .i64 k] 59)
        have X0 := heap_alloc_new w2 (.cells #[.slice none 0 0, .int .i64 0, .int .i64 0] 59)
        obtain ⟨⟨f0, f1, f2⟩, fz⟩ := box3b X0
        have fz0 := fz 0
        have fz1 := fz 1
        have fz2 := fz 2
        obtain ⟨⟨d0, d1, d2, d3, d4, d5, d6, d7⟩, dz⟩ := ((HX.out.old hb2).old hbx).all
        have dz0 := dz 0
        have dz1 := dz 1
        have dz2 := dz 2
        have dz3 := dz 3
        have dz4 := dz 4
        have dz5 := dz 5
        have dz6 := dz 6
        have dz7 := dz 7
        clear dz
        have hw3 := hw2.trans (hbx.mono hw2.size)
        have HF := hid (put8_below hw3 (Nat.le_refl _) (.bool false) (.bool false) (.slice none 0 0) (.slice none 0 0) (.slice none 0 0) (.int .i64 (s.size - q.length : Nat)) (.int .i64 0) (.int .i64 k))
        clear fz X0 hbx hb2
        go_wp2_with fail
        exact bodyPost_ret (v := .agg #[.bool false, .bool false, .slice none 0 0, .slice none 0 0, .slice none 0 0, .int .i64 (s.size - q.length : Nat), .int .i64 0, .int .i64 k]) (by simp [results, Tryz.results37, go_sem, d0, d1, d2, d3, d4, d5, d6, d7]) rfl ⟨hk1, hk2, rfl, HF.out⟩
      | ok da q =>
        rw [hP] at C hRR
        have C := hid C
        subst hRR
        have HB1 := hid (aPlain_len hP HLX.out)
        clear hP hd1 hd2
        go_enter Tryz.func37, Tryz.ntmps37
        go_wp2_with (first | ((with_reducible refine CS.out.mono ?_); rintro e w1 ⟨rfl, rfl⟩) | ((with_reducible refine CT.out.mono ?_); rintro e w1 ⟨rfl, rfl⟩))
        refine C.out.mono ?_
        rintro e w2 ⟨A5, c5, rfl, hc5, hda, hb2⟩
        have hw2 := HB.out.trans (hb2.mono HB.out.size)
        have hbx := below_new w2 (.cells #[.slice A5 da.length c5, .int .i64 (s.size - q.length : Nat), .int .i64 0] 59)
        have X0 := heap_alloc_new w2 (.cells #[.slice none 0 0, .int .i64 0, .int .i64 0] 59)
        obtain ⟨⟨f0, f1, f2⟩, fz⟩ := box3b X0
        have fz0 := fz 0
        have fz1 := fz 1
        have fz2 := fz 2
        obtain ⟨⟨d0, d1, d2, d3, d4, d5, d6, d7⟩, dz⟩ := ((HX.out.old hb2).old hbx).all
        have dz0 := dz 0
        have dz1 := dz 1
        have dz2 := dz 2
        have dz3 := dz 3
        have dz4 := dz 4
        have dz5 := dz 5
        have dz6 := dz 6
        have dz7 := dz 7
        clear dz
        have hw3 := hw2.trans (hbx.mono hw2.size)
        have r2 := (hda.size_ (by omega)).keep (w' := w2.alloc (.cells #[.slice A5 da.length c5, .int .i64 (s.size - q.length : Nat), .int .i64 0] 59)) fun p hp => hbx.cell hp.2
        have hiF : SIn (put8 (w2.alloc (.cells #[.slice A5 da.length c5, .int .i64 (s.size - q.length : Nat), .int .i64 0] 59)) w.heap.size (.bool false) (.bool false) (.slice none 0 0) (.slice A5 da.length c5) (.slice none 0 0) (.int .i64 (s.size - q.length : Nat)) (.int .i64 ((nd : Int) + 1)) (.int .i64 0)) (fun k => (0 ≤ k ∧ k < 0) ∨ w.heap.size ≤ k) (.mk false false [] da []) [.bool false, .bool false, .slice none 0 0, .slice A5 da.length c5, .slice none 0 0] :=
          .mk (xs := []) RIn.none_ ⟨Nat.le_refl _, by omega⟩ ((r2.keep fun q hq => put8_far q (by omega)).more fun k hk => .inr (by omega)) ⟨hc5, HB1.out⟩ RIn.none_ ⟨Nat.le_refl _, by omega⟩ rfl (fun i t hit => by simp at hit)
        have hbF := put8_below hw3 (Nat.le_refl _) (.bool false) (.bool false) (.slice none 0 0) (.slice A5 da.length c5) (.slice none 0 0) (.int .i64 (s.size - q.length : Nat)) (.int .i64 ((nd : Int) + 1)) (.int .i64 0)
        have HF := hid (And.intro hiF hbF)
        have ec : ((nd + 1 : Nat) : Int) = (nd : Int) + 1 := by omega
        have HEC := hid ec
        clear fz X0 hbx hb2 r2 hiF hbF hda ec
        go_wp2_with fail
        refine bodyPost_ret (v := .agg #[.bool false, .bool false, .slice none 0 0, .slice A5 da.length c5, .slice none 0 0, .int .i64 (s.size - q.length : Nat), .int .i64 ((nd : Int) + 1), .int .i64 0]) (by simp [results, Tryz.results37, go_sem, d0, d1, d2, d3, d4, d5, d6, d7]) rfl ?_
        exact ⟨_, _, _, _, _, by rw [HEC.out], HF.out⟩
    | false =>
      rw [hT] at CT
      have CT := hid CT
      rw [if_pos (by unfold aBegins; rw [hT]; simp [h40, h91, h34, h35, h124])] at hRR
      subst hRR
      clear hT hd1 hd2
      obtain ⟨⟨d0, d1, d2, d3, d4, d5, d6, d7⟩, dz⟩ := HX.out.all
      have dz0 := dz 0
      have dz1 := dz 1
      have dz2 := dz 2
      have dz3 := dz 3
      have dz4 := dz 4
      have dz5 := dz 5
      have dz6 := dz 6
      have dz7 := dz 7
      clear dz
      go_enter Tryz.func37, Tryz.ntmps37
      go_wp2_with (first | ((with_reducible refine CS.out.mono ?_); rintro e w1 ⟨rfl, rfl⟩) | ((with_reducible refine CT.out.mono ?_); rintro e w1 ⟨rfl, rfl⟩))
      refine bodyPost_ret (v := .agg #[.bool false, .bool false, .slice none 0 0, .slice none 0 0, .slice none 0 0, .int .i64 a1, .int .i64 0, .int .i64 3]) (by simp [results, Tryz.results37, go_sem, d0, d1, d2, d3, d4, d5, d6, d7]) rfl ?_
      exact ⟨by omega, by omega, by rw [HPL.out]; first | done | rfl, below_new _ _⟩
end Go.Proofs.YtcojkmcnigppbaaGreatDoor
