/-
  The contract of the document's answer value (package greffierref02), in full. Conditions: the bytes are at most 5000.
-/
import Derived.Test.YtaenahilnnlbfaaDoorRefRead4
set_option linter.unusedVariables false
namespace Go.Proofs.YtaenahilnnlbfaaDoor
open Go Go.Proofs Go.RowKit Sx Oct

theorem RVal.up {w W w2 : World} {B n : Nat} {e : Ending} {R : Res (SX × Nat)} (h : RVal W B n e w2 R) (hb : Below w.heap.size w W) : RVal w B n e w2 R := by
  have hz := hb.size
  cases R with
  | err k rest => exact ⟨h.1, h.2.1, h.2.2.1, hb.trans (h.2.2.2.mono hz)⟩
  | ok y rest =>
    obtain ⟨t, nd'⟩ := y
    obtain ⟨v0, v1, v2, v3, v4, h1, h2, h3⟩ := h
    exact ⟨v0, v1, v2, v3, v4, h1, h2.more fun k hk => by omega, hb.trans (h3.mono hz)⟩
theorem sin_put8 {w W w2 : World} {B : Nat} {t : SX} {v0 v1 v2 v3 v4 : Value} (hin : SIn w2 (fun k => k < B ∨ W.heap.size ≤ k) t [v0, v1, v2, v3, v4]) (hb2 : Below W.heap.size W w2) (hb : Below w.heap.size w W) (hB : B ≤ w.heap.size) (hz : W.heap.size = w.heap.size + 1) (x5 x6 x7 : Value) :
    SIn (put8 w2 w.heap.size v0 v1 v2 v3 v4 x5 x6 x7) (fun k => k < B ∨ w.heap.size ≤ k) t [v0, v1, v2, v3, v4] ∧ Below w.heap.size w (put8 w2 w.heap.size v0 v1 v2 v3 v4 x5 x6 x7) :=
  ⟨(hin.keep fun q hq => put8_far q (by omega)).more fun k hk => by omega, put8_below (hb.trans (hb2.mono hb.size)) (Nat.le_refl _) _ _ _ _ _ _ _ _⟩

set_option maxHeartbeats 1000000 in
set_option maxRecDepth 100000 in
theorem refValue_small (f : Nat) (A : Option Addr) (n c p nd ar : Nat) (b : List UInt8) (B : Nat) (w : World) (hr : Reads w B 1 A n (Lib.byteCells b)) (hBw : B ≤ w.heap.size) (hn : n ≤ 5000) (hc : n ≤ c) (hp : p ≤ n) (hnd : nd ≤ 512) (har : ar ≤ 16)
    (hnl : ∀ s, b.drop p = 40 :: s → 512 ≤ nd ∨ 16 ≤ ar) :
    Calls Tryd.prog 30 #[.slice A n c, .int .i64 p, .int .i64 ((ar : Int) + 1), .int .i64 nd] w fun e w' => RVal w B n e w' (pVal (f + 1) (b.drop p) nd ar) := by
  generalize hRR : pVal (f + 1) (b.drop p) nd ar = R
  have hl : b.length = n := by have := hr.1; simpa [Lib.byteCells_length] using this
  have hz1 : (w.alloc (.cells #[.bool false, .bool false, .slice none 0 0, .slice none 0 0, .slice none 0 0, .int .i64 0, .int .i64 0, .int .i64 0] 55)).heap.size = w.heap.size + 1 := by simp
  have hb0 := below_new w (.cells #[.bool false, .bool false, .slice none 0 0, .slice none 0 0, .slice none 0 0, .int .i64 0, .int .i64 0, .int .i64 0] 55)
  have X1 : Box8 (w.alloc (.cells #[.bool false, .bool false, .slice none 0 0, .slice none 0 0, .slice none 0 0, .int .i64 0, .int .i64 0, .int .i64 0] 55)) w.heap.size (.bool false) (.bool false) (.slice none 0 0) (.slice none 0 0) (.slice none 0 0) (.int .i64 0) (.int .i64 0) (.int .i64 0) := heap_alloc_new w _
  have hr1 := hr.keep (w' := (w.alloc (.cells #[.bool false, .bool false, .slice none 0 0, .slice none 0 0, .slice none 0 0, .int .i64 0, .int .i64 0, .int .i64 0] 55))) fun q hq => hb0.cell (by omega)
  have HB := Lib.hid hb0
  have HX := Lib.hid X1
  have HR := Lib.hid hr
  clear X1 hr
  cases hs : b.drop p with
  | nil =>
    have hpn : n ≤ p := by have := congrArg List.length hs; rw [List.length_drop, hl] at this; simp at this; omega
    rw [hs, pVal] at hRR
    subst hRR
    have hpn' : (n : Int) ≤ p := by omega
    have hn0 : ((n - ([] : List UInt8).length : Nat) : Int) = n := by simp
    have HN := Lib.hid hn0
    clear hn0 hr1 hs
    obtain ⟨⟨d0, d1, d2, d3, d4, d5, d6, d7⟩, dz⟩ := HX.out.all
    have dz0 := dz 0
    have dz1 := dz 1
    have dz2 := dz 2
    have dz3 := dz 3
    have dz4 := dz 4
    have dz5 := dz 5
    have dz6 := dz 6
    have dz7 := dz 7
    have HF := Lib.hid (put8_below HB.out (Nat.le_refl _) (.bool false) (.bool false) (.slice none 0 0) (.slice none 0 0) (.slice none 0 0) (.int .i64 n) (.int .i64 0) (.int .i64 2))
    clear dz
    go_enter Tryd.func30, Tryd.ntmps30
    go_wp2_with fail
    exact bodyPost_ret (v := .agg #[.bool false, .bool false, .slice none 0 0, .slice none 0 0, .slice none 0 0, .int .i64 n, .int .i64 0, .int .i64 2]) (by simp [results, Tryd.results30, go_sem, d0, d1, d2, d3, d4, d5, d6, d7]) rfl ⟨by omega, by omega, by rw [HN.out]; rfl, below_new _ _⟩
  | cons x s =>
    have hlen : (x :: s).length = n - p := by rw [← hs, List.length_drop, hl]
    have hlen' : s.length + 1 = n - p := by rw [← hlen]; simp
    have hplace : n - (x :: s).length = p := by omega
    obtain ⟨ad, rfl, hadB, hcell⟩ := at_drop hr1 (p := p) (by omega) hs
    have hp0 : (0 : Int) ≤ p := by omega
    have hplt : (p : Int) < n := by omega
    have hpge : ¬ (n : Int) ≤ p := by omega
    have hxl := x.toNat_lt
    have HP := Lib.hid hplace
    have HS := Lib.hid hs
    rw [hs, pVal] at hRR
    try simp only at hRR
    clear hs hplace hlen
    by_cases hbg : begins x = false
    · rw [if_pos hbg] at hRR
      subst hRR
      have hbg' : ¬ x = 40 ∧ ¬ x = 91 ∧ ¬ (48 ≤ x.toNat ∧ x.toNat ≤ 57) := by
        simp [begins, isDig] at hbg
        refine ⟨hbg.1.1, hbg.1.2, fun h => ?_⟩
        have := hbg.2 h.1
        omega
      obtain ⟨n1, n2, n3⟩ := hbg'
      have e1 : ((x.toNat : Int) == 40) = false := by
        rw [beq_eq_false_iff_ne]
        intro e
        exact n1 (UInt8.toNat_inj.1 (by show x.toNat = 40; omega))
      have e2 : ((x.toNat : Int) == 91) = false := by
        rw [beq_eq_false_iff_ne]
        intro e
        exact n2 (UInt8.toNat_inj.1 (by show x.toNat = 91; omega))
      have e1' : ¬ ((x.toNat : Int) = 40) := by simpa using e1
      have e2' : ¬ ((x.toNat : Int) = 91) := by simpa using e2
      have e1b : ((x.toNat : Int) != 40) = true := by simpa using e1'
      have e2b : ((x.toNat : Int) != 91) = true := by simpa using e2'
      by_cases hlo : x.toNat < 48
      · have hlo' : (x.toNat : Int) < 48 := by omega
        clear n1 n2 n3 hbg
        obtain ⟨⟨d0, d1, d2, d3, d4, d5, d6, d7⟩, dz⟩ := HX.out.all
        have dz0 := dz 0
        have dz1 := dz 1
        have dz2 := dz 2
        have dz3 := dz 3
        have dz4 := dz 4
        have dz5 := dz 5
        have dz6 := dz 6
        have dz7 := dz 7
        have HF := Lib.hid (put8_below HB.out (Nat.le_refl _) (.bool false) (.bool false) (.slice none 0 0) (.slice none 0 0) (.slice none 0 0) (.int .i64 p) (.int .i64 0) (.int .i64 3))
        clear dz
        go_enter Tryd.func30, Tryd.ntmps30
        go_wp2_with fail
        exact bodyPost_ret (v := .agg #[.bool false, .bool false, .slice none 0 0, .slice none 0 0, .slice none 0 0, .int .i64 p, .int .i64 0, .int .i64 3]) (by simp [results, Tryd.results30, go_sem, d0, d1, d2, d3, d4, d5, d6, d7]) rfl ⟨by omega, by omega, by rw [HP.out]; rfl, below_new _ _⟩
      · have hlo' : ¬ (x.toNat : Int) < 48 := by omega
        have hhi' : (57 : Int) < (x.toNat : Int) := by omega
        clear n1 n2 n3 hbg
        obtain ⟨⟨d0, d1, d2, d3, d4, d5, d6, d7⟩, dz⟩ := HX.out.all
        have dz0 := dz 0
        have dz1 := dz 1
        have dz2 := dz 2
        have dz3 := dz 3
        have dz4 := dz 4
        have dz5 := dz 5
        have dz6 := dz 6
        have dz7 := dz 7
        have HF := Lib.hid (put8_below HB.out (Nat.le_refl _) (.bool false) (.bool false) (.slice none 0 0) (.slice none 0 0) (.slice none 0 0) (.int .i64 p) (.int .i64 0) (.int .i64 3))
        clear dz
        go_enter Tryd.func30, Tryd.ntmps30
        go_wp2_with fail
        exact bodyPost_ret (v := .agg #[.bool false, .bool false, .slice none 0 0, .slice none 0 0, .slice none 0 0, .int .i64 p, .int .i64 0, .int .i64 3]) (by simp [results, Tryd.results30, go_sem, d0, d1, d2, d3, d4, d5, d6, d7]) rfl ⟨by omega, by omega, by rw [HP.out]; rfl, below_new _ _⟩
    · rw [if_neg hbg] at hRR
      have hw1 : IntKind.i64.wrap ((nd : Int) + 1) = (nd : Int) + 1 := IntWalk.i64_in _ (by omega)
      by_cases h40 : x = 40
      · subst h40
        have hlim := hnl _ HS.out
        rw [if_pos (by rcases hlim with h | h; exact .inl h; exact .inr ⟨rfl, h⟩)] at hRR
        subst hRR
        clear hnl
        by_cases h512 : 512 ≤ nd
        · have hgt : (512 : Int) < (nd : Int) + 1 := by omega
          clear hlim
          obtain ⟨⟨d0, d1, d2, d3, d4, d5, d6, d7⟩, dz⟩ := HX.out.all
          have dz0 := dz 0
          have dz1 := dz 1
          have dz2 := dz 2
          have dz3 := dz 3
          have dz4 := dz 4
          have dz5 := dz 5
          have dz6 := dz 6
          have dz7 := dz 7
          clear dz
          go_enter Tryd.func30, Tryd.ntmps30
          go_wp2_with fail
          exact bodyPost_ret (v := .agg #[.bool false, .bool false, .slice none 0 0, .slice none 0 0, .slice none 0 0, .int .i64 p, .int .i64 0, .int .i64 4]) (by simp [results, Tryd.results30, go_sem, d0, d1, d2, d3, d4, d5, d6, d7]) rfl ⟨by omega, by omega, by rw [HP.out]; rfl, below_new _ _⟩
        · have hgt : ¬ (512 : Int) < (nd : Int) + 1 := by omega
          have har2 : (16 : Int) < (ar : Int) + 1 := by omega
          clear hlim
          obtain ⟨⟨d0, d1, d2, d3, d4, d5, d6, d7⟩, dz⟩ := HX.out.all
          have dz0 := dz 0
          have dz1 := dz 1
          have dz2 := dz 2
          have dz3 := dz 3
          have dz4 := dz 4
          have dz5 := dz 5
          have dz6 := dz 6
          have dz7 := dz 7
          clear dz
          go_enter Tryd.func30, Tryd.ntmps30
          go_wp2_with fail
          exact bodyPost_ret (v := .agg #[.bool false, .bool false, .slice none 0 0, .slice none 0 0, .slice none 0 0, .int .i64 p, .int .i64 0, .int .i64 4]) (by simp [results, Tryd.results30, go_sem, d0, d1, d2, d3, d4, d5, d6, d7]) rfl ⟨by omega, by omega, by rw [HP.out]; rfl, below_new _ _⟩
      have e1 : ((x.toNat : Int) == 40) = false := by
        rw [beq_eq_false_iff_ne]
        intro e
        exact h40 (UInt8.toNat_inj.1 (by show x.toNat = 40; omega))
      have e1' : ¬ ((x.toNat : Int) = 40) := by simpa using e1
      have e1b : ((x.toNat : Int) != 40) = true := by simpa using e1'
      clear hnl
      by_cases h91 : x = 91
      · subst h91
        by_cases h512 : 512 ≤ nd
        · rw [if_pos (.inl h512)] at hRR
          subst hRR
          have hgt : (512 : Int) < (nd : Int) + 1 := by omega
          obtain ⟨⟨d0, d1, d2, d3, d4, d5, d6, d7⟩, dz⟩ := HX.out.all
          have dz0 := dz 0
          have dz1 := dz 1
          have dz2 := dz 2
          have dz3 := dz 3
          have dz4 := dz 4
          have dz5 := dz 5
          have dz6 := dz 6
          have dz7 := dz 7
          clear dz
          go_enter Tryd.func30, Tryd.ntmps30
          go_wp2_with fail
          exact bodyPost_ret (v := .agg #[.bool false, .bool false, .slice none 0 0, .slice none 0 0, .slice none 0 0, .int .i64 p, .int .i64 0, .int .i64 4]) (by simp [results, Tryd.results30, go_sem, d0, d1, d2, d3, d4, d5, d6, d7]) rfl ⟨by omega, by omega, by rw [HP.out]; rfl, below_new _ _⟩
        · rw [if_neg (by intro h; rcases h with h | h; exact h512 h; exact h40 h.1), if_neg h40, if_pos rfl] at hRR
          have hgt : ¬ (512 : Int) < (nd : Int) + 1 := by omega
          have C := refAtom_hint (some ad) n c p (nd + 1) b B _ hr1 (by omega) hn hc s HS.out
          rw [show ((nd + 1 : Nat) : Int) = (nd : Int) + 1 by omega] at C
          have C := Lib.hid C
          have HRR : Hid (hintRes (pHint s) (nd + 1) = R) := by
            show _ = _
            rw [← hRR]
            unfold hintRes
            rfl
          clear hRR hr1
          go_enter Tryd.func30, Tryd.ntmps30
          go_wp2_with fail
          refine C.out.mono ?_
          intro e w2 hE
          rw [HRR.out] at hE
          cases R with
          | err k rest =>
            obtain ⟨hk1, hk2, rfl, hb2⟩ := hE
            obtain ⟨⟨d0, d1, d2, d3, d4, d5, d6, d7⟩, dz⟩ := (HX.out.old hb2).all
            have dz0 := dz 0
            have dz1 := dz 1
            have dz2 := dz 2
            have dz3 := dz 3
            have dz4 := dz 4
            have dz5 := dz 5
            have dz6 := dz 6
            have dz7 := dz 7
            have HF := Lib.hid (put8_below (hb0.trans (hb2.mono hb0.size)) (Nat.le_refl _) (.bool false) (.bool false) (.slice none 0 0) (.slice none 0 0) (.slice none 0 0) (.int .i64 (n - rest.length : Nat)) (.int .i64 0) (.int .i64 k))
            clear dz hb2
            go_wp2_with fail
            exact bodyPost_ret (v := .agg #[.bool false, .bool false, .slice none 0 0, .slice none 0 0, .slice none 0 0, .int .i64 (n - rest.length : Nat), .int .i64 0, .int .i64 k]) (by simp [results, Tryd.results30, go_sem, d0, d1, d2, d3, d4, d5, d6, d7]) rfl ⟨hk1, hk2, rfl, HF.out⟩
          | ok y rest =>
            obtain ⟨t, nd'⟩ := y
            obtain ⟨v0, v1, v2, v3, v4, rfl, hin, hb2⟩ := hE
            obtain ⟨l', h', hi', da', ks', B1, m1, j1, B2, m2, j2, B3, m3, j3, eZ, eE⟩ := hin.form_
            injection eE with eE0 eE; injection eE with eE1 eE; injection eE with eE2 eE; injection eE with eE3 eE; injection eE with eE4 eE
            subst eE0 eE1 eE2 eE3 eE4
            clear eE eZ
            obtain ⟨⟨d0, d1, d2, d3, d4, d5, d6, d7⟩, dz⟩ := (HX.out.old hb2).all
            have dz0 := dz 0
            have dz1 := dz 1
            have dz2 := dz 2
            have dz3 := dz 3
            have dz4 := dz 4
            have dz5 := dz 5
            have dz6 := dz 6
            have dz7 := dz 7
            have HF := Lib.hid (sin_put8 hin hb2 hb0 hBw hz1 (.int .i64 (n - rest.length : Nat)) (.int .i64 nd') (.int .i64 0))
            clear dz hb2 hin
            go_wp2_with fail
            exact bodyPost_ret (v := .agg #[.bool l', .bool h', .slice B1 m1 j1, .slice B2 m2 j2, .slice B3 m3 j3, .int .i64 (n - rest.length : Nat), .int .i64 nd', .int .i64 0]) (by simp [results, Tryd.results30, go_sem, d0, d1, d2, d3, d4, d5, d6, d7]) rfl ⟨_, _, _, _, _, rfl, HF.out⟩
      · obtain ⟨hx1, hx2⟩ : 48 ≤ x.toNat ∧ x.toNat ≤ 57 := by
          have hbt : begins x = true := by simpa using hbg
          simp [begins, isDig, h40, h91] at hbt
          omega
        have e2 : ((x.toNat : Int) == 91) = false := by
          rw [beq_eq_false_iff_ne]
          intro e
          exact h91 (UInt8.toNat_inj.1 (by show x.toNat = 91; omega))
        have e2' : ¬ ((x.toNat : Int) = 91) := by simpa using e2
        have e2b : ((x.toNat : Int) != 91) = true := by simpa using e2'
        have hlo' : ¬ (x.toNat : Int) < 48 := by omega
        have hhi' : ¬ (57 : Int) < (x.toNat : Int) := by omega
        have HBG := Lib.hid hbg
        clear hbg hx1 hx2
        by_cases h512 : 512 ≤ nd
        · rw [if_pos (.inl h512)] at hRR
          subst hRR
          have hgt : (512 : Int) < (nd : Int) + 1 := by omega
          clear h40 h91
          obtain ⟨⟨d0, d1, d2, d3, d4, d5, d6, d7⟩, dz⟩ := HX.out.all
          have dz0 := dz 0
          have dz1 := dz 1
          have dz2 := dz 2
          have dz3 := dz 3
          have dz4 := dz 4
          have dz5 := dz 5
          have dz6 := dz 6
          have dz7 := dz 7
          clear dz
          go_enter Tryd.func30, Tryd.ntmps30
          go_wp2_with fail
          exact bodyPost_ret (v := .agg #[.bool false, .bool false, .slice none 0 0, .slice none 0 0, .slice none 0 0, .int .i64 p, .int .i64 0, .int .i64 4]) (by simp [results, Tryd.results30, go_sem, d0, d1, d2, d3, d4, d5, d6, d7]) rfl ⟨by omega, by omega, by rw [HP.out]; rfl, below_new _ _⟩
        · rw [if_neg (by intro h; rcases h with h | h; exact h512 h; exact h40 h.1), if_neg h40, if_neg h91] at hRR
          have hgt : ¬ (512 : Int) < (nd : Int) + 1 := by omega
          have C := refAtom_plain (some ad) n c p (nd + 1) b B _ hr1 (by omega) hn hc x s HS.out h91
          rw [show ((nd + 1 : Nat) : Int) = (nd : Int) + 1 by omega] at C
          have C := Lib.hid C
          have HRR : Hid (bytesRes (pBytes (x :: s)) (nd + 1) = R) := by
            show _ = _
            rw [← hRR]
            unfold bytesRes
            rfl
          clear hRR hr1 h40 h91
          go_enter Tryd.func30, Tryd.ntmps30
          go_wp2_with fail
          refine C.out.mono ?_
          intro e w2 hE
          rw [HRR.out] at hE
          cases R with
          | err k rest =>
            obtain ⟨hk1, hk2, rfl, hb2⟩ := hE
            obtain ⟨⟨d0, d1, d2, d3, d4, d5, d6, d7⟩, dz⟩ := (HX.out.old hb2).all
            have dz0 := dz 0
            have dz1 := dz 1
            have dz2 := dz 2
            have dz3 := dz 3
            have dz4 := dz 4
            have dz5 := dz 5
            have dz6 := dz 6
            have dz7 := dz 7
            have HF := Lib.hid (put8_below (hb0.trans (hb2.mono hb0.size)) (Nat.le_refl _) (.bool false) (.bool false) (.slice none 0 0) (.slice none 0 0) (.slice none 0 0) (.int .i64 (n - rest.length : Nat)) (.int .i64 0) (.int .i64 k))
            clear dz hb2
            go_wp2_with fail
            exact bodyPost_ret (v := .agg #[.bool false, .bool false, .slice none 0 0, .slice none 0 0, .slice none 0 0, .int .i64 (n - rest.length : Nat), .int .i64 0, .int .i64 k]) (by simp [results, Tryd.results30, go_sem, d0, d1, d2, d3, d4, d5, d6, d7]) rfl ⟨hk1, hk2, rfl, HF.out⟩
          | ok y rest =>
            obtain ⟨t, nd'⟩ := y
            obtain ⟨v0, v1, v2, v3, v4, rfl, hin, hb2⟩ := hE
            obtain ⟨l', h', hi', da', ks', B1, m1, j1, B2, m2, j2, B3, m3, j3, eZ, eE⟩ := hin.form_
            injection eE with eE0 eE; injection eE with eE1 eE; injection eE with eE2 eE; injection eE with eE3 eE; injection eE with eE4 eE
            subst eE0 eE1 eE2 eE3 eE4
            clear eE eZ
            obtain ⟨⟨d0, d1, d2, d3, d4, d5, d6, d7⟩, dz⟩ := (HX.out.old hb2).all
            have dz0 := dz 0
            have dz1 := dz 1
            have dz2 := dz 2
            have dz3 := dz 3
            have dz4 := dz 4
            have dz5 := dz 5
            have dz6 := dz 6
            have dz7 := dz 7
            have HF := Lib.hid (sin_put8 hin hb2 hb0 hBw hz1 (.int .i64 (n - rest.length : Nat)) (.int .i64 nd') (.int .i64 0))
            clear dz hb2 hin
            go_wp2_with fail
            exact bodyPost_ret (v := .agg #[.bool l', .bool h', .slice B1 m1 j1, .slice B2 m2 j2, .slice B3 m3 j3, .int .i64 (n - rest.length : Nat), .int .i64 nd', .int .i64 0]) (by simp [results, Tryd.results30, go_sem, d0, d1, d2, d3, d4, d5, d6, d7]) rfl ⟨_, _, _, _, _, rfl, HF.out⟩
end Go.Proofs.YtaenahilnnlbfaaDoor
