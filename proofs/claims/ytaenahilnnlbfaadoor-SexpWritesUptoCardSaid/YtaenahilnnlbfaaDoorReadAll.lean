/-
  The contract of sexp's readAll: the value that bytes are the canonical form of, or what is thrown. Conditions: none but that the bytes are there.
-/
import Derived.Test.YtaenahilnnlbfaaDoorReader4
import Derived.Test.YtaenahilnnlbfaaDoorParse3
set_option linter.unusedVariables false
namespace Sx
open Go Oct
theorem pLen_kind {s : List UInt8} {k : Nat} {r : List UInt8} (h : pLen s = .err k r) : 2 ≤ k ∧ k ≤ 4 ∧ r.length ≤ s.length := by
  obtain ⟨rfl, h⟩ := pLen_err h
  rcases h with ⟨rfl, _⟩ | ⟨rfl, _⟩ | ⟨rfl, _⟩ <;> exact ⟨by omega, by omega, Nat.le_refl _⟩
theorem pBytes_kind {s : List UInt8} {k : Nat} {r : List UInt8} (h : pBytes s = .err k r) : 2 ≤ k ∧ k ≤ 4 ∧ r.length ≤ s.length := by
  unfold pBytes at h
  split at h
  · rename_i e r0 he
    injection h with h1 h2
    subst h1 h2
    exact pLen_kind he
  · rename_i n r0 he
    have hl := congrArg List.length (pLen_sound he).1
    rw [List.length_append] at hl
    split at h
    · injection h with h1 h2
      subst h1 h2
      exact ⟨by omega, by omega, by simp⟩
    · rename_i c r1
      split at h
      · injection h with h1 h2
        subst h1 h2
        exact ⟨by omega, by omega, by omega⟩
      · split at h
        · injection h with h1 h2
          subst h1 h2
          exact ⟨by omega, by omega, by simp⟩
        · cases h
theorem pHint_kind {s : List UInt8} {k : Nat} {r : List UInt8} (h : pHint s = .err k r) : 2 ≤ k ∧ k ≤ 4 ∧ r.length ≤ s.length := by
  unfold pHint at h
  split at h
  · rename_i e r0 he
    injection h with h1 h2
    subst h1 h2
    exact pBytes_kind he
  · rename_i hi r0 he
    have hl := congrArg List.length (pBytes_sound he).1
    rw [List.length_append] at hl
    split at h
    · injection h with h1 h2
      subst h1 h2
      exact ⟨by omega, by omega, by simp⟩
    · rename_i c r1
      simp only [List.length_cons] at hl
      split at h
      · injection h with h1 h2
        subst h1 h2
        exact ⟨by omega, by omega, by simp; omega⟩
      · split at h
        · rename_i e r2 he2
          injection h with h1 h2
          subst h1 h2
          have := pBytes_kind he2
          exact ⟨this.1, this.2.1, by omega⟩
        · cases h
theorem pVal_kind (f : Nat) : (∀ s nd ar k r, pVal f s nd ar = .err k r → 2 * s.length + 1 ≤ f → ar ≤ 16 → 2 ≤ k ∧ k ≤ 4 ∧ r.length ≤ s.length) ∧
    (∀ s nd ar k r, pKids f s nd ar = .err k r → 2 * s.length + 2 ≤ f → ar ≤ 16 → 2 ≤ k ∧ k ≤ 4 ∧ r.length ≤ s.length) := by
  induction f with
  | zero => exact ⟨fun s nd ar k r h hf => by omega, fun s nd ar k r h hf => by omega⟩
  | succ f ih =>
    constructor
    · intro s nd ar k r h hf har
      rw [pVal.eq_def] at h
      simp only at h
      split at h
      · injection h with h1 h2
        subst h1 h2
        exact ⟨by omega, by omega, by simp⟩
      · rename_i c s0
        simp only [List.length_cons] at hf
        split at h
        · injection h with h1 h2
          subst h1 h2
          exact ⟨by omega, by omega, Nat.le_refl _⟩
        · split at h
          · injection h with h1 h2
            subst h1 h2
            exact ⟨by omega, by omega, Nat.le_refl _⟩
          · rename_i hlim
            split at h
            · rename_i h40
              split at h
              · rename_i e r' he
                injection h with h1 h2
                subst h1 h2
                have := ih.2 _ _ _ _ _ he (by omega) (by
                  have : ¬ 16 ≤ ar := fun h => hlim (.inr ⟨h40, h⟩)
                  omega)
                exact ⟨this.1, this.2.1, by simp; omega⟩
              · cases h
            · split at h
              · split at h
                · rename_i e r' he
                  injection h with h1 h2
                  subst h1 h2
                  have := pHint_kind he
                  exact ⟨this.1, this.2.1, by simp; omega⟩
                · cases h
              · split at h
                · rename_i e r' he
                  injection h with h1 h2
                  subst h1 h2
                  exact pBytes_kind he
                · cases h
    · intro s nd ar k r h hf har
      rw [pKids.eq_def] at h
      simp only at h
      split at h
      · injection h with h1 h2
        subst h1 h2
        exact ⟨by omega, by omega, by simp⟩
      · rename_i c s0
        split at h
        · cases h
        · split at h
          · rename_i e r' he
            injection h with h1 h2
            subst h1 h2
            exact ih.1 _ _ _ _ _ he (by omega) har
          · rename_i t nd' r' he
            have hs := (sound f).1 _ _ _ _ _ _ he har
            have hl := congrArg List.length hs.1
            rw [List.length_append] at hl
            have hfl : 1 ≤ (form t).length := by
              obtain ⟨c1, q1, hq, -⟩ := form_head t
              rw [hq]; simp
            split at h
            · rename_i e r'' he2
              injection h with h1 h2
              subst h1 h2
              have := ih.2 _ _ _ _ _ he2 (by omega) har
              exact ⟨this.1, this.2.1, by omega⟩
            · cases h
end Sx
namespace Go.Proofs.YtaenahilnnlbfaaDoor
open Go Go.Proofs Go.RowKit Sx Oct

def AllEnd (w : World) (e : Ending) (w' : World) : SX × Nat × Nat → Prop
  | (t, p, 0) => p = 0 ∧ ∃ v0 v1 v2 v3 v4, e = .returned (.agg #[v0, v1, v2, v3, v4]) ∧ SIn w' (fun k => w.heap.size ≤ k) t [v0, v1, v2, v3, v4] ∧ Below w.heap.size w w'
  | (t, p, k + 1) => t = zeroS ∧ 2 ≤ k + 1 ∧ k + 1 ≤ 5 ∧ p ≤ 4096 ∧ Thrown (k + 1) p e ∧ Below w.heap.size w w'

set_option maxHeartbeats 4000000 in
set_option maxRecDepth 100000 in
theorem readAll_any (A : Option Addr) (n c : Nat) (b : List UInt8) (w : World) (hr : Reads w w.heap.size 1 A n (Lib.byteCells b)) (hc : n ≤ c) :
    Calls Tryd.prog 28 #[.slice A n c] w fun e w' => AllEnd w e w' (pGet b) := by
  have hl : b.length = n := by have := hr.1; simpa [Lib.byteCells_length] using this
  have hb0 := below_new w (.cells #[.bool false, .bool false, .slice none 0 0, .slice none 0 0, .slice none 0 0] 25)
  generalize hPG : pGet b = PG
  by_cases h4 : 4096 < n
  · have hPG : PG = (zeroS, 4096, 4) := by rw [← hPG, pGet, if_pos (by omega)]
    subst hPG
    have h4' : (4096 : Int) < n := by omega
    go_enter Tryd.func28, Tryd.ntmps28
    go_wp2_with fail
    exact ⟨rfl, rfl, by decide, by decide, Nat.le_refl _, rfl, hb0⟩
  · have hn' : ¬ (4096 : Int) < n := by omega
    rw [pGet, if_neg (by omega)] at hPG
    have hsz : (w.alloc (.cells #[.bool false, .bool false, .slice none 0 0, .slice none 0 0, .slice none 0 0] 25)).heap.size = w.heap.size + 1 := by simp
    have hb1 := hb0.trans ((below_new (w.alloc (.cells #[.bool false, .bool false, .slice none 0 0, .slice none 0 0, .slice none 0 0] 25)) (.cells #[.slice A n c, .int .i64 0, .int .i64 0] 64)).mono (by simp))
    have X1 : Box ((w.alloc (.cells #[.bool false, .bool false, .slice none 0 0, .slice none 0 0, .slice none 0 0] 25)).alloc (.cells #[.slice A n c, .int .i64 0, .int .i64 0] 64)) w.heap.size (.bool false) (.bool false) (.slice none 0 0) (.slice none 0 0) (.slice none 0 0) :=
      below_at (below_new _ _) (heap_alloc_new w _)
    have hR : RdAt ((w.alloc (.cells #[.bool false, .bool false, .slice none 0 0, .slice none 0 0, .slice none 0 0] 25)).alloc (.cells #[.slice A n c, .int .i64 0, .int .i64 0] 64)) (w.heap.size + 1) A n c (0 : Nat) (0 : Nat) := by
      have := heap_alloc_new (w.alloc (.cells #[.bool false, .bool false, .slice none 0 0, .slice none 0 0, .slice none 0 0] 25)) (.cells #[.slice A n c, .int .i64 0, .int .i64 0] 64)
      rw [hsz] at this
      exact this
    have hsz2 : ((w.alloc (.cells #[.bool false, .bool false, .slice none 0 0, .slice none 0 0, .slice none 0 0] 25)).alloc (.cells #[.slice A n c, .int .i64 0, .int .i64 0] 64)).heap.size = w.heap.size + 2 := by simp
    have hr1 := hr.keep (w' := (w.alloc (.cells #[.bool false, .bool false, .slice none 0 0, .slice none 0 0, .slice none 0 0] 25)).alloc (.cells #[.slice A n c, .int .i64 0, .int .i64 0] 64)) fun q hq => hb1.cell hq
    have C := value_all (2 * n + 1) (w.heap.size + 1) A n c 0 0 0 b w.heap.size _ hR hr1 (by omega) (by omega) hc (by omega) (by omega) (by omega) (by omega)
    rw [List.drop_zero] at C
    rw [hl] at hPG
    go_enter Tryd.func28, Tryd.ntmps28
    go_wp2_with fail
    generalize (w.alloc (.cells #[.bool false, .bool false, .slice none 0 0, .slice none 0 0, .slice none 0 0] 25)).alloc (.cells #[.slice A n c, .int .i64 0, .int .i64 0] 64) = W at *
    cases hpv : pVal (2 * n + 1) b 0 0 with
    | err k r =>
      rw [hpv] at C hPG
      obtain ⟨hk1, hk2, hrl⟩ := (pVal_kind (2 * n + 1)).1 b 0 0 k r hpv (by omega) (by omega)
      have hPG : PG = (zeroS, n - r.length, k) := hPG.symm
      subst hPG
      obtain ⟨k, rfl⟩ : ∃ k', k = k' + 1 := ⟨k - 1, by omega⟩
      refine C.mono ?_
      rintro e w3 ⟨rfl, hg⟩
      go_wp2_with fail
      exact ⟨rfl, rfl, by omega, by omega, by omega, rfl, hb1.grown hg (by omega) (fun k e => by injection e with e; omega)⟩
    | ok y r =>
      obtain ⟨t, nd'⟩ := y
      rw [hpv] at C hPG
      refine C.mono ?_
      rintro e w3 ⟨v0, v1, v2, v3, v4, rfl, hin, hR3, hg⟩
      obtain ⟨l', h', hi', da', ks', B1, m1, j1, B2, m2, j2, B3, m3, j3, _, eE⟩ := hin.form_
      injection eE with eE0 eE; injection eE with eE1 eE; injection eE with eE2 eE; injection eE with eE3 eE; injection eE with eE4 eE
      subst eE0 eE1 eE2 eE3 eE4
      have hz3 := hg.size
      have X1 := X1.grown hg (fun e => by injection e with e; omega)
      have hbn := below_new w3 (.cells #[.bool l', .bool h', .slice B1 m1 j1, .slice B2 m2 j2, .slice B3 m3 j3] 25)
      have X1 := X1.old hbn
      have hR4 := hR3.old hbn
      have X4 : Box (w3.alloc (.cells #[.bool l', .bool h', .slice B1 m1 j1, .slice B2 m2 j2, .slice B3 m3 j3] 25)) w3.heap.size (.bool l') (.bool h') (.slice B1 m1 j1) (.slice B2 m2 j2) (.slice B3 m3 j3) := heap_alloc_new w3 _
      have hb3 := hb1.grown hg (by omega) (fun k e => by injection e with e; omega)
      have hb4 := hb3.trans (hbn.mono (by omega))
      have hin4 := hin.old hbn
      have hz4 : (w3.alloc (.cells #[.bool l', .bool h', .slice B1 m1 j1, .slice B2 m2 j2, .slice B3 m3 j3] 25)).heap.size = w3.heap.size + 1 := by simp
      have hwalk : Hid (w3.alloc (.cells #[.bool l', .bool h', .slice B1 m1 j1, .slice B2 m2 j2, .slice B3 m3 j3] 25) = w3.alloc (.cells #[.bool l', .bool h', .slice B1 m1 j1, .slice B2 m2 j2, .slice B3 m3 j3] 25)) := rfl
      obtain ⟨g0, g1, g2, -, -⟩ := hR4.all
      obtain ⟨⟨d0, d1, d2, d3, d4⟩, dz⟩ := X1.all
      have dz0 := dz 0
      have dz1 := dz 1
      have dz2 := dz 2
      have dz3 := dz 3
      have dz4 := dz 4
      obtain ⟨⟨f0, f1, f2, f3, f4⟩, -⟩ := X4.all
      clear dz X1 X4
      cases r with
      | nil =>
        have hPG : PG = (t, 0, 0) := hPG.symm
        subst hPG
        have hlt : ¬ ((n - ([] : List UInt8).length : Nat) : Int) < n := by simp
        have hF := put5_below (w' := w3.alloc (.cells #[.bool l', .bool h', .slice B1 m1 j1, .slice B2 m2 j2, .slice B3 m3 j3] 25)) hb4 (Nat.le_refl _) (.bool l') (.bool h') (.slice B1 m1 j1) (.slice B2 m2 j2) (.slice B3 m3 j3)
        have hiF : SIn (put5 (w3.alloc (.cells #[.bool l', .bool h', .slice B1 m1 j1, .slice B2 m2 j2, .slice B3 m3 j3] 25)) w.heap.size (.bool l') (.bool h') (.slice B1 m1 j1) (.slice B2 m2 j2) (.slice B3 m3 j3)) (fun k => w.heap.size ≤ k) t [.bool l', .bool h', .slice B1 m1 j1, .slice B2 m2 j2, .slice B3 m3 j3] :=
          ((hin4.more (S' := fun k => w.heap.size + 2 ≤ k) fun k hk => by omega).keep fun q hq => put5_far q (by omega)).more fun k hk => by omega
        have HF := Lib.hid (And.intro hiF hF)
        clear hF hiF hin hin4 hR hR3 hR4 hb4 hb3
        go_wp2_with fail
        exact bodyPost_ret (v := .agg #[.bool l', .bool h', .slice B1 m1 j1, .slice B2 m2 j2, .slice B3 m3 j3]) (by simp [results, Tryd.results28, go_sem, d0, d1, d2, d3, d4]) rfl ⟨rfl, _, _, _, _, _, rfl, HF.out⟩
      | cons x r =>
        have hPG : PG = (zeroS, n - (x :: r).length, 5) := hPG.symm
        subst hPG
        have hrl : (x :: r).length ≤ n := by
          have hs := ((sound (2 * n + 1)).1 _ _ _ _ _ _ hpv (by omega)).1
          have := congrArg List.length hs
          rw [List.length_append, hl] at this
          omega
        have hrl1 : 1 ≤ (x :: r).length := by simp
        have hlt : ((n - (x :: r).length : Nat) : Int) < n := by omega
        go_wp2_with fail
        exact ⟨rfl, rfl, by decide, by decide, by omega, rfl, hb4⟩
end Go.Proofs.YtaenahilnnlbfaaDoor
