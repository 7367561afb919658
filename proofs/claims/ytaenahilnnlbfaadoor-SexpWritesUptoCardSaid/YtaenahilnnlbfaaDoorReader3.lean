/-
  The contracts of sexp's (*reader).list and value: the value that is read, or what is thrown. Conditions: the bytes lie in other blocks than the reader; they are at most 5000.
-/
import Derived.Test.YtaenahilnnlbfaaDoorReader2
set_option linter.unusedVariables false
namespace Go.Proofs.YtaenahilnnlbfaaDoor
open Go Go.Proofs Go.RowKit Sx Oct

def ValSpec (f : Nat) : Prop := ∀ (r : Nat) (A : Option Addr) (n c p nd ar : Nat) (b : List UInt8) (B : Nat) (w : World), RdAt w r A n c p nd → Reads w B 1 A n (Lib.byteCells b) → B ≤ r → n ≤ 5000 → n ≤ c → p ≤ n → nd ≤ 512 → ar ≤ 16 → 2 * (n - p) + 1 ≤ f →
    Calls Tryd.prog 39 #[.pointer (some ⟨r, 0, none⟩), .int .i64 ar] w fun e w' => ValEnd w r A n c e w' (pVal f (b.drop p) nd ar)
def listRes (x : Res (List SX × Nat)) : Res (SX × Nat) := match x with
  | .err e r' => .err e r'
  | .ok (ks, nd') r' => .ok (.mk true false [] [] ks, nd') r'
def ListSpec (f : Nat) : Prop := ∀ (r : Nat) (A : Option Addr) (n c p nd ar : Nat) (b : List UInt8) (B : Nat) (w : World) (s : List UInt8), RdAt w r A n c p nd → Reads w B 1 A n (Lib.byteCells b) → B ≤ r → n ≤ 5000 → n ≤ c → b.drop p = 40 :: s → nd ≤ 512 → ar < 16 → 2 * s.length + 2 ≤ f →
    Calls Tryd.prog 47 #[.pointer (some ⟨r, 0, none⟩), .int .i64 ar] w fun e w' => ValEnd w r A n c e w' (listRes (pKids f s nd (ar + 1)))

theorem ValEnd.from {w W : World} {r : Nat} {A : Option Addr} {n c : Nat} {e : Ending} {w' : World} {R : Res (SX × Nat)} (h : ValEnd W r A n c e w' R) (hg : w.grownBy W (some r)) : ValEnd w r A n c e w' R := by
  cases R with
  | err k rest => exact ⟨h.1, hg.trans h.2⟩
  | ok x rest =>
    obtain ⟨t, nd'⟩ := x
    obtain ⟨v0, v1, v2, v3, v4, he, hin, hR, hg2⟩ := h
    exact ⟨v0, v1, v2, v3, v4, he, hin.more fun k hk => by have := hg.size; omega, hR, hg.trans hg2⟩

set_option maxHeartbeats 4000000 in
set_option maxRecDepth 100000 in
theorem value_step (f : Nat) (hL : ListSpec f) : ValSpec (f + 1) := by
  intro r A n c p nd ar b B w h hr hB hn hc hp hnd har hf
  generalize hRR : pVal (f + 1) (b.drop p) nd ar = R
  have hl : b.length = n := by have := hr.1; simpa [Lib.byteCells_length] using this
  have hrl := h.lt
  have hb0 := below_new w (.cells #[.bool false, .bool false, .slice none 0 0, .slice none 0 0, .slice none 0 0] 25)
  have X1 : Box (w.alloc (.cells #[.bool false, .bool false, .slice none 0 0, .slice none 0 0, .slice none 0 0] 25)) w.heap.size (.bool false) (.bool false) (.slice none 0 0) (.slice none 0 0) (.slice none 0 0) := heap_alloc_new w _
  have hsz : (w.alloc (.cells #[.bool false, .bool false, .slice none 0 0, .slice none 0 0, .slice none 0 0] 25)).heap.size = w.heap.size + 1 := by simp
  have h0 := h.old hb0
  have hr0 : Reads (w.alloc (.cells #[.bool false, .bool false, .slice none 0 0, .slice none 0 0, .slice none 0 0] 25)) B 1 A n (Lib.byteCells b) := hr.keep fun q hq => hb0.cell (by omega)
  have hg0 := grown_below hb0 (some r)
  cases hs : b.drop p with
  | nil =>
    rw [hs, pVal] at hRR
    subst hRR
    have hpn : n ≤ p := by have := congrArg List.length hs; rw [List.length_drop, hl] at this; simp at this; omega
    have C := Lib.hid (peek_end r A n c p nd _ h0 hpn hn (by omega))
    clear h h0 hr hr0 X1 hs
    go_enter Tryd.func39, Tryd.ntmps39
    go_wp2_with ((with_reducible refine C.out.mono ?_); rintro e w1 ⟨rfl, hb1⟩)
    exact ⟨rfl, rfl, hg0.trans (grown_below hb1 _)⟩
  | cons x s =>
    have hlen : (x :: s).length = n - p := by rw [← hs, List.length_drop, hl]
    have hlen' : s.length + 1 = n - p := by rw [← hlen]; simp
    have hplace : n - (x :: s).length = p := by omega
    have C := Lib.hid (peek_at r A n c p nd b B _ h0 hr0 (by omega) hn x s hs)
    have CB := Lib.hid (fun W => begins_any x W)
    have HR0 := Lib.hid h0
    rw [hs, pVal] at hRR
    try simp only at hRR
    have HPL := Lib.hid hplace
    by_cases hbg : begins x = false
    · rw [if_pos hbg] at hRR
      subst hRR
      rw [hbg] at CB
      clear h h0 hr hr0 X1 hs hlen hplace
      go_enter Tryd.func39, Tryd.ntmps39
      go_wp2_with (first
        | ((with_reducible refine C.out.mono ?_); rintro e w1 ⟨rfl, hb1⟩; obtain ⟨c0, c1, c2, f1, f2⟩ := (HR0.out.old hb1).all)
        | ((with_reducible refine (CB.out _).mono ?_); rintro e w2 ⟨rfl, rfl⟩))
      exact ⟨rfl, by show Thrown 3 (n - (x :: s).length) _; rw [HPL.out]; rfl, hg0.trans (grown_below hb1 _)⟩
    · rw [if_neg hbg] at hRR
      have hbg : begins x = true := by simpa using hbg
      rw [hbg] at CB
      clear hbg
      by_cases hlim : 512 ≤ nd ∨ (x = 40 ∧ 16 ≤ ar)
      · rw [if_pos hlim] at hRR
        subst hRR
        by_cases h512 : 512 ≤ nd
        · have h512' : (512 : Int) ≤ nd := by omega
          clear h h0 hr hr0 X1 hs hlen hplace hlim
          go_enter Tryd.func39, Tryd.ntmps39
          go_wp2_with (first
            | ((with_reducible refine C.out.mono ?_); rintro e w1 ⟨rfl, hb1⟩; obtain ⟨c0, c1, c2, f1, f2⟩ := (HR0.out.old hb1).all)
            | ((with_reducible refine (CB.out _).mono ?_); rintro e w2 ⟨rfl, rfl⟩))
          exact ⟨rfl, by show Thrown 4 (n - (x :: s).length) _; rw [HPL.out]; rfl, hg0.trans (grown_below hb1 _)⟩
        · obtain ⟨hx, ha⟩ := hlim.elim (fun h => absurd h h512) id
          subst hx
          have h512' : (nd : Int) < 512 := by omega
          have ha' : (16 : Int) ≤ ar := by omega
          clear h h0 hr hr0 X1 hs hlen hplace hlim
          go_enter Tryd.func39, Tryd.ntmps39
          go_wp2_with (first
            | ((with_reducible refine C.out.mono ?_); rintro e w1 ⟨rfl, hb1⟩; obtain ⟨c0, c1, c2, f1, f2⟩ := (HR0.out.old hb1).all)
            | ((refine (CB.out _).mono ?_); rintro e w2 ⟨rfl, rfl⟩))
          exact ⟨rfl, by show Thrown 4 (n - (40 :: s : List UInt8).length) _; rw [HPL.out]; rfl, hg0.trans (grown_below hb1 _)⟩
      · rw [if_neg hlim] at hRR
        have h512' : (nd : Int) < 512 := by
          have : ¬ 512 ≤ nd := fun h => hlim (.inl h)
          omega
        have hnd1 : nd + 1 ≤ 512 := by omega
        have hcast : ((nd + 1 : Nat) : Int) = (nd : Int) + 1 := by omega
        have HR1 := Lib.hid (fun W1 (hb1 : Below (w.alloc (.cells #[.bool false, .bool false, .slice none 0 0, .slice none 0 0, .slice none 0 0] 25)).heap.size (w.alloc (.cells #[.bool false, .bool false, .slice none 0 0, .slice none 0 0, .slice none 0 0] 25)) W1) => (by
          have h1 := (HR0.out.old hb1).set2 ((nd : Int) + 1)
          have h2 := hg0.trans ((grown_below hb1 (some r)).trans (grown_set W1 r 2 (.int .i64 ((nd : Int) + 1))))
          have h3 : Box (W1.setCell ⟨r, 2, none⟩ (.int .i64 ((nd : Int) + 1))) w.heap.size (.bool false) (.bool false) (.slice none 0 0) (.slice none 0 0) (.slice none 0 0) := (X1.old hb1).far (by show w.heap.size ≠ r; omega) _
          have h4 := reads_grown hr h2 hB
          rw [← hcast] at h1
          exact And.intro h1 (And.intro h2 (And.intro h3 h4)) :
            RdAt (W1.setCell ⟨r, 2, none⟩ (.int .i64 ((nd : Int) + 1))) r A n c p (nd + 1 : Nat) ∧ w.grownBy (W1.setCell ⟨r, 2, none⟩ (.int .i64 ((nd : Int) + 1))) (some r) ∧
            Box (W1.setCell ⟨r, 2, none⟩ (.int .i64 ((nd : Int) + 1))) w.heap.size (.bool false) (.bool false) (.slice none 0 0) (.slice none 0 0) (.slice none 0 0) ∧ Reads (W1.setCell ⟨r, 2, none⟩ (.int .i64 ((nd : Int) + 1))) B 1 A n (Lib.byteCells b)))
        by_cases h40 : x = 40
        · subst h40
          rw [if_pos rfl] at hRR
          have ha : ar < 16 := by
            have : ¬ 16 ≤ ar := fun h => hlim (.inr ⟨rfl, h⟩)
            omega
          have ha' : (ar : Int) < 16 := by omega
          have CL := Lib.hid (fun W2 hR hrd => hL r A n c p (nd + 1) ar b B W2 s hR hrd hB hn hc hs hnd1 ha (by omega))
          have hRR : listRes (pKids f s (nd + 1) (ar + 1)) = R := hRR
          rw [hRR] at CL
          clear h h0 hr hr0 hs hlen hplace hlim hRR HPL hL
          go_enter Tryd.func39, Tryd.ntmps39
          go_wp2_with (first
            | ((with_reducible refine C.out.mono ?_); rintro e w1 ⟨rfl, hb1⟩; obtain ⟨c0, c1, c2, f1, f2⟩ := (HR0.out.old hb1).all)
            | ((refine (CB.out _).mono ?_); rintro e w2 ⟨rfl, rfl⟩))
          obtain ⟨hR2, hg2, hX2, hrd2⟩ := HR1.out _ hb1
          refine (CL.out _ hR2 hrd2).mono ?_
          intro e w3 hE
          cases R with
          | err k rest =>
            obtain ⟨rfl, hg3⟩ := hE
            go_wp2_with fail
            exact ⟨rfl, rfl, hg2.trans hg3⟩
          | ok y rest =>
            obtain ⟨t, nd'⟩ := y
            obtain ⟨x0, x1, x2, x3, x4, rfl, hin, hR3, hg3⟩ := hE
            obtain ⟨l', h', hi', da', ks', B1, m1, j1, B2, m2, j2, B3, m3, j3, _, eE⟩ := hin.form_
            injection eE with eE0 eE; injection eE with eE1 eE; injection eE with eE2 eE; injection eE with eE3 eE; injection eE with eE4 eE
            subst eE0 eE1 eE2 eE3 eE4
            have hz2 : w.heap.size + 1 ≤ (w2.setCell ⟨r, 2, none⟩ (.int .i64 ((nd : Int) + 1))).heap.size := by have := hb1.size; simp at this ⊢; omega
            have hgF := put5_grown (hg2.trans hg3) (Nat.le_refl _) (.bool l') (.bool h') (.slice B1 m1 j1) (.slice B2 m2 j2) (.slice B3 m3 j3)
            have hRF : RdAt (put5 w3 w.heap.size (.bool l') (.bool h') (.slice B1 m1 j1) (.slice B2 m2 j2) (.slice B3 m3 j3)) r A n c (n - rest.length : Nat) nd' := (put5_block (by omega) _ _ _ _ _).trans hR3
            have hiF : SIn (put5 w3 w.heap.size (.bool l') (.bool h') (.slice B1 m1 j1) (.slice B2 m2 j2) (.slice B3 m3 j3)) (fun k => w.heap.size ≤ k) t [.bool l', .bool h', .slice B1 m1 j1, .slice B2 m2 j2, .slice B3 m3 j3] :=
              ((hin.more (S' := fun k => w.heap.size + 1 ≤ k) fun k hk => by omega).keep fun q hq => put5_far q (by omega)).more fun k hk => by omega
            obtain ⟨⟨d0, d1, d2, d3, d4⟩, dz⟩ := (hX2.grown hg3 (fun e => by injection e with e; omega)).all
            have dz0 := dz 0
            have dz1 := dz 1
            have dz2 := dz 2
            have dz3 := dz 3
            have dz4 := dz 4
            have HF := Lib.hid (And.intro hiF (And.intro hRF hgF))
            clear dz hX2 hin hR3 hR2 hiF hRF hgF hrd2
            go_wp2_with fail
            exact bodyPost_ret (v := .agg #[.bool l', .bool h', .slice B1 m1 j1, .slice B2 m2 j2, .slice B3 m3 j3]) (by simp [results, Tryd.results39, go_sem, d0, d1, d2, d3, d4]) rfl ⟨_, _, _, _, _, rfl, HF.out⟩
        · rw [if_neg h40] at hRR
          have h40' : ((x.toNat : Int) == 40) = false := by
            rw [beq_eq_false_iff_ne]
            intro e
            exact h40 (UInt8.toNat_inj.1 (by show x.toNat = 40; omega))
          by_cases h91 : x = 91
          · subst h91
            rw [if_pos rfl] at hRR
            have CL := Lib.hid (fun W2 hR hrd => hinted_any r A n c p (nd + 1) b B W2 hR hrd hB hn hc s hs)
            have hRR : hintRes (pHint s) (nd + 1) = R := hRR
            rw [hRR] at CL
            clear h h0 hr hr0 hs hlen hplace hlim hRR HPL hL
            go_enter Tryd.func39, Tryd.ntmps39
            go_wp2_with (first
              | ((with_reducible refine C.out.mono ?_); rintro e w1 ⟨rfl, hb1⟩; obtain ⟨c0, c1, c2, f1, f2⟩ := (HR0.out.old hb1).all)
              | ((refine (CB.out _).mono ?_); rintro e w2 ⟨rfl, rfl⟩))
            obtain ⟨hR2, hg2, hX2, hrd2⟩ := HR1.out _ hb1
            refine (CL.out _ hR2 hrd2).mono ?_
            intro e w3 hE
            cases R with
            | err k rest =>
              obtain ⟨rfl, hg3⟩ := hE
              go_wp2_with fail
              exact ⟨rfl, rfl, hg2.trans hg3⟩
            | ok y rest =>
              obtain ⟨t, nd'⟩ := y
              obtain ⟨x0, x1, x2, x3, x4, rfl, hin, hR3, hg3⟩ := hE
              obtain ⟨l', h', hi', da', ks', B1, m1, j1, B2, m2, j2, B3, m3, j3, _, eE⟩ := hin.form_
              injection eE with eE0 eE; injection eE with eE1 eE; injection eE with eE2 eE; injection eE with eE3 eE; injection eE with eE4 eE
              subst eE0 eE1 eE2 eE3 eE4
              have hz2 : w.heap.size + 1 ≤ (w2.setCell ⟨r, 2, none⟩ (.int .i64 ((nd : Int) + 1))).heap.size := by have := hb1.size; simp at this ⊢; omega
              have hgF := put5_grown (hg2.trans hg3) (Nat.le_refl _) (.bool l') (.bool h') (.slice B1 m1 j1) (.slice B2 m2 j2) (.slice B3 m3 j3)
              have hRF : RdAt (put5 w3 w.heap.size (.bool l') (.bool h') (.slice B1 m1 j1) (.slice B2 m2 j2) (.slice B3 m3 j3)) r A n c (n - rest.length : Nat) nd' := (put5_block (by omega) _ _ _ _ _).trans hR3
              have hiF : SIn (put5 w3 w.heap.size (.bool l') (.bool h') (.slice B1 m1 j1) (.slice B2 m2 j2) (.slice B3 m3 j3)) (fun k => w.heap.size ≤ k) t [.bool l', .bool h', .slice B1 m1 j1, .slice B2 m2 j2, .slice B3 m3 j3] :=
                ((hin.more (S' := fun k => w.heap.size + 1 ≤ k) fun k hk => by omega).keep fun q hq => put5_far q (by omega)).more fun k hk => by omega
              obtain ⟨⟨d0, d1, d2, d3, d4⟩, dz⟩ := (hX2.grown hg3 (fun e => by injection e with e; omega)).all
              have dz0 := dz 0
              have dz1 := dz 1
              have dz2 := dz 2
              have dz3 := dz 3
              have dz4 := dz 4
              have HF := Lib.hid (And.intro hiF (And.intro hRF hgF))
              clear dz hX2 hin hR3 hR2 hiF hRF hgF hrd2
              go_wp2_with fail
              exact bodyPost_ret (v := .agg #[.bool l', .bool h', .slice B1 m1 j1, .slice B2 m2 j2, .slice B3 m3 j3]) (by simp [results, Tryd.results39, go_sem, d0, d1, d2, d3, d4]) rfl ⟨_, _, _, _, _, rfl, HF.out⟩
          · rw [if_neg h91] at hRR
            have h91' : ((x.toNat : Int) == 91) = false := by
              rw [beq_eq_false_iff_ne]
              intro e
              exact h91 (UInt8.toNat_inj.1 (by show x.toNat = 91; omega))
            have CL := Lib.hid (fun W2 hR hrd => bytes_any r A n c p (nd + 1 : Nat) b B W2 hR hrd hB (by omega) hn hc (x :: s) hs)
            clear h h0 hr hr0 hs hlen hplace hlim HPL hL h40 h91
            cases hpb : pBytes (x :: s) with
            | err k rest =>
              rw [hpb] at hRR CL
              have hRR : Res.err k rest = R := hRR
              subst hRR
              clear hpb
              go_enter Tryd.func39, Tryd.ntmps39
              go_wp2_with (first
                | ((with_reducible refine C.out.mono ?_); rintro e w1 ⟨rfl, hb1⟩; obtain ⟨c0, c1, c2, f1, f2⟩ := (HR0.out.old hb1).all)
                | ((with_reducible refine (CB.out _).mono ?_); rintro e w2 ⟨rfl, rfl⟩))
              obtain ⟨hR2, hg2, hX2, hrd2⟩ := HR1.out _ hb1
              refine (CL.out _ hR2 hrd2).mono ?_
              rintro e w3 ⟨rfl, hg3⟩
              go_wp2_with fail
              exact ⟨rfl, rfl, hg2.trans hg3⟩
            | ok da rest =>
              rw [hpb] at hRR CL
              have hRR : Res.ok (SX.mk false false [] da [], nd + 1) rest = R := hRR
              subst hRR
              have hdl := (pBytes_sound hpb).2
              clear hpb
              go_enter Tryd.func39, Tryd.ntmps39
              go_wp2_with (first
                | ((with_reducible refine C.out.mono ?_); rintro e w1 ⟨rfl, hb1⟩; obtain ⟨c0, c1, c2, f1, f2⟩ := (HR0.out.old hb1).all)
                | ((with_reducible refine (CB.out _).mono ?_); rintro e w2 ⟨rfl, rfl⟩))
              obtain ⟨hR2, hg2, hX2, hrd2⟩ := HR1.out _ hb1
              refine (CL.out _ hR2 hrd2).mono ?_
              rintro e w3 ⟨A2, c2, rfl, hc2, q2, hR3, hg3⟩
              have hz2 : w.heap.size + 1 ≤ (w2.setCell ⟨r, 2, none⟩ (.int .i64 ((nd : Int) + 1))).heap.size := by have := hb1.size; simp at this ⊢; omega
              have hgF := put5_grown (hg2.trans hg3) (Nat.le_refl _) (.bool false) (.bool false) (.slice none 0 0) (.slice A2 da.length c2) (.slice none 0 0)
              have hRF : RdAt (put5 w3 w.heap.size (.bool false) (.bool false) (.slice none 0 0) (.slice A2 da.length c2) (.slice none 0 0)) r A n c (n - rest.length : Nat) (nd + 1 : Nat) := (put5_block (by omega) _ _ _ _ _).trans hR3
              have hiF : SIn (put5 w3 w.heap.size (.bool false) (.bool false) (.slice none 0 0) (.slice A2 da.length c2) (.slice none 0 0)) (fun k => w.heap.size ≤ k) (.mk false false [] da []) [.bool false, .bool false, .slice none 0 0, .slice A2 da.length c2, .slice none 0 0] :=
                .mk (xs := []) RIn.none_ ⟨Nat.le_refl _, by omega⟩ (((q2.more (S' := fun k => w.heap.size + 1 ≤ k) fun k hk => by omega).keep fun q hq => put5_far q (by omega)).more fun k hk => by omega) ⟨hc2, by omega⟩ RIn.none_ ⟨Nat.le_refl _, by omega⟩ rfl (fun i t hit => by simp at hit)
              obtain ⟨⟨d0, d1, d2, d3, d4⟩, dz⟩ := (hX2.grown hg3 (fun e => by injection e with e; omega)).all
              have dz0 := dz 0
              have dz1 := dz 1
              have dz2 := dz 2
              have dz3 := dz 3
              have dz4 := dz 4
              have HF := Lib.hid (And.intro hiF (And.intro hRF hgF))
              clear dz hX2 q2 hR3 hR2 hiF hRF hgF hrd2
              go_wp2_with fail
              exact bodyPost_ret (v := .agg #[.bool false, .bool false, .slice none 0 0, .slice A2 da.length c2, .slice none 0 0]) (by simp [results, Tryd.results39, go_sem, d0, d1, d2, d3, d4]) rfl ⟨_, _, _, _, _, rfl, HF.out⟩
end Go.Proofs.YtaenahilnnlbfaaDoor
