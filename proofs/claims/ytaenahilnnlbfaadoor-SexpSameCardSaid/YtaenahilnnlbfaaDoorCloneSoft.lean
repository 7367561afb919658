/-
  The contract of sexp's Clone once more, and that what it makes may be written. Conditions: none.
-/
import Derived.Test.YtaenahilnnlbfaaDoorClone
set_option linter.unusedVariables false
namespace Go.Proofs.YtaenahilnnlbfaaDoor
open Go Go.Proofs Go.RowKit Sx

/-- A block that is there, and may be written. -/
def soft (w : World) (b : Nat) : Prop := b < w.heap.size ∧ ∀ i, w.frozen? ⟨b, i, none⟩ = false
theorem soft.of_block {w w' : World} {b : Nat} (h : soft w b) (e : w'.heap[b]? = w.heap[b]?) : soft w' b := by
  refine ⟨?_, fun i => ?_⟩
  · rcases Nat.lt_or_ge b w'.heap.size with h' | h'
    · exact h'
    · rw [Array.getElem?_eq_none h', Array.getElem?_eq_getElem h.1] at e
      cases e
  · have := h.2 i
    unfold World.frozen? at this ⊢
    rw [e]
    exact this
theorem soft.old {w w' : World} {b : Nat} (h : soft w b) (hb : Below w.heap.size w w') : soft w' b := h.of_block (hb.block b h.1)
theorem soft.grown {w w' : World} {b : Nat} {row : Option Nat} (h : soft w b) (hg : w.grownBy w' row) (hr : some b ≠ row) : soft w' b := h.of_block (hg.block b h.1 hr)
theorem soft.set {w : World} {b : Nat} (h : soft w b) (p : Addr) (x : Value) : soft (w.setCell p x) b := ⟨by simpa using h.1, fun i => by rw [World.frozen?_setCell]; exact h.2 i⟩
theorem RIn.of_own_soft {w : World} {base : Nat} {e : TypeId} {size n : Nat} {v : Value} {xs : List Value} (h : w.ownsRow base e size v n xs) :
    ∃ A c, v = .slice A n c ∧ n ≤ c ∧ RIn w (fun b => base ≤ b ∧ soft w b) size A n xs := by
  rcases h.2 with ⟨h1, h2⟩ | ⟨g, cap, cur, hv, hb, hh, hc, _⟩
  · subst h2
    exact ⟨none, 0, h1, Nat.le_refl _, h.1, fun h => absurd h (by omega)⟩
  · subst hv
    exact ⟨_, _, rfl, hc, h.1, fun _ => ⟨_, rfl, ⟨hb, (Array.getElem?_eq_some_iff.1 hh).1, fun i => by simp [World.frozen?, hh]⟩, h.cells (g := g) rfl⟩⟩

def BytesSoft (w : World) (L : List UInt8) (e : Ending) (w' : World) : Prop := ∃ A c, e = .returned (.slice A L.length c) ∧ L.length ≤ c ∧ RIn w' (fun b => w.heap.size ≤ b ∧ soft w' b) 1 A L.length (Lib.byteCells L) ∧ Below w.heap.size w w'

theorem bytesSoft_any (A : Option Addr) (n c : Nat) (l : List UInt8) (S : Nat → Prop) (w : World) (hr : RIn w S 1 A n (Lib.byteCells l)) (hn : n ≤ 140737488355328) :
    Calls Tryd.prog 31 #[.slice A n c] w (BytesSoft w l) := by
  have hl : l.length = n := by have := hr.1; simpa [Lib.byteCells_length] using this
  subst hl
  rcases A with _ | ad
  · have h0 : l.length = 0 := by
      rcases Nat.eq_zero_or_pos l.length with h | h
      · exact h
      · obtain ⟨_, h, _⟩ := hr.2 h; cases h
    have hn : l = [] := List.eq_nil_of_length_eq_zero h0
    subst hn
    refine (Tryd.bytes_Clone_nil _ c w).mono ?_
    rintro e w' ⟨rfl, rfl⟩
    exact ⟨none, 0, rfl, Nat.le_refl _, RIn.none_, Below.refl _ _⟩
  · refine (Tryd.bytes_Clone_at ad l.length c (ints l) w (by simp [ints]) hn ?_).mono ?_
    · intro i hi
      obtain ⟨ad', h1, _, h3⟩ := hr.2 (by omega)
      injection h1 with h1
      subst h1
      refine h3 i _ ?_
      simp [Lib.byteCells, ints, List.getD, List.getElem?_eq_getElem hi]
    · rintro e w' ⟨v', rfl, hown, _, hb⟩
      rw [ints_cells] at hown
      obtain ⟨A', c', rfl, hc, hri⟩ := RIn.of_own_soft hown
      exact ⟨A', c', rfl, hc, hri, hb⟩

def CloneSoft (t : SX) : Prop := ∀ (w : World) (S : Nat → Prop) (cs : List Value), SIn w S t cs →
    Calls Tryd.prog 18 #[.agg cs.toArray] w fun e w' => ∃ v0 v1 v2 v3 v4, e = .returned (.agg #[v0, v1, v2, v3, v4]) ∧ SIn w' (fun b => w.heap.size ≤ b ∧ soft w' b) t [v0, v1, v2, v3, v4] ∧ Below w.heap.size w w'
def KidsSoft (w : World) (ks : List SX) (n : Nat) (e : Ending) (w' : World) : Prop := ∃ A c ys, e = .returned (.slice A n c) ∧ n ≤ c ∧ RIn w' (fun b => w.heap.size ≤ b ∧ soft w' b) 5 A n ys ∧ Kids w' (fun b => w.heap.size ≤ b ∧ soft w' b) ks ys ∧ Below w.heap.size w w'

set_option maxHeartbeats 2000000 in
set_option maxRecDepth 100000 in
theorem cloneAllSoft_any (ks : List SX) (hK : ∀ k ∈ ks, CloneSoft k) (A : Option Addr) (n c : Nat) (xs : List Value) (S : Nat → Prop) (w : World) (hr : RIn w S 5 A n xs) (hk : ks.length = n)
    (hs : Kids w S ks xs) (hn : n * 80 ≤ 140737488355328) :
    Calls Tryd.prog 32 #[.slice A n c] w (KidsSoft w ks n) := by
  have HC := Lib.hid (slicesClone_any A n c xs S w hr (one_cells hr hk hs) hn)
  have HKS := Lib.hid hK
  have HS := Lib.hid hs
  have HK := Lib.hid hk
  clear hs hK hr hk
  go_enter Tryd.func32, Tryd.ntmps32
  go_wp2_with ((with_reducible refine HC.out.mono ?_); rintro e w1 ⟨v, rfl, hown, hb1⟩; obtain ⟨A1, c1, rfl, hc1⟩ : ∃ A1 c1, v = .slice A1 n c1 ∧ n ≤ c1 := by obtain ⟨A', c', h1, h2, _⟩ := RIn.of_own hown; exact ⟨A', c', h1, h2⟩)
  have hs1 : Hid (∀ i t, ks[i]? = some t → SIn w1 (fun b => S b ∧ b < w.heap.size) t ((xs.drop (i * 5)).take 5)) := fun i t h => (HS.out i t h).size_.kept hb1 (fun b h => h.2)
  go_loopw [9] (fun i wr => ∃ (k : Nat) (ys : List Value), k ≤ n ∧ i = .int .i64 k ∧ wr.ownsRow w.heap.size 25 5 (.slice A1 n c1) n ys ∧ Below w.heap.size w wr ∧
      Hid (∀ i t, ks[i]? = some t → i < k → SIn wr (fun b => w.heap.size ≤ b ∧ soft wr b ∧ some b ≠ A1.map (·.block)) t ((ys.drop (i * 5)).take 5)) ∧
      Hid (∀ i t, ks[i]? = some t → k ≤ i → SIn wr (fun b => S b ∧ b < w.heap.size) t ((ys.drop (i * 5)).take 5))) (fun i _ => n - (intOf i).toNat)
  case atStart => exact ⟨0, xs, Nat.zero_le _, rfl, hown, hb1, fun i t h h0 => absurd h0 (by omega), fun i t h _ => hs1.out i t h⟩
  case round =>
    obtain ⟨k, ys, hkn, rfl, hownr, hbel, H1, H2⟩ := hrel
    clear hown hb1 hs1
    by_cases hlt : k < n
    · have hkl : k < ks.length := by rw [HK.out]; exact hlt
      obtain ⟨t, ht⟩ : ∃ t, t = ks[k] := ⟨_, rfl⟩
      have hks : ks[k]? = some t := by rw [ht]; exact List.getElem?_eq_getElem hkl
      have hM := Lib.hid (show t ∈ ks by rw [ht]; exact List.getElem_mem hkl)
      have hin := H2.out k t hks (Nat.le_refl _)
      obtain ⟨_, _, e1, _, hri⟩ := RIn.of_own hownr
      injection e1 with e1a e1b e1c
      subst e1a e1c
      obtain ⟨ad, v0, v1, v2, v3, v4, rfl, hS, hcs, d0, d1, d2, d3, d4⟩ := hri.at5 hlt
      rw [hcs] at hin
      have hsz := hbel.size
      have hks := Lib.hid hks
      clear ht hkl
      have HCt := Lib.hid ((HKS.out t hM.out) _ _ _ hin)
      go_wp2_with ((with_reducible refine HCt.out.mono ?_); rintro e w2 ⟨x0, x1, x2, x3, x4, rfl, hin2, hb2⟩; obtain ⟨s0, s1, s2, s3, s4, hown5, hg5⟩ := stores5 (own_old hownr hb2) hlt hin2)
      have hsz2 := hb2.size
      have hadlt : ad.block < wr.heap.size := (hownr.lt ad.block rfl).2
      have hadN : w.heap.size ≤ ad.block := (hownr.lt ad.block rfl).1
      have hlen : k * 5 + 4 < ys.length := by have := hownr.1; omega
      refine ⟨⟨k + 1, upd5 ys (k * 5) x0 x1 x2 x3 x4, by omega, by go_num, hown5, ?_, ?_, ?_⟩, by simp [intOf]; omega⟩
      · exact (hbel.trans (hb2.mono hsz)).grown hg5 (by omega) (fun b hb => by injection hb with hb; omega)
      · intro i t' ht' hi
        by_cases hik : i = k
        · subst hik
          rw [hks.out] at ht'
          injection ht' with ht'
          subst ht'
          rw [upd5_at _ _ _ _ _ _ _ hlen]
          exact (hin2.grown hg5 (fun b hb h => by injection h with h; have := hb.1; omega)).more fun b hb => ⟨by have := hb.1; omega, hb.2.grown hg5 (fun h => by injection h with h; have := hb.1; omega), fun h => by simp at h; have := hb.1; omega⟩
        · rw [upd5_off _ _ _ _ _ _ _ _ hik]
          exact (((H1.out i t' ht' (by omega)).old hb2).grown hg5 (fun b hb => hb.2.2)).more fun b hb => ⟨hb.1, (hb.2.1.old hb2).grown hg5 hb.2.2, hb.2.2⟩
      · intro i t' ht' hi
        rw [upd5_off _ _ _ _ _ _ _ _ (by omega)]
        exact ((H2.out i t' ht' (by omega)).old hb2).grown hg5 (fun b hb h => by injection h with h; omega)
    · obtain rfl : k = n := by omega
      obtain ⟨_, _, e1, _, hri⟩ := RIn.of_own_soft hownr
      injection e1 with e1a e1b e1c
      subst e1a e1c
      have hkids : Hid (Kids wr (fun b => w.heap.size ≤ b ∧ soft wr b) ks ys) := fun i t h => (H1.out i t h (by have := (List.getElem?_eq_some_iff.1 h).1; rw [HK.out] at this; exact this)).more fun _ h => ⟨h.1, h.2.1⟩
      go_wp2_with fail
      go_ret
      exact ⟨_, _, ys, rfl, hc1, hri, hkids.out, hbel⟩

set_option maxHeartbeats 4000000 in
set_option maxRecDepth 100000 in
theorem cloneSoft_any (t : SX) : CloneSoft t := by
  induction t using SX.ind with
  | H l h hi da ks ih =>
    intro w S cs hs
    obtain ⟨_, _, _, _, _, A1, n1, c1, A2, n2, c2, A3, n3, c3, e, rfl⟩ := hs.form_
    cases e
    have hs' := hs.size_
    cases hs' with
    | @mk _ _ _ _ _ _ _ _ _ _ _ _ _ _ xs r1 b1 r2 b2 r3 b3 hk hks =>
    have IH := Lib.hid ih
    have HK := Lib.hid hk
    have hb0 := (below_new w (.cells #[Value.bool l, Value.bool h, Value.slice A1 n1 c1, Value.slice A2 n2 c2, Value.slice A3 n3 c3] 25)).trans ((below_new (w.alloc (.cells #[Value.bool l, Value.bool h, Value.slice A1 n1 c1, Value.slice A2 n2 c2, Value.slice A3 n3 c3] 25)) (.cells #[.bool false, .bool false, .slice none 0 0, .slice none 0 0, .slice none 0 0] 25)).mono (by simp))
    have X1 : Box ((w.alloc (.cells #[Value.bool l, Value.bool h, Value.slice A1 n1 c1, Value.slice A2 n2 c2, Value.slice A3 n3 c3] 25)).alloc (.cells #[.bool false, .bool false, .slice none 0 0, .slice none 0 0, .slice none 0 0] 25)) w.heap.size (.bool l) (.bool h) (.slice A1 n1 c1) (.slice A2 n2 c2) (.slice A3 n3 c3) :=
      below_at (below_new _ _) (heap_alloc_new w _)
    have X2 : Box ((w.alloc (.cells #[Value.bool l, Value.bool h, Value.slice A1 n1 c1, Value.slice A2 n2 c2, Value.slice A3 n3 c3] 25)).alloc (.cells #[.bool false, .bool false, .slice none 0 0, .slice none 0 0, .slice none 0 0] 25)) (w.heap.size + 1) (.bool false) (.bool false) (.slice none 0 0) (.slice none 0 0) (.slice none 0 0) := by
      have := heap_alloc_new (w.alloc (.cells #[Value.bool l, Value.bool h, Value.slice A1 n1 c1, Value.slice A2 n2 c2, Value.slice A3 n3 c3] 25)) (.cells #[.bool false, .bool false, .slice none 0 0, .slice none 0 0, .slice none 0 0] 25)
      have e : (w.alloc (.cells #[Value.bool l, Value.bool h, Value.slice A1 n1 c1, Value.slice A2 n2 c2, Value.slice A3 n3 c3] 25)).heap.size = w.heap.size + 1 := by simp
      rw [e] at this
      exact this
    have hsz : ((w.alloc (.cells #[Value.bool l, Value.bool h, Value.slice A1 n1 c1, Value.slice A2 n2 c2, Value.slice A3 n3 c3] 25)).alloc (.cells #[.bool false, .bool false, .slice none 0 0, .slice none 0 0, .slice none 0 0] 25)).heap.size = w.heap.size + 2 := by simp
    go_enter Tryd.func18, Tryd.ntmps18
    go_wp2_with fail
    generalize ((w.alloc (.cells #[Value.bool l, Value.bool h, Value.slice A1 n1 c1, Value.slice A2 n2 c2, Value.slice A3 n3 c3] 25)).alloc (.cells #[.bool false, .bool false, .slice none 0 0, .slice none 0 0, .slice none 0 0] 25)) = W at *
    refine (bytesSoft_any A1 n1 c1 hi _ W (r1.keep fun p hp => hb0.cell hp.2) b1.2).mono ?_
    rintro e w1 ⟨A1', c1', rfl, hc1', q1, hb1⟩
    have hsz1 := hb1.size
    have X1 := X1.old hb1
    have X2 := X2.old hb1
    have hb0 := hb0.trans (hb1.mono (by omega))
    obtain ⟨⟨-, -, f2, f3, -⟩, fz⟩ := X1.all
    have fz2 := fz 2
    have g1 := X1.set2 (.slice A1' hi.length c1')
    have g2 := X2.far (p := ⟨w.heap.size, 2, none⟩) (by show w.heap.size + 1 ≠ w.heap.size; omega) (.slice A1' hi.length c1')
    have g3 := below_far hb0 (p := ⟨w.heap.size, 2, none⟩) (Nat.le_refl _) (.slice A1' hi.length c1')
    have g4 := ((q1.more (S' := fun b => w.heap.size + 2 ≤ b ∧ soft w1 b) (fun b hb => ⟨by have := hb.1; omega, hb.2⟩)).far (p := ⟨w.heap.size, 2, none⟩) (fun b hb => by show b ≠ w.heap.size; have := hb.1; omega) (.slice A1' hi.length c1')).more (S' := fun b => w.heap.size + 2 ≤ b ∧ soft (w1.setCell ⟨w.heap.size, 2, none⟩ (.slice A1' hi.length c1')) b) (fun b hb => ⟨hb.1, hb.2.set _ _⟩)
    have g5 : (w1.setCell ⟨w.heap.size, 2, none⟩ (.slice A1' hi.length c1')).heap.size = w1.heap.size := by simp
    clear fz X1 X2 hb0 q1
    go_wp2_with fail
    generalize w1.setCell ⟨w.heap.size, 2, none⟩ (.slice A1' hi.length c1') = W at *
    clear f2 f3 fz2
    refine (bytesSoft_any A2 n2 c2 da _ W (r2.keep fun p hp => g3.cell hp.2) b2.2).mono ?_
    rintro e w2 ⟨A2', c2', rfl, hc2', q2, hb2⟩
    have hsz2 := hb2.size
    have X1 := g1.old hb2
    have X2 := g2.old hb2
    have hb0 := g3.trans (hb2.mono (by omega))
    have q1 := (g4.old (by omega) hb2).more (S' := fun b => w.heap.size + 2 ≤ b ∧ soft w2 b) (fun b hb => ⟨hb.1, hb.2.old hb2⟩)
    clear g1 g2 g3 g4
    obtain ⟨⟨-, -, -, f3, f4⟩, fz⟩ := X1.all
    have fz3 := fz 3
    have g1 := X1.set3 (.slice A2' da.length c2')
    have g2 := X2.far (p := ⟨w.heap.size, 3, none⟩) (by show w.heap.size + 1 ≠ w.heap.size; omega) (.slice A2' da.length c2')
    have g3 := below_far hb0 (p := ⟨w.heap.size, 3, none⟩) (Nat.le_refl _) (.slice A2' da.length c2')
    have g4 := (q1.far (p := ⟨w.heap.size, 3, none⟩) (fun b hb => by show b ≠ w.heap.size; have := hb.1; omega) (.slice A2' da.length c2')).more (S' := fun b => w.heap.size + 2 ≤ b ∧ soft (w2.setCell ⟨w.heap.size, 3, none⟩ (.slice A2' da.length c2')) b) (fun b hb => ⟨hb.1, hb.2.set _ _⟩)
    have g6 := ((q2.more (S' := fun b => w.heap.size + 2 ≤ b ∧ soft w2 b) (fun b hb => ⟨by have := hb.1; omega, hb.2⟩)).far (p := ⟨w.heap.size, 3, none⟩) (fun b hb => by show b ≠ w.heap.size; have := hb.1; omega) (.slice A2' da.length c2')).more (S' := fun b => w.heap.size + 2 ≤ b ∧ soft (w2.setCell ⟨w.heap.size, 3, none⟩ (.slice A2' da.length c2')) b) (fun b hb => ⟨hb.1, hb.2.set _ _⟩)
    have g7 : (w2.setCell ⟨w.heap.size, 3, none⟩ (.slice A2' da.length c2')).heap.size = w2.heap.size := by simp
    clear fz X1 X2 hb0 q1 q2
    go_wp2_with fail
    generalize w2.setCell ⟨w.heap.size, 3, none⟩ (.slice A2' da.length c2') = W at *
    clear f3 f4 fz3
    refine (cloneAllSoft_any ks IH.out A3 n3 c3 xs _ W (r3.keep fun p hp => g3.cell hp.2) HK.out (fun i t h => (hks i t h).kept g3 (fun b hb => hb.2)) b3.2).mono ?_
    rintro e w3 ⟨A3', c3', ys, rfl, hc3', q3, qk, hb3⟩
    have hsz3 := hb3.size
    have X1 := g1.old hb3
    have X2 := g2.old hb3
    have hb0 := g3.trans (hb3.mono (by omega))
    have q1 := (g4.old (by omega) hb3).more (S' := fun b => w.heap.size + 2 ≤ b ∧ soft w3 b) (fun b hb => ⟨hb.1, hb.2.old hb3⟩)
    have q2 := (g6.old (by omega) hb3).more (S' := fun b => w.heap.size + 2 ≤ b ∧ soft w3 b) (fun b hb => ⟨hb.1, hb.2.old hb3⟩)
    clear g1 g2 g3 g4 g6
    obtain ⟨⟨f0, f1, f2, f3, f4⟩, fz⟩ := X1.all
    obtain ⟨⟨d0, d1, d2, d3, d4⟩, dz⟩ := X2.all
    have fz4 := fz 4
    have dz0 := dz 0
    have dz1 := dz 1
    have dz2 := dz 2
    have dz3 := dz 3
    have dz4 := dz 4
    clear fz dz X1 X2
    go_wp2_with fail
    have F : ∀ p : Addr, w.heap.size + 2 ≤ p.block → ((((((w3.setCell ⟨w.heap.size, 4, none⟩ (.slice A3' n3 c3')).setCell ⟨w.heap.size + 1, 0, none⟩ (.bool l)).setCell ⟨w.heap.size + 1, 1, none⟩ (.bool h)).setCell ⟨w.heap.size + 1, 2, none⟩ (.slice A1' hi.length c1')).setCell ⟨w.heap.size + 1, 3, none⟩ (.slice A2' da.length c2')).setCell ⟨w.heap.size + 1, 4, none⟩ (.slice A3' n3 c3')).cell? p = w3.cell? p := by
      intro p hp
      have h1 : ∀ i, p ≠ ⟨w.heap.size, i, none⟩ := fun i e => by rw [e] at hp; simp at hp; omega
      have h2 : ∀ i, p ≠ ⟨w.heap.size + 1, i, none⟩ := fun i e => by rw [e] at hp; simp at hp
      rw [World.cell?_setCell_other _ _ _ _ (h2 4).symm, World.cell?_setCell_other _ _ _ _ (h2 3).symm, World.cell?_setCell_other _ _ _ _ (h2 2).symm, World.cell?_setCell_other _ _ _ _ (h2 1).symm, World.cell?_setCell_other _ _ _ _ (h2 0).symm, World.cell?_setCell_other _ _ _ _ (h1 4).symm]
    have hbf := (((((hb0.setCell (p := ⟨w.heap.size, 4, none⟩) (Nat.le_refl _) (.slice A3' n3 c3')).setCell (p := ⟨w.heap.size + 1, 0, none⟩) (Nat.le_succ _) (.bool l)).setCell (p := ⟨w.heap.size + 1, 1, none⟩) (Nat.le_succ _) (.bool h)).setCell (p := ⟨w.heap.size + 1, 2, none⟩) (Nat.le_succ _) (.slice A1' hi.length c1')).setCell (p := ⟨w.heap.size + 1, 3, none⟩) (Nat.le_succ _) (.slice A2' da.length c2')).setCell (p := ⟨w.heap.size + 1, 4, none⟩) (Nat.le_succ _) (.slice A3' n3 c3')
    refine bodyPost_ret (v := .agg #[.bool l, .bool h, .slice A1' hi.length c1', .slice A2' da.length c2', .slice A3' n3 c3']) (by simp [results, Tryd.results18, go_sem, d0, d1, d2, d3, d4]) rfl ⟨_, _, _, _, _, rfl, ?_, hbf⟩
    have hl1 := r1.1
    have hl2 := r2.1
    rw [Lib.byteCells_length] at hl1 hl2
    have FS : ∀ b, w.heap.size + 2 ≤ b ∧ soft w3 b → w.heap.size ≤ b ∧ soft ((((((w3.setCell ⟨w.heap.size, 4, none⟩ (.slice A3' n3 c3')).setCell ⟨w.heap.size + 1, 0, none⟩ (.bool l)).setCell ⟨w.heap.size + 1, 1, none⟩ (.bool h)).setCell ⟨w.heap.size + 1, 2, none⟩ (.slice A1' hi.length c1')).setCell ⟨w.heap.size + 1, 3, none⟩ (.slice A2' da.length c2')).setCell ⟨w.heap.size + 1, 4, none⟩ (.slice A3' n3 c3')) b :=
      fun b hb => ⟨by have := hb.1; omega, (((((hb.2.set _ _).set _ _).set _ _).set _ _).set _ _).set _ _⟩
    have G3 : ∀ b, W.heap.size ≤ b ∧ soft w3 b → w.heap.size + 2 ≤ b ∧ soft w3 b := fun b hb => ⟨by have := hb.1; omega, hb.2⟩
    refine .mk ((q1.keep fun p hp => F p hp.1).more FS) ⟨hc1', by omega⟩ ((q2.keep fun p hp => F p hp.1).more FS) ⟨hc2', by omega⟩ (((q3.more G3).keep fun p hp => F p hp.1).more FS) ⟨hc3', b3.2⟩ HK.out (fun i t hit => (((qk i t hit).more G3).keep fun p hp => F p hp.1).more FS)
end Go.Proofs.YtaenahilnnlbfaaDoor
