/-
  The contract of the document's answer value (package greffierref02): what is read at a place, lists too. Conditions: the bytes are at most 5000.
-/
import Derived.Test.YtaenahilnnlbfaaDoorRefRead3
set_option linter.unusedVariables false
namespace Go.Proofs.YtaenahilnnlbfaaDoor
open Go Go.Proofs Go.RowKit Sx Oct

/-- What the reference's reading of a list holds, on its way. -/
def RHas (w wr : World) (B : Nat) (acc : List SX) (v : Value) (ys : List Value) : Prop :=
  Box8 wr w.heap.size (.bool false) (.bool false) (.slice none 0 0) (.slice none 0 0) (.slice none 0 0) (.int .i64 0) (.int .i64 0) (.int .i64 0) ∧ Box wr (w.heap.size + 1) (.bool true) (.bool false) (.slice none 0 0) (.slice none 0 0) v ∧
  wr.ownsRow (w.heap.size + 2) 25 5 v acc.length ys ∧ Kids wr (fun k => (k < B ∨ w.heap.size + 2 ≤ k) ∧ some k ≠ v.ownBlock) acc ys ∧ Below w.heap.size w wr ∧ w.heap.size + 2 ≤ wr.heap.size
theorem RHas.keep {w wr w1 : World} {B : Nat} {acc : List SX} {v : Value} {ys : List Value} (h : RHas w wr B acc v ys) (hg : Below wr.heap.size wr w1) : RHas w w1 B acc v ys := by
  obtain ⟨h1, h2, h3, h4, h5, h6⟩ := h
  have hz := hg.size
  exact ⟨h1.old hg, h2.old hg, own_old h3 hg, fun i t hit => (h4 i t hit).old hg, h5.trans (hg.mono (by omega)), by omega⟩
theorem RHas.step {w w1 w5 : World} {B : Nat} {acc : List SX} {v v' : Value} {ys cs : List Value} {t : SX} {o : Obj} {K : Nat} (h : RHas w w1 B acc v ys) (hB : B ≤ w.heap.size)
    (hin : SIn w1 (fun k => k < B ∨ K ≤ k) t cs) (hK : ∀ k, v.ownBlock = some k → k < K) (hK2 : w.heap.size + 2 ≤ K)
    (ho : w5.ownsRow (w.heap.size + 2) 25 5 v' (acc.length + 1) (ys ++ cs)) (hg : (w1.alloc o).grownBy w5 v.ownBlock) (hv : v'.ownBlock = v.ownBlock ∨ v'.ownBlock = some (w1.alloc o).heap.size) :
    RHas w (w5.setCell ⟨w.heap.size + 1, 4, none⟩ v') B (acc ++ [t]) v' (ys ++ cs) := by
  obtain ⟨h1, h2, h3, h4, h5, h6⟩ := h
  have hba := below_new w1 o
  have hsz : (w1.alloc o).heap.size = w1.heap.size + 1 := by simp
  have hz := hg.size
  have hne : ∀ k, k < w.heap.size + 2 → v.ownBlock ≠ some k := fun k hk e => by have := (own_lt h3 e).1; omega
  have hyl := h3.1
  have hcl : cs.length = 5 := by
    obtain ⟨_, _, _, _, _, A1, n1, c1, A2, n2, c2, A3, n3, c3, _, e⟩ := hin.form_
    rw [e]; rfl
  have hfar : ∀ k, k < w1.heap.size → v.ownBlock ≠ some k → v'.ownBlock ≠ some k := fun k hk hn e => by
    rcases hv with hv | hv
    · exact hn (hv ▸ e)
    · rw [hv] at e; injection e with e; omega
  have hb5 : Below w.heap.size w1 w5 := (hba.mono (by omega)).grown hg (by omega) (fun k e => by have := (own_lt h3 e).1; omega)
  refine ⟨?_, ?_, ?_, ?_, ?_, ?_⟩
  · have e1 : (w5.setCell ⟨w.heap.size + 1, 4, none⟩ v').heap[w.heap.size]? = w5.heap[w.heap.size]? := Below.heap_setCell _ _ _ _ (by show w.heap.size ≠ w.heap.size + 1; omega)
    have e2 := hg.block w.heap.size (by omega) (fun e => hne _ (by omega) e.symm)
    exact e1.trans (e2.trans (below_at hba h1))
  · exact ((h2.old hba).grown hg (hne _ (by omega))).set4 _
  · have := own_set ho (p := ⟨w.heap.size + 1, 4, none⟩) (by show w.heap.size + 1 < w.heap.size + 2; omega) v'
    simpa using this
  · intro i s hs
    rcases Nat.lt_or_ge i acc.length with hi | hi
    · rw [List.getElem?_append_left hi] at hs
      have hd : ((ys ++ cs).drop (i * 5)).take 5 = (ys.drop (i * 5)).take 5 := by
        rw [List.drop_append_of_le_length (by omega), List.take_append_of_le_length (by rw [List.length_drop]; omega)]
      rw [hd]
      have q := ((h4 i s hs).size_).old hba
      have q2 := q.grown hg (fun b hb => hb.1.2)
      exact (q2.more (S' := fun k => (k < B ∨ w.heap.size + 2 ≤ k) ∧ some k ≠ v'.ownBlock) (fun k hk => ⟨hk.1.1, fun e => hfar k hk.2 (fun e' => hk.1.2 e'.symm) e.symm⟩)).far (p := ⟨w.heap.size + 1, 4, none⟩) (fun k hk => by show k ≠ w.heap.size + 1; omega) _
    · have hi2 : i = acc.length := by
        have := (List.getElem?_eq_some_iff.1 hs).1
        simp at this
        omega
      subst hi2
      rw [List.getElem?_append_right (Nat.le_refl _)] at hs
      simp at hs
      subst hs
      have hd : ((ys ++ cs).drop (acc.length * 5)).take 5 = cs := by
        rw [List.drop_append, List.drop_eq_nil_of_le (by omega), show acc.length * 5 - ys.length = 0 by omega, List.drop_zero, List.nil_append]
        exact List.take_of_length_le (by omega)
      rw [hd]
      have hnk : ∀ k, k < B ∨ K ≤ k → v.ownBlock ≠ some k := fun k hk e => by
        have := hK k e
        have := (own_lt h3 e).1
        omega
      have q := (hin.size_).old hba
      have q2 := q.grown hg (fun b hb e => hnk b hb.1 e.symm)
      exact (q2.more (S' := fun k => (k < B ∨ w.heap.size + 2 ≤ k) ∧ some k ≠ v'.ownBlock) (fun k hk => ⟨by have := hk.1; omega, fun e => hfar k hk.2 (hnk k hk.1) e.symm⟩)).far (p := ⟨w.heap.size + 1, 4, none⟩) (fun k hk => by show k ≠ w.heap.size + 1; omega) _
  · exact (h5.trans hb5).setCell (p := ⟨w.heap.size + 1, 4, none⟩) (by show w.heap.size ≤ w.heap.size + 1; omega) v'
  · simp; omega

/-- The loop's relation. -/
def RRel (w : World) (A : Option Addr) (n ar f : Nat) (b : List UInt8) (B : Nat) (R : Res (List SX × Nat)) (i1 i3 : Value) (wr : World) : Prop :=
  ∃ (acc : List SX) (g : Nat) (sk : List UInt8) (ndk : Nat) (v : Value) (ys : List Value), RHas w wr B acc v ys ∧ i1 = .int .i64 (n - sk.length : Nat) ∧ i3 = .int .i64 ndk ∧ sk.length ≤ n ∧ b.drop (n - sk.length) = sk ∧
    g ≤ f ∧ 2 * sk.length + 2 ≤ g ∧ R = addK acc (pKids g sk ndk ar) ∧ ndk ≤ 512 ∧ acc.length ≤ ndk

def RValSpec (f : Nat) : Prop := ∀ (A : Option Addr) (n c p nd ar : Nat) (b : List UInt8) (B : Nat) (w : World), Reads w B 1 A n (Lib.byteCells b) → B ≤ w.heap.size → n ≤ 5000 → n ≤ c → p ≤ n → nd ≤ 512 → ar ≤ 16 → 2 * (n - p) + 1 ≤ f →
    Calls Tryd.prog 30 #[.slice A n c, .int .i64 p, .int .i64 ((ar : Int) + 1), .int .i64 nd] w fun e w' => RVal w B n e w' (pVal f (b.drop p) nd ar)
end Go.Proofs.YtaenahilnnlbfaaDoor
