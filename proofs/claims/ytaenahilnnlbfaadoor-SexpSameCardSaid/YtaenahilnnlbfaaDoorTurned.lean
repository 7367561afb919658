/-
  Words for a stretch of memory in which bytes and truths are turned, one after the other, and nothing else. No conditions.
-/
import Derived.Test.YtaenahilnnlbfaaDoorCloneSoft
set_option linter.unusedVariables false
namespace Go.Proofs.YtaenahilnnlbfaaDoor
open Go Go.Proofs Go.RowKit Sx

/-- A byte for a byte, a truth for a truth, and else the same. -/
def Like (v : Value) (o : Option Value) : Prop := (∃ x y, v = .int .u8 x ∧ o = some (.int .u8 y)) ∨ (∃ a b, v = .bool a ∧ o = some (.bool b)) ∨ o = some v
theorem Like.refl (v : Value) : Like v (some v) := .inr (.inr rfl)
theorem Like.trans {v v' : Value} {o : Option Value} (h : Like v (some v')) (k : Like v' o) : Like v o := by
  rcases h with ⟨x, y, rfl, h⟩ | ⟨a, b, rfl, h⟩ | h
  · injection h with h
    subst h
    rcases k with ⟨x', y', hx, hy⟩ | ⟨a, b, hx, hy⟩ | hy
    · exact .inl ⟨x, y', rfl, hy⟩
    · cases hx
    · exact .inl ⟨x, y, rfl, hy⟩
  · injection h with h
    subst h
    rcases k with ⟨x', y', hx, hy⟩ | ⟨a', b', hx, hy⟩ | hy
    · cases hx
    · exact .inr (.inl ⟨a, b', rfl, hy⟩)
    · exact .inr (.inl ⟨a, b, rfl, hy⟩)
  · injection h with h
    subst h
    exact k
theorem Like.byte {x : Int} {o : Option Value} (h : Like (.int .u8 x) o) : ∃ y, o = some (.int .u8 y) := by
  rcases h with ⟨x', y, _, h⟩ | ⟨a, b, h, _⟩ | h
  · exact ⟨y, h⟩
  · cases h
  · exact ⟨x, h⟩
theorem Like.bool {a : Bool} {o : Option Value} (h : Like (.bool a) o) : ∃ b, o = some (.bool b) := by
  rcases h with ⟨x', y, h, _⟩ | ⟨a', b, _, h⟩ | h
  · cases h
  · exact ⟨b, h⟩
  · exact ⟨a, h⟩
theorem Like.slice {A : Option Addr} {n c : Nat} {o : Option Value} (h : Like (.slice A n c) o) : o = some (.slice A n c) := by
  rcases h with ⟨x', y, h, _⟩ | ⟨a', b, h, _⟩ | h
  · cases h
  · cases h
  · exact h

def Turned (N0 N1 : Nat) (w w' : World) : Prop :=
  Below N0 w w' ∧ (∀ b, N1 ≤ b → b < w.heap.size → w'.heap[b]? = w.heap[b]?) ∧ (∀ b, soft w b → soft w' b) ∧ ∀ p v, w.cell? p = some v → Like v (w'.cell? p)
theorem Turned.refl (N0 N1 : Nat) (w : World) : Turned N0 N1 w w := ⟨Below.refl _ _, fun _ _ _ => rfl, fun _ h => h, fun p v h => by rw [h]; exact Like.refl v⟩
theorem Turned.step {N0 N1 : Nat} {w w' : World} (h : Turned N0 N1 w w') {p : Addr} (h0 : N0 ≤ p.block) (h1 : p.block < N1) {v x : Value} (hc : w'.cell? p = some v) (hl : Like v (some x)) : Turned N0 N1 w (w'.setCell p x) := by
  obtain ⟨a, b, c, d⟩ := h
  refine ⟨a.setCell h0 x, fun k hk hk2 => (Below.heap_setCell w' p x k (by omega)).trans (b k hk hk2), fun k hk => (c k hk).set p x, fun q u hq => ?_⟩
  by_cases e : p = q
  · subst e
    rw [World.cell?_setCell_same w' p x hc]
    have := d p u hq
    rw [hc] at this
    exact this.trans hl
  · rw [World.cell?_setCell_other w' p q x e]
    exact d q u hq
theorem Turned.drew {N0 N1 : Nat} {w w' : World} (h : Turned N0 N1 w w') : Turned N0 N1 w w'.drew := ⟨h.1.drew, h.2.1, h.2.2.1, h.2.2.2⟩
theorem Turned.cell {N0 N1 : Nat} {w w' : World} (h : Turned N0 N1 w w') {p : Addr} (hp : p.block < N0 ∨ N1 ≤ p.block) {v : Value} (hc : w.cell? p = some v) : w'.cell? p = some v := by
  have hlt := World.block_lt_of_cell? _ _ hc
  rcases hp with hp | hp
  · exact (h.1.cell hp).trans hc
  · exact (World.cell?_of_block (h.2.1 p.block hp hlt)).trans hc
theorem Turned.sin {N0 N1 : Nat} {w w' : World} (h : Turned N0 N1 w w') {S : Nat → Prop} {t : SX} {cs : List Value} (hs : SIn w S t cs) (hS : ∀ b, S b → b < N0 ∨ N1 ≤ b) : SIn w' S t cs :=
  (hs.size_.keep fun p hp => by
    rcases hS _ hp.1 with h1 | h1
    · exact h.1.cell h1
    · exact World.cell?_of_block (h.2.1 p.block h1 hp.2)).more fun _ h => h.1
/-- A byte of a row, in a turned world. -/
theorem Turned.byte {N0 N1 : Nat} {w w' : World} (h : Turned N0 N1 w w') {A : Option Addr} {n : Nat} {l : List UInt8} (hr : RIn w (fun b => N0 ≤ b ∧ soft w b ∧ b < N1) 1 A n (Lib.byteCells l)) {k : Nat} (hk : k < n) :
    ∃ ad y, A = some ad ∧ w'.cell? (ad.add k) = some (.int .u8 y) ∧ w'.frozen? (ad.add k) = false ∧ N0 ≤ (ad.add k).block ∧ (ad.add k).block < N1 := by
  have hl : l.length = n := by have := hr.1; simpa [Lib.byteCells_length] using this
  obtain ⟨ad, rfl, ⟨hb0, hb1, hb2⟩, hc⟩ := hr.2 (by omega)
  have hcl : (Lib.byteCells l)[k]? = some (.int .u8 (l[k]'(by omega)).toNat) := by simp [Lib.byteCells, List.getElem?_eq_getElem (show k < l.length by omega)]
  have h0 := hc k _ hcl
  obtain ⟨y, hy⟩ := (h.2.2.2 _ _ h0).byte
  refine ⟨ad, y, rfl, hy, ?_, by rw [block_of_add]; exact hb0, by rw [block_of_add]; exact hb2⟩
  have hsp := World.cell?_spot h0
  have := (h.2.2.1 _ hb1).2 (ad.add k).off
  have e : ad.add k = ⟨ad.block, (ad.add k).off, none⟩ := by
    have hb := block_of_add ad k
    cases hq : ad.add k with
    | mk b o s =>
      rw [hq] at hb hsp
      simp at hb hsp
      rw [hb, hsp]
  rw [e]
  exact this
end Go.Proofs.YtaenahilnnlbfaaDoor
