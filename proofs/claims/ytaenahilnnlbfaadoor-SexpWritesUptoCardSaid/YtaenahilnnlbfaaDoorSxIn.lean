/-
  A tree lies in memory: the words. No conditions.
-/
import Derived.Test.YtaenahilnnlbfaaDoorWords
import Derived.Test.YtaenahilnnlbfaaDoorSx
import Derived.Lib.Builder
set_option linter.unusedVariables false
namespace Go.Proofs.YtaenahilnnlbfaaDoor
open Go Go.Proofs Go.RowKit Sx

/-- A slice's cells are these, in blocks of a kind. -/
def RIn (w : World) (S : Nat → Prop) (size : Nat) (A : Option Addr) (n : Nat) (xs : List Value) : Prop :=
  xs.length = n * size ∧ (0 < n → ∃ ad, A = some ad ∧ S ad.block ∧ ∀ j u, xs[j]? = some u → w.cell? (ad.add j) = some u)

/-- A tree lies in memory, in blocks of a kind; its value's cells. -/
inductive SIn (w : World) (S : Nat → Prop) : SX → List Value → Prop
  | mk {l h : Bool} {hi da : List UInt8} {ks : List SX} {A1 A2 A3 : Option Addr} {n1 c1 n2 c2 n3 c3 : Nat} {xs : List Value}
    (h1 : RIn w S 1 A1 n1 (Lib.byteCells hi)) (b1 : n1 ≤ c1 ∧ n1 ≤ 140737488355328) (h2 : RIn w S 1 A2 n2 (Lib.byteCells da)) (b2 : n2 ≤ c2 ∧ n2 ≤ 140737488355328)
    (h3 : RIn w S 5 A3 n3 xs) (b3 : n3 ≤ c3 ∧ n3 * 80 ≤ 140737488355328) (hk : ks.length = n3) (hs : ∀ i t, ks[i]? = some t → SIn w S t ((xs.drop (i * 5)).take 5)) :
    SIn w S (.mk l h hi da ks) [.bool l, .bool h, .slice A1 n1 c1, .slice A2 n2 c2, .slice A3 n3 c3]

section
variable {w w' : World} {S S' : Nat → Prop} {size n : Nat} {A : Option Addr} {xs : List Value}
theorem RIn.keep (h : RIn w S size A n xs) (hk : ∀ p : Addr, S p.block → w'.cell? p = w.cell? p) : RIn w' S size A n xs :=
  ⟨h.1, fun hn => by
    obtain ⟨ad, e, hb, hc⟩ := h.2 hn
    exact ⟨ad, e, hb, fun j u hu => (hk _ (by rw [block_of_add]; exact hb)).trans (hc j u hu)⟩⟩
theorem RIn.more (h : RIn w S size A n xs) (hS : ∀ b, S b → S' b) : RIn w S' size A n xs :=
  ⟨h.1, fun hn => by
    obtain ⟨ad, e, hb, hc⟩ := h.2 hn
    exact ⟨ad, e, hS _ hb, hc⟩⟩
theorem RIn.size_ (h : RIn w S size A n xs) (hs : 0 < size) : RIn w (fun b => S b ∧ b < w.heap.size) size A n xs :=
  ⟨h.1, fun hn => by
    obtain ⟨ad, e, hb, hc⟩ := h.2 hn
    have hl : 0 < xs.length := by rw [h.1]; exact Nat.mul_pos hn hs
    have h0 := hc 0 _ (List.getElem?_eq_getElem hl)
    have hlt := World.block_lt_of_cell? _ _ h0
    rw [block_of_add] at hlt
    exact ⟨ad, e, ⟨hb, hlt⟩, hc⟩⟩
theorem RIn.reads (h : RIn w S size A n xs) (hs : 0 < size) : Reads w w.heap.size size A n xs := (h.size_ hs).more fun _ h => h.2
theorem RIn.of_reads {B : Nat} (h : Reads w B size A n xs) : RIn w (· < B) size A n xs := h
theorem RIn.none_ : RIn w S size A 0 [] := ⟨by simp, fun h => absurd h (by omega)⟩
/-- An element's cells. -/
theorem RIn.at5 (h : RIn w S 5 A n xs) {k : Nat} (hk : k < n) : ∃ ad v0 v1 v2 v3 v4, A = some ad ∧ S ad.block ∧ (xs.drop (k * 5)).take 5 = [v0, v1, v2, v3, v4] ∧
    w.cell? (ad.add (k * 5)) = some v0 ∧ w.cell? ⟨(ad.add (k * 5)).block, (ad.add (k * 5)).off + 1, none⟩ = some v1 ∧ w.cell? ⟨(ad.add (k * 5)).block, (ad.add (k * 5)).off + 2, none⟩ = some v2 ∧ w.cell? ⟨(ad.add (k * 5)).block, (ad.add (k * 5)).off + 3, none⟩ = some v3 ∧ w.cell? ⟨(ad.add (k * 5)).block, (ad.add (k * 5)).off + 4, none⟩ = some v4 := by
  obtain ⟨ad, e, hb, hc⟩ := h.2 (by omega)
  have hl := h.1
  have g : ∀ j, j < 5 → k * 5 + j < xs.length := fun j hj => by rw [hl]; omega
  have g0 : k * 5 < xs.length := g 0 (by omega)
  have hc' : ∀ j u, j ≠ 0 → xs[k * 5 + j]? = some u → w.cell? ⟨(ad.add (k * 5)).block, (ad.add (k * 5)).off + j, none⟩ = some u := by
    intro j u hj hu
    have := hc (k * 5 + j) u hu
    rw [← add_of_add, show (ad.add (k * 5)).add j = ⟨(ad.add (k * 5)).block, (ad.add (k * 5)).off + j, none⟩ from if_neg hj] at this
    exact this
  refine ⟨ad, xs[k * 5], xs[k * 5 + 1]'(g 1 (by omega)), xs[k * 5 + 2]'(g 2 (by omega)), xs[k * 5 + 3]'(g 3 (by omega)), xs[k * 5 + 4]'(g 4 (by omega)), e, hb, ?_,
    hc _ _ (List.getElem?_eq_getElem _), hc' 1 _ (by omega) (List.getElem?_eq_getElem _), hc' 2 _ (by omega) (List.getElem?_eq_getElem _), hc' 3 _ (by omega) (List.getElem?_eq_getElem _), hc' 4 _ (by omega) (List.getElem?_eq_getElem _)⟩
  rw [List.drop_eq_getElem_cons g0, List.drop_eq_getElem_cons (g 1 (by omega)), List.drop_eq_getElem_cons (i := k * 5 + 1 + 1) (g 2 (by omega)), List.drop_eq_getElem_cons (i := k * 5 + 1 + 1 + 1) (g 3 (by omega)), List.drop_eq_getElem_cons (i := k * 5 + 1 + 1 + 1 + 1) (g 4 (by omega))]
  rfl
theorem SIn.keep {t : SX} {cs : List Value} (h : SIn w S t cs) (hk : ∀ p : Addr, S p.block → w'.cell? p = w.cell? p) : SIn w' S t cs := by
  induction h with
  | mk h1 b1 h2 b2 h3 b3 hl hs ih => exact .mk (h1.keep hk) b1 (h2.keep hk) b2 (h3.keep hk) b3 hl ih
theorem SIn.more {t : SX} {cs : List Value} (h : SIn w S t cs) (hS : ∀ b, S b → S' b) : SIn w S' t cs := by
  induction h with
  | mk h1 b1 h2 b2 h3 b3 hl hs ih => exact .mk (h1.more hS) b1 (h2.more hS) b2 (h3.more hS) b3 hl ih
theorem SIn.size_ {t : SX} {cs : List Value} (h : SIn w S t cs) : SIn w (fun b => S b ∧ b < w.heap.size) t cs := by
  induction h with
  | mk h1 b1 h2 b2 h3 b3 hl hs ih => exact .mk (h1.size_ (by omega)) b1 (h2.size_ (by omega)) b2 (h3.size_ (by omega)) b3 hl ih
theorem SIn.kept {t : SX} {cs : List Value} {B : Nat} (h : SIn w S t cs) (hb : Below B w w') (hS : ∀ b, S b → b < B) : SIn w' S t cs := h.keep fun p hp => hb.cell (hS _ hp)
theorem SIn.old {t : SX} {cs : List Value} (h : SIn w S t cs) (hb : Below w.heap.size w w') : SIn w' S t cs := (h.size_.keep fun p hp => hb.cell hp.2).more fun _ h => h.1
theorem SIn.grown {t : SX} {cs : List Value} (h : SIn w S t cs) {row : Option Nat} (hg : w.grownBy w' row) (hS : ∀ b, S b → some b ≠ row) : SIn w' S t cs :=
  (h.size_.keep fun p hp => World.cell?_of_block (hg.block p.block hp.2 (hS _ hp.1))).more fun _ h => h.1
theorem RIn.grown (h : RIn w S size A n xs) (hs : 0 < size) {row : Option Nat} (hg : w.grownBy w' row) (hS : ∀ b, S b → some b ≠ row) : RIn w' S size A n xs :=
  ((h.size_ hs).keep fun p hp => World.cell?_of_block (hg.block p.block hp.2 (hS _ hp.1))).more fun _ h => h.1
theorem RIn.old (h : RIn w S size A n xs) (hs : 0 < size) (hb : Below w.heap.size w w') : RIn w' S size A n xs := ((h.size_ hs).keep fun p hp => hb.cell hp.2).more fun _ h => h.1
/-- A value's slices, and its kids. -/
theorem SIn.inv {l h l' h' : Bool} {hi da : List UInt8} {ks : List SX} {A1 A2 A3 : Option Addr} {n1 c1 n2 c2 n3 c3 : Nat}
    (hs : SIn w S (.mk l h hi da ks) [.bool l', .bool h', .slice A1 n1 c1, .slice A2 n2 c2, .slice A3 n3 c3]) :
    l' = l ∧ h' = h ∧ RIn w S 1 A1 n1 (Lib.byteCells hi) ∧ RIn w S 1 A2 n2 (Lib.byteCells da) ∧ hi.length = n1 ∧ da.length = n2 ∧ ks.length = n3 ∧ n1 ≤ c1 ∧ n1 ≤ 140737488355328 ∧ n2 ≤ c2 ∧ n2 ≤ 140737488355328 ∧ n3 ≤ c3 ∧ n3 * 80 ≤ 140737488355328 := by
  cases hs with
  | mk h1 b1 h2 b2 h3 b3 hk hs =>
    exact ⟨rfl, rfl, h1, h2, by simpa [Lib.byteCells_length] using h1.1, by simpa [Lib.byteCells_length] using h2.1, hk, b1.1, b1.2, b2.1, b2.2, b3.1, b3.2⟩
theorem SIn.kid {l h l' h' : Bool} {hi da : List UInt8} {ks : List SX} {V1 V2 : Value} {A3 : Option Addr} {n3 c3 : Nat}
    (hs : SIn w S (.mk l h hi da ks) [.bool l', .bool h', V1, V2, .slice A3 n3 c3]) {k : Nat} (hlt : k < n3) :
    ∃ ad v0 v1 v2 v3 v4 t, A3 = some ad ∧ S ad.block ∧ ks[k]? = some t ∧ t ∈ ks ∧ SIn w S t [v0, v1, v2, v3, v4] ∧
      w.cell? (ad.add (k * 5)) = some v0 ∧ w.cell? ⟨(ad.add (k * 5)).block, (ad.add (k * 5)).off + 1, none⟩ = some v1 ∧ w.cell? ⟨(ad.add (k * 5)).block, (ad.add (k * 5)).off + 2, none⟩ = some v2 ∧
      w.cell? ⟨(ad.add (k * 5)).block, (ad.add (k * 5)).off + 3, none⟩ = some v3 ∧ w.cell? ⟨(ad.add (k * 5)).block, (ad.add (k * 5)).off + 4, none⟩ = some v4 := by
  cases hs with
  | mk h1 b1 h2 b2 h3 b3 hk hs =>
    obtain ⟨ad, v0, v1, v2, v3, v4, rfl, hS, hcs, d0, d1, d2, d3, d4⟩ := h3.at5 hlt
    have hkl : k < ks.length := by omega
    have := hs k ks[k] (List.getElem?_eq_getElem hkl)
    rw [hcs] at this
    exact ⟨ad, v0, v1, v2, v3, v4, ks[k], rfl, hS, List.getElem?_eq_getElem hkl, List.getElem_mem hkl, this, d0, d1, d2, d3, d4⟩
theorem SIn.form_ {t : SX} {cs : List Value} (hs : SIn w S t cs) : ∃ l h hi da ks A1 n1 c1 A2 n2 c2 A3 n3 c3, t = .mk l h hi da ks ∧ cs = [.bool l, .bool h, .slice A1 n1 c1, .slice A2 n2 c2, .slice A3 n3 c3] := by
  cases hs with
  | mk h1 b1 h2 b2 h3 b3 hk hs => exact ⟨_, _, _, _, _, _, _, _, _, _, _, _, _, _, rfl, rfl⟩
/-- The cells of a boxed struct of five fields. -/
theorem box5 {W wr : World} {v0 v1 v2 v3 v4 : Value} {T : TypeId} (hb : Below (W.heap.size + 1) (W.alloc (.cells #[v0, v1, v2, v3, v4] T)) wr) :
    wr.cell? ⟨W.heap.size, 0, none⟩ = some v0 ∧ wr.cell? ⟨W.heap.size, 1, none⟩ = some v1 ∧ wr.cell? ⟨W.heap.size, 2, none⟩ = some v2 ∧ wr.cell? ⟨W.heap.size, 3, none⟩ = some v3 ∧ wr.cell? ⟨W.heap.size, 4, none⟩ = some v4 := by
  have h := heap_alloc_new W (.cells #[v0, v1, v2, v3, v4] T)
  have c := fun i => hb.cell (p := ⟨W.heap.size, i, none⟩) (by show W.heap.size < W.heap.size + 1; omega)
  refine ⟨(c 0).trans ?_, (c 1).trans ?_, (c 2).trans ?_, (c 3).trans ?_, (c 4).trans ?_⟩ <;> (rw [Lib.cell_of_heap h]; rfl)
end
end Go.Proofs.YtaenahilnnlbfaaDoor
