/-
  An append of bytes onto a row that a conversion from a text made, or that the call owns: it reads as the list with the bytes behind it. Conditions: the new length takes at most 2^47 bytes.
-/
import Derived.Test.YtaenahilnnlbfaaDoorHold
import Derived.ArgAppend
import Derived.Lib.LazyBuf
import Derived.Deep.Upon
import Derived.Shelf.SlSortFuncK.RowK2
set_option linter.unusedVariables false
namespace Go.Proofs.YtaenahilnnlbfaaDoor
open Go Go.Proofs Go.RowKit

theorem HoldsBytes.snoc {g S : Nat} {L : List UInt8} {w : World} (h : HoldsBytes g S L w) (hS : L.length < S) (x : UInt8) : HoldsBytes g S (L ++ [x]) (w.setCell ⟨g, L.length, none⟩ (.int .u8 x.toNat)) := by
  obtain ⟨cs, h1, h2, h3, h4⟩ := h
  refine ⟨cs.setIfInBounds L.length (.int .u8 x.toNat), by simpa using h1, by simp; omega, Joins.block_setCell h3 _, ?_⟩
  intro i hi
  have hi' : i ≤ L.length := by simp at hi; omega
  rw [Array.getElem?_setIfInBounds]
  by_cases e : L.length = i
  · subst e
    rw [if_pos rfl, if_pos (by omega)]
    simp
  · rw [if_neg e, List.getElem_append_left (by omega)]
    exact h4 i (by omega)

theorem HoldsBytes.snocs {g S : Nat} : ∀ (M L : List UInt8) (w : World), HoldsBytes g S L w → L.length + M.length ≤ S → HoldsBytes g S (L ++ M) (w.setCells g L.length (Lib.byteCells M))
  | [], L, w, h, _ => by rw [List.append_nil]; exact h
  | x :: M, L, w, h, hS => by
    have h1 := h.snoc (by simp at hS; omega) x
    have h2 := HoldsBytes.snocs M (L ++ [x]) _ h1 (by simp at hS ⊢; omega)
    rw [List.append_assoc, List.length_append] at h2
    exact h2

/-- A value that the call made since w0, in blocks from B on, and that reads as these bytes. -/
def Held (B : Nat) (w0 w : World) (v : Value) (L : List UInt8) : Prop :=
  Below B w0 w ∧ B ≤ w.heap.size ∧ ((∃ g S cap, v = .slice (some ⟨g, 0, none⟩) L.length cap ∧ L.length ≤ cap ∧ cap ≤ S ∧ B ≤ g ∧ HoldsBytes g S L w) ∨ w.ownsRow B 5 1 v L.length (Lib.byteCells L))

theorem Held.reads {B : Nat} {w0 w : World} {v : Value} {L : List UInt8} (h : Held B w0 w v L) : ∃ A c, v = .slice A L.length c ∧ L.length ≤ c ∧ Reads w w.heap.size 1 A L.length (Lib.byteCells L) := by
  rcases h.2.2 with ⟨g, S, cap, rfl, hc, hS, hB, hh⟩ | hown
  · exact ⟨_, _, rfl, hc, hh.reads⟩
  · rcases hown.2 with ⟨h1, h2⟩ | ⟨g', cap', cur, hv, _, _, hc', _⟩
    · subst h1
      rw [h2] at hown ⊢
      exact ⟨none, 0, rfl, Nat.le_refl _, by have := Reads.of_own hown; exact this⟩
    · subst hv
      exact ⟨_, _, rfl, hc', Reads.of_own hown⟩
theorem Held.more {B : Nat} {w0 w w' : World} {v : Value} {L : List UInt8} (h : Held B w0 w v L) (hb : Below w.heap.size w w') : Held B w0 w' v L := by
  refine ⟨h.1.trans (hb.mono h.2.1), by have := hb.size; have := h.2.1; omega, ?_⟩
  rcases h.2.2 with ⟨g, S, cap, rfl, hc, hS, hB, hh⟩ | hown
  · exact .inl ⟨g, S, cap, rfl, hc, hS, hB, hh.below hb hh.lt⟩
  · right
    refine ⟨hown.1, ?_⟩
    rcases hown.2 with hn | ⟨g', cap', cur, hv, h1, h2, h3⟩
    · exact .inl hn
    · exact .inr ⟨g', cap', cur, hv, h1, (hb.block g' (by rcases Nat.lt_or_ge g' w.heap.size with h' | h'; exact h'; simp [Array.getElem?_eq_none h'] at h2)).trans h2, h3⟩

/-- The blocks of other things than bytes are as they were. -/
def Others (w w' : World) : Prop := ∀ (k : Nat) (cs : Array Value) (T : TypeId) (fr : Nat × Nat), w.heap[k]? = some (Obj.cells cs T fr) → T ≠ 5 → w'.heap[k]? = some (Obj.cells cs T fr)
theorem Others.refl (w : World) : Others w w := fun _ _ _ _ h _ => h
theorem Others.trans {a b c : World} (h : Others a b) (k : Others b c) : Others a c := fun i cs T fr g hT => k i cs T fr (h i cs T fr g hT) hT
theorem Others.of_below {w w' : World} (h : Below w.heap.size w w') : Others w w' := fun k cs T fr g _ => (h.block k (by
  rcases Nat.lt_or_ge k w.heap.size with h' | h'
  · exact h'
  · rw [Array.getElem?_eq_none h'] at g; cases g)).trans g
/-- The row is one that the call owns: what may be written is its own block alone. -/
theorem Others.grown {w w' : World} {v : Value} {B n : Nat} {xs : List Value} (hown : w.ownsRow B 5 1 v n xs) (hg : w.grownBy w' v.ownBlock) : Others w w' := by
  intro k cs T fr h hT
  have hk : k < w.heap.size := by
    rcases Nat.lt_or_ge k w.heap.size with h' | h'
    · exact h'
    · rw [Array.getElem?_eq_none h'] at h; cases h
  rw [hg.block k hk]
  · exact h
  · intro hkk
    rcases hown.2 with ⟨rfl, _⟩ | ⟨g', cap', cur, rfl, _, h2, _⟩
    · simp [Value.ownBlock] at hkk
    · have : k = g' := by simpa [Value.ownBlock] using hkk
      subst this
      rw [h2] at h
      injection h with h
      injection h with _ h
      exact hT h.symm

theorem run_append_held_nil {P : Program} {w : World} {t ty e : TypeId} {i : TypeInfo} (ht : P.underlying t = some (.slice e)) (hi : P.info? e = some i) (hi1 : i.size = 1) (g n cap c : Nat) (hc : n ≤ cap) :
    (Builtin.append_ #[t, t] ty #[.slice (some ⟨g, 0, none⟩) n cap, .slice none 0 c]).run P w = .ok (.slice (some ⟨g, 0, none⟩) n cap) w := by
  simp [Builtin.append_, run_underlying ht, sizeOf, typeInfo, hi, Builtin.lenOf, Builtin.firstCells, hc, storeCells]

theorem owns_more {w : World} {B B' : Nat} {v : Value} {n : Nat} {xs : List Value} (h : w.ownsRow B 5 1 v n xs) (hB : B' ≤ B) : w.ownsRow B' 5 1 v n xs :=
  ⟨h.1, h.2.elim Or.inl (fun ⟨g, cap, cur, hv, hg, r⟩ => Or.inr ⟨g, cap, cur, hv, Nat.le_trans hB hg, r⟩)⟩

set_option maxHeartbeats 2000000 in
theorem wpList_append_held (w : World) {ops : Array Oper} {rest : List Oper} {o : Oper} {a : Act} {Q : Exit → Act → World → Prop}
    (hg : o.guard = none) (s x : Operand) (hop : o.op = Op.call { callee := Callee.builtin Builtin.append, args := #[s, x], argTypes := #[22, 22] })
    (B : Nat) (w0 : World) (v : Value) (L : List UInt8) (hH : Held B w0 w v L) (hs : a.eval s = v)
    (B' : Nat) (A : Option Addr) (m c : Nat) (M : List UInt8) (hx : a.eval x = .slice A m c) (hr : Reads w B' 1 A m (Lib.byteCells M)) (hbd : L.length + m ≤ 140737488355328)
    (hK : ∀ v' w', Held B w0 w' v' (L ++ M) → Others w w' → wpList Tryd.prog ops Q rest (a.put o.dst v') w') :
    wpList Tryd.prog ops Q (o :: rest) a w := by
  obtain ⟨i0, hi, hz0, hz1, hz2⟩ := info_parts infoByte
  have hm : M.length = m := by have := hr.1; simpa [Lib.byteCells_length] using this
  have hone : ∀ u ∈ Lib.byteCells M, u.oneCell' = true := fun u hu => by
    simp [Lib.byteCells] at hu
    obtain ⟨b, _, rfl⟩ := hu
    rfl
  have e : Lib.byteCells L ++ Lib.byteCells M = Lib.byteCells (L ++ M) := by simp [Lib.byteCells]
  have hlen : (L ++ M).length = L.length + m := by simp [hm]
  obtain ⟨hbel, hBs, hv⟩ := hH
  rcases hv with ⟨g, S, cap, rfl, hcap, hS, hBg, hB⟩ | hown
  · rcases A with _ | ad
    · have h0 : m = 0 := by
        rcases Nat.eq_zero_or_pos m with h | h
        · exact h
        · obtain ⟨_, h, _⟩ := hr.2 h; cases h
      subst h0
      have hM : M = [] := List.eq_nil_of_length_eq_zero hm
      subst hM
      refine wpList_plain hg fun K hK' => ?_
      have hrun := run_append_held_nil (P := Tryd.prog) (w := w) (t := 22) (ty := o.type) Tryd.underlying22 hi hz1 g L.length cap c hcap
      unfold Oper.wp execOp
      simp only [hop, resolve, invoke, builtin, Sem.run_bind, Sem.run_pure, Result.andThen_ok, List.map_toArray, List.map_cons, List.map_nil, hs, hx, hrun]
      refine hK' _ _ (hK _ _ ⟨hbel, hBs, .inl ⟨g, S, cap, by simp, by simpa using hcap, hS, hBg, by simpa using hB⟩⟩ (Others.refl _))
    · have hnews : ∀ j u, (Lib.byteCells M)[j]? = some u → w.cell? (ad.add j) = some u := by
        intro j u hu
        have hj : j < M.length := by have := (List.getElem?_eq_some_iff.1 hu).1; simpa [Lib.byteCells_length] using this
        obtain ⟨ad', h1, _, h3⟩ := hr.2 (by omega)
        injection h1 with h1
        subst h1
        exact h3 j u hu
      refine wpList_append_arg w hg s x 22 hop 5 i0 (.int .u8 0) 1 1 Tryd.underlying22 hi hz0 hz1 hz2 rfl (by decide) g 0 L.length cap (Lib.byteCells L) hs (by simp [Lib.byteCells_length]) ?_
        ad m c (Lib.byteCells M) hx hr.1 hnews hone ?_ (by unfold maxLen; omega) (by omega) ?_ ?_
      · intro j u hj
        rw [Nat.zero_add]
        have hjl : j < L.length := by
          have := (List.getElem?_eq_some_iff.1 hj).1
          simpa [Lib.byteCells_length] using this
        simp [Lib.byteCells, List.getElem?_map, List.getElem?_eq_getElem hjl] at hj
        rw [hB.cell hjl, hj]
      · intro hroom j hj
        have hj : j < m := by rw [Lib.byteCells_length] at hj; omega
        obtain ⟨cs, h1, h2, h3, h4⟩ := hB
        refine ⟨?_, ?_⟩
        · rw [Lib.cell_of_heap h3]
          simp; omega
        · simp [World.frozen?, h3]; omega
      · intro hroom
        have hh := HoldsBytes.snocs M L w hB (by omega)
        have hlt := hB.lt
        rw [Nat.zero_add, Nat.mul_one]
        refine hK _ _ ⟨Go.below_setCells hBg _ _ _ hbel, by rw [Sort.size_setCells]; exact hBs, .inl ⟨g, S, cap, by rw [hlen], by rw [hlen]; exact hroom, hS, hBg, hh⟩⟩ (fun k cs T fr h hT => ?_)
        have hk : k < w.heap.size := by
          rcases Nat.lt_or_ge k w.heap.size with h' | h'
          · exact h'
          · rw [Array.getElem?_eq_none h'] at h; cases h
        rw [World.heap_setCells_other _ _ _ _ hk]
        · exact h
        · rintro rfl
          obtain ⟨cs', h1, h2, h3, h4⟩ := hB
          rw [h3] at h
          injection h with h
          injection h with _ h
          exact hT h.symm
      · intro hfull v' w' hown hgrow
        rw [e] at hown
        refine hK _ _ ⟨hbel.grown hgrow hBs (fun k hk => by cases hk), by have := hgrow.size; omega, .inr ?_⟩ (fun k cs T fr h hT => ?_)
        · rw [hlen]; exact owns_more hown hBs
        · have hk : k < w.heap.size := by
            rcases Nat.lt_or_ge k w.heap.size with h' | h'
            · exact h'
            · rw [Array.getElem?_eq_none h'] at h; cases h
          rw [hgrow.block k hk (by simp)]; exact h
  · refine wpList_append_any w hg s x 22 hop B 5 i0 (.int .u8 0) 1 1 Tryd.underlying22 hi hz0 hz1 hz2 rfl (by decide) v L.length (Lib.byteCells L) hs hown B' A m c (Lib.byteCells M) hx hr hone (by unfold maxLen; omega) (by omega) hBs ?_
    intro v' w' hown' hgrow _
    rw [e] at hown'
    exact hK _ _ ⟨hbel.grown hgrow hBs (fun k hk => (hown.lt k hk).1), by have := hgrow.size; omega, .inr (by rw [hlen]; exact hown')⟩ (Others.grown hown hgrow)

theorem Held.new {w0 w1 : World} (hb : Below w0.heap.size w0 w1) (s : ByteArray) :
    Held w0.heap.size w0 (Lib.bytesWorld w1 5 s) (.slice (some ⟨w1.heap.size, 0, none⟩) s.size (grownCap w1 s.size 0 5)) s.data.toList := by
  have hsz : s.data.toList.length = s.size := by show s.data.toList.length = s.data.size; simp
  have hB := HoldsBytes.new w1 s
  have hs := hb.size
  refine ⟨hb.trans ((bytesWorld_below w1 s).mono hs), by have := hB.lt; omega, .inl ⟨w1.heap.size, _, _, by rw [hsz], ?_, bytesCells_cap w1 s, hs, hB⟩⟩
  rw [hsz]; exact grownCap_ge w1 _ _ _
end Go.Proofs.YtaenahilnnlbfaaDoor
