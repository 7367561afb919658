/-
  Several texts in one: Words, Str, Hold, NumMath, GetLen, Sx, SxIn, Shelf, Held, Dec, Nodes, Text, Clone0, PutLen, Deep, RefMay, May, Parse, Parse2, Parse3, Reader, Reader2, Reader3, Reader4. Conditions: those that each theorem states.
-/
import Derived.Below
import Derived.Laws.OwnMore
import Derived.Deep.AppendLies
import Derived.Deep.Draws
import Derived.Maps.AppendAt
import Derived.RegionTactic
import Derived.OwnWalk
import Derived.Lib.UnsafeStr
import Derived.Test.YtcojkmcnigppbaaGreatDoorRows
import Derived.Lib.Builder
import Derived.Lib.SlBytesConst
import Derived.Lib.ConvBytes
import Derived.Laws.IdiomStrings
import Derived.WalkKit
import Derived.WalkSmall
import Derived.BigQuiet
import Derived.Deep.QuietTactic
import Derived.IntWalk
import Derived.Laws.BitsAllLaws
import Derived.Laws.CopyOwn
import Derived.Lib.Hide
import Derived.Lib.BufferWrite
import Derived.Lib.SmallJoins
import Derived.Lib.ItoaNum
import Derived.Shelf.Strings.BuilderK
import Derived.Shelf.Strings.Builder1
import Derived.Shelf.Strings.Trim
import Derived.Shelf.Small.Strs
import Derived.Shelf.Strings.BuilderF
import Derived.Shelf.Strconv.Itoa0
import Derived.Shelf.Strconv.Itoa1
import Derived.Shelf.LaysM
import Derived.Shelf.Strconv.Itoa2
import Derived.Shelf.Strconv.Itoa3
import Derived.Shelf.Strings.Search1
import Derived.Ground.SlbCloneProg
import Derived.Shelf.Bytes.SlClone
import Derived.Test.YtcojkmcnigppbaaGreatDoorProg
import Derived.ArgAppend
import Derived.Lib.LazyBuf
import Derived.Deep.Upon
import Derived.Shelf.SlSortFuncK.RowK2
import Derived.Deep.RegionWith
import Derived.WalkLawsBesides
import Derived.StillTailTactics
import Derived.Lib.IndexAny
import Derived.Deep.RegionHeld3
import Derived.RegionDies
import Derived.Deep.RegionLaw
set_option linter.unusedVariables false
set_option linter.unusedSimpArgs false
namespace Go.Proofs.YtcojkmcnigppbaaGreatDoor
theorem zA {α : Type} (l : List α) (i : Nat) (a : α) : l.toArray.setIfInBounds i a = (l.set i a).toArray := List.setIfInBounds_toArray l i a
theorem zB {α : Type} (a b : α) (l : List α) : (a :: l).set 0 b = b :: l := List.set_cons_zero
theorem zC {α : Type} (a b : α) (l : List α) (n : Nat) : (a :: l).set (n + 1) b = a :: l.set n b := List.set_cons_succ
theorem zD {α : Type} (l : List α) (i : Nat) : l.toArray[i]? = l[i]? := List.getElem?_toArray
theorem zE {α : Type} (a : α) (l : List α) (i : Nat) : (a :: l)[i + 1]? = l[i]? := List.getElem?_cons_succ
theorem zF {α : Type} (a : α) (l : List α) : (a :: l)[0]? = some a := List.getElem?_cons_zero
end Go.Proofs.YtcojkmcnigppbaaGreatDoor
open Go.Lib (hid)
open Go.Proofs.YtcojkmcnigppbaaGreatDoor (zA zB zC zD zE zF)

section
namespace Go.Proofs.YtcojkmcnigppbaaGreatDoor
open Go Go.Proofs Go.RowKit
theorem block_of_add (a : Addr) (n : Nat) : (a.add n).block = a.block := by unfold Addr.add; split <;> rfl
theorem add_of_add (a : Addr) (i j : Nat) : (a.add i).add j = a.add (i + j) := by
  unfold Addr.add
  by_cases hi : i = 0 <;> by_cases hj : j = 0 <;> simp [hi, hj, Nat.add_assoc]
def Reads (w : World) (B size : Nat) (A : Option Addr) (n : Nat) (xs : List Value) : Prop :=
  xs.length = n * size ∧ (0 < n → ∃ ad, A = some ad ∧ ad.block < B ∧ ∀ j u, xs[j]? = some u → w.cell? (ad.add j) = some u)
section
variable {w w' : World} {B B' size n : Nat} {A : Option Addr} {xs : List Value}
theorem Reads.none_ : Reads w B size A 0 [] := ⟨by simp, fun h => absurd h (by omega)⟩
theorem Reads.at_ {k : Nat} (h : Reads w B 1 A n xs) (hk : k < n) : ∃ ad u, A = some ad ∧ ad.block < B ∧ xs[k]? = some u ∧ w.cell? (ad.add k) = some u := by
  obtain ⟨ad, e, hb, hc⟩ := h.2 (by omega)
  have hl : k < xs.length := by have := h.1; omega
  exact ⟨ad, xs[k], e, hb, List.getElem?_eq_getElem hl, hc k _ (List.getElem?_eq_getElem hl)⟩
theorem Reads.keep (h : Reads w B size A n xs) (hk : ∀ p : Addr, p.block < B → w'.cell? p = w.cell? p) : Reads w' B size A n xs :=
  ⟨h.1, fun hn => by
    obtain ⟨ad, e, hb, hc⟩ := h.2 hn
    exact ⟨ad, e, hb, fun j u hu => (hk _ (by rw [block_of_add]; exact hb)).trans (hc j u hu)⟩⟩
theorem Reads.more (h : Reads w B size A n xs) (hB : B ≤ B') : Reads w B' size A n xs :=
  ⟨h.1, fun hn => by
    obtain ⟨ad, e, hb, hc⟩ := h.2 hn
    exact ⟨ad, e, by omega, hc⟩⟩
theorem Reads.below (h : Reads w B size A n xs) (hb : Below B w w') : Reads w' B size A n xs := h.keep fun _ hp => hb.cell hp
theorem Reads.drew (h : Reads w B size A n xs) : Reads w.drew B size A n xs := h
theorem Reads.drewN (h : Reads w B size A n xs) (k : Nat) : Reads (w.drewN k) B size A n xs := h
theorem Reads.alloc (h : Reads w B size A n xs) (hB : B ≤ w.heap.size) (o : Obj) : Reads (w.alloc o) B size A n xs := h.keep fun p hp => World.cell?_alloc_lt w o p (by omega)
theorem Reads.setCell (h : Reads w B size A n xs) {p : Addr} (hB : B ≤ p.block) (u : Value) : Reads (w.setCell p u) B size A n xs :=
  h.keep fun q hq => World.cell?_setCell_other w p q u (fun e => by subst e; omega)
theorem Reads.grown (h : Reads w B size A n xs) {row : Option Nat} (hg : w.grownBy w' row) (hB : B ≤ w.heap.size) (hr : ∀ g, row = some g → B ≤ g) : Reads w' B size A n xs :=
  h.keep fun p hp => World.cell?_of_block (hg.block p.block (by omega) (fun e => by have := hr _ e.symm; omega))
theorem Reads.cut (h : Reads w B size A n xs) {k cap : Nat} (hk : k ≤ n) (hc : n ≤ cap) :
    Reads w B size (if cap = k then A else A.map (·.add (k * size))) (n - k) (xs.drop (k * size)) := by
  refine ⟨by rw [List.length_drop, h.1, Nat.sub_mul], fun hn => ?_⟩
  obtain ⟨ad, rfl, hb, hcell⟩ := h.2 (by omega)
  rw [if_neg (by omega)]
  refine ⟨ad.add (k * size), rfl, by rw [block_of_add]; exact hb, fun j u hu => ?_⟩
  rw [add_of_add]
  exact hcell _ u (by rw [← hu, List.getElem?_drop])
theorem Reads.of_own {base : Nat} {e : TypeId} {c : Nat} (h : w.ownsRow base e size (.slice A n c) n xs) : Reads w w.heap.size size A n xs := by
  refine ⟨h.1, fun hn => ?_⟩
  obtain ⟨g, cap, hv, _, hlt⟩ := h.form hn
  have hA : A = some ⟨g, 0, none⟩ := by injection hv
  subst hA
  exact ⟨_, rfl, hlt, h.cells (g := g) rfl⟩
end
section
variable {P : Program} (w : World)
theorem run_append_of_nil (base : Nat) (t ty e : TypeId) (i : TypeInfo) (size : Nat) (ht : P.underlying t = some (.slice e)) (hi : P.info? e = some i)
    (v : Value) (n : Nat) (xs : List Value) (hown : w.ownsRow base e size v n xs) (c : Nat) : (Builtin.append_ #[t, t] ty #[v, .slice none 0 c]).run P w = .ok v w := by
  rcases hown.2 with ⟨rfl, rfl⟩ | ⟨g, cap, cur, rfl, _, _, hnc, _⟩
  · simp [Builtin.append_, run_underlying ht, sizeOf, typeInfo, hi, Builtin.lenOf, Builtin.firstCells]
  · simp [Builtin.append_, run_underlying ht, sizeOf, typeInfo, hi, Builtin.lenOf, Builtin.firstCells, hnc, storeCells]
theorem run_append_any (base : Nat) (t ty e : TypeId) (i : TypeInfo) (z : Value) (size bytes : Nat) (ht : P.underlying t = some (.slice e)) (hi : P.info? e = some i) (hz : i.zero = some z)
    (hsize : i.size = size) (hby : i.bytes = bytes) (hzs : z.cells.size = size) (hsz : 0 < size)
    (v : Value) (n : Nat) (xs : List Value) (hown : w.ownsRow base e size v n xs)
    (B : Nat) (A : Option Addr) (m c : Nat) (news : List Value) (hr : Reads w B size A m news) (h1 : ∀ u ∈ news, u.oneCell' = true)
    (h63 : n + m ≤ maxLen) (hbytes : (n + m) * bytes ≤ 140737488355328) (hbase : base ≤ w.heap.size) :
    ∃ v' w', (Builtin.append_ #[t, t] ty #[v, .slice A m c]).run P w = .ok v' w' ∧ w'.ownsRow base e size v' (n + m) (xs ++ news) ∧ w.grownBy w' v.ownBlock ∧
      (v'.ownBlock = v.ownBlock ∨ v'.ownBlock = some w.heap.size) := by
  rcases A with _ | ad
  · have hm : m = 0 := by
      rcases Nat.eq_zero_or_pos m with h0 | h0
      · exact h0
      · obtain ⟨ad, h, _⟩ := hr.2 h0
        cases h
    subst hm
    have hn : news = [] := List.eq_nil_of_length_eq_zero (by simpa using hr.1)
    subst hn
    exact ⟨v, w, run_append_of_nil w base t ty e i size ht hi v n xs hown c, by simpa using hown, World.grownBy.refl w _, .inl rfl⟩
  · have hcells : ∀ j u, news[j]? = some u → w.cell? (ad.add j) = some u := by
      intro j u hu
      rcases Nat.eq_zero_or_pos m with h0 | h0
      · subst h0
        have hn : news = [] := List.eq_nil_of_length_eq_zero (by simpa using hr.1)
        subst hn
        simp at hu
      · obtain ⟨ad', h, _, hc⟩ := hr.2 h0
        injection h with h
        subst h
        exact hc j u hu
    obtain ⟨v', w', hrun, h2, h3, _, h5⟩ := run_append_own_at (P := P) w base t ty e i z size bytes ht hi hz hsize hby hzs hsz v n xs hown ad m c news hr.1 hcells h1 h63 hbytes hbase
    exact ⟨v', w', hrun, h2, h3, h5⟩
theorem wp_append_any {o : Oper} {a : Act} {K : Act → World → Prop} {Q : Exit → Act → World → Prop} (s x : Operand) (t : TypeId)
    (ho : o.op = .call { callee := .builtin .append, args := #[s, x], argTypes := #[t, t] })
    (base : Nat) (e : TypeId) (i : TypeInfo) (z : Value) (size bytes : Nat) (ht : P.underlying t = some (.slice e)) (hi : P.info? e = some i) (hz : i.zero = some z)
    (hsize : i.size = size) (hby : i.bytes = bytes) (hzs : z.cells.size = size) (hsz : 0 < size)
    (v : Value) (n : Nat) (xs : List Value) (hs : a.eval s = v) (hown : w.ownsRow base e size v n xs)
    (B : Nat) (A : Option Addr) (m c : Nat) (news : List Value) (hx : a.eval x = .slice A m c) (hr : Reads w B size A m news) (h1 : ∀ u ∈ news, u.oneCell' = true)
    (h63 : n + m ≤ maxLen) (hbytes : (n + m) * bytes ≤ 140737488355328) (hbase : base ≤ w.heap.size)
    (h : ∀ v' w', w'.ownsRow base e size v' (n + m) (xs ++ news) → w.grownBy w' v.ownBlock → (v'.ownBlock = v.ownBlock ∨ v'.ownBlock = some w.heap.size) → K (a.put o.dst v') w') : o.wp P a w K Q := by
  obtain ⟨v', w', hrun, h2, h3, h4⟩ := run_append_any (P := P) w base t o.type e i z size bytes ht hi hz hsize hby hzs hsz v n xs hown B A m c news hr h1 h63 hbytes hbase
  unfold Oper.wp execOp
  simp only [ho, resolve, invoke, builtin, Sem.run_bind, Sem.run_pure, Result.andThen_ok, List.map_toArray, List.map_cons, List.map_nil, hs, hx, hrun]
  exact h v' w' h2 h3 h4
theorem wpList_append_any {ops : Array Oper} {rest : List Oper} {o : Oper} {a : Act} {Q : Exit → Act → World → Prop} (hgd : o.guard = none) (s x : Operand) (t : TypeId)
    (ho : o.op = .call { callee := .builtin .append, args := #[s, x], argTypes := #[t, t] })
    (base : Nat) (e : TypeId) (i : TypeInfo) (z : Value) (size bytes : Nat) (ht : P.underlying t = some (.slice e)) (hi : P.info? e = some i) (hz : i.zero = some z)
    (hsize : i.size = size) (hby : i.bytes = bytes) (hzs : z.cells.size = size) (hsz : 0 < size)
    (v : Value) (n : Nat) (xs : List Value) (hs : a.eval s = v) (hown : w.ownsRow base e size v n xs)
    (B : Nat) (A : Option Addr) (m c : Nat) (news : List Value) (hx : a.eval x = .slice A m c) (hr : Reads w B size A m news) (h1 : ∀ u ∈ news, u.oneCell' = true)
    (h63 : n + m ≤ maxLen) (hbytes : (n + m) * bytes ≤ 140737488355328) (hbase : base ≤ w.heap.size)
    (h : ∀ v' w', w'.ownsRow base e size v' (n + m) (xs ++ news) → w.grownBy w' v.ownBlock → (v'.ownBlock = v.ownBlock ∨ v'.ownBlock = some w.heap.size) → wpList P ops Q rest (a.put o.dst v') w') : wpList P ops Q (o :: rest) a w :=
  wpList_plain hgd fun _ hK => wp_append_any w s x t ho base e i z size bytes ht hi hz hsize hby hzs hsz v n xs hs hown B A m c news hx hr h1 h63 hbytes hbase fun v' w' h2 h3 h4 => hK _ _ (h v' w' h2 h3 h4)
theorem step_append_any {ops : Array Oper} {o : Oper} {a : Act} {K : Act → World → Prop} {Q : Exit → Act → World → Prop} {E : Prop} (hgd : o.guard = none) (s x : Operand) (t : TypeId)
    (ho : o.op = .call { callee := .builtin .append, args := #[s, x], argTypes := #[t, t] })
    (base : Nat) (e : TypeId) (i : TypeInfo) (z : Value) (size bytes : Nat) (ht : P.underlying t = some (.slice e)) (hi : P.info? e = some i) (hz : i.zero = some z)
    (hsize : i.size = size) (hby : i.bytes = bytes) (hzs : z.cells.size = size) (hsz : 0 < size)
    (v : Value) (n : Nat) (xs : List Value) (hs : a.eval s = v) (hown : w.ownsRow base e size v n xs)
    (B : Nat) (A : Option Addr) (m c : Nat) (news : List Value) (hx : a.eval x = .slice A m c) (hr : Reads w B size A m news) (h1 : ∀ u ∈ news, u.oneCell' = true)
    (h63 : n + m ≤ maxLen) (hbytes : (n + m) * bytes ≤ 140737488355328) (hbase : base ≤ w.heap.size)
    (h : ∀ v' w', w'.ownsRow base e size v' (n + m) (xs ++ news) → w.grownBy w' v.ownBlock → (v'.ownBlock = v.ownBlock ∨ v'.ownBlock = some w.heap.size) → K (a.put o.dst v') w') :
    if Region.wanted o (yielded ops a.tmps) = true then Oper.wp P o a w K Q else E := by
  have hw : Region.wanted o (yielded ops a.tmps) = true := by simp [Region.wanted, hgd]
  rw [if_pos hw]
  exact wp_append_any w s x t ho base e i z size bytes ht hi hz hsize hby hzs hsz v n xs hs hown B A m c news hx hr h1 h63 hbytes hbase h
end
end Go.Proofs.YtcojkmcnigppbaaGreatDoor
end
section
namespace Go.Proofs.YtcojkmcnigppbaaGreatDoor
open Go Go.Proofs Go.RowKit
theorem infoByte : (Tryz.prog.info? 5).map (fun i => (i.zero, i.size, i.bytes)) = some (some (.int .u8 0), 1, 1) := by kernel_rfl
theorem owns_empty (w : World) : (w.alloc (.cells #[] 5)).ownsRow w.heap.size 5 1 (.slice (some ⟨w.heap.size, 0, none⟩) 0 0) 0 [] :=
  ⟨rfl, .inr ⟨_, 0, #[], rfl, Nat.le_refl _, heap_alloc_new w _, Nat.le_refl _, by unfold maxLen; omega, rfl, rfl⟩⟩
theorem run_back {B n c : Nat} {A : Option Addr} {l : List UInt8} {w : World} (hr : Reads w B 1 A n (Lib.byteCells l)) : (convert 22 9 (.slice A n c)).run Tryz.prog w = .ok (.string ⟨l.toArray⟩) w := by
  have hl : l.length = n := by have := hr.1; simpa [Lib.byteCells_length] using this
  subst hl
  rcases A with _ | ad
  · have h0 : l = [] := by
      rcases Nat.eq_zero_or_pos l.length with h | h
      · exact List.eq_nil_of_length_eq_zero h
      · obtain ⟨ad, h1, _⟩ := hr.2 h
        cases h1
    subst h0
    rw [run_convert_bytes_string w 22 9 5 none _ c Tryz.underlying22 Tryz.underlying5 Tryz.underlying9]
    simp [Conv.bytesToString]
    rfl
  · refine run_convert_bytes_back w 22 9 5 ad c l Tryz.underlying22 Tryz.underlying5 Tryz.underlying9 ?_
    intro j hj
    obtain ⟨ad', h1, _, h3⟩ := hr.2 (by omega)
    injection h1 with h1
    subst h1
    exact h3 j _ (by simp [Lib.byteCells, List.getElem?_eq_getElem hj])
theorem reads_one (w : World) (x : UInt8) (fr : Nat × Nat) : Reads (w.alloc (.cells #[.int .u8 x.toNat] 5 fr)) (w.heap.size + 1) 1 (some ⟨w.heap.size, 0, none⟩) 1 (Lib.byteCells [x]) := by
  refine ⟨rfl, fun _ => ⟨_, rfl, by simp, fun j u hj => ?_⟩⟩
  match j, hj with
  | 0, hj =>
    simp [Lib.byteCells] at hj
    subst hj
    show World.cell? _ ⟨w.heap.size, 0, none⟩ = _
    rw [Lib.cell_of_heap (heap_alloc_new w _)]; rfl
end Go.Proofs.YtcojkmcnigppbaaGreatDoor
end
section
namespace Go.Proofs.YtcojkmcnigppbaaGreatDoor
open Go Go.Proofs Go.RowKit
def HoldsBytes (g S : Nat) (L : List UInt8) (w : World) : Prop := ∃ cs : Array Value, cs.size = S ∧ L.length ≤ S ∧ w.heap[g]? = some (.cells cs 5 (S, S + 1)) ∧ ∀ j (h : j < L.length), cs[j]? = some (.int .u8 L[j].toNat)
theorem HoldsBytes.cell {g S : Nat} {L : List UInt8} {w : World} (h : HoldsBytes g S L w) {j : Nat} (hj : j < L.length) : w.cell? ⟨g, j, none⟩ = some (.int .u8 L[j].toNat) := by
  obtain ⟨cs, h1, h2, h3, h4⟩ := h
  rw [Lib.cell_of_heap h3]; exact h4 j hj
theorem HoldsBytes.frozen {g S : Nat} {L : List UInt8} {w : World} (h : HoldsBytes g S L w) {j : Nat} (hj : j < L.length) : w.frozen? ⟨g, j, none⟩ = false := by
  obtain ⟨cs, h1, h2, h3, h4⟩ := h
  simp [World.frozen?, h3]; omega
theorem HoldsBytes.set_ {g S : Nat} {L : List UInt8} {w : World} (h : HoldsBytes g S L w) {j : Nat} (hj : j < L.length) (x : UInt8) : HoldsBytes g S (L.set j x) (w.setCell ⟨g, j, none⟩ (.int .u8 x.toNat)) := by
  obtain ⟨cs, h1, h2, h3, h4⟩ := h
  refine ⟨cs.setIfInBounds j (.int .u8 x.toNat), by simpa using h1, by simpa using h2, Joins.block_setCell h3 _, ?_⟩
  intro i hi
  have hi' : i < L.length := by simpa using hi
  rw [Array.getElem?_setIfInBounds, List.getElem_set]
  by_cases e : j = i
  · subst e
    rw [if_pos rfl, if_pos rfl, if_pos (by omega)]
  · rw [if_neg e, if_neg e]
    exact h4 i hi'
theorem HoldsBytes.reads {g S : Nat} {L : List UInt8} {w : World} (h : HoldsBytes g S L w) : Reads w w.heap.size 1 (some ⟨g, 0, none⟩) L.length (Lib.byteCells L) := by
  obtain ⟨cs, h1, h2, h3, h4⟩ := h
  refine ⟨by rw [Lib.byteCells_length, Nat.mul_one], fun _ => ⟨_, rfl, ?_, ?_⟩⟩
  · rcases Nat.lt_or_ge g w.heap.size with h' | h'
    · exact h'
    · simp [Array.getElem?_eq_none h'] at h3
  · intro j u hu
    have hj : j < L.length := by
      have := (List.getElem?_eq_some_iff.1 hu).1
      simpa [Lib.byteCells_length] using this
    have hu' : u = .int .u8 L[j].toNat := by
      simp [Lib.byteCells, List.getElem?_map, List.getElem?_eq_getElem hj] at hu
      exact hu.symm
    subst hu'
    have e : (⟨g, 0, none⟩ : Addr).add j = ⟨g, j, none⟩ := by unfold Addr.add; split <;> simp_all
    rw [e, Lib.cell_of_heap h3]; exact h4 j hj
theorem HoldsBytes.new (w : World) (s : ByteArray) : HoldsBytes w.heap.size (Lib.bytesCells w 5 s).size s.data.toList (Lib.bytesWorld w 5 s) := by
  have hsz : s.data.toList.length ≤ (Lib.bytesCells w 5 s).size := by simp [Lib.bytesCells]
  refine ⟨_, rfl, hsz, Lib.bytesWorld_at_new w 5 s, ?_⟩
  intro j hj
  have hj' : j < s.size := by simpa using hj
  have := Lib.bytesWorld_cell w 5 s j hj'
  rw [Lib.cell_of_heap (Lib.bytesWorld_at_new w 5 s)] at this
  rw [this]
  simp [List.getD, List.getElem?_eq_getElem hj]
theorem bytesCells_cap (w : World) (s : ByteArray) : grownCap w s.size 0 5 ≤ (Lib.bytesCells w 5 s).size := by
  have h : s.data.size = s.size := rfl
  simp [Lib.bytesCells]; omega
theorem HoldsBytes.below {g S B : Nat} {L : List UInt8} {w w' : World} (h : HoldsBytes g S L w) (hb : Below B w w') (hg : g < B) : HoldsBytes g S L w' := by
  obtain ⟨cs, h1, h2, h3, h4⟩ := h
  exact ⟨cs, h1, h2, (hb.block g hg).trans h3, h4⟩
theorem HoldsBytes.lt {g S : Nat} {L : List UInt8} {w : World} (h : HoldsBytes g S L w) : g < w.heap.size := by
  obtain ⟨cs, h1, h2, h3, h4⟩ := h
  rcases Nat.lt_or_ge g w.heap.size with h' | h'
  · exact h'
  · simp [Array.getElem?_eq_none h'] at h3
theorem bytesWorld_below (w : World) (s : ByteArray) : Below w.heap.size w (Lib.bytesWorld w 5 s) :=
  ⟨by simp [Lib.bytesWorld, World.freeze, World.alloc, World.drew, -World.alloc_eq, -World.drew_eq], by simp [Lib.bytesWorld, World.freeze, World.alloc, World.drew, -World.alloc_eq, -World.drew_eq], by simp [Lib.bytesWorld, World.freeze, World.alloc, World.drew, -World.alloc_eq, -World.drew_eq], by rw [Lib.bytesWorld_size]; omega, fun k hk => Lib.bytesWorld_at_old w 5 s k hk⟩
theorem own_form {w : World} {base size n : Nat} {e : TypeId} {v : Value} {xs : List Value} (h : w.ownsRow base e size v n xs) : ∃ A c, v = .slice A n c := by
  rcases h.2 with ⟨h1, h2⟩ | ⟨g, cap, cur, hv, _⟩
  · exact ⟨none, 0, by rw [h1, h2]⟩
  · exact ⟨_, _, hv⟩
end Go.Proofs.YtcojkmcnigppbaaGreatDoor
end
section
namespace Oct
open Go
def isDig (c : UInt8) : Bool := decide (48 ≤ c.toNat ∧ c.toNat ≤ 57)
def digs (most : Nat) : List UInt8 → Nat → Option (Nat × Nat)
  | [], n => some (n, 0)
  | c :: r, n => if isDig c then (if 10 * n + (c.toNat - 48) > most then none else (digs most r (10 * n + (c.toNat - 48))).map fun p => (p.1, p.2 + 1)) else some (n, 0)
def getLen (l : List UInt8) (at_ most : Int) : Int × Int × Int :=
  if at_ < 0 then (0, at_, 1)
  else match l.drop at_.toNat with
    | [] => (0, at_, 2)
    | c :: r => if isDig c = false then (0, at_, 3) else if c = 48 then (0, at_ + 1, 0) else
      match digs (max most 0).toNat (c :: r) 0 with
      | none => (0, at_, 4)
      | some (n, k) => (n, at_ + k, 0)
theorem digs_over (most : Nat) : ∀ (l : List UInt8) (n : Nat) (p : Nat × Nat), digs most l n = some p → n ≤ most → p.1 ≤ most := by
  intro l
  induction l with
  | nil => intro n p h hn; simp [digs] at h; subst h; exact hn
  | cons c r ih =>
    intro n p h hn
    rw [digs] at h
    split at h
    · split at h
      · cases h
      · rename_i hle
        cases hd : digs most r (10 * n + (c.toNat - 48)) with
        | none => rw [hd] at h; cases h
        | some q =>
          rw [hd] at h
          simp at h
          subst h
          show q.1 ≤ most
          exact ih _ q hd (by omega)
    · simp at h; subst h; exact hn
/-! The digits of a number, read. -/
def val (p : List UInt8) (a : Nat) : Nat := p.foldl (fun v c => 10 * v + (c.toNat - 48)) a
theorem val_ge : ∀ (p : List UInt8) (a : Nat), a ≤ val p a
  | [], _ => Nat.le_refl _
  | c :: r, a => Nat.le_trans (show a ≤ 10 * a + (c.toNat - 48) by omega) (val_ge r (10 * a + (c.toNat - 48)))
theorem digs_run (M : Nat) : ∀ (p r : List UInt8) (a : Nat), (∀ c ∈ p, isDig c = true) → val p a ≤ M → digs M (p ++ r) a = (digs M r (val p a)).map fun q => (q.1, q.2 + p.length)
  | [], r, a, _, _ => by simp [val]
  | c :: p, r, a, h, hv => by
    have h1 := val_ge p (10 * a + (c.toNat - 48))
    have hv' : val p (10 * a + (c.toNat - 48)) ≤ M := hv
    rw [List.cons_append, digs, if_pos (h c (by simp)), if_neg (by omega), digs_run M p r _ (fun c' hc' => h c' (by simp [hc'])) hv', Option.map_map]
    show Option.map _ (digs M r (val p (10 * a + (c.toNat - 48)))) = _
    refine congrFun (congrArg Option.map (funext fun q => ?_)) _
    show (q.1, q.2 + p.length + 1) = (q.1, q.2 + (p.length + 1))
    rfl
theorem dig_facts (d : Nat) (h : d < 10) : isDig (UInt8.ofNat (48 + d)) = true ∧ (UInt8.ofNat (48 + d)).toNat - 48 = d := by
  have e : (UInt8.ofNat (48 + d)).toNat = 48 + d := by simp; omega
  exact ⟨by simp [isDig, e]; omega, by rw [e]; omega⟩
theorem dec_facts : ∀ (u : Nat), (∀ c ∈ Lib.decDigits u, isDig c = true) ∧ val (Lib.decDigits u) 0 = u := by
  intro u
  induction u using Nat.strongRecOn with
  | ind u ih =>
    rw [Lib.decDigits]
    split
    · rename_i h
      have := dig_facts u h
      refine ⟨fun c hc => by rw [List.mem_singleton] at hc; subst hc; exact this.1, ?_⟩
      show 10 * 0 + ((UInt8.ofNat (48 + u)).toNat - 48) = u
      rw [this.2]; omega
    · rename_i h
      have h1 := ih (u / 10) (by omega)
      have h2 := dig_facts (u % 10) (by omega)
      refine ⟨fun c hc => ?_, ?_⟩
      · rw [List.mem_append] at hc
        rcases hc with hc | hc
        · exact h1.1 c hc
        · rw [List.mem_singleton] at hc; subst hc; exact h2.1
      · rw [val, List.foldl_append]
        show 10 * val (Lib.decDigits (u / 10)) 0 + ((UInt8.ofNat (48 + u % 10)).toNat - 48) = u
        rw [h1.2, h2.2]; omega
theorem dec_head : ∀ (u : Nat), 0 < u → ∃ c r, Lib.decDigits u = c :: r ∧ c ≠ 48 := by
  intro u
  induction u using Nat.strongRecOn with
  | ind u ih =>
    intro hu
    rw [Lib.decDigits]
    split
    · rename_i h
      refine ⟨_, [], rfl, fun e => ?_⟩
      have := (dig_facts u h).2
      rw [e] at this
      simp at this
      omega
    · rename_i h
      obtain ⟨c, r, h1, h2⟩ := ih (u / 10) (by omega) (by omega)
      rw [h1]
      exact ⟨c, _, rfl, h2⟩
theorem dec_length : ∀ (k u : Nat), u < 10 ^ (k + 1) → (Lib.decDigits u).length ≤ k + 1 := by
  intro k
  induction k with
  | zero =>
    intro u h
    rw [Lib.decDigits, dif_pos (by simpa using h)]
    simp
  | succ k ih =>
    intro u h
    rw [Lib.decDigits]
    split
    · simp
    · rw [List.length_append]
      have := ih (u / 10) (by rw [Nat.pow_succ] at h; omega)
      simp; omega
end Oct
end
section
namespace Go.Proofs.YtcojkmcnigppbaaGreatDoor
open Go Go.Proofs Go.RowKit Oct
set_option maxHeartbeats 1000000 in
set_option maxRecDepth 100000 in
theorem isDigit_any (x : UInt8) (w : World) : Calls Tryz.prog 145 #[.int .u8 x.toNat] w fun e w' => e = .returned (.bool (isDig x)) ∧ w' = w := by
  have hx := x.toNat_lt
  by_cases h1 : 48 ≤ x.toNat
  · by_cases h2 : x.toNat ≤ 57
    · have hd : Hid (isDig x = true) := by show _ = _; simp [isDig, h1, h2]
      go_enter Tryz.func145, Tryz.ntmps145
      go_wp2
      go_ret
      exact ⟨by rw [hd.out]; first | done | (simp; omega) | rfl, rfl⟩
    · have hd : Hid (isDig x = false) := by show _ = _; simp [isDig, h2]
      go_enter Tryz.func145, Tryz.ntmps145
      go_wp2
      go_ret
      exact ⟨by rw [hd.out]; first | done | (simp; omega) | rfl, rfl⟩
  · have hd : Hid (isDig x = false) := by show _ = _; simp [isDig, h1]
    go_enter Tryz.func145, Tryz.ntmps145
    go_wp2
    go_ret
    exact ⟨by rw [hd.out]; first | done | (simp; omega) | rfl, rfl⟩
theorem int_eq {k : IntKind} {a b : Int} (h : a = b) : Value.int k a = Value.int k b := by rw [h]
theorem ret3_int {a b c a' b' c' : Int} (h1 : a = a') (h2 : b = b') (h3 : c = c') : Ending.returned (.tuple #[.int .i64 a, .int .i64 b, .int .i64 c]) = .returned (.tuple #[.int .i64 a', .int .i64 b', .int .i64 c']) := by rw [h1, h2, h3]
def GetLenEnd (r : Int × Int × Int) (w : World) (e : Ending) (w' : World) : Prop := e = .returned (.tuple #[.int .i64 r.1, .int .i64 r.2.1, .int .i64 r.2.2]) ∧ w' = w
set_option maxHeartbeats 1000000 in
set_option maxRecDepth 100000 in
theorem getLen_any (A : Option Addr) (n c : Nat) (l : List UInt8) (B : Nat) (a m : Int) (w : World) (hr : Reads w B 1 A n (Lib.byteCells l)) (hn : n ≤ maxLen) (ha : -9223372036854775808 ≤ a ∧ a ≤ 9223372036854775807) (hm : -9223372036854775808 ≤ m ∧ m ≤ 9223372036854775807) :
    Calls Tryz.prog 135 #[.slice A n c, .int .i64 a, .int .i64 m] w (GetLenEnd (getLen l a m) w) := by
  have hl : l.length = n := by have := hr.1; simpa [Lib.byteCells_length] using this
  unfold maxLen at hn
  by_cases h0 : a < 0
  · have HG : Hid (getLen l a m = (0, a, 1)) := by show _ = _; simp [getLen, h0]
    go_enter Tryz.func135, Tryz.ntmps135
    go_wp2
    go_ret3
    exact ⟨by rw [HG.out]; rfl, rfl⟩
  · obtain ⟨k, rfl⟩ := Int.eq_ofNat_of_zero_le (show 0 ≤ a by omega)
    by_cases h1 : n ≤ k
    · have HG : Hid (getLen l (k : Int) m = (0, (k : Int), 2)) := by show _ = _; simp [getLen, List.drop_of_length_le (show l.length ≤ k by omega)]
      go_enter Tryz.func135, Tryz.ntmps135
      go_wp2
      go_ret3
      exact ⟨by rw [HG.out]; rfl, rfl⟩
    · have hk : k < n := by omega
      obtain ⟨ad, u, rfl, hab, hu, hc⟩ := hr.at_ hk
      have hkl : k < l.length := by omega
      obtain ⟨x, hx⟩ : ∃ x : UInt8, x = l[k] := ⟨_, rfl⟩
      have hu' : u = .int .u8 x.toNat := by
        simp [Lib.byteCells, List.getElem?_map, List.getElem?_eq_getElem hkl] at hu
        rw [hx]; exact hu.symm
      subst hu'
      have hdrop : l.drop k = x :: l.drop (k + 1) := by rw [hx]; exact List.drop_eq_getElem_cons hkl
      have HD := hid hdrop; have HX := hid hx; have HL := hid hl
      clear hdrop hx hu hl
      by_cases h2 : isDig x = false
      · have HG : Hid (getLen l (k : Int) m = (0, (k : Int), 3)) := by show _ = _; simp [getLen, HD.out, h2]
        go_enter Tryz.func135, Tryz.ntmps135
        go_wp2_with (go_at_call 145; refine (isDigit_any x _).mono ?_; rintro e w' ⟨rfl, rfl⟩)
        go_ret3
        exact ⟨by rw [HG.out]; rfl, rfl⟩
      · have h2 : isDig x = true := by simpa using h2
        by_cases h3 : x = 48
        · subst h3
          have HG : Hid (getLen l (k : Int) m = (0, (k : Int) + 1, 0)) := by
            show getLen l (k : Int) m = _
            unfold getLen
            rw [if_neg h0, Int.toNat_natCast, HD.out]
            rfl
          go_enter Tryz.func135, Tryz.ntmps135
          go_wp2_with (go_at_call 145; refine (isDigit_any 48 _).mono ?_; rintro e w' ⟨rfl, rfl⟩)
          go_ret3
          exact ⟨by rw [HG.out]; rfl, rfl⟩
        · obtain ⟨M, hM⟩ : ∃ M, M = (max m 0).toNat := ⟨_, rfl⟩
          have hM' : max m 0 = (M : Int) := by omega
          have hM2 : M ≤ 9223372036854775807 := by omega
          have hx0 : x.toNat ≠ 48 := fun h => h3 (UInt8.toNat_inj.1 h)
          have HG : ∀ r, Hid (digs M (l.drop k) 0 = r) → Hid (getLen l (k : Int) m = match r with | none => (0, (k : Int), 4) | some (v, q) => ((v : Int), (k : Int) + q, 0)) := by
            intro r hrr
            show getLen l (k : Int) m = _
            unfold getLen
            rw [if_neg h0, Int.toNat_natCast, HD.out]
            show (if isDig x = false then _ else if x = 48 then _ else _) = _
            rw [if_neg (by rw [h2]; simp), if_neg h3, ← hM, ← HD.out, hrr.out]
            try rfl
          have HG := hid HG
          have HM := hid hM'
          have hbd : 48 ≤ x.toNat ∧ x.toNat ≤ 57 := by simpa [isDig] using h2
          have hxB : ((x.toNat : Int) == 48) = false := by
            rw [beq_eq_false_iff_ne]; omega
          clear hM hM' h3
          go_enter Tryz.func135, Tryz.ntmps135
          go_wp2_with (go_at_call 145; refine (isDigit_any x _).mono ?_; rintro e w' ⟨rfl, rfl⟩)
          rw [HM.out]
          clear hxB
          go_loop [9, 10] (fun a b => ∃ (v j : Nat), k ≤ j ∧ j ≤ n ∧ v ≤ M ∧ a = .int .i64 v ∧ b = .int .i64 j ∧ digs M (l.drop k) 0 = (digs M (l.drop j) v).map fun p => (p.1, p.2 + (j - k))) (fun _ b => n - (intOf b).toNat)
          case atStart => exact ⟨0, k, Nat.le_refl _, by omega, Nat.zero_le _, rfl, rfl, by simp⟩
          case round =>
            obtain ⟨v, j, hkj, hjn, hvM, rfl, rfl, hdg⟩ := hrel
            have HDG := hid hdg
            clear hdg hc
            by_cases hj : j < n
            · obtain ⟨ad', u, had, _, hu, hc⟩ := hr.at_ hj
              injection had with had
              subst had
              have hll : l.length = n := HL.out
              have hjl : j < l.length := by omega
              obtain ⟨y, hy⟩ : ∃ y : UInt8, y = l[j] := ⟨_, rfl⟩
              have hu' : u = .int .u8 y.toNat := by
                simp [Lib.byteCells, List.getElem?_map, List.getElem?_eq_getElem hjl] at hu
                rw [hy]; exact hu.symm
              subst hu'
              have hdr : l.drop j = y :: l.drop (j + 1) := by rw [hy]; exact List.drop_eq_getElem_cons hjl
              have HDR := hid hdr
              clear hdr hy hu hll
              by_cases hd : isDig y = true
              · have hyb : 48 ≤ y.toNat ∧ y.toNat ≤ 57 := by simpa [isDig] using hd
                go_wp2_with (go_at_call 145; refine (isDigit_any y _).mono ?_; rintro e w' ⟨rfl, rfl⟩)
                all_goals first
                  | (go_ret3
                     have hbad : 10 * v + (y.toNat - 48) > M := by omega
                     have hf := HG.out none (show _ = _ by rw [HDG.out, HDR.out, digs, if_pos hd, if_pos hbad]; rfl)
                     exact ⟨by rw [hf.out]; rfl, rfl⟩)
                  | (have hok : ¬ 10 * v + (y.toNat - 48) > M := by omega
                     refine ⟨⟨10 * v + (y.toNat - 48), j + 1, by omega, by omega, by omega, int_eq (by omega), int_eq (by omega), ?_⟩, by simp [intOf]; omega⟩
                     rw [HDG.out, HDR.out, digs, if_pos hd, if_neg hok, Option.map_map]
                     refine congrFun (congrArg Option.map (funext fun p => ?_)) _
                     show (p.1, p.2 + 1 + (j - k)) = (p.1, p.2 + (j + 1 - k))
                     congr 1; omega)
              · have hd : isDig y = false := by simpa using hd
                go_wp2_with (go_at_call 145; refine (isDigit_any y _).mono ?_; rintro e w' ⟨rfl, rfl⟩)
                go_ret3
                have hf := HG.out (some (v, j - k)) (show _ = _ by rw [HDG.out, HDR.out, digs, if_neg (by rw [hd]; simp)]; simp)
                exact ⟨by rw [hf.out]; exact ret3_int rfl (show (_ : Int) = (k : Int) + ((j - k : Nat) : Int) by omega) rfl, rfl⟩
            · obtain rfl : j = n := by omega
              go_wp2_with fail
              go_ret3
              have hf := HG.out (some (v, j - k)) (show _ = _ by rw [HDG.out, List.drop_of_length_le (by rw [HL.out]; exact Nat.le_refl _), digs]; simp)
              exact ⟨by rw [hf.out]; exact ret3_int rfl (show (_ : Int) = (k : Int) + ((j - k : Nat) : Int) by omega) rfl, rfl⟩
end Go.Proofs.YtcojkmcnigppbaaGreatDoor
end
section
namespace Sx
open Go
inductive SX where
  | mk (l h : Bool) (hi da : List UInt8) (ks : List SX)
theorem SX.ind {P : SX → Prop} (H : ∀ l h hi da ks, (∀ k ∈ ks, P k) → P (.mk l h hi da ks)) (t : SX) : P t :=
  SX.rec (motive_1 := P) (motive_2 := fun ks => ∀ k ∈ ks, P k) (fun l h hi da ks ih => H l h hi da ks ih) (fun _ h => by cases h)
    (fun _ _ h1 h2 k hk => by
    rcases List.mem_cons.1 hk with h | hk
    · rw [h]; exact h1
    · exact h2 k hk) t
def text (b : List UInt8) : List UInt8 := Lib.decDigits b.length ++ 58 :: b
mutual
def nodes : SX → Nat
  | .mk _ _ _ _ ks => 1 + nodesL ks
def nodesL : List SX → Nat
  | [] => 0
  | k :: r => nodes k + nodesL r
end
mutual
def deep : SX → Nat
  | .mk l _ _ _ ks => if l then deepL ks + 1 else 0
def deepL : List SX → Nat
  | [] => 0
  | k :: r => max (deep k) (deepL r)
end
def well (l h : Bool) (hi da : List UInt8) (ks : List SX) : Bool :=
  if l then !h && hi.isEmpty && da.isEmpty else ks.isEmpty && (h || hi.isEmpty)
mutual
def clean : SX → Bool
  | .mk l h hi da ks => well l h hi da ks && cleanL ks
def cleanL : List SX → Bool
  | [] => true
  | k :: r => clean k && cleanL r
end
mutual
def form : SX → List UInt8
  | .mk l h hi da ks => if l then 40 :: (formL ks ++ [41]) else (if h then 91 :: (text hi ++ [93]) else []) ++ text da
def formL : List SX → List UInt8
  | [] => []
  | k :: r => form k ++ formL r
end
mutual
def same : SX → SX → Bool
  | .mk l h hi da ks, .mk l' h' hi' da' ks' => l == l' && h == h' && hi == hi' && da == da' && sameL ks ks'
def sameL : List SX → List SX → Bool
  | [], [] => true
  | k :: r, k' :: r' => same k k' && sameL r r'
  | _, _ => false
end
def may (t : SX) : Bool := clean t && decide (nodes t ≤ 512) && decide (deep t ≤ 16) && decide ((form t).length ≤ 4096)
theorem nodesL_snoc (l : List SX) (k : SX) : nodesL (l ++ [k]) = nodesL l + nodes k := by
  induction l with
  | nil => simp [nodesL]
  | cons a r ih => simp [nodesL, ih]; omega
theorem deepL_snoc (l : List SX) (k : SX) : deepL (l ++ [k]) = max (deepL l) (deep k) := by
  induction l with
  | nil => simp [deepL]
  | cons a r ih => simp [deepL, ih, Nat.max_assoc]
theorem cleanL_snoc (l : List SX) (k : SX) : cleanL (l ++ [k]) = (cleanL l && clean k) := by
  induction l with
  | nil => simp [cleanL]
  | cons a r ih => simp [cleanL, ih, Bool.and_assoc]
theorem formL_snoc (l : List SX) (k : SX) : formL (l ++ [k]) = formL l ++ form k := by
  induction l with
  | nil => simp [formL]
  | cons a r ih => simp [formL, ih]
theorem take_snoc {α : Type} (l : List α) (k : Nat) (x : α) (h : l[k]? = some x) : l.take (k + 1) = l.take k ++ [x] := by
  rw [List.take_add_one, h]; rfl
theorem nodes_pos (t : SX) : 0 < nodes t := by cases t; rw [nodes]; omega
theorem nodesL_take (l : List SX) (k : Nat) (x : SX) (h : l[k]? = some x) : nodesL (l.take (k + 1)) = nodesL (l.take k) + nodes x := by rw [take_snoc l k x h, nodesL_snoc]
theorem formL_append (a b : List SX) : formL (a ++ b) = formL a ++ formL b := by
  induction a with
  | nil => simp [formL]
  | cons x r ih => simp [formL, ih]
theorem nodesL_append (a b : List SX) : nodesL (a ++ b) = nodesL a + nodesL b := by
  induction a with
  | nil => simp [nodesL]
  | cons x r ih => simp [nodesL, ih]; omega
theorem cleanL_append (a b : List SX) : cleanL (a ++ b) = (cleanL a && cleanL b) := by
  induction a with
  | nil => simp [cleanL]
  | cons x r ih => simp [cleanL, ih, Bool.and_assoc]
theorem deepL_append (a b : List SX) : deepL (a ++ b) = max (deepL a) (deepL b) := by
  induction a with
  | nil => simp [deepL]
  | cons x r ih => simp [deepL, ih, Nat.max_assoc]
mutual
theorem same_iff : ∀ a b : SX, same a b = true ↔ a = b
  | .mk l h hi da ks, .mk l' h' hi' da' ks' => by
    rw [same]
    simp only [Bool.and_eq_true, beq_iff_eq, sameL_iff ks ks']
    constructor
    · rintro ⟨⟨⟨⟨rfl, rfl⟩, rfl⟩, rfl⟩, rfl⟩; rfl
    · intro e; cases e; simp
theorem sameL_iff : ∀ a b : List SX, sameL a b = true ↔ a = b
  | [], [] => by simp [sameL]
  | [], _ :: _ => by simp [sameL]
  | _ :: _, [] => by simp [sameL]
  | k :: r, k' :: r' => by
    rw [sameL]
    simp only [Bool.and_eq_true, same_iff k k', sameL_iff r r']
    constructor
    · rintro ⟨rfl, rfl⟩; rfl
    · intro e; cases e; simp
end
theorem same_refl (a : SX) : same a a = true := (same_iff a a).2 rfl
def own (l h : Bool) (hi da : List UInt8) : Nat := if l then 2 else (if h then 2 + (text hi).length else 0) + (text da).length
theorem form_own (l h : Bool) (hi da : List UInt8) (ks : List SX) (hw : well l h hi da ks = true) : (form (.mk l h hi da ks)).length = own l h hi da + (formL ks).length := by
  rw [form, own]
  cases l
  · have hk : ks = [] := by
      have : ks.isEmpty = true := by simp [well] at hw; simpa using hw.1
      simpa using this
    subst hk
    cases h
    · simp [formL]
    · simp [formL]; omega
  · simp; omega
theorem own_le_form (l h : Bool) (hi da : List UInt8) (ks : List SX) : own l h hi da ≤ (form (.mk l h hi da ks)).length := by
  rw [form, own]
  cases l <;> cases h <;> simp <;> omega
def fits (t : SX) (n b a : Nat) : Bool := clean t && decide (nodes t ≤ n) && decide ((form t).length ≤ b) && decide (a + deep t ≤ 16)
theorem may_fits (t : SX) : may t = fits t 512 4096 0 := by
  unfold may fits
  rw [Nat.zero_add]
  cases clean t <;> cases decide (nodes t ≤ 512) <;> cases decide (deep t ≤ 16) <;> cases decide ((form t).length ≤ 4096) <;> rfl
theorem fits_iff (t : SX) (n b a : Nat) : fits t n b a = true ↔ clean t = true ∧ nodes t ≤ n ∧ (form t).length ≤ b ∧ a + deep t ≤ 16 := by
  unfold fits
  simp only [Bool.and_eq_true, decide_eq_true_eq, and_assoc]
theorem fits_not {t : SX} {n b a : Nat} (h : ¬ (clean t = true ∧ nodes t ≤ n ∧ (form t).length ≤ b ∧ a + deep t ≤ 16)) : fits t n b a = false := by
  rw [Bool.eq_false_iff, Ne, fits_iff]; exact h
theorem mem_le {ks : List SX} {t : SX} (h : t ∈ ks) : (cleanL ks = true → clean t = true) ∧ nodes t ≤ nodesL ks ∧ (form t).length ≤ (formL ks).length ∧ deep t ≤ deepL ks := by
  induction ks with
  | nil => cases h
  | cons a r ih =>
    simp only [cleanL, nodesL, formL, deepL, Bool.and_eq_true, List.length_append]
    rcases List.mem_cons.1 h with rfl | h
    · exact ⟨fun h => h.1, by omega, by omega, by omega⟩
    · obtain ⟨h1, h2, h3, h4⟩ := ih h
      exact ⟨fun h => h1 h.2, by omega, by omega, by omega⟩
theorem fits_kid {l h : Bool} {hi da : List UInt8} {ks : List SX} {n b a k : Nat} {t : SX} (hw : well l h hi da ks = true) (hk : ks[k]? = some t)
    {n' b' : Nat} (hn : n' + 1 + nodesL (ks.take k) = n) (hb : b' + own l h hi da + (formL (ks.take k)).length = b) (hf : fits t n' b' (a + 1) = false) :
    fits (.mk l h hi da ks) n b a = false := by
  apply fits_not
  rintro ⟨h1, h2, h3, h4⟩
  rw [Bool.eq_false_iff, Ne, fits_iff] at hf
  apply hf
  have hm : t ∈ ks := List.mem_of_getElem? hk
  obtain ⟨m1, m2, m3, m4⟩ := mem_le hm
  have eN := nodesL_append (ks.take (k + 1)) (ks.drop (k + 1))
  have eF := formL_append (ks.take (k + 1)) (ks.drop (k + 1))
  rw [List.take_append_drop, take_snoc ks k t hk] at eN eF
  rw [nodesL_snoc] at eN
  rw [formL_snoc] at eF
  have eF := congrArg List.length eF
  simp only [List.length_append] at eF
  rw [form_own _ _ _ _ _ hw] at h3
  rw [nodes] at h2
  rw [clean, Bool.and_eq_true] at h1
  have hl : l = true := by
    cases l
    · have : ks.isEmpty = true := by simp [well] at hw; simpa using hw.1
      have hnil : ks = [] := by simpa using this
      subst hnil
      cases hm
    · rfl
  subst hl
  have e4 : deep (.mk true h hi da ks) = deepL ks + 1 := by rw [deep]; rfl
  exact ⟨m1 h1.2, by omega, by omega, by omega⟩
theorem fits_all {l h : Bool} {hi da : List UInt8} {ks : List SX} {n b a : Nat} (hw : well l h hi da ks = true)
    {n' b' : Nat} (hn : n' + 1 + nodesL ks = n) (hb : b' + own l h hi da + (formL ks).length = b) (hc : cleanL ks = true) (hd : l = true → a < 16) (hdd : ∀ t ∈ ks, a + 1 + deep t ≤ 16) (ha : a ≤ 16) :
    fits (.mk l h hi da ks) n b a = true := by
  rw [fits_iff, form_own _ _ _ _ _ hw, nodes, clean, hw, hc]
  refine ⟨rfl, by omega, by omega, ?_⟩
  rw [deep]
  split
  · rename_i hl
    have h0 := hd hl
    have : ∀ ks : List SX, (∀ t ∈ ks, a + 1 + deep t ≤ 16) → a + 1 + deepL ks ≤ 16 := by
      intro ks
      induction ks with
      | nil => intro _; rw [deepL]; omega
      | cons x r ih =>
        intro h
        have h1 := h x (by simp)
        have h2 := ih (fun t ht => h t (by simp [ht]))
        rw [deepL]; omega
    have := this ks hdd
    omega
  · omega
theorem fits_well {l h : Bool} {hi da : List UInt8} {ks : List SX} {n b a : Nat} (hw : well l h hi da ks = false) : fits (.mk l h hi da ks) n b a = false := by
  apply fits_not
  rintro ⟨h1, _⟩
  rw [clean, hw] at h1
  cases h1
theorem fits_room {l h : Bool} {hi da : List UInt8} {ks : List SX} {n b a : Nat} (hr : ¬ (1 ≤ n ∧ own l h hi da ≤ b)) : fits (.mk l h hi da ks) n b a = false := by
  apply fits_not
  rintro ⟨_, h2, h3, _⟩
  have := own_le_form l h hi da ks
  rw [nodes] at h2
  omega
theorem fits_deep {h : Bool} {hi da : List UInt8} {ks : List SX} {n b a : Nat} (hr : 16 ≤ a) : fits (.mk true h hi da ks) n b a = false := by
  apply fits_not
  rintro ⟨_, _, _, h4⟩
  have e4 : deep (.mk true h hi da ks) = deepL ks + 1 := by rw [deep]; rfl
  omega
end Sx
end
section
namespace Go.Proofs.YtcojkmcnigppbaaGreatDoor
open Go Go.Proofs Go.RowKit Sx
def RIn (w : World) (S : Nat → Prop) (size : Nat) (A : Option Addr) (n : Nat) (xs : List Value) : Prop :=
  xs.length = n * size ∧ (0 < n → ∃ ad, A = some ad ∧ S ad.block ∧ ∀ j u, xs[j]? = some u → w.cell? (ad.add j) = some u)
inductive SIn (w : World) (S : Nat → Prop) : SX → List Value → Prop
  | mk {l h : Bool} {hi da : List UInt8} {ks : List SX} {A1 A2 A3 : Option Addr} {n1 c1 n2 c2 n3 c3 : Nat} {xs : List Value}
    (h1 : RIn w S 1 A1 n1 (Lib.byteCells hi)) (b1 : n1 ≤ c1 ∧ n1 ≤ 140737488355328) (h2 : RIn w S 1 A2 n2 (Lib.byteCells da)) (b2 : n2 ≤ c2 ∧ n2 ≤ 140737488355328)
    (h3 : RIn w S 5 A3 n3 xs) (b3 : n3 ≤ c3 ∧ n3 * 80 ≤ 140737488355328) (hk : ks.length = n3) (hs : ∀ i t, ks[i]? = some t → SIn w S t ((xs.drop (i * 5)).take 5)) :
    SIn w S (.mk l h hi da ks) [.bool l, .bool h, .slice A1 n1 c1, .slice A2 n2 c2, .slice A3 n3 c3]
section
variable {w w' : World} {S S' : Nat → Prop} {size n : Nat} {A : Option Addr} {xs : List Value}
theorem RIn.keep (h : RIn w S size A n xs) (hk : ∀ p : Addr, S p.block → w'.cell? p = w.cell? p) : RIn w' S size A n xs :=
  ⟨h.1, fun hn => by
    obtain ⟨ad, e, hb, hc⟩ := h.2 hn
    exact ⟨ad, e, hb, fun j u hu => (hk _ (by rw [block_of_add]; exact hb)).trans (hc j u hu)⟩⟩
theorem RIn.more (h : RIn w S size A n xs) (hS : ∀ b, S b → S' b) : RIn w S' size A n xs :=
  ⟨h.1, fun hn => by
    obtain ⟨ad, e, hb, hc⟩ := h.2 hn
    exact ⟨ad, e, hS _ hb, hc⟩⟩
theorem RIn.size_ (h : RIn w S size A n xs) (hs : 0 < size) : RIn w (fun b => S b ∧ b < w.heap.size) size A n xs :=
  ⟨h.1, fun hn => by
    obtain ⟨ad, e, hb, hc⟩ := h.2 hn
    have hl : 0 < xs.length := by rw [h.1]; exact Nat.mul_pos hn hs
    have h0 := hc 0 _ (List.getElem?_eq_getElem hl)
    have hlt := World.block_lt_of_cell? _ _ h0
    rw [block_of_add] at hlt
    exact ⟨ad, e, ⟨hb, hlt⟩, hc⟩⟩
theorem RIn.reads (h : RIn w S size A n xs) (hs : 0 < size) : Reads w w.heap.size size A n xs := (h.size_ hs).more fun _ h => h.2
theorem RIn.of_reads {B : Nat} (h : Reads w B size A n xs) : RIn w (· < B) size A n xs := h
theorem RIn.none_ : RIn w S size A 0 [] := ⟨by simp, fun h => absurd h (by omega)⟩
theorem RIn.at5 (h : RIn w S 5 A n xs) {k : Nat} (hk : k < n) : ∃ ad v0 v1 v2 v3 v4, A = some ad ∧ S ad.block ∧ (xs.drop (k * 5)).take 5 = [v0, v1, v2, v3, v4] ∧
    w.cell? (ad.add (k * 5)) = some v0 ∧ w.cell? ⟨(ad.add (k * 5)).block, (ad.add (k * 5)).off + 1, none⟩ = some v1 ∧ w.cell? ⟨(ad.add (k * 5)).block, (ad.add (k * 5)).off + 2, none⟩ = some v2 ∧ w.cell? ⟨(ad.add (k * 5)).block, (ad.add (k * 5)).off + 3, none⟩ = some v3 ∧ w.cell? ⟨(ad.add (k * 5)).block, (ad.add (k * 5)).off + 4, none⟩ = some v4 := by
  obtain ⟨ad, e, hb, hc⟩ := h.2 (by omega)
  have hl := h.1
  have g : ∀ j, j < 5 → k * 5 + j < xs.length := fun j hj => by rw [hl]; omega
  have g0 : k * 5 < xs.length := g 0 (by omega)
  have hc' : ∀ j u, j ≠ 0 → xs[k * 5 + j]? = some u → w.cell? ⟨(ad.add (k * 5)).block, (ad.add (k * 5)).off + j, none⟩ = some u := by
    intro j u hj hu
    have := hc (k * 5 + j) u hu
    rw [← add_of_add, show (ad.add (k * 5)).add j = ⟨(ad.add (k * 5)).block, (ad.add (k * 5)).off + j, none⟩ from if_neg hj] at this
    exact this
  refine ⟨ad, xs[k * 5], xs[k * 5 + 1]'(g 1 (by omega)), xs[k * 5 + 2]'(g 2 (by omega)), xs[k * 5 + 3]'(g 3 (by omega)), xs[k * 5 + 4]'(g 4 (by omega)), e, hb, ?_,
    hc _ _ (List.getElem?_eq_getElem _), hc' 1 _ (by omega) (List.getElem?_eq_getElem _), hc' 2 _ (by omega) (List.getElem?_eq_getElem _), hc' 3 _ (by omega) (List.getElem?_eq_getElem _), hc' 4 _ (by omega) (List.getElem?_eq_getElem _)⟩
  rw [List.drop_eq_getElem_cons g0, List.drop_eq_getElem_cons (g 1 (by omega)), List.drop_eq_getElem_cons (i := k * 5 + 1 + 1) (g 2 (by omega)), List.drop_eq_getElem_cons (i := k * 5 + 1 + 1 + 1) (g 3 (by omega)), List.drop_eq_getElem_cons (i := k * 5 + 1 + 1 + 1 + 1) (g 4 (by omega))]
  rfl
theorem SIn.keep {t : SX} {cs : List Value} (h : SIn w S t cs) (hk : ∀ p : Addr, S p.block → w'.cell? p = w.cell? p) : SIn w' S t cs := by
  induction h with
  | mk h1 b1 h2 b2 h3 b3 hl hs ih => exact .mk (h1.keep hk) b1 (h2.keep hk) b2 (h3.keep hk) b3 hl ih
theorem SIn.more {t : SX} {cs : List Value} (h : SIn w S t cs) (hS : ∀ b, S b → S' b) : SIn w S' t cs := by
  induction h with
  | mk h1 b1 h2 b2 h3 b3 hl hs ih => exact .mk (h1.more hS) b1 (h2.more hS) b2 (h3.more hS) b3 hl ih
theorem SIn.size_ {t : SX} {cs : List Value} (h : SIn w S t cs) : SIn w (fun b => S b ∧ b < w.heap.size) t cs := by
  induction h with
  | mk h1 b1 h2 b2 h3 b3 hl hs ih => exact .mk (h1.size_ (by omega)) b1 (h2.size_ (by omega)) b2 (h3.size_ (by omega)) b3 hl ih
theorem SIn.kept {t : SX} {cs : List Value} {B : Nat} (h : SIn w S t cs) (hb : Below B w w') (hS : ∀ b, S b → b < B) : SIn w' S t cs := h.keep fun p hp => hb.cell (hS _ hp)
theorem SIn.old {t : SX} {cs : List Value} (h : SIn w S t cs) (hb : Below w.heap.size w w') : SIn w' S t cs := (h.size_.keep fun p hp => hb.cell hp.2).more fun _ h => h.1
theorem SIn.grown {t : SX} {cs : List Value} (h : SIn w S t cs) {row : Option Nat} (hg : w.grownBy w' row) (hS : ∀ b, S b → some b ≠ row) : SIn w' S t cs :=
  (h.size_.keep fun p hp => World.cell?_of_block (hg.block p.block hp.2 (hS _ hp.1))).more fun _ h => h.1
theorem RIn.grown (h : RIn w S size A n xs) (hs : 0 < size) {row : Option Nat} (hg : w.grownBy w' row) (hS : ∀ b, S b → some b ≠ row) : RIn w' S size A n xs :=
  ((h.size_ hs).keep fun p hp => World.cell?_of_block (hg.block p.block hp.2 (hS _ hp.1))).more fun _ h => h.1
theorem RIn.old (h : RIn w S size A n xs) (hs : 0 < size) (hb : Below w.heap.size w w') : RIn w' S size A n xs := ((h.size_ hs).keep fun p hp => hb.cell hp.2).more fun _ h => h.1
theorem SIn.inv {l h l' h' : Bool} {hi da : List UInt8} {ks : List SX} {A1 A2 A3 : Option Addr} {n1 c1 n2 c2 n3 c3 : Nat}
    (hs : SIn w S (.mk l h hi da ks) [.bool l', .bool h', .slice A1 n1 c1, .slice A2 n2 c2, .slice A3 n3 c3]) :
    l' = l ∧ h' = h ∧ RIn w S 1 A1 n1 (Lib.byteCells hi) ∧ RIn w S 1 A2 n2 (Lib.byteCells da) ∧ hi.length = n1 ∧ da.length = n2 ∧ ks.length = n3 ∧ n1 ≤ c1 ∧ n1 ≤ 140737488355328 ∧ n2 ≤ c2 ∧ n2 ≤ 140737488355328 ∧ n3 ≤ c3 ∧ n3 * 80 ≤ 140737488355328 := by
  cases hs with
  | mk h1 b1 h2 b2 h3 b3 hk hs =>
    exact ⟨rfl, rfl, h1, h2, by simpa [Lib.byteCells_length] using h1.1, by simpa [Lib.byteCells_length] using h2.1, hk, b1.1, b1.2, b2.1, b2.2, b3.1, b3.2⟩
theorem SIn.kid {l h l' h' : Bool} {hi da : List UInt8} {ks : List SX} {V1 V2 : Value} {A3 : Option Addr} {n3 c3 : Nat}
    (hs : SIn w S (.mk l h hi da ks) [.bool l', .bool h', V1, V2, .slice A3 n3 c3]) {k : Nat} (hlt : k < n3) :
    ∃ ad v0 v1 v2 v3 v4 t, A3 = some ad ∧ S ad.block ∧ ks[k]? = some t ∧ t ∈ ks ∧ SIn w S t [v0, v1, v2, v3, v4] ∧
      w.cell? (ad.add (k * 5)) = some v0 ∧ w.cell? ⟨(ad.add (k * 5)).block, (ad.add (k * 5)).off + 1, none⟩ = some v1 ∧ w.cell? ⟨(ad.add (k * 5)).block, (ad.add (k * 5)).off + 2, none⟩ = some v2 ∧
      w.cell? ⟨(ad.add (k * 5)).block, (ad.add (k * 5)).off + 3, none⟩ = some v3 ∧ w.cell? ⟨(ad.add (k * 5)).block, (ad.add (k * 5)).off + 4, none⟩ = some v4 := by
  cases hs with
  | mk h1 b1 h2 b2 h3 b3 hk hs =>
    obtain ⟨ad, v0, v1, v2, v3, v4, rfl, hS, hcs, d0, d1, d2, d3, d4⟩ := h3.at5 hlt
    have hkl : k < ks.length := by omega
    have := hs k ks[k] (List.getElem?_eq_getElem hkl)
    rw [hcs] at this
    exact ⟨ad, v0, v1, v2, v3, v4, ks[k], rfl, hS, List.getElem?_eq_getElem hkl, List.getElem_mem hkl, this, d0, d1, d2, d3, d4⟩
theorem SIn.form_ {t : SX} {cs : List Value} (hs : SIn w S t cs) : ∃ l h hi da ks A1 n1 c1 A2 n2 c2 A3 n3 c3, t = .mk l h hi da ks ∧ cs = [.bool l, .bool h, .slice A1 n1 c1, .slice A2 n2 c2, .slice A3 n3 c3] := by
  cases hs with
  | mk h1 b1 h2 b2 h3 b3 hk hs => exact ⟨_, _, _, _, _, _, _, _, _, _, _, _, _, _, rfl, rfl⟩
theorem box5 {W wr : World} {v0 v1 v2 v3 v4 : Value} {T : TypeId} (hb : Below (W.heap.size + 1) (W.alloc (.cells #[v0, v1, v2, v3, v4] T)) wr) :
    wr.cell? ⟨W.heap.size, 0, none⟩ = some v0 ∧ wr.cell? ⟨W.heap.size, 1, none⟩ = some v1 ∧ wr.cell? ⟨W.heap.size, 2, none⟩ = some v2 ∧ wr.cell? ⟨W.heap.size, 3, none⟩ = some v3 ∧ wr.cell? ⟨W.heap.size, 4, none⟩ = some v4 := by
  have h := heap_alloc_new W (.cells #[v0, v1, v2, v3, v4] T)
  have c := fun i => hb.cell (p := ⟨W.heap.size, i, none⟩) (by show W.heap.size < W.heap.size + 1; omega)
  refine ⟨(c 0).trans ?_, (c 1).trans ?_, (c 2).trans ?_, (c 3).trans ?_, (c 4).trans ?_⟩ <;> (rw [Lib.cell_of_heap h]; rfl)
end
end Go.Proofs.YtcojkmcnigppbaaGreatDoor
end
section
namespace Go.Proofs
open Go.Shelf
def Tryz.lays169_ren : Go.Shelf.Ren := ⟨fun | 169 => 49 | n => n, fun | 70 => 72 | 9 => 9 | 0 => 0 | 72 => 74 | 37 => 22 | 127 => 115 | 3 => 3 | 5 => 5 | n => n, fun | n => n⟩
theorem Tryz.lays169 : Go.Proofs.Lays.n169 Tryz.prog Tryz.lays169_ren := {
  mixed := by kernel_rfl
  f169 := Tryz.func49.trans (congrArg some (by kernel_rfl))
  t0 := Tryz.underlying0
  a0 := Tryz.isAgg0
  z0 := Tryz.sizeOf0
  v0 := Tryz.zeroValue0
  t3 := Tryz.underlying3
  a3 := Tryz.isAgg3
  z3 := Tryz.sizeOf3
  v3 := Tryz.zeroValue3
  t9 := Tryz.underlying9
  a9 := Tryz.isAgg9
  z9 := Tryz.sizeOf9
  v9 := Tryz.zeroValue9
  t37 := Tryz.underlying22
  a37 := Tryz.isAgg22
  z37 := Tryz.sizeOf22
  v37 := Tryz.zeroValue22
  t70 := Tryz.underlying72
  a70 := Tryz.isAgg72
  z70 := Tryz.sizeOf72
  v70 := Tryz.zeroValue72
  t72 := Tryz.underlying74
  a72 := Tryz.isAgg74
  z72 := Tryz.sizeOf74
  v72 := Tryz.zeroValue74
  t127 := Tryz.underlying115
  a127 := Tryz.isAgg115
  z127 := Tryz.sizeOf115
  v127 := Tryz.zeroValue115 }
theorem Tryz.Builder_Extra_169 : Builder.Extra Tryz.prog Tryz.lays169_ren := {
  sizeBuilder := by kernel_rfl
  liesBuilder := by kernel_rfl
  t5 := Tryz.underlying5
  a5 := Tryz.isAgg5
  z5 := Tryz.sizeOf5
  v5 := Tryz.zeroValue5
  infoByte := by kernel_rfl
  cellsByte := by kernel_rfl
  sizeByte := by kernel_rfl
  neB5 := by decide }
def Tryz.lays162_ren : Go.Shelf.Ren := ⟨fun | 162 => 89 | 232 => 111 | 227 => 112 | 234 => 113 | 236 => 114 | 228 => 131 | 271 => 132 | 151 => 133 | 120 => 142 | 197 => 143 | 152 => 144 | 260 => 155 | 137 => 88 | 119 => 156 | 224 => 157 | 225 => 158 | 217 => 110 | 266 => 130 | n => n, fun | 9 => 9 | 4 => 4 | 3 => 3 | 5 => 5 | 117 => 136 | 116 => 135 | 0 => 0 | 124 => 139 | 21 => 21 | 105 => 162 | 46 => 77 | 119 => 178 | 139 => 213 | 138 => 212 | n => n, fun | 3 => 1 | 4 => 2 | n => n⟩
theorem Tryz.lays162 : Go.Proofs.Lays.n162 Tryz.prog Tryz.lays162_ren := {
  mixed := by kernel_rfl
  f119 := Tryz.func156.trans (congrArg some (by kernel_rfl))
  f120 := Tryz.func142.trans (congrArg some (by kernel_rfl))
  f137 := Tryz.func88.trans (congrArg some (by kernel_rfl))
  f151 := Tryz.func133.trans (congrArg some (by kernel_rfl))
  f152 := Tryz.func144.trans (congrArg some (by kernel_rfl))
  f162 := Tryz.func89.trans (congrArg some (by kernel_rfl))
  f197 := Tryz.func143.trans (congrArg some (by kernel_rfl))
  f217 := Tryz.func110.trans (congrArg some (by kernel_rfl))
  f224 := Tryz.func157.trans (congrArg some (by kernel_rfl))
  f225 := Tryz.func158.trans (congrArg some (by kernel_rfl))
  f227 := Tryz.func112.trans (congrArg some (by kernel_rfl))
  f228 := Tryz.func131.trans (congrArg some (by kernel_rfl))
  f232 := Tryz.func111.trans (congrArg some (by kernel_rfl))
  f234 := Tryz.func113.trans (congrArg some (by kernel_rfl))
  f236 := Tryz.func114.trans (congrArg some (by kernel_rfl))
  f260 := Tryz.func155.trans (congrArg some (by kernel_rfl))
  f266 := Tryz.func130.trans (congrArg some (by kernel_rfl))
  f271 := Tryz.func132.trans (congrArg some (by kernel_rfl))
  t0 := Tryz.underlying0
  a0 := Tryz.isAgg0
  z0 := Tryz.sizeOf0
  v0 := Tryz.zeroValue0
  t3 := Tryz.underlying3
  a3 := Tryz.isAgg3
  z3 := Tryz.sizeOf3
  v3 := Tryz.zeroValue3
  t4 := Tryz.underlying4
  a4 := Tryz.isAgg4
  z4 := Tryz.sizeOf4
  v4 := Tryz.zeroValue4
  t5 := Tryz.underlying5
  a5 := Tryz.isAgg5
  z5 := Tryz.sizeOf5
  v5 := Tryz.zeroValue5
  t9 := Tryz.underlying9
  a9 := Tryz.isAgg9
  z9 := Tryz.sizeOf9
  v9 := Tryz.zeroValue9
  t21 := Tryz.underlying21
  a21 := Tryz.isAgg21
  z21 := Tryz.sizeOf21
  v21 := Tryz.zeroValue21
  t46 := Tryz.underlying77
  a46 := Tryz.isAgg77
  z46 := Tryz.sizeOf77
  v46 := Tryz.zeroValue77
  t105 := Tryz.underlying162
  a105 := Tryz.isAgg162
  z105 := Tryz.sizeOf162
  v105 := Tryz.zeroValue162
  t116 := Tryz.underlying135
  a116 := Tryz.isAgg135
  z116 := Tryz.sizeOf135
  t117 := Tryz.underlying136
  a117 := Tryz.isAgg136
  z117 := Tryz.sizeOf136
  v117 := Tryz.zeroValue136
  t119 := Tryz.underlying178
  a119 := Tryz.isAgg178
  z119 := Tryz.sizeOf178
  t124 := Tryz.underlying139
  a124 := Tryz.isAgg139
  z124 := Tryz.sizeOf139
  v124 := Tryz.zeroValue139
  t138 := Tryz.underlying212
  a138 := Tryz.isAgg212
  z138 := Tryz.sizeOf212
  v138 := Tryz.zeroValue212
  t139 := Tryz.underlying213
  a139 := Tryz.isAgg213
  z139 := Tryz.sizeOf213
  v139 := Tryz.zeroValue213
  g3 := by kernel_rfl
  g4 := by kernel_rfl }
open Go.RowKit in
theorem Tryz.strings_TrimRight_one (s : ByteArray) (c : UInt8) (hc : c.toNat < 128) (w : World) (hs : s.size ≤ 9223372036854775807) :
    Calls Tryz.prog 89 #[.string s, .string ⟨#[c]⟩] w fun e w' => e = .returned (.string ⟨(Lib.trimRightB s.data.toList c).toArray⟩) ∧ w' = w := Any.strings_TrimRight_one Tryz.lays162 s c hc w hs
def Tryz.lays137_ren : Go.Shelf.Ren := ⟨fun | 137 => 88 | 217 => 110 | 266 => 130 | n => n, fun | 9 => 9 | 5 => 5 | 3 => 3 | n => n, fun | n => n⟩
theorem Tryz.lays137 : Go.Proofs.Lays.n137 Tryz.prog Tryz.lays137_ren := {
  mixed := by kernel_rfl
  f137 := Tryz.func88.trans (congrArg some (by kernel_rfl))
  f217 := Tryz.func110.trans (congrArg some (by kernel_rfl))
  f266 := Tryz.func130.trans (congrArg some (by kernel_rfl))
  t3 := Tryz.underlying3
  a3 := Tryz.isAgg3
  z3 := Tryz.sizeOf3
  v3 := Tryz.zeroValue3
  t5 := Tryz.underlying5
  a5 := Tryz.isAgg5
  z5 := Tryz.sizeOf5
  v5 := Tryz.zeroValue5
  t9 := Tryz.underlying9
  a9 := Tryz.isAgg9
  z9 := Tryz.sizeOf9
  v9 := Tryz.zeroValue9 }
open Go.RowKit in
theorem Tryz.strings_IndexByte (s : ByteArray) (c : Int) (w : World) :
    Calls Tryz.prog 88 #[.string s, .int .u8 c] w fun e w' => e = .returned (.int .i64 (Lib.indexByte s.data.toList c.toNat.toUInt8)) ∧ w' = w := Any.strings_IndexByte Tryz.lays137 s c w
open Go.RowKit in
theorem Tryz.Builder_String_any_k (B b : Nat) (l : List UInt8) (w : World) (h : Lib.IsBuilderF 74 5 B b (Lib.byteCells l) w) (hBw : B ≤ w.heap.size) :
    Calls Tryz.prog 49 #[.pointer (some ⟨b, 0, none⟩)] w fun e w' => e = .returned (.string ⟨l.toArray⟩) ∧ (Lib.IsBuilderF 74 5 B b (Lib.byteCells l) w' ∧ Below B w w' ∧ Lib.OthersKept 5 (some b) w w') := Any.Builder_String_any_k Tryz.lays169 Tryz.Builder_Extra_169 B b l w h hBw
def Tryz.laysM171_ren : Go.Shelf.Ren := ⟨fun | 171 => 124 | 243 => 139 | 246 => 152 | 283 => 165 | 284 => 166 | 285 => 167 | 286 => 168 | 129 => 180 | 317 => 179 | 318 => 181 | 319 => 182 | 320 => 183 | 337 => 192 | 338 => 193 | n => n, fun | 3 => 3 | 9 => 9 | 2 => 2 | 4 => 4 | 171 => 205 | 0 => 0 | 53 => 206 | 37 => 22 | 5 => 5 | 173 => 209 | 212 => 226 | 51 => 76 | 20 => 20 | 213 => 227 | 46 => 77 | 232 => 233 | 233 => 234 | n => n, fun | 17 => 3 | 18 => 4 | 19 => 5 | n => n⟩
theorem Tryz.laysM171 : Go.Proofs.LaysM.n171 Tryz.prog Tryz.laysM171_ren := {
  mixed := by kernel_rfl
  f129 := Tryz.func180.trans (congrArg some (by kernel_rfl))
  f171 := Tryz.func124.trans (congrArg some (by kernel_rfl))
  f243 := Tryz.func139.trans (congrArg some (by kernel_rfl))
  f246 := Tryz.func152.trans (congrArg some (by kernel_rfl))
  f283 := Tryz.func165.trans (congrArg some (by kernel_rfl))
  f284 := Tryz.func166.trans (congrArg some (by kernel_rfl))
  f285 := Tryz.func167.trans (congrArg some (by kernel_rfl))
  f286 := Tryz.func168.trans (congrArg some (by kernel_rfl))
  f317 := Tryz.func179.trans (congrArg some (by kernel_rfl))
  f318 := Tryz.func181.trans (congrArg some (by kernel_rfl))
  f319 := Tryz.func182.trans (congrArg some (by kernel_rfl))
  f320 := Tryz.func183.trans (congrArg some (by kernel_rfl))
  f337 := Tryz.func192.trans (congrArg some (by kernel_rfl))
  f338 := Tryz.func193.trans (congrArg some (by kernel_rfl))
  t0 := Tryz.underlying0
  a0 := Tryz.isAgg0
  z0 := Tryz.sizeOf0
  v0 := Tryz.zeroValue0
  t2 := Tryz.underlying2
  a2 := Tryz.isAgg2
  z2 := Tryz.sizeOf2
  v2 := Tryz.zeroValue2
  t3 := Tryz.underlying3
  a3 := Tryz.isAgg3
  z3 := Tryz.sizeOf3
  v3 := Tryz.zeroValue3
  t4 := Tryz.underlying4
  a4 := Tryz.isAgg4
  z4 := Tryz.sizeOf4
  v4 := Tryz.zeroValue4
  t5 := Tryz.underlying5
  a5 := Tryz.isAgg5
  z5 := Tryz.sizeOf5
  v5 := Tryz.zeroValue5
  t9 := Tryz.underlying9
  a9 := Tryz.isAgg9
  z9 := Tryz.sizeOf9
  v9 := Tryz.zeroValue9
  t20 := Tryz.underlying20
  a20 := Tryz.isAgg20
  z20 := Tryz.sizeOf20
  v20 := Tryz.zeroValue20
  t37 := Tryz.underlying22
  a37 := Tryz.isAgg22
  z37 := Tryz.sizeOf22
  v37 := Tryz.zeroValue22
  t46 := Tryz.underlying77
  a46 := Tryz.isAgg77
  z46 := Tryz.sizeOf77
  v46 := Tryz.zeroValue77
  t51 := Tryz.underlying76
  a51 := Tryz.isAgg76
  z51 := Tryz.sizeOf76
  v51 := Tryz.zeroValue76
  t53 := Tryz.underlying206
  a53 := Tryz.isAgg206
  z53 := Tryz.sizeOf206
  v53 := Tryz.zeroValue206
  t171 := Tryz.underlying205
  a171 := Tryz.isAgg205
  z171 := Tryz.sizeOf205
  v171 := Tryz.zeroValue205
  t173 := Tryz.underlying209
  a173 := Tryz.isAgg209
  z173 := Tryz.sizeOf209
  v173 := Tryz.zeroValue209
  t212 := Tryz.underlying226
  a212 := Tryz.isAgg226
  z212 := Tryz.sizeOf226
  v212 := Tryz.zeroValue226
  t213 := Tryz.underlying227
  a213 := Tryz.isAgg227
  z213 := Tryz.sizeOf227
  t232 := Tryz.underlying233
  a232 := Tryz.isAgg233
  z232 := Tryz.sizeOf233
  v232 := Tryz.zeroValue233
  t233 := Tryz.underlying234
  a233 := Tryz.isAgg234
  z233 := Tryz.sizeOf234
  v233 := Tryz.zeroValue234
  g17 := by kernel_rfl
  g18 := by kernel_rfl
  g19 := by kernel_rfl
  i0 := by kernel_rfl
  i2 := by kernel_rfl
  i3 := by kernel_rfl
  i4 := by kernel_rfl
  i5 := by kernel_rfl
  i9 := by kernel_rfl
  i20 := by kernel_rfl
  i37 := by kernel_rfl
  i46 := by kernel_rfl
  i51 := by kernel_rfl
  i53 := by kernel_rfl
  i171 := by kernel_rfl
  i173 := by kernel_rfl
  i212 := by kernel_rfl
  i232 := by kernel_rfl
  i233 := by kernel_rfl
  m17 := by kernel_rfl
  m18 := by kernel_rfl
  m19 := by kernel_rfl }
open Go.RowKit Go.Sort Go.Lib in
theorem Tryz.strconv_Itoa (n : Int) (h0 : -9223372036854775808 ≤ n) (h1 : n ≤ 9223372036854775807) (w : World) (htab : Lib.TabIs Tryz.prog w "internal/strconv.uint64pow10" .u64 Lib.pow10Tab) :
    Calls Tryz.prog 124 #[.int .i64 n] w fun e w' => e = .returned (.string ⟨(Lib.itoa n).toArray⟩) ∧ ∃ k os, w' = grow (w.drewN k) os := Any.strconv_Itoa Tryz.laysM171 n h0 h1 w htab
def Tryz.laysSlK4_ren : Go.Shelf.Ren := ⟨fun | 4 => 108 | n => n, fun | 22 => 22 | 4 => 4 | 5 => 5 | n => n, fun | n => n⟩
theorem Tryz.laysSlK4 : Go.Proofs.SlLaysK.n4 Tryz.prog Tryz.laysSlK4_ren := {
  mixed := by kernel_rfl
  f4 := Tryz.func108.trans (congrArg some (by kernel_rfl))
  t4 := Tryz.underlying4
  a4 := Tryz.isAgg4
  z4 := Tryz.sizeOf4
  v4 := Tryz.zeroValue4
  t22 := Tryz.underlying22
  a22 := Tryz.isAgg22
  z22 := Tryz.sizeOf22
  v22 := Tryz.zeroValue22
  t5 := Tryz.underlying5
  i5 := by kernel_rfl }
open Go.RowKit Go.Lib in
theorem Tryz.bytes_Clone_at (a : Addr) (n c : Nat) (xs : List Int) (w : World) (hx : xs.length = n) (hbig : n ≤ 140737488355328) (hc : ∀ i, i < n → w.cell? (a.add i) = some (.int .u8 (xs.getD i 0))) :
    Calls Tryz.prog 108 #[.slice (some a) n c] w fun e w' => ∃ v', e = .returned v' ∧ w'.ownsRow w.heap.size 5 1 v' n (xs.map (Value.int .u8)) ∧ v' ≠ .slice none 0 0 ∧ Below w.heap.size w w' := Any.bytes_Clone_at Tryz.laysSlK4 a n c xs w hx hbig hc
open Go.RowKit Go.Lib in
theorem Tryz.bytes_Clone_nil (n c : Nat) (w : World) :
    Calls Tryz.prog 108 #[.slice none n c] w fun e w' => e = .returned (.slice none 0 0) ∧ w' = w := Any.bytes_Clone_nil Tryz.laysSlK4 n c w
end Go.Proofs
end
section
namespace Go.Proofs.YtcojkmcnigppbaaGreatDoor
open Go Go.Proofs Go.RowKit
theorem HoldsBytes.snoc {g S : Nat} {L : List UInt8} {w : World} (h : HoldsBytes g S L w) (hS : L.length < S) (x : UInt8) : HoldsBytes g S (L ++ [x]) (w.setCell ⟨g, L.length, none⟩ (.int .u8 x.toNat)) := by
  obtain ⟨cs, h1, h2, h3, h4⟩ := h
  refine ⟨cs.setIfInBounds L.length (.int .u8 x.toNat), by simpa using h1, by simp; omega, Joins.block_setCell h3 _, ?_⟩
  intro i hi
  have hi' : i ≤ L.length := by simp at hi; omega
  rw [Array.getElem?_setIfInBounds]
  by_cases e : L.length = i
  · subst e
    rw [if_pos rfl, if_pos (by omega)]
    simp
  · rw [if_neg e, List.getElem_append_left (by omega)]
    exact h4 i (by omega)
theorem HoldsBytes.snocs {g S : Nat} : ∀ (M L : List UInt8) (w : World), HoldsBytes g S L w → L.length + M.length ≤ S → HoldsBytes g S (L ++ M) (w.setCells g L.length (Lib.byteCells M))
  | [], L, w, h, _ => by rw [List.append_nil]; exact h
  | x :: M, L, w, h, hS => by
    have h1 := h.snoc (by simp at hS; omega) x
    have h2 := HoldsBytes.snocs M (L ++ [x]) _ h1 (by simp at hS ⊢; omega)
    rw [List.append_assoc, List.length_append] at h2
    exact h2
def Held (B : Nat) (w0 w : World) (v : Value) (L : List UInt8) : Prop :=
  Below B w0 w ∧ B ≤ w.heap.size ∧ ((∃ g S cap, v = .slice (some ⟨g, 0, none⟩) L.length cap ∧ L.length ≤ cap ∧ cap ≤ S ∧ B ≤ g ∧ HoldsBytes g S L w) ∨ w.ownsRow B 5 1 v L.length (Lib.byteCells L))
theorem Held.reads {B : Nat} {w0 w : World} {v : Value} {L : List UInt8} (h : Held B w0 w v L) : ∃ A c, v = .slice A L.length c ∧ L.length ≤ c ∧ Reads w w.heap.size 1 A L.length (Lib.byteCells L) := by
  rcases h.2.2 with ⟨g, S, cap, rfl, hc, hS, hB, hh⟩ | hown
  · exact ⟨_, _, rfl, hc, hh.reads⟩
  · rcases hown.2 with ⟨h1, h2⟩ | ⟨g', cap', cur, hv, _, _, hc', _⟩
    · subst h1
      rw [h2] at hown ⊢
      exact ⟨none, 0, rfl, Nat.le_refl _, by have := Reads.of_own hown; exact this⟩
    · subst hv
      exact ⟨_, _, rfl, hc', Reads.of_own hown⟩
theorem Held.more {B : Nat} {w0 w w' : World} {v : Value} {L : List UInt8} (h : Held B w0 w v L) (hb : Below w.heap.size w w') : Held B w0 w' v L := by
  refine ⟨h.1.trans (hb.mono h.2.1), by have := hb.size; have := h.2.1; omega, ?_⟩
  rcases h.2.2 with ⟨g, S, cap, rfl, hc, hS, hB, hh⟩ | hown
  · exact .inl ⟨g, S, cap, rfl, hc, hS, hB, hh.below hb hh.lt⟩
  · right
    refine ⟨hown.1, ?_⟩
    rcases hown.2 with hn | ⟨g', cap', cur, hv, h1, h2, h3⟩
    · exact .inl hn
    · exact .inr ⟨g', cap', cur, hv, h1, (hb.block g' (by rcases Nat.lt_or_ge g' w.heap.size with h' | h'; exact h'; simp [Array.getElem?_eq_none h'] at h2)).trans h2, h3⟩
def Others (w w' : World) : Prop := ∀ (k : Nat) (cs : Array Value) (T : TypeId) (fr : Nat × Nat), w.heap[k]? = some (Obj.cells cs T fr) → T ≠ 5 → w'.heap[k]? = some (Obj.cells cs T fr)
theorem Others.refl (w : World) : Others w w := fun _ _ _ _ h _ => h
theorem Others.trans {a b c : World} (h : Others a b) (k : Others b c) : Others a c := fun i cs T fr g hT => k i cs T fr (h i cs T fr g hT) hT
theorem Others.of_below {w w' : World} (h : Below w.heap.size w w') : Others w w' := fun k cs T fr g _ => (h.block k (by
  rcases Nat.lt_or_ge k w.heap.size with h' | h'
  · exact h'
  · rw [Array.getElem?_eq_none h'] at g; cases g)).trans g
theorem Others.grown {w w' : World} {v : Value} {B n : Nat} {xs : List Value} (hown : w.ownsRow B 5 1 v n xs) (hg : w.grownBy w' v.ownBlock) : Others w w' := by
  intro k cs T fr h hT
  have hk : k < w.heap.size := by
    rcases Nat.lt_or_ge k w.heap.size with h' | h'
    · exact h'
    · rw [Array.getElem?_eq_none h'] at h; cases h
  rw [hg.block k hk]
  · exact h
  · intro hkk
    rcases hown.2 with ⟨rfl, _⟩ | ⟨g', cap', cur, rfl, _, h2, _⟩
    · simp [Value.ownBlock] at hkk
    · have : k = g' := by simpa [Value.ownBlock] using hkk
      subst this
      rw [h2] at h
      injection h with h
      injection h with _ h
      exact hT h.symm
theorem run_append_held_nil {P : Program} {w : World} {t ty e : TypeId} {i : TypeInfo} (ht : P.underlying t = some (.slice e)) (hi : P.info? e = some i) (hi1 : i.size = 1) (g n cap c : Nat) (hc : n ≤ cap) :
    (Builtin.append_ #[t, t] ty #[.slice (some ⟨g, 0, none⟩) n cap, .slice none 0 c]).run P w = .ok (.slice (some ⟨g, 0, none⟩) n cap) w := by
  simp [Builtin.append_, run_underlying ht, sizeOf, typeInfo, hi, Builtin.lenOf, Builtin.firstCells, hc, storeCells]
theorem owns_more {w : World} {B B' : Nat} {v : Value} {n : Nat} {xs : List Value} (h : w.ownsRow B 5 1 v n xs) (hB : B' ≤ B) : w.ownsRow B' 5 1 v n xs :=
  ⟨h.1, h.2.elim Or.inl (fun ⟨g, cap, cur, hv, hg, r⟩ => Or.inr ⟨g, cap, cur, hv, Nat.le_trans hB hg, r⟩)⟩
set_option maxHeartbeats 2000000 in
set_option maxRecDepth 100000 in
theorem wpList_append_held (w : World) {ops : Array Oper} {rest : List Oper} {o : Oper} {a : Act} {Q : Exit → Act → World → Prop}
    (hg : o.guard = none) (s x : Operand) (hop : o.op = Op.call { callee := Callee.builtin Builtin.append, args := #[s, x], argTypes := #[22, 22] })
    (B : Nat) (w0 : World) (v : Value) (L : List UInt8) (hH : Held B w0 w v L) (hs : a.eval s = v)
    (B' : Nat) (A : Option Addr) (m c : Nat) (M : List UInt8) (hx : a.eval x = .slice A m c) (hr : Reads w B' 1 A m (Lib.byteCells M)) (hbd : L.length + m ≤ 140737488355328)
    (hK : ∀ v' w', Held B w0 w' v' (L ++ M) → Others w w' → wpList Tryz.prog ops Q rest (a.put o.dst v') w') :
    wpList Tryz.prog ops Q (o :: rest) a w := by
  obtain ⟨i0, hi, hz0, hz1, hz2⟩ := info_parts infoByte
  have hm : M.length = m := by have := hr.1; simpa [Lib.byteCells_length] using this
  have hone : ∀ u ∈ Lib.byteCells M, u.oneCell' = true := fun u hu => by
    simp [Lib.byteCells] at hu
    obtain ⟨b, _, rfl⟩ := hu
    rfl
  have e : Lib.byteCells L ++ Lib.byteCells M = Lib.byteCells (L ++ M) := by simp [Lib.byteCells]
  have hlen : (L ++ M).length = L.length + m := by simp [hm]
  obtain ⟨hbel, hBs, hv⟩ := hH
  rcases hv with ⟨g, S, cap, rfl, hcap, hS, hBg, hB⟩ | hown
  · rcases A with _ | ad
    · have h0 : m = 0 := by
        rcases Nat.eq_zero_or_pos m with h | h
        · exact h
        · obtain ⟨_, h, _⟩ := hr.2 h; cases h
      subst h0
      have hM : M = [] := List.eq_nil_of_length_eq_zero hm
      subst hM
      refine wpList_plain hg fun K hK' => ?_
      have hrun := run_append_held_nil (P := Tryz.prog) (w := w) (t := 22) (ty := o.type) Tryz.underlying22 hi hz1 g L.length cap c hcap
      unfold Oper.wp execOp
      simp only [hop, resolve, invoke, builtin, Sem.run_bind, Sem.run_pure, Result.andThen_ok, List.map_toArray, List.map_cons, List.map_nil, hs, hx, hrun]
      refine hK' _ _ (hK _ _ ⟨hbel, hBs, .inl ⟨g, S, cap, by simp, by simpa using hcap, hS, hBg, by simpa using hB⟩⟩ (Others.refl _))
    · have hnews : ∀ j u, (Lib.byteCells M)[j]? = some u → w.cell? (ad.add j) = some u := by
        intro j u hu
        have hj : j < M.length := by have := (List.getElem?_eq_some_iff.1 hu).1; simpa [Lib.byteCells_length] using this
        obtain ⟨ad', h1, _, h3⟩ := hr.2 (by omega)
        injection h1 with h1
        subst h1
        exact h3 j u hu
      refine wpList_append_arg w hg s x 22 hop 5 i0 (.int .u8 0) 1 1 Tryz.underlying22 hi hz0 hz1 hz2 rfl (by decide) g 0 L.length cap (Lib.byteCells L) hs (by simp [Lib.byteCells_length]) ?_
        ad m c (Lib.byteCells M) hx hr.1 hnews hone ?_ (by unfold maxLen; omega) (by omega) ?_ ?_
      · intro j u hj
        rw [Nat.zero_add]
        have hjl : j < L.length := by
          have := (List.getElem?_eq_some_iff.1 hj).1
          simpa [Lib.byteCells_length] using this
        simp [Lib.byteCells, List.getElem?_map, List.getElem?_eq_getElem hjl] at hj
        rw [hB.cell hjl, hj]
      · intro hroom j hj
        have hj : j < m := by rw [Lib.byteCells_length] at hj; omega
        obtain ⟨cs, h1, h2, h3, h4⟩ := hB
        refine ⟨?_, ?_⟩
        · rw [Lib.cell_of_heap h3]
          simp; omega
        · simp [World.frozen?, h3]; omega
      · intro hroom
        have hh := HoldsBytes.snocs M L w hB (by omega)
        have hlt := hB.lt
        rw [Nat.zero_add, Nat.mul_one]
        refine hK _ _ ⟨Go.below_setCells hBg _ _ _ hbel, by rw [Sort.size_setCells]; exact hBs, .inl ⟨g, S, cap, by rw [hlen], by rw [hlen]; exact hroom, hS, hBg, hh⟩⟩ (fun k cs T fr h hT => ?_)
        have hk : k < w.heap.size := by
          rcases Nat.lt_or_ge k w.heap.size with h' | h'
          · exact h'
          · rw [Array.getElem?_eq_none h'] at h; cases h
        rw [World.heap_setCells_other _ _ _ _ hk]
        · exact h
        · rintro rfl
          obtain ⟨cs', h1, h2, h3, h4⟩ := hB
          rw [h3] at h
          injection h with h
          injection h with _ h
          exact hT h.symm
      · intro hfull v' w' hown hgrow
        rw [e] at hown
        refine hK _ _ ⟨hbel.grown hgrow hBs (fun k hk => by cases hk), by have := hgrow.size; omega, .inr ?_⟩ (fun k cs T fr h hT => ?_)
        · rw [hlen]; exact owns_more hown hBs
        · have hk : k < w.heap.size := by
            rcases Nat.lt_or_ge k w.heap.size with h' | h'
            · exact h'
            · rw [Array.getElem?_eq_none h'] at h; cases h
          rw [hgrow.block k hk (by simp)]; exact h
  · refine wpList_append_any w hg s x 22 hop B 5 i0 (.int .u8 0) 1 1 Tryz.underlying22 hi hz0 hz1 hz2 rfl (by decide) v L.length (Lib.byteCells L) hs hown B' A m c (Lib.byteCells M) hx hr hone (by unfold maxLen; omega) (by omega) hBs ?_
    intro v' w' hown' hgrow _
    rw [e] at hown'
    exact hK _ _ ⟨hbel.grown hgrow hBs (fun k hk => (hown.lt k hk).1), by have := hgrow.size; omega, .inr (by rw [hlen]; exact hown')⟩ (Others.grown hown hgrow)
theorem Held.new {w0 w1 : World} (hb : Below w0.heap.size w0 w1) (s : ByteArray) :
    Held w0.heap.size w0 (Lib.bytesWorld w1 5 s) (.slice (some ⟨w1.heap.size, 0, none⟩) s.size (grownCap w1 s.size 0 5)) s.data.toList := by
  have hsz : s.data.toList.length = s.size := by show s.data.toList.length = s.data.size; simp
  have hB := HoldsBytes.new w1 s
  have hs := hb.size
  refine ⟨hb.trans ((bytesWorld_below w1 s).mono hs), by have := hB.lt; omega, .inl ⟨w1.heap.size, _, _, by rw [hsz], ?_, bytesCells_cap w1 s, hs, hB⟩⟩
  rw [hsz]; exact grownCap_ge w1 _ _ _
end Go.Proofs.YtcojkmcnigppbaaGreatDoor
end
section
namespace Go.Proofs.YtcojkmcnigppbaaGreatDoor
open Go Go.Proofs Go.RowKit Oct
theorem cat_mk (x y : List UInt8) : (⟨x.toArray⟩ : ByteArray) ++ (⟨y.toArray⟩ : ByteArray) = ⟨(x ++ y).toArray⟩ := by
  apply ByteArray.ext
  simp
theorem below_drew1 (w : World) : Below w.heap.size w w.drew := (Below.refl _ _).drew
theorem run_one {W : World} {g : Nat} {y : Int} (h : W.cell? ⟨g, 0, none⟩ = some (.int .u8 y)) (h0 : 0 ≤ y) (h1 : y < 256) : (convert 22 9 (.slice (some ⟨g, 0, none⟩) 1 1)).run Tryz.prog W = .ok (.string ⟨#[UInt8.ofNat y.toNat]⟩) W := by
  have e : (((UInt8.ofNat y.toNat).toNat : Nat) : Int) = y := by simp; omega
  have hr : Reads W (g + 1) 1 (some ⟨g, 0, none⟩) 1 (Lib.byteCells [UInt8.ofNat y.toNat]) := by
    refine ⟨rfl, fun _ => ⟨_, rfl, by simp, fun j u hj => ?_⟩⟩
    match j, hj with
    | 0, hj =>
      have hj' : Value.int .u8 ((UInt8.ofNat y.toNat).toNat : Int) = u := by simpa [Lib.byteCells] using hj
      subst hj'
      show W.cell? ⟨g, 0, none⟩ = _
      rw [h, e]
  exact run_back hr
set_option maxHeartbeats 1000000 in
set_option maxRecDepth 100000 in
theorem dec_small (n : Int) (w : World) (h : n < 10) (hl : -9223372036854775808 ≤ n) : Calls Tryz.prog 60 #[.int .i64 n] w fun e w' => e = .returned (.string ⟨(Lib.decDigits n.toNat).toArray⟩) ∧ Below w.heap.size w w' := by
  have hd : Lib.decDigits n.toNat = [UInt8.ofNat ((48 : Int) + max n 0).toNat] := by
    rw [Lib.decDigits, dif_pos (by omega)]
    rw [show ((48 : Int) + max n 0).toNat = 48 + n.toNat from by omega]
  have HD := hid hd
  have h1 : 0 ≤ (48 : Int) + max n 0 := by omega
  have h2 : (48 : Int) + max n 0 < 256 := by omega
  have h3 : 0 ≤ max n 0 := by omega
  have h4 : max n 0 < 10 := by omega
  have hc := run_one (W := w.alloc (.cells #[.int .u8 (48 + max n 0)] 5)) (g := w.heap.size) (y := 48 + max n 0) (by rw [Lib.cell_of_heap (heap_alloc_new w _)]; rfl) h1 h2
  clear hd
  go_enter Tryz.func60, Tryz.ntmps60
  go_wp2
  go_ret
  exact ⟨by rw [HD.out]; rfl, (Below.refl _ _).alloc (Nat.le_refl _) _⟩
set_option maxHeartbeats 2000000 in
set_option maxRecDepth 100000 in
theorem dec_any : ∀ (u : Nat) (w : World), u ≤ 9223372036854775807 → Calls Tryz.prog 60 #[.int .i64 u] w fun e w' => e = .returned (.string ⟨(Lib.decDigits u).toArray⟩) ∧ Below w.heap.size w w' := by
  intro u
  induction u using Nat.strongRecOn with
  | ind u ih =>
    intro w hu
    by_cases h : u < 10
    · exact dec_small u w (by omega) (by omega)
    · obtain ⟨d, hdv⟩ : ∃ d, d = u / 10 := ⟨_, rfl⟩
      obtain ⟨r, hrv⟩ : ∃ r, r = u % 10 := ⟨_, rfl⟩
      have ih' := fun W => ih d (by omega) W (by omega)
      have hd : Lib.decDigits u = Lib.decDigits d ++ [UInt8.ofNat ((48 : Int) + (r : Int)).toNat] := by
        rw [Lib.decDigits, dif_neg h, hdv, hrv]
        congr 3
      have hlen := dec_length 19 d (by omega)
      generalize Lib.decDigits d = D at *
      have e1 : IntKind.i64.wrap ((u : Int) / 10) = (d : Int) := by rw [IntWalk.i64_in _ (by omega)]; omega
      have e2 : (u : Int).tmod 10 = (r : Int) := by rw [Int.tmod_eq_emod_of_nonneg (by omega)]; omega
      have hr10 : r < 10 := by omega
      have e3 : IntKind.u8.wrap (r : Int) = (r : Int) := by rw [IntKind.wrap_u8']; omega
      have e4 : IntKind.u8.wrap (48 + (r : Int)) = 48 + (r : Int) := by rw [IntKind.wrap_u8']; omega
      have k1 : (0 : Int) ≤ 48 + (r : Int) := by omega
      have k2 : (48 : Int) + (r : Int) < 256 := by omega
      have hrun := fun (W : World) (g : Nat) (hc : W.cell? ⟨g, 0, none⟩ = some (.int .u8 (48 + (r : Int)))) => run_one hc k1 k2
      have HD := hid hd
      have IH := hid ih'
      have HDV := hid hdv; have HRV := hid hrv
      have hD : D.length ≤ 20 := hlen
      clear hd ih' ih hdv hrv hlen
      go_enter Tryz.func60, Tryz.ntmps60
      go_wp2_with fail
      have hz : (48 : UInt8) + UInt8.ofNat r = UInt8.ofNat ((48 : Int) + (r : Int)).toNat := by
        rw [show ((48 : Int) + (r : Int)).toNat = 48 + r from by omega]
        simp
      have HZ := hid hz
      clear hz
      go_region_with (go_at_call 60; refine (IH.out _).mono ?_; rintro e w1 ⟨rfl, hb1⟩; have hcl := hb1.cell (p := ⟨w.heap.size, 0, none⟩))
      all_goals
        go_wp2
        go_ret
        refine ⟨?_, ?_⟩
        · rw [HD.out, ← cat_mk]
          exact congrArg (fun z : UInt8 => Ending.returned (.string ((⟨D.toArray⟩ : ByteArray) ++ (⟨#[z]⟩ : ByteArray)))) HZ.out
        · first
            | exact ((below_drew1 w).trans hb1).alloc (hb1.size) _
            | exact (((Below.refl _ _).alloc (Nat.le_refl _) _).drew).trans (hb1.mono (by simp))
            | exact (((Below.refl _ _).drew).alloc (Nat.le_refl _) _).trans (hb1.mono (by simp))
end Go.Proofs.YtcojkmcnigppbaaGreatDoor
end
section
namespace Go.Proofs.YtcojkmcnigppbaaGreatDoor
open Go Go.Proofs Go.RowKit Sx
theorem wrap_add (a b : Int) : wrap64 (wrap64 a + wrap64 b) = wrap64 (a + b) := by
  unfold wrap64; omega
theorem below_new (w : World) (o : Obj) : Below w.heap.size w (w.alloc o) := (Below.refl _ _).alloc (Nat.le_refl _) _
theorem below_box {w wr : World} {o : Obj} (h : Below (w.heap.size + 1) (w.alloc o) wr) : Below w.heap.size w wr := (below_new w o).trans (h.mono (by omega))
theorem ret_i64 {a b : Int} (h : a = b) : Ending.returned (.int .i64 a) = .returned (.int .i64 b) := by rw [h]
theorem val_i64 {a b : Int} (h : a = b) : Value.int .i64 a = .int .i64 b := by rw [h]
set_option maxHeartbeats 1000000 in
set_option maxRecDepth 100000 in
theorem nodes_any (t : SX) : ∀ (w : World) (S : Nat → Prop) (cs : List Value), SIn w S t cs →
    Calls Tryz.prog 23 #[.agg cs.toArray] w fun e w' => e = .returned (.int .i64 (wrap64 (nodes t))) ∧ Below w.heap.size w w' := by
  induction t using SX.ind with
  | H l h hi da ks ih =>
    intro w S cs hs
    obtain ⟨_, _, _, _, _, A1, n1, c1, A2, n2, c2, A3, n3, c3, e, rfl⟩ := hs.form_
    cases e
    obtain ⟨_, _, _, _, _, _, hk, _, _, _, _, b31, b32⟩ := hs.inv
    have HK := hid hk
    have HS := hid hs
    have IH := hid ih
    clear hk hs ih
    go_enter Tryz.func23, Tryz.ntmps23
    go_wp2_with fail
    go_loopw [3, 8] (fun v i wr => ∃ k : Nat, k ≤ n3 ∧ i = .int .i64 k ∧ v = .int .i64 (wrap64 (1 + nodesL (ks.take k))) ∧ Below (w.heap.size + 1) (w.alloc (Obj.cells #[Value.bool l, Value.bool h, Value.slice A1 n1 c1, Value.slice A2 n2 c2, Value.slice A3 n3 c3] 25)) wr) (fun _ i _ => n3 - (intOf i).toNat)
    case atStart => exact ⟨0, Nat.zero_le _, rfl, by simp [nodesL, wrap64], Below.refl _ _⟩
    case round =>
      obtain ⟨k, hkn, rfl, rfl, hbel⟩ := hrel
      have hbw := below_box hbel
      by_cases hlt : k < n3
      · obtain ⟨ad, v0, v1, v2, v3, v4, t, rfl, hS, hks, hm, hin, d0, d1, d2, d3, d4⟩ := (HS.out.old hbw).kid hlt
        obtain ⟨e0, e1, e2, e3, e4⟩ := box5 hbel
        have HT := hid (nodesL_take ks k t hks)
        have HM := hid hm
        have hsz := hbel.size
        have hsz : w.heap.size + 1 ≤ wr.heap.size := by simpa using hsz
        clear hks hm e0 e1 e2 e3
        go_wp2_with ((with_reducible refine (IH.out t HM.out _ S _ hin).mono ?_); rintro e w2 ⟨rfl, hb2⟩)
        go_roundw
        case rel => exact ⟨k + 1, by omega, by go_num, val_i64 (by rw [HT.out, wrap_add]; congr 1; omega), hbel.trans (hb2.mono hsz)⟩
        case measure => simp [intOf]; omega
      · obtain rfl : k = n3 := by omega
        go_wp2_with fail
        go_ret
        exact ⟨ret_i64 (by rw [List.take_of_length_le (by rw [HK.out]; exact Nat.le_refl _), nodes]; rfl), hbw⟩
theorem well_ways (l h : Bool) (hi da : List UInt8) (ks : List SX) :
    (well l h hi da ks = false ∧ l = true ∧ h = true) ∨ (well l h hi da ks = false ∧ l = true ∧ h = false ∧ 0 < hi.length) ∨ (well l h hi da ks = false ∧ l = true ∧ h = false ∧ hi.length = 0 ∧ 0 < da.length) ∨
    (well l h hi da ks = false ∧ l = false ∧ 0 < ks.length) ∨ (well l h hi da ks = false ∧ l = false ∧ ks.length = 0 ∧ h = false ∧ 0 < hi.length) ∨
    (well l h hi da ks = true ∧ l = true ∧ h = false ∧ hi.length = 0 ∧ da.length = 0) ∨ (well l h hi da ks = true ∧ l = false ∧ ks.length = 0 ∧ h = true) ∨ (well l h hi da ks = true ∧ l = false ∧ ks.length = 0 ∧ h = false ∧ hi.length = 0) := by
  cases l <;> cases h <;> cases hi <;> cases da <;> cases ks <;> simp [well]
theorem cleanL_take (l : List SX) (k : Nat) (x : SX) (h : l[k]? = some x) : cleanL (l.take (k + 1)) = (cleanL (l.take k) && clean x) := by rw [take_snoc l k x h, cleanL_snoc]
theorem cleanL_bad (l : List SX) (k : Nat) (x : SX) (h : l[k]? = some x) (hc : clean x = false) : cleanL l = false := by
  have e : l = l.take (k + 1) ++ l.drop (k + 1) := (List.take_append_drop _ _).symm
  rw [e, cleanL_append, cleanL_take l k x h, hc]; simp
set_option maxHeartbeats 1000000 in
set_option maxRecDepth 100000 in
theorem clean_any (t : SX) : ∀ (w : World) (S : Nat → Prop) (cs : List Value), SIn w S t cs →
    Calls Tryz.prog 28 #[.agg cs.toArray] w fun e w' => e = .returned (.bool (clean t)) ∧ Below w.heap.size w w' := by
  induction t using SX.ind with
  | H l h hi da ks ih =>
    intro w S cs hs
    obtain ⟨_, _, _, _, _, A1, n1, c1, A2, n2, c2, A3, n3, c3, e, rfl⟩ := hs.form_
    cases e
    obtain ⟨_, _, _, _, g1, g2, g3, b11, b12, b21, b22, b31, b32⟩ := hs.inv
    have HK := hid g3
    have HS := hid hs
    have IH := hid ih
    have hw := well_ways l h hi da ks
    rw [g1, g2, g3] at hw
    have hc : Hid (clean (.mk l h hi da ks) = (well l h hi da ks && cleanL ks)) := by show _ = _; rw [clean]
    clear g1 g2 g3 hs ih
    rcases hw with ⟨hw, rfl, rfl⟩ | ⟨hw, rfl, rfl, hn⟩ | ⟨hw, rfl, rfl, rfl, hn⟩ | ⟨hw, rfl, hn⟩ | ⟨hw, rfl, rfl, rfl, hn⟩ | hw
    iterate 5
      rw [hw] at hc
      clear hw
      go_enter Tryz.func28, Tryz.ntmps28
      go_wp2_with fail
      go_ret
      exact ⟨by rw [hc.out]; rfl, below_new _ _⟩
    · obtain ⟨hw, hg⟩ : well l h hi da ks = true ∧ ((l = true ∧ h = false ∧ n1 = 0 ∧ n2 = 0) ∨ (l = false ∧ n3 = 0 ∧ h = true) ∨ (l = false ∧ n3 = 0 ∧ h = false ∧ n1 = 0)) := by
        rcases hw with ⟨hw, hg⟩ | ⟨hw, hg⟩ | ⟨hw, hg⟩
        · exact ⟨hw, .inl hg⟩
        · exact ⟨hw, .inr (.inl hg)⟩
        · exact ⟨hw, .inr (.inr hg)⟩
      rw [hw] at hc
      clear hw
      rcases hg with ⟨rfl, rfl, rfl, rfl⟩ | ⟨rfl, rfl, rfl⟩ | ⟨rfl, rfl, rfl, rfl⟩
      · go_enter Tryz.func28, Tryz.ntmps28
        go_wp2_with fail
        go_loopw [47] (fun i wr => ∃ k : Nat, k ≤ n3 ∧ i = .int .i64 k ∧ Hid (cleanL (ks.take k) = true) ∧ Below (w.heap.size + 1) (w.alloc (Obj.cells #[Value.bool true, Value.bool false, Value.slice A1 0 c1, Value.slice A2 0 c2, Value.slice A3 n3 c3] 25)) wr) (fun i _ => n3 - (intOf i).toNat)
        case atStart => exact ⟨0, Nat.zero_le _, rfl, rfl, Below.refl _ _⟩
        case round =>
          obtain ⟨k, hkn, rfl, hcl, hbel⟩ := hrel
          have hbw := below_box hbel
          by_cases hlt : k < n3
          · obtain ⟨ad, v0, v1, v2, v3, v4, t, rfl, hS, hks, hm, hin, d0, d1, d2, d3, d4⟩ := (HS.out.old hbw).kid hlt
            obtain ⟨e0, e1, e2, e3, e4⟩ := box5 hbel
            have HT := hid (cleanL_take ks k t hks)
            have HB := hid (cleanL_bad ks k t hks)
            have HM := hid hm
            have hsz := hbel.size
            have hsz : w.heap.size + 1 ≤ wr.heap.size := by simpa using hsz
            clear hks hm e0 e1 e2 e3
            by_cases hct : clean t = true
            · have hct' := hid hct
              have ihh := IH.out t HM.out
              rw [hct] at ihh
              clear hct
              go_wp2_with ((with_reducible refine (ihh _ S _ hin).mono ?_); rintro e w2 ⟨rfl, hb2⟩)
              go_roundw
              case rel => exact ⟨k + 1, by omega, by go_num, (show _ = _ by rw [HT.out, hcl.out, hct'.out]; rfl), hbel.trans (hb2.mono hsz)⟩
              case measure => simp [intOf]; omega
            · have hct : clean t = false := by simpa using hct
              have hct' := hid hct
              have ihh := IH.out t HM.out
              rw [hct] at ihh
              clear hct
              go_wp2_with ((with_reducible refine (ihh _ S _ hin).mono ?_); rintro e w2 ⟨rfl, hb2⟩)
              go_ret
              exact ⟨by rw [hc.out, HB.out hct'.out]; rfl, hbw.trans (hb2.mono (by omega))⟩
          · obtain rfl : k = n3 := by omega
            have hall : Hid (cleanL ks = true) := by
              have h := hcl.out
              rw [List.take_of_length_le (by rw [HK.out]; exact Nat.le_refl _)] at h
              exact h
            go_wp2_with fail
            go_ret
            exact ⟨by rw [hc.out, hall.out]; rfl, hbw⟩
      all_goals
        have hnil : Hid (ks = []) := List.eq_nil_of_length_eq_zero HK.out
        go_enter Tryz.func28, Tryz.ntmps28
        go_wp2_with fail
        go_loopw [47] (fun i wr => i = .int .i64 0 ∧ wr = w.alloc (Obj.cells _ _)) (fun i _ => 0)
        case atStart => exact ⟨rfl, rfl⟩
        case round =>
          obtain ⟨rfl, rfl⟩ := hrel
          go_wp2_with fail
          go_ret
          exact ⟨by rw [hc.out, hnil.out]; rfl, below_new _ _⟩
end Go.Proofs.YtcojkmcnigppbaaGreatDoor
end
section
namespace Go.Proofs.YtcojkmcnigppbaaGreatDoor
open Go Go.Proofs Go.RowKit Sx
def BytesOut (w : World) (L : List UInt8) (e : Ending) (w' : World) : Prop := ∃ A c, e = .returned (.slice A L.length c) ∧ L.length ≤ c ∧ Reads w' w'.heap.size 1 A L.length (Lib.byteCells L) ∧ Below w.heap.size w w'
theorem dec_le (u : Nat) (h : u ≤ 1099511627776) : (Lib.decDigits u).length ≤ 13 := Oct.dec_length 12 u (by omega)
theorem text_length (b : List UInt8) : (text b).length = (Lib.decDigits b.length).length + 1 + b.length := by simp [text]; omega
set_option maxHeartbeats 1000000 in
set_option maxRecDepth 100000 in
theorem refText_any (A : Option Addr) (n c : Nat) (l : List UInt8) (B : Nat) (w : World) (hr : Reads w B 1 A n (Lib.byteCells l)) (hB : B ≤ w.heap.size) (hn : n ≤ 1099511627776) :
    Calls Tryz.prog 35 #[.slice A n c] w (BytesOut w (text l)) := by
  have hl : l.length = n := by have := hr.1; simpa [Lib.byteCells_length] using this
  have hd := dec_le n hn
  have HT : Hid (Lib.decDigits n ++ [58] ++ l = text l) := by show _ = _; rw [text, hl]; simp
  have HL := hid hl
  have HD := hid (fun W => dec_any n W (by omega))
  clear hl
  generalize Lib.decDigits n = D at *
  have hsz : (⟨D.toArray⟩ : ByteArray).size = D.length := by show D.toArray.size = _; simp
  have HSZ := hid hsz
  have HN := hid (fun (w1 : World) (hb : Below w.heap.size w w1) => Held.new hb ⟨D.toArray⟩)
  clear hsz
  go_enter Tryz.func35, Tryz.ntmps35
  go_wp2_with fail
  refine (HD.out w).mono ?_
  rintro e w1 ⟨rfl, hb1⟩
  go_wp2_with fail
  rw [Lib.run_convert_string_bytes w1 9 22 5 _ Tryz.underlying9 Tryz.underlying22 Tryz.underlying5]
  simp only [Result.andThen]
  rw [Oper.upon_value]
  have hH := HN.out w1 hb1
  have hb2 := hb1.trans ((bytesWorld_below w1 ⟨D.toArray⟩).mono hb1.size)
  rw [HSZ.out] at hH ⊢
  generalize Lib.bytesWorld w1 5 ⟨D.toArray⟩ = w2 at *
  generalize grownCap w1 _ 0 5 = cap at *
  generalize w1.heap.size = g at *
  clear hb1
  have hs2 := hb2.size
  have hb3 := hb2.alloc hs2 (.cells #[.int .u8 58] 5)
  have hH3 := hH.more (below_new w2 (.cells #[.int .u8 58] 5))
  have hone := reads_one w2 58 (0, 0)
  have hdl : D.length ≤ 13 := hd
  go_wp2_with (at_builtin; refine wpList_append_held _ rfl (.tmp 7) (.tmp 8) rfl w.heap.size w _ D hH3 rfl _ _ 1 1 [58] rfl hone (by omega) ?_)
  intro v3 w3 hH4 _
  have hr4 := hr.below (hH4.1.mono hB)
  have hbd : (D ++ [58]).length + n ≤ 140737488355328 := by simp; omega
  clear hH hH3 hone hb2 hb3 hr hB
  go_wp2_with (at_builtin; refine wpList_append_held _ rfl (.tmp 10) (.tmp 11) rfl w.heap.size w v3 (D ++ [58]) hH4 rfl _ A n c l rfl hr4 hbd ?_)
  intro v4 w4 hH5 _
  clear hH4 hr4 hbd
  have hT := HT.out
  rw [List.append_assoc] at hT
  have hT : D ++ 58 :: l = text l := hT
  rw [hT] at hH5
  obtain ⟨A5, c5, rfl, hc5, hr5⟩ := hH5.reads
  have hb5 := hH5.1
  clear hH5 hT
  go_wp2_with fail
  go_ret
  exact ⟨A5, c5, rfl, hc5, hr5, hb5⟩
theorem Held.empty {w0 W : World} (hb : Below w0.heap.size w0 W) {g : Nat} (hg : W.heap.size = g) : Held w0.heap.size w0 (W.alloc (.cells #[] 5)) (.slice (some ⟨g, 0, none⟩) 0 0) [] := by
  subst hg
  exact ⟨hb.alloc hb.size _, by have := hb.size; simp; omega, .inr (owns_more (owns_empty W) hb.size)⟩
theorem reads_byte (w : World) (x : UInt8) {g : Nat} (hg : w.heap.size = g) : Reads (w.alloc (.cells #[.int .u8 x.toNat] 5)) (g + 1) 1 (some ⟨g, 0, none⟩) 1 (Lib.byteCells [x]) := by
  subst hg
  exact reads_one w x (0, 0)
theorem box5b {w : World} {b : Nat} {v0 v1 v2 v3 v4 : Value} {T : TypeId} (h : w.heap[b]? = some (Obj.cells #[v0, v1, v2, v3, v4] T (0, 0))) :
    w.cell? ⟨b, 0, none⟩ = some v0 ∧ w.cell? ⟨b, 1, none⟩ = some v1 ∧ w.cell? ⟨b, 2, none⟩ = some v2 ∧ w.cell? ⟨b, 3, none⟩ = some v3 ∧ w.cell? ⟨b, 4, none⟩ = some v4 := by
  refine ⟨?_, ?_, ?_, ?_, ?_⟩ <;> (rw [Lib.cell_of_heap h]; rfl)
theorem below_at {w w' : World} {b : Nat} {o : Obj} (hb : Below w.heap.size w w') (h : w.heap[b]? = some o) : w'.heap[b]? = some o :=
  (hb.block b (by
    rcases Nat.lt_or_ge b w.heap.size with h' | h'
    · exact h'
    · rw [Array.getElem?_eq_none h'] at h; cases h)).trans h
theorem formL_take (l : List SX) (k : Nat) (x : SX) (h : l[k]? = some x) : formL (l.take (k + 1)) = formL (l.take k) ++ form x := by rw [take_snoc l k x h, formL_snoc]
theorem formL_take_le (l : List SX) (k : Nat) (x : SX) (h : l[k]? = some x) : (formL (l.take k)).length + (form x).length ≤ (formL l).length := by
  have e := formL_append (l.take (k + 1)) (l.drop (k + 1))
  rw [List.take_append_drop, formL_take l k x h] at e
  rw [e]; simp
set_option maxHeartbeats 2000000 in
set_option maxRecDepth 100000 in
theorem form_any (t : SX) : ∀ (w : World) (S : Nat → Prop) (cs : List Value), SIn w S t cs → (form t).length ≤ 1099511627776 →
    Calls Tryz.prog 18 #[.agg cs.toArray] w (BytesOut w (form t)) := by
  induction t using SX.ind with
  | H l h hi da ks ih =>
    intro w S cs hs hd
    obtain ⟨_, _, _, _, _, A1, n1, c1, A2, n2, c2, A3, n3, c3, e, rfl⟩ := hs.form_
    cases e
    obtain ⟨_, _, r1, r2, g1, g2, hk, b11, b12, b21, b22, b31, b32⟩ := hs.inv
    have HK := hid hk
    have HS := hid hs
    have IH := hid ih
    clear hk hs ih
    cases l with
    | true =>
      have HF : Hid (form (.mk true h hi da ks) = 40 :: (formL ks ++ [41])) := by show _ = _; rw [form]; rfl
      have hd' : (formL ks).length + 2 ≤ 1099511627776 := by rw [HF.out] at hd; simpa using hd
      rw [HF.out]
      have hH0 := (Held.empty (below_new w (.cells #[Value.bool true, Value.bool h, Value.slice A1 n1 c1, Value.slice A2 n2 c2, Value.slice A3 n3 c3] 25)) (g := w.heap.size + 1) (by simp)).more (below_new _ (.cells #[.int .u8 40] 5))
      have hx0 := hid (below_at (below_new _ (.cells #[.int .u8 40] 5)) (below_at (below_new _ (.cells #[] 5)) (heap_alloc_new w (.cells #[Value.bool true, Value.bool h, Value.slice A1 n1 c1, Value.slice A2 n2 c2, Value.slice A3 n3 c3] 25))))
      have hone := reads_byte ((w.alloc (.cells #[Value.bool true, Value.bool h, Value.slice A1 n1 c1, Value.slice A2 n2 c2, Value.slice A3 n3 c3] 25)).alloc (.cells #[] 5)) 40 (g := w.heap.size + 1 + 1) (by simp)
      clear hd r1 r2
      go_enter Tryz.func18, Tryz.ntmps18
      go_wp2_with (at_builtin; refine wpList_append_held _ rfl (.tmp 8) (.tmp 9) rfl w.heap.size w _ [] hH0 rfl _ _ 1 1 [40] rfl hone (by simp) ?_)
      intro v1 w1 hH1 hO1
      have hbox := hO1 _ _ _ _ hx0.out (by decide)
      clear hH0 hone hx0 hO1
      have e4 := (box5b hbox).2.2.2.2
      go_wp2_with fail
      go_loopw [3, 14] (fun v i wr => ∃ k : Nat, k ≤ n3 ∧ i = .int .i64 k ∧ Held w.heap.size w wr v (40 :: formL (ks.take k)) ∧ Hid (wr.heap[w.heap.size]? = some (Obj.cells #[Value.bool true, Value.bool h, Value.slice A1 n1 c1, Value.slice A2 n2 c2, Value.slice A3 n3 c3] 25 (0, 0)))) (fun _ i _ => n3 - (intOf i).toNat)
      case atStart => exact ⟨0, Nat.zero_le _, rfl, hH1, hbox⟩
      case round =>
        obtain ⟨k, hkn, rfl, hH, HB⟩ := hrel
        have hbw := hH.1
        clear e4 hbox hH1
        by_cases hlt : k < n3
        · obtain ⟨ad, v0, v1, v2, v3, v4, t, rfl, hS, hks, hm, hin, d0, d1, d2, d3, d4⟩ := (HS.out.old hbw).kid hlt
          have e4 := (box5b HB.out).2.2.2.2
          have HT := hid (formL_take ks k t hks)
          have hdk := formL_take_le ks k t hks
          have HM := hid hm
          clear hks hm
          go_wp2_with (first
            | ((with_reducible refine (IH.out t HM.out _ S _ hin (by omega)).mono ?_); rintro e w2 ⟨Ar, cr, rfl, hcr, hrr, hb2⟩; have HB2 := hid (below_at hb2 HB.out))
            | (at_builtin; refine wpList_append_held _ rfl (.tmp 17) (.tmp 23) rfl w.heap.size w _ (40 :: formL (ks.take k)) (hH.more hb2) rfl _ Ar _ cr (form t) rfl hrr (by simp; omega) ?_))
          intro v5 w5 hH5 hO5
          have HB5 := hid (hO5 _ _ _ _ HB2.out (by decide))
          clear hO5 hrr hb2 hH
          go_wp2_with fail
          go_roundw
          case rel => exact ⟨k + 1, by omega, by go_num, by rw [HT.out]; exact hH5, HB5.out⟩
          case measure => simp [intOf]; omega
        · obtain rfl : k = n3 := by omega
          have hall : Hid (ks.take k = ks) := List.take_of_length_le (by rw [HK.out]; exact Nat.le_refl _)
          rw [hall.out] at hH
          have hH' := hH.more (below_new wr (.cells #[.int .u8 41] 5))
          have hone := reads_byte wr 41 rfl
          go_wp2_with (at_builtin; refine wpList_append_held _ rfl (.tmp 26) (.tmp 27) rfl w.heap.size w _ (40 :: formL ks) hH' rfl _ _ 1 1 [41] rfl hone (by simp; omega) ?_)
          intro v5 w5 hH5 hO5
          obtain ⟨A5, c5, rfl, hc5, hr5⟩ := hH5.reads
          have hb5 := hH5.1
          clear hH5 hO5 hH' hH hone
          go_wp2_with fail
          go_ret
          exact ⟨A5, c5, rfl, hc5, hr5, hb5⟩
    | false =>
      cases h with
      | false =>
        have HF : Hid (form (.mk false false hi da ks) = text da) := by show _ = _; rw [form]; rfl
        rw [HF.out] at hd ⊢
        have hn2 : n2 ≤ 1099511627776 := by have := text_length da; omega
        have hH0 := Held.empty (below_new w (.cells #[Value.bool false, Value.bool false, Value.slice A1 n1 c1, Value.slice A2 n2 c2, Value.slice A3 n3 c3] 25)) (g := w.heap.size + 1) (by simp)
        have hr2 := ((r2.old (by omega) (below_new w (.cells #[Value.bool false, Value.bool false, Value.slice A1 n1 c1, Value.slice A2 n2 c2, Value.slice A3 n3 c3] 25))).old (by omega) (below_new _ (.cells #[] 5))).reads (by omega)
        clear r1 r2
        go_enter Tryz.func18, Tryz.ntmps18
        go_wp2_with (first
          | ((with_reducible refine (refText_any A2 n2 c2 da _ _ hr2 (Nat.le_refl _) hn2).mono ?_); rintro e w2 ⟨Ar, cr, rfl, hcr, hrr, hb2⟩)
          | (at_builtin; refine wpList_append_held _ rfl (.tmp 42) (.tmp 45) rfl w.heap.size w _ [] (hH0.more hb2) rfl _ Ar _ cr (text da) rfl hrr (by simp; omega) ?_))
        intro v5 w5 hH5 hO5
        obtain ⟨A5, c5, rfl, hc5, hr5⟩ := hH5.reads
        have hb5 := hH5.1
        clear hH5 hO5 hrr hb2 hH0
        go_wp2_with fail
        go_ret
        exact ⟨A5, c5, rfl, hc5, hr5, hb5⟩
      | true =>
        have HF : Hid (form (.mk false true hi da ks) = 91 :: (text hi ++ 93 :: text da)) := by show _ = _; rw [form]; simp
        rw [HF.out] at hd ⊢
        have hd' : (text hi).length + (text da).length + 2 ≤ 1099511627776 := by simp at hd; omega
        have hn1 : n1 ≤ 1099511627776 := by have := text_length hi; omega
        have hn2 : n2 ≤ 1099511627776 := by have := text_length da; omega
        have hH0 := (Held.empty (below_new w (.cells #[Value.bool false, Value.bool true, Value.slice A1 n1 c1, Value.slice A2 n2 c2, Value.slice A3 n3 c3] 25)) (g := w.heap.size + 1) (by simp)).more (below_new _ (.cells #[.int .u8 91] 5))
        have hx0 := hid (below_at (below_new _ (.cells #[.int .u8 91] 5)) (below_at (below_new _ (.cells #[] 5)) (heap_alloc_new w (.cells #[Value.bool false, Value.bool true, Value.slice A1 n1 c1, Value.slice A2 n2 c2, Value.slice A3 n3 c3] 25))))
        have hone := reads_byte ((w.alloc (.cells #[Value.bool false, Value.bool true, Value.slice A1 n1 c1, Value.slice A2 n2 c2, Value.slice A3 n3 c3] 25)).alloc (.cells #[] 5)) 91 (g := w.heap.size + 1 + 1) (by simp)
        go_enter Tryz.func18, Tryz.ntmps18
        go_wp2_with (at_builtin; refine wpList_append_held _ rfl (.tmp 31) (.tmp 32) rfl w.heap.size w _ [] hH0 rfl _ _ 1 1 [91] rfl hone (by simp) ?_)
        intro v1 w1 hH1 hO1
        have hB1 := hid (hO1 _ _ _ _ hx0.out (by decide))
        have hr1 := (r1.old (by omega) hH1.1).reads (by omega)
        obtain ⟨e0, e1, e2, e3, e4⟩ := box5b hB1.out
        clear hH0 hone hx0 hO1 hd
        go_wp2_with (first
          | ((with_reducible refine (refText_any A1 n1 c1 hi _ _ hr1 (Nat.le_refl _) hn1).mono ?_); rintro e w2 ⟨Ar, cr, rfl, hcr, hrr, hb2⟩; have HB2 := hid (below_at hb2 hB1.out))
          | (at_builtin; refine wpList_append_held _ rfl (.tmp 34) (.tmp 37) rfl w.heap.size w _ _ (hH1.more hb2) rfl _ Ar _ cr (text hi) rfl hrr (by simp; omega) ?_))
        intro v3 w3 hH3 hO3
        have hB3 := hid (hO3 _ _ _ _ HB2.out (by decide))
        have hH3' := hH3.more (below_new w3 (.cells #[.int .u8 93] 5))
        have hB3' := hid (below_at (below_new w3 (.cells #[.int .u8 93] 5)) hB3.out)
        have hone := reads_byte w3 93 rfl
        clear hH1 hrr hb2 hO3 hr1 e0 e1 e2 e3 e4 hH3
        go_wp2_with (at_builtin; refine wpList_append_held _ rfl (.tmp 39) (.tmp 40) rfl w.heap.size w _ _ hH3' rfl _ _ 1 1 [93] rfl hone (by simp; omega) ?_)
        intro v4 w4 hH4 hO4
        have hB4 := hid (hO4 _ _ _ _ hB3'.out (by decide))
        have hr2 := (r2.old (by omega) hH4.1).reads (by omega)
        obtain ⟨e0, e1, e2, e3, e4⟩ := box5b hB4.out
        clear hH3' hone hO4
        go_wp2_with (first
          | ((with_reducible refine (refText_any A2 n2 c2 da _ _ hr2 (Nat.le_refl _) hn2).mono ?_); rintro e w2 ⟨Ar, cr, rfl, hcr, hrr, hb2⟩)
          | (at_builtin; refine wpList_append_held _ rfl (.tmp 42) (.tmp 45) rfl w.heap.size w _ _ (hH4.more hb2) rfl _ Ar _ cr (text da) rfl hrr (by simp; omega) ?_))
        intro v5 w5 hH5 hO5
        obtain ⟨A5, c5, rfl, hc5, hr5⟩ := hH5.reads
        have hb5 := hH5.1
        clear hH5 hO5 hrr hb2 hH4
        go_wp2_with fail
        go_ret
        exact ⟨A5, c5, rfl, hc5, hr5, hb5⟩
end Go.Proofs.YtcojkmcnigppbaaGreatDoor
end
section
namespace Go.Proofs.YtcojkmcnigppbaaGreatDoor
open Go Go.Proofs Go.RowKit Sx
theorem infoSexp : (Tryz.prog.info? 25).map (fun i => (i.zero, i.size, i.bytes)) = some (some (.agg #[.bool false, .bool false, .slice none 0 0, .slice none 0 0, .slice none 0 0]), 5, 80) := by kernel_rfl
theorem RIn.of_own {w : World} {base : Nat} {e : TypeId} {size n : Nat} {v : Value} {xs : List Value} (h : w.ownsRow base e size v n xs) :
    ∃ A c, v = .slice A n c ∧ n ≤ c ∧ RIn w (fun b => base ≤ b) size A n xs := by
  rcases h.2 with ⟨h1, h2⟩ | ⟨g, cap, cur, hv, hb, hh, hc, _⟩
  · subst h2
    exact ⟨none, 0, h1, Nat.le_refl _, h.1, fun h => absurd h (by omega)⟩
  · subst hv
    exact ⟨_, _, rfl, hc, h.1, fun _ => ⟨_, rfl, hb, h.cells (g := g) rfl⟩⟩
def ints (l : List UInt8) : List Int := l.map fun b => (b.toNat : Int)
theorem ints_cells (l : List UInt8) : (ints l).map (Value.int .u8) = Lib.byteCells l := by simp [ints, Lib.byteCells]
def BytesNew (w : World) (L : List UInt8) (e : Ending) (w' : World) : Prop := ∃ A c, e = .returned (.slice A L.length c) ∧ L.length ≤ c ∧ RIn w' (fun b => w.heap.size ≤ b) 1 A L.length (Lib.byteCells L) ∧ Below w.heap.size w w'
theorem bytesClone_any (A : Option Addr) (n c : Nat) (l : List UInt8) (S : Nat → Prop) (w : World) (hr : RIn w S 1 A n (Lib.byteCells l)) (hn : n ≤ 140737488355328) :
    Calls Tryz.prog 108 #[.slice A n c] w (BytesNew w l) := by
  have hl : l.length = n := by have := hr.1; simpa [Lib.byteCells_length] using this
  subst hl
  rcases A with _ | ad
  · have h0 : l.length = 0 := by
      rcases Nat.eq_zero_or_pos l.length with h | h
      · exact h
      · obtain ⟨_, h, _⟩ := hr.2 h; cases h
    have hn : l = [] := List.eq_nil_of_length_eq_zero h0
    subst hn
    refine (Tryz.bytes_Clone_nil _ c w).mono ?_
    rintro e w' ⟨rfl, rfl⟩
    exact ⟨none, 0, rfl, Nat.le_refl _, RIn.none_, Below.refl _ _⟩
  · refine (Tryz.bytes_Clone_at ad l.length c (ints l) w (by simp [ints]) hn ?_).mono ?_
    · intro i hi
      obtain ⟨ad', h1, _, h3⟩ := hr.2 (by omega)
      injection h1 with h1
      subst h1
      refine h3 i _ ?_
      simp [Lib.byteCells, ints, List.getD, List.getElem?_eq_getElem hi]
    · rintro e w' ⟨v', rfl, hown, _, hb⟩
      rw [ints_cells] at hown
      obtain ⟨A', c', rfl, hc, hri⟩ := RIn.of_own hown
      exact ⟨A', c', rfl, hc, hri, hb⟩
/-! An element of five cells is stored into a row of the call's own. -/
def Kids (w : World) (S : Nat → Prop) (ks : List SX) (xs : List Value) : Prop := ∀ i t, ks[i]? = some t → SIn w S t ((xs.drop (i * 5)).take 5)
theorem own_old {w w' : World} {B : Nat} {e : TypeId} {size : Nat} {v : Value} {n : Nat} {xs : List Value} (h : w.ownsRow B e size v n xs) (hb : Below w.heap.size w w') : w'.ownsRow B e size v n xs := by
  refine ⟨h.1, ?_⟩
  rcases h.2 with h2 | ⟨g, cap, cur, hv, hg, hh, r⟩
  · exact Or.inl h2
  · exact Or.inr ⟨g, cap, cur, hv, hg, by rw [hb.block g (Array.getElem?_eq_some_iff.1 hh).1]; exact hh, r⟩
def Box (w : World) (b : Nat) (v0 v1 v2 v3 v4 : Value) : Prop := w.heap[b]? = some (Obj.cells #[v0, v1, v2, v3, v4] 25 (0, 0))
theorem Box.all {w : World} {b : Nat} {v0 v1 v2 v3 v4 : Value} (h : Box w b v0 v1 v2 v3 v4) :
    (w.cell? ⟨b, 0, none⟩ = some v0 ∧ w.cell? ⟨b, 1, none⟩ = some v1 ∧ w.cell? ⟨b, 2, none⟩ = some v2 ∧ w.cell? ⟨b, 3, none⟩ = some v3 ∧ w.cell? ⟨b, 4, none⟩ = some v4) ∧ ∀ i, w.frozen? ⟨b, i, none⟩ = false :=
  ⟨box5b h, fun i => by unfold Box at h; simp [World.frozen?, h]⟩
theorem Box.old {w w' : World} {b : Nat} {v0 v1 v2 v3 v4 : Value} (h : Box w b v0 v1 v2 v3 v4) (hb : Below w.heap.size w w') : Box w' b v0 v1 v2 v3 v4 := below_at hb h
theorem Box.far {w : World} {b : Nat} {v0 v1 v2 v3 v4 : Value} (h : Box w b v0 v1 v2 v3 v4) {p : Addr} (hp : b ≠ p.block) (x : Value) : Box (w.setCell p x) b v0 v1 v2 v3 v4 := (Below.heap_setCell w p x b hp).trans h
theorem Box.set2 {w : World} {b : Nat} {v0 v1 v2 v3 v4 : Value} (h : Box w b v0 v1 v2 v3 v4) (x : Value) : Box (w.setCell ⟨b, 2, none⟩ x) b v0 v1 x v3 v4 := (Joins.block_setCell h x)
theorem Box.set4 {w : World} {b : Nat} {v0 v1 v2 v3 v4 : Value} (h : Box w b v0 v1 v2 v3 v4) (x : Value) : Box (w.setCell ⟨b, 4, none⟩ x) b v0 v1 v2 v3 x := (Joins.block_setCell h x)
theorem RIn.far {w : World} {S : Nat → Prop} {size n : Nat} {A : Option Addr} {xs : List Value} (h : RIn w S size A n xs) {p : Addr} (hp : ∀ b, S b → b ≠ p.block) (x : Value) : RIn (w.setCell p x) S size A n xs :=
  h.keep fun q hq => World.cell?_setCell_other w p q x (fun e => hp _ hq (by rw [e]))
theorem SIn.far {w : World} {S : Nat → Prop} {t : SX} {cs : List Value} (h : SIn w S t cs) {p : Addr} (hp : ∀ b, S b → b ≠ p.block) (x : Value) : SIn (w.setCell p x) S t cs :=
  h.keep fun q hq => World.cell?_setCell_other w p q x (fun e => hp _ hq (by rw [e]))
def put5 (w : World) (b : Nat) (x0 x1 x2 x3 x4 : Value) : World := ((((w.setCell ⟨b, 0, none⟩ x0).setCell ⟨b, 1, none⟩ x1).setCell ⟨b, 2, none⟩ x2).setCell ⟨b, 3, none⟩ x3).setCell ⟨b, 4, none⟩ x4
theorem put5_far {w : World} {b : Nat} {x0 x1 x2 x3 x4 : Value} (p : Addr) (hp : p.block ≠ b) : (put5 w b x0 x1 x2 x3 x4).cell? p = w.cell? p := by
  have h2 : ∀ i, (⟨b, i, none⟩ : Addr) ≠ p := fun i e => hp (by rw [← e])
  unfold put5
  rw [World.cell?_setCell_other _ _ _ _ (h2 4), World.cell?_setCell_other _ _ _ _ (h2 3), World.cell?_setCell_other _ _ _ _ (h2 2), World.cell?_setCell_other _ _ _ _ (h2 1), World.cell?_setCell_other _ _ _ _ (h2 0)]
theorem put5_below {w w' : World} {b B : Nat} (h : Below B w w') (hb : B ≤ b) (x0 x1 x2 x3 x4 : Value) : Below B w (put5 w' b x0 x1 x2 x3 x4) :=
  ((((h.setCell (p := ⟨b, 0, none⟩) hb x0).setCell (p := ⟨b, 1, none⟩) hb x1).setCell (p := ⟨b, 2, none⟩) hb x2).setCell (p := ⟨b, 3, none⟩) hb x3).setCell (p := ⟨b, 4, none⟩) hb x4
end Go.Proofs.YtcojkmcnigppbaaGreatDoor
end
section
namespace Go.Proofs.YtcojkmcnigppbaaGreatDoor
open Go Go.Proofs Go.RowKit
abbrev Tab (w : World) : Prop := Lib.TabIs Tryz.prog w "internal/strconv.uint64pow10" .u64 Lib.pow10Tab
theorem tabAt : Tryz.prog.globalNamed "internal/strconv.uint64pow10" = some 3 := by kernel_rfl
theorem Tab.keep {w w' : World} (h : Tab w) (hh : w'.heap[(3 : Nat)]? = w.heap[(3 : Nat)]?) : Tab w' := by
  have h : w.var? Tryz.prog "internal/strconv.uint64pow10" = _ := h
  show w'.var? Tryz.prog "internal/strconv.uint64pow10" = _
  rw [← h]
  unfold World.var?
  rw [tabAt]
  simp only [Option.bind_some]
  rw [hh]
theorem Tab.lt {w : World} (h : Tab w) : 3 < w.heap.size := by
  have h : w.var? Tryz.prog "internal/strconv.uint64pow10" = _ := h
  unfold World.var? at h
  rw [tabAt] at h
  simp only [Option.bind_some] at h
  rcases Nat.lt_or_ge 3 w.heap.size with h' | h'
  · exact h'
  · rw [Array.getElem?_eq_none h'] at h; cases h
theorem Tab.old {w w' : World} (h : Tab w) (hb : Below w.heap.size w w') : Tab w' := h.keep (hb.block _ h.lt)
theorem Tab.grown {w w' : World} {row : Option Nat} (h : Tab w) (hg : w.grownBy w' row) (hr : row ≠ some 3) : Tab w' := h.keep (hg.block _ h.lt (fun e => hr e.symm))
theorem below_grow (w : World) (k : Nat) (os : Array Obj) : Below w.heap.size w (Sort.grow (w.drewN k) os) :=
  ⟨rfl, rfl, rfl, by simp [Sort.grow], fun i hi => by
    show (w.heap ++ os)[i]? = _
    rw [Array.getElem?_append_left hi]⟩
set_option maxHeartbeats 1000000 in
set_option maxRecDepth 100000 in
theorem putLen_any (n : Int) (w : World) (h0 : -9223372036854775808 ≤ n) (h1 : n ≤ 9223372036854775807) (htab : Tab w) :
    Calls Tryz.prog 106 #[.int .i64 n] w fun e w' => e = .returned (.string ⟨(Lib.decDigits n.toNat).toArray⟩) ∧ Below w.heap.size w w' := by
  have he : Lib.itoa (max n 0) = Lib.decDigits n.toNat := by
    unfold Lib.itoa
    rw [if_neg (by omega), show (max n 0).toNat = n.toNat from by omega]
  have HE := hid he
  have HT := hid htab
  have hb := fun k os => below_grow w k os
  have HB := hid hb
  clear he htab hb
  go_enter Tryz.func106, Tryz.ntmps106
  go_wp2_with fail
  refine (Tryz.strconv_Itoa (max n 0) (by omega) (by omega) w HT.out).mono ?_
  rintro e w1 ⟨rfl, k, os, rfl⟩
  rw [HE.out]
  have hbb := HB.out k os
  generalize Sort.grow (w.drewN k) os = w1 at *
  go_wp2
  go_ret
  exact ⟨rfl, hbb⟩
end Go.Proofs.YtcojkmcnigppbaaGreatDoor
end
section
namespace Go.Proofs.YtcojkmcnigppbaaGreatDoor
open Go Go.Proofs Go.RowKit Sx
theorem deepL_take (l : List SX) (k : Nat) (x : SX) (h : l[k]? = some x) : deepL (l.take (k + 1)) = max (deepL (l.take k)) (deep x) := by rw [take_snoc l k x h, deepL_snoc]
theorem deepL_le (l : List SX) (x : SX) (h : x ∈ l) : deep x ≤ deepL l := by
  induction l with
  | nil => cases h
  | cons a r ih =>
    rw [deepL]
    rcases List.mem_cons.1 h with e | h
    · rw [e]; omega
    · have := ih h; omega
theorem deepL_take_le (l : List SX) (k : Nat) : deepL (l.take k) ≤ deepL l := by
  have e := deepL_append (l.take k) (l.drop k)
  rw [List.take_append_drop] at e
  omega
set_option maxHeartbeats 1000000 in
set_option maxRecDepth 100000 in
theorem deep_any (t : SX) : ∀ (w : World) (S : Nat → Prop) (cs : List Value), SIn w S t cs → deep t ≤ 4611686018427387904 →
    Calls Tryz.prog 29 #[.agg cs.toArray] w fun e w' => e = .returned (.int .i64 (deep t)) ∧ Below w.heap.size w w' := by
  induction t using SX.ind with
  | H l h hi da ks ih =>
    intro w S cs hs hd
    obtain ⟨_, _, _, _, _, A1, n1, c1, A2, n2, c2, A3, n3, c3, e, rfl⟩ := hs.form_
    cases e
    obtain ⟨_, _, _, _, _, _, hk, _, _, _, _, b31, b32⟩ := hs.inv
    have HK := hid hk
    have HS := hid hs
    have IH := hid ih
    clear hk hs ih
    cases l with
    | false =>
      go_enter Tryz.func29, Tryz.ntmps29
      go_wp2_with fail
      go_ret
      exact ⟨by rw [deep]; rfl, below_new _ _⟩
    | true =>
    have hd' : deepL ks + 1 ≤ 4611686018427387904 := by rw [deep] at hd; simpa using hd
    have HD : Hid (deep (.mk true h hi da ks) = deepL ks + 1) := by show _ = _; rw [deep]; rfl
    clear hd
    go_enter Tryz.func29, Tryz.ntmps29
    go_wp2_with fail
    go_loopw [3, 11] (fun v i wr => ∃ k : Nat, k ≤ n3 ∧ i = .int .i64 k ∧ v = .int .i64 (deepL (ks.take k)) ∧ Below (w.heap.size + 1) (w.alloc (Obj.cells #[Value.bool true, Value.bool h, Value.slice A1 n1 c1, Value.slice A2 n2 c2, Value.slice A3 n3 c3] 25)) wr) (fun _ i _ => n3 - (intOf i).toNat)
    case atStart => exact ⟨0, Nat.zero_le _, rfl, by simp [deepL], Below.refl _ _⟩
    case round =>
      obtain ⟨k, hkn, rfl, rfl, hbel⟩ := hrel
      have hbw := below_box hbel
      by_cases hlt : k < n3
      · obtain ⟨ad, v0, v1, v2, v3, v4, t, rfl, hS, hks, hm, hin, d0, d1, d2, d3, d4⟩ := (HS.out.old hbw).kid hlt
        obtain ⟨e0, e1, e2, e3, e4⟩ := box5 hbel
        have HT := hid (deepL_take ks k t hks)
        have hdt := deepL_le ks t hm
        have hdk := deepL_take_le ks k
        have HM := hid hm
        have hsz := hbel.size
        have hsz : w.heap.size + 1 ≤ wr.heap.size := by simpa using hsz
        clear hks hm e0 e1 e2 e3
        go_wp2_with ((with_reducible refine (IH.out t HM.out _ S _ hin (by omega)).mono ?_); rintro e w2 ⟨rfl, hb2⟩)
        go_roundw
        case rel => exact ⟨k + 1, by omega, by go_num, val_i64 (by rw [HT.out]; omega), hbel.trans (hb2.mono hsz)⟩
        case measure => simp [intOf]; omega
      · obtain rfl : k = n3 := by omega
        have hall : Hid (ks.take k = ks) := List.take_of_length_le (by rw [HK.out]; exact Nat.le_refl _)
        rw [hall.out]
        go_wp2_with fail
        go_ret
        exact ⟨ret_i64 (by rw [HD.out]; rfl), hbw⟩
def SomeBool (w : World) (e : Ending) (w' : World) : Prop := ∃ b : Bool, e = .returned (.bool b) ∧ Below w.heap.size w w'
set_option maxHeartbeats 2000000 in
set_option maxRecDepth 100000 in
theorem great_any (t : SX) : ∀ (w : World) (S : Nat → Prop) (cs : List Value) (a : Int), SIn w S t cs → 0 ≤ a → a ≤ 61 →
    Calls Tryz.prog 9 #[.agg cs.toArray, .int .i64 a] w (SomeBool w) := by
  induction t using SX.ind with
  | H l h hi da ks ih =>
    intro w S cs a hs ha0 ha1
    obtain ⟨_, _, _, _, _, A1, n1, c1, A2, n2, c2, A3, n3, c3, e, rfl⟩ := hs.form_
    cases e
    obtain ⟨_, _, _, _, _, _, hk, b11, b12, b21, b22, b31, b32⟩ := hs.inv
    have HK := hid hk
    have HS := hid hs
    have IH := hid ih
    clear hk hs ih
    by_cases g1 : 60 < a
    · go_enter Tryz.func9, Tryz.ntmps9
      go_wp2_with fail
      go_ret
      exact ⟨_, rfl, below_new _ _⟩
    by_cases g2 : 700 < n3
    · go_enter Tryz.func9, Tryz.ntmps9
      go_wp2_with fail
      go_ret
      exact ⟨_, rfl, below_new _ _⟩
    by_cases g3 : 5000 < n1
    · go_enter Tryz.func9, Tryz.ntmps9
      go_wp2_with fail
      go_ret
      exact ⟨_, rfl, below_new _ _⟩
    by_cases g4 : 5000 < n2
    · go_enter Tryz.func9, Tryz.ntmps9
      go_wp2_with fail
      go_ret
      exact ⟨_, rfl, below_new _ _⟩
    go_enter Tryz.func9, Tryz.ntmps9
    go_wp2_with fail
    go_loopw [29] (fun i wr => ∃ k : Nat, k ≤ n3 ∧ i = .int .i64 k ∧ Below (w.heap.size + 1) (w.alloc (Obj.cells #[Value.bool l, Value.bool h, Value.slice A1 n1 c1, Value.slice A2 n2 c2, Value.slice A3 n3 c3] 25)) wr) (fun i _ => n3 - (intOf i).toNat)
    case atStart => exact ⟨0, Nat.zero_le _, rfl, Below.refl _ _⟩
    case round =>
      obtain ⟨k, hkn, rfl, hbel⟩ := hrel
      have hbw := below_box hbel
      obtain ⟨e0, e1, e2, e3, e4⟩ := box5 hbel
      have hsz : w.heap.size + 1 ≤ wr.heap.size := by have := hbel.size; simpa using this
      by_cases hlt : k < n3
      · obtain ⟨ad, v0, v1, v2, v3, v4, t, rfl, hS, hks, hm, hin, d0, d1, d2, d3, d4⟩ := (HS.out.old hbw).kid hlt
        have HM := hid hm
        clear hks hm e0 e1 e2 e3
        go_wp2_with ((with_reducible refine (IH.out t HM.out _ S _ (a + 1) hin (by omega) (by omega)).mono ?_); rintro e w2 ⟨b, rfl, hb2⟩; rcases b with _ | _)
        · go_roundw
          case rel => exact ⟨k + 1, by omega, by go_num, hbel.trans (hb2.mono (by omega))⟩
          case measure => simp [intOf]; omega
        · go_ret
          exact ⟨_, rfl, hbw.trans (hb2.mono (by omega))⟩
      · obtain rfl : k = n3 := by omega
        have hin := HS.out.old hbw
        by_cases ha : a = 0
        · subst ha
          go_wp2_with ((with_reducible refine (nodes_any _ _ S _ hin).mono ?_); rintro e w2 ⟨rfl, hb2⟩)
          go_ret
          exact ⟨_, rfl, hbw.trans (hb2.mono (by omega))⟩
        · have ha' : 0 < a := by omega
          have ha2 : (a == 0) = false := by rw [beq_eq_false_iff_ne]; exact ha
          go_wp2_with fail
          go_ret
          exact ⟨_, rfl, hbw⟩
end Go.Proofs.YtcojkmcnigppbaaGreatDoor
end
section
namespace Go.Proofs.YtcojkmcnigppbaaGreatDoor
open Go Go.Proofs Go.RowKit Sx
theorem deep_le_nodes (t : SX) : deep t ≤ nodes t := by
  induction t using SX.ind with
  | H l h hi da ks ih =>
    have : deepL ks ≤ nodesL ks := by
      induction ks with
      | nil => simp [deepL, nodesL]
      | cons a r ihr =>
        have h1 := ih a (by simp)
        have h2 := ihr (fun k hk => ih k (by simp [hk]))
        simp [deepL, nodesL]; omega
    rw [deep, nodes]
    split <;> omega
theorem wrap_id (a : Int) (h : -9223372036854775808 ≤ a ∧ a ≤ 9223372036854775807) : wrap64 a = a := by unfold wrap64; omega
theorem ret_bool {a b : Bool} (h : a = b) : Ending.returned (.bool a) = .returned (.bool b) := by rw [h]
set_option maxHeartbeats 2000000 in
set_option maxRecDepth 100000 in
theorem refMay_any (t : SX) (w : World) (S : Nat → Prop) (cs : List Value) (hs : SIn w S t cs) (hn : nodes t ≤ 1099511627776) (hf : (form t).length ≤ 1099511627776) :
    Calls Tryz.prog 13 #[.agg cs.toArray] w fun e w' => e = .returned (.bool (may t)) ∧ Below w.heap.size w w' := by
  obtain ⟨l, h, hi, da, ks, A1, n1, c1, A2, n2, c2, A3, n3, c3, e, rfl⟩ := hs.form_
  have hdn := deep_le_nodes t
  have hM : Hid (may t = (clean t && decide (nodes t ≤ 512) && decide (deep t ≤ 16) && decide ((form t).length ≤ 4096))) := rfl
  have HW := hid (wrap_id (nodes t) (by omega))
  have hs1 := hs.old (below_new w (.cells #[Value.bool l, Value.bool h, Value.slice A1 n1 c1, Value.slice A2 n2 c2, Value.slice A3 n3 c3] 25))
  have hx := heap_alloc_new w (.cells #[Value.bool l, Value.bool h, Value.slice A1 n1 c1, Value.slice A2 n2 c2, Value.slice A3 n3 c3] 25)
  have hb0 := below_new w (.cells #[Value.bool l, Value.bool h, Value.slice A1 n1 c1, Value.slice A2 n2 c2, Value.slice A3 n3 c3] 25)
  have HX := hid hx
  have C1 := hid (clean_any t _ S _ hs1)
  have C2 := hid (fun W hb => nodes_any t W S _ (hs1.old hb))
  have C3 := hid (fun W hb => deep_any t W S _ (hs1.old hb) (by omega))
  have C4 := hid (fun W hb => form_any t W S _ (hs1.old hb) hf)
  clear hs hx hs1 e
  generalize clean t = c at *
  generalize nodes t = nn at *
  generalize deep t = dd at *
  generalize form t = ff at *
  rw [hM.out]
  clear hM
  cases c with
  | false =>
    go_enter Tryz.func13, Tryz.ntmps13
    go_wp2_with ((with_reducible refine C1.out.mono ?_); rintro e w2 ⟨rfl, hb2⟩)
    go_ret
    exact ⟨rfl, hb0.trans (hb2.mono (by simp))⟩
  | true =>
  by_cases g1 : 512 < nn
  · go_enter Tryz.func13, Tryz.ntmps13
    go_wp2_with (first
      | ((with_reducible refine C1.out.mono ?_); rintro e w2 ⟨rfl, hb2⟩; obtain ⟨e0, e1, e2, e3, e4⟩ := box5b (below_at hb2 HX.out))
      | ((with_reducible refine (C2.out _ hb2).mono ?_); rintro e w3 ⟨rfl, hb3⟩; rw [HW.out]; have hb3 := hb2.trans (hb3.mono hb2.size); clear e0 e1 e2 e3 e4; obtain ⟨e0, e1, e2, e3, e4⟩ := box5b (below_at hb3 HX.out)))
    go_ret
    exact ⟨ret_bool (by simp; omega), hb0.trans (hb3.mono (by simp))⟩
  by_cases g2 : 16 < dd
  · go_enter Tryz.func13, Tryz.ntmps13
    go_wp2_with (first
      | ((with_reducible refine C1.out.mono ?_); rintro e w2 ⟨rfl, hb2⟩; obtain ⟨e0, e1, e2, e3, e4⟩ := box5b (below_at hb2 HX.out))
      | ((with_reducible refine (C2.out _ hb2).mono ?_); rintro e w3 ⟨rfl, hb3⟩; rw [HW.out]; have hb3 := hb2.trans (hb3.mono hb2.size); clear e0 e1 e2 e3 e4; obtain ⟨e0, e1, e2, e3, e4⟩ := box5b (below_at hb3 HX.out))
      | ((with_reducible refine (C3.out _ hb3).mono ?_); rintro e w4 ⟨rfl, hb4⟩; have hb4 := hb3.trans (hb4.mono hb3.size); clear e0 e1 e2 e3 e4; obtain ⟨e0, e1, e2, e3, e4⟩ := box5b (below_at hb4 HX.out)))
    go_ret
    exact ⟨ret_bool (by simp; omega), hb0.trans (hb4.mono (by simp))⟩
  go_enter Tryz.func13, Tryz.ntmps13
  go_wp2_with (first
    | ((with_reducible refine C1.out.mono ?_); rintro e w2 ⟨rfl, hb2⟩; obtain ⟨e0, e1, e2, e3, e4⟩ := box5b (below_at hb2 HX.out))
    | ((with_reducible refine (C2.out _ hb2).mono ?_); rintro e w3 ⟨rfl, hb3⟩; rw [HW.out]; have hb3 := hb2.trans (hb3.mono hb2.size); clear e0 e1 e2 e3 e4; obtain ⟨e0, e1, e2, e3, e4⟩ := box5b (below_at hb3 HX.out))
    | ((with_reducible refine (C3.out _ hb3).mono ?_); rintro e w4 ⟨rfl, hb4⟩; have hb4 := hb3.trans (hb4.mono hb3.size); clear e0 e1 e2 e3 e4; obtain ⟨e0, e1, e2, e3, e4⟩ := box5b (below_at hb4 HX.out))
    | ((with_reducible refine (C4.out _ hb4).mono ?_); rintro e w5 ⟨Ar, cr, rfl, hcr, hrr, hb5⟩; have hb5 := hb4.trans (hb5.mono hb4.size)))
  go_ret
  exact ⟨ret_bool (by rw [decide_eq_true (show nn ≤ 512 by omega), decide_eq_true (show dd ≤ 16 by omega)]; simp only [Bool.true_and]; rw [decide_eq_decide]; omega), hb0.trans (hb5.mono (by simp))⟩
end Go.Proofs.YtcojkmcnigppbaaGreatDoor
end
section
namespace Go.Proofs.YtcojkmcnigppbaaGreatDoor
open Go Go.Proofs Go.RowKit Sx
theorem stringSize_any (A : Option Addr) (n c : Nat) (l : List UInt8) (w : World) (hl : l.length = n) (hn : n ≤ 140737488355328) (ht : Tab w) :
    Calls Tryz.prog 102 #[.slice A n c] w fun e w' => e = .returned (.int .i64 ((text l).length : Nat)) ∧ Below w.heap.size w w' := by
  have hd : (Lib.decDigits n).length ≤ 20 := Oct.dec_length 19 n (by omega)
  have HT : Hid (((text l).length : Int) = (Lib.decDigits n).length + 1 + n) := by show _ = _; rw [text_length, hl]; simp
  have HP := hid (putLen_any (n : Int) w (by omega) (by omega) ht)
  have e : ((n : Int).toNat) = n := by omega
  rw [e] at HP
  rw [HT.out]
  clear ht e
  generalize Lib.decDigits n = D at *
  have hsz : (⟨D.toArray⟩ : ByteArray).size = D.length := by show D.toArray.size = _; simp
  go_enter Tryz.func102, Tryz.ntmps102
  go_wp2_with ((with_reducible refine HP.out.mono ?_); rintro e w1 ⟨rfl, hb1⟩)
  go_ret
  exact ⟨ret_i64 (by omega), hb1⟩
set_option maxHeartbeats 1000000 in
set_option maxRecDepth 100000 in
theorem wellMade_any (t : SX) (l h : Bool) (hi da : List UInt8) (ks : List SX) (w : World) (S : Nat → Prop) (cs : List Value) (hs : SIn w S (.mk l h hi da ks) cs) :
    Calls Tryz.prog 68 #[.agg cs.toArray] w fun e w' => e = .returned (.bool (well l h hi da ks)) ∧ Below w.heap.size w w' := by
  obtain ⟨_, _, _, _, _, A1, n1, c1, A2, n2, c2, A3, n3, c3, e, rfl⟩ := hs.form_
  cases e
  obtain ⟨_, _, _, _, g1, g2, g3, b11, b12, b21, b22, b31, b32⟩ := hs.inv
  have hw := well_ways l h hi da ks
  rw [g1, g2, g3] at hw
  clear hs g1 g2 g3
  rcases hw with ⟨hw, rfl, rfl⟩ | ⟨hw, rfl, rfl, hn⟩ | ⟨hw, rfl, rfl, rfl, hn⟩ | ⟨hw, rfl, hn⟩ | ⟨hw, rfl, rfl, rfl, hn⟩ | ⟨hw, rfl, rfl, rfl, rfl⟩ | ⟨hw, rfl, rfl, rfl⟩ | ⟨hw, rfl, rfl, rfl, rfl⟩
  all_goals
    rw [hw]
    clear hw
    try have hnb1 : ((n1 : Int) == 0) = false := by rw [beq_eq_false_iff_ne]; omega
    try have hnb2 : ((n2 : Int) == 0) = false := by rw [beq_eq_false_iff_ne]; omega
    try have hnb3 : ((n3 : Int) == 0) = false := by rw [beq_eq_false_iff_ne]; omega
    go_enter Tryz.func68, Tryz.ntmps68
    go_wp2_with fail
    go_ret
    exact ⟨rfl, below_new _ _⟩
set_option maxHeartbeats 1000000 in
set_option maxRecDepth 100000 in
theorem ownSize_any (l h : Bool) (hi da : List UInt8) (ks : List SX) (w : World) (S : Nat → Prop) (cs : List Value) (hs : SIn w S (.mk l h hi da ks) cs) (ht : Tab w) :
    Calls Tryz.prog 70 #[.agg cs.toArray] w fun e w' => e = .returned (.int .i64 (own l h hi da : Nat)) ∧ Below w.heap.size w w' := by
  obtain ⟨_, _, _, _, _, A1, n1, c1, A2, n2, c2, A3, n3, c3, e, rfl⟩ := hs.form_
  cases e
  obtain ⟨_, _, _, _, g1, g2, g3, b11, b12, b21, b22, b31, b32⟩ := hs.inv
  have ht' := ht.old (below_new w (.cells #[Value.bool l, Value.bool h, Value.slice A1 n1 c1, Value.slice A2 n2 c2, Value.slice A3 n3 c3] 25))
  have hb0 := below_new w (.cells #[Value.bool l, Value.bool h, Value.slice A1 n1 c1, Value.slice A2 n2 c2, Value.slice A3 n3 c3] 25)
  have HX := hid (heap_alloc_new w (.cells #[Value.bool l, Value.bool h, Value.slice A1 n1 c1, Value.slice A2 n2 c2, Value.slice A3 n3 c3] 25))
  have C1 := hid (stringSize_any A2 n2 c2 da _ g2 b22 ht')
  have C2 := hid (fun W hb => stringSize_any A1 n1 c1 hi W g1 b12 (ht'.old hb))
  have hl1 : (text hi).length ≤ 140737488355328 + 21 := by rw [text_length, g1]; have := Oct.dec_length 19 n1 (by omega); omega
  have hl2 : (text da).length ≤ 140737488355328 + 21 := by rw [text_length, g2]; have := Oct.dec_length 19 n2 (by omega); omega
  have HO : Hid (own l h hi da = if l then 2 else (if h then 2 + (text hi).length else 0) + (text da).length) := rfl
  rw [HO.out]
  clear hs g1 g2 g3 ht ht' HO
  generalize (text hi).length = p at *
  generalize (text da).length = q at *
  cases l with
  | true =>
    go_enter Tryz.func70, Tryz.ntmps70
    go_wp2_with fail
    go_ret
    exact ⟨rfl, hb0⟩
  | false =>
    cases h with
    | true =>
      go_enter Tryz.func70, Tryz.ntmps70
      go_wp2_with (first
        | ((with_reducible refine C1.out.mono ?_); rintro e w2 ⟨rfl, hb2⟩; obtain ⟨e0, e1, e2, e3, e4⟩ := box5b (below_at hb2 HX.out))
        | ((with_reducible refine (C2.out _ hb2).mono ?_); rintro e w3 ⟨rfl, hb3⟩))
      go_ret
      exact ⟨ret_i64 (by omega), hb0.trans ((hb2.trans (hb3.mono hb2.size)).mono (by simp))⟩
    | false =>
      go_enter Tryz.func70, Tryz.ntmps70
      go_wp2_with ((with_reducible refine C1.out.mono ?_); rintro e w2 ⟨rfl, hb2⟩; obtain ⟨e0, e1, e2, e3, e4⟩ := box5b (below_at hb2 HX.out))
      go_ret
      exact ⟨ret_i64 (by omega), hb0.trans (hb2.mono (by simp))⟩
def RoomAt (w : World) (r : Nat) (n b : Int) : Prop := w.heap[r]? = some (Obj.cells #[.int .i64 n, .int .i64 b] 68 (0, 0))
theorem RoomAt.all {w : World} {r : Nat} {n b : Int} (h : RoomAt w r n b) : w.cell? ⟨r, 0, none⟩ = some (.int .i64 n) ∧ w.cell? ⟨r, 1, none⟩ = some (.int .i64 b) ∧ w.frozen? ⟨r, 0, none⟩ = false ∧ w.frozen? ⟨r, 1, none⟩ = false := by
  refine ⟨?_, ?_, ?_, ?_⟩
  · rw [Lib.cell_of_heap h]; rfl
  · rw [Lib.cell_of_heap h]; rfl
  · unfold RoomAt at h; simp [World.frozen?, h]
  · unfold RoomAt at h; simp [World.frozen?, h]
theorem RoomAt.lt {w : World} {r : Nat} {n b : Int} (h : RoomAt w r n b) : r < w.heap.size := by
  rcases Nat.lt_or_ge r w.heap.size with h' | h'
  · exact h'
  · unfold RoomAt at h; rw [Array.getElem?_eq_none h'] at h; cases h
theorem RoomAt.old {w w' : World} {r : Nat} {n b : Int} (h : RoomAt w r n b) (hb : Below w.heap.size w w') : RoomAt w' r n b := below_at hb h
theorem grown_set (w : World) (r i : Nat) (x : Value) : w.grownBy (w.setCell ⟨r, i, none⟩ x) (some r) :=
  ⟨rfl, rfl, rfl, by simp, fun k _ hk => Below.heap_setCell w ⟨r, i, none⟩ x k (fun e => hk (by rw [e]))⟩
theorem grown_below {w w' : World} (h : Below w.heap.size w w') (row : Option Nat) : w.grownBy w' row := ⟨h.os, h.tape, h.output, h.size, fun k hk _ => h.block k hk⟩
def TakeEnd (w : World) (r : Nat) (n b s : Nat) (e : Ending) (w' : World) : Prop :=
  e = .returned (.bool (decide (1 ≤ n ∧ s ≤ b))) ∧ RoomAt w' r ((n : Int) - 1) ((b : Int) - s) ∧ w.grownBy w' (some r) ∧ w'.heap.size = w.heap.size
set_option maxHeartbeats 1000000 in
set_option maxRecDepth 100000 in
theorem take_any (r n b s : Nat) (w : World) (hr : RoomAt w r n b) (hn : n ≤ 512) (hb : b ≤ 4096) (hs : s ≤ 1125899906842624) :
    Calls Tryz.prog 69 #[.pointer (some ⟨r, 0, none⟩), .int .i64 s] w (TakeEnd w r n b s) := by
  obtain ⟨c0, c1, f0, f1⟩ := hr.all
  have h1 : RoomAt ((w.setCell ⟨r, 0, none⟩ (.int .i64 ((n : Int) - 1))).setCell ⟨r, 1, none⟩ (.int .i64 ((b : Int) - s))) r ((n : Int) - 1) ((b : Int) - s) :=
    Joins.block_setCell (Joins.block_setCell hr _) _
  have h2 := (grown_set w r 0 (.int .i64 ((n : Int) - 1))).trans (grown_set _ r 1 (.int .i64 ((b : Int) - s)))
  have h3 : ((w.setCell ⟨r, 0, none⟩ (.int .i64 ((n : Int) - 1))).setCell ⟨r, 1, none⟩ (.int .i64 ((b : Int) - s))).heap.size = w.heap.size := by simp
  have H := hid (And.intro h1 (And.intro h2 h3))
  clear h1 h2 h3 hr
  by_cases q1 : 1 ≤ n
  · go_enter Tryz.func69, Tryz.ntmps69
    go_wp2_with fail
    go_ret
    exact ⟨ret_bool (by rw [decide_eq_decide]; omega), H.out⟩
  · go_enter Tryz.func69, Tryz.ntmps69
    go_wp2_with fail
    go_ret
    exact ⟨ret_bool (by symm; rw [decide_eq_false_iff_not]; omega), H.out⟩
def HoldsEnd (w : World) (r : Nat) (t : SX) (n b a : Nat) (e : Ending) (w' : World) : Prop :=
  ∃ n' b' : Int, e = .returned (.bool (fits t n b a)) ∧ RoomAt w' r n' b' ∧ (fits t n b a = true → n' = (n : Int) - nodes t ∧ b' = (b : Int) - (form t).length) ∧ w.grownBy w' (some r)
set_option maxHeartbeats 4000000 in
set_option maxRecDepth 100000 in
theorem holds_any (t : SX) : ∀ (w : World) (S : Nat → Prop) (cs : List Value) (r n b a : Nat), SIn w S t cs → (∀ k, S k → k ≠ r) → RoomAt w r n b → n ≤ 512 → b ≤ 4096 → a ≤ 16 → Tab w → r ≠ 3 →
    Calls Tryz.prog 43 #[.pointer (some ⟨r, 0, none⟩), .agg cs.toArray, .int .i64 a] w (HoldsEnd w r t n b a) := by
  induction t using SX.ind with
  | H l h hi da ks ih =>
    intro w S cs r n b a hs hS hR hn hb ha ht hrG
    obtain ⟨_, _, _, _, _, A1, n1, c1, A2, n2, c2, A3, n3, c3, e, rfl⟩ := hs.form_
    cases e
    obtain ⟨_, _, _, _, g1, g2, g3, b11, b12, b21, b22, b31, b32⟩ := hs.inv
    have hso : own l h hi da ≤ 1125899906842624 := by
      have h1 : (text hi).length ≤ 140737488355328 + 21 := by rw [text_length, g1]; have := Oct.dec_length 19 n1 (by omega); omega
      have h2 : (text da).length ≤ 140737488355328 + 21 := by rw [text_length, g2]; have := Oct.dec_length 19 n2 (by omega); omega
      unfold own
      split
      · omega
      · split <;> omega
    have hs0 := hs
    have HT0 := hid ht
    have hb0 := below_new w (.cells #[Value.bool l, Value.bool h, Value.slice A1 n1 c1, Value.slice A2 n2 c2, Value.slice A3 n3 c3] 25)
    have hs1 := hs.old hb0
    have hR1 := hR.old hb0
    have hrl := hR.lt
    have ht1 := ht.old hb0
    have HX := hid (heap_alloc_new w (.cells #[Value.bool l, Value.bool h, Value.slice A1 n1 c1, Value.slice A2 n2 c2, Value.slice A3 n3 c3] 25))
    have hsz0 : (w.alloc (.cells #[Value.bool l, Value.bool h, Value.slice A1 n1 c1, Value.slice A2 n2 c2, Value.slice A3 n3 c3] 25)).heap.size = w.heap.size + 1 := by simp
    have C1 := hid (wellMade_any (.mk l h hi da ks) l h hi da ks _ S _ hs1)
    have C2 := hid (fun W hb => ownSize_any l h hi da ks W S _ (hs1.old hb) (ht1.old hb))
    have HF1 := fits_well (l := l) (h := h) (hi := hi) (da := da) (ks := ks) (n := n) (b := b) (a := a)
    have HF2 := fits_room (l := l) (h := h) (hi := hi) (da := da) (ks := ks) (n := n) (b := b) (a := a)
    have HF3 := fun hl : l = true => hl ▸ fits_deep (h := h) (hi := hi) (da := da) (ks := ks) (n := n) (b := b) (a := a)
    have HF4 := hid (fun k t hw hk n' b' => fits_kid (l := l) (h := h) (hi := hi) (da := da) (ks := ks) (n := n) (b := b) (a := a) (k := k) (t := t) hw hk (n' := n') (b' := b'))
    have HF5 := hid (fun hw n' b' => fits_all (l := l) (h := h) (hi := hi) (da := da) (ks := ks) (n := n) (b := b) (a := a) hw (n' := n') (b' := b'))
    have HFO := hid (form_own l h hi da ks)
    have hgw : w.grownBy (w.alloc (.cells #[Value.bool l, Value.bool h, Value.slice A1 n1 c1, Value.slice A2 n2 c2, Value.slice A3 n3 c3] 25)) (some r) := grown_below hb0 _
    clear hs hs1 hR ht hsz0
    generalize own l h hi da = s at *
    cases hw : well l h hi da ks with
    | false =>
      rw [hw] at C1
      have HFF := hid (HF1 hw)
      unfold HoldsEnd
      rw [HFF.out]
      clear HF1 HF2 HF3 hw
      go_enter Tryz.func43, Tryz.ntmps43
      go_wp2_with ((with_reducible refine C1.out.mono ?_); rintro e w2 ⟨rfl, hb2⟩)
      go_ret
      exact ⟨_, _, rfl, hR1.old hb2, fun h => by (cases h), hgw.trans (grown_below hb2 _)⟩
    | true =>
      have HW := hid hw
      rw [hw] at C1
      clear HF1 hw
      by_cases q1 : ¬ (1 ≤ n ∧ s ≤ b)
      · have HFF := hid (HF2 q1)
        have q1' : decide (1 ≤ n ∧ s ≤ b) = false := by rw [decide_eq_false_iff_not]; exact q1
        have HQ := hid q1'
        unfold HoldsEnd
        rw [HFF.out]
        clear HF2 HF3 q1 q1'
        go_enter Tryz.func43, Tryz.ntmps43
        go_wp2_with (first
          | ((with_reducible refine C1.out.mono ?_); rintro e w2 ⟨rfl, hb2⟩; obtain ⟨e0, e1, e2, e3, e4⟩ := box5b (below_at hb2 HX.out))
          | ((with_reducible refine (C2.out _ hb2).mono ?_); rintro e w3 ⟨rfl, hb3⟩; have hb4 := hb2.trans (hb3.mono hb2.size))
          | ((with_reducible refine (take_any r n b s _ (hR1.old hb4) hn hb hso).mono ?_); rintro e w4 ⟨rfl, hR4, hg4, hz4⟩; rw [HQ.out]))
        go_ret
        exact ⟨_, _, rfl, hR4, fun h => by (cases h), (hgw.trans (grown_below hb4 _)).trans hg4⟩
      · have q1 := Classical.not_not.1 q1
        have q1' : decide (1 ≤ n ∧ s ≤ b) = true := by rw [decide_eq_true_iff]; exact q1
        have HQ := hid q1'
        obtain ⟨nn, rfl⟩ : ∃ nn, n = nn + 1 := ⟨n - 1, by omega⟩
        obtain ⟨bb, rfl⟩ : ∃ bb, b = bb + s := ⟨b - s, by omega⟩
        clear HF2 q1 q1'
        by_cases q2 : l = true ∧ 16 ≤ a
        · obtain ⟨rfl, q2⟩ := q2
          have HFF := hid (HF3 rfl q2)
          unfold HoldsEnd
          rw [HFF.out]
          clear HF3
          have q2' : (16 : Int) ≤ a := by omega
          go_enter Tryz.func43, Tryz.ntmps43
          go_wp2_with (first
          | ((with_reducible refine C1.out.mono ?_); rintro e w2 ⟨rfl, hb2⟩; obtain ⟨e0, e1, e2, e3, e4⟩ := box5b (below_at hb2 HX.out))
          | ((with_reducible refine (C2.out _ hb2).mono ?_); rintro e w3 ⟨rfl, hb3⟩; have hb4 := hb2.trans (hb3.mono hb2.size)))
          refine (take_any r (nn + 1) (bb + s) s _ (hR1.old hb4) hn hb hso).mono ?_
          rintro e w4 ⟨rfl, hR4, hg4, hz4⟩
          rw [HQ.out]
          have HX4 := hid ((hg4.block w.heap.size (by have := hb4.size; simp at this; omega) (fun e => by injection e with e; omega)).trans (below_at hb4 HX.out))
          clear e0 e1 e2 e3 e4
          obtain ⟨e0, e1, e2, e3, e4⟩ := box5b HX4.out
          go_wp2_with fail
          go_ret
          exact ⟨_, _, rfl, hR4, fun h => by (cases h), (hgw.trans (grown_below hb4 _)).trans hg4⟩
        · clear HF3
          have hln : 0 < n3 → l = true ∧ a < 16 := by
            intro h0
            have hl : l = true := by
              cases l
              · have hw := HW.out
                have : ks.isEmpty = true := by simp [well] at hw; simpa using hw.1
                have hnil : ks = [] := by simpa using this
                rw [hnil] at g3
                simp at g3
                omega
              · rfl
            exact ⟨hl, by rcases Nat.lt_or_ge a 16 with h | h; exact h; exact absurd ⟨hl, h⟩ q2⟩
          have hla : l = true → a < 16 := fun hl => by rcases Nat.lt_or_ge a 16 with h | h; exact h; exact absurd ⟨hl, h⟩ q2
          have HLN := hid hln
          have HLA := hid hla
          have HK := hid g3
          have IH := hid ih
          have HSR := hid hS
          have HS0 := hid hs0
          have q2' : l = true → (a : Int) < 16 := fun hl => by have := hla hl; omega
          have q3 : (l && decide (16 ≤ (a : Int))) = false := by
            cases l
            · rfl
            · have := q2' rfl
              simp; omega
          cases hlc : l with
          | false =>
            subst hlc
            have hz : n3 = 0 := by
              rcases Nat.eq_zero_or_pos n3 with h | h
              · exact h
              · have := (hln h).1; cases this
            subst hz
            have hnil : Hid (ks = []) := List.eq_nil_of_length_eq_zero g3
            have HFF := hid (HF5.out HW.out nn bb (by rw [hnil.out]; simp [nodesL]) (by rw [hnil.out]; simp [formL]) (by rw [hnil.out]; rfl) (fun h => by cases h) (fun t ht => by rw [hnil.out] at ht; cases ht) ha)
            have hN : Hid (nodes (.mk false h hi da ks) = 1) := by show _ = _; rw [nodes, hnil.out]; rfl
            have hFl : Hid ((form (.mk false h hi da ks)).length = s) := by show _ = _; rw [HFO.out HW.out, hnil.out]; rfl
            clear hln hla g3 ih hS q2 q2' q3 hs0
            go_enter Tryz.func43, Tryz.ntmps43
            go_wp2_with (first
            | ((with_reducible refine C1.out.mono ?_); rintro e w2 ⟨rfl, hb2⟩; obtain ⟨e0, e1, e2, e3, e4⟩ := box5b (below_at hb2 HX.out))
            | ((with_reducible refine (C2.out _ hb2).mono ?_); rintro e w3 ⟨rfl, hb3⟩; have hb4 := hb2.trans (hb3.mono hb2.size))
            | ((with_reducible refine (take_any r (nn + 1) (bb + s) s _ (hR1.old hb4) hn hb hso).mono ?_); rintro e w4 ⟨rfl, hR4, hg4, hz4⟩; rw [HQ.out]; have HX4 := hid ((hg4.block w.heap.size (by have := hb4.size; simp at this; omega) (fun e => by injection e with e; omega)).trans (below_at hb4 HX.out)); clear e0 e1 e2 e3 e4; obtain ⟨e0, e1, e2, e3, e4⟩ := box5b HX4.out))
            have hR4' : RoomAt w4 r nn bb := by
              have e1 : ((nn + 1 : Nat) : Int) - 1 = nn := by omega
              have e2 : ((bb + s : Nat) : Int) - s = bb := by omega
              rw [e1, e2] at hR4
              exact hR4
            go_loopw [30] (fun i wr => i = .int .i64 0 ∧ wr = w4) (fun i _ => 0)
            case atStart => exact ⟨rfl, rfl⟩
            case round =>
              obtain ⟨rfl, rfl⟩ := hrel
              go_wp2_with fail
              go_ret
              exact ⟨nn, bb, ret_bool (by rw [HFF.out]), hR4', fun _ => ⟨by rw [hN.out]; omega, by rw [hFl.out]; omega⟩, (hgw.trans (grown_below hb4 _)).trans hg4⟩
          | true =>
          subst hlc
          have q4 : (a : Int) < 16 := q2' rfl
          clear hln hla g3 ih hS q2 q2' q3 hs0
          go_enter Tryz.func43, Tryz.ntmps43
          go_wp2_with (first
          | ((with_reducible refine C1.out.mono ?_); rintro e w2 ⟨rfl, hb2⟩; obtain ⟨e0, e1, e2, e3, e4⟩ := box5b (below_at hb2 HX.out))
          | ((with_reducible refine (C2.out _ hb2).mono ?_); rintro e w3 ⟨rfl, hb3⟩; have hb4 := hb2.trans (hb3.mono hb2.size))
          | ((with_reducible refine (take_any r (nn + 1) (bb + s) s _ (hR1.old hb4) hn hb hso).mono ?_); rintro e w4 ⟨rfl, hR4, hg4, hz4⟩; rw [HQ.out]; have HX4 := hid ((hg4.block w.heap.size (by have := hb4.size; simp at this; omega) (fun e => by injection e with e; omega)).trans (below_at hb4 HX.out)); clear e0 e1 e2 e3 e4; obtain ⟨e0, e1, e2, e3, e4⟩ := box5b HX4.out))
          have hR4' : RoomAt w4 r nn bb := by
            have e1 : ((nn + 1 : Nat) : Int) - 1 = nn := by omega
            have e2 : ((bb + s : Nat) : Int) - s = bb := by omega
            rw [e1, e2] at hR4
            exact hR4
          have hgw4 := (hgw.trans (grown_below hb4 _)).trans hg4
          go_loopw [30] (fun i wr => ∃ k n' b' : Nat, k ≤ n3 ∧ i = .int .i64 k ∧ RoomAt wr r n' b' ∧ n' + nodesL (ks.take k) = nn ∧ b' + (formL (ks.take k)).length = bb ∧ Hid (cleanL (ks.take k) = true) ∧ Hid (∀ t ∈ ks.take k, a + 1 + deep t ≤ 16) ∧ w.grownBy wr (some r) ∧ Hid (wr.heap[w.heap.size]? = some (Obj.cells #[Value.bool true, Value.bool h, Value.slice A1 n1 c1, Value.slice A2 n2 c2, Value.slice A3 n3 c3] 25 (0, 0)))) (fun i _ => n3 - (intOf i).toNat)
          case atStart => exact ⟨0, nn, bb, Nat.zero_le _, rfl, hR4', rfl, rfl, rfl, fun t ht => by simp at ht, hgw4, HX4⟩
          case round =>
            obtain ⟨k, n', b', hkn, rfl, hRr, hn', hb', hcl, hdp, hgr, hXr⟩ := hrel
            clear hR4' hgw4 hR4 hg4 hz4 hb2 hb3 hb4 e0 e1 e2 e3 e4 C1 C2 hgw hR1
            by_cases hlt : k < n3
            · obtain ⟨ad, v0, v1, v2, v3, v4, t, rfl, hSa, hks, hm, hin, d0, d1, d2, d3, d4⟩ := (HS0.out.grown hgr (fun b hb h => HSR.out b hb (by injection h))).kid hlt
              obtain ⟨e0, e1, e2, e3, e4⟩ := box5b hXr.out
              obtain ⟨l', h', hi', da', ks', B1, m1, j1, B2, m2, j2, B3, m3, j3, _, eE⟩ := hin.form_
              injection eE with eE0 eE; injection eE with eE1 eE; injection eE with eE2 eE; injection eE with eE3 eE; injection eE with eE4 eE
              subst eE0 eE1 eE2 eE3 eE4
              have hbk := below_new wr (.cells #[Value.bool l', Value.bool h', Value.slice B1 m1 j1, Value.slice B2 m2 j2, Value.slice B3 m3 j3] 25)
              have hin2 := hin.old hbk
              have hR2 := hRr.old hbk
              have hlc := (HLN.out (by omega)).2
              have htk : Tab wr := HT0.out.grown hgr (fun e => hrG (by injection e))
              have hM := hid hm
              have hdN := nodesL_take ks k t hks
              have hdF := formL_take ks k t hks
              have hdC := cleanL_take ks k t hks
              have hkk := hid (take_snoc ks k t hks)
              have hD := hid (And.intro hks (And.intro hdN (And.intro hdF hdC)))
              clear hks hdN hdF hdC hm e0 e1 e2 e3
              have hcast : ((a + 1 : Nat) : Int) = (a : Int) + 1 := by omega
              have C := IH.out t hM.out _ S _ r n' b' (a + 1) hin2 HSR.out hR2 (by omega) (by omega) (by omega) (htk.old hbk) hrG
              rw [hcast] at C
              have HC := hid C
              have hgr2 := hgr.trans (grown_below hbk (some r))
              have hX2 := hid (below_at hbk hXr.out)
              have hNr : some w.heap.size ≠ some r := fun e => by injection e with e; omega
              have hNl := RoomAt.lt hR2
              have hwl : w.heap.size < wr.heap.size + 1 := by have := hgr.size; omega
              clear C hcast hR2 hin hin2 htk hbk
              by_cases hft : fits t n' b' (a + 1) = true
              · have HFT := hid hft
                obtain ⟨f1, f2, f3, f4⟩ := (fits_iff _ _ _ _).1 hft
                clear hft
                go_wp2_with ((with_reducible refine HC.out.mono ?_); rintro e w5 ⟨x, y, rfl, hR5, hxy, hg5⟩; rw [HFT.out])
                obtain ⟨rfl, rfl⟩ := hxy HFT.out
                have hX5 : w5.heap[w.heap.size]? = some (Obj.cells #[Value.bool true, Value.bool h, Value.slice A1 n1 c1, Value.slice A2 n2 c2, Value.slice (some ad) n3 c3] 25 (0, 0)) := (hg5.block w.heap.size (by simpa using hwl) hNr).trans hX2.out
                obtain ⟨o1, o2, o3, o4⟩ := hD.out
                refine ⟨⟨k + 1, n' - nodes t, b' - (form t).length, by omega, by go_num, ?_, ?_, ?_, ?_, ?_, hgr2.trans hg5, hX5⟩, by simp [intOf]; omega⟩
                · have e1 : ((n' - nodes t : Nat) : Int) = (n' : Int) - nodes t := by omega
                  have e2 : ((b' - (form t).length : Nat) : Int) = (b' : Int) - (form t).length := by omega
                  rw [e1, e2]; exact hR5
                · rw [o2]; omega
                · rw [o3, List.length_append]; omega
                · show _ = _
                  rw [o4, hcl.out, f1]; rfl
                · intro u hu
                  rw [hkk.out, List.mem_append, List.mem_singleton] at hu
                  rcases hu with hu | rfl
                  · exact hdp.out u hu
                  · exact f4
              · have hff : fits t n' b' (a + 1) = false := by simpa using hft
                have HFT := hid hff
                obtain ⟨o1, o2, o3, o4⟩ := hD.out
                have HFF := hid (HF4.out k t HW.out o1 n' b' (by omega) (by omega) hff)
                clear hft hff o1 o2 o3 o4
                go_wp2_with ((with_reducible refine HC.out.mono ?_); rintro e w5 ⟨x, y, rfl, hR5, hxy, hg5⟩; rw [HFT.out])
                go_ret
                exact ⟨_, _, ret_bool (by rw [HFF.out]), hR5, (fun h => by rw [HFF.out] at h; cases h), hgr2.trans hg5⟩
            · obtain rfl : k = n3 := by omega
              have hall : Hid (ks.take k = ks) := List.take_of_length_le (by rw [HK.out]; exact Nat.le_refl _)
              rw [hall.out] at hn' hb' hcl hdp
              have HFF := hid (HF5.out HW.out n' b' (by omega) (by omega) hcl.out HLA.out hdp.out ha)
              have hN : Hid (nodes (.mk true h hi da ks) = 1 + nodesL ks) := by show _ = _; rw [nodes]
              go_wp2_with fail
              go_ret
              refine ⟨n', b', ret_bool (by rw [HFF.out]), hRr, fun _ => ⟨by rw [hN.out]; omega, by rw [HFO.out HW.out]; omega⟩, hgr⟩
set_option maxHeartbeats 1000000 in
set_option maxRecDepth 100000 in
theorem may_any (t : SX) (w : World) (S : Nat → Prop) (cs : List Value) (hs : SIn w S t cs) (ht : Tab w) :
    Calls Tryz.prog 24 #[.agg cs.toArray] w fun e w' => e = .returned (.bool (may t)) ∧ Below w.heap.size w w' := by
  obtain ⟨l, h, hi, da, ks, A1, n1, c1, A2, n2, c2, A3, n3, c3, rfl, rfl⟩ := hs.form_
  have hb0 := below_new w (.cells #[Value.bool l, Value.bool h, Value.slice A1 n1 c1, Value.slice A2 n2 c2, Value.slice A3 n3 c3] 25)
  have hb1 := hb0.trans ((below_new (w.alloc (.cells #[Value.bool l, Value.bool h, Value.slice A1 n1 c1, Value.slice A2 n2 c2, Value.slice A3 n3 c3] 25)) (.cells #[.int .i64 512, .int .i64 4096] 68)).mono (by simp))
  have hR : RoomAt ((w.alloc (.cells #[Value.bool l, Value.bool h, Value.slice A1 n1 c1, Value.slice A2 n2 c2, Value.slice A3 n3 c3] 25)).alloc (.cells #[.int .i64 512, .int .i64 4096] 68)) (w.heap.size + 1) (512 : Nat) (4096 : Nat) := by
    have := heap_alloc_new (w.alloc (.cells #[Value.bool l, Value.bool h, Value.slice A1 n1 c1, Value.slice A2 n2 c2, Value.slice A3 n3 c3] 25)) (.cells #[.int .i64 512, .int .i64 4096] 68)
    have e : (w.alloc (.cells #[Value.bool l, Value.bool h, Value.slice A1 n1 c1, Value.slice A2 n2 c2, Value.slice A3 n3 c3] 25)).heap.size = w.heap.size + 1 := by simp
    rw [e] at this
    exact this
  have hlt := ht.lt
  have C := holds_any (.mk l h hi da ks) _ (fun b => S b ∧ b < w.heap.size) _ (w.heap.size + 1) 512 4096 0 (hs.size_.kept hb1 (fun b h => h.2)) (fun k h e => by have := h.2; omega) hR (by omega) (by omega) (by omega) (ht.old hb1) (by omega)
  have C0 : Calls Tryz.prog 43 #[.pointer (some ⟨w.heap.size + 1, 0, none⟩), .agg #[Value.bool l, Value.bool h, Value.slice A1 n1 c1, Value.slice A2 n2 c2, Value.slice A3 n3 c3], .int .i64 0] _ _ := C
  have HC := hid C0
  clear C0
  have HM := hid (may_fits (.mk l h hi da ks))
  have hsz : ((w.alloc (.cells #[Value.bool l, Value.bool h, Value.slice A1 n1 c1, Value.slice A2 n2 c2, Value.slice A3 n3 c3] 25)).alloc (.cells #[.int .i64 512, .int .i64 4096] 68)).heap.size = w.heap.size + 2 := by simp
  clear C hs ht hR
  go_enter Tryz.func24, Tryz.ntmps24
  go_wp2_with ((with_reducible refine HC.out.mono ?_); rintro e w5 ⟨x, y, rfl, hR5, hxy, hg5⟩)
  go_ret
  exact ⟨ret_bool (by rw [HM.out]), hb1.grown hg5 (by omega) (fun k hk => by injection hk with hk; omega)⟩
end Go.Proofs.YtcojkmcnigppbaaGreatDoor
end
section
namespace Sx
open Go Oct
inductive Res (α : Type) where
  | ok (a : α) (rest : List UInt8)
  | err (e : Nat) (rest : List UInt8)
def pLen (s : List UInt8) : Res Nat :=
  match s with
  | [] => .err 2 []
  | c :: r => if isDig c = false then .err 3 (c :: r) else if c = 48 then .ok 0 r else
    match digs 4096 (c :: r) 0 with
    | none => .err 4 (c :: r)
    | some (n, k) => .ok n ((c :: r).drop k)
def pBytes (s : List UInt8) : Res (List UInt8) :=
  match pLen s with
  | .err e r => .err e r
  | .ok n r =>
    match r with
    | [] => .err 2 []
    | c :: r' => if c ≠ 58 then .err 3 (c :: r') else if r'.length < n then .err 2 [] else .ok (r'.take n) (r'.drop n)
def pHint (s : List UInt8) : Res (List UInt8 × List UInt8) :=
  match pBytes s with
  | .err e r => .err e r
  | .ok hi r =>
    match r with
    | [] => .err 2 []
    | c :: r' => if c ≠ 93 then .err 3 (c :: r') else
      match pBytes r' with
      | .err e r => .err e r
      | .ok da r => .ok (hi, da) r
def begins (c : UInt8) : Bool := c == 40 || c == 91 || isDig c
mutual
def pVal : Nat → List UInt8 → Nat → Nat → Res (SX × Nat)
  | 0, s, _, _ => .err 0 s
  | f + 1, s, nd, ar =>
    match s with
    | [] => .err 2 []
    | c :: r =>
      if begins c = false then .err 3 (c :: r)
      else if 512 ≤ nd ∨ (c = 40 ∧ 16 ≤ ar) then .err 4 (c :: r)
      else if c = 40 then
        match pKids f r (nd + 1) (ar + 1) with
        | .err e r' => .err e r'
        | .ok (ks, nd') r' => .ok (.mk true false [] [] ks, nd') r'
      else if c = 91 then
        match pHint r with
        | .err e r' => .err e r'
        | .ok (hi, da) r' => .ok (.mk false true hi da [], nd + 1) r'
      else
        match pBytes (c :: r) with
        | .err e r' => .err e r'
        | .ok da r' => .ok (.mk false false [] da [], nd + 1) r'
def pKids : Nat → List UInt8 → Nat → Nat → Res (List SX × Nat)
  | 0, s, _, _ => .err 0 s
  | f + 1, s, nd, ar =>
    match s with
    | [] => .err 2 []
    | c :: r =>
      if c = 41 then .ok ([], nd) r
      else
        match pVal f (c :: r) nd ar with
        | .err e r' => .err e r'
        | .ok (t, nd') r' =>
          match pKids f r' nd' ar with
          | .err e r'' => .err e r''
          | .ok (ts, nd'') r'' => .ok (t :: ts, nd'') r''
end
/-! Lengths. -/
theorem digs_sound (M : Nat) : ∀ (l : List UInt8) (a n k : Nat), digs M l a = some (n, k) → k ≤ l.length ∧ (∀ c ∈ l.take k, isDig c = true) ∧ val (l.take k) a = n
  | [], a, n, k, h => by simp [digs] at h; obtain ⟨rfl, rfl⟩ := h; simp [val]
  | c :: r, a, n, k, h => by
    rw [digs] at h
    split at h
    · rename_i hc
      split at h
      · cases h
      · cases hd : digs M r (10 * a + (c.toNat - 48)) with
        | none => rw [hd] at h; cases h
        | some q =>
          obtain ⟨n', k'⟩ := q
          rw [hd] at h
          simp at h
          obtain ⟨rfl, rfl⟩ := h
          obtain ⟨h1, h2, h3⟩ := digs_sound M r _ _ _ hd
          refine ⟨by simp; omega, ?_, ?_⟩
          · intro x hx
            simp at hx
            rcases hx with rfl | hx
            · exact hc
            · exact h2 x hx
          · simp [val]
            exact h3
    · simp at h
      obtain ⟨rfl, rfl⟩ := h
      simp [val]
theorem val_snoc (p : List UInt8) (c : UInt8) (a : Nat) : val (p ++ [c]) a = 10 * val p a + (c.toNat - 48) := by simp [val]
theorem dec_val : ∀ (m : Nat) (q : List UInt8) (c0 : UInt8), q.length = m → c0 ≠ 48 → isDig c0 = true → (∀ c ∈ q, isDig c = true) → Lib.decDigits (val (c0 :: q) 0) = c0 :: q ∧ 0 < val (c0 :: q) 0 := by
  intro m
  induction m with
  | zero =>
    intro q c0 hq h0 hd _
    have hq : q = [] := List.eq_nil_of_length_eq_zero hq
    subst hq
    have hb : 48 ≤ c0.toNat ∧ c0.toNat ≤ 57 := by simpa [isDig] using hd
    have hne : c0.toNat ≠ 48 := fun h => h0 (UInt8.toNat_inj.1 h)
    have hv : val [c0] 0 = c0.toNat - 48 := by simp [val]
    rw [hv, Lib.decDigits, dif_pos (by omega)]
    refine ⟨?_, by omega⟩
    rw [show 48 + (c0.toNat - 48) = c0.toNat by omega]
    simp
  | succ m ih =>
    intro q c0 hq h0 hd hall
    have hne : q ≠ [] := fun h => by rw [h] at hq; cases hq
    have hsplit := List.dropLast_concat_getLast hne
    obtain ⟨p, hp⟩ : ∃ p, p = q.dropLast := ⟨_, rfl⟩
    obtain ⟨c, hc⟩ : ∃ c, c = q.getLast hne := ⟨_, rfl⟩
    rw [← hp, ← hc] at hsplit
    rw [← hsplit] at hall hq ⊢
    have hcd : isDig c = true := hall c (by simp)
    have hb : 48 ≤ c.toNat ∧ c.toNat ≤ 57 := by simpa [isDig] using hcd
    obtain ⟨h1, h2⟩ := ih p c0 (by simpa using hq) h0 hd (fun x hx => hall x (by simp [hx]))
    rw [← List.cons_append, val_snoc]
    refine ⟨?_, by omega⟩
    rw [Lib.decDigits, dif_neg (by omega)]
    rw [show (10 * val (c0 :: p) 0 + (c.toNat - 48)) / 10 = val (c0 :: p) 0 by omega, h1, show 48 + (10 * val (c0 :: p) 0 + (c.toNat - 48)) % 10 = c.toNat by omega]
    simp
theorem dec_zero : Lib.decDigits 0 = [48] := by rw [Lib.decDigits, dif_pos (by omega)]; rfl
theorem pLen_sound {s r : List UInt8} {n : Nat} (h : pLen s = .ok n r) : s = Lib.decDigits n ++ r ∧ n ≤ 4096 := by
  unfold pLen at h
  split at h
  · cases h
  · rename_i c r0
    split at h
    · cases h
    · rename_i hc
      have hc : isDig c = true := by simpa using hc
      split at h
      · rename_i h48
        injection h with h1 h2
        subst h1 h2 h48
        rw [dec_zero]
        exact ⟨rfl, by omega⟩
      · rename_i h48
        split at h
        · cases h
        · rename_i n' k hd
          injection h with h1 h2
          subst h1
          have ho := digs_over 4096 _ _ _ hd (by omega)
          obtain ⟨h3, h4, h5⟩ := digs_sound _ _ _ _ _ hd
          refine ⟨?_, ho⟩
          have hk : k ≠ 0 := by
            rintro rfl
            rw [digs, if_pos hc] at hd
            split at hd
            · cases hd
            · cases hq : digs 4096 r0 (10 * 0 + (c.toNat - 48)) with
              | none => rw [hq] at hd; cases hd
              | some q => rw [hq] at hd; simp at hd
          obtain ⟨k', rfl⟩ : ∃ k', k = k' + 1 := ⟨k - 1, by omega⟩
          rw [List.take_succ_cons] at h4 h5
          have := dec_val _ (r0.take k') c rfl h48 hc (fun x hx => h4 x (by simp [hx]))
          rw [h5] at this
          rw [this.1, ← h2, List.drop_succ_cons, List.cons_append, List.take_append_drop]
theorem isDig58 : isDig 58 = false := by rfl
theorem pLen_full (n : Nat) (r : List UInt8) (hn : n ≤ 4096) (hr : r = [] ∨ ∃ c r', r = c :: r' ∧ isDig c = false) : pLen (Lib.decDigits n ++ r) = .ok n r := by
  rcases Nat.eq_zero_or_pos n with h0 | h0
  · subst h0
    rw [dec_zero]
    rfl
  · obtain ⟨d, q, hd, h48⟩ := dec_head n h0
    have hf := dec_facts n
    have hr1 := digs_run 4096 (Lib.decDigits n) r 0 hf.1 (by rw [hf.2]; exact hn)
    have hs : digs 4096 r n = some (n, 0) := by
      rcases hr with rfl | ⟨c, r', rfl, hc⟩
      · rfl
      · rw [digs, if_neg (by rw [hc]; simp)]
    rw [hf.2, hs] at hr1
    have hdig : isDig d = true := hf.1 d (by rw [hd]; simp)
    unfold pLen
    rw [hd] at hr1 ⊢
    rw [List.cons_append] at hr1 ⊢
    show (if isDig d = false then _ else if d = 48 then _ else _) = _
    rw [if_neg (by rw [hdig]; simp), if_neg h48, hr1]
    simp
theorem pLen_cut (n : Nat) (p q : List UInt8) (hn : n ≤ 4096) (h : p ++ q = Lib.decDigits n) : pLen p = .err 2 [] ∨ ∃ m, pLen p = .ok m [] := by
  cases p with
  | nil => exact .inl rfl
  | cons c r =>
    right
    have hf := dec_facts n
    have hall : ∀ x ∈ c :: r, isDig x = true := fun x hx => hf.1 x (by rw [← h]; exact List.mem_append_left _ hx)
    have hc : isDig c = true := hall c (by simp)
    have hle : val (c :: r) 0 ≤ 4096 := by
      have : val (c :: r ++ q) 0 = n := by rw [h]; exact hf.2
      have h2 : val (c :: r ++ q) 0 = val q (val (c :: r) 0) := by simp [val]
      have h3 := val_ge q (val (c :: r) 0)
      omega
    unfold pLen
    show ∃ m, (if isDig c = false then _ else if c = 48 then _ else _) = _
    rw [if_neg (by rw [hc]; simp)]
    by_cases h48 : c = 48
    · rw [if_pos h48]
      rcases Nat.eq_zero_or_pos n with h0 | h0
      · subst h0
        rw [dec_zero] at h
        have : r = [] := by simp at h; exact h.2.1
        exact ⟨0, by rw [this]⟩
      · obtain ⟨d, q', hd, h48'⟩ := dec_head n h0
        rw [hd] at h
        simp at h
        exact absurd (h.1 ▸ h48) h48'
    · rw [if_neg h48]
      have hr1 := digs_run 4096 (c :: r) [] 0 hall hle
      rw [List.append_nil] at hr1
      have hz : digs 4096 [] (val (c :: r) 0) = some (val (c :: r) 0, 0) := rfl
      rw [hz] at hr1
      rw [hr1]
      exact ⟨val (c :: r) 0, by simp⟩
theorem pBytes_sound {s b r : List UInt8} (h : pBytes s = .ok b r) : s = text b ++ r ∧ b.length ≤ 4096 := by
  unfold pBytes at h
  cases hl : pLen s with
  | err e r' => rw [hl] at h; cases h
  | ok n r' =>
    rw [hl] at h
    obtain ⟨h1, h2⟩ := pLen_sound hl
    cases r' with
    | nil => cases h
    | cons c r'' =>
      simp only at h
      split at h
      · cases h
      · rename_i hc
        have hc : c = 58 := Classical.not_not.1 hc
        split at h
        · cases h
        · rename_i hn
          injection h with h3 h4
          have hbl : b.length = n := by rw [← h3]; simp; omega
          refine ⟨?_, by omega⟩
          rw [h1, text, hbl, hc, ← h3, ← h4]
          simp
theorem pBytes_full (b r : List UInt8) (hb : b.length ≤ 4096) : pBytes (text b ++ r) = .ok b r := by
  have h := pLen_full b.length (58 :: (b ++ r)) hb (.inr ⟨58, _, rfl, isDig58⟩)
  have e : text b ++ r = Lib.decDigits b.length ++ 58 :: (b ++ r) := by simp [text]
  unfold pBytes
  rw [e, h]
  simp
theorem pBytes_cut (b p q : List UInt8) (hb : b.length ≤ 4096) (hq : q ≠ []) (h : p ++ q = text b) : pBytes p = .err 2 [] := by
  rw [text] at h
  rcases List.append_eq_append_iff.1 h with ⟨a, h1, h2⟩ | ⟨a, h1, h2⟩
  · rcases pLen_cut b.length p a hb h1.symm with h' | ⟨m, h'⟩
    · unfold pBytes; rw [h']
    · unfold pBytes; rw [h']
  · cases a with
    | nil =>
      rw [List.append_nil] at h1
      rcases pLen_cut b.length p [] hb (by rw [List.append_nil, h1]) with h' | ⟨m, h'⟩
      · unfold pBytes; rw [h']
      · unfold pBytes; rw [h']
    | cons c a =>
      rw [List.cons_append] at h2
      injection h2 with h3 h4
      subst h3
      have hl := pLen_full b.length (58 :: a) hb (.inr ⟨58, _, rfl, isDig58⟩)
      unfold pBytes
      rw [h1, hl]
      simp
      have : b.length = a.length + q.length := by rw [h4]; simp
      have hq' : 0 < q.length := by
        cases q with
        | nil => exact absurd rfl hq
        | cons => simp
      omega
end Sx
end
section
namespace Sx
open Go Oct
theorem pHint_sound {s hi da r : List UInt8} (h : pHint s = .ok (hi, da) r) : s = text hi ++ 93 :: (text da ++ r) := by
  unfold pHint at h
  cases h1 : pBytes s with
  | err e r' => rw [h1] at h; cases h
  | ok hi' r' =>
    rw [h1] at h
    cases r' with
    | nil => cases h
    | cons c r'' =>
      simp only at h
      split at h
      · cases h
      · rename_i hc
        have hc : c = 93 := Classical.not_not.1 hc
        cases h2 : pBytes r'' with
        | err e r3 => rw [h2] at h; cases h
        | ok da' r3 =>
          rw [h2] at h
          injection h with h3 h4
          injection h3 with h5 h6
          rw [(pBytes_sound h1).1, (pBytes_sound h2).1, hc, h5, h6, h4]
theorem pHint_full (hi da r : List UInt8) (h1 : hi.length ≤ 4096) (h2 : da.length ≤ 4096) : pHint (text hi ++ 93 :: (text da ++ r)) = .ok (hi, da) r := by
  unfold pHint
  rw [pBytes_full _ _ h1]
  simp only
  rw [if_neg (by simp), pBytes_full _ _ h2]
theorem pHint_cut (hi da p q : List UInt8) (h1 : hi.length ≤ 4096) (h2 : da.length ≤ 4096) (hq : q ≠ []) (h : p ++ q = text hi ++ 93 :: text da) : pHint p = .err 2 [] := by
  rcases List.append_eq_append_iff.1 h with ⟨a, h3, h4⟩ | ⟨a, h3, h4⟩
  · cases a with
    | nil =>
      rw [List.append_nil] at h3
      have := pBytes_full hi [] h1
      rw [List.append_nil, h3] at this
      unfold pHint; rw [this]
    | cons c a => unfold pHint; rw [pBytes_cut hi p (c :: a) h1 (by simp) h3.symm]
  · rw [h3]
    unfold pHint
    rw [pBytes_full _ _ h1]
    cases a with
    | nil => rfl
    | cons c a =>
      rw [List.cons_append] at h4
      injection h4 with h5 h6
      simp only
      rw [if_neg (by simp [h5.symm]), pBytes_cut da a q h2 hq h6.symm]
theorem text_head (b : List UInt8) : ∃ c r, text b = c :: r ∧ isDig c = true := by
  have hf := (dec_facts b.length).1
  unfold text
  cases hd : Lib.decDigits b.length with
  | nil =>
    rcases Nat.eq_zero_or_pos b.length with h | h
    · rw [h, dec_zero] at hd; cases hd
    · obtain ⟨d, q, hd', _⟩ := dec_head _ h
      rw [hd'] at hd; cases hd
  | cons c r => exact ⟨c, _, rfl, hf c (by rw [hd]; simp)⟩
theorem digit_ne {c : UInt8} (h : isDig c = true) : begins c = true ∧ c ≠ 40 ∧ c ≠ 91 ∧ c ≠ 41 := by
  refine ⟨by simp [begins, h], ?_, ?_, ?_⟩ <;> (rintro rfl; revert h; decide)
theorem form_head (t : SX) : ∃ c r, form t = c :: r ∧ begins c = true ∧ c ≠ 41 := by
  cases t with
  | mk l h hi da ks =>
    rw [form]
    cases l
    · cases h
      · obtain ⟨c, r, h1, h2⟩ := text_head da
        exact ⟨c, r, by simp [h1], (digit_ne h2).1, (digit_ne h2).2.2.2⟩
      · exact ⟨91, _, rfl, rfl, by decide⟩
    · exact ⟨40, _, rfl, rfl, by decide⟩
theorem sound (f : Nat) : (∀ s nd ar t nd' r, pVal f s nd ar = .ok (t, nd') r → ar ≤ 16 → s = form t ++ r ∧ clean t = true ∧ nd' = nd + nodes t ∧ nd' ≤ 512 ∧ ar + deep t ≤ 16) ∧
    (∀ s nd ar ts nd' r, pKids f s nd ar = .ok (ts, nd') r → ar ≤ 16 → nd ≤ 512 → s = formL ts ++ 41 :: r ∧ cleanL ts = true ∧ nd' = nd + nodesL ts ∧ nd' ≤ 512 ∧ ar + deepL ts ≤ 16) := by
  induction f with
  | zero =>
    refine ⟨?_, ?_⟩
    · intro s nd ar t nd' r h
      rw [pVal] at h
      cases h
    · intro s nd ar t nd' r h
      rw [pKids] at h
      cases h
  | succ f ih =>
    refine ⟨?_, ?_⟩
    · intro s nd ar t nd' r h ha
      cases s with
      | nil => rw [pVal] at h; cases h
      | cons c s =>
        rw [pVal] at h
        try simp only at h
        split at h
        · cases h
        · split at h
          · cases h
          · rename_i hlim
            split at h
            · rename_i hc
              subst hc
              cases hk : pKids f s (nd + 1) (ar + 1) with
              | err e r' => rw [hk] at h; cases h
              | ok x r' =>
                obtain ⟨ks, n'⟩ := x
                rw [hk] at h
                injection h with h1 h2
                injection h1 with h3 h4
                subst h2 h3 h4
                have hlt : nd < 512 ∧ ar < 16 := by
                  have h1 : ¬ 512 ≤ nd := fun h => hlim (.inl h)
                  have h2 : ¬ 16 ≤ ar := fun h => hlim (.inr ⟨rfl, h⟩)
                  omega
                obtain ⟨k1, k2, k3, k4, k5⟩ := ih.2 _ _ _ _ _ _ hk (by omega) (by omega)
                refine ⟨?_, ?_, ?_, k4, ?_⟩
                · rw [form, k1]; simp
                · rw [clean, k2]; rfl
                · rw [nodes, k3]; omega
                · rw [deep]; simp; omega
            · rename_i hc40
              split at h
              · rename_i hc
                subst hc
                cases hk : pHint s with
                | err e r' => rw [hk] at h; cases h
                | ok x r' =>
                  obtain ⟨hi, da⟩ := x
                  rw [hk] at h
                  injection h with h1 h2
                  injection h1 with h3 h4
                  subst h2 h3 h4
                  have ed : deep (.mk false true hi da []) = 0 := by rw [deep]; rfl
                  refine ⟨?_, rfl, by rw [nodes]; rfl, by omega, by omega⟩
                  rw [form, pHint_sound hk]; simp
              · cases hk : pBytes (c :: s) with
                | err e r' => rw [hk] at h; cases h
                | ok da r' =>
                  rw [hk] at h
                  injection h with h1 h2
                  injection h1 with h3 h4
                  subst h2 h3 h4
                  have ed : deep (.mk false false [] da []) = 0 := by rw [deep]; rfl
                  refine ⟨?_, rfl, by rw [nodes]; rfl, by omega, by omega⟩
                  rw [form, (pBytes_sound hk).1]; simp
    · intro s nd ar ts nd' r h ha hn
      cases s with
      | nil => rw [pKids] at h; cases h
      | cons c s =>
        rw [pKids] at h
        try simp only at h
        split at h
        · rename_i hc
          injection h with h1 h2
          injection h1 with h3 h4
          subst h2 h3 h4 hc
          exact ⟨rfl, rfl, by simp [nodesL], hn, by simp [deepL]; omega⟩
        · cases hv : pVal f (c :: s) nd ar with
          | err e r' => rw [hv] at h; cases h
          | ok x r' =>
            obtain ⟨t, n1⟩ := x
            rw [hv] at h
            simp only at h
            cases hk : pKids f r' n1 ar with
            | err e r'' => rw [hk] at h; cases h
            | ok y r'' =>
              obtain ⟨us, n2⟩ := y
              rw [hk] at h
              injection h with h1 h2
              injection h1 with h3 h4
              subst h2 h3 h4
              obtain ⟨v1, v2, v3, v4, v5⟩ := ih.1 _ _ _ _ _ _ hv ha
              obtain ⟨k1, k2, k3, k4, k5⟩ := ih.2 _ _ _ _ _ _ hk ha v4
              refine ⟨?_, ?_, ?_, k4, ?_⟩
              · rw [v1, k1, formL]; simp
              · rw [cleanL, v2, k2]; rfl
              · rw [nodesL, k3, v3]; omega
              · rw [deepL]; omega
def Ok (t : SX) (nd ar : Nat) : Prop := clean t = true ∧ nd + nodes t ≤ 512 ∧ ar + deep t ≤ 16 ∧ (form t).length ≤ 4096
def OkL (ks : List SX) (nd ar : Nat) : Prop := cleanL ks = true ∧ nd + nodesL ks ≤ 512 ∧ ar + deepL ks ≤ 16 ∧ (formL ks).length ≤ 4096
theorem OkL.cons {k : SX} {ks : List SX} {nd ar : Nat} (h : OkL (k :: ks) nd ar) : Ok k nd ar ∧ OkL ks (nd + nodes k) ar := by
  obtain ⟨h1, h2, h3, h4⟩ := h
  rw [cleanL, Bool.and_eq_true] at h1
  rw [nodesL] at h2
  rw [deepL] at h3
  rw [formL, List.length_append] at h4
  exact ⟨⟨h1.1, by omega, by omega, by omega⟩, ⟨h1.2, by omega, by omega, by omega⟩⟩
theorem text_len_le {b : List UInt8} {m : Nat} (h : (text b).length ≤ m) : b.length ≤ m := by
  simp [text] at h; omega
theorem full (t : SX) : ∀ (r : List UInt8) (nd ar f : Nat), Ok t nd ar → 2 * (form t ++ r).length + 1 ≤ f → pVal f (form t ++ r) nd ar = .ok (t, nd + nodes t) r := by
  induction t using SX.ind with
  | H l h hi da ks ih =>
    intro r nd ar f hok hf
    obtain ⟨h1, h2, h3, h4⟩ := hok
    have hp := nodes_pos (.mk l h hi da ks)
    rw [clean, Bool.and_eq_true] at h1
    obtain ⟨hw, hcl⟩ := h1
    obtain ⟨f, rfl⟩ : ∃ g, f = g + 1 := ⟨f - 1, by omega⟩
    cases l with
    | true =>
      have hkids : ∀ (us : List SX), (∀ u ∈ us, u ∈ ks) → ∀ (nd ar g : Nat), OkL us nd ar → 2 * (formL us ++ 41 :: r).length + 2 ≤ g → pKids g (formL us ++ 41 :: r) nd ar = .ok (us, nd + nodesL us) r := by
        intro us
        induction us with
        | nil =>
          intro _ nd ar g _ hg
          obtain ⟨g, rfl⟩ : ∃ g', g = g' + 1 := ⟨g - 1, by omega⟩
          rw [formL, List.nil_append, pKids]
          simp [nodesL]
        | cons u us ihu =>
          intro hsub nd ar g hok hg
          obtain ⟨g, rfl⟩ : ∃ g', g = g' + 1 := ⟨g - 1, by omega⟩
          obtain ⟨o1, o2⟩ := hok.cons
          obtain ⟨c, q, hc, _, hc41⟩ := form_head u
          have hv := ih u (hsub u (by simp)) (formL us ++ 41 :: r) nd ar g o1 (by rw [formL] at hg; simp only [List.append_assoc] at hg; omega)
          have hlen : 0 < (form u).length := by rw [hc]; simp
          have hk := ihu (fun x hx => hsub x (by simp [hx])) (nd + nodes u) ar g o2 (by rw [formL] at hg; simp only [List.append_assoc, List.length_append] at hg ⊢; omega)
          rw [formL, List.append_assoc]
          rw [hc, List.cons_append] at hv ⊢
          rw [pKids]
          try simp only
          rw [if_neg hc41, hv]
          simp only
          rw [hk]
          simp only [nodesL]
          rw [Nat.add_assoc]
      have hks := hkids ks (fun u hu => hu) (nd + 1) (ar + 1) f ⟨hcl, by rw [nodes] at h2; omega, by rw [show deep (.mk true h hi da ks) = deepL ks + 1 by (rw [deep]; rfl)] at h3; omega, by rw [form] at h4; simp at h4; omega⟩ (by rw [form] at hf; simp at hf ⊢; omega)
      have hz : h = false ∧ hi = [] ∧ da = [] := by
        simp [well] at hw
        exact ⟨hw.1.1, hw.1.2, hw.2⟩
      obtain ⟨rfl, rfl, rfl⟩ := hz
      have e : form (.mk true false [] [] ks) ++ r = 40 :: (formL ks ++ 41 :: r) := by rw [form]; simp
      rw [e, pVal]
      have ed : deep (.mk true false [] [] ks) = deepL ks + 1 := by rw [deep]; rfl
      have hb : begins 40 = true := rfl
      simp only [hb]
      rw [if_neg (by simp), if_neg (by omega), if_pos trivial, hks]
      simp only [nodes]
      rw [Nat.add_assoc]
    | false =>
      have hkn : ks = [] := by
        have : ks.isEmpty = true := by simp [well] at hw; simpa using hw.1
        simpa using this
      subst hkn
      have en : nodes (.mk false h hi da []) = 1 := by rw [nodes]; rfl
      cases h with
      | true =>
        have e : form (.mk false true hi da []) = 91 :: (text hi ++ 93 :: text da) := by rw [form]; simp
        have hl1 : hi.length ≤ 4096 := text_len_le (by rw [e] at h4; simp at h4; omega)
        have hl2 : da.length ≤ 4096 := text_len_le (by rw [e] at h4; simp at h4; omega)
        have e2 : form (.mk false true hi da []) ++ r = 91 :: (text hi ++ 93 :: (text da ++ r)) := by rw [e]; simp
        rw [e2, pVal, en]
        have hb : begins 91 = true := rfl
        simp only [hb]
        rw [if_neg (by simp), if_neg (by rw [en] at h2; simp; omega), if_neg (by decide), if_pos trivial, pHint_full hi da r hl1 hl2]
      | false =>
        have hhi : hi = [] := by simp [well] at hw; exact hw
        subst hhi
        have e : form (.mk false false [] da []) = text da := by rw [form]; rfl
        have hl2 : da.length ≤ 4096 := text_len_le (by rw [e] at h4; exact h4)
        obtain ⟨c, q, hc, hd⟩ := text_head da
        obtain ⟨n1, n2, n3, _⟩ := digit_ne hd
        have hb := pBytes_full da r hl2
        rw [e, en]
        rw [hc, List.cons_append] at hb ⊢
        rw [pVal]
        simp only [n1]
        rw [if_neg (by simp), if_neg (by rw [en] at h2; simp [n2]; omega), if_neg n2, if_neg n3, hb]
end Sx
end
section
namespace Sx
open Go Oct
theorem cut (t : SX) : ∀ (p q : List UInt8) (nd ar f : Nat), Ok t nd ar → p ++ q = form t → q ≠ [] → 2 * p.length + 1 ≤ f → pVal f p nd ar = .err 2 [] := by
  induction t using SX.ind with
  | H l h hi da ks ih =>
    intro p q nd ar f hok he hq hf
    obtain ⟨f, rfl⟩ : ∃ g, f = g + 1 := ⟨f - 1, by omega⟩
    cases p with
    | nil => rw [pVal]
    | cons c p =>
      obtain ⟨h1, h2, h3, h4⟩ := hok
      have hp := nodes_pos (.mk l h hi da ks)
      rw [clean, Bool.and_eq_true] at h1
      obtain ⟨hw, hcl⟩ := h1
      cases l with
      | true =>
        have hkids : ∀ (us : List SX), (∀ u ∈ us, u ∈ ks) → ∀ (p : List UInt8) (nd ar g : Nat), OkL us nd ar → p ++ q = formL us ++ [41] → 2 * p.length + 2 ≤ g → pKids g p nd ar = .err 2 [] := by
          intro us
          induction us with
          | nil =>
            intro _ p nd ar g _ hpq hg
            obtain ⟨g, rfl⟩ : ∃ g', g = g' + 1 := ⟨g - 1, by omega⟩
            cases p with
            | nil => rw [pKids]
            | cons c p =>
              rw [formL, List.nil_append, List.cons_append] at hpq
              injection hpq with _ hpq
              exact absurd (List.append_eq_nil_iff.1 hpq).2 hq
          | cons u us ihu =>
            intro hsub p nd ar g hok hpq hg
            obtain ⟨g, rfl⟩ : ∃ g', g = g' + 1 := ⟨g - 1, by omega⟩
            obtain ⟨o1, o2⟩ := hok.cons
            cases p with
            | nil => rw [pKids]
            | cons c p =>
              obtain ⟨d, q', hd, _, hd41⟩ := form_head u
              rw [formL, List.append_assoc] at hpq
              have hcd : c = d := by rw [hd] at hpq; simp at hpq; exact hpq.1
              have hstep : pKids (g + 1) (c :: p) nd ar = match pVal g (c :: p) nd ar with
                  | .err e r' => .err e r'
                  | .ok (t, nd') r' => match pKids g r' nd' ar with
                    | .err e r'' => .err e r''
                    | .ok (ts, nd'') r'' => .ok (t :: ts, nd'') r'' := by
                rw [pKids]
                try simp only
                rw [if_neg (by rw [hcd]; exact hd41)]
                try rfl
              rw [hstep]
              rcases List.append_eq_append_iff.1 hpq with ⟨a, h5, h6⟩ | ⟨a, h5, h6⟩
              · cases a with
                | nil =>
                  rw [List.append_nil] at h5
                  have hv := full u [] nd ar g o1 (by rw [h5]; simp at hg ⊢; omega)
                  rw [List.append_nil, h5] at hv
                  rw [hv]
                  simp only
                  obtain ⟨g, rfl⟩ : ∃ g', g = g' + 1 := ⟨g - 1, by simp at hg; omega⟩
                  rw [pKids]
                | cons a0 a =>
                  rw [ih u (hsub u (by simp)) (c :: p) (a0 :: a) nd ar g o1 h5.symm (by simp) (by omega)]
              · have hv := full u a nd ar g o1 (by rw [← h5]; omega)
                rw [← h5] at hv
                rw [hv]
                simp only
                have hlen : 0 < (form u).length := by rw [hd]; simp
                have hl := congrArg List.length h5
                rw [List.length_append] at hl
                rw [ihu (fun x hx => hsub x (by simp [hx])) a (nd + nodes u) ar g o2 h6.symm (by omega)]
        have hz : h = false ∧ hi = [] ∧ da = [] := by
          simp [well] at hw
          exact ⟨hw.1.1, hw.1.2, hw.2⟩
        obtain ⟨rfl, rfl, rfl⟩ := hz
        have e : form (.mk true false [] [] ks) = 40 :: (formL ks ++ [41]) := by rw [form]; rfl
        rw [e, List.cons_append] at he
        injection he with hc he
        subst hc
        have ed : deep (.mk true false [] [] ks) = deepL ks + 1 := by rw [deep]; rfl
        have hk := hkids ks (fun u hu => hu) p (nd + 1) (ar + 1) f ⟨hcl, by rw [nodes] at h2; omega, by omega, by rw [e] at h4; simp at h4; omega⟩ he (by simp at hf; omega)
        rw [pVal]
        have hb : begins 40 = true := rfl
        simp only [hb]
        rw [if_neg (by simp), if_neg (by omega), if_pos trivial, hk]
      | false =>
        have hkn : ks = [] := by
          have : ks.isEmpty = true := by simp [well] at hw; simpa using hw.1
          simpa using this
        subst hkn
        have en : nodes (.mk false h hi da []) = 1 := by rw [nodes]; rfl
        cases h with
        | true =>
          have e : form (.mk false true hi da []) = 91 :: (text hi ++ 93 :: text da) := by rw [form]; simp
          have hl1 : hi.length ≤ 4096 := text_len_le (by rw [e] at h4; simp at h4; omega)
          have hl2 : da.length ≤ 4096 := text_len_le (by rw [e] at h4; simp at h4; omega)
          rw [e, List.cons_append] at he
          injection he with hc he
          subst hc
          rw [pVal]
          have hb : begins 91 = true := rfl
          simp only [hb]
          rw [if_neg (by simp), if_neg (by rw [en] at h2; simp; omega), if_neg (by decide), if_pos trivial, pHint_cut hi da p q hl1 hl2 hq he]
        | false =>
          have hhi : hi = [] := by simp [well] at hw; exact hw
          subst hhi
          have e : form (.mk false false [] da []) = text da := by rw [form]; rfl
          have hl2 : da.length ≤ 4096 := text_len_le (by rw [e] at h4; exact h4)
          obtain ⟨d, q', hd, hdd⟩ := text_head da
          have hcd : c = d := by rw [e, hd] at he; simp at he; exact he.1
          subst hcd
          obtain ⟨n1, n2, n3, _⟩ := digit_ne hdd
          rw [e] at he
          have hb := pBytes_cut da (c :: p) q hl2 hq he
          rw [pVal]
          simp only [n1]
          rw [if_neg (by simp), if_neg (by rw [en] at h2; simp [n2]; omega), if_neg n2, if_neg n3, hb]
def zeroS : SX := .mk false false [] [] []
def pGet (b : List UInt8) : SX × Nat × Nat :=
  if 4096 < b.length then (zeroS, 4096, 4)
  else match pVal (2 * b.length + 1) b 0 0 with
    | .err e r => (zeroS, b.length - r.length, e)
    | .ok (t, _) r => match r with
      | [] => (t, 0, 0)
      | _ :: _ => (zeroS, b.length - r.length, 5)
theorem may_ok {t : SX} (h : may t = true) : Ok t 0 0 := by
  rw [may_fits, fits_iff] at h
  exact ⟨h.1, by omega, h.2.2.2, h.2.2.1⟩
theorem pGet_full {t : SX} (h : may t = true) : pGet (form t) = (t, 0, 0) := by
  have ho := may_ok h
  have hv := full t [] 0 0 (2 * (form t).length + 1) ho (by simp)
  rw [List.append_nil] at hv
  unfold pGet
  rw [if_neg (by have := ho.2.2.2; omega), hv]
theorem pGet_sound {b : List UInt8} {t : SX} {p : Nat} (h : pGet b = (t, p, 0)) (hne : ∀ r, pVal (2 * b.length + 1) b 0 0 ≠ .err 0 r) : form t = b ∧ may t = true ∧ p = 0 := by
  unfold pGet at h
  split at h
  · cases h
  · rename_i hb
    cases hv : pVal (2 * b.length + 1) b 0 0 with
    | err e r =>
      rw [hv] at h
      simp at h
      exact absurd (h.2.2 ▸ hv) (hne r)
    | ok x r =>
      obtain ⟨u, n⟩ := x
      rw [hv] at h
      cases r with
      | nil =>
        simp at h
        obtain ⟨rfl, rfl⟩ := h
        obtain ⟨h1, h2, h3, h4, h5⟩ := (sound _).1 _ _ _ _ _ _ hv (by omega)
        rw [List.append_nil] at h1
        refine ⟨h1.symm, ?_, rfl⟩
        rw [may_fits, fits_iff]
        exact ⟨h2, by omega, by rw [← h1]; omega, h5⟩
      | cons c r => simp at h
theorem getLen_pLen (b s : List UInt8) (p : Nat) (hp : p ≤ b.length) (hs : b.drop p = s) :
    getLen b (p : Int) 4096 = match pLen s with
      | .err k _ => (0, (p : Int), (k : Int))
      | .ok m r => ((m : Int), ((b.length - r.length : Nat) : Int), 0) := by
  have hl : s.length = b.length - p := by rw [← hs, List.length_drop]
  unfold getLen pLen
  rw [if_neg (by omega), Int.toNat_natCast, hs]
  cases s with
  | nil => rfl
  | cons c r =>
    simp only
    by_cases h1 : isDig c = false
    · rw [if_pos h1, if_pos h1]; rfl
    · rw [if_neg h1, if_neg h1]
      by_cases h2 : c = 48
      · rw [if_pos h2, if_pos h2]
        simp at hl
        simp only
        congr 2
        omega
      · rw [if_neg h2, if_neg h2]
        have e : (max (4096 : Int) 0).toNat = 4096 := by decide
        rw [e]
        cases hd : digs 4096 (c :: r) 0 with
        | none => rfl
        | some q =>
          obtain ⟨n, k⟩ := q
          simp only
          have hk := (digs_sound _ _ _ _ _ hd).1
          congr 2
          rw [List.length_drop]
          omega
theorem pLen_err {s : List UInt8} {k : Nat} {r : List UInt8} (h : pLen s = .err k r) : r = s ∧ (k = 2 ∧ s = [] ∨ k = 3 ∧ s ≠ [] ∨ k = 4 ∧ s ≠ []) := by
  unfold pLen at h
  cases s with
  | nil => injection h with h1 h2; exact ⟨h2.symm, .inl ⟨h1.symm, rfl⟩⟩
  | cons c r0 =>
    simp only at h
    split at h
    · injection h with h1 h2; exact ⟨h2.symm, .inr (.inl ⟨h1.symm, by simp⟩)⟩
    · split at h
      · cases h
      · split at h
        · injection h with h1 h2; exact ⟨h2.symm, .inr (.inr ⟨h1.symm, by simp⟩)⟩
        · cases h
theorem drop_rest {b s r : List UInt8} {p : Nat} {t : List UInt8} (hp : p ≤ b.length) (hs : b.drop p = s) (h : s = t ++ r) : b.drop (b.length - r.length) = r ∧ b.length - r.length = p + t.length ∧ p + t.length ≤ b.length := by
  have hl : s.length = b.length - p := by rw [← hs, List.length_drop]
  have hl2 : s.length = t.length + r.length := by rw [h, List.length_append]
  have e : b.length - r.length = p + t.length := by omega
  refine ⟨?_, e, by omega⟩
  rw [e, ← List.drop_drop, hs, h, List.drop_left]
end Sx
end
section
namespace Go.Proofs.YtcojkmcnigppbaaGreatDoor
open Go Go.Proofs Go.RowKit Sx Oct
def RdAt (w : World) (r : Nat) (A : Option Addr) (n c : Nat) (p nd : Int) : Prop := w.heap[r]? = some (Obj.cells #[.slice A n c, .int .i64 p, .int .i64 nd] 108 (0, 0))
theorem RdAt.all {w : World} {r : Nat} {A : Option Addr} {n c : Nat} {p nd : Int} (h : RdAt w r A n c p nd) :
    w.cell? ⟨r, 0, none⟩ = some (.slice A n c) ∧ w.cell? ⟨r, 1, none⟩ = some (.int .i64 p) ∧ w.cell? ⟨r, 2, none⟩ = some (.int .i64 nd) ∧ w.frozen? ⟨r, 1, none⟩ = false ∧ w.frozen? ⟨r, 2, none⟩ = false := by
  refine ⟨?_, ?_, ?_, ?_, ?_⟩
  · rw [Lib.cell_of_heap h]; rfl
  · rw [Lib.cell_of_heap h]; rfl
  · rw [Lib.cell_of_heap h]; rfl
  · unfold RdAt at h; simp [World.frozen?, h]
  · unfold RdAt at h; simp [World.frozen?, h]
theorem RdAt.lt {w : World} {r : Nat} {A : Option Addr} {n c : Nat} {p nd : Int} (h : RdAt w r A n c p nd) : r < w.heap.size := by
  rcases Nat.lt_or_ge r w.heap.size with h' | h'
  · exact h'
  · unfold RdAt at h; rw [Array.getElem?_eq_none h'] at h; cases h
theorem RdAt.old {w w' : World} {r : Nat} {A : Option Addr} {n c : Nat} {p nd : Int} (h : RdAt w r A n c p nd) (hb : Below w.heap.size w w') : RdAt w' r A n c p nd := below_at hb h
theorem RdAt.set1 {w : World} {r : Nat} {A : Option Addr} {n c : Nat} {p nd : Int} (h : RdAt w r A n c p nd) (q : Int) : RdAt (w.setCell ⟨r, 1, none⟩ (.int .i64 q)) r A n c q nd := Joins.block_setCell h _
theorem RdAt.set2 {w : World} {r : Nat} {A : Option Addr} {n c : Nat} {p nd : Int} (h : RdAt w r A n c p nd) (q : Int) : RdAt (w.setCell ⟨r, 2, none⟩ (.int .i64 q)) r A n c p q := Joins.block_setCell h _
def kindT : Nat → TypeId
  | 2 => 62
  | 3 => 63
  | 4 => 64
  | _ => 65
def Thrown (k : Nat) (p : Nat) (e : Ending) : Prop := e = .panicked [{ v := .iface (kindT k) (.int .i64 (p : Nat)), recovered := false }]
theorem below_drewN (w : World) (k : Nat) : Below w.heap.size w (w.drewN k) := ⟨rfl, rfl, rfl, Nat.le_refl _, fun _ _ => rfl⟩
set_option maxHeartbeats 1000000 in
set_option maxRecDepth 100000 in
theorem peek_end (r : Nat) (A : Option Addr) (n c : Nat) (p : Nat) (nd : Int) (w : World) (h : RdAt w r A n c p nd) (hp : n ≤ p) (hn : n ≤ 5000) (hp2 : p ≤ 5000) :
    Calls Tryz.prog 97 #[.pointer (some ⟨r, 0, none⟩)] w fun e w' => Thrown 2 n e ∧ Below w.heap.size w w' := by
  obtain ⟨c0, c1, c2, f1, f2⟩ := h.all
  go_enter Tryz.func97, Tryz.ntmps97
  go_wp2_with fail
  go_quiet (fail)
  go_wp2_with fail
  exact ⟨rfl, rfl, below_drewN _ _⟩
set_option maxHeartbeats 1000000 in
set_option maxRecDepth 100000 in
theorem peek_at (r : Nat) (A : Option Addr) (n c : Nat) (p : Nat) (nd : Int) (b : List UInt8) (B : Nat) (w : World) (h : RdAt w r A n c p nd) (hr : Reads w B 1 A n (Lib.byteCells b)) (hp : p < n) (hn : n ≤ 5000) (x : UInt8) (s : List UInt8) (hs : b.drop p = x :: s) :
    Calls Tryz.prog 97 #[.pointer (some ⟨r, 0, none⟩)] w fun e w' => e = .returned (.int .u8 x.toNat) ∧ Below w.heap.size w w' := by
  obtain ⟨c0, c1, c2, f1, f2⟩ := h.all
  obtain ⟨ad, u, rfl, _, hu, hc⟩ := hr.at_ hp
  have hu' : u = .int .u8 x.toNat := by
    have hb : b[p]? = some x := by
      have := congrArg List.head? hs
      rw [List.head?_drop] at this
      simpa using this
    simp [Lib.byteCells, List.getElem?_map, hb] at hu
    exact hu.symm
  subst hu'
  have hpi : (p : Int) < n := by omega
  have hxl := x.toNat_lt
  clear hu hs hr h
  go_enter Tryz.func97, Tryz.ntmps97
  go_wp2_with fail
  go_quiet (fail)
  go_wp2_with fail
  have c0' : (w.drewN nq).cell? ⟨r, 0, none⟩ = _ := c0
  have c1' : (w.drewN nq).cell? ⟨r, 1, none⟩ = _ := c1
  have hc' : (w.drewN nq).cell? (ad.add p) = _ := hc
  have hb := below_drewN w nq
  clear c0 c1 c2 f1 f2 hc
  generalize w.drewN nq = w1 at *
  go_quiet (fail)
  go_wp2_with fail
  go_ret
  exact ⟨rfl, hb.trans ((below_drewN _ _).mono hb.size)⟩
set_option maxHeartbeats 1000000 in
set_option maxRecDepth 100000 in
theorem expect_end (r : Nat) (A : Option Addr) (n c : Nat) (p : Nat) (nd : Int) (k : Int) (w : World) (h : RdAt w r A n c p nd) (hp : n ≤ p) (hn : n ≤ 5000) (hp2 : p ≤ 5000) :
    Calls Tryz.prog 119 #[.pointer (some ⟨r, 0, none⟩), .int .u8 k] w fun e w' => Thrown 2 n e ∧ Below w.heap.size w w' := by
  have C := hid (peek_end r A n c p nd w h hp hn hp2)
  clear h
  go_enter Tryz.func119, Tryz.ntmps119
  go_wp2_with ((with_reducible refine C.out.mono ?_); rintro e w2 ⟨rfl, hb2⟩)
  exact ⟨rfl, rfl, hb2⟩
set_option maxHeartbeats 1000000 in
set_option maxRecDepth 100000 in
theorem expect_bad (r : Nat) (A : Option Addr) (n c : Nat) (p : Nat) (nd : Int) (b : List UInt8) (B : Nat) (w : World) (h : RdAt w r A n c p nd) (hr : Reads w B 1 A n (Lib.byteCells b)) (hp : p < n) (hn : n ≤ 5000) (x : UInt8) (s : List UInt8) (hs : b.drop p = x :: s) (k : Int) (hk : (x.toNat : Int) ≠ k) :
    Calls Tryz.prog 119 #[.pointer (some ⟨r, 0, none⟩), .int .u8 k] w fun e w' => Thrown 3 p e ∧ Below w.heap.size w w' := by
  have C := hid (peek_at r A n c p nd b B w h hr hp hn x s hs)
  have HR := hid h
  have hne : ((x.toNat : Int) != k) = true := by rw [bne_iff_ne]; exact hk
  clear h hr hs hk
  go_enter Tryz.func119, Tryz.ntmps119
  go_wp2_with ((with_reducible refine C.out.mono ?_); rintro e w2 ⟨rfl, hb2⟩; obtain ⟨c0, c1, c2, f1, f2⟩ := (HR.out.old hb2).all)
  exact ⟨rfl, rfl, hb2⟩
set_option maxHeartbeats 1000000 in
set_option maxRecDepth 100000 in
theorem expect_good (r : Nat) (A : Option Addr) (n c : Nat) (p : Nat) (nd : Int) (b : List UInt8) (B : Nat) (w : World) (h : RdAt w r A n c p nd) (hr : Reads w B 1 A n (Lib.byteCells b)) (hp : p < n) (hn : n ≤ 5000) (x : UInt8) (s : List UInt8) (hs : b.drop p = x :: s) (k : Int) (hk : (x.toNat : Int) = k) :
    Calls Tryz.prog 119 #[.pointer (some ⟨r, 0, none⟩), .int .u8 k] w fun e w' => e = .returned (.tuple #[]) ∧ RdAt w' r A n c (p + 1 : Nat) nd ∧ w.grownBy w' (some r) := by
  have C := hid (peek_at r A n c p nd b B w h hr hp hn x s hs)
  have HR := hid h
  rw [hk] at C
  have hne : (k != k) = false := by simp
  clear h hr hs hk
  go_enter Tryz.func119, Tryz.ntmps119
  go_wp2_with ((with_reducible refine C.out.mono ?_); rintro e w2 ⟨rfl, hb2⟩; obtain ⟨c0, c1, c2, f1, f2⟩ := (HR.out.old hb2).all)
  go_end0
  exact ⟨rfl, (HR.out.old hb2).set1 _, (grown_below hb2 _).trans (grown_set _ _ _ _)⟩
def LenEnd (w : World) (r : Nat) (A : Option Addr) (n c : Nat) (p : Nat) (nd : Int) (e : Ending) (w' : World) : Res Nat → Prop
  | .err k _ => Thrown k p e ∧ w.grownBy w' (some r)
  | .ok m rest => e = .returned (.int .i64 m) ∧ RdAt w' r A n c (n - rest.length : Nat) nd ∧ w.grownBy w' (some r)
set_option maxHeartbeats 2000000 in
set_option maxRecDepth 100000 in
theorem length_any (r : Nat) (A : Option Addr) (n c : Nat) (p : Nat) (nd : Int) (b : List UInt8) (B : Nat) (w : World) (h : RdAt w r A n c p nd) (hr : Reads w B 1 A n (Lib.byteCells b)) (hp : p ≤ n) (hn : n ≤ 5000) (s : List UInt8) (hs : b.drop p = s) :
    Calls Tryz.prog 120 #[.pointer (some ⟨r, 0, none⟩)] w fun e w' => LenEnd w r A n c p nd e w' (pLen s) := by
  have hl : b.length = n := by have := hr.1; simpa [Lib.byteCells_length] using this
  have hG := getLen_pLen b s p (by omega) hs
  have C : ∀ W, Reads W B 1 A n (Lib.byteCells b) → Calls Tryz.prog 135 #[.slice A n c, .int .i64 p, .int .i64 4096] W fun e w' => e = .returned (.tuple #[.int .i64 (getLen b p 4096).1, .int .i64 (getLen b p 4096).2.1, .int .i64 (getLen b p 4096).2.2]) ∧ w' = W :=
    fun W hW => getLen_any A n c b B p 4096 W hW (by unfold maxLen; omega) (by omega) (by omega)
  have hrd := fun k => hr.drewN k
  obtain ⟨c0, c1, c2, f1, f2⟩ := h.all
  have HR := hid h
  cases hpl : pLen s with
  | err k rest =>
    rw [hpl] at hG
    simp only at hG
    rw [hG] at C
    obtain ⟨rfl, hk⟩ := pLen_err hpl
    have HC := hid (fun k => C _ (hrd k))
    clear C hG hpl hrd hr hs hl
    rcases hk with ⟨rfl, _⟩ | ⟨rfl, _⟩ | ⟨rfl, _⟩
    all_goals
      go_enter Tryz.func120, Tryz.ntmps120
      go_wp2_with fail
      go_quiet ((go_at_call 135; exact Calls.quiet_of_same (HC.out _)))
      have hb := below_drewN w nq
      have hR2 := HR.out.old hb
      obtain ⟨c0', c1', c2', f1', f2'⟩ := hR2.all
      clear c0 c1 c2 f1 f2 hR2
      generalize w.drewN nq = w1 at *
      go_wp2_with fail
      exact ⟨rfl, rfl, grown_below hb _⟩
  | ok m rest =>
    rw [hpl] at hG
    simp only at hG
    rw [hG] at C
    have HC := hid (fun k => C _ (hrd k))
    have hq : b.length - rest.length = n - rest.length := by rw [hl]
    rw [hq] at HC
    have hq2 : n - rest.length ≤ 5000 := by omega
    obtain ⟨q, hq3⟩ : ∃ q, q = n - rest.length := ⟨_, rfl⟩
    rw [← hq3] at HC hq2
    have HQ3 := hid hq3
    clear C hG hpl hrd hr hs hl hq hq3
    go_enter Tryz.func120, Tryz.ntmps120
    go_wp2_with fail
    go_quiet ((go_at_call 135; exact Calls.quiet_of_same (HC.out _)))
    have hb := below_drewN w nq
    have hR2 := HR.out.old hb
    obtain ⟨c0', c1', c2', f1', f2'⟩ := hR2.all
    clear c0 c1 c2 f1 f2
    generalize w.drewN nq = w1 at *
    have hR3 := hR2.set1 q
    have HR3 := hid hR3
    clear hR2 hR3 h
    go_wp2_with fail
    go_ret
    exact ⟨rfl, by rw [← HQ3.out]; exact HR3.out, (grown_below hb _).trans (grown_set _ _ _ _)⟩
def BytesEnd (w : World) (r : Nat) (A : Option Addr) (n c : Nat) (nd : Int) (e : Ending) (w' : World) : Res (List UInt8) → Prop
  | .err k rest => Thrown k (n - rest.length) e ∧ w.grownBy w' (some r)
  | .ok l rest => ∃ A' c', e = .returned (.slice A' l.length c') ∧ l.length ≤ c' ∧ RIn w' (fun k => w.heap.size ≤ k) 1 A' l.length (Lib.byteCells l) ∧ RdAt w' r A n c (n - rest.length : Nat) nd ∧ w.grownBy w' (some r)
theorem reads_grown {w w' : World} {B n r : Nat} {A : Option Addr} {l : List UInt8} (h : Reads w B 1 A n (Lib.byteCells l)) (hg : w.grownBy w' (some r)) (hB : B ≤ r) : Reads w' B 1 A n (Lib.byteCells l) := by
  have h1 := (RIn.of_reads h).grown (by omega) hg (fun b hb e => by injection e with e; omega)
  exact h1
theorem sub_reads {w : World} {B n c q m : Nat} {A : Option Addr} {b r2 : List UInt8} (h : Reads w B 1 A n (Lib.byteCells b)) (hd : b.drop q = r2) (hq : q + m ≤ n) (hc : n ≤ c) :
    RIn w (fun k => k < B) 1 (if c = q then A else Option.map (fun x => x.add q) A) m (Lib.byteCells (r2.take m)) := by
  have h1 := h.cut (k := q) (cap := c) (by omega) hc
  rw [Nat.mul_one] at h1
  have e : (Lib.byteCells b).drop q = Lib.byteCells r2 := by rw [← hd]; simp [Lib.byteCells]
  rw [e] at h1
  have hl : r2.length = n - q := by have := h1.1; simpa [Lib.byteCells_length] using this
  refine ⟨by rw [Lib.byteCells_length, List.length_take]; omega, fun hm => ?_⟩
  obtain ⟨ad, h2, h3, h4⟩ := h1.2 (by omega)
  refine ⟨ad, h2, h3, fun j u hu => h4 j u ?_⟩
  have hj : j < m := by
    have := (List.getElem?_eq_some_iff.1 hu).1
    rw [Lib.byteCells_length, List.length_take] at this
    omega
  have e2 : Lib.byteCells (r2.take m) = (Lib.byteCells r2).take m := by simp [Lib.byteCells]
  rw [e2, List.getElem?_take, if_pos hj] at hu
  exact hu
set_option maxHeartbeats 4000000 in
set_option maxRecDepth 100000 in
theorem bytes_any (r : Nat) (A : Option Addr) (n c : Nat) (p : Nat) (nd : Int) (b : List UInt8) (B : Nat) (w : World) (h : RdAt w r A n c p nd) (hr : Reads w B 1 A n (Lib.byteCells b)) (hB : B ≤ r) (hp : p ≤ n) (hn : n ≤ 5000) (hc : n ≤ c) (s : List UInt8) (hs : b.drop p = s) :
    Calls Tryz.prog 101 #[.pointer (some ⟨r, 0, none⟩)] w fun e w' => BytesEnd w r A n c nd e w' (pBytes s) := by
  have hl : b.length = n := by have := hr.1; simpa [Lib.byteCells_length] using this
  have hsl : s.length = n - p := by rw [← hs, List.length_drop, hl]
  have C := length_any r A n c p nd b B w h hr hp hn s hs
  unfold pBytes
  cases hpl : pLen s with
  | err k rest =>
    rw [hpl] at C
    obtain ⟨rfl, hk⟩ := pLen_err hpl
    simp only
    have HC := hid C
    have hpp : n - rest.length = p := by omega
    clear C h hr hs hpl
    go_enter Tryz.func101, Tryz.ntmps101
    go_wp2_with ((with_reducible refine HC.out.mono ?_); rintro e w2 ⟨rfl, hg2⟩)
    exact ⟨rfl, by rw [hpp]; rfl, hg2⟩
  | ok m rest =>
    rw [hpl] at C
    obtain ⟨hs1, hm⟩ := pLen_sound hpl
    obtain ⟨hd1, hq1, hq2⟩ := drop_rest (by omega) hs hs1
    rw [hl] at hd1 hq1
    have HC := hid C
    have HR0 := hid hr
    simp only
    cases rest with
    | nil =>
      simp only
      have C2 := hid (fun W hW => expect_end r A n c (n - ([] : List UInt8).length) nd 58 W hW (by simp) hn (by omega))
      clear C hpl h hr hs hs1 hd1 hq1 hq2 hsl hl
      go_enter Tryz.func101, Tryz.ntmps101
      go_wp2_with (first
        | ((with_reducible refine HC.out.mono ?_); rintro e w2 ⟨rfl, hR2, hg2⟩)
        | ((with_reducible refine (C2.out w2 hR2).mono ?_); rintro e w3 ⟨rfl, hb3⟩))
      exact ⟨rfl, rfl, hg2.trans (grown_below hb3 _)⟩
    | cons c0 r2 =>
      simp only
      have hlr : (c0 :: r2).length = r2.length + 1 := by simp
      have hle : r2.length + 1 ≤ n := by have := congrArg List.length hs1; rw [List.length_append, hlr] at this; omega
      have hpn : n - (c0 :: r2).length < n := by rw [hlr]; omega
      by_cases hc0 : c0 ≠ 58
      · rw [if_pos hc0]
        have C2 := hid (fun W hW hW2 => expect_bad r A n c (n - (c0 :: r2).length) nd b B W hW hW2 hpn hn c0 r2 hd1 58 (fun e => hc0 (UInt8.toNat_inj.1 (by show c0.toNat = 58; omega))))
        have HRG := hid (fun W (hg : w.grownBy W (some r)) => reads_grown HR0.out hg hB)
        clear C hpl h hr hs hs1 hd1 hq1 hq2 hsl hl hlr
        go_enter Tryz.func101, Tryz.ntmps101
        go_wp2_with (first
          | ((with_reducible refine HC.out.mono ?_); rintro e w2 ⟨rfl, hR2, hg2⟩)
          | ((with_reducible refine (C2.out w2 hR2 (HRG.out w2 hg2)).mono ?_); rintro e w3 ⟨rfl, hb3⟩))
        exact ⟨rfl, rfl, hg2.trans (grown_below hb3 _)⟩
      · rw [if_neg hc0]
        have hc0 : c0 = 58 := Classical.not_not.1 hc0
        subst hc0
        have C2 := hid (fun W hW hW2 => expect_good r A n c (n - (58 :: r2).length) nd b B W hW hW2 hpn hn 58 r2 hd1 58 rfl)
        have HRG := hid (fun W (hg : w.grownBy W (some r)) => reads_grown HR0.out hg hB)
        have hp2 : n - (58 :: r2 : List UInt8).length + 1 = n - r2.length := by rw [hlr]; omega
        rw [hp2] at C2
        have hd2 : b.drop (n - r2.length) = r2 := by
          rw [← hp2, ← List.drop_drop, hd1]; rfl
        have hm5 : m ≤ 4096 := hm
        have HD := hid hd2
        obtain ⟨q, hq3⟩ : ∃ q, q = n - r2.length := ⟨_, rfl⟩
        rw [← hq3] at C2 HD
        have hqn : q + r2.length = n := by omega
        have HQ := hid hq3
        clear hpl hs hs1 hd1 hd2 hq1 hq2 hsl hlr hpn hp2 hr h hq3 C
        by_cases hlt : r2.length < m
        · rw [if_pos hlt]
          have hbig : (n : Int) - q < m := by omega
          go_enter Tryz.func101, Tryz.ntmps101
          go_wp2_with (first
            | ((with_reducible refine HC.out.mono ?_); rintro e w2 ⟨rfl, hR2, hg2⟩)
            | ((with_reducible refine (C2.out w2 hR2 (HRG.out w2 hg2)).mono ?_); rintro e w3 ⟨rfl, hR3, hg3⟩; obtain ⟨c0, c1, c2, f1, f2⟩ := hR3.all))
          go_quiet (fail)
          have hb := below_drewN w3 nq
          obtain ⟨c0', c1', c2', f1', f2'⟩ := (hR3.old hb).all
          clear c0 c1 c2 f1 f2
          generalize w3.drewN nq = w4 at *
          go_wp2_with fail
          exact ⟨rfl, rfl, (hg2.trans hg3).trans (grown_below hb _)⟩
        · rw [if_neg hlt]
          have hsm : ¬ (n : Int) - q < m := by omega
          have hmle : q + m ≤ n := by omega
          have hdr : n - (r2.drop m).length = q + m := by rw [List.length_drop]; omega
          have htl : (r2.take m).length = m := by rw [List.length_take]; omega
          have HDR := hid hdr
          have HTL := hid htl
          clear hdr hlt
          obtain ⟨L, hL⟩ : ∃ L, L = r2.take m := ⟨_, rfl⟩
          rw [← hL] at htl HTL ⊢
          have HL := hid hL
          clear hL htl
          go_enter Tryz.func101, Tryz.ntmps101
          go_wp2_with (first
            | ((with_reducible refine HC.out.mono ?_); rintro e w2 ⟨rfl, hR2, hg2⟩)
            | ((with_reducible refine (C2.out w2 hR2 (HRG.out w2 hg2)).mono ?_); rintro e w3 ⟨rfl, hR3, hg3⟩; obtain ⟨c0, c1, c2, f1, f2⟩ := hR3.all))
          go_quiet (fail)
          have hb := below_drewN w3 nq
          have hR4 := hR3.old hb
          have hg4 := (hg2.trans hg3).trans (grown_below hb (some r))
          obtain ⟨c0', c1', c2', f1', f2'⟩ := hR4.all
          clear c0 c1 c2 f1 f2 hR3 hg2 hg3 hR2
          generalize w3.drewN nq = w4 at *
          have i1 : (q : Int) ≤ (q : Int) + m := by omega
          have i2 : (q : Int) + m ≤ c := by omega
          have i3 : (0 : Int) ≤ (q : Int) + m := by omega
          have i4 : ((q : Int) + m).toNat = q + m := by omega
          have i5 : IntKind.i64.wrap ((q : Int) + m) = (q : Int) + m := IntWalk.i64_in _ (by omega)
          have i6 : q ≤ q + m := by omega
          have i7 : q + m ≤ c := by omega
          have i8 : q + m - q = m := by omega
          go_wp2_with fail
          go_still_tail 15, (by kernel_rfl)
          change wpList _ _ _ _ _ w4.drew
          have hbd : Below w4.heap.size w4 w4.drew := (Below.refl _ _).drew
          have hR5 := hR4.old hbd
          have hg5 := hg4.trans (grown_below hbd (some r))
          have hz5 : w.heap.size ≤ w4.drew.heap.size := hg5.size
          have hsub := sub_reads (HRG.out _ hg5) HD.out hmle hc
          rw [← HL.out] at hsub
          have C3 := hid (bytesClone_any _ m (c - q) L _ _ hsub (by omega))
          clear c0' c1' c2' f1' f2' hR4 hg4 hsub hbd
          generalize w4.drew = w5 at *
          generalize (if c = q then A else Option.map (fun x => x.add q) A) = A2 at *
          go_wp2_with ((with_reducible refine C3.out.mono ?_); rintro e w6 ⟨A', c', rfl, hc', hr', hb6⟩; obtain ⟨c0, c1, c2, f1, f2⟩ := (hR5.old hb6).all)
          have hR7 := (hR5.old hb6).set1 ((q : Int) + m)
          have hrl : r ≠ w5.heap.size := by have := hR5.lt; omega
          have hr7 := (hr'.more (S' := fun k => r < k ∧ w.heap.size ≤ k) (fun k hk => ⟨by have := hR5.lt; omega, by omega⟩)).far (p := ⟨r, 1, none⟩) (fun k hk => by show k ≠ r; omega) (.int .i64 ((q : Int) + m))
          have hg7 := (hg5.trans (grown_below hb6 (some r))).trans (grown_set w6 r 1 (.int .i64 ((q : Int) + m)))
          have H7 := hid (And.intro hR7 (And.intro hr7 hg7))
          clear hR7 hr7 hg7 hr' hb6 hR5 hg5
          go_wp2_with fail
          go_ret
          obtain ⟨hR8, hr8, hg8⟩ := H7.out
          refine ⟨A', c', rfl, hc', hr8.more (fun k hk => hk.2), ?_, hg8⟩
          rw [HDR.out]
          have e9 : ((q + m : Nat) : Int) = (q : Int) + m := by omega
          rw [e9]
          exact hR8
end Go.Proofs.YtcojkmcnigppbaaGreatDoor
end
section
namespace Go.Proofs.YtcojkmcnigppbaaGreatDoor
open Go Go.Proofs Go.RowKit Sx Oct
theorem begins_contains (c : UInt8) : ([40, 91, 48, 49, 50, 51, 52, 53, 54, 55, 56, 57] : List UInt8).contains c = begins c := by
  rw [Bool.eq_iff_iff]
  simp only [List.contains_iff_mem, begins, Bool.or_eq_true, beq_iff_eq, isDig, decide_eq_true_eq]
  constructor
  · intro h
    simp only [List.mem_cons, List.not_mem_nil, or_false] at h
    rcases h with rfl | rfl | rfl | rfl | rfl | rfl | rfl | rfl | rfl | rfl | rfl | rfl <;> decide
  · rintro ((rfl | rfl) | ⟨h1, h2⟩)
    · simp
    · simp
    · have hc : c.toNat = 48 ∨ c.toNat = 49 ∨ c.toNat = 50 ∨ c.toNat = 51 ∨ c.toNat = 52 ∨ c.toNat = 53 ∨ c.toNat = 54 ∨ c.toNat = 55 ∨ c.toNat = 56 ∨ c.toNat = 57 := by omega
      have e : ∀ k : UInt8, c.toNat = k.toNat → c = k := fun k h => UInt8.toNat_inj.1 h
      rcases hc with h | h | h | h | h | h | h | h | h | h
      · rw [e 48 h]; simp
      · rw [e 49 h]; simp
      · rw [e 50 h]; simp
      · rw [e 51 h]; simp
      · rw [e 52 h]; simp
      · rw [e 53 h]; simp
      · rw [e 54 h]; simp
      · rw [e 55 h]; simp
      · rw [e 56 h]; simp
      · rw [e 57 h]; simp
set_option maxHeartbeats 1000000 in
set_option maxRecDepth 100000 in
theorem begins_any (c : UInt8) (w : World) : Calls Tryz.prog 98 #[.int .u8 c.toNat] w fun e w' => e = .returned (.bool (begins c)) ∧ w' = w := by
  have hI := Tryz.strings_IndexByte ⟨#[40, 91, 48, 49, 50, 51, 52, 53, 54, 55, 56, 57]⟩ (c.toNat : Int) w
  have e1 : ((c.toNat : Int)).toNat.toUInt8 = c := by simp
  rw [e1] at hI
  have hB : Hid (decide (0 ≤ Lib.indexByte [40, 91, 48, 49, 50, 51, 52, 53, 54, 55, 56, 57] c) = begins c) := by show _ = _; rw [← begins_contains, Lib.contains_iff_indexByte]
  have hge := Lib.indexByte_ge [40, 91, 48, 49, 50, 51, 52, 53, 54, 55, 56, 57] c
  have HI := hid hI
  have hI2 : Calls Tryz.prog 88 #[.string ⟨#[40, 91, 48, 49, 50, 51, 52, 53, 54, 55, 56, 57]⟩, .int .u8 c.toNat] w fun e w' => e = .returned (.int .i64 (Lib.indexByte [40, 91, 48, 49, 50, 51, 52, 53, 54, 55, 56, 57] c)) ∧ w' = w := hI
  have HI2 := hid hI2
  rw [← hB.out]
  clear hI hI2 HI e1 hB
  generalize Lib.indexByte [40, 91, 48, 49, 50, 51, 52, 53, 54, 55, 56, 57] c = j at *
  go_enter Tryz.func98, Tryz.ntmps98
  go_wp2_with ((with_reducible refine HI2.out.mono ?_); rintro e w2 ⟨rfl, rfl⟩)
  go_ret
  exact ⟨rfl, rfl⟩
def ValEnd (w : World) (r : Nat) (A : Option Addr) (n c : Nat) (e : Ending) (w' : World) : Res (SX × Nat) → Prop
  | .err k rest => Thrown k (n - rest.length) e ∧ w.grownBy w' (some r)
  | .ok (t, nd') rest => ∃ v0 v1 v2 v3 v4, e = .returned (.agg #[v0, v1, v2, v3, v4]) ∧ SIn w' (fun k => w.heap.size ≤ k) t [v0, v1, v2, v3, v4] ∧ RdAt w' r A n c (n - rest.length : Nat) nd' ∧ w.grownBy w' (some r)
def hintRes (x : Res (List UInt8 × List UInt8)) (nd : Nat) : Res (SX × Nat) := match x with
  | .err e r' => .err e r'
  | .ok (hi, da) r' => .ok (.mk false true hi da [], nd) r'
theorem grown_own {w w1 : World} {row : Option Nat} (h : w.grownBy w1 row) {b i : Nat} (hb : w.heap.size ≤ b) (x : Value) : w.grownBy (w1.setCell ⟨b, i, none⟩ x) row :=
  ⟨h.os, h.tape, h.output, by have := h.size; simpa using this, fun k hk hr => (Below.heap_setCell w1 ⟨b, i, none⟩ x k (by show k ≠ b; omega)).trans (h.block k hk hr)⟩
theorem Box.grown {w w' : World} {b : Nat} {v0 v1 v2 v3 v4 : Value} {row : Option Nat} (h : Box w b v0 v1 v2 v3 v4) (hg : w.grownBy w' row) (hr : row ≠ some b) : Box w' b v0 v1 v2 v3 v4 :=
  (hg.block b (by
    rcases Nat.lt_or_ge b w.heap.size with h' | h'
    · exact h'
    · unfold Box at h; rw [Array.getElem?_eq_none h'] at h; cases h) (fun e => hr e.symm)).trans h
theorem RdAt.far {w : World} {r : Nat} {A : Option Addr} {n c : Nat} {p nd : Int} (h : RdAt w r A n c p nd) {q : Addr} (hq : r ≠ q.block) (x : Value) : RdAt (w.setCell q x) r A n c p nd := (Below.heap_setCell w q x r hq).trans h
theorem put5_block {w : World} {b k : Nat} (hk : k ≠ b) (x0 x1 x2 x3 x4 : Value) : (put5 w b x0 x1 x2 x3 x4).heap[k]? = w.heap[k]? := by
  unfold put5
  rw [Below.heap_setCell _ _ _ _ (by exact hk), Below.heap_setCell _ _ _ _ (by exact hk), Below.heap_setCell _ _ _ _ (by exact hk), Below.heap_setCell _ _ _ _ (by exact hk), Below.heap_setCell _ _ _ _ (by exact hk)]
theorem put5_grown {w w1 : World} {row : Option Nat} (h : w.grownBy w1 row) {b : Nat} (hb : w.heap.size ≤ b) (x0 x1 x2 x3 x4 : Value) : w.grownBy (put5 w1 b x0 x1 x2 x3 x4) row :=
  grown_own (grown_own (grown_own (grown_own (grown_own h hb x0) hb x1) hb x2) hb x3) hb x4
set_option maxHeartbeats 4000000 in
set_option maxRecDepth 100000 in
theorem hinted_any (r : Nat) (A : Option Addr) (n c : Nat) (p : Nat) (nd : Nat) (b : List UInt8) (B : Nat) (w : World) (h : RdAt w r A n c p nd) (hr : Reads w B 1 A n (Lib.byteCells b)) (hB : B ≤ r) (hn : n ≤ 5000) (hc : n ≤ c) (s : List UInt8) (hs : b.drop p = 91 :: s) :
    Calls Tryz.prog 100 #[.pointer (some ⟨r, 0, none⟩)] w fun e w' => ValEnd w r A n c e w' (hintRes (pHint s) nd) := by
  generalize hRR : hintRes (pHint s) nd = R
  have HRR := hid hRR
  clear hRR
  have hl : b.length = n := by have := hr.1; simpa [Lib.byteCells_length] using this
  have hsl : (91 :: s).length = n - p := by rw [← hs, List.length_drop, hl]
  have hsl' : s.length + 1 = n - p := by rw [← hsl]; simp
  have hrl := h.lt
  have hb0 := (below_new w (.cells #[.bool false, .bool false, .slice none 0 0, .slice none 0 0, .slice none 0 0] 25)).trans ((below_new (w.alloc (.cells #[.bool false, .bool false, .slice none 0 0, .slice none 0 0, .slice none 0 0] 25)) (.cells #[.bool false, .bool true, .slice none 0 0, .slice none 0 0, .slice none 0 0] 25)).mono (by simp))
  have X1 : Box ((w.alloc (.cells #[.bool false, .bool false, .slice none 0 0, .slice none 0 0, .slice none 0 0] 25)).alloc (.cells #[.bool false, .bool true, .slice none 0 0, .slice none 0 0, .slice none 0 0] 25)) w.heap.size (.bool false) (.bool false) (.slice none 0 0) (.slice none 0 0) (.slice none 0 0) :=
    below_at (below_new _ _) (heap_alloc_new w _)
  have X2 : Box ((w.alloc (.cells #[.bool false, .bool false, .slice none 0 0, .slice none 0 0, .slice none 0 0] 25)).alloc (.cells #[.bool false, .bool true, .slice none 0 0, .slice none 0 0, .slice none 0 0] 25)) (w.heap.size + 1) (.bool false) (.bool true) (.slice none 0 0) (.slice none 0 0) (.slice none 0 0) := by
    have := heap_alloc_new (w.alloc (.cells #[.bool false, .bool false, .slice none 0 0, .slice none 0 0, .slice none 0 0] 25)) (.cells #[.bool false, .bool true, .slice none 0 0, .slice none 0 0, .slice none 0 0] 25)
    have e : (w.alloc (.cells #[.bool false, .bool false, .slice none 0 0, .slice none 0 0, .slice none 0 0] 25)).heap.size = w.heap.size + 1 := by simp
    rw [e] at this
    exact this
  have hsz : ((w.alloc (.cells #[.bool false, .bool false, .slice none 0 0, .slice none 0 0, .slice none 0 0] 25)).alloc (.cells #[.bool false, .bool true, .slice none 0 0, .slice none 0 0, .slice none 0 0] 25)).heap.size = w.heap.size + 2 := by simp
  go_enter Tryz.func100, Tryz.ntmps100
  go_wp2_with fail
  generalize ((w.alloc (.cells #[.bool false, .bool false, .slice none 0 0, .slice none 0 0, .slice none 0 0] 25)).alloc (.cells #[.bool false, .bool true, .slice none 0 0, .slice none 0 0, .slice none 0 0] 25)) = W at *
  have hg0 := grown_below hb0 (some r)
  refine (expect_good r A n c p nd b B W (h.old hb0) (hr.keep fun q hq => hb0.cell (by omega)) (by omega) hn 91 s hs 91 rfl).mono ?_
  rintro e w1 ⟨rfl, hR1, hg1⟩
  have hg01 := hg0.trans hg1
  have hr1 := reads_grown hr hg01 hB
  have hd1 : b.drop (p + 1) = s := by rw [← List.drop_drop, hs]; rfl
  have C2 := bytes_any r A n c (p + 1) nd b B w1 hR1 hr1 hB (by omega) hn hc s hd1
  have X1 := X1.grown hg1 (fun e => by injection e with e; omega)
  have X2 := X2.grown hg1 (fun e => by injection e with e; omega)
  have hz1 := hg1.size
  clear hg0 hg1 hR1 h
  cases hp1 : pBytes s with
  | err k rest =>
    rw [hp1] at C2
    have HC := hid C2
    have hRe : Hid (R = .err k rest) := by show _ = _; rw [← HRR.out]; simp [hintRes, pHint, hp1]
    clear C2 hp1
    go_wp2_with ((with_reducible refine HC.out.mono ?_); rintro e w2 ⟨rfl, hg2⟩)
    refine ⟨rfl, ?_⟩
    rw [hRe.out]
    exact ⟨rfl, hg01.trans hg2⟩
  | ok hi rest =>
    rw [hp1] at C2
    obtain ⟨hs1, hhl⟩ := pBytes_sound hp1
    obtain ⟨hd2, hq1, hq2⟩ := drop_rest (by omega) hd1 hs1
    rw [hl] at hd2 hq1
    have HC := hid C2
    have HP1 := hid hp1
    clear C2 hp1
    go_wp2_with fail
    refine HC.out.mono ?_
    rintro e w2 ⟨A1, c1, rfl, hc1, q1, hR2, hg2⟩
    have hg02 := hg01.trans hg2
    have X1 := X1.grown hg2 (fun e => by injection e with e; omega)
    have X2 := X2.grown hg2 (fun e => by injection e with e; omega)
    have hz2 := hg2.size
    obtain ⟨⟨-, -, f2, -, -⟩, fz⟩ := X2.all
    have fz2 := fz 2
    have Y1 := X1.far (p := ⟨w.heap.size + 1, 2, none⟩) (by show w.heap.size ≠ w.heap.size + 1; omega) (.slice A1 hi.length c1)
    have Y2 := X2.set2 (.slice A1 hi.length c1)
    have hgY := grown_own hg02 (b := w.heap.size + 1) (i := 2) (by omega) (.slice A1 hi.length c1)
    have hRY := hR2.far (q := ⟨w.heap.size + 1, 2, none⟩) (by show r ≠ w.heap.size + 1; omega) (.slice A1 hi.length c1)
    have qY := (q1.more (S' := fun k => w.heap.size + 2 ≤ k) (fun k hk => by omega)).far (p := ⟨w.heap.size + 1, 2, none⟩) (fun k hk => by show k ≠ w.heap.size + 1; omega) (.slice A1 hi.length c1)
    have hzY : (w2.setCell ⟨w.heap.size + 1, 2, none⟩ (.slice A1 hi.length c1)).heap.size = w2.heap.size := by simp
    clear X1 X2 fz hg02 hR2 q1 hg2 hg01
    have hd2' := hd2
    have hr2 := reads_grown hr hgY hB
    clear HC
    cases rest with
    | nil =>
      have hRe : Hid (R = .err 2 []) := by show _ = _; rw [← HRR.out]; simp [hintRes, pHint, HP1.out]
      have C3 := hid (expect_end r A n c (n - ([] : List UInt8).length) nd 93 _ hRY (by simp) hn (by omega))
      go_wp2_with ((with_reducible refine C3.out.mono ?_); rintro e w3 ⟨rfl, hb3⟩)
      refine ⟨rfl, ?_⟩
      rw [hRe.out]
      exact ⟨rfl, hgY.trans (grown_below hb3 _)⟩
    | cons c0 r2 =>
      have hlr : (c0 :: r2).length = r2.length + 1 := by simp
      have hle : r2.length + 1 ≤ n := by have := congrArg List.length hs1; rw [List.length_append, hlr] at this; omega
      have hpn : n - (c0 :: r2).length < n := by rw [hlr]; omega
      by_cases hc0 : c0 ≠ 93
      · have hRe : Hid (R = .err 3 (c0 :: r2)) := by show _ = _; rw [← HRR.out]; simp [hintRes, pHint, HP1.out, hc0]
        have C3 := hid (expect_bad r A n c (n - (c0 :: r2).length) nd b B _ hRY hr2 hpn hn c0 r2 hd2 93 (fun e => hc0 (UInt8.toNat_inj.1 (by show c0.toNat = 93; omega))))
        go_wp2_with ((with_reducible refine C3.out.mono ?_); rintro e w3 ⟨rfl, hb3⟩)
        refine ⟨rfl, ?_⟩
        rw [hRe.out]
        exact ⟨rfl, hgY.trans (grown_below hb3 _)⟩
      · have hc0 : c0 = 93 := Classical.not_not.1 hc0
        subst hc0
        have C3 := hid (expect_good r A n c (n - (93 :: r2).length) nd b B _ hRY hr2 hpn hn 93 r2 hd2 93 rfl)
        have hp2 : n - (93 :: r2 : List UInt8).length + 1 = n - r2.length := by rw [hlr]; omega
        have hd3 : b.drop (n - r2.length) = r2 := by rw [← hp2, ← List.drop_drop, hd2]; rfl
        rw [hp2] at C3
        generalize hWY : w2.setCell ⟨w.heap.size + 1, 2, none⟩ (.slice A1 hi.length c1) = WY at *
        have C4 := fun W hW hrW => bytes_any r A n c (n - r2.length) nd b B W hW hrW hB (by omega) hn hc r2 hd3
        cases hp3 : pBytes r2 with
        | err k rest =>
          have hRe : Hid (R = .err k rest) := by show _ = _; rw [← HRR.out]; simp [hintRes, pHint, HP1.out, hp3]
          rw [hp3] at C4
          have HC4 := hid C4
          have HRG := hid (fun W (hg : WY.grownBy W (some r)) => reads_grown hr2 hg hB)
          clear C4 hp3
          go_wp2_with (first
            | ((with_reducible refine C3.out.mono ?_); rintro e w3 ⟨rfl, hR3, hg3⟩)
            | ((with_reducible refine (HC4.out w3 hR3 (HRG.out _ hg3)).mono ?_); rintro e w4 ⟨rfl, hg4⟩))
          refine ⟨rfl, ?_⟩
          rw [hRe.out]
          exact ⟨rfl, (hgY.trans hg3).trans hg4⟩
        | ok da rest =>
          have hRe : Hid (R = .ok (.mk false true hi da [], nd) rest) := by show _ = _; rw [← HRR.out]; simp [hintRes, pHint, HP1.out, hp3]
          rw [hp3] at C4
          have HC4 := hid C4
          have HRG := hid (fun W (hg : WY.grownBy W (some r)) => reads_grown hr2 hg hB)
          have hdl := (pBytes_sound hp3).2
          clear C4 hp3
          go_wp2_with ((with_reducible refine C3.out.mono ?_); rintro e w3 ⟨rfl, hR3, hg3⟩)
          refine (HC4.out w3 hR3 (HRG.out _ hg3)).mono ?_
          rintro e w4 ⟨A2, c2, rfl, hc2, q2, hR4, hg4⟩
          have hgZ := (hgY.trans hg3).trans hg4
          have hgYZ := hg3.trans hg4
          have Z1 := Y1.grown hgYZ (fun e => by injection e with e; omega)
          have Z2 := Y2.grown hgYZ (fun e => by injection e with e; omega)
          have qZ := qY.grown (by omega) hgYZ (fun k hk e => by injection e with e; omega)
          have hz4 := hgYZ.size
          have hz3 := hg3.size
          obtain ⟨⟨d0, d1, d2, d3, d4⟩, dz⟩ := Z1.all
          obtain ⟨⟨f0, f1, f2, f3, f4⟩, fz⟩ := Z2.all
          have fz3 := fz 3
          have dz0 := dz 0
          have dz1 := dz 1
          have dz2 := dz 2
          have dz3 := dz 3
          have dz4 := dz 4
          clear fz dz Z1 Z2 Y1 Y2 qY hRY
          go_wp2_with fail
          have F : ∀ q : Addr, w.heap.size + 2 ≤ q.block → (put5 (w4.setCell ⟨w.heap.size + 1, 3, none⟩ (.slice A2 da.length c2)) w.heap.size (.bool false) (.bool true) (.slice A1 hi.length c1) (.slice A2 da.length c2) (.slice none 0 0)).cell? q = w4.cell? q := by
            intro q hq
            rw [put5_far q (by omega)]
            exact World.cell?_setCell_other _ _ _ _ (fun e => by rw [← e] at hq; simp at hq)
          have hgF := put5_grown (grown_own hgZ (b := w.heap.size + 1) (i := 3) (by omega) (.slice A2 da.length c2)) (Nat.le_refl _) (.bool false) (.bool true) (.slice A1 hi.length c1) (.slice A2 da.length c2) (.slice none 0 0)
          have hRF : RdAt (put5 (w4.setCell ⟨w.heap.size + 1, 3, none⟩ (.slice A2 da.length c2)) w.heap.size (.bool false) (.bool true) (.slice A1 hi.length c1) (.slice A2 da.length c2) (.slice none 0 0)) r A n c (n - rest.length : Nat) nd :=
            (put5_block (by omega) _ _ _ _ _).trans (hR4.far (q := ⟨w.heap.size + 1, 3, none⟩) (by show r ≠ w.heap.size + 1; omega) _)
          refine bodyPost_ret (v := .agg #[.bool false, .bool true, .slice A1 hi.length c1, .slice A2 da.length c2, .slice none 0 0]) (by simp [results, Tryz.results100, go_sem, d0, d1, d2, d3, d4]) rfl ?_
          rw [hRe.out]
          refine ⟨_, _, _, _, _, rfl, ?_, hRF, hgF⟩
          exact .mk (xs := []) ((qZ.keep F).more fun k hk => by omega) ⟨hc1, by omega⟩ (((q2.more (S' := fun k => w.heap.size + 2 ≤ k) fun k hk => by omega).keep F).more fun k hk => by omega) ⟨hc2, by omega⟩ RIn.none_ ⟨Nat.le_refl _, by omega⟩ rfl (fun i t hit => by simp at hit)
end Go.Proofs.YtcojkmcnigppbaaGreatDoor
end
section
namespace Go.Proofs.YtcojkmcnigppbaaGreatDoor
open Go Go.Proofs Go.RowKit Sx Oct
def ValSpec (f : Nat) : Prop := ∀ (r : Nat) (A : Option Addr) (n c p nd ar : Nat) (b : List UInt8) (B : Nat) (w : World), RdAt w r A n c p nd → Reads w B 1 A n (Lib.byteCells b) → B ≤ r → n ≤ 5000 → n ≤ c → p ≤ n → nd ≤ 512 → ar ≤ 16 → 2 * (n - p) + 1 ≤ f →
    Calls Tryz.prog 67 #[.pointer (some ⟨r, 0, none⟩), .int .i64 ar] w fun e w' => ValEnd w r A n c e w' (pVal f (b.drop p) nd ar)
def listRes (x : Res (List SX × Nat)) : Res (SX × Nat) := match x with
  | .err e r' => .err e r'
  | .ok (ks, nd') r' => .ok (.mk true false [] [] ks, nd') r'
def ListSpec (f : Nat) : Prop := ∀ (r : Nat) (A : Option Addr) (n c p nd ar : Nat) (b : List UInt8) (B : Nat) (w : World) (s : List UInt8), RdAt w r A n c p nd → Reads w B 1 A n (Lib.byteCells b) → B ≤ r → n ≤ 5000 → n ≤ c → b.drop p = 40 :: s → nd ≤ 512 → ar < 16 → 2 * s.length + 2 ≤ f →
    Calls Tryz.prog 99 #[.pointer (some ⟨r, 0, none⟩), .int .i64 ar] w fun e w' => ValEnd w r A n c e w' (listRes (pKids f s nd (ar + 1)))
theorem ValEnd.from {w W : World} {r : Nat} {A : Option Addr} {n c : Nat} {e : Ending} {w' : World} {R : Res (SX × Nat)} (h : ValEnd W r A n c e w' R) (hg : w.grownBy W (some r)) : ValEnd w r A n c e w' R := by
  cases R with
  | err k rest => exact ⟨h.1, hg.trans h.2⟩
  | ok x rest =>
    obtain ⟨t, nd'⟩ := x
    obtain ⟨v0, v1, v2, v3, v4, he, hin, hR, hg2⟩ := h
    exact ⟨v0, v1, v2, v3, v4, he, hin.more fun k hk => by have := hg.size; omega, hR, hg.trans hg2⟩
set_option maxHeartbeats 4000000 in
set_option maxRecDepth 100000 in
theorem value_step (f : Nat) (hL : ListSpec f) : ValSpec (f + 1) := by
  intro r A n c p nd ar b B w h hr hB hn hc hp hnd har hf
  generalize hRR : pVal (f + 1) (b.drop p) nd ar = R
  have hl : b.length = n := by have := hr.1; simpa [Lib.byteCells_length] using this
  have hrl := h.lt
  have hb0 := below_new w (.cells #[.bool false, .bool false, .slice none 0 0, .slice none 0 0, .slice none 0 0] 25)
  have X1 : Box (w.alloc (.cells #[.bool false, .bool false, .slice none 0 0, .slice none 0 0, .slice none 0 0] 25)) w.heap.size (.bool false) (.bool false) (.slice none 0 0) (.slice none 0 0) (.slice none 0 0) := heap_alloc_new w _
  have hsz : (w.alloc (.cells #[.bool false, .bool false, .slice none 0 0, .slice none 0 0, .slice none 0 0] 25)).heap.size = w.heap.size + 1 := by simp
  have h0 := h.old hb0
  have hr0 : Reads (w.alloc (.cells #[.bool false, .bool false, .slice none 0 0, .slice none 0 0, .slice none 0 0] 25)) B 1 A n (Lib.byteCells b) := hr.keep fun q hq => hb0.cell (by omega)
  have hg0 := grown_below hb0 (some r)
  cases hs : b.drop p with
  | nil =>
    rw [hs, pVal] at hRR
    subst hRR
    have hpn : n ≤ p := by have := congrArg List.length hs; rw [List.length_drop, hl] at this; simp at this; omega
    have C := hid (peek_end r A n c p nd _ h0 hpn hn (by omega))
    clear h h0 hr hr0 X1 hs
    go_enter Tryz.func67, Tryz.ntmps67
    go_wp2_with ((with_reducible refine C.out.mono ?_); rintro e w1 ⟨rfl, hb1⟩)
    exact ⟨rfl, rfl, hg0.trans (grown_below hb1 _)⟩
  | cons x s =>
    have hlen : (x :: s).length = n - p := by rw [← hs, List.length_drop, hl]
    have hlen' : s.length + 1 = n - p := by rw [← hlen]; simp
    have hplace : n - (x :: s).length = p := by omega
    have C := hid (peek_at r A n c p nd b B _ h0 hr0 (by omega) hn x s hs)
    have CB := hid (fun W => begins_any x W)
    have HR0 := hid h0
    rw [hs, pVal] at hRR
    try simp only at hRR
    have HPL := hid hplace
    by_cases hbg : begins x = false
    · rw [if_pos hbg] at hRR
      subst hRR
      rw [hbg] at CB
      clear h h0 hr hr0 X1 hs hlen hplace
      go_enter Tryz.func67, Tryz.ntmps67
      go_wp2_with (first
        | ((with_reducible refine C.out.mono ?_); rintro e w1 ⟨rfl, hb1⟩; obtain ⟨c0, c1, c2, f1, f2⟩ := (HR0.out.old hb1).all)
        | ((with_reducible refine (CB.out _).mono ?_); rintro e w2 ⟨rfl, rfl⟩))
      exact ⟨rfl, by show Thrown 3 (n - (x :: s).length) _; rw [HPL.out]; rfl, hg0.trans (grown_below hb1 _)⟩
    · rw [if_neg hbg] at hRR
      have hbg : begins x = true := by simpa using hbg
      rw [hbg] at CB
      clear hbg
      by_cases hlim : 512 ≤ nd ∨ (x = 40 ∧ 16 ≤ ar)
      · rw [if_pos hlim] at hRR
        subst hRR
        by_cases h512 : 512 ≤ nd
        · have h512' : (512 : Int) ≤ nd := by omega
          clear h h0 hr hr0 X1 hs hlen hplace hlim
          go_enter Tryz.func67, Tryz.ntmps67
          go_wp2_with (first
            | ((with_reducible refine C.out.mono ?_); rintro e w1 ⟨rfl, hb1⟩; obtain ⟨c0, c1, c2, f1, f2⟩ := (HR0.out.old hb1).all)
            | ((with_reducible refine (CB.out _).mono ?_); rintro e w2 ⟨rfl, rfl⟩))
          exact ⟨rfl, by show Thrown 4 (n - (x :: s).length) _; rw [HPL.out]; rfl, hg0.trans (grown_below hb1 _)⟩
        · obtain ⟨hx, ha⟩ := hlim.elim (fun h => absurd h h512) id
          subst hx
          have h512' : (nd : Int) < 512 := by omega
          have ha' : (16 : Int) ≤ ar := by omega
          clear h h0 hr hr0 X1 hs hlen hplace hlim
          go_enter Tryz.func67, Tryz.ntmps67
          go_wp2_with (first
            | ((with_reducible refine C.out.mono ?_); rintro e w1 ⟨rfl, hb1⟩; obtain ⟨c0, c1, c2, f1, f2⟩ := (HR0.out.old hb1).all)
            | ((refine (CB.out _).mono ?_); rintro e w2 ⟨rfl, rfl⟩))
          exact ⟨rfl, by show Thrown 4 (n - (40 :: s : List UInt8).length) _; rw [HPL.out]; rfl, hg0.trans (grown_below hb1 _)⟩
      · rw [if_neg hlim] at hRR
        have h512' : (nd : Int) < 512 := by
          have : ¬ 512 ≤ nd := fun h => hlim (.inl h)
          omega
        have hnd1 : nd + 1 ≤ 512 := by omega
        have hcast : ((nd + 1 : Nat) : Int) = (nd : Int) + 1 := by omega
        have HR1 := hid (fun W1 (hb1 : Below (w.alloc (.cells #[.bool false, .bool false, .slice none 0 0, .slice none 0 0, .slice none 0 0] 25)).heap.size (w.alloc (.cells #[.bool false, .bool false, .slice none 0 0, .slice none 0 0, .slice none 0 0] 25)) W1) => (by
          have h1 := (HR0.out.old hb1).set2 ((nd : Int) + 1)
          have h2 := hg0.trans ((grown_below hb1 (some r)).trans (grown_set W1 r 2 (.int .i64 ((nd : Int) + 1))))
          have h3 : Box (W1.setCell ⟨r, 2, none⟩ (.int .i64 ((nd : Int) + 1))) w.heap.size (.bool false) (.bool false) (.slice none 0 0) (.slice none 0 0) (.slice none 0 0) := (X1.old hb1).far (by show w.heap.size ≠ r; omega) _
          have h4 := reads_grown hr h2 hB
          rw [← hcast] at h1
          exact And.intro h1 (And.intro h2 (And.intro h3 h4)) :
            RdAt (W1.setCell ⟨r, 2, none⟩ (.int .i64 ((nd : Int) + 1))) r A n c p (nd + 1 : Nat) ∧ w.grownBy (W1.setCell ⟨r, 2, none⟩ (.int .i64 ((nd : Int) + 1))) (some r) ∧
            Box (W1.setCell ⟨r, 2, none⟩ (.int .i64 ((nd : Int) + 1))) w.heap.size (.bool false) (.bool false) (.slice none 0 0) (.slice none 0 0) (.slice none 0 0) ∧ Reads (W1.setCell ⟨r, 2, none⟩ (.int .i64 ((nd : Int) + 1))) B 1 A n (Lib.byteCells b)))
        by_cases h40 : x = 40
        · subst h40
          rw [if_pos rfl] at hRR
          have ha : ar < 16 := by
            have : ¬ 16 ≤ ar := fun h => hlim (.inr ⟨rfl, h⟩)
            omega
          have ha' : (ar : Int) < 16 := by omega
          have CL := hid (fun W2 hR hrd => hL r A n c p (nd + 1) ar b B W2 s hR hrd hB hn hc hs hnd1 ha (by omega))
          have hRR : listRes (pKids f s (nd + 1) (ar + 1)) = R := hRR
          rw [hRR] at CL
          clear h h0 hr hr0 hs hlen hplace hlim hRR HPL hL
          go_enter Tryz.func67, Tryz.ntmps67
          go_wp2_with (first
            | ((with_reducible refine C.out.mono ?_); rintro e w1 ⟨rfl, hb1⟩; obtain ⟨c0, c1, c2, f1, f2⟩ := (HR0.out.old hb1).all)
            | ((refine (CB.out _).mono ?_); rintro e w2 ⟨rfl, rfl⟩))
          obtain ⟨hR2, hg2, hX2, hrd2⟩ := HR1.out _ hb1
          refine (CL.out _ hR2 hrd2).mono ?_
          intro e w3 hE
          cases R with
          | err k rest =>
            obtain ⟨rfl, hg3⟩ := hE
            go_wp2_with fail
            exact ⟨rfl, rfl, hg2.trans hg3⟩
          | ok y rest =>
            obtain ⟨t, nd'⟩ := y
            obtain ⟨x0, x1, x2, x3, x4, rfl, hin, hR3, hg3⟩ := hE
            obtain ⟨l', h', hi', da', ks', B1, m1, j1, B2, m2, j2, B3, m3, j3, _, eE⟩ := hin.form_
            injection eE with eE0 eE; injection eE with eE1 eE; injection eE with eE2 eE; injection eE with eE3 eE; injection eE with eE4 eE
            subst eE0 eE1 eE2 eE3 eE4
            have hz2 : w.heap.size + 1 ≤ (w2.setCell ⟨r, 2, none⟩ (.int .i64 ((nd : Int) + 1))).heap.size := by have := hb1.size; simp at this ⊢; omega
            have hgF := put5_grown (hg2.trans hg3) (Nat.le_refl _) (.bool l') (.bool h') (.slice B1 m1 j1) (.slice B2 m2 j2) (.slice B3 m3 j3)
            have hRF : RdAt (put5 w3 w.heap.size (.bool l') (.bool h') (.slice B1 m1 j1) (.slice B2 m2 j2) (.slice B3 m3 j3)) r A n c (n - rest.length : Nat) nd' := (put5_block (by omega) _ _ _ _ _).trans hR3
            have hiF : SIn (put5 w3 w.heap.size (.bool l') (.bool h') (.slice B1 m1 j1) (.slice B2 m2 j2) (.slice B3 m3 j3)) (fun k => w.heap.size ≤ k) t [.bool l', .bool h', .slice B1 m1 j1, .slice B2 m2 j2, .slice B3 m3 j3] :=
              ((hin.more (S' := fun k => w.heap.size + 1 ≤ k) fun k hk => by omega).keep fun q hq => put5_far q (by omega)).more fun k hk => by omega
            obtain ⟨⟨d0, d1, d2, d3, d4⟩, dz⟩ := (hX2.grown hg3 (fun e => by injection e with e; omega)).all
            have dz0 := dz 0
            have dz1 := dz 1
            have dz2 := dz 2
            have dz3 := dz 3
            have dz4 := dz 4
            have HF := hid (And.intro hiF (And.intro hRF hgF))
            clear dz hX2 hin hR3 hR2 hiF hRF hgF hrd2
            go_wp2_with fail
            exact bodyPost_ret (v := .agg #[.bool l', .bool h', .slice B1 m1 j1, .slice B2 m2 j2, .slice B3 m3 j3]) (by simp [results, Tryz.results67, go_sem, d0, d1, d2, d3, d4]) rfl ⟨_, _, _, _, _, rfl, HF.out⟩
        · rw [if_neg h40] at hRR
          have h40' : ((x.toNat : Int) == 40) = false := by
            rw [beq_eq_false_iff_ne]
            intro e
            exact h40 (UInt8.toNat_inj.1 (by show x.toNat = 40; omega))
          by_cases h91 : x = 91
          · subst h91
            rw [if_pos rfl] at hRR
            have CL := hid (fun W2 hR hrd => hinted_any r A n c p (nd + 1) b B W2 hR hrd hB hn hc s hs)
            have hRR : hintRes (pHint s) (nd + 1) = R := hRR
            rw [hRR] at CL
            clear h h0 hr hr0 hs hlen hplace hlim hRR HPL hL
            go_enter Tryz.func67, Tryz.ntmps67
            go_wp2_with (first
              | ((with_reducible refine C.out.mono ?_); rintro e w1 ⟨rfl, hb1⟩; obtain ⟨c0, c1, c2, f1, f2⟩ := (HR0.out.old hb1).all)
              | ((refine (CB.out _).mono ?_); rintro e w2 ⟨rfl, rfl⟩))
            obtain ⟨hR2, hg2, hX2, hrd2⟩ := HR1.out _ hb1
            refine (CL.out _ hR2 hrd2).mono ?_
            intro e w3 hE
            cases R with
            | err k rest =>
              obtain ⟨rfl, hg3⟩ := hE
              go_wp2_with fail
              exact ⟨rfl, rfl, hg2.trans hg3⟩
            | ok y rest =>
              obtain ⟨t, nd'⟩ := y
              obtain ⟨x0, x1, x2, x3, x4, rfl, hin, hR3, hg3⟩ := hE
              obtain ⟨l', h', hi', da', ks', B1, m1, j1, B2, m2, j2, B3, m3, j3, _, eE⟩ := hin.form_
              injection eE with eE0 eE; injection eE with eE1 eE; injection eE with eE2 eE; injection eE with eE3 eE; injection eE with eE4 eE
              subst eE0 eE1 eE2 eE3 eE4
              have hz2 : w.heap.size + 1 ≤ (w2.setCell ⟨r, 2, none⟩ (.int .i64 ((nd : Int) + 1))).heap.size := by have := hb1.size; simp at this ⊢; omega
              have hgF := put5_grown (hg2.trans hg3) (Nat.le_refl _) (.bool l') (.bool h') (.slice B1 m1 j1) (.slice B2 m2 j2) (.slice B3 m3 j3)
              have hRF : RdAt (put5 w3 w.heap.size (.bool l') (.bool h') (.slice B1 m1 j1) (.slice B2 m2 j2) (.slice B3 m3 j3)) r A n c (n - rest.length : Nat) nd' := (put5_block (by omega) _ _ _ _ _).trans hR3
              have hiF : SIn (put5 w3 w.heap.size (.bool l') (.bool h') (.slice B1 m1 j1) (.slice B2 m2 j2) (.slice B3 m3 j3)) (fun k => w.heap.size ≤ k) t [.bool l', .bool h', .slice B1 m1 j1, .slice B2 m2 j2, .slice B3 m3 j3] :=
                ((hin.more (S' := fun k => w.heap.size + 1 ≤ k) fun k hk => by omega).keep fun q hq => put5_far q (by omega)).more fun k hk => by omega
              obtain ⟨⟨d0, d1, d2, d3, d4⟩, dz⟩ := (hX2.grown hg3 (fun e => by injection e with e; omega)).all
              have dz0 := dz 0
              have dz1 := dz 1
              have dz2 := dz 2
              have dz3 := dz 3
              have dz4 := dz 4
              have HF := hid (And.intro hiF (And.intro hRF hgF))
              clear dz hX2 hin hR3 hR2 hiF hRF hgF hrd2
              go_wp2_with fail
              exact bodyPost_ret (v := .agg #[.bool l', .bool h', .slice B1 m1 j1, .slice B2 m2 j2, .slice B3 m3 j3]) (by simp [results, Tryz.results67, go_sem, d0, d1, d2, d3, d4]) rfl ⟨_, _, _, _, _, rfl, HF.out⟩
          · rw [if_neg h91] at hRR
            have h91' : ((x.toNat : Int) == 91) = false := by
              rw [beq_eq_false_iff_ne]
              intro e
              exact h91 (UInt8.toNat_inj.1 (by show x.toNat = 91; omega))
            have CL := hid (fun W2 hR hrd => bytes_any r A n c p (nd + 1 : Nat) b B W2 hR hrd hB (by omega) hn hc (x :: s) hs)
            clear h h0 hr hr0 hs hlen hplace hlim HPL hL h40 h91
            cases hpb : pBytes (x :: s) with
            | err k rest =>
              rw [hpb] at hRR CL
              have hRR : Res.err k rest = R := hRR
              subst hRR
              clear hpb
              go_enter Tryz.func67, Tryz.ntmps67
              go_wp2_with (first
                | ((with_reducible refine C.out.mono ?_); rintro e w1 ⟨rfl, hb1⟩; obtain ⟨c0, c1, c2, f1, f2⟩ := (HR0.out.old hb1).all)
                | ((with_reducible refine (CB.out _).mono ?_); rintro e w2 ⟨rfl, rfl⟩))
              obtain ⟨hR2, hg2, hX2, hrd2⟩ := HR1.out _ hb1
              refine (CL.out _ hR2 hrd2).mono ?_
              rintro e w3 ⟨rfl, hg3⟩
              go_wp2_with fail
              exact ⟨rfl, rfl, hg2.trans hg3⟩
            | ok da rest =>
              rw [hpb] at hRR CL
              have hRR : Res.ok (SX.mk false false [] da [], nd + 1) rest = R := hRR
              subst hRR
              have hdl := (pBytes_sound hpb).2
              clear hpb
              go_enter Tryz.func67, Tryz.ntmps67
              go_wp2_with (first
                | ((with_reducible refine C.out.mono ?_); rintro e w1 ⟨rfl, hb1⟩; obtain ⟨c0, c1, c2, f1, f2⟩ := (HR0.out.old hb1).all)
                | ((with_reducible refine (CB.out _).mono ?_); rintro e w2 ⟨rfl, rfl⟩))
              obtain ⟨hR2, hg2, hX2, hrd2⟩ := HR1.out _ hb1
              refine (CL.out _ hR2 hrd2).mono ?_
              rintro e w3 ⟨A2, c2, rfl, hc2, q2, hR3, hg3⟩
              have hz2 : w.heap.size + 1 ≤ (w2.setCell ⟨r, 2, none⟩ (.int .i64 ((nd : Int) + 1))).heap.size := by have := hb1.size; simp at this ⊢; omega
              have hgF := put5_grown (hg2.trans hg3) (Nat.le_refl _) (.bool false) (.bool false) (.slice none 0 0) (.slice A2 da.length c2) (.slice none 0 0)
              have hRF : RdAt (put5 w3 w.heap.size (.bool false) (.bool false) (.slice none 0 0) (.slice A2 da.length c2) (.slice none 0 0)) r A n c (n - rest.length : Nat) (nd + 1 : Nat) := (put5_block (by omega) _ _ _ _ _).trans hR3
              have hiF : SIn (put5 w3 w.heap.size (.bool false) (.bool false) (.slice none 0 0) (.slice A2 da.length c2) (.slice none 0 0)) (fun k => w.heap.size ≤ k) (.mk false false [] da []) [.bool false, .bool false, .slice none 0 0, .slice A2 da.length c2, .slice none 0 0] :=
                .mk (xs := []) RIn.none_ ⟨Nat.le_refl _, by omega⟩ (((q2.more (S' := fun k => w.heap.size + 1 ≤ k) fun k hk => by omega).keep fun q hq => put5_far q (by omega)).more fun k hk => by omega) ⟨hc2, by omega⟩ RIn.none_ ⟨Nat.le_refl _, by omega⟩ rfl (fun i t hit => by simp at hit)
              obtain ⟨⟨d0, d1, d2, d3, d4⟩, dz⟩ := (hX2.grown hg3 (fun e => by injection e with e; omega)).all
              have dz0 := dz 0
              have dz1 := dz 1
              have dz2 := dz 2
              have dz3 := dz 3
              have dz4 := dz 4
              have HF := hid (And.intro hiF (And.intro hRF hgF))
              clear dz hX2 q2 hR3 hR2 hiF hRF hgF hrd2
              go_wp2_with fail
              exact bodyPost_ret (v := .agg #[.bool false, .bool false, .slice none 0 0, .slice A2 da.length c2, .slice none 0 0]) (by simp [results, Tryz.results67, go_sem, d0, d1, d2, d3, d4]) rfl ⟨_, _, _, _, _, rfl, HF.out⟩
end Go.Proofs.YtcojkmcnigppbaaGreatDoor
end
section
namespace Go.Proofs.YtcojkmcnigppbaaGreatDoor
open Go Go.Proofs Go.RowKit Sx Oct
theorem own_grown {w w' : World} {B : Nat} {e : TypeId} {size : Nat} {v : Value} {n r : Nat} {xs : List Value} (h : w.ownsRow B e size v n xs) (hg : w.grownBy w' (some r)) (hr : r < B) : w'.ownsRow B e size v n xs := by
  refine ⟨h.1, ?_⟩
  rcases h.2 with h2 | ⟨g, cap, cur, hv, hb, hh, rest⟩
  · exact Or.inl h2
  · exact Or.inr ⟨g, cap, cur, hv, hb, by rw [hg.block g (Array.getElem?_eq_some_iff.1 hh).1 (fun e => by injection e with e; omega)]; exact hh, rest⟩
theorem own_set {w : World} {B : Nat} {e : TypeId} {size : Nat} {v : Value} {n : Nat} {xs : List Value} (h : w.ownsRow B e size v n xs) {p : Addr} (hp : p.block < B) (x : Value) : (w.setCell p x).ownsRow B e size v n xs := by
  refine ⟨h.1, ?_⟩
  rcases h.2 with h2 | ⟨g, cap, cur, hv, hb, hh, rest⟩
  · exact Or.inl h2
  · exact Or.inr ⟨g, cap, cur, hv, hb, by rw [Below.heap_setCell w p x g (by omega)]; exact hh, rest⟩
theorem own_lt {w : World} {B : Nat} {e : TypeId} {size : Nat} {v : Value} {n : Nat} {xs : List Value} (h : w.ownsRow B e size v n xs) {k : Nat} (hk : v.ownBlock = some k) : B ≤ k ∧ k < w.heap.size := by
  rcases h.2 with ⟨h2, _⟩ | ⟨g, cap, cur, hv, hb, hh, rest⟩
  · rw [h2] at hk; cases hk
  · rw [hv] at hk
    have : g = k := by simpa [Value.ownBlock] using hk
    subst this
    exact ⟨hb, (Array.getElem?_eq_some_iff.1 hh).1⟩
theorem RdAt.grown {w w' : World} {r : Nat} {A : Option Addr} {n c : Nat} {p nd : Int} {row : Option Nat} (h : RdAt w r A n c p nd) (hg : w.grownBy w' row) (hr : row ≠ some r) : RdAt w' r A n c p nd :=
  (hg.block r h.lt (fun e => hr e.symm)).trans h
def LHas (w wr : World) (r : Nat) (acc : List SX) (v : Value) (ys : List Value) : Prop :=
  Box wr w.heap.size (.bool false) (.bool false) (.slice none 0 0) (.slice none 0 0) (.slice none 0 0) ∧ Box wr (w.heap.size + 1) (.bool true) (.bool false) (.slice none 0 0) (.slice none 0 0) v ∧
  wr.ownsRow (w.heap.size + 2) 25 5 v acc.length ys ∧ Kids wr (fun k => w.heap.size + 2 ≤ k ∧ some k ≠ v.ownBlock) acc ys ∧ w.grownBy wr (some r) ∧ w.heap.size + 2 ≤ wr.heap.size
theorem LHas.keep {w wr w1 : World} {r : Nat} {acc : List SX} {v : Value} {ys : List Value} (h : LHas w wr r acc v ys) (hr : r < w.heap.size) (hg : wr.grownBy w1 (some r)) : LHas w w1 r acc v ys := by
  obtain ⟨h1, h2, h3, h4, h5, h6⟩ := h
  have hz := hg.size
  exact ⟨h1.grown hg (fun e => by injection e with e; omega), h2.grown hg (fun e => by injection e with e; omega), own_grown h3 hg (by omega),
    fun i t hit => (h4 i t hit).grown hg (fun b hb e => by injection e with e; omega), h5.trans hg, by omega⟩
theorem LHas.step {w w1 w5 : World} {r : Nat} {acc : List SX} {v v' : Value} {ys cs : List Value} {t : SX} {o : Obj} {K : Nat} (h : LHas w w1 r acc v ys) (hr : r < w.heap.size)
    (hin : SIn w1 (fun k => K ≤ k) t cs) (hK : ∀ k, v.ownBlock = some k → k < K) (hK2 : w.heap.size + 2 ≤ K)
    (ho : w5.ownsRow (w.heap.size + 2) 25 5 v' (acc.length + 1) (ys ++ cs)) (hg : (w1.alloc o).grownBy w5 v.ownBlock) (hv : v'.ownBlock = v.ownBlock ∨ v'.ownBlock = some (w1.alloc o).heap.size) :
    LHas w (w5.setCell ⟨w.heap.size + 1, 4, none⟩ v') r (acc ++ [t]) v' (ys ++ cs) := by
  obtain ⟨h1, h2, h3, h4, h5, h6⟩ := h
  have hba := below_new w1 o
  have hsz : (w1.alloc o).heap.size = w1.heap.size + 1 := by simp
  have hz := hg.size
  have hne : ∀ k, k < w.heap.size + 2 → v.ownBlock ≠ some k := fun k hk e => by have := (own_lt h3 e).1; omega
  have hyl := h3.1
  have hcl : cs.length = 5 := by
    obtain ⟨_, _, _, _, _, A1, n1, c1, A2, n2, c2, A3, n3, c3, _, e⟩ := hin.form_
    rw [e]; rfl
  have hfar : ∀ k, k < w1.heap.size → v.ownBlock ≠ some k → v'.ownBlock ≠ some k := fun k hk hn e => by
    rcases hv with hv | hv
    · exact hn (hv ▸ e)
    · rw [hv] at e; injection e with e; omega
  have hset : ∀ {k : Nat}, k ≠ w.heap.size + 1 → (w5.setCell ⟨w.heap.size + 1, 4, none⟩ v').heap[k]? = w5.heap[k]? := fun {k} hk => Below.heap_setCell w5 ⟨w.heap.size + 1, 4, none⟩ v' k hk
  refine ⟨?_, ?_, ?_, ?_, ?_, ?_⟩
  · exact ((h1.old hba).grown hg (hne _ (by omega))).far (p := ⟨w.heap.size + 1, 4, none⟩) (by show w.heap.size ≠ w.heap.size + 1; omega) _
  · exact ((h2.old hba).grown hg (hne _ (by omega))).set4 _
  · have := own_set ho (p := ⟨w.heap.size + 1, 4, none⟩) (by show w.heap.size + 1 < w.heap.size + 2; omega) v'
    simpa using this
  · intro i s hs
    rcases Nat.lt_or_ge i acc.length with hi | hi
    · rw [List.getElem?_append_left hi] at hs
      have hd : ((ys ++ cs).drop (i * 5)).take 5 = (ys.drop (i * 5)).take 5 := by
        rw [List.drop_append_of_le_length (by omega), List.take_append_of_le_length (by rw [List.length_drop]; omega)]
      rw [hd]
      have q := ((h4 i s hs).size_).old hba
      have q2 := q.grown hg (fun b hb => hb.1.2)
      exact (q2.more (S' := fun k => w.heap.size + 2 ≤ k ∧ some k ≠ v'.ownBlock) (fun k hk => ⟨hk.1.1, fun e => hfar k hk.2 (fun e' => hk.1.2 e'.symm) e.symm⟩)).far (p := ⟨w.heap.size + 1, 4, none⟩) (fun k hk => by show k ≠ w.heap.size + 1; omega) _
    · have hi2 : i = acc.length := by
        have := (List.getElem?_eq_some_iff.1 hs).1
        simp at this
        omega
      subst hi2
      rw [List.getElem?_append_right (Nat.le_refl _)] at hs
      simp at hs
      subst hs
      have hd : ((ys ++ cs).drop (acc.length * 5)).take 5 = cs := by
        rw [List.drop_append, List.drop_eq_nil_of_le (by omega), show acc.length * 5 - ys.length = 0 by omega, List.drop_zero, List.nil_append]
        exact List.take_of_length_le (by omega)
      rw [hd]
      have q := (hin.size_).old hba
      have q2 := q.grown hg (fun b hb e => by have := hK b e.symm; have := hb.1; omega)
      exact (q2.more (S' := fun k => w.heap.size + 2 ≤ k ∧ some k ≠ v'.ownBlock) (fun k hk => ⟨by have := hk.1; omega, fun e => hfar k hk.2 (fun e' => by have := hK k e'; have := hk.1; omega) e.symm⟩)).far (p := ⟨w.heap.size + 1, 4, none⟩) (fun k hk => by show k ≠ w.heap.size + 1; omega) _
  · have hgw : w.grownBy w5 (some r) := by
      have hb : Below (w.heap.size + 2) w1 w5 := (hba.mono (by omega)).grown hg (by omega) (fun k e => (own_lt h3 e).1)
      exact ⟨hb.os.trans h5.os, hb.tape.trans h5.tape, hb.output.trans h5.output, by omega, fun k hk hr => (hb.block k (by omega)).trans (h5.block k hk hr)⟩
    exact grown_own hgw (by omega) v'
  · simp; omega
theorem reads_five {w : World} {v0 v1 v2 v3 v4 : Value} (T : TypeId) (fr : Nat × Nat) : Reads (w.alloc (.cells #[v0, v1, v2, v3, v4] T fr)) (w.heap.size + 1) 5 (some ⟨w.heap.size, 0, none⟩) 1 [v0, v1, v2, v3, v4] := by
  refine ⟨rfl, fun _ => ⟨_, rfl, by simp, fun j u hj => ?_⟩⟩
  have hh := Lib.cell_of_heap (heap_alloc_new w (.cells #[v0, v1, v2, v3, v4] T fr))
  match j, hj with
  | 0, hj | 1, hj | 2, hj | 3, hj | 4, hj =>
    simp at hj
    subst hj
    show World.cell? _ ⟨w.heap.size, _, none⟩ = _
    rw [hh]; rfl
theorem sin_one {w : World} {S : Nat → Prop} {t : SX} {cs : List Value} (h : SIn w S t cs) : ∀ u ∈ cs, u.oneCell' = true := by
  obtain ⟨_, _, _, _, _, A1, n1, c1, A2, n2, c2, A3, n3, c3, _, rfl⟩ := h.form_
  intro u hu
  simp at hu
  rcases hu with rfl | rfl | rfl | rfl | rfl <;> rfl
def addK (acc : List SX) (x : Res (List SX × Nat)) : Res (List SX × Nat) := match x with
  | .err e r' => .err e r'
  | .ok (ks, nd') r' => .ok (acc ++ ks, nd') r'
def LRel (w : World) (r : Nat) (A : Option Addr) (n c ar f : Nat) (b : List UInt8) (R : Res (List SX × Nat)) (wr : World) : Prop :=
  ∃ (acc : List SX) (g : Nat) (sk : List UInt8) (ndk : Nat) (v : Value) (ys : List Value), LHas w wr r acc v ys ∧ RdAt wr r A n c (n - sk.length : Nat) ndk ∧ sk.length ≤ n ∧ b.drop (n - sk.length) = sk ∧
    g ≤ f ∧ 2 * sk.length + 2 ≤ g ∧ R = addK acc (pKids g sk ndk ar) ∧ ndk ≤ 512 ∧ acc.length ≤ ndk
set_option maxHeartbeats 4000000 in
set_option maxRecDepth 100000 in
theorem list_step (f : Nat) (hV : ∀ g, g < f → ValSpec g) : ListSpec f := by
  intro r A n c p nd ar b B w s h hr hB hn hc hs hnd har hf
  generalize hRR : pKids f s nd (ar + 1) = R
  have hl : b.length = n := by have := hr.1; simpa [Lib.byteCells_length] using this
  have hsl : (40 :: s).length = n - p := by rw [← hs, List.length_drop, hl]
  have hsl' : s.length + 1 = n - p := by rw [← hsl]; simp
  have hrl := h.lt
  have hb0 := (below_new w (.cells #[.bool false, .bool false, .slice none 0 0, .slice none 0 0, .slice none 0 0] 25)).trans ((below_new (w.alloc (.cells #[.bool false, .bool false, .slice none 0 0, .slice none 0 0, .slice none 0 0] 25)) (.cells #[.bool true, .bool false, .slice none 0 0, .slice none 0 0, .slice none 0 0] 25)).mono (by simp))
  have X1 : Box ((w.alloc (.cells #[.bool false, .bool false, .slice none 0 0, .slice none 0 0, .slice none 0 0] 25)).alloc (.cells #[.bool true, .bool false, .slice none 0 0, .slice none 0 0, .slice none 0 0] 25)) w.heap.size (.bool false) (.bool false) (.slice none 0 0) (.slice none 0 0) (.slice none 0 0) :=
    below_at (below_new _ _) (heap_alloc_new w _)
  have X2 : Box ((w.alloc (.cells #[.bool false, .bool false, .slice none 0 0, .slice none 0 0, .slice none 0 0] 25)).alloc (.cells #[.bool true, .bool false, .slice none 0 0, .slice none 0 0, .slice none 0 0] 25)) (w.heap.size + 1) (.bool true) (.bool false) (.slice none 0 0) (.slice none 0 0) (.slice none 0 0) := by
    have := heap_alloc_new (w.alloc (.cells #[.bool false, .bool false, .slice none 0 0, .slice none 0 0, .slice none 0 0] 25)) (.cells #[.bool true, .bool false, .slice none 0 0, .slice none 0 0, .slice none 0 0] 25)
    have e : (w.alloc (.cells #[.bool false, .bool false, .slice none 0 0, .slice none 0 0, .slice none 0 0] 25)).heap.size = w.heap.size + 1 := by simp
    rw [e] at this
    exact this
  have hsz : ((w.alloc (.cells #[.bool false, .bool false, .slice none 0 0, .slice none 0 0, .slice none 0 0] 25)).alloc (.cells #[.bool true, .bool false, .slice none 0 0, .slice none 0 0, .slice none 0 0] 25)).heap.size = w.heap.size + 2 := by simp
  go_enter Tryz.func99, Tryz.ntmps99
  go_wp2_with fail
  generalize ((w.alloc (.cells #[.bool false, .bool false, .slice none 0 0, .slice none 0 0, .slice none 0 0] 25)).alloc (.cells #[.bool true, .bool false, .slice none 0 0, .slice none 0 0, .slice none 0 0] 25)) = W at *
  have hg0 := grown_below hb0 (some r)
  refine (expect_good r A n c p nd b B W (h.old hb0) (hr.keep fun q hq => hb0.cell (by omega)) (by omega) hn 40 s hs 40 rfl).mono ?_
  rintro e w1 ⟨rfl, hR1, hg1⟩
  have hd1 : b.drop (n - s.length) = s := by rw [show n - s.length = p + 1 by omega, ← List.drop_drop, hs]; rfl
  have hR1 : RdAt w1 r A n c (n - s.length : Nat) nd := by rw [show ((n - s.length : Nat) : Int) = (p : Int) + 1 by omega]; exact hR1
  have hL0 : LHas w W r [] (.slice none 0 0) [] := ⟨X1, X2, ⟨rfl, .inl ⟨rfl, rfl⟩⟩, fun i t hit => by simp at hit, hg0, by omega⟩
  have hL1 := hid (And.intro (hL0.keep hrl hg1) hR1)
  have hRe : Hid (R = addK [] (pKids f s nd (ar + 1))) := by
    show _ = _
    rw [hRR]
    cases R <;> simp [addK]
  clear hL0 X1 X2 hg0 hg1 hR1 hb0 hsz hs hsl hRR
  have HD := hid hd1
  have HV := hid hV
  clear hd1 hV
  go_wp2_with fail
  go_loopw [] (fun wr => Hid (LRel w r A n c (ar + 1) f b R wr)) (fun wr => n - (intOf ((wr.cell? ⟨r, 1, none⟩).getD (.int .i64 0))).toNat)
  case atStart => exact ⟨[], f, s, nd, _, _, hL1.out.1, hL1.out.2, by omega, HD.out, Nat.le_refl _, by omega, hRe.out, hnd, Nat.zero_le _⟩
  case round =>
    obtain ⟨acc, g, sk, ndk, v, ys, hH, hRk, hskl, hsk, hgf, hg2, hRk2, hndk, haccl⟩ := hrel.out
    clear hL1 hrel hRe
    obtain ⟨g, rfl⟩ : ∃ g', g = g' + 1 := ⟨g - 1, by omega⟩
    have hrk := reads_grown hr hH.2.2.2.2.1 hB
    have hplace : (n - (n - sk.length) : Nat) = sk.length := by omega
    cases sk with
    | nil =>
      rw [pKids] at hRk2
      have hRk2 : R = .err 2 [] := hRk2
      have C := hid (peek_end r A n c (n - ([] : List UInt8).length) ndk wr hRk (by simp) hn (by omega))
      have HG := hid hH.2.2.2.2.1
      clear hH hRk hskl hsk hg2 hplace HV
      go_wp2_with ((with_reducible refine C.out.mono ?_); rintro e w3 ⟨rfl, hb3⟩)
      rw [hRk2]
      exact ⟨rfl, rfl, HG.out.trans (grown_below hb3 _)⟩
    | cons c0 r0 =>
      have hlr : (c0 :: r0).length = r0.length + 1 := by simp
      have C := hid (peek_at r A n c (n - (c0 :: r0).length) ndk b B wr hRk hrk (by omega) hn c0 r0 hsk)
      rw [pKids] at hRk2
      try simp only at hRk2
      by_cases h41 : c0 = 41
      · subst h41
        rw [if_pos rfl] at hRk2
        have hRk2 : R = .ok (acc ++ [], ndk) r0 := hRk2
        have HH := hid hH
        have HRD := hid hRk
        have HSK := hid hsk
        clear hH hRk hsk hplace HV hrk
        go_wp2_with ((with_reducible refine C.out.mono ?_); rintro e w3 ⟨rfl, hb3⟩)
        have hg3 := grown_below hb3 (some r)
        have hH3 := HH.out.keep hrl hg3
        have hR3 := HRD.out.old hb3
        have hr3 := reads_grown hr hH3.2.2.2.2.1 hB
        refine (expect_good r A n c (n - (41 :: r0 : List UInt8).length) ndk b B w3 hR3 hr3 (by omega) hn 41 r0 HSK.out 41 rfl).mono ?_
        rintro e w4 ⟨rfl, hR4, hg4⟩
        have hH4 := hH3.keep hrl hg4
        obtain ⟨A3, c3, rfl⟩ := own_form hH4.2.2.1
        obtain ⟨x1, x2, ho, hk, hgw, hz⟩ := hH4
        obtain ⟨_, _, e1, hnc, hri⟩ := RIn.of_own ho
        injection e1 with e1a e1b e1c
        subst e1a e1c
        obtain ⟨⟨d0, d1, d2, d3, d4⟩, dz⟩ := x1.all
        obtain ⟨⟨f0, f1, f2, f3, f4⟩, fz⟩ := x2.all
        have dz0 := dz 0
        have dz1 := dz 1
        have dz2 := dz 2
        have dz3 := dz 3
        have dz4 := dz 4
        have hKF := fun (q : Addr) (hq : w.heap.size + 1 ≤ q.block) => put5_far (w := w4) (b := w.heap.size) (x0 := .bool true) (x1 := .bool false) (x2 := .slice none 0 0) (x3 := .slice none 0 0) (x4 := .slice A3 acc.length c3) q (by omega)
        have hgF := put5_grown hgw (Nat.le_refl _) (.bool true) (.bool false) (.slice none 0 0) (.slice none 0 0) (.slice A3 acc.length c3)
        have hRF : RdAt (put5 w4 w.heap.size (.bool true) (.bool false) (.slice none 0 0) (.slice none 0 0) (.slice A3 acc.length c3)) r A n c (n - r0.length : Nat) ndk := by
          rw [show ((n - r0.length : Nat) : Int) = ((n - (41 :: r0 : List UInt8).length : Nat) : Int) + 1 by omega]
          exact (put5_block (by omega) _ _ _ _ _).trans hR4
        have hiF : SIn (put5 w4 w.heap.size (.bool true) (.bool false) (.slice none 0 0) (.slice none 0 0) (.slice A3 acc.length c3)) (fun k => w.heap.size ≤ k) (.mk true false [] [] acc) [.bool true, .bool false, .slice none 0 0, .slice none 0 0, .slice A3 acc.length c3] :=
          .mk RIn.none_ ⟨Nat.le_refl _, by omega⟩ RIn.none_ ⟨Nat.le_refl _, by omega⟩ (((hri.more (S' := fun b => w.heap.size + 1 ≤ b) fun b hb => by omega).keep hKF).more fun b hb => by omega) ⟨hnc, by omega⟩ rfl
            (fun i t hit => (((hk i t hit).more (S' := fun b => w.heap.size + 1 ≤ b) fun b hb => by omega).keep hKF).more fun b hb => by omega)
        have HF := hid (And.intro hiF (And.intro hRF hgF))
        clear dz fz x1 x2 ho hk hgw hri hiF hRF hgF hKF hR4 hg4 hH3 hR3 hr3 hg3 HH HRD
        go_wp2_with fail
        refine bodyPost_ret (v := .agg #[.bool true, .bool false, .slice none 0 0, .slice none 0 0, .slice A3 acc.length c3]) (by simp [results, Tryz.results99, go_sem, d0, d1, d2, d3, d4]) rfl ?_
        rw [hRk2, List.append_nil]
        exact ⟨_, _, _, _, _, rfl, HF.out⟩
      · rw [if_neg h41] at hRk2
        have h41' : ((c0.toNat : Int) == 41) = false := by
          rw [beq_eq_false_iff_ne]
          intro e
          exact h41 (UInt8.toNat_inj.1 (by show c0.toNat = 41; omega))
        have HH := hid hH
        have HRD := hid hRk
        have HSK := hid hsk
        have hwz := hH.2.2.2.2.2
        have CV := hid (fun W (hb : Below wr.heap.size wr W) => (HV.out g (by omega)) r A n c (n - (c0 :: r0).length) ndk (ar + 1) b B W (hRk.old hb) (hrk.keep fun q hq => hb.cell (by omega)) hB hn hc (by omega) hndk (by omega) (by omega))
        rw [hsk] at CV
        have hat : ((ar + 1 : Nat) : Int) = IntKind.i64.wrap ((ar : Int) + 1) := by rw [IntWalk.i64_in _ (by omega)]; omega
        rw [hat] at CV
        have HK := hid (fun W' (hb : Box W' (w.heap.size + 1) (.bool true) (.bool false) (.slice none 0 0) (.slice none 0 0) v) => (And.intro hb.all.1.2.2.2.2 (hb.all.2 4) : W'.cell? ⟨w.heap.size + 1, 4, none⟩ = some v ∧ W'.frozen? ⟨w.heap.size + 1, 4, none⟩ = false))
        clear hH hRk hsk hplace HV hrk
        cases hpv : pVal g (c0 :: r0) ndk (ar + 1) with
        | err k rest =>
          rw [hpv] at hRk2 CV
          have hRk2 : R = .err k rest := hRk2
          clear hpv
          go_wp2_with ((with_reducible refine C.out.mono ?_); rintro e w3 ⟨rfl, hb3⟩)
          have hb3' : Below wr.heap.size wr w3.drew := hb3.trans (Below.refl _ _).drew
          have hx3 := HH.out.2.1.old hb3'
          have C2 := hid (CV.out _ hb3')
          obtain ⟨m4, mz⟩ := HK.out _ hx3
          have HE := hid (fun w4 (hg4 : w3.drew.grownBy w4 (some r)) => (by rw [hRk2]; exact ⟨rfl, HH.out.2.2.2.2.1.trans ((grown_below hb3' _).trans hg4)⟩ : ValEnd w r A n c (.panicked [{ v := .iface (kindT k) (.int .i64 (n - rest.length : Nat)), recovered := false }]) w4 (listRes R)))
          go_region_dies
          all_goals
            (refine C2.out.mono ?_)
            rintro e w4 ⟨rfl, hg4⟩
            exact ⟨rfl, HE.out _ hg4⟩
        | ok y rest =>
          obtain ⟨t, nd'⟩ := y
          rw [hpv] at hRk2 CV
          obtain ⟨hst, -, hnd', hnd5, -⟩ := (sound g).1 _ _ _ _ _ _ hpv (by omega)
          clear hpv
          go_wp2_with ((with_reducible refine C.out.mono ?_); rintro e w3 ⟨rfl, hb3⟩)
          have hb3' : Below wr.heap.size wr w3.drew := hb3.trans (Below.refl _ _).drew
          have hx3 := HH.out.2.1.old hb3'
          have hH3 := HH.out.keep hrl (grown_below hb3' (some r))
          have C2 := hid (CV.out _ hb3')
          obtain ⟨i0, hi, hz0, hz1, hz2⟩ := info_parts infoSexp
          have HO := hid hH3
          have HI := hid hi
          clear hH3
          obtain ⟨m4, mz4⟩ := HK.out _ hx3
          have HS := hid hst
          have HR2 := hid hRk2
          have hnp := nodes_pos t
          clear hst hRk2
          go_region_law
            ((first
              | (go_simp; (with_reducible refine C2.out.mono ?_); rintro e w4 ⟨x0, x1, x2, x3, x4, rfl, hin, hR4, hg4⟩; have hH4 := HO.out.keep hrl hg4; have hx4 := hH4.2.1; have hz4 := hg4.size; have hz3 := hb3'.size; obtain ⟨m5, mz5⟩ := HK.out _ hx4; have m6 := fun o => (HK.out _ (hx4.old (below_new w4 o))).1)
              | (refine step_append_any _ rfl (.tmp 13) (.tmp 18) 23 rfl (w.heap.size + 2) 25 i0 _ 5 80 Tryz.underlying23 HI.out hz0 hz1 hz2 rfl (by omega) v acc.length ys rfl (own_old hH4.2.2.1 (below_new _ _)) _ _ 1 _ [x0, x1, x2, x3, x4] rfl (reads_five _ _) (sin_one hin) (by unfold maxLen; omega) (by omega) (by simp; omega) ?_; intro v' w5 hown5 hg5 hv5; obtain ⟨A5, c5, rfl⟩ := own_form hown5; have hx5 := (hx4.old (below_new _ _)).grown hg5 (fun e => by have := (own_lt hH4.2.2.1 e).1; omega); obtain ⟨m7, mz7⟩ := HK.out _ hx5)))
          all_goals
            have hsk0 := HSK.out
            have hst' := HS.out
            obtain ⟨hd2, hq1, hq2⟩ := drop_rest (by omega) hsk0 hst'
            have hfl : 1 ≤ (form t).length := by
              obtain ⟨c1, q1, hq, -⟩ := form_head t
              rw [hq]; simp
            have hlt : rest.length + (form t).length = (c0 :: r0).length := by rw [hst']; simp; omega
            rw [hl] at hd2 hq1 hq2
            have hHS := hH4.step hrl hin (fun k hk => (own_lt HO.out.2.2.1 hk).2) (by omega) hown5 hg5 hv5
            have hRS : RdAt (w5.setCell ⟨w.heap.size + 1, 4, none⟩ (.slice A5 (acc.length + 1) c5)) r A n c (n - rest.length : Nat) nd' :=
              ((hR4.old (below_new _ _)).grown hg5 (fun e => by have := (own_lt hH4.2.2.1 e).1; omega)).far (q := ⟨w.heap.size + 1, 4, none⟩) (by show r ≠ w.heap.size + 1; omega) _
            have hme := hRS.all
            have hmr := HRD.out.all
            have hRR : R = addK (acc ++ [t]) (pKids g rest nd' (ar + 1)) := by
              rw [HR2.out]
              cases pKids g rest nd' (ar + 1) with
              | err e q => rfl
              | ok y q => obtain ⟨ks, q2⟩ := y; simp [addK]
            refine ⟨⟨_, _, _, _, _, _, _, _, _, _, _, _, ⟨acc ++ [t], g, rest, nd', _, _, hHS, hRS, by omega, hd2, by omega, by omega, hRR, hnd5, by simp; omega⟩, rfl⟩, ?_⟩
            rw [hme.2.1, hmr.2.1]
            simp only [Option.getD_some, intOf, Int.toNat_natCast]
            omega
theorem value_all (f : Nat) : ValSpec f := by
  induction f using Nat.strongRecOn with
  | _ f ih =>
    cases f with
    | zero =>
      intro r A n c p nd ar b B w h hr hB hn hc hp hnd har hf
      omega
    | succ f => exact value_step f (list_step f fun g hg => ih g (by omega))
end Go.Proofs.YtcojkmcnigppbaaGreatDoor
end
