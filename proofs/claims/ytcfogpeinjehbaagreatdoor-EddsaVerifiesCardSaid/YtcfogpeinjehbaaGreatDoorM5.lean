/-
  Several texts in one: Sch2, SchR, PtM, PtE, PtU, PtTwice, PtSumP, PtPair, PtEven, PtBytesP, PtGetP, EdHalf, PtOk, PtDbl, PtFew. Conditions: those that each theorem states.
-/
import Derived.Test.YtcfogpeinjehbaaGreatDoorM4
import Derived.OrdersHeld
import Derived.OrdersIn
import Derived.Tactics
import Derived.TacticsIn
import Derived.OwnWalkIn
import Derived.RangeFuncCalls
import Derived.Below
import Derived.Lib.Hide
import Derived.Great.BuildSlice
import Derived.Deep.MidRow
import Derived.Laws.CopyRow
import Derived.Laws.CopyOwn
set_option linter.unusedVariables false
set_option linter.unusedSimpArgs false
open Go.Lib (hid)
open Go.Proofs.YtcfogpeinjehbaaGreatDoor (zA zB zC zD zE zF)

section
namespace Go.Proofs.YtcfogpeinjehbaaGreatDoor.Sch
open Go Go.Proofs Go.RowKit
def dstOf (ops : Array Oper) (i : Nat) : Option Tmp := (ops[i]?).bind (·.dst)
def onsOf (ops : Array Oper) (i : Nat) : List Nat := match ops[i]? with | some o => (o.after.toList.filter (fun e => Region.binds .any e)).map (·.on) | none => []
def clo (ops : Array Oper) : Nat → List Nat → List Nat
 | 0, l => l
 | f + 1, l => clo ops f (l ++ l.flatMap (onsOf ops)).eraseDups
/-- The operations that have come up ahead of this one, whatever order is drawn. -/
def pre (ops : Array Oper) (i : Nat) : List Nat := clo ops 8 (onsOf ops i)
section
variable (ops : Array Oper) (m : Nat)
/-- A temporary that no operation of the first part writes. -/
def still (t : Tmp) : Bool := (List.range m).all fun j => dstOf ops j != some t
def chk (size : Nat) : Bool :=
 decide (m ≤ ops.size) &&
 ((List.range m).all fun i => (match ops[i]? with | some o => (match o.dst with | some d => decide (d < size) | none => false) | none => false) &&
  ((onsOf ops i).all fun j => decide (j < i)) && ((List.range m).all fun j => j == i || dstOf ops i != dstOf ops j))
def cloB : Bool := (List.range ops.size).all fun j => decide (j < m) || ((List.range m).all fun i => (clo ops 12 (onsOf ops j)).contains i)
end
def opA (ops : Array Oper) (k : Nat) : Oper := (ops[k]?).getD default
theorem opA_of {ops : Array Oper} {k : Nat} {o : Oper} (h : ops[k]? = some o) : opA ops k = o := by unfold opA; rw [h]; rfl
def tm (a : Act) (t : Tmp) : Value := a.tmps.getD t undef
def at_ (ops : Array Oper) (a : Act) (i : Nat) : Value := match dstOf ops i with | some d => tm a d | none => undef
/-- What is said of the first part: the frame, and what each operation answers. -/
structure Plan where
 Fr : World → World → Prop
 R : Nat → (Nat → Value) → Value → World → Prop
 fresh : Nat → Bool
/-- The laws of a plan. -/
structure Laws (p : Plan) : Prop where
 refl : ∀ w, p.Fr w w
 trans : ∀ {u v w}, p.Fr u v → p.Fr v w → p.Fr u w
 drew : ∀ w, p.Fr w w.drew
 size : ∀ {u v}, p.Fr u v → u.heap.size ≤ v.heap.size
 keep : ∀ {i x v V V'}, p.R i x v V → p.Fr V V' → p.R i x v V'
def mask (ops : Array Oper) (k : Nat) (x : Nat → Value) (j : Nat) : Value := if (pre ops k).contains j then x j else undef
/-- An operation's contract: of the ones that came up ahead of it all relations are met. -/
def Good (P : Program) (ops : Array Oper) (m : Nat) (a0 : Act) (w0 : World) (p : Plan) (k : Nat) : Prop :=
 ∀ (a : Act) (V : World), (∀ t, still ops m t = true → tm a t = tm a0 t) → p.Fr w0 V → (∀ j ∈ pre ops k, p.R j (mask ops j (at_ ops a)) (at_ ops a j) V) →
  (Region.wanted (opA ops k) (yielded ops a.tmps) = true ∧ ∀ (K : Act → World → Prop) (Q : Exit → Act → World → Prop),
   (∀ v V', p.Fr V V' → p.R k (mask ops k (at_ ops a)) v V' → (p.fresh k = true → ∃ g, v = .pointer (some ⟨g, 0, none⟩) ∧ V.heap.size ≤ g ∧ g < V'.heap.size) → K (a.put (opA ops k).dst v) V') → (opA ops k).wp P a V K Q) ∨
  (Region.wanted (opA ops k) (yielded ops a.tmps) = false ∧ p.R k (mask ops k (at_ ops a)) undef V ∧ p.fresh k = false)
theorem onsOf_of {ops : Array Oper} {i : Nat} {o : Oper} (ho : ops[i]? = some o) {listed : Array Bool} (h : ∀ e ∈ o.after, Region.binds .any e = true → listed.getD e.on false = true) : ∀ j ∈ onsOf ops i, listed.getD j false = true := by
 intro j hj
 unfold onsOf at hj
 rw [ho] at hj
 simp only [List.mem_map, List.mem_filter] at hj
 obtain ⟨e, ⟨he, hb⟩, rfl⟩ := hj
 exact h e (by simpa using he) hb
theorem clo_listed {ops : Array Oper} {listed : Array Bool} (hd : ∀ i, listed.getD i false = true → ∀ j ∈ onsOf ops i, listed.getD j false = true) : ∀ (f : Nat) (l : List Nat), (∀ x ∈ l, listed.getD x false = true) → ∀ x ∈ clo ops f l, listed.getD x false = true
 | 0, l, h => h
 | f + 1, l, h => by
  unfold clo
  refine clo_listed hd f _ fun x hx => ?_
  rw [List.mem_eraseDups, List.mem_append, List.mem_flatMap] at hx
  rcases hx with hx | ⟨y, hy, hx⟩
  ·exact h x hx
  ·exact hd y (h y hy) x hx
theorem getD_tf {listed : Array Bool} {i : Nat} (h : i < listed.size) : listed.getD i true = listed.getD i false := by
 simp [Array.getD_eq_getD_getElem?, h]
theorem getD_lt {listed : Array Bool} {i : Nat} (h : listed.getD i false = true) : i < listed.size := by
 rcases Nat.lt_or_ge i listed.size with h' | h'
 ·exact h'
 ·simp [Array.getD_eq_getD_getElem?, Array.getElem?_eq_none h'] at h
theorem getD_lt' {listed : Array Bool} {i : Nat} (h : listed.getD i true = false) : i < listed.size := by
 rcases Nat.lt_or_ge i listed.size with h' | h'
 ·exact h'
 ·simp [Array.getD_eq_getD_getElem?, Array.getElem?_eq_none h'] at h
theorem getD_set_eq {listed : Array Bool} {i j : Nat} (hi : i < listed.size) : (listed.setIfInBounds i true).getD j true = if j = i then true else listed.getD j true := by
 split
 ·rename_i h; subst h; simp [Array.getD_eq_getD_getElem?, hi]
 ·rename_i h; exact getD_set_ne true (fun e => h e.symm)
theorem tget_set {A : Array Value} {d t : Nat} {v : Value} (h : d < A.size) : (A.setIfInBounds d v).getD t undef = if t = d then v else A.getD t undef := by
 split
 ·rename_i h1; subst h1; simp [Array.getD_eq_getD_getElem?, h]
 ·rename_i h1; simp [Array.getD_eq_getD_getElem?, Array.getElem?_setIfInBounds_ne (fun e => h1 e.symm)]
theorem put_tmps {a : Act} {o : Oper} {d : Tmp} (hd : o.dst = some d) (u : Value) : (a.put o.dst u).tmps = a.tmps.setIfInBounds d u := by rw [hd]; rfl
theorem put_defs {a : Act} (o : Oper) (u : Value) : (a.put o.dst u).defers = a.defers := by unfold Act.put; split <;> rfl
structure Chk (ops : Array Oper) (m size : Nat) : Prop where
 le : m ≤ ops.size
 op : ∀ i, i < m → ∃ o d, ops[i]? = some o ∧ o.dst = some d ∧ d < size
 small : ∀ i, i < m → ∀ j ∈ onsOf ops i, j < i
 ne : ∀ i j, i < m → j < m → i ≠ j → dstOf ops i ≠ dstOf ops j
theorem clo_spec {ops : Array Oper} {m : Nat} (h : cloB ops m = true) : ∀ j, m ≤ j → j < ops.size → ∀ i, i < m → i ∈ clo ops 12 (onsOf ops j) := by
 unfold cloB at h
 simp only [decide_eq_true_eq, List.all_eq_true, List.mem_range, Bool.or_eq_true] at h
 intro j hj hj2 i hi
 rcases h j hj2 with h4 | h4
 ·exact absurd h4 (by omega)
 ·have := h4 i hi
  simpa using this
theorem chk_spec {ops : Array Oper} {m size : Nat} (h : chk ops m size = true) : Chk ops m size := by
 unfold chk at h
 simp only [Bool.and_eq_true, decide_eq_true_eq, List.all_eq_true, List.mem_range, Bool.or_eq_true] at h
 obtain ⟨h1, h2⟩ := h
 refine ⟨h1, fun i hi => ?_, fun i hi j hj => (h2 i hi).1.2 j hj, fun i j hi hj hne e => ?_⟩
 ·have h4 := (h2 i hi).1.1
  cases ho : ops[i]? with
  | none => rw [ho] at h4; simp at h4
  | some o =>
   rw [ho] at h4
   cases hd : o.dst with
   | none => simp [hd] at h4
   | some d =>
    simp only [hd, decide_eq_true_eq] at h4
    exact ⟨o, d, rfl, hd, h4⟩
 ·have h4 := (h2 i hi).2 j hj
  rcases h4 with h4 | h4
  ·simp at h4; exact hne h4.symm
  ·rw [e] at h4; simp at h4
structure SInv (ops : Array Oper) (m : Nat) (a0 : Act) (w0 : World) (p : Plan) (listed : Array Bool) (a : Act) (w : World) : Prop where
 defers : a.defers = a0.defers
 size : a.tmps.size = a0.tmps.size
 lsize : listed.size = ops.size
 far : ∀ t, (∀ i, i < m → dstOf ops i = some t → listed.getD i true = false) → tm a t = tm a0 t
 rel : ∀ i, i < m → listed.getD i true = true → p.R i (mask ops i (at_ ops a)) (at_ ops a i) w
 new : ∀ i, i < m → listed.getD i true = true → p.fresh i = true → ∃ g, at_ ops a i = .pointer (some ⟨g, 0, none⟩) ∧ w0.heap.size ≤ g ∧ g < w.heap.size
 apart : ∀ i j, i < m → j < m → p.fresh i = true → p.fresh j = true → i ≠ j → listed.getD i true = true → listed.getD j true = true → at_ ops a i ≠ at_ ops a j
 frame : p.Fr w0 w
 late : ∀ i, m ≤ i → i < ops.size → listed.getD i true = false
 down : ∀ i, i < m → listed.getD i true = true → ∀ j ∈ onsOf ops i, listed.getD j false = true
theorem SInv.downAll {ops : Array Oper} {m : Nat} {a0 a : Act} {w0 w : World} {p : Plan} {listed : Array Bool} (h : SInv ops m a0 w0 p listed a w) : ∀ k, listed.getD k false = true → ∀ j ∈ onsOf ops k, listed.getD j false = true := fun k hk => by
 have hks := getD_lt hk
 by_cases hkm : k < m
 ·exact h.down k hkm (by rw [getD_tf hks]; exact hk)
 ·have := h.late k (by omega) (by rw [← h.lsize]; exact hks)
  rw [getD_tf hks, hk] at this; cases this
theorem SInv.pre {ops : Array Oper} {m : Nat} {a0 a : Act} {w0 w : World} {p : Plan} {listed : Array Bool} (h : SInv ops m a0 w0 p listed a w) {i : Nat} (hdeps : ∀ j ∈ onsOf ops i, listed.getD j false = true) : ∀ j ∈ pre ops i, j < m ∧ listed.getD j true = true := fun j hj => by
 have hl := clo_listed h.downAll 8 _ hdeps j hj
 have hs := getD_lt hl
 refine ⟨?_, by rw [getD_tf hs]; exact hl⟩
 rcases Nat.lt_or_ge j m with h1 | h1
 ·exact h1
 ·have := h.late j h1 (by rw [← h.lsize]; exact hs)
  rw [getD_tf hs, hl] at this; cases this
theorem SInv.next {ops : Array Oper} {m : Nat} {a0 a : Act} {w0 w V : World} {p : Plan} {listed : Array Bool} (L : Laws p) (h : SInv ops m a0 w0 p listed a w) (hc : Chk ops m a0.tmps.size) {i : Nat} (him : i < m) (hun : listed.getD i true = false) {o : Oper} (ho : ops[i]? = some o)
  (hdeps : ∀ j ∈ onsOf ops i, listed.getD j false = true) {d : Tmp} (hd : o.dst = some d) (hds : d < a0.tmps.size) (hb : p.Fr w V) (u : Value)
  (hu : p.R i (mask ops i (at_ ops a)) u V) (hf : p.fresh i = true → ∃ g, u = .pointer (some ⟨g, 0, none⟩) ∧ w.heap.size ≤ g ∧ g < V.heap.size) : SInv ops m a0 w0 p (listed.setIfInBounds i true) (a.put o.dst u) V := by
 have hil := getD_lt' hun
 have hdi : dstOf ops i = some d := by unfold dstOf; rw [ho]; exact hd
 have hget : ∀ t, tm (a.put o.dst u) t = if t = d then u else tm a t := fun t => by unfold tm; rw [put_tmps hd]; exact tget_set (by rw [h.size]; exact hds)
 have hati : at_ ops (a.put o.dst u) i = u := by unfold at_; rw [hdi]; simp only [hget, if_true]
 have hato : ∀ j, j < m → j ≠ i → at_ ops (a.put o.dst u) j = at_ ops a j := fun j hj hne => by
  unfold at_
  cases hdj : dstOf ops j with
  | none => rfl
  | some e =>
   have : e ≠ d := fun e2 => hc.ne j i hj him hne (by rw [hdj, hdi, e2])
   simp only [hget, if_neg this]
 have hold : ∀ j, (listed.setIfInBounds i true).getD j true = true → j ≠ i → listed.getD j true = true := fun j hj hne => by rw [getD_set_eq hil, if_neg hne] at hj; exact hj
 -- what an operation saw that came up already, or that comes up now, is as it was
 have hmask : ∀ j, (∀ k ∈ onsOf ops j, listed.getD k false = true) → mask ops j (at_ ops (a.put o.dst u)) = mask ops j (at_ ops a) := fun j hj => by
  funext k
  unfold mask
  split
  ·rename_i hk
   have hk2 := h.pre hj k (by simpa using hk)
   exact hato k hk2.1 (fun e => by subst e; rw [hun] at hk2; exact absurd hk2.2 (by decide))
  ·rfl
 refine ⟨?_, ?_, ?_, ?_, ?_, ?_, ?_, ?_, ?_, ?_⟩
 ·rw [put_defs]; exact h.defers
 ·rw [put_tmps hd]; simp [h.size]
 ·simp [h.lsize]
 ·intro t ht
  have htd : t ≠ d := fun e => by
   have := ht i him (by rw [hdi, e])
   rw [getD_set_eq hil, if_pos rfl] at this; cases this
  rw [hget, if_neg htd]
  refine h.far t fun j hj hjt => ?_
  have := ht j hj hjt
  rw [getD_set_eq hil] at this
  split at this
  ·cases this
  ·exact this
 ·intro j hj hl
  by_cases e : j = i
  ·subst e; rw [hati, hmask _ hdeps]; exact hu
  ·have hl2 := hold j hl e
   rw [hato j hj e, hmask j (h.down j hj hl2)]
   exact L.keep (h.rel j hj hl2) hb
 ·intro j hj hl hfj
  by_cases e : j = i
  ·subst e
   obtain ⟨g, h1, h2, h3⟩ := hf hfj
   exact ⟨g, by rw [hati, h1], Nat.le_trans (L.size h.frame) h2, h3⟩
  ·obtain ⟨g, h1, h2, h3⟩ := h.new j hj (hold j hl e) hfj
   exact ⟨g, by rw [hato j hj e, h1], h2, Nat.lt_of_lt_of_le h3 (L.size hb)⟩
 ·intro j k hj hk fj fk hne hlj hlk
  by_cases ej : j = i
  ·subst ej
   obtain ⟨g, h1, h2, h3⟩ := hf fj
   obtain ⟨g', e1, e2, e3⟩ := h.new k hk (hold k hlk (fun e => hne e.symm)) fk
   rw [hati, hato k hk (fun e => hne e.symm), e1, h1]
   intro e
   injection e with e; injection e with e; injection e with e
   omega
  ·by_cases ek : k = i
   ·subst ek
    obtain ⟨g, h1, h2, h3⟩ := hf fk
    obtain ⟨g', e1, e2, e3⟩ := h.new j hj (hold j hlj ej) fj
    rw [hato j hj ej, e1, hati, h1]
    intro e
    injection e with e; injection e with e; injection e with e
    omega
   ·rw [hato j hj ej, hato k hk ek]
    exact h.apart j k hj hk fj fk hne (hold j hlj ej) (hold k hlk ek)
 ·exact L.trans h.frame hb
 ·intro j hj hj2
  rw [getD_set_eq hil, if_neg (by omega)]
  exact h.late j hj hj2
 ·intro j hj hl k hk
  by_cases e : j = i
  ·subst e; exact getD_set_true (hdeps k hk)
  ·exact getD_set_true (h.down j hj (hold j hl e) k hk)
def listedM (ops : Array Oper) (m : Nat) : Array Bool := (List.replicate m true ++ List.replicate (ops.size - m) false).toArray
def listedK (n k : Nat) : Array Bool := (List.replicate k true ++ List.replicate (n - k) false).toArray
theorem listedM_K (ops : Array Oper) (m : Nat) : listedM ops m = listedK ops.size m := rfl
theorem listedM_size {ops : Array Oper} {m : Nat} (h : m ≤ ops.size) : (listedM ops m).size = ops.size := by simp [listedM]; omega
theorem listedM_at {ops : Array Oper} {m : Nat} (i : Nat) (h : i < m) : (listedM ops m).getD i true = true := by
 simp [listedM, Array.getD_eq_getD_getElem?, List.getElem?_append_left, h]
theorem listed_eq {ops : Array Oper} {m : Nat} {a0 a : Act} {w0 w : World} {p : Plan} {listed : Array Bool} (h : SInv ops m a0 w0 p listed a w) (hle : m ≤ ops.size) (hall : ∀ i, i < m → listed.getD i true = true) : listed = listedM ops m := by
 refine Array.ext (by rw [h.lsize, listedM_size hle]) fun i h1 h2 => ?_
 by_cases hi : i < m
 ·have e1 := hall i hi
  have e2 := listedM_at (ops := ops) i hi
  simp only [Array.getD_eq_getD_getElem?, Array.getElem?_eq_getElem h1, Option.getD_some] at e1
  simp only [Array.getD_eq_getD_getElem?, Array.getElem?_eq_getElem h2, Option.getD_some] at e2
  rw [e1, e2]
 ·have e1 := h.late i (by omega) (by rw [← h.lsize]; exact h1)
  simp only [Array.getD_eq_getD_getElem?, Array.getElem?_eq_getElem h1, Option.getD_some] at e1
  rw [e1]
  simp [listedM, List.getElem_append_right, Nat.not_lt.1 hi]
theorem count_set {listed : Array Bool} {i : Nat} (h : listed.getD i true = false) : (listed.setIfInBounds i true).toList.count true = listed.toList.count true + 1 := by
 have hl := getD_lt' h
 have hv : listed.toList[i]'(by simpa using hl) = false := by
  simp only [Array.getD_eq_getD_getElem?, Array.getElem?_eq_getElem hl, Option.getD_some] at h
  simpa using h
 rw [Array.toList_setIfInBounds, List.count_set (by simpa using hl), hv]
 simp
theorem count_all {l : List Bool} (h : l.count true = l.length) (i : Nat) (hi : i < l.length) : l[i] = true := by
 have := List.count_eq_length.1 h
 exact (this _ (List.getElem_mem hi)).symm
/-- How an operation is carried out: plainly, or within a fence. -/
structure Mode2 (P : Program) where
 fits : Array Oper → Prop
 op : Array Oper → (Exit → Act → World → Prop) → Nat → (Act → World → Prop) → Act → World → Prop
 step : ∀ {ops : Array Oper} {Q : Exit → Act → World → Prop} {i : Nat} {K : Act → World → Prop} {a : Act} {w : World} {o : Oper}, fits ops → ops[i]? = some o → Region.wanted o (yielded ops a.tmps) = true → o.wp P a w K Q → op ops Q i K a w
 skip : ∀ {ops : Array Oper} {Q : Exit → Act → World → Prop} {i : Nat} {K : Act → World → Prop} {a : Act} {w : World} {o : Oper}, fits ops → ops[i]? = some o → Region.wanted o (yielded ops a.tmps) = false → K (a.put o.dst undef) w → op ops Q i K a w
def plainMode (P : Program) : Mode2 P where
 fits _ := True
 op ops Q i K a w := wpOp P ops Q i K a w
 step := fun _ ho hw h => by
  unfold wpOp
  simp only [ho]
  rw [if_pos hw]
  exact .inl h
 skip := fun _ ho hw h => by
  unfold wpOp
  simp only [ho]
  rw [if_neg (by rw [hw]; decide)]
  exact h
theorem sched_op {P : Program} {ops : Array Oper} {m : Nat} {a0 : Act} {w0 : World} {p : Plan} {Q : Exit → Act → World → Prop} (M : Mode2 P) (hM : M.fits ops) (L : Laws p) (hc : Chk ops m a0.tmps.size) (hg : ∀ k, k < m → Good P ops m a0 w0 p k)
  {listed : Array Bool} {a : Act} {w : World} (h : SInv ops m a0 w0 p listed a w) {i : Nat} (him : i < m) (hun : listed.getD i true = false) (hdeps : ∀ j ∈ onsOf ops i, listed.getD j false = true) {K : Act → World → Prop}
  (hK : ∀ a' V, SInv ops m a0 w0 p (listed.setIfInBounds i true) a' V → K a' V) : M.op ops Q i K a w := by
 obtain ⟨o, d, ho, hd, hds⟩ := hc.op i him
 have good := hg i him a w (fun t ht => h.far t fun j hj hjt => by
  unfold still at ht
  have := List.all_eq_true.1 ht j (List.mem_range.2 hj)
  rw [hjt] at this
  simp at this) h.frame (fun j hj => h.rel j (h.pre hdeps j hj).1 (h.pre hdeps j hj).2)
 rw [opA_of ho] at good
 rcases good with ⟨hw, good⟩ | ⟨hw, h1, h2⟩
 ·exact M.step hM ho hw (good _ _ fun v V' hb hr hf => hK _ _ (h.next L hc him hun ho hdeps hd hds hb v hr hf))
 ·exact M.skip hM ho hw (hK _ _ (h.next L hc him hun ho hdeps hd hds (L.refl _) undef h1 (fun hf => by rw [h2] at hf; cases hf)))
def seqd (ops : Array Oper) (m : Nat) : Bool := (List.range (ops.size - m)).all (fun k => Region.ready .any ops (listedK ops.size (m + k)) == [m + k]) && Region.ready .any ops (listedK ops.size ops.size) == []
theorem listedK_set {n k : Nat} (h : k < n) : (listedK n k).setIfInBounds k true = listedK n (k + 1) := by
 unfold listedK
 simp only [List.setIfInBounds_toArray, Array.mk.injEq]
 rw [List.set_append_right _ _ (by simp), List.length_replicate, Nat.sub_self, show n - k = (n - (k + 1)) + 1 by omega, List.replicate_succ, List.set_cons_zero, List.replicate_succ', List.append_assoc]
 rfl
theorem wpAny_tail {P : Program} {ops : Array Oper} {Q : Exit → Act → World → Prop} {m : Nat} (hs : seqd ops m = true) : ∀ (f k : Nat) (a : Act) (w : World), k + f = ops.size - m → m ≤ ops.size → wpList P ops Q (ops.toList.drop (m + k)) a w → wpAny P .any ops Q f (listedK ops.size (m + k)) a w
 | 0, k, a, w, hk, hm, h => by
  unfold seqd at hs
  rw [Bool.and_eq_true] at hs
  have e : m + k = ops.size := by omega
  rw [e] at h ⊢
  rw [List.drop_of_length_le (by simp)] at h
  exact ⟨by simpa using hs.2, h⟩
 | f + 1, k, a, w, hk, hm, h => by
  have hs' := hs
  unfold seqd at hs
  rw [Bool.and_eq_true, List.all_eq_true] at hs
  have hr : Region.ready .any ops (listedK ops.size (m + k)) = [m + k] := by have := hs.1 k (List.mem_range.2 (by omega)); simpa using this
  have hlt : m + k < ops.size := by omega
  refine ⟨fun h0 => (by rw [hr] at h0; cases h0), fun i hi => ?_⟩
  rw [hr] at hi
  obtain rfl : i = m + k := by simpa using hi
  have ho : ops[m + k]? = some ops[m + k] := Array.getElem?_eq_getElem hlt
  have hl : ops.toList.drop (m + k) = ops[m + k] :: ops.toList.drop (m + (k + 1)) := by
   rw [List.drop_eq_getElem_cons (by simpa using hlt)]; rfl
  rw [hl] at h
  unfold wpList at h
  unfold wpOp
  simp only [ho]
  rw [listedK_set hlt]
  have ih := fun a w => wpAny_tail (P := P) (Q := Q) hs' f (k + 1) a w (by omega) hm
  split
  ·rename_i hw
   rw [if_pos hw] at h
   exact h.imp (Oper.wp_mono fun a w hh => ih a w hh) id
  ·rename_i hw
   rw [if_neg hw] at h
   exact ih _ _ h
/-- The next operation: while not all of the first part is listed, one of it may come up, and nothing else. -/
theorem ready_in {ops : Array Oper} {m : Nat} {a0 a : Act} {w0 w : World} {p : Plan} {listed : Array Bool} (h : SInv ops m a0 w0 p listed a w) (hc : Chk ops m a0.tmps.size) (hcl : cloB ops m = true) (hall : ¬ ∀ i, i < m → listed.getD i true = true) :
  Region.ready .any ops listed ≠ [] ∧ ∀ i ∈ Region.ready .any ops listed, i < m ∧ listed.getD i true = false ∧ ∀ j ∈ onsOf ops i, listed.getD j false = true := by
 constructor
 ·intro hr
  apply hall
  intro i
  induction i using Nat.strongRecOn with
  | ind i ihi =>
   intro him
   cases hl : listed.getD i true with
   | true => rfl
   | false =>
    obtain ⟨o, d, ho, _, _⟩ := hc.op i him
    have : i ∈ Region.ready .any ops listed := mem_ready.2 ⟨hl, o, ho, fun e he hb => by
     have hj : e.on ∈ onsOf ops i := by
      unfold onsOf; rw [ho]
      simp only [List.mem_map, List.mem_filter]
      exact ⟨e, ⟨by simpa using he, hb⟩, rfl⟩
     have hlt := hc.small i him _ hj
     have := ihi _ hlt (by omega)
     rwa [getD_tf (by rw [h.lsize]; have := hc.le; omega)] at this⟩
    rw [hr] at this; cases this
 ·intro i hi
  obtain ⟨hun, o, ho, hdep⟩ := mem_ready.1 hi
  have hdeps := onsOf_of ho hdep
  have hos : i < ops.size := by rw [← h.lsize]; exact getD_lt' hun
  by_cases him : i < m
  ·exact ⟨him, hun, hdeps⟩
  ·exfalso
   apply hall
   intro j hj
   have := clo_listed h.downAll 12 _ hdeps j (clo_spec hcl i (by omega) hos j hj)
   rw [getD_tf (getD_lt this)]; exact this
theorem zero_all {ops : Array Oper} {m : Nat} {a0 a : Act} {w0 w : World} {p : Plan} {listed : Array Bool} (h : SInv ops m a0 w0 p listed a w) (hle : m ≤ ops.size) (hn : listed.toList.count true = ops.size) : ∀ i, i < m → listed.getD i true = true := fun i hi => by
 have hl : i < listed.size := by rw [h.lsize]; omega
 have := count_all (l := listed.toList) (by rw [Array.length_toList, h.lsize]; omega) i (by simpa using hl)
 simp only [Array.getD_eq_getD_getElem?, Array.getElem?_eq_getElem hl, Option.getD_some]
 simpa using this
theorem countM {ops : Array Oper} {m : Nat} : (listedM ops m).toList.count true = m := by simp [listedM, List.count_replicate]
theorem wpAny_sched {P : Program} {ops : Array Oper} {m : Nat} {a0 : Act} {w0 : World} {p : Plan} {Q : Exit → Act → World → Prop} (L : Laws p) (hc : Chk ops m a0.tmps.size) (hcl : cloB ops m = true) (hg : ∀ k, k < m → Good P ops m a0 w0 p k)
  (hfin : ∀ a V, SInv ops m a0 w0 p (listedM ops m) a V → wpAny P .any ops Q (ops.size - m) (listedM ops m) a V) :
  ∀ (fuel : Nat) (listed : Array Bool) (a : Act) (w : World), SInv ops m a0 w0 p listed a w → listed.toList.count true + fuel = ops.size → wpAny P .any ops Q fuel listed a w := by
 intro fuel
 induction fuel with
 | zero =>
  intro listed a w h hn
  have e := listed_eq h hc.le (zero_all h hc.le (by omega))
  subst e
  have := hfin a w h
  rw [countM] at hn
  rw [show ops.size - m = 0 by omega] at this
  exact this
 | succ fuel ih =>
  intro listed a w h hn
  by_cases hall : ∀ i, i < m → listed.getD i true = true
  ·have e := listed_eq h hc.le hall
   subst e
   have := hfin a w h
   rw [countM] at hn
   rw [show ops.size - m = fuel + 1 by omega] at this
   exact this
  ·obtain ⟨h1, h2⟩ := ready_in h hc hcl hall
   refine ⟨fun hr => absurd hr h1, fun i hi => ?_⟩
   obtain ⟨him, hun, hdeps⟩ := h2 i hi
   exact sched_op (plainMode P) trivial L hc hg h him hun hdeps fun a' V h' => ih _ _ _ h' (by rw [count_set hun]; omega)
theorem sinv_start {ops : Array Oper} {m : Nat} {a0 : Act} {w0 w1 : World} {p : Plan} (HC : Chk ops m a0.tmps.size) (hb : p.Fr w0 w1) : SInv ops m a0 w0 p (Array.replicate ops.size false) a0 w1 := by
 have hf : ∀ i, i < ops.size → (Array.replicate ops.size false).getD i true = false := fun i hi => by simp [Array.getD_eq_getD_getElem?, Array.getElem?_replicate, hi]
 have hno : ∀ i, i < m → (Array.replicate ops.size false).getD i true = true → False := fun i hi hl => by
  rw [hf i (Nat.lt_of_lt_of_le hi HC.le)] at hl; cases hl
 exact ⟨rfl, rfl, by simp, fun t _ => rfl, fun i hi hl => (hno i hi hl).elim, fun i hi hl => (hno i hi hl).elim, fun i j hi hj _ _ _ hl => (hno i hi hl).elim, hb, fun i _ hi => hf i hi, fun i hi hl => (hno i hi hl).elim⟩
/-- The temporaries behind the first part. -/
def finL (x : Nat → Value) : Nat → List Tmp → Array Value → Array Value
 | _, [], A => A
 | k, d :: r, A => finL x (k + 1) r (A.setIfInBounds d (x k))
def chkD (ops : Array Oper) : Nat → List Tmp → Bool
 | _, [] => true
 | k, d :: r => dstOf ops k == some d && chkD ops (k + 1) r
theorem finL_eq {ops : Array Oper} {B : Array Value} {x : Nat → Value} : ∀ (D : List Tmp) (k : Nat) (A : Array Value), chkD ops k D = true → B.size = A.size →
  (∀ i d, D[i]? = some d → d < A.size → B.getD d undef = x (k + i)) → (∀ t, (∀ i, i < D.length → dstOf ops (k + i) ≠ some t) → B.getD t undef = A.getD t undef) → finL x k D A = B
 | [], k, A, _, hs, _, hf => by
  unfold finL
  refine (Array.ext hs fun i h1 h2 => ?_).symm
  have := hf i (fun _ h => absurd h (Nat.not_lt_zero _))
  simpa [Array.getD_eq_getD_getElem?, h1, h2] using this
 | d :: r, k, A, hd, hs, hv, hf => by
  unfold chkD at hd
  rw [Bool.and_eq_true] at hd
  have hdk : dstOf ops k = some d := by simpa using hd.1
  unfold finL
  refine finL_eq r (k + 1) _ hd.2 (by simp [hs]) (fun i e hi hlt => ?_) (fun t ht => ?_)
  ·have := hv (i + 1) e (by simpa using hi) (by simpa using hlt)
   rw [this]; congr 1; omega
  ·by_cases hlt : d < A.size
   ·rw [tget_set hlt]
    split
    ·rename_i e; subst e
     exact hv 0 t rfl hlt
    ·rename_i e
     refine hf t fun i hi hit => ?_
     cases i with
     | zero => rw [Nat.add_zero, hdk] at hit; injection hit with hit; exact e hit.symm
     | succ i => exact ht i (by simpa using hi) (by rw [← hit]; congr 1; omega)
   ·have hle : A.size ≤ d := Nat.le_of_not_lt hlt
    rw [Array.setIfInBounds_eq_of_size_le hle]
    by_cases e : t = d
    ·subst e
     simp [Array.getD_eq_getD_getElem?, Array.getElem?_eq_none (show B.size ≤ t from hs ▸ hle), Array.getElem?_eq_none hle]
    ·refine hf t fun i hi hit => ?_
     cases i with
     | zero => rw [Nat.add_zero, hdk] at hit; injection hit with hit; exact e hit.symm
     | succ i => exact ht i (by simpa using hi) (by rw [← hit]; congr 1; omega)
/-- What is known behind the first part. -/
structure SFin (ops : Array Oper) (m : Nat) (p : Plan) (x : Nat → Value) (w0 V : World) : Prop where
 rel : ∀ i, i < m → p.R i (mask ops i x) (x i) V
 new : ∀ i, i < m → p.fresh i = true → ∃ g, x i = .pointer (some ⟨g, 0, none⟩) ∧ w0.heap.size ≤ g ∧ g < V.heap.size
 apart : ∀ i j, i < m → j < m → p.fresh i = true → p.fresh j = true → i ≠ j → x i ≠ x j
 frame : p.Fr w0 V
theorem sinv_end {ops : Array Oper} {D : List Tmp} {a0 a : Act} {w0 V : World} {p : Plan} (hd : chkD ops 0 D = true) (HC : Chk ops D.length a0.tmps.size) (h : SInv ops D.length a0 w0 p (listedM ops D.length) a V) : SFin ops D.length p (at_ ops a) w0 V ∧ finL (at_ ops a) 0 D a0.tmps = a.tmps := by
 refine ⟨⟨fun i hi => h.rel i hi (listedM_at i hi), fun i hi hf => h.new i hi (listedM_at i hi) hf, fun i j hi hj fi fj hne => h.apart i j hi hj fi fj hne (listedM_at i hi) (listedM_at j hj), h.frame⟩, ?_⟩
 have hD : ∀ (D : List Tmp) (k i : Nat) (d : Tmp), chkD ops k D = true → D[i]? = some d → dstOf ops (k + i) = some d := by
  intro D
  induction D with
  | nil => intro k i d _ h; simp at h
  | cons e r ih =>
   intro k i d hk hi
   unfold chkD at hk
   rw [Bool.and_eq_true] at hk
   cases i with
   | zero => simp at hi; subst hi; simpa using hk.1
   | succ i => have := ih (k + 1) i d hk.2 (by simpa using hi); rwa [show k + 1 + i = k + (i + 1) by omega] at this
 refine finL_eq D 0 _ hd h.size (fun i d hi hlt => ?_) (fun t ht => ?_)
 ·have := hD D 0 i d hd hi
  unfold at_ tm
  rw [this]
 ·refine h.far t fun i hi hit => ?_
  have := ht i hi
  rw [Nat.zero_add] at this
  exact absurd hit this
theorem wp_sch {P : Program} {ops : Array Oper} {a0 : Act} {w0 : World} {Q : Exit → Act → World → Prop} {id : Nat} {draw : Bool} (p : Plan) (D : List Tmp) (L : Laws p) (hm : P.follows .mixedOrders = true) (hc : chk ops D.length a0.tmps.size = true) (hd : chkD ops 0 D = true) (hq : (!draw || (cloB ops D.length && seqd ops D.length)) = true)
  (hg : ∀ k, k < D.length → Good P ops D.length a0 w0 p k) (tl : List Oper) (ht : ops.toList.drop D.length = tl)
  (hfin : ∀ (x : Nat → Value) (V : World), SFin ops D.length p x w0 V → wpList P ops Q tl ⟨finL x 0 D a0.tmps, a0.defers⟩ V) :
  (Code.region id ops draw).wp P Q a0 w0 := by
 have HC := chk_spec hc
 have fin : ∀ a V, SInv ops D.length a0 w0 p (listedM ops D.length) a V → wpList P ops Q (ops.toList.drop D.length) a V := fun a V h => by
  obtain ⟨h1, h2⟩ := sinv_end hd HC h
  have := hfin _ V h1
  rw [h2, ← h.defers] at this
  rw [ht]; exact this
 cases draw with
 | true =>
  have hq2 : cloB ops D.length = true ∧ seqd ops D.length = true := by simpa using hq
  refine wp_region_any hm (wpAny_sched L HC hq2.1 hg (fun a V h => ?_) ops.size _ a0 w0.drew (sinv_start HC (L.drew _)) (by simp [List.count_replicate]))
  have := wpAny_tail (P := P) (Q := Q) hq2.2 (ops.size - D.length) 0 a V (by omega) HC.le (fin a V h)
  rw [Nat.add_zero, ← listedM_K] at this
  exact this
 | false =>
  refine wp_region ?_
  have key : ∀ (f k : Nat) (a : Act) (w : World), k + f = D.length → SInv ops D.length a0 w0 p (listedK ops.size k) a w → wpOps P ops Q (List.range' k (ops.size - k)) a w := by
   intro f
   induction f with
   | zero =>
    intro k a w hk h
    rw [Nat.add_zero] at hk
    subst hk
    have := fin a w h
    have e : wpOps P ops Q (List.range' D.length (ops.size - D.length)) = wpList P ops Q (ops.toList.drop D.length) := by
     have e1 := wpOps_eq_wpList (P := P) (Q := Q) (ops := ops) (ops.toList.drop D.length) D.length (fun j => by simp)
     have e2 : (ops.toList.drop D.length).length = ops.size - D.length := by simp
     rw [e2] at e1; exact e1
    rw [e]; exact this
   | succ f ih =>
    intro k a w hk h
    have hkm : k < D.length := by omega
    have hks : k < ops.size := Nat.lt_of_lt_of_le hkm HC.le
    rw [show ops.size - k = (ops.size - (k + 1)) + 1 by omega, List.range'_succ, wpOps_cons]
    refine sched_op (plainMode P) trivial L HC hg h hkm ?_ (fun j hj => ?_) (fun a' V h' => ?_)
    ·simp [listedK, Array.getD_eq_getD_getElem?, List.getElem?_append_right, List.getElem?_replicate, show 0 < ops.size - k by omega]
    ·have := HC.small k hkm j hj
     simp [listedK, Array.getD_eq_getD_getElem?, List.getElem?_append_left, this]
    ·rw [listedK_set hks] at h'
     exact ih (k + 1) a' V (by omega) h'
  rw [List.range_eq_range']
  have h0 : listedK ops.size 0 = Array.replicate ops.size false := by simp [listedK]
  exact key D.length 0 a0 w0 (by omega) (by rw [h0]; exact sinv_start HC (L.refl _))
/-! ## The same within a round of a range over a function. -/
theorem wpIn_of_wp {P : Program} {lp n : Nat} (o : Oper) (a : Act) (V : World) (K : Act → World → Prop) (Q : Exit → Act → World → Prop) (hd : ∀ c, o.op ≠ .defer c) (h : o.wp P a V K Q) : o.wpIn (Fence.wide.inRound lp) n P a V K Q := by
 unfold Oper.wpIn
 refine ⟨fun f _ => trivial, ?_⟩
 rw [Oper.semAt_plain _ _ _ hd]
 unfold Oper.wp at h
 generalize (execOp a.eval o).run P V = r at *
 cases r with
 | ok x w' =>
  cases x <;> simp only [Oper.upon, Oper.uponIn] at h ⊢ <;>
   first
    | exact h
    | exact ⟨fun hh => (by cases hh), CallsIn.inRound lp (callsIn_wide.2 (h.mono fun e w'' he => by cases e <;> exact he))⟩
    | exact ⟨fun hh => (by cases hh), fun c cs _ => let ⟨v, w2, r, s⟩ := h c cs; ⟨v, w2, r, stepsIn_wide.2 s⟩⟩
 | halt x w' => cases x <;> simp only [Oper.upon, Oper.uponIn] at h ⊢ <;> exact h
def noDefer (ops : Array Oper) : Bool := ops.all fun o => match o.op with | .defer _ => false | _ => true
theorem noDefer_spec {ops : Array Oper} (h : noDefer ops = true) {i : Nat} {o : Oper} (ho : ops[i]? = some o) (c : Call) : o.op ≠ .defer c := by
 intro e
 have hm : o ∈ ops := Array.mem_of_getElem? ho
 have := Array.all_eq_true_iff_forall_mem.1 h o hm
 rw [e] at this; cases this
def roundMode (P : Program) (lp n : Nat) : Mode2 P where
 fits ops := noDefer ops = true
 op ops Q i K a w := wpOpIn (Fence.wide.inRound lp) n P ops Q i K a w
 step := fun hM ho hw h => by
  unfold wpOpIn
  simp only [ho]
  rw [if_pos hw]
  exact wpIn_of_wp _ _ _ _ _ (fun c => noDefer_spec hM ho c) h
 skip := fun hM ho hw h => by
  unfold wpOpIn
  simp only [ho]
  rw [if_neg (by rw [hw]; decide)]
  exact ⟨fun _ _ => trivial, h⟩
theorem wpAny_tailIn {lp n : Nat} {P : Program} {ops : Array Oper} {Q : Exit → Act → World → Prop} {m : Nat} (hs : seqd ops m = true) : ∀ (f k : Nat) (a : Act) (w : World), k + f = ops.size - m → m ≤ ops.size → wpListIn (Fence.wide.inRound lp) n P ops Q (ops.toList.drop (m + k)) a w → wpAnyIn (Fence.wide.inRound lp) n P .any ops Q f (listedK ops.size (m + k)) a w
 | 0, k, a, w, hk, hm, h => by
  unfold seqd at hs
  rw [Bool.and_eq_true] at hs
  have e : m + k = ops.size := by omega
  rw [e] at h ⊢
  rw [List.drop_of_length_le (by simp)] at h
  exact ⟨by simpa using hs.2, h⟩
 | f + 1, k, a, w, hk, hm, h => by
  have hs' := hs
  unfold seqd at hs
  rw [Bool.and_eq_true, List.all_eq_true] at hs
  have hr : Region.ready .any ops (listedK ops.size (m + k)) = [m + k] := by have := hs.1 k (List.mem_range.2 (by omega)); simpa using this
  have hlt : m + k < ops.size := by omega
  refine ⟨fun h0 => (by rw [hr] at h0; cases h0), fun i hi => ?_⟩
  rw [hr] at hi
  obtain rfl : i = m + k := by simpa using hi
  have ho : ops[m + k]? = some ops[m + k] := Array.getElem?_eq_getElem hlt
  have hl : ops.toList.drop (m + k) = ops[m + k] :: ops.toList.drop (m + (k + 1)) := by
   rw [List.drop_eq_getElem_cons (by simpa using hlt)]; rfl
  rw [hl] at h
  unfold wpListIn at h
  unfold wpOpIn
  simp only [ho]
  rw [listedK_set hlt]
  have ih := fun a w => wpAny_tailIn (lp := lp) (n := n) (P := P) (Q := Q) hs' f (k + 1) a w (by omega) hm
  split
  ·rename_i hw
   rw [if_pos hw] at h
   exact Oper.wpIn_mono (fun a w hh => ih a w hh) h
  ·rename_i hw
   rw [if_neg hw] at h
   exact ⟨h.1, ih _ _ h.2⟩
theorem wpAny_schedIn {lp n : Nat} {P : Program} {ops : Array Oper} {m : Nat} {a0 : Act} {w0 : World} {p : Plan} {Q : Exit → Act → World → Prop} (hnd : noDefer ops = true) (L : Laws p) (hc : Chk ops m a0.tmps.size) (hcl : cloB ops m = true) (hg : ∀ k, k < m → Good P ops m a0 w0 p k)
  (hfin : ∀ a V, SInv ops m a0 w0 p (listedM ops m) a V → wpAnyIn (Fence.wide.inRound lp) n P .any ops Q (ops.size - m) (listedM ops m) a V) :
  ∀ (fuel : Nat) (listed : Array Bool) (a : Act) (w : World), SInv ops m a0 w0 p listed a w → listed.toList.count true + fuel = ops.size → wpAnyIn (Fence.wide.inRound lp) n P .any ops Q fuel listed a w := by
 intro fuel
 induction fuel with
 | zero =>
  intro listed a w h hn
  have e := listed_eq h hc.le (zero_all h hc.le (by omega))
  subst e
  have := hfin a w h
  rw [countM] at hn
  rw [show ops.size - m = 0 by omega] at this
  exact this
 | succ fuel ih =>
  intro listed a w h hn
  by_cases hall : ∀ i, i < m → listed.getD i true = true
  ·have e := listed_eq h hc.le hall
   subst e
   have := hfin a w h
   rw [countM] at hn
   rw [show ops.size - m = fuel + 1 by omega] at this
   exact this
  ·obtain ⟨h1, h2⟩ := ready_in h hc hcl hall
   refine ⟨fun hr => absurd hr h1, fun i hi => ?_⟩
   obtain ⟨him, hun, hdeps⟩ := h2 i hi
   exact sched_op (roundMode P lp n) hnd L hc hg h him hun hdeps fun a' V h' => ih _ _ _ h' (by rw [count_set hun]; omega)
end Go.Proofs.YtcfogpeinjehbaaGreatDoor.Sch
end

section
namespace Go.Proofs.YtcfogpeinjehbaaGreatDoor.Sch
open Go Go.Proofs Go.RowKit
/-- What is known of a value, and stays so when calls keep what was there. -/
inductive Rk where
 | is (p : Value → World → Prop) (hk : ∀ v V V', p v V → Below V.heap.size V V' → p v V')
 | fresh (T : TypeId) (z : Array Value)
def Rk.rel : Rk → Value → World → Prop
 | .is p _ => p
 | .fresh T z => fun v V => ∃ g, v = .pointer (some ⟨g, 0, none⟩) ∧ Blk V g T z
def Rk.new : Rk → Bool
 | .is _ _ => false
 | .fresh _ _ => true
/-- Just this value. -/
def Rk.val (u : Value) : Rk := .is (fun v _ => v = u) (fun _ _ _ h _ => h)
/-- A value of this kind, whatever the world. -/
def Rk.say (p : Value → Prop) : Rk := .is (fun v _ => p v) (fun _ _ _ h _ => h)
theorem Rk.keep (r : Rk) {v : Value} {V V' : World} (h : r.rel v V) (hb : Below V.heap.size V V') : r.rel v V' := by
 cases r with
 | is p hk => exact hk v V V' h hb
 | fresh T z => obtain ⟨g, e, hB⟩ := h; exact ⟨g, e, hB.old hb⟩
def relOf (PL : List Rk) (i : Nat) (v : Value) (V : World) : Prop := match PL[i]? with | some r => r.rel v V | none => False
def planR (PL : List Rk) : Plan := { Fr := fun u v => Below u.heap.size u v, R := fun i _ v V => relOf PL i v V, fresh := fun i => match PL[i]? with | some r => r.new | none => false }
theorem relOf_at {PL : List Rk} {i : Nat} {r : Rk} (h : PL[i]? = some r) {v : Value} {V : World} : relOf PL i v V ↔ r.rel v V := by unfold relOf; rw [h]
theorem planR_laws (PL : List Rk) : Laws (planR PL) where
 refl _ := Below.refl _ _
 trans h1 h2 := Below.trans h1 (Below.mono h2 h1.size)
 drew _ := (Below.refl _ _).drew
 size h := h.size
 keep {i x v V V'} h hb := by
  show relOf PL i v V'
  have h : relOf PL i v V := h
  unfold relOf at h ⊢
  cases hr : PL[i]? with
  | none => rw [hr] at h; exact h
  | some r => rw [hr] at h; exact r.keep h hb
def GoodsR (P : Program) (ops : Array Oper) (m : Nat) (a0 : Act) (w0 : World) (PL : List Rk) : Nat → List Rk → Prop
 | _, [] => True
 | k, _ :: r => Good P ops m a0 w0 (planR PL) k ∧ GoodsR P ops m a0 w0 PL (k + 1) r
section
variable {P : Program} {ops : Array Oper} {m : Nat} {a0 : Act} {w0 : World} {PL : List Rk} {k : Nat} {r : List Rk}
theorem goodsR_at : ∀ (l : List Rk) (k : Nat), GoodsR P ops m a0 w0 PL k l → ∀ i, i < l.length → Good P ops m a0 w0 (planR PL) (k + i)
 | [], _, _, i, h => absurd h (Nat.not_lt_zero _)
 | q :: r, k, hg, 0, h => hg.1
 | q :: r, k, hg, i + 1, h => by
  have := goodsR_at r (k + 1) hg.2 i (by simpa using h)
  rwa [show k + 1 + i = k + (i + 1) by omega] at this
theorem gr_nil : GoodsR P ops m a0 w0 PL k [] := trivial
/-- What an operation of the first part may rest on. -/
structure Here (ops : Array Oper) (m : Nat) (a0 : Act) (w0 : World) (PL : List Rk) (k : Nat) (a : Act) (V : World) : Prop where
 still : ∀ t, still ops m t = true → tm a t = tm a0 t
 frame : Below w0.heap.size w0 V
 got : ∀ j ∈ pre ops k, relOf PL j (at_ ops a j) V
theorem Here.old {a : Act} {V : World} (h : Here ops m a0 w0 PL k a V) (t : Tmp) {v : Value} (h1 : Sch.still ops m t = true := by kernel_rfl) (h2 : tm a0 t = v := by kernel_rfl) : a.eval (.tmp t) = v := (h.still t h1).trans h2
theorem Here.rel {a : Act} {V : World} (h : Here ops m a0 w0 PL k a V) (j : Nat) (t : Tmp) {q : Rk} (h3 : PL[j]? = some q) (h1 : (pre ops k).contains j = true := by kernel_rfl) (h2 : dstOf ops j = some t := by kernel_rfl) : q.rel (a.eval (.tmp t)) V := by
 have := h.got j (by simpa using h1)
 rw [relOf_at h3] at this
 have e : at_ ops a j = a.eval (.tmp t) := by unfold at_; rw [h2]; rfl
 rwa [e] at this
theorem gr_is {p : Value → World → Prop} {hk : ∀ v V V', p v V → Below V.heap.size V V' → p v V'} (hPL : PL[k]? = some (.is p hk)) (h : ∀ (a : Act) (V : World), Here ops m a0 w0 PL k a V → ∀ (K : Act → World → Prop) (Q : Exit → Act → World → Prop),
      (∀ v V', Below V.heap.size V V' → p v V' → K (a.put (opA ops k).dst v) V') → (opA ops k).wp P a V K Q) (hr : GoodsR P ops m a0 w0 PL (k + 1) r) (hgd : (opA ops k).guard = none := by kernel_rfl) : GoodsR P ops m a0 w0 PL k (.is p hk :: r) :=
 ⟨fun a V h1 h2 h3 => .inl ⟨by unfold Region.wanted; rw [hgd], fun K Q hK => h a V ⟨h1, h2, fun j hj => h3 j hj⟩ K Q fun v V' hb hp => hK v V' hb ((relOf_at hPL).2 hp) (fun hf => by
  exfalso
  have e : (planR PL).fresh k = false := by show (match PL[k]? with | some r => r.new | none => false) = false; rw [hPL]; rfl
  rw [e] at hf; cases hf)⟩, hr⟩
theorem gr_val {u : Value} (hPL : PL[k]? = some (.val u)) (h : ∀ (a : Act) (V : World), Here ops m a0 w0 PL k a V → ∀ (K : Act → World → Prop) (Q : Exit → Act → World → Prop),
      (∀ V', Below V.heap.size V V' → K (a.put (opA ops k).dst u) V') → (opA ops k).wp P a V K Q) (hr : GoodsR P ops m a0 w0 PL (k + 1) r) (hgd : (opA ops k).guard = none := by kernel_rfl) : GoodsR P ops m a0 w0 PL k (.val u :: r) :=
 gr_is hPL (fun a V H K Q hK => h a V H K Q fun V' hb => hK u V' hb rfl) hr hgd
theorem gr_fresh {T : TypeId} {z : Array Value} (hPL : PL[k]? = some (.fresh T z)) (h1 : (ops[k]?).map (fun o => (o.op, o.guard)) = some (.alloc T, none)) (h2 : ∀ W, (zeroValue T).run P W = .ok (.agg z) W) (hr : GoodsR P ops m a0 w0 PL (k + 1) r) :
  GoodsR P ops m a0 w0 PL k (.fresh T z :: r) := by
 refine ⟨fun a V _ _ _ => .inl ?_, hr⟩
 cases ho : ops[k]? with
 | none => rw [ho] at h1; simp at h1
 | some o =>
  rw [ho] at h1
  simp only [Option.map_some, Option.some.injEq, Prod.mk.injEq] at h1
  rw [opA_of ho]
  refine ⟨by unfold Region.wanted; rw [h1.2], fun K Q hK => ?_⟩
  have hrun : (execOp a.eval o).run P V = .ok (.value (.pointer (some ⟨V.heap.size, 0, none⟩))) (V.alloc (.cells z T)) := by
   unfold execOp
   simp only [h1.1, Instr.alloc, Sem.run_bind, h2, Result.andThen_ok, Sem.run_pure]
   rfl
  unfold Oper.wp
  rw [hrun, Oper.upon_value]
  exact hK _ _ ((Below.refl _ _).alloc (Nat.le_refl _) _) ((relOf_at hPL).2 ⟨_, rfl, Blk.new V T z⟩) (fun _ => ⟨_, rfl, Nat.le_refl _, by simp⟩)
/-- What is known behind the first part. -/
structure FinR (PL : List Rk) (x : Nat → Value) (w0 V : World) : Prop where
 rel : ∀ i (r : Rk), PL[i]? = some r → r.rel (x i) V
 new : ∀ i T z, PL[i]? = some (.fresh T z) → ∃ g, x i = .pointer (some ⟨g, 0, none⟩) ∧ w0.heap.size ≤ g ∧ Blk V g T z
 apart : ∀ i j T z T' z', PL[i]? = some (.fresh T z) → PL[j]? = some (.fresh T' z') → i ≠ j → x i ≠ x j
 frame : Below w0.heap.size w0 V
theorem wp_R {Q : Exit → Act → World → Prop} {id : Nat} {draw : Bool} (D : List Tmp) (PL : List Rk) (hl : PL.length = D.length) (hm : P.follows .mixedOrders = true) (hc : chk ops D.length a0.tmps.size = true) (hd : chkD ops 0 D = true) (hq : (!draw || (cloB ops D.length && seqd ops D.length)) = true)
  (hg : GoodsR P ops D.length a0 w0 PL 0 PL) (tl : List Oper) (ht : ops.toList.drop D.length = tl)
  (hfin : ∀ (x : Nat → Value) (V : World), FinR PL x w0 V → wpList P ops Q tl ⟨finL x 0 D a0.tmps, a0.defers⟩ V) : (Code.region id ops draw).wp P Q a0 w0 := by
 refine wp_sch (planR PL) D (planR_laws PL) hm hc hd hq (fun k hk => ?_) tl ht fun x V hF => hfin x V ⟨fun i r hr => ?_, fun i T z hr => ?_, fun i j T z T' z' hi hj hne => ?_, hF.frame⟩
 ·have := goodsR_at PL 0 hg k (by omega)
  rwa [Nat.zero_add] at this
 ·have hi : i < D.length := by rw [← hl]; exact (List.getElem?_eq_some_iff.1 hr).1
  exact (relOf_at hr).1 (hF.rel i hi)
 ·have hi : i < D.length := by rw [← hl]; exact (List.getElem?_eq_some_iff.1 hr).1
  obtain ⟨g, e, h1, h2⟩ := hF.new i hi (by show (match PL[i]? with | some r => r.new | none => false) = true; rw [hr]; rfl)
  obtain ⟨g', e', hB⟩ := (relOf_at hr).1 (hF.rel i hi)
  rw [e] at e'
  injection e' with e'
  injection e' with e'
  injection e' with e'
  subst e'
  exact ⟨g, e, h1, hB⟩
 ·have ni : i < D.length := by rw [← hl]; exact (List.getElem?_eq_some_iff.1 hi).1
  have nj : j < D.length := by rw [← hl]; exact (List.getElem?_eq_some_iff.1 hj).1
  exact hF.apart i j ni nj (by show (match PL[i]? with | some r => r.new | none => false) = true; rw [hi]; rfl) (by show (match PL[j]? with | some r => r.new | none => false) = true; rw [hj]; rfl) hne
end
section
variable {P : Program} {o : Oper} {a : Act} {V : World} {K : Act → World → Prop} {Q : Exit → Act → World → Prop}
/-- A call of which just something is known. -/
theorem op_callR {f : FuncId} {p : Value → World → Prop} (xs : Array Operand) (args : Array Value) (ha : xs.map a.eval = args) (hk : Calls P f args V fun e w' => ∃ v, e = .returned v ∧ p v w' ∧ Below V.heap.size V w') (hK : ∀ v V', Below V.heap.size V V' → p v V' → K (a.put o.dst v) V') (ho : o.op = .call (callOf o) := by kernel_rfl) (hc : (callOf o).callee = .value (.func f) := by kernel_rfl) (hx : (callOf o).args = xs := by kernel_rfl) (hrun : (callFunc f args).run P V = .ok (.enter f args) V := by kernel_rfl) : o.wp P a V K Q := by
 have h : (execOp a.eval o).run P V = .ok (.enter f args) V := by
  unfold execOp
  rw [ho]
  simp only [resolve, hc, hx, Act.eval, Deferred.ofValue, ha, Sem.run_bind, Sem.run_pure, Result.andThen_ok, invoke]
  simp [go_sem, hrun]
 unfold Oper.wp
 rw [h, Oper.upon_enter]
 refine hk.mono ?_
 rintro e w' ⟨v, rfl, hp, hb⟩
 exact hK v w' hb hp
end
end Go.Proofs.YtcfogpeinjehbaaGreatDoor.Sch
end

section
namespace F5
section
variable {n : Nat} [NeZero n]
theorem gp_ux {x1 y1 z1 x2 y2 z2 d a b : Fin n} (h : b * d = 0 - a) : z1 * z2 * b * (z1 * z2) - x1 * z1 * (x2 * z2) * (y1 * z1 * (y2 * z2)) * a = (b * ((z1 * z2) * (z1 * z2))) * (1 + d * (x1 * x2 * y1 * y2)) := by grind
theorem gp_uy {x1 y1 z1 x2 y2 z2 d a b : Fin n} (h : b * d = 0 - a) : z1 * z2 * b * (z1 * z2) + x1 * z1 * (x2 * z2) * (y1 * z1 * (y2 * z2)) * a = (b * ((z1 * z2) * (z1 * z2))) * (1 - d * (x1 * x2 * y1 * y2)) := by grind
theorem gp_cr (x1 y1 z1 x2 y2 z2 b : Fin n) : z1 * z2 * b * (x1 * z1 * (y2 * z2) + y1 * z1 * (x2 * z2)) = (b * ((z1 * z2) * (z1 * z2))) * (x1 * y2 + x2 * y1) := by grind
theorem gp_cy (x1 y1 z1 x2 y2 z2 b : Fin n) : z1 * z2 * b * (y1 * z1 * (y2 * z2) + x1 * z1 * (x2 * z2)) = (b * ((z1 * z2) * (z1 * z2))) * (y1 * y2 + x1 * x2) := by grind
theorem gp_X {k s D u t : Fin n} (h : D * u = 1) : k * s * t = (s * u) * ((k * D) * t) := by grind
theorem gp_Y {k s D u t : Fin n} (h : D * u = 1) : k * s * t = (s * u) * (t * (k * D)) := by grind
theorem gp_dx {x y z d : Fin n} (h : y * y - x * x = 1 + d * (x * x) * (y * y)) : y * z * (y * z) - x * z * (x * z) = (z * z) * (1 + d * (x * x * y * y)) := by grind
theorem gp_dy {x y z d : Fin n} (h : y * y - x * x = 1 + d * (x * x) * (y * y)) : z * z + z * z - (z * z) * (1 + d * (x * x * y * y)) = (z * z) * (1 - d * (x * x * y * y)) := by grind
theorem gp_dcx (x y z : Fin n) : x * z * (y * z) + x * z * (y * z) = (z * z) * (x * y + x * y) := by grind
theorem gp_dcy (x y z : Fin n) : y * z * (y * z) + x * z * (x * z) = (z * z) * (y * y + x * x) := by grind
theorem gp_down {y d a b : Fin n} (h : b * d = 0 - a) : b - y * y * a = b * (d * (y * y) + 1) := by grind
theorem gp_sq {c b D f g : Fin n} (h1 : b * D * f = 1) (h2 : D * g = 1) : c * b * f = c * g := by grind
end
/-- the numbers above and below. -/
def aF : Fp := ⟨121665, by decide⟩
def bF : Fp := ⟨121666, by decide⟩
theorem bF_dE : bF * dE = 0 - aF := by decide +kernel
theorem bF_ne : bF ≠ 0 := by decide
theorem rep_addP {p q : Pt} {X1 Y1 Z1 X2 Y2 Z2 xx yy zz c1 c2 cr mo on ab pa ux uy m1 r1 s1 m2 r2 r3 : Fp} (hp : Rep p X1 Y1 Z1) (hq : Rep q X2 Y2 Z2)
  (hxx : X1 * X2 = xx) (hyy : Y1 * Y2 = yy) (hzz : Z1 * Z2 = zz) (hc1 : X1 * Y2 = c1) (hc2 : Y1 * X2 = c2) (hcr : c1 + c2 = cr) (hmo : zz * bF = mo) (hon : mo * zz = on) (hab : xx * yy = ab) (hpa : ab * aF = pa)
  (hux : on - pa = ux) (huy : on + pa = uy) (hm1 : mo * cr = m1) (h1 : m1 * uy = r1) (hs1 : yy + xx = s1) (hm2 : mo * s1 = m2) (h2 : m2 * ux = r2) (h3 : ux * uy = r3) : Rep (padd p q) r1 r2 r3 := by
 subst hxx hyy hzz hc1 hc2 hcr hmo hon hab hpa
 obtain ⟨n1, rfl, rfl⟩ := hp
 obtain ⟨n2, rfl, rfl⟩ := hq
 have hz := fp_ne bF_ne (fp_ne (fp_ne n1 n2) (fp_ne n1 n2))
 rw [gp_ux bF_dE] at hux
 rw [gp_uy bF_dE] at huy
 subst hm1 hs1 hm2 hux huy h1 h2 h3
 refine ⟨fp_ne (fp_ne hz (den1 p.on q.on)) (fp_ne hz (den2 p.on q.on)), ?_, ?_⟩
 ·rw [gp_cr]; exact gp_X (mul_finv (den1 p.on q.on))
 ·rw [gp_cy]; exact gp_Y (mul_finv (den2 p.on q.on))
theorem rep_twice {p : Pt} {X Y Z xx yy zz cr ux z2 uy c2 r1 s1 r2 r3 : Fp} (hp : Rep p X Y Z) (hxx : X * X = xx) (hyy : Y * Y = yy) (hzz : Z * Z = zz) (hcr : X * Y = cr) (hux : yy - xx = ux) (hz2 : zz + zz = z2) (huy : z2 - ux = uy)
  (hc2 : cr + cr = c2) (h1 : c2 * uy = r1) (hs1 : yy + xx = s1) (h2 : s1 * ux = r2) (h3 : ux * uy = r3) : Rep (padd p p) r1 r2 r3 := by
 subst hxx hyy hzz hcr hz2
 obtain ⟨n1, rfl, rfl⟩ := hp
 rw [gp_dx p.on] at hux
 subst hux
 rw [gp_dy p.on] at huy
 have hz := fp_ne n1 n1
 subst huy hc2 h1 hs1 h2 h3
 refine ⟨fp_ne (fp_ne hz (den1 p.on p.on)) (fp_ne hz (den2 p.on p.on)), ?_, ?_⟩
 ·rw [gp_dcx]; exact gp_X (mul_finv (den1 p.on p.on))
 ·rw [gp_dcy]; exact gp_Y (mul_finv (den2 p.on p.on))
theorem xsq_prog {y sq s1 up sa dn f r one : Fp} (h1 : one = 1) (hsq : y * y = sq) (hs1 : sq - one = s1) (hup : s1 * bF = up) (hsa : sq * aF = sa) (hdn : bF - sa = dn) (hf : finv dn = f) (hr : up * f = r) : xsq y = r := by
 subst h1 hsq hs1 hup hsa
 rw [gp_down bF_dE] at hdn
 subst hdn hf hr
 exact (gp_sq (mul_finv (fp_ne bF_ne (over_ne y))) (mul_finv (over_ne y))).symm
/-- doubled n times. -/
theorem pmul_double (n : Nat) (p : Pt) : padd (pmul (2 ^ n) p) (pmul (2 ^ n) p) = pmul (2 ^ (n + 1)) p := by
 rw [← pmul_add, Nat.pow_succ, Nat.mul_two]
end F5
end

section
namespace Go.Proofs.YtcfogpeinjehbaaGreatDoor
open Go Go.Proofs Go.RowKit F5
def cE (a : Fp) : Array Value := limA a.val
theorem cE_size (a : Fp) : (cE a).size = 4 := limA_size _
theorem cE_ok (a : Fp) : (Tryz.prog.info? 44).map (·.size) = some (cE a).size ∧ (cE a).all (·.oneCell') = true := ⟨limA_infoE _, limA_one _⟩
theorem cE_sz (a b : Fp) : (cE a).size = (cE b).size := by rw [cE_size, cE_size]
theorem eOf (n : Nat) (hn : n < P) (hm : n < M) (a : Fp) (h : a.val = n) (i : Int) (hi : i = n) (w : World) : Calls Tryz.prog 36 #[.int .u64 i] w fun e w' => e = .returned (.agg (cE a)) ∧ Below w.heap.size w w' := by
 subst hi
 rw [cE, h]
 exact of_any n hm w
theorem eMul (a b : Fp) (w : World) (hP : PrimeAt w) : Calls Tryz.prog 37 #[.agg (cE a), .agg (cE b)] w fun e w' => e = .returned (.agg (cE (a * b))) ∧ Below w.heap.size w w' := by
 have := mul_e a.val b.val a.isLt b.isLt w hP
 rwa [← fp_mul] at this
theorem eAdd (a b : Fp) (w : World) (hP : PrimeAt w) : Calls Tryz.prog 66 #[.agg (cE a), .agg (cE b)] w fun e w' => e = .returned (.agg (cE (a + b))) ∧ Below w.heap.size w w' := by
 have := add_e a.val b.val a.isLt b.isLt w hP
 rwa [← fp_add] at this
theorem eSub (a b : Fp) (w : World) (hP : PrimeAt w) : Calls Tryz.prog 67 #[.agg (cE a), .agg (cE b)] w fun e w' => e = .returned (.agg (cE (a - b))) ∧ Below w.heap.size w w' := by
 have := sub_e a.val b.val a.isLt b.isLt w hP
 rwa [show (a.val + P - b.val) % P = (a - b).val by rw [Fin.sub_def]; show _ = (P - b.val + a.val) % P; congr 1; have := b.isLt; omega] at this
theorem eInv (a : Fp) (w : World) (hP : PrimeAt w) : Calls Tryz.prog 38 #[.agg (cE a)] w fun e w' => e = .returned (.agg (cE (finv a))) ∧ Below w.heap.size w w' := inv_e a.val w a.isLt hP
theorem eRoot (a : Fp) (w : World) (hP : PrimeAt w) (hT : TurnAt w) : Calls Tryz.prog 76 #[.agg (cE a)] w fun e w' => e = .returned (.tuple #[.agg (cE (rootF a)), .bool (decide (hasRoot a.val))]) ∧ Below w.heap.size w w' := root_e a.val w a.isLt hP hT
theorem eSame (a b : Fp) (w : World) : Calls Tryz.prog 65 #[.agg (cE a), .agg (cE b)] w fun e w' => e = .returned (.bool (decide (a = b))) ∧ Below w.heap.size w w' := by
 have := same_e a.val b.val a.isLt b.isLt w
 rwa [decide_eq_decide.2 (show a.val = b.val ↔ a = b from ⟨fp_ext, fun h => by rw [h]⟩)] at this
theorem eOdd (a : Fp) (w : World) : Calls Tryz.prog 46 #[.agg (cE a)] w fun e w' => e = .returned (.bool (decide (a.val % 2 = 1))) ∧ Below w.heap.size w w' := odd_e a.val w
theorem eBytes (a : Fp) (w : World) : Calls Tryz.prog 45 #[.agg (cE a)] w fun e w' => e = .returned (.agg (bytesA (fbytes a.val))) ∧ Below w.heap.size w w' := bytes_e a.val w
theorem cE_zero : cE 0 = #[.int .u64 0, .int .u64 0, .int .u64 0, .int .u64 0] := rfl
theorem zeroE (W : World) : (zeroValue 44).run Tryz.prog W = .ok (.agg (cE 0)) W := by
 rw [cE_zero]; kernel_rfl
/-! Points. -/
def uV (x y z : Fp) : Array Value := cE x ++ cE y ++ cE z
theorem uV_size (x y z : Fp) : (uV x y z).size = 12 := by simp [uV, cE_size]
theorem uV_info (x y z : Fp) : (Tryz.prog.info? 46).map (·.size) = some (uV x y z).size := by rw [uV_size]; kernel_rfl
theorem uV_one (x y z : Fp) : (uV x y z).all (·.oneCell') = true := by
 unfold uV
 rw [Array.all_append, Array.all_append, (cE_ok x).2, (cE_ok y).2, (cE_ok z).2]; rfl
theorem uV_sz (x y z x' y' z' : Fp) : (uV x y z).size = (uV x' y' z').size := by rw [uV_size, uV_size]
theorem uV_ok (x y z : Fp) : (Tryz.prog.info? 46).map (·.size) = some (uV x y z).size ∧ (uV x y z).all (·.oneCell') = true ∧ (uV 0 0 0).size = (uV x y z).size := ⟨uV_info _ _ _, uV_one _ _ _, uV_sz _ _ _ _ _ _⟩
theorem zeroU (W : World) : (zeroValue 46).run Tryz.prog W = .ok (.agg (uV 0 0 0)) W := by
 rw [show uV 0 0 0 = cE 0 ++ cE 0 ++ cE 0 from rfl, cE_zero]; kernel_rfl
theorem built_U (x y z : Fp) : Tryz.prog.built 46 [(0, .agg (cE x)), (1, .agg (cE y)), (2, .agg (cE z))] = some (uV x y z) := by kernel_rfl
theorem built_nilU : Tryz.prog.built 46 [] = some (uV 0 0 0) := by
 rw [show uV 0 0 0 = cE 0 ++ cE 0 ++ cE 0 from rfl, cE_zero]; kernel_rfl
theorem uV_cell_x {w : World} {g T : Nat} {x y z : Fp} (h : Blk w g T (uV x y z)) (j : Nat) (v : Value) (hj : (cE x)[j]? = some v) : w.cell? ⟨g, 0 + j, none⟩ = some v := by
 have hl : j < 4 := by rw [← cE_size x]; exact (Array.getElem?_eq_some_iff.1 hj).1
 rw [h.cell, ← hj, uV, Nat.zero_add, Array.getElem?_append_left (by simp [cE_size]; omega), Array.getElem?_append_left (by rw [cE_size]; exact hl)]
theorem uV_cell_y {w : World} {g T : Nat} {x y z : Fp} (h : Blk w g T (uV x y z)) (j : Nat) (v : Value) (hj : (cE y)[j]? = some v) : w.cell? ⟨g, 4 + j, none⟩ = some v := by
 have hl : j < 4 := by rw [← cE_size y]; exact (Array.getElem?_eq_some_iff.1 hj).1
 rw [h.cell, ← hj, uV, Array.getElem?_append_left (by simp [cE_size]; omega), Array.getElem?_append_right (by rw [cE_size]; omega), cE_size, Nat.add_sub_cancel_left]
theorem uV_cell_z {w : World} {g T : Nat} {x y z : Fp} (h : Blk w g T (uV x y z)) (j : Nat) (v : Value) (hj : (cE z)[j]? = some v) : w.cell? ⟨g, 8 + j, none⟩ = some v := by
 rw [h.cell, ← hj, uV, Array.getElem?_append_right (by simp [cE_size])]
 simp [cE_size]
/-- These cells stand for a point. -/
def PU (p : Pt) (c : Array Value) : Prop := ∃ X Y Z, Rep p X Y Z ∧ c = uV X Y Z
theorem PU.ok {p : Pt} {c : Array Value} (h : PU p c) : (Tryz.prog.info? 46).map (·.size) = some c.size ∧ c.all (·.oneCell') = true ∧ (uV 0 0 0).size = c.size := by
 obtain ⟨X, Y, Z, _, rfl⟩ := h
 exact uV_ok _ _ _
end Go.Proofs.YtcfogpeinjehbaaGreatDoor
end

section
namespace Go.Proofs.YtcfogpeinjehbaaGreatDoor
open Go Go.Proofs Go.RowKit F5
section
variable {P : Program}
theorem run_loadVar_off (w : World) (g off : Nat) (t : TypeId) (cs : Array Value) (d : TypeDesc) (hc : ∀ j v, cs[j]? = some v → w.cell? ⟨g, off + j, none⟩ = some v) (hu : P.underlying t = some d) (hd : d.isRow = true) (hi : (P.info? t).map (·.size) = some cs.size) :
  (loadVar t ⟨g, off, none⟩).run P w = .ok (.agg cs) w := by
 have := run_loadVar_mid (P := P) w g off t cs.toList d (fun j v hv => hc j v (by simpa using hv)) hu hd (by simpa using hi)
 simpa using this
theorem quiet_load_off {o : Oper} {ev : Operand → Value} {w : World} (t : TypeId) (x : Operand) (g off : Nat) (hx : ev x = .pointer (some ⟨g, off, none⟩)) (cs : Array Value) (d : TypeDesc) (hc : ∀ j v, cs[j]? = some v → w.cell? ⟨g, off + j, none⟩ = some v) (hu : P.underlying t = some d) (hd : d.isRow = true)
  (hi : (P.info? t).map (·.size) = some cs.size) (ho : o.op = .load t x) : (execOp ev o).run P w = .ok (.value (.agg cs)) w := by
 unfold execOp
 simp only [ho, hx, Instr.loadAt, Instr.sureAddr, Sem.run_bind, Sem.run_pure, Result.andThen_ok, run_loadVar_off w g off t cs d hc hu hd hi]
/-- The cells of a block behind a store of these into it. -/
def cellsAt (cur : Array Value) (off : Nat) (cs : Array Value) : Array Value := (cur.toList.take off ++ cs.toList ++ cur.toList.drop (off + cs.size)).toArray
theorem cellsAt_size {cur cs : Array Value} {off : Nat} (h : off + cs.size ≤ cur.size) : (cellsAt cur off cs).size = cur.size := by simp [cellsAt]; omega
theorem cellsAt_in {cur cs : Array Value} {off : Nat} (h : off + cs.size ≤ cur.size) (k : Nat) (hk : k < cs.size) : (cellsAt cur off cs)[off + k]? = cs[k]? := by
 have h1 : (List.take off cur.toList).length = off := by simp; omega
 simp only [cellsAt, List.getElem?_toArray, List.append_assoc]
 rw [List.getElem?_append_right (by omega), h1, Nat.add_sub_cancel_left, List.getElem?_append_left (by simpa using hk)]
 simp
theorem cellsAt_out {cur cs : Array Value} {off : Nat} (h : off + cs.size ≤ cur.size) (k : Nat) (hk : k < off ∨ off + cs.size ≤ k) : (cellsAt cur off cs)[k]? = cur[k]? := by
 have h1 : (List.take off cur.toList).length = off := by simp; omega
 simp only [cellsAt, List.getElem?_toArray, List.append_assoc]
 rcases hk with hk | hk
 ·rw [List.getElem?_append_left (by omega), List.getElem?_take]
  simp [hk]
 ·rw [List.getElem?_append_right (by omega), h1, List.getElem?_append_right (by simp; omega), List.getElem?_drop]
  simp only [Array.length_toList]
  rw [show off + cs.size + (k - off - cs.size) = k by omega]
  simp
theorem cellsAt_one {cur cs : Array Value} {off : Nat} (h1 : cur.all (·.oneCell') = true) (h2 : cs.all (·.oneCell') = true) : (cellsAt cur off cs).all (·.oneCell') = true := by
 rw [Array.all_eq_true_iff_forall_mem] at h1 h2 ⊢
 intro v hv
 simp only [cellsAt, List.mem_toArray, List.mem_append] at hv
 rcases hv with (hv | hv) | hv
 ·exact h1 v (by simpa using List.mem_of_mem_take hv)
 ·exact h2 v (by simpa using hv)
 ·exact h1 v (by simpa using List.mem_of_mem_drop hv)
theorem wp_store_off {o : Oper} {a : Act} {w : World} {K : Act → World → Prop} {Q : Exit → Act → World → Prop} (t : TypeId) (x y : Operand) (ho : o.op = .store t x y)
  (g off : Nat) (cs : Array Value) (hx : a.eval x = .pointer (some ⟨g, off, none⟩)) (hy : a.eval y = .agg cs) (T : TypeId) (cur : Array Value) (hg : Blk w g T cur) (hl : off + cs.size ≤ cur.size) (hi : (P.info? t).map (·.size) = some cs.size) (h1 : cs.all (·.oneCell') = true)
  (h : K (a.put o.dst undef) (w.setRow g (cellsAt cur off cs))) : o.wp P a w K Q := by
 have hst : (storeVar t ⟨g, off, none⟩ (.agg cs)).run P w = .ok () (w.setRow g (cellsAt cur off cs)) := by
  have := run_storeCells_at (P := P) g off T cs.toList 0 cur w hg (by simpa using hl) (fun v hv => (Array.all_eq_true_iff_forall_mem.1 h1) v (by simpa using hv))
  cases hq : P.info? t with
  | none => simp [hq] at hi
  | some i =>
   have hs : cs.size = i.size := by simp [hq] at hi; omega
   simp only [Nat.add_zero, Array.length_toList] at this
   simp [storeVar, sizeOf, typeInfo, hq, Value.cells, hs, cellsAt, this]
 unfold Oper.wp execOp
 simp only [ho, hx, hy, Instr.storeAt, Instr.sureAddr, Sem.run_bind, Sem.run_pure, Result.andThen_ok, hst]
 exact h
theorem wpList_store_off {ops : Array Oper} {rest : List Oper} {o : Oper} {a : Act} {w : World} {Q : Exit → Act → World → Prop} (hgd : o.guard = none) (t : TypeId) (x y : Operand) (ho : o.op = .store t x y)
  (g off : Nat) (cs : Array Value) (hx : a.eval x = .pointer (some ⟨g, off, none⟩)) (hy : a.eval y = .agg cs) (T : TypeId) (cur : Array Value) (hg : Blk w g T cur) (hl : off + cs.size ≤ cur.size) (hi : (P.info? t).map (·.size) = some cs.size) (h1 : cs.all (·.oneCell') = true)
  (h : wpList P ops Q rest (a.put o.dst undef) (w.setRow g (cellsAt cur off cs))) : wpList P ops Q (o :: rest) a w :=
 wpList_plain hgd fun _ hK => wp_store_off t x y ho g off cs hx hy T cur hg hl hi h1 (hK _ _ h)
theorem quiet_index {o : Oper} {ev : Operand → Value} {w : World} (s : TypeId) (x y : Operand) (v k u : Value) (hx : ev x = v) (hy : ev y = k) (hr : ∀ W, (Instr.indexAt s v k).run P W = .ok u W) (ho : o.op = .indexAddr s x y) : (execOp ev o).run P w = .ok (.value u) w := by
 unfold execOp
 simp only [ho, hx, hy, Sem.run_bind, hr, Sem.run_pure, Result.andThen_ok]
theorem quiet_field {o : Oper} {ev : Operand → Value} {w : World} (s : TypeId) (x : Operand) (f : Nat) (v u : Value) (hx : ev x = v) (hr : ∀ W, (Instr.fieldAt s v f).run P W = .ok u W) (ho : o.op = .fieldAddr s x f) : (execOp ev o).run P w = .ok (.value u) w := by
 unfold execOp
 simp only [ho, hx, Sem.run_bind, hr, Sem.run_pure, Result.andThen_ok]
end
theorem fa0 (g off : Nat) (W : World) : (Instr.fieldAt 46 (.pointer (some ⟨g, off, none⟩)) 0).run Tryz.prog W = .ok (.pointer (some ⟨g, off, none⟩)) W := by go_simp
theorem fa1 (g off : Nat) (W : World) : (Instr.fieldAt 46 (.pointer (some ⟨g, off, none⟩)) 1).run Tryz.prog W = .ok (.pointer (some ⟨g, off + 4, none⟩)) W := by go_simp
theorem fa2 (g off : Nat) (W : World) : (Instr.fieldAt 46 (.pointer (some ⟨g, off, none⟩)) 2).run Tryz.prog W = .ok (.pointer (some ⟨g, off + 8, none⟩)) W := by go_simp
end Go.Proofs.YtcfogpeinjehbaaGreatDoor
end

section
namespace Go.Proofs.YtcfogpeinjehbaaGreatDoor
open Go Go.Proofs Go.RowKit F5
theorem uV_okz (x y z : Fp) : (Tryz.prog.info? 46).map (·.size) = some (uV x y z).size ∧ (uV x y z).all (·.oneCell') = true ∧ (uV 0 0 0).size = (uV x y z).size := uV_ok x y z
theorem two_blks (w : World) (a b : Array Value) (T U : TypeId) : Blk ((w.alloc (.cells a T)).alloc (.cells b U)) w.heap.size T a ∧ Blk ((w.alloc (.cells a T)).alloc (.cells b U)) (w.heap.size + 1) U b ∧ Below w.heap.size w ((w.alloc (.cells a T)).alloc (.cells b U)) := by
 refine ⟨(Blk.new w T a).alloc _, ?_, ((Below.refl _ _).alloc (Nat.le_refl _) _).alloc (by simp) _⟩
 have := Blk.new (w.alloc (.cells a T)) U b
 rwa [show (w.alloc (.cells a T)).heap.size = w.heap.size + 1 by simp] at this
theorem three_blksT (w : World) (a b c : Array Value) (T U S : TypeId) : Blk (((w.alloc (.cells a T)).alloc (.cells b U)).alloc (.cells c S)) w.heap.size T a ∧ Blk (((w.alloc (.cells a T)).alloc (.cells b U)).alloc (.cells c S)) (w.heap.size + 1) U b ∧ Blk (((w.alloc (.cells a T)).alloc (.cells b U)).alloc (.cells c S)) (w.heap.size + 2) S c ∧ Below w.heap.size w (((w.alloc (.cells a T)).alloc (.cells b U)).alloc (.cells c S)) := by
 obtain ⟨h1, h2, h3⟩ := two_blks w a b T U
 refine ⟨h1.alloc _, h2.alloc _, ?_, h3.alloc (by simp; omega) _⟩
 have := Blk.new ((w.alloc (.cells a T)).alloc (.cells b U)) S c
 rwa [show ((w.alloc (.cells a T)).alloc (.cells b U)).heap.size = w.heap.size + 2 by simp] at this
set_option maxHeartbeats 4000000 in
set_option maxRecDepth 100000 in
theorem twiceP (x y zz xx yy z2 cr ux zd uy c2 r1 s1 r2 r3 : Fp) (hxx : x * x = xx) (hyy : y * y = yy) (hzz : zz * zz = z2) (hcr : x * y = cr) (hux : yy - xx = ux) (hzd : z2 + z2 = zd) (huy : zd - ux = uy) (hc2 : cr + cr = c2) (h1 : c2 * uy = r1) (hs1 : yy + xx = s1) (h2 : s1 * ux = r2) (h3 : ux * uy = r3) (w : World) (hP : PrimeAt w) :
  Calls Tryz.prog 78 #[.agg (uV x y zz)] w fun e w' => e = .returned (.agg (uV r1 r2 r3)) ∧ Below w.heap.size w w' := by
 have MUL (p q r : Fp) (h : p * q = r) : Hid (∀ V, PrimeAt V → Calls Tryz.prog 37 #[.agg (cE p), .agg (cE q)] V fun e w' => e = .returned (.agg (cE r)) ∧ Below V.heap.size V w') := hid fun V hV => by rw [← h]; exact eMul _ _ V hV
 have SUB (p q r : Fp) (h : p - q = r) : Hid (∀ V, PrimeAt V → Calls Tryz.prog 67 #[.agg (cE p), .agg (cE q)] V fun e w' => e = .returned (.agg (cE r)) ∧ Below V.heap.size V w') := hid fun V hV => by rw [← h]; exact eSub _ _ V hV
 have ADD (p q r : Fp) (h : p + q = r) : Hid (∀ V, PrimeAt V → Calls Tryz.prog 66 #[.agg (cE p), .agg (cE q)] V fun e w' => e = .returned (.agg (cE r)) ∧ Below V.heap.size V w') := hid fun V hV => by rw [← h]; exact eAdd _ _ V hV
 have C1 := MUL _ _ _ hxx
 have C2 := MUL _ _ _ hyy
 have C3 := MUL _ _ _ hzz
 have C4 := MUL _ _ _ hcr
 have C5 := SUB _ _ _ hux
 have C6 := ADD _ _ _ hzd
 have C7 := SUB _ _ _ huy
 have C8 := ADD _ _ _ hc2
 have C9 := MUL _ _ _ h1
 have C10 := ADD _ _ _ hs1
 have C11 := MUL _ _ _ h2
 have C12 := MUL _ _ _ h3
 clear MUL SUB ADD hxx hyy hzz hcr hux hzd huy hc2 h1 hs1 h2 h3
 obtain ⟨z, hz⟩ : ∃ z, Hid (z = uV 0 0 0) := ⟨_, hid rfl⟩
 have hz0 : ∀ W, (zeroValue 46).run Tryz.prog W = .ok (.agg z) W := by rw [hz.out]; exact zeroU
 obtain ⟨zf, hzf⟩ : ∃ z, Hid (z = cE 0) := ⟨_, hid rfl⟩
 have hzf0 : ∀ W, (zeroValue 44).run Tryz.prog W = .ok (.agg zf) W := by rw [hzf.out]; exact zeroE
 have ofE : Hid (∀ a : Fp, zf.size = (cE a).size) := hid (fun a => by rw [hzf.out]; exact cE_sz _ _)
 have hBu := hid (built_U r1 r2 r3)
 have ok := hid (uV_okz r1 r2 r3)
 rw [← hz.out] at ok
 generalize uV r1 r2 r3 = R at *
 have oA := hid (uV_okz x y zz)
 have KX := hid (fun (V : World) g T (h : Blk V g T (uV x y zz)) => uV_cell_x h)
 have KY := hid (fun (V : World) g T (h : Blk V g T (uV x y zz)) => uV_cell_y h)
 have KZ := hid (fun (V : World) g T (h : Blk V g T (uV x y zz)) => uV_cell_z h)
 generalize uV x y zz = A at *
 obtain ⟨b1, b2, hb⟩ := two_blks w A z 46 46
 have HP := hid hP
 clear hz hzf hP
 go_enter Tryz.func78, Tryz.ntmps78
 go_upto_region 1 with fail
 generalize (w.alloc (.cells A 46)).alloc (.cells z 46) = W at *
 have X1 := hid b1
 have XR := hid b2
 have HB := hid hb
 clear b1 b2 hb
 (try simp only [Act.put, zA, zB, zC])
 have PV : Hid (∀ V, Below W.heap.size W V → PrimeAt V) := hid fun V hV => HP.out.old (HB.out.trans (hV.mono HB.out.size))
 have DD1 : Hid (∀ V, Below W.heap.size W V → Below W.heap.size W V) := hid fun _ h => h
 refine wp_sched [(9, .is (.pointer (some ⟨w.heap.size, 0, none⟩))), (10, .is (.agg (cE x))), (11, .is (.pointer (some ⟨w.heap.size, 0, none⟩))), (12, .is (.agg (cE x))), (13, .is (.agg (cE xx))), (14, .is (.pointer (some ⟨w.heap.size, 0 + 4, none⟩))), (15, .is (.agg (cE y))), (16, .is (.pointer (some ⟨w.heap.size, 0 + 4, none⟩))), (17, .is (.agg (cE y))), (18, .is (.agg (cE yy))), (19, .is (.pointer (some ⟨w.heap.size, 0 + 8, none⟩))), (20, .is (.agg (cE zz))), (21, .is (.pointer (some ⟨w.heap.size, 0 + 8, none⟩))), (22, .is (.agg (cE zz))), (23, .is (.agg (cE z2))), (3, .fresh 44 zf), (4, .fresh 44 zf), (5, .fresh 44 zf)] (fun V => Below W.heap.size W V) (by kernel_rfl) (by kernel_rfl) (by kernel_rfl) (by kernel_rfl) DD1.out ?hg1 _ (by rfl) ?hf1
 case hg1 =>
  refine goods_is (fun a V h hS K Q hK => op_quiet (quiet_field _ (.tmp 1) 0 _ _ (look_at h 1) (fa0 _ _) rfl) hK) ?_
  refine goods_is (fun a V h hS K Q hK => op_quiet (quiet_load_off 44 (.tmp 9) _ _ (look_at h 9) (cE x) _ (KX.out _ _ _ (X1.out.old hS)) Tryz.underlying44 rfl (cE_ok _).1 (by kernel_rfl)) hK) ?_
  refine goods_is (fun a V h hS K Q hK => op_quiet (quiet_field _ (.tmp 1) 0 _ _ (look_at h 1) (fa0 _ _) rfl) hK) ?_
  refine goods_is (fun a V h hS K Q hK => op_quiet (quiet_load_off 44 (.tmp 11) _ _ (look_at h 11) (cE x) _ (KX.out _ _ _ (X1.out.old hS)) Tryz.underlying44 rfl (cE_ok _).1 (by kernel_rfl)) hK) ?_
  refine goods_is (fun a V h hS K Q hK => op_callK #[.tmp 10, .tmp 12] #[.agg (cE x), .agg (cE x)] (map2 (look_at h 10) (look_at h 12)) (C1.out V (PV.out V hS)) hK) ?_
  refine goods_is (fun a V h hS K Q hK => op_quiet (quiet_field _ (.tmp 1) 1 _ _ (look_at h 1) (fa1 _ _) rfl) hK) ?_
  refine goods_is (fun a V h hS K Q hK => op_quiet (quiet_load_off 44 (.tmp 14) _ _ (look_at h 14) (cE y) _ (KY.out _ _ _ (X1.out.old hS)) Tryz.underlying44 rfl (cE_ok _).1 (by kernel_rfl)) hK) ?_
  refine goods_is (fun a V h hS K Q hK => op_quiet (quiet_field _ (.tmp 1) 1 _ _ (look_at h 1) (fa1 _ _) rfl) hK) ?_
  refine goods_is (fun a V h hS K Q hK => op_quiet (quiet_load_off 44 (.tmp 16) _ _ (look_at h 16) (cE y) _ (KY.out _ _ _ (X1.out.old hS)) Tryz.underlying44 rfl (cE_ok _).1 (by kernel_rfl)) hK) ?_
  refine goods_is (fun a V h hS K Q hK => op_callK #[.tmp 15, .tmp 17] #[.agg (cE y), .agg (cE y)] (map2 (look_at h 15) (look_at h 17)) (C2.out V (PV.out V hS)) hK) ?_
  refine goods_is (fun a V h hS K Q hK => op_quiet (quiet_field _ (.tmp 1) 2 _ _ (look_at h 1) (fa2 _ _) rfl) hK) ?_
  refine goods_is (fun a V h hS K Q hK => op_quiet (quiet_load_off 44 (.tmp 19) _ _ (look_at h 19) (cE zz) _ (KZ.out _ _ _ (X1.out.old hS)) Tryz.underlying44 rfl (cE_ok _).1 (by kernel_rfl)) hK) ?_
  refine goods_is (fun a V h hS K Q hK => op_quiet (quiet_field _ (.tmp 1) 2 _ _ (look_at h 1) (fa2 _ _) rfl) hK) ?_
  refine goods_is (fun a V h hS K Q hK => op_quiet (quiet_load_off 44 (.tmp 21) _ _ (look_at h 21) (cE zz) _ (KZ.out _ _ _ (X1.out.old hS)) Tryz.underlying44 rfl (cE_ok _).1 (by kernel_rfl)) hK) ?_
  refine goods_is (fun a V h hS K Q hK => op_callK #[.tmp 20, .tmp 22] #[.agg (cE zz), .agg (cE zz)] (map2 (look_at h 20) (look_at h 22)) (C3.out V (PV.out V hS)) hK) ?_
  refine goods_fresh (by kernel_rfl) hzf0 ?_
  refine goods_fresh (by kernel_rfl) hzf0 ?_
  refine goods_fresh (by kernel_rfl) hzf0 ?_
  exact goods_nil
 case hf1 =>
 intro g V hF
 obtain ⟨lg3, bg3⟩ := hF.blk 15 _ _ rfl
 obtain ⟨lg4, bg4⟩ := hF.blk 16 _ _ rfl
 obtain ⟨lg5, bg5⟩ := hF.blk 17 _ _ rfl
 have ng3_4 := hF.ne 15 16 _ _ _ _ rfl rfl (by decide)
 have ng3_5 := hF.ne 15 17 _ _ _ _ rfl rfl (by decide)
 have ng4_3 := hF.ne 16 15 _ _ _ _ rfl rfl (by decide)
 have ng4_5 := hF.ne 16 17 _ _ _ _ rfl rfl (by decide)
 have ng5_3 := hF.ne 17 15 _ _ _ _ rfl rfl (by decide)
 have ng5_4 := hF.ne 17 16 _ _ _ _ rfl rfl (by decide)
 have hbf := hF.below
 clear hF
 simp only [finL, Pl.val, zA, zB, zC]
 generalize g 15 = g3 at *
 generalize g 16 = g4 at *
 generalize g 17 = g5 at *
 refine wpList_store_row rfl 44 (.tmp 3) (.tmp 13) rfl g3 (cE xx) rfl rfl 44 zf bg3 (cE_ok _).1 (ofE.out _) (cE_ok _).2 ?_
 refine wpList_store_row rfl 44 (.tmp 4) (.tmp 18) rfl g4 (cE yy) rfl rfl 44 zf (bg4.rowFar ng4_3 (cE xx)) (cE_ok _).1 (ofE.out _) (cE_ok _).2 ?_
 refine wpList_store_row rfl 44 (.tmp 5) (.tmp 23) rfl g5 (cE z2) rfl rfl 44 zf ((bg5.rowFar ng5_3 (cE xx)).rowFar ng5_4 (cE yy)) (cE_ok _).1 (ofE.out _) (cE_ok _).2 ?_
 have X1_1 := hid ((((X1.out.old hbf).rowFar (Nat.ne_of_lt (Nat.lt_of_lt_of_le X1.out.lt lg3)) (cE xx)).rowFar (Nat.ne_of_lt (Nat.lt_of_lt_of_le X1.out.lt lg4)) (cE yy)).rowFar (Nat.ne_of_lt (Nat.lt_of_lt_of_le X1.out.lt lg5)) (cE z2))
 have XR_1 := hid ((((XR.out.old hbf).rowFar (Nat.ne_of_lt (Nat.lt_of_lt_of_le XR.out.lt lg3)) (cE xx)).rowFar (Nat.ne_of_lt (Nat.lt_of_lt_of_le XR.out.lt lg4)) (cE yy)).rowFar (Nat.ne_of_lt (Nat.lt_of_lt_of_le XR.out.lt lg5)) (cE z2))
 have XX_1 := hid (((bg3.row (cE xx)).rowFar ng3_4 (cE yy)).rowFar ng3_5 (cE z2))
 have LG3 := hid (Nat.le_trans HB.out.size lg3)
 have YY_1 := hid (((bg4.rowFar ng4_3 (cE xx)).row (cE yy)).rowFar ng4_5 (cE z2))
 have LG4 := hid (Nat.le_trans HB.out.size lg4)
 have ZZ_1 := hid (((bg5.rowFar ng5_3 (cE xx)).rowFar ng5_4 (cE yy)).row (cE z2))
 have LG5 := hid (Nat.le_trans HB.out.size lg5)
 have HB_1 := hid (below_row (g := g5) (below_row (g := g4) (below_row (g := g3) (HB.out.trans (hbf.mono HB.out.size)) (Nat.le_trans HB.out.size lg3) (cE xx)) (Nat.le_trans HB.out.size lg4) (cE yy)) (Nat.le_trans HB.out.size lg5) (cE z2))
 clear X1 XR HB PV lg3 lg4 lg5 bg3 bg4 bg5 ng3_4 ng3_5 ng4_3 ng4_5 ng5_3 ng5_4 hbf DD1
 generalize ((V.setRow g3 (cE xx)).setRow g4 (cE yy)).setRow g5 (cE z2) = W1 at *
 have PV : Hid (∀ V, Below W1.heap.size W1 V → PrimeAt V) := hid fun V hV => HP.out.old (HB_1.out.trans (hV.mono HB_1.out.size))
 go_upto_region 2 with fail
 (try simp only [Act.put, zA, zB, zC])
 have DD2 : Hid (∀ V, Below W1.heap.size W1 V → Below W1.heap.size W1 V) := hid fun _ h => h
 refine wp_sched [(24, .is (.pointer (some ⟨w.heap.size, 0, none⟩))), (25, .is (.agg (cE x))), (26, .is (.pointer (some ⟨w.heap.size, 0 + 4, none⟩))), (27, .is (.agg (cE y))), (28, .is (.agg (cE cr))), (6, .fresh 44 zf)] (fun V => Below W1.heap.size W1 V) (by kernel_rfl) (by kernel_rfl) (by kernel_rfl) (by kernel_rfl) DD2.out ?hg2 _ (by rfl) ?hf2
 case hg2 =>
  refine goods_is (fun a V h hS K Q hK => op_quiet (quiet_field _ (.tmp 1) 0 _ _ (look_at h 1) (fa0 _ _) rfl) hK) ?_
  refine goods_is (fun a V h hS K Q hK => op_quiet (quiet_load_off 44 (.tmp 24) _ _ (look_at h 24) (cE x) _ (KX.out _ _ _ (X1_1.out.old hS)) Tryz.underlying44 rfl (cE_ok _).1 (by kernel_rfl)) hK) ?_
  refine goods_is (fun a V h hS K Q hK => op_quiet (quiet_field _ (.tmp 1) 1 _ _ (look_at h 1) (fa1 _ _) rfl) hK) ?_
  refine goods_is (fun a V h hS K Q hK => op_quiet (quiet_load_off 44 (.tmp 26) _ _ (look_at h 26) (cE y) _ (KY.out _ _ _ (X1_1.out.old hS)) Tryz.underlying44 rfl (cE_ok _).1 (by kernel_rfl)) hK) ?_
  refine goods_is (fun a V h hS K Q hK => op_callK #[.tmp 25, .tmp 27] #[.agg (cE x), .agg (cE y)] (map2 (look_at h 25) (look_at h 27)) (C4.out V (PV.out V hS)) hK) ?_
  refine goods_fresh (by kernel_rfl) hzf0 ?_
  exact goods_nil
 case hf2 =>
 intro g V hF
 obtain ⟨lg6, bg6⟩ := hF.blk 5 _ _ rfl
 have hbf := hF.below
 clear hF
 simp only [finL, Pl.val, zA, zB, zC]
 generalize g 5 = g6 at *
 refine wpList_store_row rfl 44 (.tmp 6) (.tmp 28) rfl g6 (cE cr) rfl rfl 44 zf bg6 (cE_ok _).1 (ofE.out _) (cE_ok _).2 ?_
 have XR_2 := hid ((XR_1.out.old hbf).rowFar (Nat.ne_of_lt (Nat.lt_of_lt_of_le XR_1.out.lt lg6)) (cE cr))
 have XX_2 := hid ((XX_1.out.old hbf).rowFar (Nat.ne_of_lt (Nat.lt_of_lt_of_le XX_1.out.lt lg6)) (cE cr))
 have YY_2 := hid ((YY_1.out.old hbf).rowFar (Nat.ne_of_lt (Nat.lt_of_lt_of_le YY_1.out.lt lg6)) (cE cr))
 have ZZ_2 := hid ((ZZ_1.out.old hbf).rowFar (Nat.ne_of_lt (Nat.lt_of_lt_of_le ZZ_1.out.lt lg6)) (cE cr))
 have CR_2 := hid (bg6.row (cE cr))
 have LG6 := hid (Nat.le_trans HB_1.out.size lg6)
 have HB_2 := hid (below_row (g := g6) (HB_1.out.trans (hbf.mono HB_1.out.size)) (Nat.le_trans HB_1.out.size lg6) (cE cr))
 clear X1_1 XR_1 XX_1 YY_1 ZZ_1 HB_1 PV lg6 bg6 hbf DD2
 generalize V.setRow g6 (cE cr) = W2 at *
 have PV : Hid (∀ V, Below W2.heap.size W2 V → PrimeAt V) := hid fun V hV => HP.out.old (HB_2.out.trans (hV.mono HB_2.out.size))
 go_upto_region 3 with fail
 (try simp only [Act.put, zA, zB, zC])
 have DD3 : Hid (∀ V, Below W2.heap.size W2 V → Below W2.heap.size W2 V) := hid fun _ h => h
 refine wp_sched [(29, .is (.agg (cE yy))), (30, .is (.agg (cE xx))), (31, .is (.agg (cE ux))), (7, .fresh 44 zf)] (fun V => Below W2.heap.size W2 V) (by kernel_rfl) (by kernel_rfl) (by kernel_rfl) (by kernel_rfl) DD3.out ?hg3 _ (by rfl) ?hf3
 case hg3 =>
  refine goods_is (fun a V h hS K Q hK => op_quiet (quiet_load_row 44 (.tmp 4) _ (look_at h 4) 44 (cE yy) _ (YY_2.out.old hS) Tryz.underlying44 rfl (cE_ok _).1 (by kernel_rfl)) hK) ?_
  refine goods_is (fun a V h hS K Q hK => op_quiet (quiet_load_row 44 (.tmp 3) _ (look_at h 3) 44 (cE xx) _ (XX_2.out.old hS) Tryz.underlying44 rfl (cE_ok _).1 (by kernel_rfl)) hK) ?_
  refine goods_is (fun a V h hS K Q hK => op_callK #[.tmp 29, .tmp 30] #[.agg (cE yy), .agg (cE xx)] (map2 (look_at h 29) (look_at h 30)) (C5.out V (PV.out V hS)) hK) ?_
  refine goods_fresh (by kernel_rfl) hzf0 ?_
  exact goods_nil
 case hf3 =>
 intro g V hF
 obtain ⟨lg7, bg7⟩ := hF.blk 3 _ _ rfl
 have hbf := hF.below
 clear hF
 simp only [finL, Pl.val, zA, zB, zC]
 generalize g 3 = g7 at *
 refine wpList_store_row rfl 44 (.tmp 7) (.tmp 31) rfl g7 (cE ux) rfl rfl 44 zf bg7 (cE_ok _).1 (ofE.out _) (cE_ok _).2 ?_
 have XR_3 := hid ((XR_2.out.old hbf).rowFar (Nat.ne_of_lt (Nat.lt_of_lt_of_le XR_2.out.lt lg7)) (cE ux))
 have XX_3 := hid ((XX_2.out.old hbf).rowFar (Nat.ne_of_lt (Nat.lt_of_lt_of_le XX_2.out.lt lg7)) (cE ux))
 have YY_3 := hid ((YY_2.out.old hbf).rowFar (Nat.ne_of_lt (Nat.lt_of_lt_of_le YY_2.out.lt lg7)) (cE ux))
 have ZZ_3 := hid ((ZZ_2.out.old hbf).rowFar (Nat.ne_of_lt (Nat.lt_of_lt_of_le ZZ_2.out.lt lg7)) (cE ux))
 have CR_3 := hid ((CR_2.out.old hbf).rowFar (Nat.ne_of_lt (Nat.lt_of_lt_of_le CR_2.out.lt lg7)) (cE ux))
 have UX_3 := hid (bg7.row (cE ux))
 have LG7 := hid (Nat.le_trans HB_2.out.size lg7)
 have HB_3 := hid (below_row (g := g7) (HB_2.out.trans (hbf.mono HB_2.out.size)) (Nat.le_trans HB_2.out.size lg7) (cE ux))
 clear XR_2 XX_2 YY_2 ZZ_2 CR_2 HB_2 PV lg7 bg7 hbf DD3
 generalize V.setRow g7 (cE ux) = W3 at *
 have PV : Hid (∀ V, Below W3.heap.size W3 V → PrimeAt V) := hid fun V hV => HP.out.old (HB_3.out.trans (hV.mono HB_3.out.size))
 go_upto_region 4 with fail
 (try simp only [Act.put, zA, zB, zC])
 have DD4 : Hid (∀ V, Below W3.heap.size W3 V → Below W3.heap.size W3 V) := hid fun _ h => h
 refine wp_sched [(32, .is (.agg (cE z2))), (33, .is (.agg (cE z2))), (34, .is (.agg (cE zd))), (35, .is (.agg (cE ux))), (36, .is (.agg (cE uy))), (8, .fresh 44 zf)] (fun V => Below W3.heap.size W3 V) (by kernel_rfl) (by kernel_rfl) (by kernel_rfl) (by kernel_rfl) DD4.out ?hg4 _ (by rfl) ?hf4
 case hg4 =>
  refine goods_is (fun a V h hS K Q hK => op_quiet (quiet_load_row 44 (.tmp 5) _ (look_at h 5) 44 (cE z2) _ (ZZ_3.out.old hS) Tryz.underlying44 rfl (cE_ok _).1 (by kernel_rfl)) hK) ?_
  refine goods_is (fun a V h hS K Q hK => op_quiet (quiet_load_row 44 (.tmp 5) _ (look_at h 5) 44 (cE z2) _ (ZZ_3.out.old hS) Tryz.underlying44 rfl (cE_ok _).1 (by kernel_rfl)) hK) ?_
  refine goods_is (fun a V h hS K Q hK => op_callK #[.tmp 32, .tmp 33] #[.agg (cE z2), .agg (cE z2)] (map2 (look_at h 32) (look_at h 33)) (C6.out V (PV.out V hS)) hK) ?_
  refine goods_is (fun a V h hS K Q hK => op_quiet (quiet_load_row 44 (.tmp 7) _ (look_at h 7) 44 (cE ux) _ (UX_3.out.old hS) Tryz.underlying44 rfl (cE_ok _).1 (by kernel_rfl)) hK) ?_
  refine goods_is (fun a V h hS K Q hK => op_callK #[.tmp 34, .tmp 35] #[.agg (cE zd), .agg (cE ux)] (map2 (look_at h 34) (look_at h 35)) (C7.out V (PV.out V hS)) hK) ?_
  refine goods_fresh (by kernel_rfl) hzf0 ?_
  exact goods_nil
 case hf4 =>
 intro g V hF
 obtain ⟨lg8, bg8⟩ := hF.blk 5 _ _ rfl
 have hbf := hF.below
 clear hF
 simp only [finL, Pl.val, zA, zB, zC]
 generalize g 5 = g8 at *
 refine wpList_store_row rfl 44 (.tmp 8) (.tmp 36) rfl g8 (cE uy) rfl rfl 44 zf bg8 (cE_ok _).1 (ofE.out _) (cE_ok _).2 ?_
 have XR_4 := hid ((XR_3.out.old hbf).rowFar (Nat.ne_of_lt (Nat.lt_of_lt_of_le XR_3.out.lt lg8)) (cE uy))
 have XX_4 := hid ((XX_3.out.old hbf).rowFar (Nat.ne_of_lt (Nat.lt_of_lt_of_le XX_3.out.lt lg8)) (cE uy))
 have YY_4 := hid ((YY_3.out.old hbf).rowFar (Nat.ne_of_lt (Nat.lt_of_lt_of_le YY_3.out.lt lg8)) (cE uy))
 have CR_4 := hid ((CR_3.out.old hbf).rowFar (Nat.ne_of_lt (Nat.lt_of_lt_of_le CR_3.out.lt lg8)) (cE uy))
 have UX_4 := hid ((UX_3.out.old hbf).rowFar (Nat.ne_of_lt (Nat.lt_of_lt_of_le UX_3.out.lt lg8)) (cE uy))
 have UY_4 := hid (bg8.row (cE uy))
 have LG8 := hid (Nat.le_trans HB_3.out.size lg8)
 have HB_4 := hid (below_row (g := g8) (HB_3.out.trans (hbf.mono HB_3.out.size)) (Nat.le_trans HB_3.out.size lg8) (cE uy))
 clear XR_3 XX_3 YY_3 ZZ_3 CR_3 UX_3 HB_3 PV lg8 bg8 hbf DD4
 generalize V.setRow g8 (cE uy) = W4 at *
 have PV : Hid (∀ V, Below W4.heap.size W4 V → PrimeAt V) := hid fun V hV => HP.out.old (HB_4.out.trans (hV.mono HB_4.out.size))
 go_upto_region 5 with fail
 (try simp only [Act.put, zA, zB, zC])
 have DD5 : Hid (∀ V, Below W4.heap.size W4 V → Below W4.heap.size W4 V) := hid fun _ h => h
 refine wp_sched [(37, .is (.agg (cE cr))), (38, .is (.agg (cE cr))), (39, .is (.agg (cE c2))), (40, .is (.agg (cE uy))), (41, .is (.agg (cE r1))), (42, .is (.agg (cE yy))), (43, .is (.agg (cE xx))), (44, .is (.agg (cE s1))), (45, .is (.agg (cE ux))), (46, .is (.agg (cE r2))), (47, .is (.agg (cE ux))), (48, .is (.agg (cE uy))), (49, .is (.agg (cE r3))), (50, .is (.agg R))] (fun V => Below W4.heap.size W4 V) (by kernel_rfl) (by kernel_rfl) (by kernel_rfl) (by kernel_rfl) DD5.out ?hg5 _ (by rfl) ?hf5
 case hg5 =>
  refine goods_is (fun a V h hS K Q hK => op_quiet (quiet_load_row 44 (.tmp 6) _ (look_at h 6) 44 (cE cr) _ (CR_4.out.old hS) Tryz.underlying44 rfl (cE_ok _).1 (by kernel_rfl)) hK) ?_
  refine goods_is (fun a V h hS K Q hK => op_quiet (quiet_load_row 44 (.tmp 6) _ (look_at h 6) 44 (cE cr) _ (CR_4.out.old hS) Tryz.underlying44 rfl (cE_ok _).1 (by kernel_rfl)) hK) ?_
  refine goods_is (fun a V h hS K Q hK => op_callK #[.tmp 37, .tmp 38] #[.agg (cE cr), .agg (cE cr)] (map2 (look_at h 37) (look_at h 38)) (C8.out V (PV.out V hS)) hK) ?_
  refine goods_is (fun a V h hS K Q hK => op_quiet (quiet_load_row 44 (.tmp 8) _ (look_at h 8) 44 (cE uy) _ (UY_4.out.old hS) Tryz.underlying44 rfl (cE_ok _).1 (by kernel_rfl)) hK) ?_
  refine goods_is (fun a V h hS K Q hK => op_callK #[.tmp 39, .tmp 40] #[.agg (cE c2), .agg (cE uy)] (map2 (look_at h 39) (look_at h 40)) (C9.out V (PV.out V hS)) hK) ?_
  refine goods_is (fun a V h hS K Q hK => op_quiet (quiet_load_row 44 (.tmp 4) _ (look_at h 4) 44 (cE yy) _ (YY_4.out.old hS) Tryz.underlying44 rfl (cE_ok _).1 (by kernel_rfl)) hK) ?_
  refine goods_is (fun a V h hS K Q hK => op_quiet (quiet_load_row 44 (.tmp 3) _ (look_at h 3) 44 (cE xx) _ (XX_4.out.old hS) Tryz.underlying44 rfl (cE_ok _).1 (by kernel_rfl)) hK) ?_
  refine goods_is (fun a V h hS K Q hK => op_callK #[.tmp 42, .tmp 43] #[.agg (cE yy), .agg (cE xx)] (map2 (look_at h 42) (look_at h 43)) (C10.out V (PV.out V hS)) hK) ?_
  refine goods_is (fun a V h hS K Q hK => op_quiet (quiet_load_row 44 (.tmp 7) _ (look_at h 7) 44 (cE ux) _ (UX_4.out.old hS) Tryz.underlying44 rfl (cE_ok _).1 (by kernel_rfl)) hK) ?_
  refine goods_is (fun a V h hS K Q hK => op_callK #[.tmp 44, .tmp 45] #[.agg (cE s1), .agg (cE ux)] (map2 (look_at h 44) (look_at h 45)) (C11.out V (PV.out V hS)) hK) ?_
  refine goods_is (fun a V h hS K Q hK => op_quiet (quiet_load_row 44 (.tmp 7) _ (look_at h 7) 44 (cE ux) _ (UX_4.out.old hS) Tryz.underlying44 rfl (cE_ok _).1 (by kernel_rfl)) hK) ?_
  refine goods_is (fun a V h hS K Q hK => op_quiet (quiet_load_row 44 (.tmp 8) _ (look_at h 8) 44 (cE uy) _ (UY_4.out.old hS) Tryz.underlying44 rfl (cE_ok _).1 (by kernel_rfl)) hK) ?_
  refine goods_is (fun a V h hS K Q hK => op_callK #[.tmp 47, .tmp 48] #[.agg (cE ux), .agg (cE uy)] (map2 (look_at h 47) (look_at h 48)) (C12.out V (PV.out V hS)) hK) ?_
  refine goods_is (fun a V h hS K Q hK => op_quiet (quiet_build_to 46 #[(0, .tmp 41), (1, .tmp 46), (2, .tmp 49)] (by kernel_rfl) [(0, .agg (cE r1)), (1, .agg (cE r2)), (2, .agg (cE r3))] (bld3 (look_at h 41) (look_at h 46) (look_at h 49)) R hBu.out) hK) ?_
  exact goods_nil
 case hf5 =>
 intro g V hF
 have hbf := hF.below
 clear hF
 simp only [finL, Pl.val, zA, zB, zC]
 refine wpList_store_row rfl 46 (.tmp 2) (.tmp 50) rfl (w.heap.size + 1) R rfl rfl 46 z (XR_4.out.old hbf) ok.out.1 ok.out.2.2 ok.out.2.1 ?_
 have XR_5 := hid ((XR_4.out.old hbf).row R)
 have HB_5 := hid (below_row (g := (w.heap.size + 1)) (HB_4.out.trans (hbf.mono HB_4.out.size)) (Nat.le_succ _) R)
 clear XR_4 XX_4 YY_4 CR_4 UX_4 UY_4 HB_4 PV hbf DD5
 generalize V.setRow (w.heap.size + 1) R = W5 at *
 have PV : Hid (∀ V, Below W5.heap.size W5 V → PrimeAt V) := hid fun V hV => HP.out.old (HB_5.out.trans (hV.mono HB_5.out.size))
 go_wp2_with fail
 refine bodyPost_ret (v := .agg R) ?_ rfl ⟨rfl, HB_5.out⟩
 exact results_cell_row Tryz.results78 _ _ (w.heap.size + 1) 46 _ (0, 0) _ rfl XR_5.out Tryz.underlying46 rfl ok.out.1
end Go.Proofs.YtcfogpeinjehbaaGreatDoor
end

section
namespace Go.Proofs.YtcfogpeinjehbaaGreatDoor
open Go Go.Proofs Go.RowKit F5
set_option maxHeartbeats 4000000 in
set_option maxRecDepth 100000 in
theorem addP (X1 Y1 Z1 X2 Y2 Z2 xx yy zz c1 c2 cr mo on ab pa ux uy m1 r1 s1 m2 r2 r3 : Fp)
  (hxx : X1 * X2 = xx) (hyy : Y1 * Y2 = yy) (hzz : Z1 * Z2 = zz) (hc1 : X1 * Y2 = c1) (hc2 : Y1 * X2 = c2) (hcr : c1 + c2 = cr) (hmo : zz * bF = mo) (hon : mo * zz = on) (hab : xx * yy = ab) (hpa : ab * aF = pa)
  (hux : on - pa = ux) (huy : on + pa = uy) (hm1 : mo * cr = m1) (h1 : m1 * uy = r1) (hs1 : yy + xx = s1) (hm2 : mo * s1 = m2) (h2 : m2 * ux = r2) (h3 : ux * uy = r3) (w : World) (hP : PrimeAt w) :
  Calls Tryz.prog 29 #[.agg (uV X1 Y1 Z1), .agg (uV X2 Y2 Z2)] w fun e w' => e = .returned (.agg (uV r1 r2 r3)) ∧ Below w.heap.size w w' := by
 have MUL (p q r : Fp) (h : p * q = r) : Hid (∀ V, PrimeAt V → Calls Tryz.prog 37 #[.agg (cE p), .agg (cE q)] V fun e w' => e = .returned (.agg (cE r)) ∧ Below V.heap.size V w') := hid fun V hV => by rw [← h]; exact eMul _ _ V hV
 have SUB (p q r : Fp) (h : p - q = r) : Hid (∀ V, PrimeAt V → Calls Tryz.prog 67 #[.agg (cE p), .agg (cE q)] V fun e w' => e = .returned (.agg (cE r)) ∧ Below V.heap.size V w') := hid fun V hV => by rw [← h]; exact eSub _ _ V hV
 have ADD (p q r : Fp) (h : p + q = r) : Hid (∀ V, PrimeAt V → Calls Tryz.prog 66 #[.agg (cE p), .agg (cE q)] V fun e w' => e = .returned (.agg (cE r)) ∧ Below V.heap.size V w') := hid fun V hV => by rw [← h]; exact eAdd _ _ V hV
 have COF (n : Nat) (hn : n < P) (hm : n < M) (a : Fp) (h : a.val = n) (i : Int) (hi : i = n) : Hid (∀ V, PrimeAt V → Calls Tryz.prog 36 #[.int .u64 i] V fun e w' => e = .returned (.agg (cE a)) ∧ Below V.heap.size V w') := hid fun V _ => eOf n hn hm a h i hi V
 have C1 := MUL _ _ _ hxx
 have C2 := MUL _ _ _ hyy
 have C3 := MUL _ _ _ hzz
 have C4 := MUL _ _ _ hc1
 have C5 := MUL _ _ _ hc2
 have C6 := ADD _ _ _ hcr
 have C7 := MUL _ _ _ hmo
 have C8 := MUL _ _ _ hon
 have C9 := MUL _ _ _ hab
 have C10 := MUL _ _ _ hpa
 have C11 := SUB _ _ _ hux
 have C12 := ADD _ _ _ huy
 have C13 := MUL _ _ _ hm1
 have C14 := MUL _ _ _ h1
 have C15 := ADD _ _ _ hs1
 have C16 := MUL _ _ _ hm2
 have C17 := MUL _ _ _ h2
 have C18 := MUL _ _ _ h3
 have CB := COF 121666 (by decide) (by decide) bF rfl 121666 rfl
 have CA := COF 121665 (by decide) (by decide) aF rfl 121665 rfl
 generalize aF = af at *
 generalize bF = bf at *
 clear MUL SUB ADD COF hxx hyy hzz hc1 hc2 hcr hmo hon hab hpa hux huy hm1 h1 hs1 hm2 h2 h3
 obtain ⟨z, hz⟩ : ∃ z, Hid (z = uV 0 0 0) := ⟨_, hid rfl⟩
 have hz0 : ∀ W, (zeroValue 46).run Tryz.prog W = .ok (.agg z) W := by rw [hz.out]; exact zeroU
 obtain ⟨zf, hzf⟩ : ∃ z, Hid (z = cE 0) := ⟨_, hid rfl⟩
 have hzf0 : ∀ W, (zeroValue 44).run Tryz.prog W = .ok (.agg zf) W := by rw [hzf.out]; exact zeroE
 have ofE : Hid (∀ a : Fp, zf.size = (cE a).size) := hid (fun a => by rw [hzf.out]; exact cE_sz _ _)
 have hBu := hid (built_U r1 r2 r3)
 have ok := hid (uV_okz r1 r2 r3)
 rw [← hz.out] at ok
 generalize uV r1 r2 r3 = R at *
 have KX := hid (fun (V : World) g T (h : Blk V g T (uV X1 Y1 Z1)) => uV_cell_x h)
 have KY := hid (fun (V : World) g T (h : Blk V g T (uV X1 Y1 Z1)) => uV_cell_y h)
 have KZ := hid (fun (V : World) g T (h : Blk V g T (uV X1 Y1 Z1)) => uV_cell_z h)
 generalize uV X1 Y1 Z1 = A at *
 have LX := hid (fun (V : World) g T (h : Blk V g T (uV X2 Y2 Z2)) => uV_cell_x h)
 have LY := hid (fun (V : World) g T (h : Blk V g T (uV X2 Y2 Z2)) => uV_cell_y h)
 have LZ := hid (fun (V : World) g T (h : Blk V g T (uV X2 Y2 Z2)) => uV_cell_z h)
 generalize uV X2 Y2 Z2 = B at *
 obtain ⟨b1, b2, b3, hb⟩ := three_blksT w A B z 46 46 46
 have HP := hid hP
 clear hz hzf hP
 go_enter Tryz.func29, Tryz.ntmps29
 go_upto_region 1 with fail
 generalize ((w.alloc (.cells A 46)).alloc (.cells B 46)).alloc (.cells z 46) = W at *
 have P1 := hid b1
 have P2 := hid b2
 have XR := hid b3
 have HB := hid hb
 clear b1 b2 b3 hb
 (try simp only [Act.put, zA, zB, zC])
 have PV : Hid (∀ V, Below W.heap.size W V → PrimeAt V) := hid fun V hV => HP.out.old (HB.out.trans (hV.mono HB.out.size))
 have DD1 : Hid (∀ V, Below W.heap.size W V → Below W.heap.size W V) := hid fun _ h => h
 refine wp_sched [(14, .is (.pointer (some ⟨w.heap.size, 0, none⟩))), (15, .is (.agg (cE X1))), (16, .is (.pointer (some ⟨(w.heap.size + 1), 0, none⟩))), (17, .is (.agg (cE X2))), (18, .is (.agg (cE xx))), (19, .is (.pointer (some ⟨w.heap.size, 0 + 4, none⟩))), (20, .is (.agg (cE Y1))), (21, .is (.pointer (some ⟨(w.heap.size + 1), 0 + 4, none⟩))), (22, .is (.agg (cE Y2))), (23, .is (.agg (cE yy))), (24, .is (.pointer (some ⟨w.heap.size, 0 + 8, none⟩))), (25, .is (.agg (cE Z1))), (26, .is (.pointer (some ⟨(w.heap.size + 1), 0 + 8, none⟩))), (27, .is (.agg (cE Z2))), (28, .is (.agg (cE zz))), (5, .fresh 44 zf), (6, .fresh 44 zf), (7, .fresh 44 zf)] (fun V => Below W.heap.size W V) (by kernel_rfl) (by kernel_rfl) (by kernel_rfl) (by kernel_rfl) DD1.out ?hg1 _ (by rfl) ?hf1
 case hg1 =>
  refine goods_is (fun a V h hS K Q hK => op_quiet (quiet_field _ (.tmp 2) 0 _ _ (look_at h 2) (fa0 _ _) rfl) hK) ?_
  refine goods_is (fun a V h hS K Q hK => op_quiet (quiet_load_off 44 (.tmp 14) _ _ (look_at h 14) (cE X1) _ (KX.out _ _ _ (P1.out.old hS)) Tryz.underlying44 rfl (cE_ok _).1 (by kernel_rfl)) hK) ?_
  refine goods_is (fun a V h hS K Q hK => op_quiet (quiet_field _ (.tmp 3) 0 _ _ (look_at h 3) (fa0 _ _) rfl) hK) ?_
  refine goods_is (fun a V h hS K Q hK => op_quiet (quiet_load_off 44 (.tmp 16) _ _ (look_at h 16) (cE X2) _ (LX.out _ _ _ (P2.out.old hS)) Tryz.underlying44 rfl (cE_ok _).1 (by kernel_rfl)) hK) ?_
  refine goods_is (fun a V h hS K Q hK => op_callK #[.tmp 15, .tmp 17] #[.agg (cE X1), .agg (cE X2)] (map2 (look_at h 15) (look_at h 17)) (C1.out V (PV.out V hS)) hK) ?_
  refine goods_is (fun a V h hS K Q hK => op_quiet (quiet_field _ (.tmp 2) 1 _ _ (look_at h 2) (fa1 _ _) rfl) hK) ?_
  refine goods_is (fun a V h hS K Q hK => op_quiet (quiet_load_off 44 (.tmp 19) _ _ (look_at h 19) (cE Y1) _ (KY.out _ _ _ (P1.out.old hS)) Tryz.underlying44 rfl (cE_ok _).1 (by kernel_rfl)) hK) ?_
  refine goods_is (fun a V h hS K Q hK => op_quiet (quiet_field _ (.tmp 3) 1 _ _ (look_at h 3) (fa1 _ _) rfl) hK) ?_
  refine goods_is (fun a V h hS K Q hK => op_quiet (quiet_load_off 44 (.tmp 21) _ _ (look_at h 21) (cE Y2) _ (LY.out _ _ _ (P2.out.old hS)) Tryz.underlying44 rfl (cE_ok _).1 (by kernel_rfl)) hK) ?_
  refine goods_is (fun a V h hS K Q hK => op_callK #[.tmp 20, .tmp 22] #[.agg (cE Y1), .agg (cE Y2)] (map2 (look_at h 20) (look_at h 22)) (C2.out V (PV.out V hS)) hK) ?_
  refine goods_is (fun a V h hS K Q hK => op_quiet (quiet_field _ (.tmp 2) 2 _ _ (look_at h 2) (fa2 _ _) rfl) hK) ?_
  refine goods_is (fun a V h hS K Q hK => op_quiet (quiet_load_off 44 (.tmp 24) _ _ (look_at h 24) (cE Z1) _ (KZ.out _ _ _ (P1.out.old hS)) Tryz.underlying44 rfl (cE_ok _).1 (by kernel_rfl)) hK) ?_
  refine goods_is (fun a V h hS K Q hK => op_quiet (quiet_field _ (.tmp 3) 2 _ _ (look_at h 3) (fa2 _ _) rfl) hK) ?_
  refine goods_is (fun a V h hS K Q hK => op_quiet (quiet_load_off 44 (.tmp 26) _ _ (look_at h 26) (cE Z2) _ (LZ.out _ _ _ (P2.out.old hS)) Tryz.underlying44 rfl (cE_ok _).1 (by kernel_rfl)) hK) ?_
  refine goods_is (fun a V h hS K Q hK => op_callK #[.tmp 25, .tmp 27] #[.agg (cE Z1), .agg (cE Z2)] (map2 (look_at h 25) (look_at h 27)) (C3.out V (PV.out V hS)) hK) ?_
  refine goods_fresh (by kernel_rfl) hzf0 ?_
  refine goods_fresh (by kernel_rfl) hzf0 ?_
  refine goods_fresh (by kernel_rfl) hzf0 ?_
  exact goods_nil
 case hf1 =>
 intro g V hF
 obtain ⟨lg5, bg5⟩ := hF.blk 15 _ _ rfl
 obtain ⟨lg6, bg6⟩ := hF.blk 16 _ _ rfl
 obtain ⟨lg7, bg7⟩ := hF.blk 17 _ _ rfl
 have ng5_6 := hF.ne 15 16 _ _ _ _ rfl rfl (by decide)
 have ng5_7 := hF.ne 15 17 _ _ _ _ rfl rfl (by decide)
 have ng6_5 := hF.ne 16 15 _ _ _ _ rfl rfl (by decide)
 have ng6_7 := hF.ne 16 17 _ _ _ _ rfl rfl (by decide)
 have ng7_5 := hF.ne 17 15 _ _ _ _ rfl rfl (by decide)
 have ng7_6 := hF.ne 17 16 _ _ _ _ rfl rfl (by decide)
 have hbf := hF.below
 clear hF
 simp only [finL, Pl.val, zA, zB, zC]
 generalize g 15 = g5 at *
 generalize g 16 = g6 at *
 generalize g 17 = g7 at *
 refine wpList_store_row rfl 44 (.tmp 5) (.tmp 18) rfl g5 (cE xx) rfl rfl 44 zf bg5 (cE_ok _).1 (ofE.out _) (cE_ok _).2 ?_
 refine wpList_store_row rfl 44 (.tmp 6) (.tmp 23) rfl g6 (cE yy) rfl rfl 44 zf (bg6.rowFar ng6_5 (cE xx)) (cE_ok _).1 (ofE.out _) (cE_ok _).2 ?_
 refine wpList_store_row rfl 44 (.tmp 7) (.tmp 28) rfl g7 (cE zz) rfl rfl 44 zf ((bg7.rowFar ng7_5 (cE xx)).rowFar ng7_6 (cE yy)) (cE_ok _).1 (ofE.out _) (cE_ok _).2 ?_
 have P1_1 := hid ((((P1.out.old hbf).rowFar (Nat.ne_of_lt (Nat.lt_of_lt_of_le P1.out.lt lg5)) (cE xx)).rowFar (Nat.ne_of_lt (Nat.lt_of_lt_of_le P1.out.lt lg6)) (cE yy)).rowFar (Nat.ne_of_lt (Nat.lt_of_lt_of_le P1.out.lt lg7)) (cE zz))
 have P2_1 := hid ((((P2.out.old hbf).rowFar (Nat.ne_of_lt (Nat.lt_of_lt_of_le P2.out.lt lg5)) (cE xx)).rowFar (Nat.ne_of_lt (Nat.lt_of_lt_of_le P2.out.lt lg6)) (cE yy)).rowFar (Nat.ne_of_lt (Nat.lt_of_lt_of_le P2.out.lt lg7)) (cE zz))
 have XR_1 := hid ((((XR.out.old hbf).rowFar (Nat.ne_of_lt (Nat.lt_of_lt_of_le XR.out.lt lg5)) (cE xx)).rowFar (Nat.ne_of_lt (Nat.lt_of_lt_of_le XR.out.lt lg6)) (cE yy)).rowFar (Nat.ne_of_lt (Nat.lt_of_lt_of_le XR.out.lt lg7)) (cE zz))
 have XX_1 := hid (((bg5.row (cE xx)).rowFar ng5_6 (cE yy)).rowFar ng5_7 (cE zz))
 have LG5 := hid (Nat.le_trans HB.out.size lg5)
 have YY_1 := hid (((bg6.rowFar ng6_5 (cE xx)).row (cE yy)).rowFar ng6_7 (cE zz))
 have LG6 := hid (Nat.le_trans HB.out.size lg6)
 have ZZ_1 := hid (((bg7.rowFar ng7_5 (cE xx)).rowFar ng7_6 (cE yy)).row (cE zz))
 have LG7 := hid (Nat.le_trans HB.out.size lg7)
 have HB_1 := hid (below_row (g := g7) (below_row (g := g6) (below_row (g := g5) (HB.out.trans (hbf.mono HB.out.size)) (Nat.le_trans HB.out.size lg5) (cE xx)) (Nat.le_trans HB.out.size lg6) (cE yy)) (Nat.le_trans HB.out.size lg7) (cE zz))
 clear P1 P2 XR HB PV lg5 lg6 lg7 bg5 bg6 bg7 ng5_6 ng5_7 ng6_5 ng6_7 ng7_5 ng7_6 hbf DD1
 generalize ((V.setRow g5 (cE xx)).setRow g6 (cE yy)).setRow g7 (cE zz) = W1 at *
 have PV : Hid (∀ V, Below W1.heap.size W1 V → PrimeAt V) := hid fun V hV => HP.out.old (HB_1.out.trans (hV.mono HB_1.out.size))
 go_upto_region 2 with fail
 (try simp only [Act.put, zA, zB, zC])
 have DD2 : Hid (∀ V, Below W1.heap.size W1 V → Below W1.heap.size W1 V) := hid fun _ h => h
 refine wp_sched [(29, .is (.pointer (some ⟨w.heap.size, 0, none⟩))), (30, .is (.agg (cE X1))), (31, .is (.pointer (some ⟨(w.heap.size + 1), 0 + 4, none⟩))), (32, .is (.agg (cE Y2))), (33, .is (.agg (cE c1))), (34, .is (.pointer (some ⟨w.heap.size, 0 + 4, none⟩))), (35, .is (.agg (cE Y1))), (36, .is (.pointer (some ⟨(w.heap.size + 1), 0, none⟩))), (37, .is (.agg (cE X2))), (38, .is (.agg (cE c2))), (39, .is (.agg (cE cr))), (8, .fresh 44 zf)] (fun V => Below W1.heap.size W1 V) (by kernel_rfl) (by kernel_rfl) (by kernel_rfl) (by kernel_rfl) DD2.out ?hg2 _ (by rfl) ?hf2
 case hg2 =>
  refine goods_is (fun a V h hS K Q hK => op_quiet (quiet_field _ (.tmp 2) 0 _ _ (look_at h 2) (fa0 _ _) rfl) hK) ?_
  refine goods_is (fun a V h hS K Q hK => op_quiet (quiet_load_off 44 (.tmp 29) _ _ (look_at h 29) (cE X1) _ (KX.out _ _ _ (P1_1.out.old hS)) Tryz.underlying44 rfl (cE_ok _).1 (by kernel_rfl)) hK) ?_
  refine goods_is (fun a V h hS K Q hK => op_quiet (quiet_field _ (.tmp 3) 1 _ _ (look_at h 3) (fa1 _ _) rfl) hK) ?_
  refine goods_is (fun a V h hS K Q hK => op_quiet (quiet_load_off 44 (.tmp 31) _ _ (look_at h 31) (cE Y2) _ (LY.out _ _ _ (P2_1.out.old hS)) Tryz.underlying44 rfl (cE_ok _).1 (by kernel_rfl)) hK) ?_
  refine goods_is (fun a V h hS K Q hK => op_callK #[.tmp 30, .tmp 32] #[.agg (cE X1), .agg (cE Y2)] (map2 (look_at h 30) (look_at h 32)) (C4.out V (PV.out V hS)) hK) ?_
  refine goods_is (fun a V h hS K Q hK => op_quiet (quiet_field _ (.tmp 2) 1 _ _ (look_at h 2) (fa1 _ _) rfl) hK) ?_
  refine goods_is (fun a V h hS K Q hK => op_quiet (quiet_load_off 44 (.tmp 34) _ _ (look_at h 34) (cE Y1) _ (KY.out _ _ _ (P1_1.out.old hS)) Tryz.underlying44 rfl (cE_ok _).1 (by kernel_rfl)) hK) ?_
  refine goods_is (fun a V h hS K Q hK => op_quiet (quiet_field _ (.tmp 3) 0 _ _ (look_at h 3) (fa0 _ _) rfl) hK) ?_
  refine goods_is (fun a V h hS K Q hK => op_quiet (quiet_load_off 44 (.tmp 36) _ _ (look_at h 36) (cE X2) _ (LX.out _ _ _ (P2_1.out.old hS)) Tryz.underlying44 rfl (cE_ok _).1 (by kernel_rfl)) hK) ?_
  refine goods_is (fun a V h hS K Q hK => op_callK #[.tmp 35, .tmp 37] #[.agg (cE Y1), .agg (cE X2)] (map2 (look_at h 35) (look_at h 37)) (C5.out V (PV.out V hS)) hK) ?_
  refine goods_is (fun a V h hS K Q hK => op_callK #[.tmp 33, .tmp 38] #[.agg (cE c1), .agg (cE c2)] (map2 (look_at h 33) (look_at h 38)) (C6.out V (PV.out V hS)) hK) ?_
  refine goods_fresh (by kernel_rfl) hzf0 ?_
  exact goods_nil
 case hf2 =>
 intro g V hF
 obtain ⟨lg8, bg8⟩ := hF.blk 11 _ _ rfl
 have hbf := hF.below
 clear hF
 simp only [finL, Pl.val, zA, zB, zC]
 generalize g 11 = g8 at *
 refine wpList_store_row rfl 44 (.tmp 8) (.tmp 39) rfl g8 (cE cr) rfl rfl 44 zf bg8 (cE_ok _).1 (ofE.out _) (cE_ok _).2 ?_
 have XR_2 := hid ((XR_1.out.old hbf).rowFar (Nat.ne_of_lt (Nat.lt_of_lt_of_le XR_1.out.lt lg8)) (cE cr))
 have XX_2 := hid ((XX_1.out.old hbf).rowFar (Nat.ne_of_lt (Nat.lt_of_lt_of_le XX_1.out.lt lg8)) (cE cr))
 have YY_2 := hid ((YY_1.out.old hbf).rowFar (Nat.ne_of_lt (Nat.lt_of_lt_of_le YY_1.out.lt lg8)) (cE cr))
 have ZZ_2 := hid ((ZZ_1.out.old hbf).rowFar (Nat.ne_of_lt (Nat.lt_of_lt_of_le ZZ_1.out.lt lg8)) (cE cr))
 have CR_2 := hid (bg8.row (cE cr))
 have LG8 := hid (Nat.le_trans HB_1.out.size lg8)
 have HB_2 := hid (below_row (g := g8) (HB_1.out.trans (hbf.mono HB_1.out.size)) (Nat.le_trans HB_1.out.size lg8) (cE cr))
 clear P1_1 P2_1 XR_1 XX_1 YY_1 ZZ_1 HB_1 PV lg8 bg8 hbf DD2
 generalize V.setRow g8 (cE cr) = W2 at *
 have PV : Hid (∀ V, Below W2.heap.size W2 V → PrimeAt V) := hid fun V hV => HP.out.old (HB_2.out.trans (hV.mono HB_2.out.size))
 go_upto_region 3 with fail
 (try simp only [Act.put, zA, zB, zC])
 have DD3 : Hid (∀ V, Below W2.heap.size W2 V → Below W2.heap.size W2 V) := hid fun _ h => h
 refine wp_sched [(40, .is (.agg (cE zz))), (41, .is (.agg (cE bf))), (42, .is (.agg (cE mo))), (9, .fresh 44 zf)] (fun V => Below W2.heap.size W2 V) (by kernel_rfl) (by kernel_rfl) (by kernel_rfl) (by kernel_rfl) DD3.out ?hg3 _ (by rfl) ?hf3
 case hg3 =>
  refine goods_is (fun a V h hS K Q hK => op_quiet (quiet_load_row 44 (.tmp 7) _ (look_at h 7) 44 (cE zz) _ (ZZ_2.out.old hS) Tryz.underlying44 rfl (cE_ok _).1 (by kernel_rfl)) hK) ?_
  refine goods_is (fun a V h hS K Q hK => op_callK #[.const (.int .u64 121666)] #[.int .u64 121666] (map1 rfl) (CB.out V (PV.out V hS)) hK) ?_
  refine goods_is (fun a V h hS K Q hK => op_callK #[.tmp 40, .tmp 41] #[.agg (cE zz), .agg (cE bf)] (map2 (look_at h 40) (look_at h 41)) (C7.out V (PV.out V hS)) hK) ?_
  refine goods_fresh (by kernel_rfl) hzf0 ?_
  exact goods_nil
 case hf3 =>
 intro g V hF
 obtain ⟨lg9, bg9⟩ := hF.blk 3 _ _ rfl
 have hbf := hF.below
 clear hF
 simp only [finL, Pl.val, zA, zB, zC]
 generalize g 3 = g9 at *
 refine wpList_store_row rfl 44 (.tmp 9) (.tmp 42) rfl g9 (cE mo) rfl rfl 44 zf bg9 (cE_ok _).1 (ofE.out _) (cE_ok _).2 ?_
 have XR_3 := hid ((XR_2.out.old hbf).rowFar (Nat.ne_of_lt (Nat.lt_of_lt_of_le XR_2.out.lt lg9)) (cE mo))
 have XX_3 := hid ((XX_2.out.old hbf).rowFar (Nat.ne_of_lt (Nat.lt_of_lt_of_le XX_2.out.lt lg9)) (cE mo))
 have YY_3 := hid ((YY_2.out.old hbf).rowFar (Nat.ne_of_lt (Nat.lt_of_lt_of_le YY_2.out.lt lg9)) (cE mo))
 have ZZ_3 := hid ((ZZ_2.out.old hbf).rowFar (Nat.ne_of_lt (Nat.lt_of_lt_of_le ZZ_2.out.lt lg9)) (cE mo))
 have CR_3 := hid ((CR_2.out.old hbf).rowFar (Nat.ne_of_lt (Nat.lt_of_lt_of_le CR_2.out.lt lg9)) (cE mo))
 have MO_3 := hid (bg9.row (cE mo))
 have LG9 := hid (Nat.le_trans HB_2.out.size lg9)
 have HB_3 := hid (below_row (g := g9) (HB_2.out.trans (hbf.mono HB_2.out.size)) (Nat.le_trans HB_2.out.size lg9) (cE mo))
 clear XR_2 XX_2 YY_2 ZZ_2 CR_2 HB_2 PV lg9 bg9 hbf DD3
 generalize V.setRow g9 (cE mo) = W3 at *
 have PV : Hid (∀ V, Below W3.heap.size W3 V → PrimeAt V) := hid fun V hV => HP.out.old (HB_3.out.trans (hV.mono HB_3.out.size))
 go_upto_region 4 with fail
 (try simp only [Act.put, zA, zB, zC])
 have DD4 : Hid (∀ V, Below W3.heap.size W3 V → Below W3.heap.size W3 V) := hid fun _ h => h
 refine wp_sched [(43, .is (.agg (cE mo))), (44, .is (.agg (cE zz))), (45, .is (.agg (cE on))), (46, .is (.agg (cE xx))), (47, .is (.agg (cE yy))), (48, .is (.agg (cE ab))), (49, .is (.agg (cE af))), (50, .is (.agg (cE pa))), (10, .fresh 44 zf), (11, .fresh 44 zf)] (fun V => Below W3.heap.size W3 V) (by kernel_rfl) (by kernel_rfl) (by kernel_rfl) (by kernel_rfl) DD4.out ?hg4 _ (by rfl) ?hf4
 case hg4 =>
  refine goods_is (fun a V h hS K Q hK => op_quiet (quiet_load_row 44 (.tmp 9) _ (look_at h 9) 44 (cE mo) _ (MO_3.out.old hS) Tryz.underlying44 rfl (cE_ok _).1 (by kernel_rfl)) hK) ?_
  refine goods_is (fun a V h hS K Q hK => op_quiet (quiet_load_row 44 (.tmp 7) _ (look_at h 7) 44 (cE zz) _ (ZZ_3.out.old hS) Tryz.underlying44 rfl (cE_ok _).1 (by kernel_rfl)) hK) ?_
  refine goods_is (fun a V h hS K Q hK => op_callK #[.tmp 43, .tmp 44] #[.agg (cE mo), .agg (cE zz)] (map2 (look_at h 43) (look_at h 44)) (C8.out V (PV.out V hS)) hK) ?_
  refine goods_is (fun a V h hS K Q hK => op_quiet (quiet_load_row 44 (.tmp 5) _ (look_at h 5) 44 (cE xx) _ (XX_3.out.old hS) Tryz.underlying44 rfl (cE_ok _).1 (by kernel_rfl)) hK) ?_
  refine goods_is (fun a V h hS K Q hK => op_quiet (quiet_load_row 44 (.tmp 6) _ (look_at h 6) 44 (cE yy) _ (YY_3.out.old hS) Tryz.underlying44 rfl (cE_ok _).1 (by kernel_rfl)) hK) ?_
  refine goods_is (fun a V h hS K Q hK => op_callK #[.tmp 46, .tmp 47] #[.agg (cE xx), .agg (cE yy)] (map2 (look_at h 46) (look_at h 47)) (C9.out V (PV.out V hS)) hK) ?_
  refine goods_is (fun a V h hS K Q hK => op_callK #[.const (.int .u64 121665)] #[.int .u64 121665] (map1 rfl) (CA.out V (PV.out V hS)) hK) ?_
  refine goods_is (fun a V h hS K Q hK => op_callK #[.tmp 48, .tmp 49] #[.agg (cE ab), .agg (cE af)] (map2 (look_at h 48) (look_at h 49)) (C10.out V (PV.out V hS)) hK) ?_
  refine goods_fresh (by kernel_rfl) hzf0 ?_
  refine goods_fresh (by kernel_rfl) hzf0 ?_
  exact goods_nil
 case hf4 =>
 intro g V hF
 obtain ⟨lg10, bg10⟩ := hF.blk 8 _ _ rfl
 obtain ⟨lg11, bg11⟩ := hF.blk 9 _ _ rfl
 have ng10_11 := hF.ne 8 9 _ _ _ _ rfl rfl (by decide)
 have ng11_10 := hF.ne 9 8 _ _ _ _ rfl rfl (by decide)
 have hbf := hF.below
 clear hF
 simp only [finL, Pl.val, zA, zB, zC]
 generalize g 8 = g10 at *
 generalize g 9 = g11 at *
 refine wpList_store_row rfl 44 (.tmp 10) (.tmp 45) rfl g10 (cE on) rfl rfl 44 zf bg10 (cE_ok _).1 (ofE.out _) (cE_ok _).2 ?_
 refine wpList_store_row rfl 44 (.tmp 11) (.tmp 50) rfl g11 (cE pa) rfl rfl 44 zf (bg11.rowFar ng11_10 (cE on)) (cE_ok _).1 (ofE.out _) (cE_ok _).2 ?_
 have XR_4 := hid (((XR_3.out.old hbf).rowFar (Nat.ne_of_lt (Nat.lt_of_lt_of_le XR_3.out.lt lg10)) (cE on)).rowFar (Nat.ne_of_lt (Nat.lt_of_lt_of_le XR_3.out.lt lg11)) (cE pa))
 have XX_4 := hid (((XX_3.out.old hbf).rowFar (Nat.ne_of_lt (Nat.lt_of_lt_of_le XX_3.out.lt lg10)) (cE on)).rowFar (Nat.ne_of_lt (Nat.lt_of_lt_of_le XX_3.out.lt lg11)) (cE pa))
 have YY_4 := hid (((YY_3.out.old hbf).rowFar (Nat.ne_of_lt (Nat.lt_of_lt_of_le YY_3.out.lt lg10)) (cE on)).rowFar (Nat.ne_of_lt (Nat.lt_of_lt_of_le YY_3.out.lt lg11)) (cE pa))
 have CR_4 := hid (((CR_3.out.old hbf).rowFar (Nat.ne_of_lt (Nat.lt_of_lt_of_le CR_3.out.lt lg10)) (cE on)).rowFar (Nat.ne_of_lt (Nat.lt_of_lt_of_le CR_3.out.lt lg11)) (cE pa))
 have MO_4 := hid (((MO_3.out.old hbf).rowFar (Nat.ne_of_lt (Nat.lt_of_lt_of_le MO_3.out.lt lg10)) (cE on)).rowFar (Nat.ne_of_lt (Nat.lt_of_lt_of_le MO_3.out.lt lg11)) (cE pa))
 have ON_4 := hid ((bg10.row (cE on)).rowFar ng10_11 (cE pa))
 have LG10 := hid (Nat.le_trans HB_3.out.size lg10)
 have PA_4 := hid ((bg11.rowFar ng11_10 (cE on)).row (cE pa))
 have LG11 := hid (Nat.le_trans HB_3.out.size lg11)
 have HB_4 := hid (below_row (g := g11) (below_row (g := g10) (HB_3.out.trans (hbf.mono HB_3.out.size)) (Nat.le_trans HB_3.out.size lg10) (cE on)) (Nat.le_trans HB_3.out.size lg11) (cE pa))
 clear XR_3 XX_3 YY_3 ZZ_3 CR_3 MO_3 HB_3 PV lg10 lg11 bg10 bg11 ng10_11 ng11_10 hbf DD4
 generalize (V.setRow g10 (cE on)).setRow g11 (cE pa) = W4 at *
 have PV : Hid (∀ V, Below W4.heap.size W4 V → PrimeAt V) := hid fun V hV => HP.out.old (HB_4.out.trans (hV.mono HB_4.out.size))
 go_upto_region 5 with fail
 (try simp only [Act.put, zA, zB, zC])
 have DD5 : Hid (∀ V, Below W4.heap.size W4 V → Below W4.heap.size W4 V) := hid fun _ h => h
 refine wp_sched [(51, .is (.agg (cE on))), (52, .is (.agg (cE pa))), (53, .is (.agg (cE ux))), (54, .is (.agg (cE on))), (55, .is (.agg (cE pa))), (56, .is (.agg (cE uy))), (12, .fresh 44 zf), (13, .fresh 44 zf)] (fun V => Below W4.heap.size W4 V) (by kernel_rfl) (by kernel_rfl) (by kernel_rfl) (by kernel_rfl) DD5.out ?hg5 _ (by rfl) ?hf5
 case hg5 =>
  refine goods_is (fun a V h hS K Q hK => op_quiet (quiet_load_row 44 (.tmp 10) _ (look_at h 10) 44 (cE on) _ (ON_4.out.old hS) Tryz.underlying44 rfl (cE_ok _).1 (by kernel_rfl)) hK) ?_
  refine goods_is (fun a V h hS K Q hK => op_quiet (quiet_load_row 44 (.tmp 11) _ (look_at h 11) 44 (cE pa) _ (PA_4.out.old hS) Tryz.underlying44 rfl (cE_ok _).1 (by kernel_rfl)) hK) ?_
  refine goods_is (fun a V h hS K Q hK => op_callK #[.tmp 51, .tmp 52] #[.agg (cE on), .agg (cE pa)] (map2 (look_at h 51) (look_at h 52)) (C11.out V (PV.out V hS)) hK) ?_
  refine goods_is (fun a V h hS K Q hK => op_quiet (quiet_load_row 44 (.tmp 10) _ (look_at h 10) 44 (cE on) _ (ON_4.out.old hS) Tryz.underlying44 rfl (cE_ok _).1 (by kernel_rfl)) hK) ?_
  refine goods_is (fun a V h hS K Q hK => op_quiet (quiet_load_row 44 (.tmp 11) _ (look_at h 11) 44 (cE pa) _ (PA_4.out.old hS) Tryz.underlying44 rfl (cE_ok _).1 (by kernel_rfl)) hK) ?_
  refine goods_is (fun a V h hS K Q hK => op_callK #[.tmp 54, .tmp 55] #[.agg (cE on), .agg (cE pa)] (map2 (look_at h 54) (look_at h 55)) (C12.out V (PV.out V hS)) hK) ?_
  refine goods_fresh (by kernel_rfl) hzf0 ?_
  refine goods_fresh (by kernel_rfl) hzf0 ?_
  exact goods_nil
 case hf5 =>
 intro g V hF
 obtain ⟨lg12, bg12⟩ := hF.blk 6 _ _ rfl
 obtain ⟨lg13, bg13⟩ := hF.blk 7 _ _ rfl
 have ng12_13 := hF.ne 6 7 _ _ _ _ rfl rfl (by decide)
 have ng13_12 := hF.ne 7 6 _ _ _ _ rfl rfl (by decide)
 have hbf := hF.below
 clear hF
 simp only [finL, Pl.val, zA, zB, zC]
 generalize g 6 = g12 at *
 generalize g 7 = g13 at *
 refine wpList_store_row rfl 44 (.tmp 12) (.tmp 53) rfl g12 (cE ux) rfl rfl 44 zf bg12 (cE_ok _).1 (ofE.out _) (cE_ok _).2 ?_
 refine wpList_store_row rfl 44 (.tmp 13) (.tmp 56) rfl g13 (cE uy) rfl rfl 44 zf (bg13.rowFar ng13_12 (cE ux)) (cE_ok _).1 (ofE.out _) (cE_ok _).2 ?_
 have XR_5 := hid (((XR_4.out.old hbf).rowFar (Nat.ne_of_lt (Nat.lt_of_lt_of_le XR_4.out.lt lg12)) (cE ux)).rowFar (Nat.ne_of_lt (Nat.lt_of_lt_of_le XR_4.out.lt lg13)) (cE uy))
 have XX_5 := hid (((XX_4.out.old hbf).rowFar (Nat.ne_of_lt (Nat.lt_of_lt_of_le XX_4.out.lt lg12)) (cE ux)).rowFar (Nat.ne_of_lt (Nat.lt_of_lt_of_le XX_4.out.lt lg13)) (cE uy))
 have YY_5 := hid (((YY_4.out.old hbf).rowFar (Nat.ne_of_lt (Nat.lt_of_lt_of_le YY_4.out.lt lg12)) (cE ux)).rowFar (Nat.ne_of_lt (Nat.lt_of_lt_of_le YY_4.out.lt lg13)) (cE uy))
 have CR_5 := hid (((CR_4.out.old hbf).rowFar (Nat.ne_of_lt (Nat.lt_of_lt_of_le CR_4.out.lt lg12)) (cE ux)).rowFar (Nat.ne_of_lt (Nat.lt_of_lt_of_le CR_4.out.lt lg13)) (cE uy))
 have MO_5 := hid (((MO_4.out.old hbf).rowFar (Nat.ne_of_lt (Nat.lt_of_lt_of_le MO_4.out.lt lg12)) (cE ux)).rowFar (Nat.ne_of_lt (Nat.lt_of_lt_of_le MO_4.out.lt lg13)) (cE uy))
 have UX_5 := hid ((bg12.row (cE ux)).rowFar ng12_13 (cE uy))
 have LG12 := hid (Nat.le_trans HB_4.out.size lg12)
 have UY_5 := hid ((bg13.rowFar ng13_12 (cE ux)).row (cE uy))
 have LG13 := hid (Nat.le_trans HB_4.out.size lg13)
 have HB_5 := hid (below_row (g := g13) (below_row (g := g12) (HB_4.out.trans (hbf.mono HB_4.out.size)) (Nat.le_trans HB_4.out.size lg12) (cE ux)) (Nat.le_trans HB_4.out.size lg13) (cE uy))
 clear XR_4 XX_4 YY_4 CR_4 MO_4 ON_4 PA_4 HB_4 PV lg12 lg13 bg12 bg13 ng12_13 ng13_12 hbf DD5
 generalize (V.setRow g12 (cE ux)).setRow g13 (cE uy) = W5 at *
 have PV : Hid (∀ V, Below W5.heap.size W5 V → PrimeAt V) := hid fun V hV => HP.out.old (HB_5.out.trans (hV.mono HB_5.out.size))
 go_upto_region 6 with fail
 (try simp only [Act.put, zA, zB, zC])
 have DD6 : Hid (∀ V, Below W5.heap.size W5 V → Below W5.heap.size W5 V) := hid fun _ h => h
 refine wp_sched [(57, .is (.agg (cE mo))), (58, .is (.agg (cE cr))), (59, .is (.agg (cE m1))), (60, .is (.agg (cE uy))), (61, .is (.agg (cE r1))), (62, .is (.agg (cE mo))), (63, .is (.agg (cE yy))), (64, .is (.agg (cE xx))), (65, .is (.agg (cE s1))), (66, .is (.agg (cE m2))), (67, .is (.agg (cE ux))), (68, .is (.agg (cE r2))), (69, .is (.agg (cE ux))), (70, .is (.agg (cE uy))), (71, .is (.agg (cE r3))), (72, .is (.agg R))] (fun V => Below W5.heap.size W5 V) (by kernel_rfl) (by kernel_rfl) (by kernel_rfl) (by kernel_rfl) DD6.out ?hg6 _ (by rfl) ?hf6
 case hg6 =>
  refine goods_is (fun a V h hS K Q hK => op_quiet (quiet_load_row 44 (.tmp 9) _ (look_at h 9) 44 (cE mo) _ (MO_5.out.old hS) Tryz.underlying44 rfl (cE_ok _).1 (by kernel_rfl)) hK) ?_
  refine goods_is (fun a V h hS K Q hK => op_quiet (quiet_load_row 44 (.tmp 8) _ (look_at h 8) 44 (cE cr) _ (CR_5.out.old hS) Tryz.underlying44 rfl (cE_ok _).1 (by kernel_rfl)) hK) ?_
  refine goods_is (fun a V h hS K Q hK => op_callK #[.tmp 57, .tmp 58] #[.agg (cE mo), .agg (cE cr)] (map2 (look_at h 57) (look_at h 58)) (C13.out V (PV.out V hS)) hK) ?_
  refine goods_is (fun a V h hS K Q hK => op_quiet (quiet_load_row 44 (.tmp 13) _ (look_at h 13) 44 (cE uy) _ (UY_5.out.old hS) Tryz.underlying44 rfl (cE_ok _).1 (by kernel_rfl)) hK) ?_
  refine goods_is (fun a V h hS K Q hK => op_callK #[.tmp 59, .tmp 60] #[.agg (cE m1), .agg (cE uy)] (map2 (look_at h 59) (look_at h 60)) (C14.out V (PV.out V hS)) hK) ?_
  refine goods_is (fun a V h hS K Q hK => op_quiet (quiet_load_row 44 (.tmp 9) _ (look_at h 9) 44 (cE mo) _ (MO_5.out.old hS) Tryz.underlying44 rfl (cE_ok _).1 (by kernel_rfl)) hK) ?_
  refine goods_is (fun a V h hS K Q hK => op_quiet (quiet_load_row 44 (.tmp 6) _ (look_at h 6) 44 (cE yy) _ (YY_5.out.old hS) Tryz.underlying44 rfl (cE_ok _).1 (by kernel_rfl)) hK) ?_
  refine goods_is (fun a V h hS K Q hK => op_quiet (quiet_load_row 44 (.tmp 5) _ (look_at h 5) 44 (cE xx) _ (XX_5.out.old hS) Tryz.underlying44 rfl (cE_ok _).1 (by kernel_rfl)) hK) ?_
  refine goods_is (fun a V h hS K Q hK => op_callK #[.tmp 63, .tmp 64] #[.agg (cE yy), .agg (cE xx)] (map2 (look_at h 63) (look_at h 64)) (C15.out V (PV.out V hS)) hK) ?_
  refine goods_is (fun a V h hS K Q hK => op_callK #[.tmp 62, .tmp 65] #[.agg (cE mo), .agg (cE s1)] (map2 (look_at h 62) (look_at h 65)) (C16.out V (PV.out V hS)) hK) ?_
  refine goods_is (fun a V h hS K Q hK => op_quiet (quiet_load_row 44 (.tmp 12) _ (look_at h 12) 44 (cE ux) _ (UX_5.out.old hS) Tryz.underlying44 rfl (cE_ok _).1 (by kernel_rfl)) hK) ?_
  refine goods_is (fun a V h hS K Q hK => op_callK #[.tmp 66, .tmp 67] #[.agg (cE m2), .agg (cE ux)] (map2 (look_at h 66) (look_at h 67)) (C17.out V (PV.out V hS)) hK) ?_
  refine goods_is (fun a V h hS K Q hK => op_quiet (quiet_load_row 44 (.tmp 12) _ (look_at h 12) 44 (cE ux) _ (UX_5.out.old hS) Tryz.underlying44 rfl (cE_ok _).1 (by kernel_rfl)) hK) ?_
  refine goods_is (fun a V h hS K Q hK => op_quiet (quiet_load_row 44 (.tmp 13) _ (look_at h 13) 44 (cE uy) _ (UY_5.out.old hS) Tryz.underlying44 rfl (cE_ok _).1 (by kernel_rfl)) hK) ?_
  refine goods_is (fun a V h hS K Q hK => op_callK #[.tmp 69, .tmp 70] #[.agg (cE ux), .agg (cE uy)] (map2 (look_at h 69) (look_at h 70)) (C18.out V (PV.out V hS)) hK) ?_
  refine goods_is (fun a V h hS K Q hK => op_quiet (quiet_build_to 46 #[(0, .tmp 61), (1, .tmp 68), (2, .tmp 71)] (by kernel_rfl) [(0, .agg (cE r1)), (1, .agg (cE r2)), (2, .agg (cE r3))] (bld3 (look_at h 61) (look_at h 68) (look_at h 71)) R hBu.out) hK) ?_
  exact goods_nil
 case hf6 =>
 intro g V hF
 have hbf := hF.below
 clear hF
 simp only [finL, Pl.val, zA, zB, zC]
 refine wpList_store_row rfl 46 (.tmp 4) (.tmp 72) rfl (w.heap.size + 2) R rfl rfl 46 z (XR_5.out.old hbf) ok.out.1 ok.out.2.2 ok.out.2.1 ?_
 have XR_6 := hid ((XR_5.out.old hbf).row R)
 have HB_6 := hid (below_row (g := (w.heap.size + 2)) (HB_5.out.trans (hbf.mono HB_5.out.size)) (Nat.le_add_right _ _) R)
 clear XR_5 XX_5 YY_5 CR_5 MO_5 UX_5 UY_5 HB_5 PV hbf DD6
 generalize V.setRow (w.heap.size + 2) R = W6 at *
 have PV : Hid (∀ V, Below W6.heap.size W6 V → PrimeAt V) := hid fun V hV => HP.out.old (HB_6.out.trans (hV.mono HB_6.out.size))
 go_wp2_with fail
 refine bodyPost_ret (v := .agg R) ?_ rfl ⟨rfl, HB_6.out⟩
 exact results_cell_row Tryz.results29 _ _ (w.heap.size + 2) 46 _ (0, 0) _ rfl XR_6.out Tryz.underlying46 rfl ok.out.1
/-- What the program's sum stands for. -/
theorem addPU {p q : Pt} {a b : Array Value} (hp : PU p a) (hq : PU q b) (w : World) (hP : PrimeAt w) : Calls Tryz.prog 29 #[.agg a, .agg b] w fun e w' => ∃ c, e = .returned (.agg c) ∧ PU (padd p q) c ∧ Below w.heap.size w w' := by
 obtain ⟨X1, Y1, Z1, r1, rfl⟩ := hp
 obtain ⟨X2, Y2, Z2, r2, rfl⟩ := hq
 refine (addP X1 Y1 Z1 X2 Y2 Z2 _ _ _ _ _ _ _ _ _ _ _ _ _ _ _ _ _ _ rfl rfl rfl rfl rfl rfl rfl rfl rfl rfl rfl rfl rfl rfl rfl rfl rfl rfl w hP).mono ?_
 rintro e w' ⟨rfl, hb⟩
 exact ⟨_, rfl, ⟨_, _, _, rep_addP r1 r2 rfl rfl rfl rfl rfl rfl rfl rfl rfl rfl rfl rfl rfl rfl rfl rfl rfl rfl, rfl⟩, hb⟩
end Go.Proofs.YtcfogpeinjehbaaGreatDoor
end

section
namespace Go.Proofs.YtcfogpeinjehbaaGreatDoor
open Go Go.Proofs Go.RowKit F5
set_option maxHeartbeats 4000000 in
set_option maxRecDepth 100000 in
theorem pairP (x y : Fp) (w : World) :
  Calls Tryz.prog 40 #[.agg (cE x), .agg (cE y)] w fun e w' => e = .returned (.agg (uV x y 1)) ∧ Below w.heap.size w w' := by
 obtain ⟨one, h1⟩ : ∃ a : Fp, Hid (a = 1) := ⟨_, hid rfl⟩
 have C1 : Hid (∀ V, Calls Tryz.prog 36 #[.int .u64 1] V fun e w' => e = .returned (.agg (cE one)) ∧ Below V.heap.size V w') := hid fun V => eOf 1 (by decide) (by decide) one (by rw [h1.out]; exact fv _ _ (by decide)) _ rfl V
 rw [← h1.out]
 obtain ⟨z, hz⟩ : ∃ z, Hid (z = uV 0 0 0) := ⟨_, hid rfl⟩
 have hz0 : ∀ W, (zeroValue 46).run Tryz.prog W = .ok (.agg z) W := by rw [hz.out]; exact zeroU
 obtain ⟨zf, hzf⟩ : ∃ z, Hid (z = cE 0) := ⟨_, hid rfl⟩
 have hzf0 : ∀ W, (zeroValue 44).run Tryz.prog W = .ok (.agg zf) W := by rw [hzf.out]; exact zeroE
 have ofE : Hid (∀ a : Fp, zf.size = (cE a).size) := hid (fun a => by rw [hzf.out]; exact cE_sz _ _)
 have hBu := hid (built_U x y one)
 have ok := hid (uV_okz x y one)
 rw [← hz.out] at ok
 generalize uV x y one = R at *
 obtain ⟨b1, b2, b3, hb⟩ := three_blksT w (cE x) (cE y) z 44 44 46
 clear hz hzf h1
 go_enter Tryz.func40, Tryz.ntmps40
 go_upto_region 1 with fail
 generalize ((w.alloc (.cells (cE x) 44)).alloc (.cells (cE y) 44)).alloc (.cells z 46) = W at *
 have X1 := hid b1
 have X2 := hid b2
 have XR := hid b3
 have HB := hid hb
 clear b1 b2 b3 hb
 (try simp only [Act.put, zA, zB, zC])
 have DD1 : Hid (∀ V, Below W.heap.size W V → Below W.heap.size W V) := hid fun _ h => h
 refine wp_sched [(5, .is (.agg (cE x))), (6, .is (.agg (cE y))), (7, .is (.agg (cE one))), (8, .is (.agg R))] (fun V => Below W.heap.size W V) (by kernel_rfl) (by kernel_rfl) (by kernel_rfl) (by kernel_rfl) DD1.out ?hg1 _ (by rfl) ?hf1
 case hg1 =>
  refine goods_is (fun a V h hS K Q hK => op_quiet (quiet_load_row 44 (.tmp 2) _ (look_at h 2) 44 (cE x) _ (X1.out.old hS) Tryz.underlying44 rfl (cE_ok _).1 (by kernel_rfl)) hK) ?_
  refine goods_is (fun a V h hS K Q hK => op_quiet (quiet_load_row 44 (.tmp 3) _ (look_at h 3) 44 (cE y) _ (X2.out.old hS) Tryz.underlying44 rfl (cE_ok _).1 (by kernel_rfl)) hK) ?_
  refine goods_is (fun a V h hS K Q hK => op_callK #[.const (.int .u64 1)] #[.int .u64 1] (map1 rfl) (C1.out V) hK) ?_
  refine goods_is (fun a V h hS K Q hK => op_quiet (quiet_build_to 46 #[(0, .tmp 5), (1, .tmp 6), (2, .tmp 7)] (by kernel_rfl) [(0, .agg (cE x)), (1, .agg (cE y)), (2, .agg (cE one))] (bld3 (look_at h 5) (look_at h 6) (look_at h 7)) R hBu.out) hK) ?_
  exact goods_nil
 case hf1 =>
 intro g V hF
 have hbf := hF.below
 clear hF
 simp only [finL, Pl.val, zA, zB, zC]
 refine wpList_store_row rfl 46 (.tmp 4) (.tmp 8) rfl (w.heap.size + 2) R rfl rfl 46 z (XR.out.old hbf) ok.out.1 ok.out.2.2 ok.out.2.1 ?_
 have XR_1 := hid ((XR.out.old hbf).row R)
 have HB_1 := hid (below_row (g := (w.heap.size + 2)) (HB.out.trans (hbf.mono HB.out.size)) (Nat.le_add_right _ _) R)
 clear X1 X2 XR HB hbf DD1
 generalize V.setRow (w.heap.size + 2) R = W1 at *
 go_wp2_with fail
 refine bodyPost_ret (v := .agg R) ?_ rfl ⟨rfl, HB_1.out⟩
 exact results_cell_row Tryz.results40 _ _ (w.heap.size + 2) 46 _ (0, 0) _ rfl XR_1.out Tryz.underlying46 rfl ok.out.1
set_option maxHeartbeats 4000000 in
set_option maxRecDepth 100000 in
theorem zeroP2 (w : World) : Calls Tryz.prog 42 #[] w fun e w' => e = .returned (.agg (uV 0 1 1)) ∧ Below w.heap.size w w' := by
 obtain ⟨one, h1⟩ : ∃ a : Fp, Hid (a = 1) := ⟨_, hid rfl⟩
 obtain ⟨nil, h0⟩ : ∃ a : Fp, Hid (a = 0) := ⟨_, hid rfl⟩
 have C1 : Hid (∀ V, Calls Tryz.prog 36 #[.int .u64 1] V fun e w' => e = .returned (.agg (cE one)) ∧ Below V.heap.size V w') := hid fun V => eOf 1 (by decide) (by decide) one (by rw [h1.out]; exact fv _ _ (by decide)) _ rfl V
 have C0 : Hid (∀ V, Calls Tryz.prog 36 #[.int .u64 0] V fun e w' => e = .returned (.agg (cE nil)) ∧ Below V.heap.size V w') := hid fun V => eOf 0 (by decide) (by decide) nil (by rw [h0.out]; rfl) _ rfl V
 have C2 : Hid (∀ V, Calls Tryz.prog 40 #[.agg (cE nil), .agg (cE one)] V fun e w' => e = .returned (.agg (uV nil one 1)) ∧ Below V.heap.size V w') := hid fun V => pairP nil one V
 rw [show uV 0 1 1 = uV nil one 1 by rw [h0.out, h1.out]]
 obtain ⟨z, hz⟩ : ∃ z, Hid (z = uV 0 0 0) := ⟨_, hid rfl⟩
 have hz0 : ∀ W, (zeroValue 46).run Tryz.prog W = .ok (.agg z) W := by rw [hz.out]; exact zeroU
 obtain ⟨zf, hzf⟩ : ∃ z, Hid (z = cE 0) := ⟨_, hid rfl⟩
 have hzf0 : ∀ W, (zeroValue 44).run Tryz.prog W = .ok (.agg zf) W := by rw [hzf.out]; exact zeroE
 have ofE : Hid (∀ a : Fp, zf.size = (cE a).size) := hid (fun a => by rw [hzf.out]; exact cE_sz _ _)
 have ok := hid (uV_okz nil one 1)
 rw [← hz.out] at ok
 generalize uV nil one 1 = R at *
 have b1 := Blk.new w 46 z
 have hb : Below w.heap.size w (w.alloc (.cells z 46)) := (Below.refl _ _).alloc (Nat.le_refl _) _
 clear hz hzf h1 h0
 go_enter Tryz.func42, Tryz.ntmps42
 go_upto_region 1 with fail
 generalize w.alloc (.cells z 46) = W at *
 have XR := hid b1
 have HB := hid hb
 clear b1 hb
 (try simp only [Act.put, zA, zB, zC])
 have DD1 : Hid (∀ V, Below W.heap.size W V → Below W.heap.size W V) := hid fun _ h => h
 refine wp_sched [(1, .is (.agg (cE nil))), (2, .is (.agg (cE one))), (3, .is (.agg R))] (fun V => Below W.heap.size W V) (by kernel_rfl) (by kernel_rfl) (by kernel_rfl) (by kernel_rfl) DD1.out ?hg1 _ (by rfl) ?hf1
 case hg1 =>
  refine goods_is (fun a V h hS K Q hK => op_callK #[.const (.int .u64 0)] #[.int .u64 0] (map1 rfl) (C0.out V) hK) ?_
  refine goods_is (fun a V h hS K Q hK => op_callK #[.const (.int .u64 1)] #[.int .u64 1] (map1 rfl) (C1.out V) hK) ?_
  refine goods_is (fun a V h hS K Q hK => op_callK #[.tmp 1, .tmp 2] #[.agg (cE nil), .agg (cE one)] (map2 (look_at h 1) (look_at h 2)) (C2.out V) hK) ?_
  exact goods_nil
 case hf1 =>
 intro g V hF
 have hbf := hF.below
 clear hF
 simp only [finL, Pl.val, zA, zB, zC]
 refine wpList_store_row rfl 46 (.tmp 0) (.tmp 3) rfl w.heap.size R rfl rfl 46 z (XR.out.old hbf) ok.out.1 ok.out.2.2 ok.out.2.1 ?_
 have XR_1 := hid ((XR.out.old hbf).row R)
 have HB_1 := hid (below_row (g := w.heap.size) (HB.out.trans (hbf.mono HB.out.size)) (Nat.le_refl _) R)
 clear XR HB hbf DD1
 generalize V.setRow w.heap.size R = W1 at *
 go_wp2_with fail
 refine bodyPost_ret (v := .agg R) ?_ rfl ⟨rfl, HB_1.out⟩
 exact results_cell_row Tryz.results42 _ _ w.heap.size 46 _ (0, 0) _ rfl XR_1.out Tryz.underlying46 rfl ok.out.1
set_option maxHeartbeats 4000000 in
set_option maxRecDepth 100000 in
theorem negP (x y zz : Fp) (w : World) (hP : PrimeAt w) : Calls Tryz.prog 30 #[.agg (uV x y zz)] w fun e w' => e = .returned (.agg (uV (0 - x) y zz)) ∧ Below w.heap.size w w' := by
 obtain ⟨nil, h0⟩ : ∃ a : Fp, Hid (a = 0) := ⟨_, hid rfl⟩
 have C0 : Hid (∀ V, Calls Tryz.prog 36 #[.int .u64 0] V fun e w' => e = .returned (.agg (cE nil)) ∧ Below V.heap.size V w') := hid fun V => eOf 0 (by decide) (by decide) nil (by rw [h0.out]; rfl) _ rfl V
 obtain ⟨nx, hn⟩ : ∃ a : Fp, Hid (a = nil - x) := ⟨_, hid rfl⟩
 have C1 : Hid (∀ V, PrimeAt V → Calls Tryz.prog 67 #[.agg (cE nil), .agg (cE x)] V fun e w' => e = .returned (.agg (cE nx)) ∧ Below V.heap.size V w') := hid fun V hV => by rw [hn.out]; exact eSub _ _ V hV
 rw [← h0.out, ← hn.out]
 obtain ⟨z, hz⟩ : ∃ z, Hid (z = uV 0 0 0) := ⟨_, hid rfl⟩
 have hz0 : ∀ W, (zeroValue 46).run Tryz.prog W = .ok (.agg z) W := by rw [hz.out]; exact zeroU
 obtain ⟨zf, hzf⟩ : ∃ z, Hid (z = cE 0) := ⟨_, hid rfl⟩
 have hzf0 : ∀ W, (zeroValue 44).run Tryz.prog W = .ok (.agg zf) W := by rw [hzf.out]; exact zeroE
 have ofE : Hid (∀ a : Fp, zf.size = (cE a).size) := hid (fun a => by rw [hzf.out]; exact cE_sz _ _)
 have hBu := hid (built_U nx y zz)
 have ok := hid (uV_okz nx y zz)
 rw [← hz.out] at ok
 generalize uV nx y zz = R at *
 have KX := hid (fun (V : World) g T (h : Blk V g T (uV x y zz)) => uV_cell_x h)
 have KY := hid (fun (V : World) g T (h : Blk V g T (uV x y zz)) => uV_cell_y h)
 have KZ := hid (fun (V : World) g T (h : Blk V g T (uV x y zz)) => uV_cell_z h)
 generalize uV x y zz = A at *
 obtain ⟨b1, b2, hb⟩ := two_blks w A z 46 46
 have HP := hid hP
 clear hz hzf h0 hn hP
 go_enter Tryz.func30, Tryz.ntmps30
 go_upto_region 1 with fail
 generalize (w.alloc (.cells A 46)).alloc (.cells z 46) = W at *
 have X1 := hid b1
 have XR := hid b2
 have HB := hid hb
 clear b1 b2 hb
 (try simp only [Act.put, zA, zB, zC])
 have PV : Hid (∀ V, Below W.heap.size W V → PrimeAt V) := hid fun V hV => HP.out.old (HB.out.trans (hV.mono HB.out.size))
 have DD1 : Hid (∀ V, Below W.heap.size W V → Below W.heap.size W V) := hid fun _ h => h
 refine wp_sched [(3, .is (.agg (cE nil))), (4, .is (.pointer (some ⟨w.heap.size, 0, none⟩))), (5, .is (.agg (cE x))), (6, .is (.agg (cE nx))), (7, .is (.pointer (some ⟨w.heap.size, 0 + 4, none⟩))), (8, .is (.agg (cE y))), (9, .is (.pointer (some ⟨w.heap.size, 0 + 8, none⟩))), (10, .is (.agg (cE zz))), (11, .is (.agg R))] (fun V => Below W.heap.size W V) (by kernel_rfl) (by kernel_rfl) (by kernel_rfl) (by kernel_rfl) DD1.out ?hg1 _ (by rfl) ?hf1
 case hg1 =>
  refine goods_is (fun a V h hS K Q hK => op_callK #[.const (.int .u64 0)] #[.int .u64 0] (map1 rfl) (C0.out V) hK) ?_
  refine goods_is (fun a V h hS K Q hK => op_quiet (quiet_field _ (.tmp 1) 0 _ _ (look_at h 1) (fa0 _ _) rfl) hK) ?_
  refine goods_is (fun a V h hS K Q hK => op_quiet (quiet_load_off 44 (.tmp 4) _ _ (look_at h 4) (cE x) _ (KX.out _ _ _ (X1.out.old hS)) Tryz.underlying44 rfl (cE_ok _).1 (by kernel_rfl)) hK) ?_
  refine goods_is (fun a V h hS K Q hK => op_callK #[.tmp 3, .tmp 5] #[.agg (cE nil), .agg (cE x)] (map2 (look_at h 3) (look_at h 5)) (C1.out V (PV.out V hS)) hK) ?_
  refine goods_is (fun a V h hS K Q hK => op_quiet (quiet_field _ (.tmp 1) 1 _ _ (look_at h 1) (fa1 _ _) rfl) hK) ?_
  refine goods_is (fun a V h hS K Q hK => op_quiet (quiet_load_off 44 (.tmp 7) _ _ (look_at h 7) (cE y) _ (KY.out _ _ _ (X1.out.old hS)) Tryz.underlying44 rfl (cE_ok _).1 (by kernel_rfl)) hK) ?_
  refine goods_is (fun a V h hS K Q hK => op_quiet (quiet_field _ (.tmp 1) 2 _ _ (look_at h 1) (fa2 _ _) rfl) hK) ?_
  refine goods_is (fun a V h hS K Q hK => op_quiet (quiet_load_off 44 (.tmp 9) _ _ (look_at h 9) (cE zz) _ (KZ.out _ _ _ (X1.out.old hS)) Tryz.underlying44 rfl (cE_ok _).1 (by kernel_rfl)) hK) ?_
  refine goods_is (fun a V h hS K Q hK => op_quiet (quiet_build_to 46 #[(0, .tmp 6), (1, .tmp 8), (2, .tmp 10)] (by kernel_rfl) [(0, .agg (cE nx)), (1, .agg (cE y)), (2, .agg (cE zz))] (bld3 (look_at h 6) (look_at h 8) (look_at h 10)) R hBu.out) hK) ?_
  exact goods_nil
 case hf1 =>
 intro g V hF
 have hbf := hF.below
 clear hF
 simp only [finL, Pl.val, zA, zB, zC]
 refine wpList_store_row rfl 46 (.tmp 2) (.tmp 11) rfl (w.heap.size + 1) R rfl rfl 46 z (XR.out.old hbf) ok.out.1 ok.out.2.2 ok.out.2.1 ?_
 have XR_1 := hid ((XR.out.old hbf).row R)
 have HB_1 := hid (below_row (g := (w.heap.size + 1)) (HB.out.trans (hbf.mono HB.out.size)) (Nat.le_succ _) R)
 clear X1 XR HB PV hbf DD1
 generalize V.setRow (w.heap.size + 1) R = W1 at *
 have PV : Hid (∀ V, Below W1.heap.size W1 V → PrimeAt V) := hid fun V hV => HP.out.old (HB_1.out.trans (hV.mono HB_1.out.size))
 go_wp2_with fail
 refine bodyPost_ret (v := .agg R) ?_ rfl ⟨rfl, HB_1.out⟩
 exact results_cell_row Tryz.results30 _ _ (w.heap.size + 1) 46 _ (0, 0) _ rfl XR_1.out Tryz.underlying46 rfl ok.out.1
theorem zeroPU (w : World) : Calls Tryz.prog 42 #[] w fun e w' => ∃ c, e = .returned (.agg c) ∧ PU pzero c ∧ Below w.heap.size w w' := by
 refine (zeroP2 w).mono ?_
 rintro e w' ⟨rfl, hb⟩
 exact ⟨_, rfl, ⟨0, 1, 1, rep_zero, rfl⟩, hb⟩
theorem negPU {p : Pt} {a : Array Value} (hp : PU p a) (w : World) (hP : PrimeAt w) : Calls Tryz.prog 30 #[.agg a] w fun e w' => ∃ c, e = .returned (.agg c) ∧ PU (pneg p) c ∧ Below w.heap.size w w' := by
 obtain ⟨X, Y, Z, r, rfl⟩ := hp
 refine (negP X Y Z w hP).mono ?_
 rintro e w' ⟨rfl, hb⟩
 exact ⟨_, rfl, ⟨_, _, _, rep_neg r, rfl⟩, hb⟩
end Go.Proofs.YtcfogpeinjehbaaGreatDoor
end

section
namespace Go.Proofs.YtcfogpeinjehbaaGreatDoor
open Go Go.Proofs Go.RowKit F5
set_option maxHeartbeats 4000000 in
set_option maxRecDepth 100000 in
theorem evenP (y sq s1 up sa dn f r one : Fp) (h1 : one = 1) (hsq : y * y = sq) (hs1 : sq - one = s1) (hup : s1 * bF = up) (hsa : sq * aF = sa) (hdn : bF - sa = dn) (hf : finv dn = f) (hr : up * f = r) (w : World) (hP : PrimeAt w) (hT : TurnAt w) :
  Calls Tryz.prog 39 #[.agg (cE y)] w fun e w' => e = .returned (.tuple #[.agg (cE (rootF r)), .bool (decide (hasRoot r.val))]) ∧ Below w.heap.size w w' := by
 have MUL (p q r : Fp) (h : p * q = r) : Hid (∀ V, PrimeAt V → Calls Tryz.prog 37 #[.agg (cE p), .agg (cE q)] V fun e w' => e = .returned (.agg (cE r)) ∧ Below V.heap.size V w') := hid fun V hV => by rw [← h]; exact eMul _ _ V hV
 have SUB (p q r : Fp) (h : p - q = r) : Hid (∀ V, PrimeAt V → Calls Tryz.prog 67 #[.agg (cE p), .agg (cE q)] V fun e w' => e = .returned (.agg (cE r)) ∧ Below V.heap.size V w') := hid fun V hV => by rw [← h]; exact eSub _ _ V hV
 have ADD (p q r : Fp) (h : p + q = r) : Hid (∀ V, PrimeAt V → Calls Tryz.prog 66 #[.agg (cE p), .agg (cE q)] V fun e w' => e = .returned (.agg (cE r)) ∧ Below V.heap.size V w') := hid fun V hV => by rw [← h]; exact eAdd _ _ V hV
 have COF (n : Nat) (hn : n < P) (hm : n < M) (a : Fp) (h : a.val = n) (i : Int) (hi : i = n) : Hid (∀ V, PrimeAt V → Calls Tryz.prog 36 #[.int .u64 i] V fun e w' => e = .returned (.agg (cE a)) ∧ Below V.heap.size V w') := hid fun V _ => eOf n hn hm a h i hi V
 have C1 := MUL _ _ _ hsq
 have C2 := SUB _ _ _ hs1
 have C3 := MUL _ _ _ hup
 have C4 := MUL _ _ _ hsa
 have C5 := SUB _ _ _ hdn
 have C6 : Hid (∀ V, PrimeAt V → Calls Tryz.prog 38 #[.agg (cE dn)] V fun e w' => e = .returned (.agg (cE f)) ∧ Below V.heap.size V w') := hid fun V hV => by rw [← hf]; exact eInv _ V hV
 have C7 := MUL _ _ _ hr
 have CB := COF 121666 (by decide) (by decide) bF rfl 121666 rfl
 have CA := COF 121665 (by decide) (by decide) aF rfl 121665 rfl
 have C0 := COF 1 (by decide) (by decide) one (by rw [h1]; exact fv _ _ (by decide)) 1 rfl
 obtain ⟨ro, hro⟩ : ∃ a : Fp, Hid (a = rootF r) := ⟨_, hid rfl⟩
 obtain ⟨b, hb⟩ : ∃ b, Hid (b = decide (hasRoot r.val)) := ⟨_, hid rfl⟩
 have HT := hid hT
 have CR : Hid (∀ V, PrimeAt V → Below w.heap.size w V → Calls Tryz.prog 76 #[.agg (cE r)] V fun e w' => e = .returned (.tuple #[.agg (cE ro), .bool b]) ∧ Below V.heap.size V w') := hid fun V hV hW => by rw [hro.out, hb.out]; exact eRoot r V hV (HT.out.old hW)
 rw [← hro.out, ← hb.out]
 generalize aF = af at *
 generalize bF = bf at *
 clear MUL SUB ADD COF h1 hsq hs1 hup hsa hdn hf hr hro hb hT HT
 obtain ⟨z, hz⟩ : ∃ z, Hid (z = uV 0 0 0) := ⟨_, hid rfl⟩
 have hz0 : ∀ W, (zeroValue 46).run Tryz.prog W = .ok (.agg z) W := by rw [hz.out]; exact zeroU
 obtain ⟨zf, hzf⟩ : ∃ z, Hid (z = cE 0) := ⟨_, hid rfl⟩
 have hzf0 : ∀ W, (zeroValue 44).run Tryz.prog W = .ok (.agg zf) W := by rw [hzf.out]; exact zeroE
 have ofE : Hid (∀ a : Fp, zf.size = (cE a).size) := hid (fun a => by rw [hzf.out]; exact cE_sz _ _)
 obtain ⟨b1, b2, hb⟩ := two_blks w (cE y) zf 44 44
 have HP := hid hP
 clear hz hz0 z hzf hP
 go_enter Tryz.func39, Tryz.ntmps39
 go_upto_region 1 with fail
 generalize (w.alloc (.cells (cE y) 44)).alloc (.cells zf 44) = W at *
 have P1 := hid b1
 have XR := hid b2
 have HB := hid hb
 clear b1 b2 hb
 (try simp only [Act.put, zA, zB, zC])
 have PV : Hid (∀ V, Below W.heap.size W V → PrimeAt V) := hid fun V hV => HP.out.old (HB.out.trans (hV.mono HB.out.size))
 have DD1 : Hid (∀ V, Below W.heap.size W V → Below W.heap.size W V) := hid fun _ h => h
 refine wp_sched [(7, .is (.agg (cE y))), (8, .is (.agg (cE y))), (9, .is (.agg (cE sq))), (4, .fresh 44 zf)] (fun V => Below W.heap.size W V) (by kernel_rfl) (by kernel_rfl) (by kernel_rfl) (by kernel_rfl) DD1.out ?hg1 _ (by rfl) ?hf1
 case hg1 =>
  refine goods_is (fun a V h hS K Q hK => op_quiet (quiet_load_row 44 (.tmp 1) _ (look_at h 1) 44 (cE y) _ (P1.out.old hS) Tryz.underlying44 rfl (cE_ok _).1 (by kernel_rfl)) hK) ?_
  refine goods_is (fun a V h hS K Q hK => op_quiet (quiet_load_row 44 (.tmp 1) _ (look_at h 1) 44 (cE y) _ (P1.out.old hS) Tryz.underlying44 rfl (cE_ok _).1 (by kernel_rfl)) hK) ?_
  refine goods_is (fun a V h hS K Q hK => op_callK #[.tmp 7, .tmp 8] #[.agg (cE y), .agg (cE y)] (map2 (look_at h 7) (look_at h 8)) (C1.out V (PV.out V hS)) hK) ?_
  refine goods_fresh (by kernel_rfl) hzf0 ?_
  exact goods_nil
 case hf1 =>
 intro g V hF
 obtain ⟨lg4, bg4⟩ := hF.blk 3 _ _ rfl
 have hbf := hF.below
 clear hF
 simp only [finL, Pl.val, zA, zB, zC]
 generalize g 3 = g4 at *
 refine wpList_store_row rfl 44 (.tmp 4) (.tmp 9) rfl g4 (cE sq) rfl rfl 44 zf bg4 (cE_ok _).1 (ofE.out _) (cE_ok _).2 ?_
 have XR_1 := hid ((XR.out.old hbf).rowFar (Nat.ne_of_lt (Nat.lt_of_lt_of_le XR.out.lt lg4)) (cE sq))
 have SQ_1 := hid (bg4.row (cE sq))
 have LG4 := hid (Nat.le_trans HB.out.size lg4)
 have HB_1 := hid (below_row (g := g4) (HB.out.trans (hbf.mono HB.out.size)) (Nat.le_trans HB.out.size lg4) (cE sq))
 clear P1 XR HB PV lg4 bg4 hbf DD1
 generalize V.setRow g4 (cE sq) = W1 at *
 have PV : Hid (∀ V, Below W1.heap.size W1 V → PrimeAt V) := hid fun V hV => HP.out.old (HB_1.out.trans (hV.mono HB_1.out.size))
 go_upto_region 2 with fail
 (try simp only [Act.put, zA, zB, zC])
 have DD2 : Hid (∀ V, Below W1.heap.size W1 V → Below W1.heap.size W1 V) := hid fun _ h => h
 refine wp_sched [(10, .is (.agg (cE sq))), (11, .is (.agg (cE one))), (12, .is (.agg (cE s1))), (13, .is (.agg (cE bf))), (14, .is (.agg (cE up))), (5, .fresh 44 zf)] (fun V => Below W1.heap.size W1 V) (by kernel_rfl) (by kernel_rfl) (by kernel_rfl) (by kernel_rfl) DD2.out ?hg2 _ (by rfl) ?hf2
 case hg2 =>
  refine goods_is (fun a V h hS K Q hK => op_quiet (quiet_load_row 44 (.tmp 4) _ (look_at h 4) 44 (cE sq) _ (SQ_1.out.old hS) Tryz.underlying44 rfl (cE_ok _).1 (by kernel_rfl)) hK) ?_
  refine goods_is (fun a V h hS K Q hK => op_callK #[.const (.int .u64 1)] #[.int .u64 1] (map1 rfl) (C0.out V (PV.out V hS)) hK) ?_
  refine goods_is (fun a V h hS K Q hK => op_callK #[.tmp 10, .tmp 11] #[.agg (cE sq), .agg (cE one)] (map2 (look_at h 10) (look_at h 11)) (C2.out V (PV.out V hS)) hK) ?_
  refine goods_is (fun a V h hS K Q hK => op_callK #[.const (.int .u64 121666)] #[.int .u64 121666] (map1 rfl) (CB.out V (PV.out V hS)) hK) ?_
  refine goods_is (fun a V h hS K Q hK => op_callK #[.tmp 12, .tmp 13] #[.agg (cE s1), .agg (cE bf)] (map2 (look_at h 12) (look_at h 13)) (C3.out V (PV.out V hS)) hK) ?_
  refine goods_fresh (by kernel_rfl) hzf0 ?_
  exact goods_nil
 case hf2 =>
 intro g V hF
 obtain ⟨lg5, bg5⟩ := hF.blk 5 _ _ rfl
 have hbf := hF.below
 clear hF
 simp only [finL, Pl.val, zA, zB, zC]
 generalize g 5 = g5 at *
 refine wpList_store_row rfl 44 (.tmp 5) (.tmp 14) rfl g5 (cE up) rfl rfl 44 zf bg5 (cE_ok _).1 (ofE.out _) (cE_ok _).2 ?_
 have XR_2 := hid ((XR_1.out.old hbf).rowFar (Nat.ne_of_lt (Nat.lt_of_lt_of_le XR_1.out.lt lg5)) (cE up))
 have SQ_2 := hid ((SQ_1.out.old hbf).rowFar (Nat.ne_of_lt (Nat.lt_of_lt_of_le SQ_1.out.lt lg5)) (cE up))
 have UP0_2 := hid (bg5.row (cE up))
 have LG5 := hid (Nat.le_trans HB_1.out.size lg5)
 have HB_2 := hid (below_row (g := g5) (HB_1.out.trans (hbf.mono HB_1.out.size)) (Nat.le_trans HB_1.out.size lg5) (cE up))
 clear XR_1 SQ_1 HB_1 PV lg5 bg5 hbf DD2
 generalize V.setRow g5 (cE up) = W2 at *
 have PV : Hid (∀ V, Below W2.heap.size W2 V → PrimeAt V) := hid fun V hV => HP.out.old (HB_2.out.trans (hV.mono HB_2.out.size))
 go_upto_region 3 with fail
 (try simp only [Act.put, zA, zB, zC])
 have DD3 : Hid (∀ V, Below W2.heap.size W2 V → Below W2.heap.size W2 V) := hid fun _ h => h
 refine wp_sched [(15, .is (.agg (cE bf))), (16, .is (.agg (cE sq))), (17, .is (.agg (cE af))), (18, .is (.agg (cE sa))), (19, .is (.agg (cE dn))), (6, .fresh 44 zf)] (fun V => Below W2.heap.size W2 V) (by kernel_rfl) (by kernel_rfl) (by kernel_rfl) (by kernel_rfl) DD3.out ?hg3 _ (by rfl) ?hf3
 case hg3 =>
  refine goods_is (fun a V h hS K Q hK => op_callK #[.const (.int .u64 121666)] #[.int .u64 121666] (map1 rfl) (CB.out V (PV.out V hS)) hK) ?_
  refine goods_is (fun a V h hS K Q hK => op_quiet (quiet_load_row 44 (.tmp 4) _ (look_at h 4) 44 (cE sq) _ (SQ_2.out.old hS) Tryz.underlying44 rfl (cE_ok _).1 (by kernel_rfl)) hK) ?_
  refine goods_is (fun a V h hS K Q hK => op_callK #[.const (.int .u64 121665)] #[.int .u64 121665] (map1 rfl) (CA.out V (PV.out V hS)) hK) ?_
  refine goods_is (fun a V h hS K Q hK => op_callK #[.tmp 16, .tmp 17] #[.agg (cE sq), .agg (cE af)] (map2 (look_at h 16) (look_at h 17)) (C4.out V (PV.out V hS)) hK) ?_
  refine goods_is (fun a V h hS K Q hK => op_callK #[.tmp 15, .tmp 18] #[.agg (cE bf), .agg (cE sa)] (map2 (look_at h 15) (look_at h 18)) (C5.out V (PV.out V hS)) hK) ?_
  refine goods_fresh (by kernel_rfl) hzf0 ?_
  exact goods_nil
 case hf3 =>
 intro g V hF
 obtain ⟨lg6, bg6⟩ := hF.blk 5 _ _ rfl
 have hbf := hF.below
 clear hF
 simp only [finL, Pl.val, zA, zB, zC]
 generalize g 5 = g6 at *
 refine wpList_store_row rfl 44 (.tmp 6) (.tmp 19) rfl g6 (cE dn) rfl rfl 44 zf bg6 (cE_ok _).1 (ofE.out _) (cE_ok _).2 ?_
 have XR_3 := hid ((XR_2.out.old hbf).rowFar (Nat.ne_of_lt (Nat.lt_of_lt_of_le XR_2.out.lt lg6)) (cE dn))
 have UP0_3 := hid ((UP0_2.out.old hbf).rowFar (Nat.ne_of_lt (Nat.lt_of_lt_of_le UP0_2.out.lt lg6)) (cE dn))
 have DN_3 := hid (bg6.row (cE dn))
 have LG6 := hid (Nat.le_trans HB_2.out.size lg6)
 have HB_3 := hid (below_row (g := g6) (HB_2.out.trans (hbf.mono HB_2.out.size)) (Nat.le_trans HB_2.out.size lg6) (cE dn))
 clear XR_2 SQ_2 UP0_2 HB_2 PV lg6 bg6 hbf DD3
 generalize V.setRow g6 (cE dn) = W3 at *
 have PV : Hid (∀ V, Below W3.heap.size W3 V → PrimeAt V) := hid fun V hV => HP.out.old (HB_3.out.trans (hV.mono HB_3.out.size))
 go_upto_region 4 with fail
 (try simp only [Act.put, zA, zB, zC])
 have DD4 : Hid (∀ V, Below W3.heap.size W3 V → Below W3.heap.size W3 V) := hid fun _ h => h
 refine wp_sched [(20, .is (.agg (cE up))), (21, .is (.agg (cE dn))), (22, .is (.agg (cE f))), (23, .is (.agg (cE r))), (24, .is (.tuple #[.agg (cE ro), .bool b])), (25, .is (.agg (cE ro))), (26, .is (.bool b))] (fun V => Below W3.heap.size W3 V) (by kernel_rfl) (by kernel_rfl) (by kernel_rfl) (by kernel_rfl) DD4.out ?hg4 _ (by rfl) ?hf4
 case hg4 =>
  refine goods_is (fun a V h hS K Q hK => op_quiet (quiet_load_row 44 (.tmp 5) _ (look_at h 5) 44 (cE up) _ (UP0_3.out.old hS) Tryz.underlying44 rfl (cE_ok _).1 (by kernel_rfl)) hK) ?_
  refine goods_is (fun a V h hS K Q hK => op_quiet (quiet_load_row 44 (.tmp 6) _ (look_at h 6) 44 (cE dn) _ (DN_3.out.old hS) Tryz.underlying44 rfl (cE_ok _).1 (by kernel_rfl)) hK) ?_
  refine goods_is (fun a V h hS K Q hK => op_callK #[.tmp 21] #[.agg (cE dn)] (map1 (look_at h 21)) (C6.out V (PV.out V hS)) hK) ?_
  refine goods_is (fun a V h hS K Q hK => op_callK #[.tmp 20, .tmp 22] #[.agg (cE up), .agg (cE f)] (map2 (look_at h 20) (look_at h 22)) (C7.out V (PV.out V hS)) hK) ?_
  refine goods_is (fun a V h hS K Q hK => op_callK #[.tmp 23] #[.agg (cE r)] (map1 (look_at h 23)) (CR.out V (PV.out V hS) (HB_3.out.trans (hS.mono HB_3.out.size))) hK) ?_
  refine goods_is (fun a V h hS K Q hK => op_quiet (quiet_extract (t := #[.agg (cE ro), .bool b]) (.tmp 24) 0 (look_at h 24) rfl (by kernel_rfl)) hK) ?_
  refine goods_is (fun a V h hS K Q hK => op_quiet (quiet_extract (t := #[.agg (cE ro), .bool b]) (.tmp 24) 1 (look_at h 24) rfl (by kernel_rfl)) hK) ?_
  exact goods_nil
 case hf4 =>
 intro g V hF
 have hbf := hF.below
 clear hF
 simp only [finL, Pl.val, zA, zB, zC]
 refine wpList_store_row rfl 44 (.tmp 2) (.tmp 25) rfl (w.heap.size + 1) (cE ro) rfl rfl 44 zf (XR_3.out.old hbf) (cE_ok _).1 (ofE.out _) (cE_ok _).2 ?_
 have XR_4 := hid ((XR_3.out.old hbf).row (cE ro))
 have HB_4 := hid (below_row (g := (w.heap.size + 1)) (HB_3.out.trans (hbf.mono HB_3.out.size)) (Nat.le_succ _) (cE ro))
 clear XR_3 UP0_3 DN_3 HB_3 PV hbf DD4
 generalize V.setRow (w.heap.size + 1) (cE ro) = W4 at *
 have PV : Hid (∀ V, Below W4.heap.size W4 V → PrimeAt V) := hid fun V hV => HP.out.old (HB_4.out.trans (hV.mono HB_4.out.size))
 go_wp2_with fail
 refine bodyPost_ret (v := .tuple #[.agg (cE ro), .bool b]) ?_ rfl ⟨rfl, HB_4.out⟩
 exact results_row_tmp1 Tryz.results39 _ _ (w.heap.size + 1) 44 _ _ _ rfl rfl XR_4.out Tryz.underlying44 (cE_ok _).1
theorem evenX_any (y : Fp) (w : World) (hP : PrimeAt w) (hT : TurnAt w) : Calls Tryz.prog 39 #[.agg (cE y)] w fun e w' => e = .returned (.tuple #[.agg (cE (rootF (xsq y))), .bool (decide (hasRoot (xsq y).val))]) ∧ Below w.heap.size w w' := by
 rw [xsq_prog (y := y) (one := 1) rfl rfl rfl rfl rfl rfl rfl rfl]
 exact evenP y _ _ _ _ _ _ _ 1 rfl rfl rfl rfl rfl rfl rfl rfl w hP hT
set_option maxHeartbeats 4000000 in
set_option maxRecDepth 100000 in
theorem baseP (w : World) (hP : PrimeAt w) (hT : TurnAt w) : Calls Tryz.prog 15 #[] w fun e w' => e = .returned (.agg (uV pbase.x pbase.y 1)) ∧ Below w.heap.size w w' := by
 obtain ⟨four, h4⟩ : ∃ a : Fp, Hid (a = 4) := ⟨_, hid rfl⟩
 obtain ⟨five, h5⟩ : ∃ a : Fp, Hid (a = 5) := ⟨_, hid rfl⟩
 have C4 : Hid (∀ V, Calls Tryz.prog 36 #[.int .u64 4] V fun e w' => e = .returned (.agg (cE four)) ∧ Below V.heap.size V w') := hid fun V => eOf 4 (by decide) (by decide) four (by rw [h4.out]; exact fv _ _ (by decide)) _ rfl V
 have C5 : Hid (∀ V, Calls Tryz.prog 36 #[.int .u64 5] V fun e w' => e = .returned (.agg (cE five)) ∧ Below V.heap.size V w') := hid fun V => eOf 5 (by decide) (by decide) five (by rw [h5.out]; exact fv _ _ (by decide)) _ rfl V
 obtain ⟨iv, hiv⟩ : ∃ a : Fp, Hid (a = finv five) := ⟨_, hid rfl⟩
 have CI : Hid (∀ V, PrimeAt V → Calls Tryz.prog 38 #[.agg (cE five)] V fun e w' => e = .returned (.agg (cE iv)) ∧ Below V.heap.size V w') := hid fun V hV => by rw [hiv.out]; exact eInv _ V hV
 obtain ⟨y, hy⟩ : ∃ a : Fp, Hid (a = pbase.y) := ⟨_, hid rfl⟩
 obtain ⟨x, hx⟩ : ∃ a : Fp, Hid (a = pbase.x) := ⟨_, hid rfl⟩
 have CM : Hid (∀ V, PrimeAt V → Calls Tryz.prog 37 #[.agg (cE four), .agg (cE iv)] V fun e w' => e = .returned (.agg (cE y)) ∧ Below V.heap.size V w') := hid fun V hV => by
  have := eMul four iv V hV
  rwa [show four * iv = y by rw [h4.out, hiv.out, h5.out, hy.out]; exact base_gy] at this
 obtain ⟨b, hbb⟩ : ∃ b, Hid (b = true) := ⟨_, hid rfl⟩
 have HT := hid hT
 have CX : Hid (∀ V, PrimeAt V → Below w.heap.size w V → Calls Tryz.prog 39 #[.agg (cE y)] V fun e w' => e = .returned (.tuple #[.agg (cE x), .bool b]) ∧ Below V.heap.size V w') := hid fun V hV hW => by
  have := evenX_any y V hV (HT.out.old hW)
  rwa [hy.out, base_x_root.2, decide_eq_true base_x_root.1, ← hx.out, ← hbb.out, ← hy.out] at this
 have CP : Hid (∀ V, Calls Tryz.prog 40 #[.agg (cE x), .agg (cE y)] V fun e w' => e = .returned (.agg (uV x y 1)) ∧ Below V.heap.size V w') := hid fun V => pairP x y V
 rw [← hx.out, ← hy.out]
 obtain ⟨z, hz⟩ : ∃ z, Hid (z = uV 0 0 0) := ⟨_, hid rfl⟩
 have hz0 : ∀ W, (zeroValue 46).run Tryz.prog W = .ok (.agg z) W := by rw [hz.out]; exact zeroU
 obtain ⟨zf, hzf⟩ : ∃ z, Hid (z = cE 0) := ⟨_, hid rfl⟩
 have hzf0 : ∀ W, (zeroValue 44).run Tryz.prog W = .ok (.agg zf) W := by rw [hzf.out]; exact zeroE
 have ofE : Hid (∀ a : Fp, zf.size = (cE a).size) := hid (fun a => by rw [hzf.out]; exact cE_sz _ _)
 have ok := hid (uV_okz x y 1)
 rw [← hz.out] at ok
 generalize uV x y 1 = R at *
 have b1 := Blk.new w 46 z
 have hb : Below w.heap.size w (w.alloc (.cells z 46)) := (Below.refl _ _).alloc (Nat.le_refl _) _
 have HP := hid hP
 clear hz hzf h4 h5 hiv hy hx hbb hP hT HT
 go_enter Tryz.func15, Tryz.ntmps15
 go_upto_region 1 with fail
 generalize w.alloc (.cells z 46) = W at *
 have XR := hid b1
 have HB := hid hb
 clear b1 hb
 (try simp only [Act.put, zA, zB, zC])
 have PV : Hid (∀ V, Below W.heap.size W V → PrimeAt V) := hid fun V hV => HP.out.old (HB.out.trans (hV.mono HB.out.size))
 have DD1 : Hid (∀ V, Below W.heap.size W V → Below W.heap.size W V) := hid fun _ h => h
 refine wp_sched [(4, .is (.agg (cE four))), (5, .is (.agg (cE five))), (6, .is (.agg (cE iv))), (7, .is (.agg (cE y))), (1, .fresh 44 zf)] (fun V => Below W.heap.size W V) (by kernel_rfl) (by kernel_rfl) (by kernel_rfl) (by kernel_rfl) DD1.out ?hg1 _ (by rfl) ?hf1
 case hg1 =>
  refine goods_is (fun a V h hS K Q hK => op_callK #[.const (.int .u64 4)] #[.int .u64 4] (map1 rfl) (C4.out V) hK) ?_
  refine goods_is (fun a V h hS K Q hK => op_callK #[.const (.int .u64 5)] #[.int .u64 5] (map1 rfl) (C5.out V) hK) ?_
  refine goods_is (fun a V h hS K Q hK => op_callK #[.tmp 5] #[.agg (cE five)] (map1 (look_at h 5)) (CI.out V (PV.out V hS)) hK) ?_
  refine goods_is (fun a V h hS K Q hK => op_callK #[.tmp 4, .tmp 6] #[.agg (cE four), .agg (cE iv)] (map2 (look_at h 4) (look_at h 6)) (CM.out V (PV.out V hS)) hK) ?_
  refine goods_fresh (by kernel_rfl) hzf0 ?_
  exact goods_nil
 case hf1 =>
 intro g V hF
 obtain ⟨lg1, bg1⟩ := hF.blk 4 _ _ rfl
 have hbf := hF.below
 clear hF
 simp only [finL, Pl.val, zA, zB, zC]
 generalize g 4 = g1 at *
 refine wpList_store_row rfl 44 (.tmp 1) (.tmp 7) rfl g1 (cE y) rfl rfl 44 zf bg1 (cE_ok _).1 (ofE.out _) (cE_ok _).2 ?_
 have XR_1 := hid ((XR.out.old hbf).rowFar (Nat.ne_of_lt (Nat.lt_of_lt_of_le XR.out.lt lg1)) (cE y))
 have YY_1 := hid (bg1.row (cE y))
 have LG1 := hid (Nat.le_trans HB.out.size lg1)
 have HB_1 := hid (below_row (g := g1) (HB.out.trans (hbf.mono HB.out.size)) (Nat.le_trans HB.out.size lg1) (cE y))
 clear XR HB PV lg1 bg1 hbf DD1
 generalize V.setRow g1 (cE y) = W1 at *
 have PV : Hid (∀ V, Below W1.heap.size W1 V → PrimeAt V) := hid fun V hV => HP.out.old (HB_1.out.trans (hV.mono HB_1.out.size))
 go_upto_region 2 with fail
 (try simp only [Act.put, zA, zB, zC])
 have DD2 : Hid (∀ V, Below W1.heap.size W1 V → Below W1.heap.size W1 V) := hid fun _ h => h
 refine wp_sched [(9, .is (.agg (cE y))), (10, .is (.tuple #[.agg (cE x), .bool b])), (8, .is (.tuple #[.agg (cE x), .bool b])), (11, .is (.agg (cE x))), (12, .is (.bool b)), (2, .fresh 44 zf)] (fun V => Below W1.heap.size W1 V) (by kernel_rfl) (by kernel_rfl) (by kernel_rfl) (by kernel_rfl) DD2.out ?hg2 _ (by rfl) ?hf2
 case hg2 =>
  refine goods_is (fun a V h hS K Q hK => op_quiet (quiet_load_row 44 (.tmp 1) _ (look_at h 1) 44 (cE y) _ (YY_1.out.old hS) Tryz.underlying44 rfl (cE_ok _).1 (by kernel_rfl)) hK) ?_
  refine goods_is (fun a V h hS K Q hK => op_callK #[.tmp 9] #[.agg (cE y)] (map1 (look_at h 9)) (CX.out V (PV.out V hS) (HB_1.out.trans (hS.mono HB_1.out.size))) hK) ?_
  refine goods_is (fun a V h hS K Q hK => op_quiet (quiet_move (.tmp 10) (look_at h 10) (.inl (by kernel_rfl))) hK) ?_
  refine goods_is (fun a V h hS K Q hK => op_quiet (quiet_extract (t := #[.agg (cE x), .bool b]) (.tmp 8) 0 (look_at h 8) rfl (by kernel_rfl)) hK) ?_
  refine goods_is (fun a V h hS K Q hK => op_quiet (quiet_extract (t := #[.agg (cE x), .bool b]) (.tmp 8) 1 (look_at h 8) rfl (by kernel_rfl)) hK) ?_
  refine goods_fresh (by kernel_rfl) hzf0 ?_
  exact goods_nil
 case hf2 =>
 intro g V hF
 obtain ⟨lg2, bg2⟩ := hF.blk 5 _ _ rfl
 have hbf := hF.below
 clear hF
 simp only [finL, Pl.val, zA, zB, zC]
 generalize g 5 = g2 at *
 refine wpList_store_row rfl 44 (.tmp 2) (.tmp 11) rfl g2 (cE x) rfl rfl 44 zf bg2 (cE_ok _).1 (ofE.out _) (cE_ok _).2 ?_
 have XR_2 := hid ((XR_1.out.old hbf).rowFar (Nat.ne_of_lt (Nat.lt_of_lt_of_le XR_1.out.lt lg2)) (cE x))
 have YY_2 := hid ((YY_1.out.old hbf).rowFar (Nat.ne_of_lt (Nat.lt_of_lt_of_le YY_1.out.lt lg2)) (cE x))
 have XX_2 := hid (bg2.row (cE x))
 have LG2 := hid (Nat.le_trans HB_1.out.size lg2)
 have HB_2 := hid (below_row (g := g2) (HB_1.out.trans (hbf.mono HB_1.out.size)) (Nat.le_trans HB_1.out.size lg2) (cE x))
 clear XR_1 YY_1 HB_1 PV lg2 bg2 hbf DD2
 generalize V.setRow g2 (cE x) = W2 at *
 have PV : Hid (∀ V, Below W2.heap.size W2 V → PrimeAt V) := hid fun V hV => HP.out.old (HB_2.out.trans (hV.mono HB_2.out.size))
 go_upto_region 3 with fail
 (try simp only [Act.put, zA, zB, zC])
 have DD3 : Hid (∀ V, Below W2.heap.size W2 V → Below W2.heap.size W2 V) := hid fun _ h => h
 refine wp_sched [(13, .is (.agg (cE x))), (14, .is (.agg (cE y))), (15, .is (.agg R))] (fun V => Below W2.heap.size W2 V) (by kernel_rfl) (by kernel_rfl) (by kernel_rfl) (by kernel_rfl) DD3.out ?hg3 _ (by rfl) ?hf3
 case hg3 =>
  refine goods_is (fun a V h hS K Q hK => op_quiet (quiet_load_row 44 (.tmp 2) _ (look_at h 2) 44 (cE x) _ (XX_2.out.old hS) Tryz.underlying44 rfl (cE_ok _).1 (by kernel_rfl)) hK) ?_
  refine goods_is (fun a V h hS K Q hK => op_quiet (quiet_load_row 44 (.tmp 1) _ (look_at h 1) 44 (cE y) _ (YY_2.out.old hS) Tryz.underlying44 rfl (cE_ok _).1 (by kernel_rfl)) hK) ?_
  refine goods_is (fun a V h hS K Q hK => op_callK #[.tmp 13, .tmp 14] #[.agg (cE x), .agg (cE y)] (map2 (look_at h 13) (look_at h 14)) (CP.out V) hK) ?_
  exact goods_nil
 case hf3 =>
 intro g V hF
 have hbf := hF.below
 clear hF
 simp only [finL, Pl.val, zA, zB, zC]
 refine wpList_store_row rfl 46 (.tmp 0) (.tmp 15) rfl w.heap.size R rfl rfl 46 z (XR_2.out.old hbf) ok.out.1 ok.out.2.2 ok.out.2.1 ?_
 have XR_3 := hid ((XR_2.out.old hbf).row R)
 have HB_3 := hid (below_row (g := w.heap.size) (HB_2.out.trans (hbf.mono HB_2.out.size)) (Nat.le_refl _) R)
 clear XR_2 YY_2 XX_2 HB_2 PV hbf DD3
 generalize V.setRow w.heap.size R = W3 at *
 have PV : Hid (∀ V, Below W3.heap.size W3 V → PrimeAt V) := hid fun V hV => HP.out.old (HB_3.out.trans (hV.mono HB_3.out.size))
 go_wp2_with fail
 refine bodyPost_ret (v := .agg R) ?_ rfl ⟨rfl, HB_3.out⟩
 exact results_cell_row Tryz.results15 _ _ w.heap.size 46 _ (0, 0) _ rfl XR_3.out Tryz.underlying46 rfl ok.out.1
theorem basePU (w : World) (hP : PrimeAt w) (hT : TurnAt w) : Calls Tryz.prog 15 #[] w fun e w' => ∃ c, e = .returned (.agg c) ∧ PU pbase c ∧ Below w.heap.size w w' := by
 refine (baseP w hP hT).mono ?_
 rintro e w' ⟨rfl, hb⟩
 exact ⟨_, rfl, ⟨_, _, _, rep_one pbase, rfl⟩, hb⟩
end Go.Proofs.YtcfogpeinjehbaaGreatDoor
end

section
namespace Go.Proofs.YtcfogpeinjehbaaGreatDoor
open Go Go.Proofs Go.RowKit F5
theorem or_128 : ∀ x : Fin 128, bits .or .u8 ((x.val : Nat) : Int) 128 = ((x.val + 128 : Nat) : Int) := by decide +kernel
set_option maxHeartbeats 4000000 in
set_option maxRecDepth 100000 in
theorem bytesPU {p : Pt} {A : Array Value} (hA : PU p A) (w : World) (hP : PrimeAt w) :
  Calls Tryz.prog 17 #[.agg A] w fun e w' => e = .returned (.agg (bytesA (fbytes (enc p)))) ∧ Below w.heap.size w w' := by
 obtain ⟨X, Y, Z, hrep, rfl⟩ := hA
 obtain ⟨hx, hy⟩ := rep_x hrep
 obtain ⟨Zi, hZi⟩ : ∃ a : Fp, Hid (a = finv Z) := ⟨_, hid rfl⟩
 rw [← hZi.out] at hx hy
 obtain ⟨x, hxx⟩ : ∃ a : Fp, Hid (a = p.x) := ⟨_, hid rfl⟩
 obtain ⟨y, hyy⟩ : ∃ a : Fp, Hid (a = p.y) := ⟨_, hid rfl⟩
 rw [← hxx.out] at hx
 rw [← hyy.out] at hy
 have MUL (p q r : Fp) (h : p * q = r) : Hid (∀ V, PrimeAt V → Calls Tryz.prog 37 #[.agg (cE p), .agg (cE q)] V fun e w' => e = .returned (.agg (cE r)) ∧ Below V.heap.size V w') := hid fun V hV => by rw [← h]; exact eMul _ _ V hV
 have SUB (p q r : Fp) (h : p - q = r) : Hid (∀ V, PrimeAt V → Calls Tryz.prog 67 #[.agg (cE p), .agg (cE q)] V fun e w' => e = .returned (.agg (cE r)) ∧ Below V.heap.size V w') := hid fun V hV => by rw [← h]; exact eSub _ _ V hV
 have ADD (p q r : Fp) (h : p + q = r) : Hid (∀ V, PrimeAt V → Calls Tryz.prog 66 #[.agg (cE p), .agg (cE q)] V fun e w' => e = .returned (.agg (cE r)) ∧ Below V.heap.size V w') := hid fun V hV => by rw [← h]; exact eAdd _ _ V hV
 have CX := MUL _ _ _ hx
 have CY := MUL _ _ _ hy
 have CI : Hid (∀ V, PrimeAt V → Calls Tryz.prog 38 #[.agg (cE Z)] V fun e w' => e = .returned (.agg (cE Zi)) ∧ Below V.heap.size V w') := hid fun V hV => by rw [hZi.out]; exact eInv _ V hV
 obtain ⟨bs, hbs⟩ : ∃ c, Hid (c = bytesA (fbytes y.val)) := ⟨_, hid rfl⟩
 have CB : Hid (∀ V, Calls Tryz.prog 45 #[.agg (cE y)] V fun e w' => e = .returned (.agg bs) ∧ Below V.heap.size V w') := hid fun V => by rw [hbs.out]; exact eBytes _ V
 obtain ⟨b, hb⟩ : ∃ b, Hid (b = decide (x.val % 2 = 1)) := ⟨_, hid rfl⟩
 have CO : Hid (∀ V, Calls Tryz.prog 46 #[.agg (cE x)] V fun e w' => e = .returned (.bool b) ∧ Below V.heap.size V w') := hid fun V => by rw [hb.out]; exact eOdd _ V
 obtain ⟨zb, hzb⟩ : ∃ z, Hid (z = bytesA (List.replicate 32 0)) := ⟨_, hid rfl⟩
 have hzb0 : ∀ W, (zeroValue 24).run Tryz.prog W = .ok (.agg zb) W := by
  rw [hzb.out]; exact (zero_of_info (n := 32) (by kernel_rfl)).1
 have oB : Hid ((Tryz.prog.info? 24).map (·.size) = some bs.size ∧ bs.all (·.oneCell') = true ∧ zb.size = bs.size) := hid (by rw [hbs.out, hzb.out]; exact ⟨fbytes_info _, bytesA_one _, by rw [bytesA_size, bytesA_size, fbytes_length]; rfl⟩)
 have hev : Hid (b = false → bs = bytesA (fbytes (enc p))) := hid fun h => by
  rw [hb.out, hxx.out] at h
  rw [hbs.out, hyy.out, enc_even (by have := of_decide_eq_false h; omega)]
 obtain ⟨xb, hxb⟩ := named (y.val / 256 ^ 31 % 256)
 have hx128 : xb < 128 := by
  have h1 := y.isLt
  have h2 := P_255
  have e1 : (256 : Nat) ^ 31 = 2 ^ 248 := by decide
  rw [hxb.out, e1]
  omega
 obtain ⟨nx, hnx⟩ := named (xb + 128)
 have hor : bits .or .u8 (xb : Int) 128 = (nx : Int) := by rw [hnx.out]; exact or_128 ⟨xb, hx128⟩
 have hcl : Hid (bs[31]? = some (.int .u8 (xb : Int))) := by
  rw [hbs.out, bytesA_get _ _ (by rw [fbytes_length]; omega), fbytes_get _ _ (by omega), hxb.out]; exact hid rfl
 have hod : Hid (b = true → bs.setIfInBounds 31 (.int .u8 (nx : Int)) = bytesA (fbytes (enc p))) := hid fun h => by
  rw [hb.out, hxx.out] at h
  have hn : (UInt8.ofNat nx).toNat = nx := by rw [UInt8.toNat_ofNat', hnx.out]; omega
  have hl := hx128
  rw [hxb.out] at hl
  rw [enc_odd (of_decide_eq_true h), ← hyy.out, ← fbytes_top (Nat.lt_trans y.isLt P_255) (UInt8.ofNat nx) (by rw [hn, hnx.out, hxb.out]), hbs.out, ← bytesA_set, hn]
 obtain ⟨out, hout⟩ : ∃ o, Hid (o = bytesA (fbytes (enc p))) := ⟨_, hid rfl⟩
 have oO : Hid ((Tryz.prog.info? 24).map (·.size) = some out.size ∧ out.all (·.oneCell') = true ∧ zb.size = out.size) := hid (by rw [hout.out, hzb.out]; exact ⟨fbytes_info _, bytesA_one _, by rw [bytesA_size, bytesA_size, fbytes_length]; rfl⟩)
 rw [← hout.out] at hev hod ⊢
 clear MUL SUB ADD hrep hx hy hZi hxx hyy hbs hb hzb hxb hout
 obtain ⟨z, hz⟩ : ∃ z, Hid (z = uV 0 0 0) := ⟨_, hid rfl⟩
 have hz0 : ∀ W, (zeroValue 46).run Tryz.prog W = .ok (.agg z) W := by rw [hz.out]; exact zeroU
 obtain ⟨zf, hzf⟩ : ∃ z, Hid (z = cE 0) := ⟨_, hid rfl⟩
 have hzf0 : ∀ W, (zeroValue 44).run Tryz.prog W = .ok (.agg zf) W := by rw [hzf.out]; exact zeroE
 have ofE : Hid (∀ a : Fp, zf.size = (cE a).size) := hid (fun a => by rw [hzf.out]; exact cE_sz _ _)
 have oA := hid (uV_okz X Y Z)
 have KX := hid (fun (V : World) g T (h : Blk V g T (uV X Y Z)) => uV_cell_x h)
 have KY := hid (fun (V : World) g T (h : Blk V g T (uV X Y Z)) => uV_cell_y h)
 have KZ := hid (fun (V : World) g T (h : Blk V g T (uV X Y Z)) => uV_cell_z h)
 generalize uV X Y Z = A at *
 obtain ⟨b1, b2, hb⟩ := two_blks w A zb 46 24
 have HP := hid hP
 clear hz hz0 z hzf hP hnx
 go_enter Tryz.func17, Tryz.ntmps17
 go_upto_region 1 with fail
 generalize (w.alloc (.cells A 46)).alloc (.cells zb 24) = W at *
 have P1 := hid b1
 have XR := hid b2
 have HB := hid hb
 clear b1 b2 hb
 (try simp only [Act.put, zA, zB, zC])
 have PV : Hid (∀ V, Below W.heap.size W V → PrimeAt V) := hid fun V hV => HP.out.old (HB.out.trans (hV.mono HB.out.size))
 have DD1 : Hid (∀ V, Below W.heap.size W V → Below W.heap.size W V) := hid fun _ h => h
 refine wp_sched [(5, .is (.pointer (some ⟨w.heap.size, 0 + 8, none⟩))), (6, .is (.agg (cE Z))), (7, .is (.agg (cE Zi))), (3, .fresh 44 zf)] (fun V => Below W.heap.size W V) (by kernel_rfl) (by kernel_rfl) (by kernel_rfl) (by kernel_rfl) DD1.out ?hg1 _ (by rfl) ?hf1
 case hg1 =>
  refine goods_is (fun a V h hS K Q hK => op_quiet (quiet_field _ (.tmp 1) 2 _ _ (look_at h 1) (fa2 _ _) rfl) hK) ?_
  refine goods_is (fun a V h hS K Q hK => op_quiet (quiet_load_off 44 (.tmp 5) _ _ (look_at h 5) (cE Z) _ (KZ.out _ _ _ (P1.out.old hS)) Tryz.underlying44 rfl (cE_ok _).1 (by kernel_rfl)) hK) ?_
  refine goods_is (fun a V h hS K Q hK => op_callK #[.tmp 6] #[.agg (cE Z)] (map1 (look_at h 6)) (CI.out V (PV.out V hS)) hK) ?_
  refine goods_fresh (by kernel_rfl) hzf0 ?_
  exact goods_nil
 case hf1 =>
 intro g V hF
 obtain ⟨lg3, bg3⟩ := hF.blk 3 _ _ rfl
 have hbf := hF.below
 clear hF
 simp only [finL, Pl.val, zA, zB, zC]
 generalize g 3 = g3 at *
 refine wpList_store_row rfl 44 (.tmp 3) (.tmp 7) rfl g3 (cE Zi) rfl rfl 44 zf bg3 (cE_ok _).1 (ofE.out _) (cE_ok _).2 ?_
 have P1_1 := hid ((P1.out.old hbf).rowFar (Nat.ne_of_lt (Nat.lt_of_lt_of_le P1.out.lt lg3)) (cE Zi))
 have XR_1 := hid ((XR.out.old hbf).rowFar (Nat.ne_of_lt (Nat.lt_of_lt_of_le XR.out.lt lg3)) (cE Zi))
 have ZI_1 := hid (bg3.row (cE Zi))
 have LG3 := hid (Nat.le_trans HB.out.size lg3)
 have HB_1 := hid (below_row (g := g3) (HB.out.trans (hbf.mono HB.out.size)) (Nat.le_trans HB.out.size lg3) (cE Zi))
 clear P1 XR HB PV lg3 bg3 hbf DD1
 generalize V.setRow g3 (cE Zi) = W1 at *
 have PV : Hid (∀ V, Below W1.heap.size W1 V → PrimeAt V) := hid fun V hV => HP.out.old (HB_1.out.trans (hV.mono HB_1.out.size))
 go_upto_region 2 with fail
 (try simp only [Act.put, zA, zB, zC])
 have DD2 : Hid (∀ V, Below W1.heap.size W1 V → Below W1.heap.size W1 V) := hid fun _ h => h
 refine wp_sched [(8, .is (.pointer (some ⟨w.heap.size, 0 + 4, none⟩))), (9, .is (.agg (cE Y))), (10, .is (.agg (cE Zi))), (11, .is (.agg (cE y))), (12, .is (.agg bs)), (4, .fresh 24 zb)] (fun V => Below W1.heap.size W1 V) (by kernel_rfl) (by kernel_rfl) (by kernel_rfl) (by kernel_rfl) DD2.out ?hg2 _ (by rfl) ?hf2
 case hg2 =>
  refine goods_is (fun a V h hS K Q hK => op_quiet (quiet_field _ (.tmp 1) 1 _ _ (look_at h 1) (fa1 _ _) rfl) hK) ?_
  refine goods_is (fun a V h hS K Q hK => op_quiet (quiet_load_off 44 (.tmp 8) _ _ (look_at h 8) (cE Y) _ (KY.out _ _ _ (P1_1.out.old hS)) Tryz.underlying44 rfl (cE_ok _).1 (by kernel_rfl)) hK) ?_
  refine goods_is (fun a V h hS K Q hK => op_quiet (quiet_load_row 44 (.tmp 3) _ (look_at h 3) 44 (cE Zi) _ (ZI_1.out.old hS) Tryz.underlying44 rfl (cE_ok _).1 (by kernel_rfl)) hK) ?_
  refine goods_is (fun a V h hS K Q hK => op_callK #[.tmp 9, .tmp 10] #[.agg (cE Y), .agg (cE Zi)] (map2 (look_at h 9) (look_at h 10)) (CY.out V (PV.out V hS)) hK) ?_
  refine goods_is (fun a V h hS K Q hK => op_callK #[.tmp 11] #[.agg (cE y)] (map1 (look_at h 11)) (CB.out V) hK) ?_
  refine goods_fresh (by kernel_rfl) hzb0 ?_
  exact goods_nil
 case hf2 =>
 intro g V hF
 obtain ⟨lg4, bg4⟩ := hF.blk 5 _ _ rfl
 have hbf := hF.below
 clear hF
 simp only [finL, Pl.val, zA, zB, zC]
 generalize g 5 = g4 at *
 refine wpList_store_row rfl 24 (.tmp 4) (.tmp 12) rfl g4 bs rfl rfl 24 zb bg4 oB.out.1 oB.out.2.2 oB.out.2.1 ?_
 have P1_2 := hid ((P1_1.out.old hbf).rowFar (Nat.ne_of_lt (Nat.lt_of_lt_of_le P1_1.out.lt lg4)) bs)
 have XR_2 := hid ((XR_1.out.old hbf).rowFar (Nat.ne_of_lt (Nat.lt_of_lt_of_le XR_1.out.lt lg4)) bs)
 have ZI_2 := hid ((ZI_1.out.old hbf).rowFar (Nat.ne_of_lt (Nat.lt_of_lt_of_le ZI_1.out.lt lg4)) bs)
 have BS_2 := hid (bg4.row bs)
 have NE4 := hid (Nat.ne_of_lt (Nat.lt_of_lt_of_le XR_1.out.lt lg4))
 have LG4 := hid (Nat.le_trans HB_1.out.size lg4)
 have HB_2 := hid (below_row (g := g4) (HB_1.out.trans (hbf.mono HB_1.out.size)) (Nat.le_trans HB_1.out.size lg4) bs)
 clear P1_1 XR_1 ZI_1 HB_1 PV lg4 bg4 hbf DD2
 generalize V.setRow g4 bs = W2 at *
 have PV : Hid (∀ V, Below W2.heap.size W2 V → PrimeAt V) := hid fun V hV => HP.out.old (HB_2.out.trans (hV.mono HB_2.out.size))
 go_upto_region 3 with fail
 (try simp only [Act.put, zA, zB, zC])
 have DD3 : Hid (∀ V, Below W2.heap.size W2 V → Below W2.heap.size W2 V) := hid fun _ h => h
 refine wp_sched [(13, .is (.pointer (some ⟨w.heap.size, 0, none⟩))), (14, .is (.agg (cE X))), (15, .is (.agg (cE Zi))), (16, .is (.agg (cE x))), (17, .is (.bool b))] (fun V => Below W2.heap.size W2 V) (by kernel_rfl) (by kernel_rfl) (by kernel_rfl) (by kernel_rfl) DD3.out ?hg3 _ (by rfl) ?hf3
 case hg3 =>
  refine goods_is (fun a V h hS K Q hK => op_quiet (quiet_field _ (.tmp 1) 0 _ _ (look_at h 1) (fa0 _ _) rfl) hK) ?_
  refine goods_is (fun a V h hS K Q hK => op_quiet (quiet_load_off 44 (.tmp 13) _ _ (look_at h 13) (cE X) _ (KX.out _ _ _ (P1_2.out.old hS)) Tryz.underlying44 rfl (cE_ok _).1 (by kernel_rfl)) hK) ?_
  refine goods_is (fun a V h hS K Q hK => op_quiet (quiet_load_row 44 (.tmp 3) _ (look_at h 3) 44 (cE Zi) _ (ZI_2.out.old hS) Tryz.underlying44 rfl (cE_ok _).1 (by kernel_rfl)) hK) ?_
  refine goods_is (fun a V h hS K Q hK => op_callK #[.tmp 14, .tmp 15] #[.agg (cE X), .agg (cE Zi)] (map2 (look_at h 14) (look_at h 15)) (CX.out V (PV.out V hS)) hK) ?_
  refine goods_is (fun a V h hS K Q hK => op_callK #[.tmp 16] #[.agg (cE x)] (map1 (look_at h 16)) (CO.out V) hK) ?_
  exact goods_nil
 case hf3 =>
 intro g V hF
 have hbf := hF.below
 clear hF
 simp only [finL, Pl.val, zA, zB, zC]
 refine tail_nil ?_
 have XR_3 := hid (XR_2.out.old hbf)
 have BS_3 := hid (BS_2.out.old hbf)
 have HB_3 := hid (HB_2.out.trans (hbf.mono HB_2.out.size))
 clear P1_2 XR_2 ZI_2 BS_2 HB_2 PV hbf DD3
 generalize V = W3 at *
 have PV : Hid (∀ V, Below W3.heap.size W3 V → PrimeAt V) := hid fun V hV => HP.out.old (HB_3.out.trans (hV.mono HB_3.out.size))
 cases hbv : b
 ·have E := hev.out hbv
  subst E
  have XF := hid (XR_3.out.row bs)
  have HF := hid (below_row (g := w.heap.size + 1) HB_3.out (Nat.le_succ _) bs)
  clear hbv hev hod
  go_wp2_with (first | (refine wpList_load_row rfl 24 (.tmp 4) rfl g4 rfl 24 bs (0, 0) _ BS_3.out Tryz.underlying24 rfl oB.out.1 ?_) | (refine wpList_store_row rfl 24 (.tmp 2) (.tmp 22) rfl (w.heap.size + 1) bs rfl rfl 24 zb XR_3.out oB.out.1 oB.out.2.2 oB.out.2.1 ?_))
  refine bodyPost_ret (v := .agg bs) ?_ rfl ⟨rfl, HF.out⟩
  exact results_cell_row Tryz.results17 _ _ (w.heap.size + 1) 24 _ (0, 0) _ rfl XF.out Tryz.underlying24 rfl oB.out.1
 ·have hcell := (BS_3.out.cell 31).trans hcl.out
  have hfz := BS_3.out.frozen 31
  have hal : Tryz.prog.arrayLen 24 = 32 := by kernel_rfl
  have hel : Tryz.prog.elem 24 = 5 := by kernel_rfl
  have B2 := BS_3.out.set_ 31 (.int .u8 (nx : Int))
  rw [hod.out hbv] at B2
  have BO := hid B2
  have hne : w.heap.size + 1 ≠ g4 := NE4.out
  have XO := hid (XR_3.out.far (p := ⟨g4, 31, none⟩) hne (.int .u8 (nx : Int)))
  have HBO := hid (HB_3.out.setCell (p := ⟨g4, 31, none⟩) LG4.out (.int .u8 (nx : Int)))
  clear hbv hev hod B2
  go_upto_region 5 with fail
  generalize W3.setCell ⟨g4, 31, none⟩ (.int .u8 (nx : Int)) = W4 at *
  have XF := hid (XO.out.row out)
  have HF := hid (below_row (g := w.heap.size + 1) HBO.out (Nat.le_succ _) out)
  clear hcell hfz
  go_wp2_with (first | (refine wpList_load_row rfl 24 (.tmp 4) rfl g4 rfl 24 out (0, 0) _ BO.out Tryz.underlying24 rfl oO.out.1 ?_) | (refine wpList_store_row rfl 24 (.tmp 2) (.tmp 22) rfl (w.heap.size + 1) out rfl rfl 24 zb XO.out oO.out.1 oO.out.2.2 oO.out.2.1 ?_))
  refine bodyPost_ret (v := .agg out) ?_ rfl ⟨rfl, HF.out⟩
  exact results_cell_row Tryz.results17 _ _ (w.heap.size + 1) 24 _ (0, 0) _ rfl XF.out Tryz.underlying24 rfl oO.out.1
end Go.Proofs.YtcfogpeinjehbaaGreatDoor
end

section
namespace Go.Proofs.YtcfogpeinjehbaaGreatDoor
open Go Go.Proofs Go.RowKit F5
theorem and_128 : ∀ x : Fin 256, (bits .and .u8 ((x.val : Nat) : Int) 128 != 0) = decide (128 ≤ x.val) := by decide +kernel
theorem andNot_128 : ∀ x : Fin 256, bits .andNot .u8 ((x.val : Nat) : Int) 128 = ((x.val % 128 : Nat) : Int) := by decide +kernel
theorem quiet_slice32 {o : Oper} {ev : Operand → Value} {V : World} (x : Operand) (g : Nat) (hx : ev x = .pointer (some ⟨g, 0, none⟩)) (ho : o.op = .slice 24 x none none none) : (execOp ev o).run Tryz.prog V = .ok (.value (.slice (some ⟨g, 0, none⟩) 32 32)) V := by
 have := slice32 g V
 unfold execOp
 simp only [ho, hx, Option.map_none, Sem.run_bind, this, Sem.run_pure, Result.andThen_ok]
theorem quiet_arr32 {o : Oper} {ev : Operand → Value} {V : World} (x : Operand) (ad : Addr) (n : Nat) (hx : ev x = .slice (some ad) 32 n) (ho : o.op = .sliceToArrayPointer 24 x) : (execOp ev o).run Tryz.prog V = .ok (.value (.pointer (some ad))) V := by
 have := arr32 (some ad) 32 n (Nat.le_refl _) V
 unfold execOp
 simp only [ho, hx, Sem.run_bind, this, Sem.run_pure, Result.andThen_ok]
/-- What Get answers. -/
def GetEnd (v : Nat) (w : World) (e : Ending) (w' : World) : Prop := ∃ c x, e = .returned (.tuple #[.agg c, .int .i64 x]) ∧ (if okP v then x = 0 else x = 8) ∧ (∀ h : okP v, PU (pget v h) c) ∧ (Tryz.prog.info? 46).map (·.size) = some c.size ∧ c.all (·.oneCell') = true ∧ (uV 0 0 0).size = c.size ∧ Below w.heap.size w w'
theorem GetEnd.bad {v : Nat} {w w' : World} (h : ¬ okP v) (hb : Below w.heap.size w w') {z : Array Value} (hz : z = uV 0 0 0) : GetEnd v w (.returned (.tuple #[.agg z, .int .i64 8])) w' := by
 subst hz
 obtain ⟨h1, h2, h3⟩ := uV_ok 0 0 0
 exact ⟨_, 8, rfl, by rw [if_neg h], fun h2 => absurd h2 h, h1, h2, h3, hb⟩
theorem GetEnd.good {v : Nat} {w w' : World} (h : okP v) {c : Array Value} (hc : c = uV (gx v) (gy v) 1) (hb : Below w.heap.size w w') : GetEnd v w (.returned (.tuple #[.agg c, .int .i64 0])) w' := by
 subst hc
 obtain ⟨h1, h2, h3⟩ := uV_ok (gx v) (gy v) 1
 exact ⟨_, 0, rfl, by rw [if_pos h], fun h2 => ⟨_, _, _, rep_one (pget v h2), rfl⟩, h1, h2, h3, hb⟩
set_option maxHeartbeats 4000000 in
set_option maxRecDepth 100000 in
theorem get32PU (v : Nat) (ad : Addr) (n : Nat) (w : World) (hv : v < 2 ^ 256) (hr : Reads w w.heap.size 1 (some ad) 32 (Lib.byteCells (fbytes v))) (hn : 32 ≤ n) (hm : n ≤ maxLen) (hP : PrimeAt w) (hT : TurnAt w) :
  Calls Tryz.prog 26 #[.slice (some ad) 32 n] w (GetEnd v w) := by
 have HP := hid hP
 have HT := hid hT
 have HRR := hid hr
 obtain ⟨u, hu⟩ := named (v % 2 ^ 255)
 have hu256 : u < 2 ^ 256 := by rw [hu.out]; exact Nat.lt_trans (Nat.mod_lt _ (by decide)) (by decide)
 obtain ⟨xb, hxb⟩ := named (v / 256 ^ 31 % 256)
 have hx256 : xb < 256 := by rw [hxb.out]; exact Nat.mod_lt _ (by decide)
 obtain ⟨r, hrr⟩ := named (xb % 128)
 obtain ⟨bo, hbo⟩ : ∃ b, Hid (b = decide (2 ^ 255 ≤ v)) := ⟨_, hid rfl⟩
 have hand : (bits .and .u8 (xb : Int) 128 != 0) = bo := by
  have h1 := and_128 ⟨xb, hx256⟩
  simp only at h1
  rw [h1, hbo.out]
  have e1 : (256 : Nat) ^ 31 = 2 ^ 248 := by decide
  have hx2 := hxb.out
  rw [e1] at hx2
  exact decide_eq_decide.2 (by omega)
 have hant : bits .andNot .u8 (xb : Int) 128 = (r : Int) := by rw [hrr.out]; exact andNot_128 ⟨xb, hx256⟩
 obtain ⟨bs, hbs⟩ : ∃ c, Hid (c = bytesA (fbytes v)) := ⟨_, hid rfl⟩
 obtain ⟨bs2, hbs2⟩ : ∃ c, Hid (c = bytesA (fbytes u)) := ⟨_, hid rfl⟩
 have hcl : Hid (bs[31]? = some (.int .u8 (xb : Int))) := by
  rw [hbs.out, bytesA_get _ _ (by rw [fbytes_length]; omega), fbytes_get _ _ (by omega), hxb.out]; exact hid rfl
 have hset : Hid (bs.setIfInBounds 31 (.int .u8 (r : Int)) = bs2) := by
  have hr128 : r < 128 := by rw [hrr.out]; exact Nat.mod_lt _ (by decide)
  have hn : (UInt8.ofNat r).toNat = r := by rw [UInt8.toNat_ofNat']; omega
  rw [hbs.out, hbs2.out, hu.out, ← fbytes_cut hv (UInt8.ofNat r) (by rw [hn, hrr.out, hxb.out]), ← bytesA_set, hn]
  exact hid rfl
 obtain ⟨zb, hzb⟩ : ∃ z, Hid (z = bytesA (List.replicate 32 0)) := ⟨_, hid rfl⟩
 have hzb0 : ∀ W, (zeroValue 24).run Tryz.prog W = .ok (.agg zb) W := by
  rw [hzb.out]; exact (zero_of_info (n := 32) (by kernel_rfl)).1
 have oB : Hid ((Tryz.prog.info? 24).map (·.size) = some bs.size ∧ bs.all (·.oneCell') = true ∧ zb.size = bs.size) := hid (by rw [hbs.out, hzb.out]; exact ⟨fbytes_info _, bytesA_one _, by rw [bytesA_size, bytesA_size, fbytes_length]; rfl⟩)
 have hload : Hid (∀ V, Below w.heap.size w V → ∀ j x, bs[j]? = some x → V.cell? (ad.add j) = some x) := hid fun V hV j x hj => by
  obtain ⟨ad', h1, h2, h3⟩ := (HRR.out.below hV).2 (by omega)
  cases h1
  exact h3 j x (by rw [hbs.out] at hj; simpa [bytesA] using hj)
 obtain ⟨z, hz⟩ : ∃ z, Hid (z = uV 0 0 0) := ⟨_, hid rfl⟩
 have hz0 : ∀ W, (zeroValue 46).run Tryz.prog W = .ok (.agg z) W := by rw [hz.out]; exact zeroU
 obtain ⟨zf, hzf⟩ : ∃ z, Hid (z = cE 0) := ⟨_, hid rfl⟩
 have hzf0 : ∀ W, (zeroValue 44).run Tryz.prog W = .ok (.agg zf) W := by rw [hzf.out]; exact zeroE
 have ofE : Hid (∀ a : Fp, zf.size = (cE a).size) := hid (fun a => by rw [hzf.out]; exact cE_sz _ _)
 have hzu : Hid (z = uV 0 0 0) := hz
 have hBN : Hid (Tryz.prog.built 46 [] = some z) := by rw [hz.out]; exact hid built_nilU
 have oz : Hid ((Tryz.prog.info? 46).map (·.size) = some z.size ∧ z.all (·.oneCell') = true) := by rw [hz.out]; exact hid ⟨uV_info _ _ _, uV_one _ _ _⟩
 obtain ⟨y, hy⟩ : ∃ y : Fp, Hid (y = gy v) := ⟨_, hid rfl⟩
 obtain ⟨x0, hx0⟩ : ∃ y, Hid (y = rootF (xsq (gy v))) := ⟨_, hid rfl⟩
 obtain ⟨b2, hb2⟩ : ∃ b, Hid (b = decide (hasRoot (xsq (gy v)).val)) := ⟨_, hid rfl⟩
 have CX : Hid (∀ V, PrimeAt V → Below w.heap.size w V → Calls Tryz.prog 39 #[.agg (cE y)] V fun e w' => e = .returned (.tuple #[.agg (cE x0), .bool b2]) ∧ Below V.heap.size V w') := hid fun V hV hW => by
  rw [hx0.out, hb2.out, hy.out]; exact evenX_any _ V hV (HT.out.old hW)
 obtain ⟨nil, h0⟩ : ∃ a : Fp, Hid (a = 0) := ⟨_, hid rfl⟩
 have C0 : Hid (∀ V, Calls Tryz.prog 36 #[.int .u64 0] V fun e w' => e = .returned (.agg (cE nil)) ∧ Below V.heap.size V w') := hid fun V => eOf 0 (by decide) (by decide) nil (by rw [h0.out]; rfl) _ rfl V
 obtain ⟨b0, hb0⟩ : ∃ b, Hid (b = decide (x0 = 0)) := ⟨_, hid rfl⟩
 have CS : Hid (∀ V, Calls Tryz.prog 65 #[.agg (cE x0), .agg (cE nil)] V fun e w' => e = .returned (.bool b0) ∧ Below V.heap.size V w') := hid fun V => by rw [hb0.out, h0.out]; exact eSame _ _ V
 obtain ⟨q1, hq1⟩ : ∃ c, Hid (c = uV x0 y 1) := ⟨_, hid rfl⟩
 obtain ⟨q2, hq2⟩ : ∃ c, Hid (c = uV (0 - x0) y 1) := ⟨_, hid rfl⟩
 have CP : Hid (∀ V, Calls Tryz.prog 40 #[.agg (cE x0), .agg (cE y)] V fun e w' => e = .returned (.agg q1) ∧ Below V.heap.size V w') := hid fun V => by rw [hq1.out]; exact pairP x0 y V
 have CN : Hid (∀ V, PrimeAt V → Calls Tryz.prog 30 #[.agg q1] V fun e w' => e = .returned (.agg q2) ∧ Below V.heap.size V w') := hid fun V hV => by rw [hq1.out, hq2.out]; exact negP x0 y 1 V hV
 have oq1 : Hid ((Tryz.prog.info? 46).map (·.size) = some q1.size ∧ q1.all (·.oneCell') = true ∧ z.size = q1.size) := by rw [hq1.out, hz.out]; exact hid (uV_ok _ _ _)
 have oq2 : Hid ((Tryz.prog.info? 46).map (·.size) = some q2.size ∧ q2.all (·.oneCell') = true ∧ z.size = q2.size) := by rw [hq2.out, hz.out]; exact hid (uV_ok _ _ _)
 have hokv : Hid (decide (okP v) = (decide (u < P) && b2 && !(bo && b0))) := hid (by
  rw [hu.out, hb2.out, hbo.out, hb0.out, hx0.out, Bool.eq_iff_iff]
  simp only [decide_eq_true_iff, Bool.and_eq_true, Bool.not_eq_true', Bool.and_eq_false_iff, decide_eq_false_iff_not]
  unfold okP gr
  constructor
  ·rintro ⟨h1, h2, h3⟩; exact ⟨⟨h1, h2⟩, Decidable.not_and_iff_or_not.1 h3⟩
  ·rintro ⟨⟨h1, h2⟩, h3⟩; exact ⟨h1, h2, Decidable.not_and_iff_or_not.2 h3⟩)
 have hg1 : Hid (bo = false → q1 = uV (gx v) (gy v) 1) := hid fun h => by
  rw [hbo.out] at h
  rw [hq1.out, hy.out, hx0.out]
  unfold gx gr
  rw [if_neg (by simpa using h)]
 have hg2 : Hid (bo = true → q2 = uV (gx v) (gy v) 1) := hid fun h => by
  rw [hbo.out] at h
  rw [hq2.out, hy.out, hx0.out]
  unfold gx gr
  rw [if_pos (by simpa using h)]
 have hyv : Hid (u < P → cE y = limA u) := hid fun h => by rw [hy.out, cE, gy_val (by rw [← hu.out]; exact h), hu.out]
 have b1 := Blk.new w 46 z
 have hb : Below w.heap.size w (w.alloc (.cells z 46)) := (Below.refl _ _).alloc (Nat.le_refl _) _
 clear hz hzf hP hT hr hv hu hxb hrr hbo hbs hzb hy hx0 hb2 h0 hb0 hq1 hq2 hn hm
 go_enter Tryz.func26, Tryz.ntmps26
 go_upto_region 1 with fail
 generalize w.alloc (.cells z 46) = W at *
 have XR := hid b1
 have HB := hid hb
 clear b1 hb
 go_upto_region 5 with fail
 (try simp only [Act.put, zA, zB, zC])
 have PV : Hid (∀ V, Below W.heap.size W V → PrimeAt V) := hid fun V hV => HP.out.old (HB.out.trans (hV.mono HB.out.size))
 have DD1 : Hid (∀ V, Below W.heap.size W V → Below W.heap.size W V) := hid fun _ h => h
 refine wp_sched [(18, .is (.slice (some ad) 32 n)), (19, .is (.pointer (some ad))), (20, .is (.agg bs)), (4, .fresh 24 zb)] (fun V => Below W.heap.size W V) (by kernel_rfl) (by kernel_rfl) (by kernel_rfl) (by kernel_rfl) DD1.out ?hg1 _ (by rfl) ?hf1
 case hg1 =>
  refine goods_is (fun a V h hS K Q hK => op_quiet (quiet_move (.tmp 0) (look_at h 0) (.inl (by kernel_rfl))) hK) ?_
  refine goods_is (fun a V h hS K Q hK => op_quiet (quiet_arr32 (.tmp 18) ad n (look_at h 18) (by kernel_rfl)) hK) ?_
  refine goods_is (fun a V h hS K Q hK => op_quiet (quiet_load_add 24 (.tmp 19) ad (look_at h 19) _ _ bs Tryz.underlying24 oB.out.1 (hload.out V (HB.out.trans (hS.mono HB.out.size))) (by kernel_rfl)) hK) ?_
  refine goods_fresh (by kernel_rfl) hzb0 ?_
  exact goods_nil
 case hf1 =>
 intro g V hF
 obtain ⟨lg4, bg4⟩ := hF.blk 3 _ _ rfl
 have hbf := hF.below
 clear hF
 simp only [finL, Pl.val, zA, zB, zC]
 generalize g 3 = g4 at *
 refine wpList_store_row rfl 24 (.tmp 4) (.tmp 20) rfl g4 bs rfl rfl 24 zb bg4 oB.out.1 oB.out.2.2 oB.out.2.1 ?_
 have XR_1 := hid ((XR.out.old hbf).rowFar (Nat.ne_of_lt (Nat.lt_of_lt_of_le XR.out.lt lg4)) bs)
 have BS_1 := hid (bg4.row bs)
 have NE4 := hid (Nat.ne_of_lt (Nat.lt_of_lt_of_le XR.out.lt lg4))
 have LG4 := hid (Nat.le_trans HB.out.size lg4)
 have HB_1 := hid (below_row (g := g4) (HB.out.trans (hbf.mono HB.out.size)) (Nat.le_trans HB.out.size lg4) bs)
 clear XR HB PV lg4 bg4 hbf DD1
 generalize V.setRow g4 bs = W1 at *
 have PV : Hid (∀ V, Below W1.heap.size W1 V → PrimeAt V) := hid fun V hV => HP.out.old (HB_1.out.trans (hV.mono HB_1.out.size))
 have hcell := (BS_1.out.cell 31).trans hcl.out
 have hfz := BS_1.out.frozen 31
 have hal : Tryz.prog.arrayLen 24 = 32 := by kernel_rfl
 have hel : Tryz.prog.elem 24 = 5 := by kernel_rfl
 have B2 := BS_1.out.set_ 31 (.int .u8 (r : Int))
 rw [hset.out] at B2
 have BO := hid B2
 have XO := hid (XR_1.out.far (p := ⟨g4, 31, none⟩) NE4.out (.int .u8 (r : Int)))
 have HBO := hid (HB_1.out.setCell (p := ⟨g4, 31, none⟩) LG4.out (.int .u8 (r : Int)))
 clear B2 PV
 go_upto_region 8 with fail
 generalize W1.setCell ⟨g4, 31, none⟩ (.int .u8 (r : Int)) = W2 at *
 (try simp only [Act.put, zA, zB, zC])
 clear hcell hfz hal hel BS_1 XR_1 HB_1
 have PV : Hid (∀ V, Below W2.heap.size W2 V → PrimeAt V) := hid fun V hV => HP.out.old (HBO.out.trans (hV.mono HBO.out.size))
 have RD : Hid (∀ V, Below W2.heap.size W2 V → Reads V V.heap.size 1 (some ⟨g4, 0, none⟩) 32 (Lib.byteCells (fbytes u))) := hid fun V hV => by
  have := BO.out.old hV
  rw [hbs2.out] at this
  have := reads_blk this
  rwa [fbytes_length] at this
 by_cases hup : u < P
 ·skip
  have CG : Hid (∀ V, PrimeAt V → Below W2.heap.size W2 V → Calls Tryz.prog 64 #[.slice (some ⟨g4, 0, none⟩) 32 32] V fun e w' => e = .returned (.tuple #[.agg (cE y), .int .i64 0]) ∧ Below V.heap.size V w') := hid fun V hV hS => by
   have := get_32 u hu256 ⟨g4, 0, none⟩ 32 V (RD.out V hS) hV
   simp only [hup, if_true] at this
   rw [elemV, ← hyv.out hup] at this
   exact this
  have DD2 : Hid (∀ V, Below W2.heap.size W2 V → Below W2.heap.size W2 V) := hid fun _ h => h
  refine wp_sched [(30, .is (.slice (some ⟨g4, 0, none⟩) 32 32)), (31, .is (.tuple #[.agg (cE y), .int .i64 0])), (29, .is (.tuple #[.agg (cE y), .int .i64 0])), (32, .is (.agg (cE y))), (33, .is (.int .i64 0)), (6, .fresh 44 zf)] (fun V => Below W2.heap.size W2 V) (by kernel_rfl) (by kernel_rfl) (by kernel_rfl) (by kernel_rfl) DD2.out ?hg2 _ (by rfl) ?hf2
  case hg2 =>
   refine goods_is (fun a V h hS K Q hK => op_quiet (quiet_slice32 (.tmp 4) g4 (look_at h 4) (by kernel_rfl)) hK) ?_
   refine goods_is (fun a V h hS K Q hK => op_callK #[.tmp 30] #[.slice (some ⟨g4, 0, none⟩) 32 32] (map1 (look_at h 30)) (CG.out V (PV.out V hS) hS) hK) ?_
   refine goods_is (fun a V h hS K Q hK => op_quiet (quiet_move (.tmp 31) (look_at h 31) (.inl (by kernel_rfl))) hK) ?_
   refine goods_is (fun a V h hS K Q hK => op_quiet (quiet_extract (t := #[.agg (cE y), .int .i64 0]) (.tmp 29) 0 (look_at h 29) rfl (by kernel_rfl)) hK) ?_
   refine goods_is (fun a V h hS K Q hK => op_quiet (quiet_extract (t := #[.agg (cE y), .int .i64 0]) (.tmp 29) 1 (look_at h 29) rfl (by kernel_rfl)) hK) ?_
   refine goods_fresh (by kernel_rfl) hzf0 ?_
   exact goods_nil
  case hf2 =>
  intro g V hF
  obtain ⟨lg6, bg6⟩ := hF.blk 5 _ _ rfl
  have hbf := hF.below
  clear hF
  simp only [finL, Pl.val, zA, zB, zC]
  generalize g 5 = g6 at *
  refine wpList_store_row rfl 44 (.tmp 6) (.tmp 32) rfl g6 (cE y) rfl rfl 44 zf bg6 (cE_ok _).1 (ofE.out _) (cE_ok _).2 ?_
  have XR_2 := hid ((XO.out.old hbf).rowFar (Nat.ne_of_lt (Nat.lt_of_lt_of_le XO.out.lt lg6)) (cE y))
  have YY_2 := hid (bg6.row (cE y))
  have LG6 := hid (Nat.le_trans HBO.out.size lg6)
  have HB_2 := hid (below_row (g := g6) (HBO.out.trans (hbf.mono HBO.out.size)) (Nat.le_trans HBO.out.size lg6) (cE y))
  clear XO BO HBO PV lg6 bg6 hbf DD2
  generalize V.setRow g6 (cE y) = W3 at *
  have PV : Hid (∀ V, Below W3.heap.size W3 V → PrimeAt V) := hid fun V hV => HP.out.old (HB_2.out.trans (hV.mono HB_2.out.size))
  have hok2 : Hid (decide (okP v) = (b2 && !(bo && b0))) := hid (by rw [hokv.out, decide_eq_true hup, Bool.true_and])
  clear hokv hup CG RD
  go_upto_region 11 with fail
  (try simp only [Act.put, zA, zB, zC])
  (try simp only [Act.put, zA, zB, zC])
  cases b2
  ·skip
   have DD3 : Hid (∀ V, Below W3.heap.size W3 V → Below W3.heap.size W3 V) := hid fun _ h => h
   refine wp_sched [(38, .is (.agg (cE y))), (39, .is (.tuple #[.agg (cE x0), .bool false])), (37, .is (.tuple #[.agg (cE x0), .bool false])), (40, .is (.agg (cE x0))), (41, .is (.bool false)), (8, .fresh 44 zf)] (fun V => Below W3.heap.size W3 V) (by kernel_rfl) (by kernel_rfl) (by kernel_rfl) (by kernel_rfl) DD3.out ?hg3 _ (by rfl) ?hf3
   case hg3 =>
    refine goods_is (fun a V h hS K Q hK => op_quiet (quiet_load_row 44 (.tmp 6) _ (look_at h 6) 44 (cE y) _ (YY_2.out.old hS) Tryz.underlying44 rfl (cE_ok _).1 (by kernel_rfl)) hK) ?_
    refine goods_is (fun a V h hS K Q hK => op_callK #[.tmp 38] #[.agg (cE y)] (map1 (look_at h 38)) (CX.out V (PV.out V hS) (HB_2.out.trans (hS.mono HB_2.out.size))) hK) ?_
    refine goods_is (fun a V h hS K Q hK => op_quiet (quiet_move (.tmp 39) (look_at h 39) (.inl (by kernel_rfl))) hK) ?_
    refine goods_is (fun a V h hS K Q hK => op_quiet (quiet_extract (t := #[.agg (cE x0), .bool false]) (.tmp 37) 0 (look_at h 37) rfl (by kernel_rfl)) hK) ?_
    refine goods_is (fun a V h hS K Q hK => op_quiet (quiet_extract (t := #[.agg (cE x0), .bool false]) (.tmp 37) 1 (look_at h 37) rfl (by kernel_rfl)) hK) ?_
    refine goods_fresh (by kernel_rfl) hzf0 ?_
    exact goods_nil
   case hf3 =>
   intro g V hF
   obtain ⟨lg8, bg8⟩ := hF.blk 5 _ _ rfl
   have hbf := hF.below
   clear hF
   simp only [finL, Pl.val, zA, zB, zC]
   generalize g 5 = g8 at *
   refine wpList_store_row rfl 44 (.tmp 8) (.tmp 40) rfl g8 (cE x0) rfl rfl 44 zf bg8 (cE_ok _).1 (ofE.out _) (cE_ok _).2 ?_
   have XR_3 := hid ((XR_2.out.old hbf).rowFar (Nat.ne_of_lt (Nat.lt_of_lt_of_le XR_2.out.lt lg8)) (cE x0))
   have YY_3 := hid ((YY_2.out.old hbf).rowFar (Nat.ne_of_lt (Nat.lt_of_lt_of_le YY_2.out.lt lg8)) (cE x0))
   have XX_3 := hid (bg8.row (cE x0))
   have LG8 := hid (Nat.le_trans HB_2.out.size lg8)
   have HB_3 := hid (below_row (g := g8) (HB_2.out.trans (hbf.mono HB_2.out.size)) (Nat.le_trans HB_2.out.size lg8) (cE x0))
   clear XR_2 YY_2 HB_2 PV lg8 bg8 hbf DD3
   generalize V.setRow g8 (cE x0) = W4 at *
   have PV : Hid (∀ V, Below W4.heap.size W4 V → PrimeAt V) := hid fun V hV => HP.out.old (HB_3.out.trans (hV.mono HB_3.out.size))
   go_upto_region 12 with fail
   (try simp only [Act.put, zA, zB, zC])
   (try simp only [Act.put, zA, zB, zC])
   have DD4 : Hid (∀ V, Below W4.heap.size W4 V → Below W4.heap.size W4 V) := hid fun _ h => h
   refine wp_sched [(42, .is (.bool false)), (43, .is (.bool true)), (44, .is (.bool true)), (45, .is undef), (46, .is undef), (47, .is undef), (48, .is undef), (49, .is undef), (50, .is undef), (51, .is (.bool true))] (fun V => Below W4.heap.size W4 V) (by kernel_rfl) (by kernel_rfl) (by kernel_rfl) (by kernel_rfl) DD4.out ?hg4 _ (by rfl) ?hf4
   case hg4 =>
    refine goods_is (fun a V h hS K Q hK => op_quiet (quiet_move (.tmp 9) (look_at h 9) (.inl (by kernel_rfl))) hK) ?_
    refine goods_is (fun a V h hS K Q hK => op_quiet (quiet_not (b := false) 4 (.tmp 42) (look_at h 42) (by kernel_rfl)) hK) ?_
    refine goods_is (fun a V h hS K Q hK => op_quiet (quiet_move (.tmp 43) (look_at h 43) (.inl (by kernel_rfl))) hK) ?_
    refine goods_off (j := 2) (want := false) (d := 44) (u := .bool true) (by kernel_rfl) (by kernel_rfl) (by kernel_rfl) (by kernel_rfl) (by kernel_rfl) ?_
    refine goods_off (j := 2) (want := false) (d := 44) (u := .bool true) (by kernel_rfl) (by kernel_rfl) (by kernel_rfl) (by kernel_rfl) (by kernel_rfl) ?_
    refine goods_off (j := 4) (want := true) (d := 46) (u := undef) (by kernel_rfl) (by kernel_rfl) (by kernel_rfl) (by kernel_rfl) (by kernel_rfl) ?_
    refine goods_off (j := 4) (want := true) (d := 46) (u := undef) (by kernel_rfl) (by kernel_rfl) (by kernel_rfl) (by kernel_rfl) (by kernel_rfl) ?_
    refine goods_off (j := 4) (want := true) (d := 46) (u := undef) (by kernel_rfl) (by kernel_rfl) (by kernel_rfl) (by kernel_rfl) (by kernel_rfl) ?_
    refine goods_off (j := 2) (want := false) (d := 44) (u := .bool true) (by kernel_rfl) (by kernel_rfl) (by kernel_rfl) (by kernel_rfl) (by kernel_rfl) ?_
    refine goods_is (fun a V h hS K Q hK => op_quiet (quiet_pickT (.tmp 44) (.const (.bool true)) (.tmp 50) (look_at h 44) rfl (by kernel_rfl)) hK) ?_
    exact goods_nil
   case hf4 =>
   intro g V hF
   have hbf := hF.below
   clear hF
   simp only [finL, Pl.val, zA, zB, zC]
   refine tail_nil ?_
   have XR_4 := hid (XR_3.out.old hbf)
   have HB_4 := hid (HB_3.out.trans (hbf.mono HB_3.out.size))
   clear XR_3 YY_3 XX_3 HB_3 PV hbf DD4
   generalize V = W5 at *
   have PV : Hid (∀ V, Below W5.heap.size W5 V → PrimeAt V) := hid fun V hV => HP.out.old (HB_4.out.trans (hV.mono HB_4.out.size))
   have HOK : Hid (decide (okP v) = false) := hid (by rw [hok2.out]; rfl)
   clear hok2
   have XF := hid (XR_4.out.row z)
   have HF := hid (below_row (g := w.heap.size) HB_4.out (Nat.le_refl _) z)
   go_wp2_with (first | (refine wpList_build_to rfl 46 #[] rfl [] (by simp [Act.eval]) z hBN.out ?_) | (refine wpList_store_row rfl 46 (.tmp 2) (.tmp 52) rfl w.heap.size z rfl rfl 46 z XR_4.out oz.out.1 rfl oz.out.2 ?_))
   refine bodyPost_ret (v := .tuple #[.agg z, .int .i64 8]) ?_ rfl (GetEnd.bad (of_decide_eq_false HOK.out) HF.out hzu.out)
   exact results_row_tmp1 Tryz.results26 _ _ w.heap.size 46 _ _ _ rfl rfl XF.out Tryz.underlying46 oz.out.1
  ·skip
   have DD3 : Hid (∀ V, Below W3.heap.size W3 V → Below W3.heap.size W3 V) := hid fun _ h => h
   refine wp_sched [(38, .is (.agg (cE y))), (39, .is (.tuple #[.agg (cE x0), .bool true])), (37, .is (.tuple #[.agg (cE x0), .bool true])), (40, .is (.agg (cE x0))), (41, .is (.bool true)), (8, .fresh 44 zf)] (fun V => Below W3.heap.size W3 V) (by kernel_rfl) (by kernel_rfl) (by kernel_rfl) (by kernel_rfl) DD3.out ?hg3 _ (by rfl) ?hf3
   case hg3 =>
    refine goods_is (fun a V h hS K Q hK => op_quiet (quiet_load_row 44 (.tmp 6) _ (look_at h 6) 44 (cE y) _ (YY_2.out.old hS) Tryz.underlying44 rfl (cE_ok _).1 (by kernel_rfl)) hK) ?_
    refine goods_is (fun a V h hS K Q hK => op_callK #[.tmp 38] #[.agg (cE y)] (map1 (look_at h 38)) (CX.out V (PV.out V hS) (HB_2.out.trans (hS.mono HB_2.out.size))) hK) ?_
    refine goods_is (fun a V h hS K Q hK => op_quiet (quiet_move (.tmp 39) (look_at h 39) (.inl (by kernel_rfl))) hK) ?_
    refine goods_is (fun a V h hS K Q hK => op_quiet (quiet_extract (t := #[.agg (cE x0), .bool true]) (.tmp 37) 0 (look_at h 37) rfl (by kernel_rfl)) hK) ?_
    refine goods_is (fun a V h hS K Q hK => op_quiet (quiet_extract (t := #[.agg (cE x0), .bool true]) (.tmp 37) 1 (look_at h 37) rfl (by kernel_rfl)) hK) ?_
    refine goods_fresh (by kernel_rfl) hzf0 ?_
    exact goods_nil
   case hf3 =>
   intro g V hF
   obtain ⟨lg8, bg8⟩ := hF.blk 5 _ _ rfl
   have hbf := hF.below
   clear hF
   simp only [finL, Pl.val, zA, zB, zC]
   generalize g 5 = g8 at *
   refine wpList_store_row rfl 44 (.tmp 8) (.tmp 40) rfl g8 (cE x0) rfl rfl 44 zf bg8 (cE_ok _).1 (ofE.out _) (cE_ok _).2 ?_
   have XR_3 := hid ((XR_2.out.old hbf).rowFar (Nat.ne_of_lt (Nat.lt_of_lt_of_le XR_2.out.lt lg8)) (cE x0))
   have YY_3 := hid ((YY_2.out.old hbf).rowFar (Nat.ne_of_lt (Nat.lt_of_lt_of_le YY_2.out.lt lg8)) (cE x0))
   have XX_3 := hid (bg8.row (cE x0))
   have LG8 := hid (Nat.le_trans HB_2.out.size lg8)
   have HB_3 := hid (below_row (g := g8) (HB_2.out.trans (hbf.mono HB_2.out.size)) (Nat.le_trans HB_2.out.size lg8) (cE x0))
   clear XR_2 YY_2 HB_2 PV lg8 bg8 hbf DD3
   generalize V.setRow g8 (cE x0) = W4 at *
   have PV : Hid (∀ V, Below W4.heap.size W4 V → PrimeAt V) := hid fun V hV => HP.out.old (HB_3.out.trans (hV.mono HB_3.out.size))
   go_upto_region 12 with fail
   (try simp only [Act.put, zA, zB, zC])
   (try simp only [Act.put, zA, zB, zC])
   cases bo
   ·skip
    have DD4 : Hid (∀ V, Below W4.heap.size W4 V → Below W4.heap.size W4 V) := hid fun _ h => h
    refine wp_sched [(42, .is (.bool true)), (43, .is (.bool false)), (44, .is (.bool false)), (45, .is (.bool false)), (46, .is (.bool false)), (47, .is undef), (48, .is undef), (49, .is undef), (50, .is (.bool false)), (51, .is (.bool false))] (fun V => Below W4.heap.size W4 V) (by kernel_rfl) (by kernel_rfl) (by kernel_rfl) (by kernel_rfl) DD4.out ?hg4 _ (by rfl) ?hf4
    case hg4 =>
     refine goods_is (fun a V h hS K Q hK => op_quiet (quiet_move (.tmp 9) (look_at h 9) (.inl (by kernel_rfl))) hK) ?_
     refine goods_is (fun a V h hS K Q hK => op_quiet (quiet_not (b := true) 4 (.tmp 42) (look_at h 42) (by kernel_rfl)) hK) ?_
     refine goods_is (fun a V h hS K Q hK => op_quiet (quiet_move (.tmp 43) (look_at h 43) (.inl (by kernel_rfl))) hK) ?_
     refine goods_on (j := 2) (want := false) (d := 44) (u := .bool false) (by kernel_rfl) (by kernel_rfl) (by kernel_rfl) (by kernel_rfl) (by kernel_rfl) (fun a V h hS K Q hK => op_quiet (quiet_move (.tmp 5) (look_at h 5) (.inl (by kernel_rfl))) hK) ?_
     refine goods_on (j := 2) (want := false) (d := 44) (u := .bool false) (by kernel_rfl) (by kernel_rfl) (by kernel_rfl) (by kernel_rfl) (by kernel_rfl) (fun a V h hS K Q hK => op_quiet (quiet_move (.tmp 45) (look_at h 45) (.inl (by kernel_rfl))) hK) ?_
     refine goods_off (j := 4) (want := true) (d := 46) (u := .bool false) (by kernel_rfl) (by kernel_rfl) (by kernel_rfl) (by kernel_rfl) (by kernel_rfl) ?_
     refine goods_off (j := 4) (want := true) (d := 46) (u := .bool false) (by kernel_rfl) (by kernel_rfl) (by kernel_rfl) (by kernel_rfl) (by kernel_rfl) ?_
     refine goods_off (j := 4) (want := true) (d := 46) (u := .bool false) (by kernel_rfl) (by kernel_rfl) (by kernel_rfl) (by kernel_rfl) (by kernel_rfl) ?_
     refine goods_on (j := 2) (want := false) (d := 44) (u := .bool false) (by kernel_rfl) (by kernel_rfl) (by kernel_rfl) (by kernel_rfl) (by kernel_rfl) (fun a V h hS K Q hK => op_quiet (quiet_pickF (.tmp 46) (.tmp 49) (.const (.bool false)) (look_at h 46) rfl (by kernel_rfl)) hK) ?_
     refine goods_is (fun a V h hS K Q hK => op_quiet (quiet_pickF (.tmp 44) (.const (.bool true)) (.tmp 50) (look_at h 44) (look_at h 50) (by kernel_rfl)) hK) ?_
     exact goods_nil
    case hf4 =>
    intro g V hF
    have hbf := hF.below
    clear hF
    simp only [finL, Pl.val, zA, zB, zC]
    refine tail_nil ?_
    have XR_4 := hid (XR_3.out.old hbf)
    have YY_4 := hid (YY_3.out.old hbf)
    have XX_4 := hid (XX_3.out.old hbf)
    have HB_4 := hid (HB_3.out.trans (hbf.mono HB_3.out.size))
    clear XR_3 YY_3 XX_3 HB_3 PV hbf DD4
    generalize V = W5 at *
    have PV : Hid (∀ V, Below W5.heap.size W5 V → PrimeAt V) := hid fun V hV => HP.out.old (HB_4.out.trans (hV.mono HB_4.out.size))
    have HOK : Hid (decide (okP v) = true) := hid (by rw [hok2.out]; rfl)
    clear hok2
    go_upto_region 16 with fail
    (try simp only [Act.put, zA, zB, zC])
    (try simp only [Act.put, zA, zB, zC])
    have DD5 : Hid (∀ V, Below W5.heap.size W5 V → Below W5.heap.size W5 V) := hid fun _ h => h
    refine wp_sched [(58, .is (.agg (cE x0))), (59, .is (.agg (cE y))), (60, .is (.agg q1))] (fun V => Below W5.heap.size W5 V) (by kernel_rfl) (by kernel_rfl) (by kernel_rfl) (by kernel_rfl) DD5.out ?hg5 _ (by rfl) ?hf5
    case hg5 =>
     refine goods_is (fun a V h hS K Q hK => op_quiet (quiet_load_row 44 (.tmp 8) _ (look_at h 8) 44 (cE x0) _ (XX_4.out.old hS) Tryz.underlying44 rfl (cE_ok _).1 (by kernel_rfl)) hK) ?_
     refine goods_is (fun a V h hS K Q hK => op_quiet (quiet_load_row 44 (.tmp 6) _ (look_at h 6) 44 (cE y) _ (YY_4.out.old hS) Tryz.underlying44 rfl (cE_ok _).1 (by kernel_rfl)) hK) ?_
     refine goods_is (fun a V h hS K Q hK => op_callK #[.tmp 58, .tmp 59] #[.agg (cE x0), .agg (cE y)] (map2 (look_at h 58) (look_at h 59)) (CP.out V) hK) ?_
     exact goods_nil
    case hf5 =>
    intro g V hF
    have hbf := hF.below
    clear hF
    simp only [finL, Pl.val, zA, zB, zC]
    refine wpList_store_row rfl 46 (.tmp 2) (.tmp 60) rfl w.heap.size q1 rfl rfl 46 z (XR_4.out.old hbf) oq1.out.1 oq1.out.2.2 oq1.out.2.1 ?_
    have XR_5 := hid ((XR_4.out.old hbf).row q1)
    have HB_5 := hid (below_row (g := w.heap.size) (HB_4.out.trans (hbf.mono HB_4.out.size)) (Nat.le_refl _) q1)
    clear XR_4 YY_4 XX_4 HB_4 PV hbf DD5
    generalize V.setRow w.heap.size q1 = W6 at *
    have PV : Hid (∀ V, Below W6.heap.size W6 V → PrimeAt V) := hid fun V hV => HP.out.old (HB_5.out.trans (hV.mono HB_5.out.size))
    go_wp2_with fail
    refine bodyPost_ret (v := .tuple #[.agg q1, .int .i64 0]) ?_ rfl (GetEnd.good (of_decide_eq_true HOK.out) (hg1.out (by first | rfl | trivial)) HB_5.out)
    exact results_row_tmp1 Tryz.results26 _ _ w.heap.size 46 _ _ _ rfl rfl XR_5.out Tryz.underlying46 oq1.out.1
   ·skip
    cases b0
    ·skip
     have DD4 : Hid (∀ V, Below W4.heap.size W4 V → Below W4.heap.size W4 V) := hid fun _ h => h
     refine wp_sched [(42, .is (.bool true)), (43, .is (.bool false)), (44, .is (.bool false)), (45, .is (.bool true)), (46, .is (.bool true)), (47, .is (.agg (cE x0))), (48, .is (.agg (cE nil))), (49, .is (.bool false)), (50, .is (.bool false)), (51, .is (.bool false))] (fun V => Below W4.heap.size W4 V) (by kernel_rfl) (by kernel_rfl) (by kernel_rfl) (by kernel_rfl) DD4.out ?hg4 _ (by rfl) ?hf4
     case hg4 =>
      refine goods_is (fun a V h hS K Q hK => op_quiet (quiet_move (.tmp 9) (look_at h 9) (.inl (by kernel_rfl))) hK) ?_
      refine goods_is (fun a V h hS K Q hK => op_quiet (quiet_not (b := true) 4 (.tmp 42) (look_at h 42) (by kernel_rfl)) hK) ?_
      refine goods_is (fun a V h hS K Q hK => op_quiet (quiet_move (.tmp 43) (look_at h 43) (.inl (by kernel_rfl))) hK) ?_
      refine goods_on (j := 2) (want := false) (d := 44) (u := .bool false) (by kernel_rfl) (by kernel_rfl) (by kernel_rfl) (by kernel_rfl) (by kernel_rfl) (fun a V h hS K Q hK => op_quiet (quiet_move (.tmp 5) (look_at h 5) (.inl (by kernel_rfl))) hK) ?_
      refine goods_on (j := 2) (want := false) (d := 44) (u := .bool false) (by kernel_rfl) (by kernel_rfl) (by kernel_rfl) (by kernel_rfl) (by kernel_rfl) (fun a V h hS K Q hK => op_quiet (quiet_move (.tmp 45) (look_at h 45) (.inl (by kernel_rfl))) hK) ?_
      refine goods_on (j := 4) (want := true) (d := 46) (u := .bool true) (by kernel_rfl) (by kernel_rfl) (by kernel_rfl) (by kernel_rfl) (by kernel_rfl) (fun a V h hS K Q hK => op_quiet (quiet_load_row 44 (.tmp 8) _ (look_at h 8) 44 (cE x0) _ (XX_3.out.old hS) Tryz.underlying44 rfl (cE_ok _).1 (by kernel_rfl)) hK) ?_
      refine goods_on (j := 4) (want := true) (d := 46) (u := .bool true) (by kernel_rfl) (by kernel_rfl) (by kernel_rfl) (by kernel_rfl) (by kernel_rfl) (fun a V h hS K Q hK => op_callK #[.const (.int .u64 0)] #[.int .u64 0] (map1 rfl) (C0.out V) hK) ?_
      refine goods_on (j := 4) (want := true) (d := 46) (u := .bool true) (by kernel_rfl) (by kernel_rfl) (by kernel_rfl) (by kernel_rfl) (by kernel_rfl) (fun a V h hS K Q hK => op_callK #[.tmp 47, .tmp 48] #[.agg (cE x0), .agg (cE nil)] (map2 (look_at h 47) (look_at h 48)) (CS.out V) hK) ?_
      refine goods_on (j := 2) (want := false) (d := 44) (u := .bool false) (by kernel_rfl) (by kernel_rfl) (by kernel_rfl) (by kernel_rfl) (by kernel_rfl) (fun a V h hS K Q hK => op_quiet (quiet_pickT (.tmp 46) (.tmp 49) (.const (.bool false)) (look_at h 46) (look_at h 49) (by kernel_rfl)) hK) ?_
      refine goods_is (fun a V h hS K Q hK => op_quiet (quiet_pickF (.tmp 44) (.const (.bool true)) (.tmp 50) (look_at h 44) (look_at h 50) (by kernel_rfl)) hK) ?_
      exact goods_nil
     case hf4 =>
     intro g V hF
     have hbf := hF.below
     clear hF
     simp only [finL, Pl.val, zA, zB, zC]
     refine tail_nil ?_
     have XR_4 := hid (XR_3.out.old hbf)
     have YY_4 := hid (YY_3.out.old hbf)
     have XX_4 := hid (XX_3.out.old hbf)
     have HB_4 := hid (HB_3.out.trans (hbf.mono HB_3.out.size))
     clear XR_3 YY_3 XX_3 HB_3 PV hbf DD4
     generalize V = W5 at *
     have PV : Hid (∀ V, Below W5.heap.size W5 V → PrimeAt V) := hid fun V hV => HP.out.old (HB_4.out.trans (hV.mono HB_4.out.size))
     have HOK : Hid (decide (okP v) = true) := hid (by rw [hok2.out]; rfl)
     clear hok2
     go_upto_region 15 with fail
     (try simp only [Act.put, zA, zB, zC])
     (try simp only [Act.put, zA, zB, zC])
     have DD5 : Hid (∀ V, Below W5.heap.size W5 V → Below W5.heap.size W5 V) := hid fun _ h => h
     refine wp_sched [(54, .is (.agg (cE x0))), (55, .is (.agg (cE y))), (56, .is (.agg q1)), (57, .is (.agg q2))] (fun V => Below W5.heap.size W5 V) (by kernel_rfl) (by kernel_rfl) (by kernel_rfl) (by kernel_rfl) DD5.out ?hg5 _ (by rfl) ?hf5
     case hg5 =>
      refine goods_is (fun a V h hS K Q hK => op_quiet (quiet_load_row 44 (.tmp 8) _ (look_at h 8) 44 (cE x0) _ (XX_4.out.old hS) Tryz.underlying44 rfl (cE_ok _).1 (by kernel_rfl)) hK) ?_
      refine goods_is (fun a V h hS K Q hK => op_quiet (quiet_load_row 44 (.tmp 6) _ (look_at h 6) 44 (cE y) _ (YY_4.out.old hS) Tryz.underlying44 rfl (cE_ok _).1 (by kernel_rfl)) hK) ?_
      refine goods_is (fun a V h hS K Q hK => op_callK #[.tmp 54, .tmp 55] #[.agg (cE x0), .agg (cE y)] (map2 (look_at h 54) (look_at h 55)) (CP.out V) hK) ?_
      refine goods_is (fun a V h hS K Q hK => op_callK #[.tmp 56] #[.agg q1] (map1 (look_at h 56)) (CN.out V (PV.out V hS)) hK) ?_
      exact goods_nil
     case hf5 =>
     intro g V hF
     have hbf := hF.below
     clear hF
     simp only [finL, Pl.val, zA, zB, zC]
     refine wpList_store_row rfl 46 (.tmp 2) (.tmp 57) rfl w.heap.size q2 rfl rfl 46 z (XR_4.out.old hbf) oq2.out.1 oq2.out.2.2 oq2.out.2.1 ?_
     have XR_5 := hid ((XR_4.out.old hbf).row q2)
     have HB_5 := hid (below_row (g := w.heap.size) (HB_4.out.trans (hbf.mono HB_4.out.size)) (Nat.le_refl _) q2)
     clear XR_4 YY_4 XX_4 HB_4 PV hbf DD5
     generalize V.setRow w.heap.size q2 = W6 at *
     have PV : Hid (∀ V, Below W6.heap.size W6 V → PrimeAt V) := hid fun V hV => HP.out.old (HB_5.out.trans (hV.mono HB_5.out.size))
     go_wp2_with fail
     refine bodyPost_ret (v := .tuple #[.agg q2, .int .i64 0]) ?_ rfl (GetEnd.good (of_decide_eq_true HOK.out) (hg2.out (by first | rfl | trivial)) HB_5.out)
     exact results_row_tmp1 Tryz.results26 _ _ w.heap.size 46 _ _ _ rfl rfl XR_5.out Tryz.underlying46 oq2.out.1
    ·skip
     have DD4 : Hid (∀ V, Below W4.heap.size W4 V → Below W4.heap.size W4 V) := hid fun _ h => h
     refine wp_sched [(42, .is (.bool true)), (43, .is (.bool false)), (44, .is (.bool false)), (45, .is (.bool true)), (46, .is (.bool true)), (47, .is (.agg (cE x0))), (48, .is (.agg (cE nil))), (49, .is (.bool true)), (50, .is (.bool true)), (51, .is (.bool true))] (fun V => Below W4.heap.size W4 V) (by kernel_rfl) (by kernel_rfl) (by kernel_rfl) (by kernel_rfl) DD4.out ?hg4 _ (by rfl) ?hf4
     case hg4 =>
      refine goods_is (fun a V h hS K Q hK => op_quiet (quiet_move (.tmp 9) (look_at h 9) (.inl (by kernel_rfl))) hK) ?_
      refine goods_is (fun a V h hS K Q hK => op_quiet (quiet_not (b := true) 4 (.tmp 42) (look_at h 42) (by kernel_rfl)) hK) ?_
      refine goods_is (fun a V h hS K Q hK => op_quiet (quiet_move (.tmp 43) (look_at h 43) (.inl (by kernel_rfl))) hK) ?_
      refine goods_on (j := 2) (want := false) (d := 44) (u := .bool false) (by kernel_rfl) (by kernel_rfl) (by kernel_rfl) (by kernel_rfl) (by kernel_rfl) (fun a V h hS K Q hK => op_quiet (quiet_move (.tmp 5) (look_at h 5) (.inl (by kernel_rfl))) hK) ?_
      refine goods_on (j := 2) (want := false) (d := 44) (u := .bool false) (by kernel_rfl) (by kernel_rfl) (by kernel_rfl) (by kernel_rfl) (by kernel_rfl) (fun a V h hS K Q hK => op_quiet (quiet_move (.tmp 45) (look_at h 45) (.inl (by kernel_rfl))) hK) ?_
      refine goods_on (j := 4) (want := true) (d := 46) (u := .bool true) (by kernel_rfl) (by kernel_rfl) (by kernel_rfl) (by kernel_rfl) (by kernel_rfl) (fun a V h hS K Q hK => op_quiet (quiet_load_row 44 (.tmp 8) _ (look_at h 8) 44 (cE x0) _ (XX_3.out.old hS) Tryz.underlying44 rfl (cE_ok _).1 (by kernel_rfl)) hK) ?_
      refine goods_on (j := 4) (want := true) (d := 46) (u := .bool true) (by kernel_rfl) (by kernel_rfl) (by kernel_rfl) (by kernel_rfl) (by kernel_rfl) (fun a V h hS K Q hK => op_callK #[.const (.int .u64 0)] #[.int .u64 0] (map1 rfl) (C0.out V) hK) ?_
      refine goods_on (j := 4) (want := true) (d := 46) (u := .bool true) (by kernel_rfl) (by kernel_rfl) (by kernel_rfl) (by kernel_rfl) (by kernel_rfl) (fun a V h hS K Q hK => op_callK #[.tmp 47, .tmp 48] #[.agg (cE x0), .agg (cE nil)] (map2 (look_at h 47) (look_at h 48)) (CS.out V) hK) ?_
      refine goods_on (j := 2) (want := false) (d := 44) (u := .bool false) (by kernel_rfl) (by kernel_rfl) (by kernel_rfl) (by kernel_rfl) (by kernel_rfl) (fun a V h hS K Q hK => op_quiet (quiet_pickT (.tmp 46) (.tmp 49) (.const (.bool false)) (look_at h 46) (look_at h 49) (by kernel_rfl)) hK) ?_
      refine goods_is (fun a V h hS K Q hK => op_quiet (quiet_pickF (.tmp 44) (.const (.bool true)) (.tmp 50) (look_at h 44) (look_at h 50) (by kernel_rfl)) hK) ?_
      exact goods_nil
     case hf4 =>
     intro g V hF
     have hbf := hF.below
     clear hF
     simp only [finL, Pl.val, zA, zB, zC]
     refine tail_nil ?_
     have XR_4 := hid (XR_3.out.old hbf)
     have YY_4 := hid (YY_3.out.old hbf)
     have XX_4 := hid (XX_3.out.old hbf)
     have HB_4 := hid (HB_3.out.trans (hbf.mono HB_3.out.size))
     clear XR_3 YY_3 XX_3 HB_3 PV hbf DD4
     generalize V = W5 at *
     have PV : Hid (∀ V, Below W5.heap.size W5 V → PrimeAt V) := hid fun V hV => HP.out.old (HB_4.out.trans (hV.mono HB_4.out.size))
     have HOK : Hid (decide (okP v) = false) := hid (by rw [hok2.out]; rfl)
     clear hok2
     have XF := hid (XR_4.out.row z)
     have HF := hid (below_row (g := w.heap.size) HB_4.out (Nat.le_refl _) z)
     go_wp2_with (first | (refine wpList_build_to rfl 46 #[] rfl [] (by simp [Act.eval]) z hBN.out ?_) | (refine wpList_store_row rfl 46 (.tmp 2) (.tmp 52) rfl w.heap.size z rfl rfl 46 z XR_4.out oz.out.1 rfl oz.out.2 ?_))
     refine bodyPost_ret (v := .tuple #[.agg z, .int .i64 8]) ?_ rfl (GetEnd.bad (of_decide_eq_false HOK.out) HF.out hzu.out)
     exact results_row_tmp1 Tryz.results26 _ _ w.heap.size 46 _ _ _ rfl rfl XF.out Tryz.underlying46 oz.out.1
 ·skip
  have CG : Hid (∀ V, PrimeAt V → Below W2.heap.size W2 V → Calls Tryz.prog 64 #[.slice (some ⟨g4, 0, none⟩) 32 32] V fun e w' => e = .returned (.tuple #[.agg (cE 0), .int .i64 6]) ∧ Below V.heap.size V w') := hid fun V hV hS => by
   have := get_32 u hu256 ⟨g4, 0, none⟩ 32 V (RD.out V hS) hV
   simp only [hup, if_false] at this
   exact this
  have DD2 : Hid (∀ V, Below W2.heap.size W2 V → Below W2.heap.size W2 V) := hid fun _ h => h
  refine wp_sched [(30, .is (.slice (some ⟨g4, 0, none⟩) 32 32)), (31, .is (.tuple #[.agg (cE 0), .int .i64 6])), (29, .is (.tuple #[.agg (cE 0), .int .i64 6])), (32, .is (.agg (cE 0))), (33, .is (.int .i64 6)), (6, .fresh 44 zf)] (fun V => Below W2.heap.size W2 V) (by kernel_rfl) (by kernel_rfl) (by kernel_rfl) (by kernel_rfl) DD2.out ?hg2 _ (by rfl) ?hf2
  case hg2 =>
   refine goods_is (fun a V h hS K Q hK => op_quiet (quiet_slice32 (.tmp 4) g4 (look_at h 4) (by kernel_rfl)) hK) ?_
   refine goods_is (fun a V h hS K Q hK => op_callK #[.tmp 30] #[.slice (some ⟨g4, 0, none⟩) 32 32] (map1 (look_at h 30)) (CG.out V (PV.out V hS) hS) hK) ?_
   refine goods_is (fun a V h hS K Q hK => op_quiet (quiet_move (.tmp 31) (look_at h 31) (.inl (by kernel_rfl))) hK) ?_
   refine goods_is (fun a V h hS K Q hK => op_quiet (quiet_extract (t := #[.agg (cE 0), .int .i64 6]) (.tmp 29) 0 (look_at h 29) rfl (by kernel_rfl)) hK) ?_
   refine goods_is (fun a V h hS K Q hK => op_quiet (quiet_extract (t := #[.agg (cE 0), .int .i64 6]) (.tmp 29) 1 (look_at h 29) rfl (by kernel_rfl)) hK) ?_
   refine goods_fresh (by kernel_rfl) hzf0 ?_
   exact goods_nil
  case hf2 =>
  intro g V hF
  obtain ⟨lg6, bg6⟩ := hF.blk 5 _ _ rfl
  have hbf := hF.below
  clear hF
  simp only [finL, Pl.val, zA, zB, zC]
  generalize g 5 = g6 at *
  refine wpList_store_row rfl 44 (.tmp 6) (.tmp 32) rfl g6 (cE 0) rfl rfl 44 zf bg6 (cE_ok _).1 (ofE.out _) (cE_ok _).2 ?_
  have XR_2 := hid ((XO.out.old hbf).rowFar (Nat.ne_of_lt (Nat.lt_of_lt_of_le XO.out.lt lg6)) (cE 0))
  have YY_2 := hid (bg6.row (cE 0))
  have LG6 := hid (Nat.le_trans HBO.out.size lg6)
  have HB_2 := hid (below_row (g := g6) (HBO.out.trans (hbf.mono HBO.out.size)) (Nat.le_trans HBO.out.size lg6) (cE 0))
  clear XO BO HBO PV lg6 bg6 hbf DD2
  generalize V.setRow g6 (cE 0) = W3 at *
  have PV : Hid (∀ V, Below W3.heap.size W3 V → PrimeAt V) := hid fun V hV => HP.out.old (HB_2.out.trans (hV.mono HB_2.out.size))
  have HOK : Hid (decide (okP v) = false) := hid (by rw [hokv.out, decide_eq_false hup]; rfl)
  clear hokv hup CG RD
  have XF := hid (XR_2.out.row z)
  have HF := hid (below_row (g := w.heap.size) HB_2.out (Nat.le_refl _) z)
  go_wp2_with (first | (refine wpList_build_to rfl 46 #[] rfl [] (by simp [Act.eval]) z hBN.out ?_) | (refine wpList_store_row rfl 46 (.tmp 2) (.tmp 36) rfl w.heap.size z rfl rfl 46 z XR_2.out oz.out.1 rfl oz.out.2 ?_))
  refine bodyPost_ret (v := .tuple #[.agg z, .int .i64 8]) ?_ rfl (GetEnd.bad (of_decide_eq_false HOK.out) HF.out hzu.out)
  exact results_row_tmp1 Tryz.results26 _ _ w.heap.size 46 _ _ _ rfl rfl XF.out Tryz.underlying46 oz.out.1
end Go.Proofs.YtcfogpeinjehbaaGreatDoor
end

section
set_option maxRecDepth 100000
namespace Go.Proofs.YtcfogpeinjehbaaGreatDoor
open Go Go.Proofs Go.RowKit F5
open Sch (wp_R gr_val gr_is gr_fresh gr_nil op_callR Rk)
theorem inf32 {l : List UInt8} (h : l.length = 32) : (Tryz.prog.info? 24).map (·.size) = some (bytesA l).size := by rw [bytesA_size, h]; kernel_rfl
theorem inf64 {l : List UInt8} (h : l.length = 64) : (Tryz.prog.info? 28).map (·.size) = some (bytesA l).size := by rw [bytesA_size, h]; kernel_rfl
theorem slice64a (g : Nat) (W : World) : (Instr.sliceAt 28 (.pointer (some ⟨g, 0, none⟩)) none (some (.int .i64 32)) none).run Tryz.prog W = .ok (.slice (some ⟨g, 0, none⟩) 32 64) W := by
 have hal : Tryz.prog.arrayLen 28 = 64 := by kernel_rfl
 have hel : Tryz.prog.elem 28 = 5 := by kernel_rfl
 rw [run_sliceAt_array_h W 28 ⟨g, 0, none⟩ (by rw [hal, hel]; exact Tryz.underlying28) .i64 32 (by omega) (by rw [hal]; omega), hal, hel, Tryz.sizeOf5]
 rfl
theorem slice64b (g : Nat) (W : World) : (Instr.sliceAt 28 (.pointer (some ⟨g, 0, none⟩)) (some (.int .i64 32)) none none).run Tryz.prog W = .ok (.slice (some ⟨g, 32, none⟩) 32 32) W := by
 have hal : Tryz.prog.arrayLen 28 = 64 := by kernel_rfl
 have hel : Tryz.prog.elem 28 = 5 := by kernel_rfl
 rw [run_sliceAt_array_l W 28 ⟨g, 0, none⟩ (by rw [hal, hel]; exact Tryz.underlying28) .i64 32 (by omega) (by rw [hal]; omega), hal, hel, Tryz.sizeOf5]
 simp [Result.andThen, slicedAt, Addr.add]
theorem slice64c (g : Nat) (W : World) : (Instr.sliceAt 28 (.pointer (some ⟨g, 0, none⟩)) none none none).run Tryz.prog W = .ok (.slice (some ⟨g, 0, none⟩) 64 64) W := by
 have hal : Tryz.prog.arrayLen 28 = 64 := by kernel_rfl
 have hel : Tryz.prog.elem 28 = 5 := by kernel_rfl
 rw [run_sliceAt_array_all W 28 ⟨g, 0, none⟩ (by rw [hal, hel]; exact Tryz.underlying28), hal, hel, Tryz.sizeOf5]
 rfl
section
variable {o : Oper} {ev : Operand → Value} {V : World}
theorem quiet_slA (x : Operand) (g : Nat) (hx : ev x = .pointer (some ⟨g, 0, none⟩)) (hc : ev (.const (.int .i64 32)) = .int .i64 32) (ho : o.op = .slice 28 x none (some (.const (.int .i64 32))) none) : (execOp ev o).run Tryz.prog V = .ok (.value (.slice (some ⟨g, 0, none⟩) 32 64)) V := by
 have := slice64a g V
 unfold execOp
 simp only [ho, hx, hc, Option.map_none, Option.map_some, Sem.run_bind, this, Sem.run_pure, Result.andThen_ok]
theorem quiet_slB (x : Operand) (g : Nat) (hx : ev x = .pointer (some ⟨g, 0, none⟩)) (hc : ev (.const (.int .i64 32)) = .int .i64 32) (ho : o.op = .slice 28 x (some (.const (.int .i64 32))) none none) : (execOp ev o).run Tryz.prog V = .ok (.value (.slice (some ⟨g, 32, none⟩) 32 32)) V := by
 have := slice64b g V
 unfold execOp
 simp only [ho, hx, hc, Option.map_none, Option.map_some, Sem.run_bind, this, Sem.run_pure, Result.andThen_ok]
theorem quiet_slC (x : Operand) (g : Nat) (hx : ev x = .pointer (some ⟨g, 0, none⟩)) (ho : o.op = .slice 28 x none none none) : (execOp ev o).run Tryz.prog V = .ok (.value (.slice (some ⟨g, 0, none⟩) 64 64)) V := by
 have := slice64c g V
 unfold execOp
 simp only [ho, hx, Option.map_none, Sem.run_bind, this, Sem.run_pure, Result.andThen_ok]
end
theorem laid_all {z : Array Value} {l : List UInt8} (h : z.size = l.length) : (z.toList.take 0 ++ (Lib.byteCells l ++ z.toList.drop (0 + (Lib.byteCells l).length))).toArray = bytesA l := by
 rw [List.drop_eq_nil_of_le (by rw [Lib.byteCells_length, Array.length_toList]; omega)]
 simp [bytesA]
theorem laid_fst {z : Array Value} {l : List UInt8} (h : z.size = 64) (hl : l.length = 32) : ((z.toList.take 0 ++ (Lib.byteCells l ++ z.toList.drop (0 + (Lib.byteCells l).length))).toArray).size = 64 ∧
  ((z.toList.take 0 ++ (Lib.byteCells l ++ z.toList.drop (0 + (Lib.byteCells l).length))).toArray).toList.take 32 = Lib.byteCells l := by
 have hc : (Lib.byteCells l).length = 32 := by rw [Lib.byteCells_length]; exact hl
 constructor
 ·simp [hc, h]
 ·simp only [List.take_zero, List.nil_append]
  rw [← hc, List.take_left]
theorem laid_snd {z : Array Value} {l f : List UInt8} (h : z.size = 64) (hl : l.length = 32) (hf : z.toList.take 32 = Lib.byteCells f) : (z.toList.take 32 ++ (Lib.byteCells l ++ z.toList.drop (32 + (Lib.byteCells l).length))).toArray = bytesA (f ++ l) := by
 rw [List.drop_eq_nil_of_le (by rw [Lib.byteCells_length, Array.length_toList]; omega), hf]
 simp [bytesA, Lib.byteCells]
theorem cells_one (l : List UInt8) : ∀ v ∈ Lib.byteCells l, v.oneCell' = true := fun v hv => by
 obtain ⟨b, _, rfl⟩ := List.mem_map.1 (show v ∈ l.map _ from hv)
 rfl
theorem trio_blks (w : World) (a b c : Array Value) (T U X : TypeId) : Blk (((w.alloc (.cells a T)).alloc (.cells b U)).alloc (.cells c X)) w.heap.size T a ∧ Blk (((w.alloc (.cells a T)).alloc (.cells b U)).alloc (.cells c X)) (w.heap.size + 1) U b ∧
  Blk (((w.alloc (.cells a T)).alloc (.cells b U)).alloc (.cells c X)) (w.heap.size + 2) X c ∧ Below w.heap.size w (((w.alloc (.cells a T)).alloc (.cells b U)).alloc (.cells c X)) := by
 obtain ⟨h1, h2, hb⟩ := two_blks w a b T U
 have e : ((w.alloc (.cells a T)).alloc (.cells b U)).heap.size = w.heap.size + 2 := by simp
 exact ⟨h1.alloc _, h2.alloc _, by rw [← e]; exact Blk.new _ _ _, hb.alloc hb.size _⟩
theorem results_two_cells {fn : Func} {p1 p2 : Tmp} {t1 t2 : TypeId} {P : Program} (h : fn.results = #[.cell p1 t1, .cell p2 t2]) (tmps : Array Value) (w : World) (g1 g2 : Nat) (c1 c2 : Array Value) (T1 T2 : TypeId) (e1 n1 e2 n2 : Nat)
  (hp1 : tmps.getD p1 undef = .pointer (some ⟨g1, 0, none⟩)) (hp2 : tmps.getD p2 undef = .pointer (some ⟨g2, 0, none⟩)) (hg1 : Blk w g1 T1 c1) (hg2 : Blk w g2 T2 c2)
  (hu1 : P.underlying t1 = some (.array n1 e1)) (hu2 : P.underlying t2 = some (.array n2 e2)) (hi1 : (P.info? t1).map (·.size) = some c1.size) (hi2 : (P.info? t2).map (·.size) = some c2.size) :
  (results fn tmps).run P w = .ok (.tuple #[.agg c1, .agg c2]) w := by
 have l1 := run_loadVar_row (P := P) w g1 T1 t1 c1 (0, 0) (.array n1 e1) hg1 hu1 rfl hi1
 have l2 := run_loadVar_row (P := P) w g2 T2 t2 c2 (0, 0) (.array n2 e2) hg2 hu2 rfl hi2
 have e : (results fn tmps).run P w = ((asAddr (tmps.getD p1 undef)).run P w).andThen fun a w₁ => ((loadVar t1 a).run P w₁).andThen fun v1 w₂ => ((asAddr (tmps.getD p2 undef)).run P w₂).andThen fun a2 w₃ => ((loadVar t2 a2).run P w₃).andThen fun v2 w₄ => .ok (.tuple #[v1, v2]) w₄ := by
  simp only [results, h]
  simp [Sem.run_bind, Result.andThen]
 rw [e, hp1, hp2]
 simp [asAddr, Result.andThen, l1, l2]
theorem blk_src {w : World} {g t : Nat} {l : List UInt8} (h : Blk w g t (bytesA l)) (k : Nat) : ∀ j v, (Lib.byteCells (l.drop k))[j]? = some v → w.cell? ((⟨g, k, none⟩ : Addr).add j) = some v := fun j v hj => by
 have e : (⟨g, k, none⟩ : Addr).add j = ⟨g, k + j, none⟩ := by unfold Addr.add; split <;> simp_all
 rw [e, h.cell, bytesA, List.getElem?_toArray]
 simp only [Lib.byteCells, List.getElem?_map, List.getElem?_drop] at hj ⊢
 exact hj
theorem blk_src0 {w : World} {g t : Nat} {l : List UInt8} (h : Blk w g t (bytesA l)) (n : Nat) : ∀ j v, (Lib.byteCells (l.take n))[j]? = some v → w.cell? ((⟨g, 0, none⟩ : Addr).add j) = some v := fun j v hj => by
 refine blk_src h 0 j v ?_
 rw [List.drop_zero]
 simp only [Lib.byteCells, List.getElem?_map, List.getElem?_take] at hj ⊢
 split at hj
 ·exact hj
 ·cases hj
set_option maxHeartbeats 4000000 in
theorem halved_any (l : List UInt8) (hl : l.length = 64) (w : World) :
  Calls Tryz.prog 27 #[.agg (bytesA l)] w fun e w' => e = .returned (.tuple #[.agg (bytesA (l.take 32)), .agg (bytesA (l.drop 32))]) ∧ Below w.heap.size w w' := by
 obtain ⟨z, hz⟩ : ∃ z, Hid (z = bytesA (List.replicate 32 0)) := ⟨_, hid rfl⟩
 have hz0 : ∀ W, (zeroValue 24).run Tryz.prog W = .ok (.agg z) W := by
  rw [hz.out]; exact (zero_of_info (n := 32) (by kernel_rfl)).1
 have hzs : Hid (z.size = 32) := by rw [hz.out, bytesA_size]; exact hid rfl
 obtain ⟨f, hf⟩ : ∃ f, Hid (f = l.take 32) := ⟨_, hid rfl⟩
 obtain ⟨k, hk⟩ : ∃ f, Hid (f = l.drop 32) := ⟨_, hid rfl⟩
 have fl : Hid (f.length = 32) := by rw [hf.out, List.length_take]; exact hid (by omega)
 have kl : Hid (k.length = 32) := by rw [hk.out, List.length_drop]; exact hid (by omega)
 have SF : Hid (∀ V g, Blk V g 28 (bytesA l) → ∀ j v, (Lib.byteCells f)[j]? = some v → V.cell? ((⟨g, 0, none⟩ : Addr).add j) = some v) := hid fun V g h => by rw [hf.out]; exact blk_src0 h 32
 have SK : Hid (∀ V g, Blk V g 28 (bytesA l) → ∀ j v, (Lib.byteCells k)[j]? = some v → V.cell? ((⟨g, 32, none⟩ : Addr).add j) = some v) := hid fun V g h => by rw [hk.out]; exact blk_src h 32
 rw [← hf.out, ← hk.out]
 generalize bytesA l = L at *
 obtain ⟨b1, b2, b3, hb⟩ := trio_blks w L z z 28 24 24
 have B1 := hid b1
 have B2 := hid b2
 have B3 := hid b3
 have HB := hid hb
 clear b1 b2 b3 hb hl hz hf hk
 go_enter Tryz.func27, Tryz.ntmps27
 go_upto_region 1 with fail
 generalize ((w.alloc (.cells L 28)).alloc (.cells z 24)).alloc (.cells z 24) = W at *
 (try simp only [Act.put, zA, zB, zC])
 refine wp_R [4, 5] [Rk.val (.slice (some ⟨(w.heap.size + 1), 0, none⟩) 32 32), Rk.val (.slice (some ⟨w.heap.size, 0, none⟩) 32 64)] rfl (by kernel_rfl) (by kernel_rfl) (by kernel_rfl) (by kernel_rfl) ?hg1 _ (by rfl) ?hf1
 case hg1 =>
  refine gr_val rfl (fun a V H K Q hK => op_quiet (quiet_slice32 (.tmp 2) (w.heap.size + 1) (H.old 2) (by kernel_rfl)) hK) ?_
  refine gr_val rfl (fun a V H K Q hK => op_quiet (quiet_slA (.tmp 1) w.heap.size (H.old 1) rfl (by kernel_rfl)) hK) ?_
  exact gr_nil
 case hf1 =>
 intro x V hF
 have e0 : x 0 = .slice (some ⟨(w.heap.size + 1), 0, none⟩) 32 32 := hF.rel 0 _ rfl
 have e1 : x 1 = .slice (some ⟨w.heap.size, 0, none⟩) 32 64 := hF.rel 1 _ rfl
 have hbf := hF.frame
 clear hF
 simp only [Sch.finL, zA, zB, zC, e0, e1]
 clear e0 e1
 refine wpList_copy_own rfl (.tmp 4) (.tmp 5) 22 22 rfl 5 Tryz.underlying22 (by kernel_rfl) (w.heap.size + 1) 0 32 32 ⟨w.heap.size, 0, none⟩ 32 64 rfl rfl z 24 (B2.out.old hbf) (Lib.byteCells f) (by rw [Lib.byteCells_length, fl.out]; decide) (SF.out V _ (B1.out.old hbf)) (by rw [Lib.byteCells_length, fl.out]; rw [hzs.out]; omega) (cells_one f) ?_
 rw [laid_all (by rw [hzs.out, fl.out])]
 have B1_1 := hid ((B1.out.old hbf).rowFar (by omega) (bytesA f) : Blk (V.setRow (w.heap.size + 1) (bytesA f)) w.heap.size 28 L)
 have B2_1 := hid ((B2.out.old hbf).row (bytesA f) : Blk (V.setRow (w.heap.size + 1) (bytesA f)) (w.heap.size + 1) 24 (bytesA f))
 have B3_1 := hid ((B3.out.old hbf).rowFar (by omega) (bytesA f) : Blk (V.setRow (w.heap.size + 1) (bytesA f)) (w.heap.size + 2) 24 z)
 have HB_1 := hid ((below_row (HB.out.trans (hbf.mono HB.out.size)) (by omega) (bytesA f)) : Below w.heap.size w (V.setRow (w.heap.size + 1) (bytesA f)))
 clear B1 B2 B3 HB hbf
 generalize (V.setRow (w.heap.size + 1) (bytesA f)) = W1 at *
 go_upto_region 2 with fail
 (try simp only [Act.put, zA, zB, zC])
 refine wp_R [7, 8] [Rk.val (.slice (some ⟨(w.heap.size + 2), 0, none⟩) 32 32), Rk.val (.slice (some ⟨w.heap.size, 32, none⟩) 32 32)] rfl (by kernel_rfl) (by kernel_rfl) (by kernel_rfl) (by kernel_rfl) ?hg2 _ (by rfl) ?hf2
 case hg2 =>
  refine gr_val rfl (fun a V H K Q hK => op_quiet (quiet_slice32 (.tmp 3) (w.heap.size + 2) (H.old 3) (by kernel_rfl)) hK) ?_
  refine gr_val rfl (fun a V H K Q hK => op_quiet (quiet_slB (.tmp 1) w.heap.size (H.old 1) rfl (by kernel_rfl)) hK) ?_
  exact gr_nil
 case hf2 =>
 intro x V hF
 have e0 : x 0 = .slice (some ⟨(w.heap.size + 2), 0, none⟩) 32 32 := hF.rel 0 _ rfl
 have e1 : x 1 = .slice (some ⟨w.heap.size, 32, none⟩) 32 32 := hF.rel 1 _ rfl
 have hbf := hF.frame
 clear hF
 simp only [Sch.finL, zA, zB, zC, e0, e1]
 clear e0 e1
 refine wpList_copy_own rfl (.tmp 7) (.tmp 8) 22 22 rfl 5 Tryz.underlying22 (by kernel_rfl) (w.heap.size + 2) 0 32 32 ⟨w.heap.size, 32, none⟩ 32 32 rfl rfl z 24 (B3_1.out.old hbf) (Lib.byteCells k) (by rw [Lib.byteCells_length, kl.out]; decide) (SK.out V _ (B1_1.out.old hbf)) (by rw [Lib.byteCells_length, kl.out]; rw [hzs.out]; omega) (cells_one k) ?_
 rw [laid_all (by rw [hzs.out, kl.out])]
 have B2_2 := hid ((B2_1.out.old hbf).rowFar (by omega) (bytesA k) : Blk (V.setRow (w.heap.size + 2) (bytesA k)) (w.heap.size + 1) 24 (bytesA f))
 have B3_2 := hid ((B3_1.out.old hbf).row (bytesA k) : Blk (V.setRow (w.heap.size + 2) (bytesA k)) (w.heap.size + 2) 24 (bytesA k))
 have HB_2 := hid ((below_row (HB_1.out.trans (hbf.mono HB_1.out.size)) (by omega) (bytesA k)) : Below w.heap.size w (V.setRow (w.heap.size + 2) (bytesA k)))
 clear B1_1 B2_1 B3_1 HB_1 hbf
 generalize (V.setRow (w.heap.size + 2) (bytesA k)) = W2 at *
 go_upto_region 3 with fail
 (try simp only [Act.put, zA, zB, zC])
 refine wp_R [10, 11] [Rk.val (.agg (bytesA f)), Rk.val (.agg (bytesA k))] rfl (by kernel_rfl) (by kernel_rfl) (by kernel_rfl) (by kernel_rfl) ?hg3 _ (by rfl) ?hf3
 case hg3 =>
  refine gr_val rfl (fun a V H K Q hK => op_quiet (quiet_load_row 24 (.tmp 2) (w.heap.size + 1) (H.old 2) 24 (bytesA f) _ (B2_2.out.old (H.frame)) Tryz.underlying24 rfl (inf32 fl.out) (by kernel_rfl)) hK) ?_
  refine gr_val rfl (fun a V H K Q hK => op_quiet (quiet_load_row 24 (.tmp 3) (w.heap.size + 2) (H.old 3) 24 (bytesA k) _ (B3_2.out.old (H.frame)) Tryz.underlying24 rfl (inf32 kl.out) (by kernel_rfl)) hK) ?_
  exact gr_nil
 case hf3 =>
 intro x V hF
 have e0 : x 0 = .agg (bytesA f) := hF.rel 0 _ rfl
 have e1 : x 1 = .agg (bytesA k) := hF.rel 1 _ rfl
 have hbf := hF.frame
 clear hF
 simp only [Sch.finL, zA, zB, zC, e0, e1]
 clear e0 e1
 refine wpList_store_row rfl 24 (.tmp 2) (.tmp 10) rfl (w.heap.size + 1) (bytesA f) rfl rfl 24 (bytesA f) (B2_2.out.old hbf) (inf32 fl.out) rfl (bytesA_one f) ?_
 refine wpList_store_row rfl 24 (.tmp 3) (.tmp 11) rfl (w.heap.size + 2) (bytesA k) rfl rfl 24 (bytesA k) ((B3_2.out.old hbf).rowFar (by omega) (bytesA f)) (inf32 kl.out) rfl (bytesA_one k) ?_
 have F2 := hid (((B2_2.out.old hbf).row (bytesA f)).rowFar (show (w.heap.size + 1) ≠ (w.heap.size + 2) by omega) (bytesA k))
 have F3 := hid (((B3_2.out.old hbf).rowFar (show (w.heap.size + 2) ≠ (w.heap.size + 1) by omega) (bytesA f)).row (bytesA k))
 have HF := hid (below_row (below_row (HB_2.out.trans (hbf.mono HB_2.out.size)) (show w.heap.size ≤ (w.heap.size + 1) by omega) (bytesA f)) (show w.heap.size ≤ (w.heap.size + 2) by omega) (bytesA k))
 clear B2_2 B3_2 HB_2 hbf
 go_wp2_with fail
 refine bodyPost_ret (v := .tuple #[.agg (bytesA f), .agg (bytesA k)]) ?_ rfl ⟨rfl, HF.out⟩
 exact results_two_cells Tryz.results27 _ _ (w.heap.size + 1) (w.heap.size + 2) _ _ 24 24 _ _ _ _ rfl rfl F2.out F3.out Tryz.underlying24 Tryz.underlying24 (inf32 fl.out) (inf32 kl.out)
set_option maxHeartbeats 4000000 in
theorem joined_any (f k : List UInt8) (hfl : f.length = 32) (hkl : k.length = 32) (w : World) :
  Calls Tryz.prog 18 #[.agg (bytesA f), .agg (bytesA k)] w fun e w' => e = .returned (.agg (bytesA (f ++ k))) ∧ Below w.heap.size w w' := by
 obtain ⟨z, hz⟩ : ∃ z, Hid (z = bytesA (List.replicate 64 0)) := ⟨_, hid rfl⟩
 have hz0 : ∀ W, (zeroValue 28).run Tryz.prog W = .ok (.agg z) W := by
  rw [hz.out]; exact (zero_of_info (n := 64) (by kernel_rfl)).1
 have hzs : Hid (z.size = 64) := by rw [hz.out, bytesA_size]; exact hid rfl
 have fl := hid hfl
 have kl := hid hkl
 have al : Hid ((f ++ k).length = 64) := hid (by rw [List.length_append, hfl, hkl])
 have S : Hid (∀ V g (l : List UInt8), Blk V g 24 (bytesA l) → ∀ j v, (Lib.byteCells l)[j]? = some v → V.cell? ((⟨g, 0, none⟩ : Addr).add j) = some v) := hid fun V g l h => by
  have := blk_src h 0
  rwa [List.drop_zero] at this
 obtain ⟨b1, b2, b3, hb⟩ := trio_blks w (bytesA f) (bytesA k) z 24 24 28
 have B1 := hid b1
 have B2 := hid b2
 have B3 := hid b3
 have HB := hid hb
 clear b1 b2 b3 hb hfl hkl hz
 go_enter Tryz.func18, Tryz.ntmps18
 go_upto_region 1 with fail
 generalize ((w.alloc (.cells (bytesA f) 24)).alloc (.cells (bytesA k) 24)).alloc (.cells z 28) = W at *
 (try simp only [Act.put, zA, zB, zC])
 refine wp_R [5, 6] [Rk.val (.slice (some ⟨(w.heap.size + 2), 0, none⟩) 32 64), Rk.val (.slice (some ⟨w.heap.size, 0, none⟩) 32 32)] rfl (by kernel_rfl) (by kernel_rfl) (by kernel_rfl) (by kernel_rfl) ?hg1 _ (by rfl) ?hf1
 case hg1 =>
  refine gr_val rfl (fun a V H K Q hK => op_quiet (quiet_slA (.tmp 4) (w.heap.size + 2) (H.old 4) rfl (by kernel_rfl)) hK) ?_
  refine gr_val rfl (fun a V H K Q hK => op_quiet (quiet_slice32 (.tmp 2) w.heap.size (H.old 2) (by kernel_rfl)) hK) ?_
  exact gr_nil
 case hf1 =>
 intro x V hF
 have e0 : x 0 = .slice (some ⟨(w.heap.size + 2), 0, none⟩) 32 64 := hF.rel 0 _ rfl
 have e1 : x 1 = .slice (some ⟨w.heap.size, 0, none⟩) 32 32 := hF.rel 1 _ rfl
 have hbf := hF.frame
 clear hF
 simp only [Sch.finL, zA, zB, zC, e0, e1]
 clear e0 e1
 refine wpList_copy_own rfl (.tmp 5) (.tmp 6) 22 22 rfl 5 Tryz.underlying22 (by kernel_rfl) (w.heap.size + 2) 0 32 64 ⟨w.heap.size, 0, none⟩ 32 32 rfl rfl z 28 (B3.out.old hbf) (Lib.byteCells f) (by rw [Lib.byteCells_length, fl.out]; decide) (S.out V _ _ (B1.out.old hbf)) (by rw [Lib.byteCells_length, fl.out]; rw [hzs.out]; omega) (cells_one f) ?_
 obtain ⟨y, hy⟩ : ∃ y, Hid (y = (z.toList.take 0 ++ (Lib.byteCells f ++ z.toList.drop (0 + (Lib.byteCells f).length))).toArray) := ⟨_, hid rfl⟩
 have yl := laid_fst hzs.out fl.out
 rw [← hy.out] at yl ⊢
 have YS := hid yl.1
 have YF := hid yl.2
 clear yl hy
 have B2_1 := hid ((B2.out.old hbf).rowFar (by omega) y : Blk (V.setRow (w.heap.size + 2) y) (w.heap.size + 1) 24 (bytesA k))
 have B3_1 := hid ((B3.out.old hbf).row y : Blk (V.setRow (w.heap.size + 2) y) (w.heap.size + 2) 28 y)
 have HB_1 := hid ((below_row (HB.out.trans (hbf.mono HB.out.size)) (by omega) y) : Below w.heap.size w (V.setRow (w.heap.size + 2) y))
 clear B1 B2 B3 HB hbf
 generalize (V.setRow (w.heap.size + 2) y) = W1 at *
 go_upto_region 2 with fail
 (try simp only [Act.put, zA, zB, zC])
 refine wp_R [8, 9] [Rk.val (.slice (some ⟨(w.heap.size + 2), 32, none⟩) 32 32), Rk.val (.slice (some ⟨(w.heap.size + 1), 0, none⟩) 32 32)] rfl (by kernel_rfl) (by kernel_rfl) (by kernel_rfl) (by kernel_rfl) ?hg2 _ (by rfl) ?hf2
 case hg2 =>
  refine gr_val rfl (fun a V H K Q hK => op_quiet (quiet_slB (.tmp 4) (w.heap.size + 2) (H.old 4) rfl (by kernel_rfl)) hK) ?_
  refine gr_val rfl (fun a V H K Q hK => op_quiet (quiet_slice32 (.tmp 3) (w.heap.size + 1) (H.old 3) (by kernel_rfl)) hK) ?_
  exact gr_nil
 case hf2 =>
 intro x V hF
 have e0 : x 0 = .slice (some ⟨(w.heap.size + 2), 32, none⟩) 32 32 := hF.rel 0 _ rfl
 have e1 : x 1 = .slice (some ⟨(w.heap.size + 1), 0, none⟩) 32 32 := hF.rel 1 _ rfl
 have hbf := hF.frame
 clear hF
 simp only [Sch.finL, zA, zB, zC, e0, e1]
 clear e0 e1
 refine wpList_copy_own rfl (.tmp 8) (.tmp 9) 22 22 rfl 5 Tryz.underlying22 (by kernel_rfl) (w.heap.size + 2) 32 32 32 ⟨(w.heap.size + 1), 0, none⟩ 32 32 rfl rfl y 28 (B3_1.out.old hbf) (Lib.byteCells k) (by rw [Lib.byteCells_length, kl.out]; decide) (S.out V _ _ (B2_1.out.old hbf)) (by rw [Lib.byteCells_length, kl.out]; rw [YS.out]; omega) (cells_one k) ?_
 rw [laid_snd YS.out kl.out YF.out]
 have B3_2 := hid ((B3_1.out.old hbf).row (bytesA (f ++ k)) : Blk (V.setRow (w.heap.size + 2) (bytesA (f ++ k))) (w.heap.size + 2) 28 (bytesA (f ++ k)))
 have HB_2 := hid ((below_row (HB_1.out.trans (hbf.mono HB_1.out.size)) (by omega) (bytesA (f ++ k))) : Below w.heap.size w (V.setRow (w.heap.size + 2) (bytesA (f ++ k))))
 clear B2_1 B3_1 HB_1 hbf
 generalize (V.setRow (w.heap.size + 2) (bytesA (f ++ k))) = W2 at *
 go_upto_region 3 with fail
 (try simp only [Act.put, zA, zB, zC])
 refine wp_R [11] [Rk.val (.agg (bytesA (f ++ k)))] rfl (by kernel_rfl) (by kernel_rfl) (by kernel_rfl) (by kernel_rfl) ?hg3 _ (by rfl) ?hf3
 case hg3 =>
  refine gr_val rfl (fun a V H K Q hK => op_quiet (quiet_load_row 28 (.tmp 4) (w.heap.size + 2) (H.old 4) 28 (bytesA (f ++ k)) _ (B3_2.out.old (H.frame)) Tryz.underlying28 rfl (inf64 al.out) (by kernel_rfl)) hK) ?_
  exact gr_nil
 case hf3 =>
 intro x V hF
 have e0 : x 0 = .agg (bytesA (f ++ k)) := hF.rel 0 _ rfl
 have hbf := hF.frame
 clear hF
 simp only [Sch.finL, zA, zB, zC, e0]
 clear e0
 refine wpList_store_row rfl 28 (.tmp 4) (.tmp 11) rfl (w.heap.size + 2) (bytesA (f ++ k)) rfl rfl 28 (bytesA (f ++ k)) (B3_2.out.old hbf) (inf64 al.out) rfl (bytesA_one _) ?_
 have F3 := hid ((B3_2.out.old hbf).row (bytesA (f ++ k)))
 have HF := hid (below_row (HB_2.out.trans (hbf.mono HB_2.out.size)) (show w.heap.size ≤ (w.heap.size + 2) by omega) (bytesA (f ++ k)))
 clear B3_2 HB_2 hbf
 go_wp2_with fail
 refine bodyPost_ret (v := .agg (bytesA (f ++ k))) ?_ rfl ⟨rfl, HF.out⟩
 exact results_cell_row Tryz.results18 _ _ (w.heap.size + 2) 28 _ (0, 0) _ rfl F3.out Tryz.underlying28 rfl (inf64 al.out)
end Go.Proofs.YtcfogpeinjehbaaGreatDoor
end

section
namespace Go.Proofs.YtcfogpeinjehbaaGreatDoor
open Go Go.Proofs Go.RowKit F5
/-- The program's points are as they must be, in worlds of a kind that calls keep; PP tells which cells stand for a point. -/
structure PtOk (Q : World → Prop) (PP : Pt → Array Value → Prop) (zv : Array Value) : Prop where
 old : ∀ {w w' : World}, Q w → Below w.heap.size w w' → Q w'
 zero_run : ∀ W : World, (zeroValue 46).run Tryz.prog W = .ok (.agg zv) W
 ok : ∀ {p : Pt} {c : Array Value}, PP p c → (Tryz.prog.info? 46).map (·.size) = some c.size ∧ c.all (·.oneCell') = true ∧ zv.size = c.size
 okz : (Tryz.prog.info? 46).map (·.size) = some zv.size ∧ zv.all (·.oneCell') = true
 bytes : ∀ {p : Pt} {c : Array Value} (w : World), PP p c → Q w → Calls Tryz.prog 17 #[.agg c] w fun e w' => e = .returned (.agg (bytesA (fbytes (enc p)))) ∧ Below w.heap.size w w'
 get : ∀ (v : Nat) (ad : Addr) (n : Nat) (w : World), v < 2 ^ 256 → Reads w w.heap.size 1 (some ad) 32 (Lib.byteCells (fbytes v)) → 32 ≤ n → n ≤ maxLen → Q w →
  Calls Tryz.prog 26 #[.slice (some ad) 32 n] w fun e w' => ∃ c x, e = .returned (.tuple #[.agg c, .int .i64 x]) ∧ (if okP v then x = 0 else x = 8) ∧ (∀ h : okP v, PP (pget v h) c) ∧ (Tryz.prog.info? 46).map (·.size) = some c.size ∧ c.all (·.oneCell') = true ∧ zv.size = c.size ∧ Below w.heap.size w w'
 other : ∀ (l : List UInt8) (A : Option Addr) (n c : Nat) (w : World), n ≠ 32 → n ≤ 1000 → n ≤ c → c ≤ maxLen → Reads w w.heap.size 1 A n (Lib.byteCells l) → Q w →
  Calls Tryz.prog 26 #[.slice A n c] w fun e w' => ∃ c', e = .returned (.tuple #[.agg c', .int .i64 (if n < 32 then 2 else 4)]) ∧ (Tryz.prog.info? 46).map (·.size) = some c'.size ∧ c'.all (·.oneCell') = true ∧ zv.size = c'.size ∧ Below w.heap.size w w'
 zero : ∀ w : World, Q w → Calls Tryz.prog 42 #[] w fun e w' => ∃ c, e = .returned (.agg c) ∧ PP pzero c ∧ Below w.heap.size w w'
 base : ∀ w : World, Q w → Calls Tryz.prog 15 #[] w fun e w' => ∃ c, e = .returned (.agg c) ∧ PP pbase c ∧ Below w.heap.size w w'
 add : ∀ {p q : Pt} {a b : Array Value} (w : World), PP p a → PP q b → Q w → Calls Tryz.prog 29 #[.agg a, .agg b] w fun e w' => ∃ c, e = .returned (.agg c) ∧ PP (padd p q) c ∧ Below w.heap.size w w'
 neg : ∀ {p : Pt} {a : Array Value} (w : World), PP p a → Q w → Calls Tryz.prog 30 #[.agg a] w fun e w' => ∃ c, e = .returned (.agg c) ∧ PP (pneg p) c ∧ Below w.heap.size w w'
 times : ∀ {p : Pt} {a : Array Value} (v : Nat) (w : World), v < 2 ^ 256 → PP p a → Q w → Calls Tryz.prog 16 #[.agg a, .agg (bytesA (fbytes v))] w fun e w' => ∃ c, e = .returned (.agg c) ∧ PP (pmul v p) c ∧ Below w.heap.size w w'
end Go.Proofs.YtcfogpeinjehbaaGreatDoor
end

section
namespace Go.Proofs.YtcfogpeinjehbaaGreatDoor
open Go Go.Proofs Go.RowKit F5
/-- Two points that stand in the first and the second new block. -/
def TwoP (w : World) (a b : Array Value) (wr : World) : Prop := Blk wr w.heap.size 46 a ∧ Blk wr (w.heap.size + 1) 46 b ∧ Below w.heap.size w wr
theorem TwoP.new (w : World) (a b : Array Value) : TwoP w a b ((w.alloc (.cells a 46)).alloc (.cells b 46)) := two_blks w a b _ _
theorem TwoP.next {w wr w' : World} {a b : Array Value} (h : TwoP w a b wr) (hb : Below wr.heap.size wr w') : TwoP w a b w' := ⟨h.1.old hb, h.2.1.old hb, h.2.2.trans (hb.mono h.2.2.size)⟩
theorem TwoP.fst {w wr : World} {a b : Array Value} (h : TwoP w a b wr) (c : Array Value) : TwoP w c b (wr.setRow w.heap.size c) := ⟨h.1.row c, h.2.1.rowFar (by omega) c, below_row h.2.2 (Nat.le_refl _) c⟩
theorem TwoP.snd {w wr : World} {a b : Array Value} (h : TwoP w a b wr) (c : Array Value) : TwoP w a c (wr.setRow (w.heap.size + 1) c) := ⟨h.1.rowFar (by omega) c, h.2.1.row c, below_row h.2.2 (by omega) c⟩
/-! The answers hang on the arguments' cells alone. -/
theorem addDet {p q : Pt} {a b : Array Value} (hp : PU p a) (hq : PU q b) : ∃ c, PU (padd p q) c ∧ ∀ w, PrimeAt w → Calls Tryz.prog 29 #[.agg a, .agg b] w fun e w' => e = .returned (.agg c) ∧ Below w.heap.size w w' := by
 obtain ⟨X1, Y1, Z1, r1, rfl⟩ := hp
 obtain ⟨X2, Y2, Z2, r2, rfl⟩ := hq
 exact ⟨_, ⟨_, _, _, rep_addP r1 r2 rfl rfl rfl rfl rfl rfl rfl rfl rfl rfl rfl rfl rfl rfl rfl rfl rfl rfl, rfl⟩, fun w hP => addP X1 Y1 Z1 X2 Y2 Z2 _ _ _ _ _ _ _ _ _ _ _ _ _ _ _ _ _ _ rfl rfl rfl rfl rfl rfl rfl rfl rfl rfl rfl rfl rfl rfl rfl rfl rfl rfl w hP⟩
theorem twiceDet {p : Pt} {a : Array Value} (hp : PU p a) : ∃ c, PU (padd p p) c ∧ ∀ w, PrimeAt w → Calls Tryz.prog 78 #[.agg a] w fun e w' => e = .returned (.agg c) ∧ Below w.heap.size w w' := by
 obtain ⟨X1, Y1, Z1, r1, rfl⟩ := hp
 exact ⟨_, ⟨_, _, _, rep_twice r1 rfl rfl rfl rfl rfl rfl rfl rfl rfl rfl rfl rfl, rfl⟩, fun w hP => twiceP X1 Y1 Z1 _ _ _ _ _ _ _ _ _ _ _ _ rfl rfl rfl rfl rfl rfl rfl rfl rfl rfl rfl rfl w hP⟩
/-- Doubled and doubled again: one row of cells. -/
theorem dbl_seq {p : Pt} {a : Array Value} (hp : PU p a) : ∀ c : Nat, ∃ f : Nat → Array Value, f 0 = a ∧ (∀ i, i ≤ c → PU (pmul (2 ^ i) p) (f i)) ∧ ∀ i, i < c → ∀ w, PrimeAt w → Calls Tryz.prog 78 #[.agg (f i)] w fun e w' => e = .returned (.agg (f (i + 1))) ∧ Below w.heap.size w w'
 | 0 => ⟨fun _ => a, rfl, fun i hi => by obtain rfl : i = 0 := by omega
                                         rw [show 2 ^ 0 = 1 from rfl, pmul_one]; exact hp, fun i hi => absurd hi (Nat.not_lt_zero _)⟩
 | c + 1 => by
  obtain ⟨f, h0, h1, h2⟩ := dbl_seq hp c
  obtain ⟨y, hy, hc⟩ := twiceDet (h1 c (Nat.le_refl _))
  rw [pmul_double] at hy
  refine ⟨fun i => if i = c + 1 then y else f i, by simp [h0], fun i hi => ?_, fun i hi w hP => ?_⟩
  ·by_cases e : i = c + 1
   ·subst e; simpa using hy
   ·simp only [e, if_false]; exact h1 i (by omega)
  ·have hne : i ≠ c + 1 := by omega
   simp only [hne, if_false]
   by_cases e : i = c
   ·subst e; simpa using hc w hP
   ·have : i + 1 ≠ c + 1 := by omega
    simp only [this, if_false]
    exact h2 i (by omega) w hP
set_option maxHeartbeats 4000000 in
set_option maxRecDepth 100000 in
theorem doubled_seq {p : Pt} (f : Nat → Array Value) (c : Nat) (hc : c ≤ 1000) (hf : ∀ i, i ≤ c → PU (pmul (2 ^ i) p) (f i)) (ht : ∀ i, i < c → ∀ w, PrimeAt w → Calls Tryz.prog 78 #[.agg (f i)] w fun e w' => e = .returned (.agg (f (i + 1))) ∧ Below w.heap.size w w') (w : World) (hP : PrimeAt w) :
  Calls Tryz.prog 44 #[.agg (f 0), .int .i64 (c : Int)] w fun e w' => e = .returned (.agg (f c)) ∧ Below w.heap.size w w' := by
 have HP := hid hP
 have HF := hid hf
 have HT := hid ht
 obtain ⟨a, ha⟩ : ∃ a, Hid (a = f 0) := ⟨_, hid rfl⟩
 rw [← ha.out]
 obtain ⟨z, hz⟩ : ∃ z, Hid (z = uV 0 0 0) := ⟨_, hid rfl⟩
 have hz0 : ∀ W, (zeroValue 46).run Tryz.prog W = .ok (.agg z) W := by rw [hz.out]; exact zeroU
 have ok : Hid (∀ {q : Pt} {b : Array Value}, PU q b → (Tryz.prog.info? 46).map (·.size) = some b.size ∧ b.all (·.oneCell') = true ∧ z.size = b.size) := by rw [hz.out]; exact hid PU.ok
 clear hP hf ht hz
 go_enter Tryz.func44, Tryz.ntmps44
 go_wp2_with fail
 have h2 := TwoP.new w a z
 generalize (w.alloc (.cells a 46)).alloc (.cells z 46) = W at *
 go_loopg [6] c (fun g iv wr => ∃ i : Nat, iv = .int .i64 (i : Nat) ∧ g + i = c ∧ ∃ x, Hid (x = f i) ∧ TwoP w x z wr)
 case atStart => exact ⟨0, rfl, rfl, a, ha, h2⟩
 case round =>
  obtain ⟨i, rfl, hg, x, hx, hT⟩ := hrel
  clear h2
  have HTw := hid hT
  have oX : Hid ((Tryz.prog.info? 46).map (·.size) = some x.size ∧ x.all (·.oneCell') = true ∧ z.size = x.size) := hid (by rw [hx.out]; exact ok.out (HF.out i (by omega)))
  clear hT
  by_cases hlt : i < c
  ·obtain ⟨y, hy⟩ : ∃ y, Hid (y = f (i + 1)) := ⟨_, hid rfl⟩
   have HMUL : Hid (Calls Tryz.prog 78 #[.agg x] wr fun e w' => e = .returned (.agg y) ∧ Below wr.heap.size wr w') := by rw [hx.out, hy.out]; exact hid (HT.out i hlt wr (HP.out.old HTw.out.2.2))
   have oY : Hid ((Tryz.prog.info? 46).map (·.size) = some y.size ∧ y.all (·.oneCell') = true ∧ z.size = y.size) := hid (by rw [hy.out]; exact ok.out (HF.out (i + 1) (by omega)))
   go_wp2_with (first | (refine wpList_load_row rfl 46 (.tmp 2) rfl w.heap.size rfl 46 x (0, 0) _ HTw.out.1 Tryz.underlying46 rfl oX.out.1 ?_))
   refine HMUL.out.mono ?_
   rintro e w1 ⟨rfl, hb1⟩
   have HT1 := hid (HTw.out.next hb1)
   have hs : Hid (x.size = y.size) := hid (oX.out.2.2.symm.trans oY.out.2.2)
   clear hb1
   have HT2 := hid (HT1.out.fst y)
   go_wp2_with (first | (refine wpList_store_row rfl 46 (.tmp 2) (.tmp 9) rfl w.heap.size y rfl rfl 46 x HT1.out.1 oY.out.1 hs.out oY.out.2.1 ?_))
   go_roundg (gk - 1)
   case measure => omega
   case rel => exact ⟨i + 1, by go_num, by omega, y, hy, HT2.out⟩
  ·obtain rfl : i = c := by omega
   go_wp2_with (first | (refine wpList_load_row rfl 46 (.tmp 2) rfl w.heap.size rfl 46 x (0, 0) _ HTw.out.1 Tryz.underlying46 rfl oX.out.1 ?_) |
    (refine wpList_store_row rfl 46 (.tmp 4) (.tmp 11) rfl (w.heap.size + 1) x rfl rfl 46 _ HTw.out.2.1 oX.out.1 oX.out.2.2 oX.out.2.1 ?_))
   refine bodyPost_ret (v := .agg x) ?_ rfl ⟨by rw [hx.out], (HTw.out.snd x).2.2⟩
   exact results_cell_row Tryz.results44 _ _ (w.heap.size + 1) 46 x (0, 0) _ rfl (HTw.out.snd x).2.1 Tryz.underlying46 rfl oX.out.1
theorem doubledDet {p : Pt} {a : Array Value} (hp : PU p a) (c : Nat) (hc : c ≤ 1000) : ∃ o, PU (pmul (2 ^ c) p) o ∧ ∀ w, PrimeAt w → Calls Tryz.prog 44 #[.agg a, .int .i64 (c : Int)] w fun e w' => e = .returned (.agg o) ∧ Below w.heap.size w w' := by
 obtain ⟨f, h0, h1, h2⟩ := dbl_seq hp c
 exact ⟨f c, h1 c (Nat.le_refl _), fun w hP => by rw [← h0]; exact doubled_seq f c hc h1 h2 w hP⟩
end Go.Proofs.YtcfogpeinjehbaaGreatDoor
end

section
namespace Go.Proofs.YtcfogpeinjehbaaGreatDoor
open Go Go.Proofs Go.RowKit F5
theorem zero16P (W : World) : (zeroValue 80).run Tryz.prog W = .ok (.agg (Array.replicate 192 (.int .u64 0))) W := by kernel_rfl
theorem built16 : Tryz.prog.built 80 [(0, .agg (uV 0 1 1))] = some (uV 0 1 1 ++ Array.replicate 180 (.int .u64 0)) := by kernel_rfl
theorem ix16 (g i : Nat) (hi : i < 16) (W : World) : (Instr.indexAt 80 (.pointer (some ⟨g, 0, none⟩)) (.int .i64 (i : Int))).run Tryz.prog W = .ok (.pointer (some ⟨g, 12 * i, none⟩)) W := by
 have hal : Tryz.prog.arrayLen 80 = 16 := by kernel_rfl
 have hel : Tryz.prog.elem 80 = 46 := by kernel_rfl
 go_simp
 rw [if_pos (by omega), Nat.mul_comm]
theorem ix16b (g i : Nat) (hi : i < 16) (W : World) : (Instr.indexAt 80 (.pointer (some ⟨g, 0, none⟩)) (.int .u8 (i : Int))).run Tryz.prog W = .ok (.pointer (some ⟨g, 12 * i, none⟩)) W := by
 have hal : Tryz.prog.arrayLen 80 = 16 := by kernel_rfl
 have hel : Tryz.prog.elem 80 = 46 := by kernel_rfl
 go_simp
 rw [if_pos (by omega), Nat.mul_comm]
theorem quiet_inc {o : Oper} {ev : Operand → Value} {V : World} (x : Operand) (U : TypeId) (i : Nat) (hi : i < 1000) (hx : ev x = .int .i64 (i : Int)) (ho : o.op = .binOp .add 3 x (.const (.int .i64 1)) U) (hc : ev (.const (.int .i64 1)) = .int .i64 1) : (execOp ev o).run Tryz.prog V = .ok (.value (.int .i64 ((i + 1 : Nat) : Int))) V := by
 have hw : IntKind.i64.wrap ((i : Int) + 1) = ((i + 1 : Nat) : Int) := by rw [IntWalk.i64_in _ (by omega)]; rfl
 unfold execOp
 simp only [ho, hx, hc]
 go_simp
/-- Of the sixteen points in these cells the ones up to number n are the multiples of p. -/
def FewOk (p : Pt) (n : Nat) (cur : Array Value) : Prop := cur.size = 192 ∧ cur.all (·.oneCell') = true ∧ ∀ j, j ≤ n → ∃ c, PU (pmul j p) c ∧ ∀ k v, c[k]? = some v → cur[12 * j + k]? = some v
theorem PU.size {p : Pt} {c : Array Value} (h : PU p c) : c.size = 12 := by rw [← h.ok.2.2, uV_size]
theorem FewOk.info {p : Pt} {n : Nat} {cur : Array Value} (h : FewOk p n cur) : (Tryz.prog.info? 80).map (·.size) = some cur.size ∧ cur.all (·.oneCell') = true := ⟨by rw [h.1]; kernel_rfl, h.2.1⟩
theorem FewOk.next {p : Pt} {n : Nat} {cur c : Array Value} (h : FewOk p n cur) (hn : n < 15) (hc : PU (pmul (n + 1) p) c) : FewOk p (n + 1) (cellsAt cur (12 * (n + 1)) c) := by
 obtain ⟨h1, h2, h3⟩ := h
 have hs := hc.size
 have hl : 12 * (n + 1) + c.size ≤ cur.size := by omega
 refine ⟨by rw [cellsAt_size hl, h1], cellsAt_one h2 hc.ok.2.1, fun j hj => ?_⟩
 by_cases hjn : j ≤ n
 ·obtain ⟨d, hd, hk⟩ := h3 j hjn
  refine ⟨d, hd, fun k v hv => ?_⟩
  have hk12 : k < 12 := by rw [← hd.size]; exact (Array.getElem?_eq_some_iff.1 hv).1
  rw [cellsAt_out hl _ (by omega)]
  exact hk k v hv
 ·obtain rfl : j = n + 1 := by omega
  refine ⟨c, hc, fun k v hv => ?_⟩
  rw [cellsAt_in hl k (Array.getElem?_eq_some_iff.1 hv).1, hv]
theorem FewOk.start (p : Pt) : FewOk p 0 (uV 0 1 1 ++ Array.replicate 180 (.int .u64 0)) := by
 refine ⟨by rw [Array.size_append, uV_size, Array.size_replicate], ?_, fun j hj => ⟨uV 0 1 1, ?_, fun k v hv => ?_⟩⟩
 ·rw [Array.all_append, uV_one, Bool.true_and, Array.all_eq_true_iff_forall_mem]
  intro v hv
  rw [(Array.mem_replicate.1 hv).2]; rfl
 ·obtain rfl : j = 0 := by omega
  exact ⟨0, 1, 1, rep_zero, rfl⟩
 ·obtain rfl : j = 0 := by omega
  rw [Nat.mul_zero, Nat.zero_add, Array.getElem?_append_left (Array.getElem?_eq_some_iff.1 hv).1]
  exact hv
def FewAt (w : World) (a z : Array Value) (g : Nat) (cur : Array Value) (wr : World) : Prop := Blk wr w.heap.size 46 a ∧ Blk wr (w.heap.size + 1) 80 z ∧ Blk wr g 80 cur ∧ Below w.heap.size w wr ∧ w.heap.size + 1 < g
set_option maxHeartbeats 4000000 in
set_option maxRecDepth 100000 in
theorem fewPU {p : Pt} {A : Array Value} (hp : PU p A) (w : World) (hP : PrimeAt w) :
  Calls Tryz.prog 41 #[.agg A] w fun e w' => ∃ o, e = .returned (.agg o) ∧ FewOk p 15 o ∧ Below w.heap.size w w' := by
 have HA := hid hp
 have oA := hid hp.ok
 have HP := hid hP
 obtain ⟨z, hz⟩ : ∃ z : Array Value, Hid (z = Array.replicate 192 (.int .u64 0)) := ⟨_, hid rfl⟩
 have hz0 : ∀ W, (zeroValue 80).run Tryz.prog W = .ok (.agg z) W := by rw [hz.out]; exact zero16P
 have zs : Hid (z.size = 192) := hid (by rw [hz.out]; simp)
 obtain ⟨zc, hzc⟩ : ∃ c, Hid (c = uV 0 1 1) := ⟨_, hid rfl⟩
 have CZ : Hid (∀ V, Calls Tryz.prog 42 #[] V fun e w' => e = .returned (.agg zc) ∧ Below V.heap.size V w') := hid fun V => by rw [hzc.out]; exact zeroP2 V
 obtain ⟨cur0, hcu, hcu2⟩ : ∃ c, Hid (Tryz.prog.built 80 [(0, .agg zc)] = some c) ∧ FewOk p 0 c := ⟨_, by rw [hzc.out]; exact hid built16, FewOk.start p⟩
 have HF0 := hid hcu2
 have oF := hid hcu2.info
 have sF : Hid (z.size = cur0.size) := hid (by rw [zs.out, hcu2.1])
 obtain ⟨b1, b2, hb⟩ := two_blks w A z 46 80
 clear hz hzc hp hP hcu2
 go_enter Tryz.func41, Tryz.ntmps41
 go_upto_region 1 with fail
 generalize (w.alloc (.cells A 46)).alloc (.cells z 80) = W at *
 have P1 := hid b1
 have XR := hid b2
 have HB := hid hb
 clear b1 b2 hb
 (try simp only [Act.put, zA, zB, zC])
 have PV : Hid (∀ V, Below W.heap.size W V → PrimeAt V) := hid fun V hV => HP.out.old (HB.out.trans (hV.mono HB.out.size))
 have DD1 : Hid (∀ V, Below W.heap.size W V → Below W.heap.size W V) := hid fun _ h => h
 refine wp_sched [(5, .is (.agg zc)), (6, .is (.agg cur0)), (3, .fresh 80 z)] (fun V => Below W.heap.size W V) (by kernel_rfl) (by kernel_rfl) (by kernel_rfl) (by kernel_rfl) DD1.out ?hg1 _ (by rfl) ?hf1
 case hg1 =>
  refine goods_is (fun a V h hS K Q hK => op_callK #[] #[] (map0 ) (CZ.out V) hK) ?_
  refine goods_is (fun a V h hS K Q hK => op_quiet (quiet_build_to 80 #[(0, .tmp 5)] (by kernel_rfl) [(0, .agg zc)] (bld1 (look_at h 5)) cur0 hcu.out) hK) ?_
  refine goods_fresh (by kernel_rfl) hz0 ?_
  exact goods_nil
 case hf1 =>
 intro g V hF
 obtain ⟨lg3, bg3⟩ := hF.blk 2 _ _ rfl
 have hbf := hF.below
 clear hF
 simp only [finL, Pl.val, zA, zB, zC]
 generalize g 2 = g3 at *
 refine wpList_store_row rfl 80 (.tmp 3) (.tmp 6) rfl g3 cur0 rfl rfl 80 z bg3 oF.out.1 sF.out oF.out.2 ?_
 have P1_1 := hid ((P1.out.old hbf).rowFar (Nat.ne_of_lt (Nat.lt_of_lt_of_le P1.out.lt lg3)) cur0)
 have XR_1 := hid ((XR.out.old hbf).rowFar (Nat.ne_of_lt (Nat.lt_of_lt_of_le XR.out.lt lg3)) cur0)
 have FW_1 := hid (bg3.row cur0)
 have NE3 := hid (show w.heap.size + 1 < g3 from Nat.lt_of_lt_of_le XR.out.lt lg3)
 have LG3 := hid (Nat.le_trans HB.out.size lg3)
 have HB_1 := hid (below_row (g := g3) (HB.out.trans (hbf.mono HB.out.size)) (Nat.le_trans HB.out.size lg3) cur0)
 clear P1 XR HB PV lg3 bg3 hbf DD1
 generalize V.setRow g3 cur0 = W1 at *
 have PV : Hid (∀ V, Below W1.heap.size W1 V → PrimeAt V) := hid fun V hV => HP.out.old (HB_1.out.trans (hV.mono HB_1.out.size))
 have h0 : FewAt w A z g3 cur0 W1 := ⟨P1_1.out, XR_1.out, FW_1.out, HB_1.out, NE3.out⟩
 have hF0 := HF0.out
 clear P1_1 XR_1 FW_1 HB_1 oF sF HF0 hcu PV LG3
 go_wp2_with fail
 go_loopg [7] 15 (fun g iv wr => ∃ i : Nat, iv = .int .i64 (i : Nat) ∧ g + i = 15 ∧ ∃ cur, FewOk p i cur ∧ FewAt w A z g3 cur wr)
 case atStart => exact ⟨0, rfl, rfl, cur0, hF0, h0⟩
 case round =>
  obtain ⟨i, rfl, hg, cur, hcu, p1, p2, p3, p4, p5⟩ := hrel
  clear h0 hF0
  have P1 := hid p1
  have XR := hid p2
  have FW := hid p3
  have HB := hid p4
  have NE3 := hid p5
  have HC := hid hcu
  have oF := hid hcu.info
  have sF : Hid (z.size = cur.size) := hid (by rw [zs.out, hcu.1])
  clear p1 p2 p3 p4 p5 hcu
  by_cases hlt : i < 15
  ·obtain ⟨x, hx, hxc⟩ := HC.out.2.2 i (Nat.le_refl _)
   have oX := hid hx.ok
   have HX := hid hx
   have HXC := hid hxc
   clear hx hxc
   have hi16 : i < 16 := by omega
   have hj16 : i + 1 < 16 := by omega
   go_upto_region 5 with fail
   generalize wr = W2 at *
   (try simp only [Act.put, zA, zB, zC])
   have PV : Hid (∀ V, Below W2.heap.size W2 V → PrimeAt V) := hid fun V hV => HP.out.old (HB.out.trans (hV.mono HB.out.size))
   obtain ⟨y, hy, hADD⟩ := addDet HX.out HA.out
   have CADD := hid hADD
   have oY := hid hy.ok
   have HN := hid (HC.out.next hlt hy)
   have hys : 12 * (i + 1) + y.size ≤ cur.size := by rw [hy.size, HC.out.1]; omega
   clear hADD hy
   have DD11 : Hid (∀ V, Below W2.heap.size W2 V → Below W2.heap.size W2 V) := hid fun _ h => h
   refine wp_sched [(10, .is (.int .i64 (i : Int))), (11, .is (.int .i64 ((i + 1 : Nat) : Int))), (12, .is (.int .i64 (i : Int))), (13, .is (.pointer (some ⟨g3, 12 * i, none⟩))), (14, .is (.agg x)), (15, .is (.agg A)), (16, .is (.agg y)), (17, .is (.pointer (some ⟨g3, 12 * (i + 1), none⟩)))] (fun V => Below W2.heap.size W2 V) (by kernel_rfl) (by kernel_rfl) (by kernel_rfl) (by kernel_rfl) DD11.out ?hg11 _ (by rfl) ?hf11
   case hg11 =>
    refine goods_is (fun a V h hS K Q hK => op_quiet (quiet_move (.tmp 4) (look_at h 4) (.inl (by kernel_rfl))) hK) ?_
    refine goods_is (fun a V h hS K Q hK => op_quiet (quiet_inc (.tmp 10) 3 i (by omega) (look_at h 10) (by kernel_rfl) rfl) hK) ?_
    refine goods_is (fun a V h hS K Q hK => op_quiet (quiet_move (.tmp 4) (look_at h 4) (.inl (by kernel_rfl))) hK) ?_
    refine goods_is (fun a V h hS K Q hK => op_quiet (quiet_index _ (.tmp 3) (.tmp 12) _ _ _ (look_at h 3) (look_at h 12) (ix16 g3 i hi16) (by kernel_rfl)) hK) ?_
    refine goods_is (fun a V h hS K Q hK => op_quiet (quiet_load_off 46 (.tmp 13) _ _ (look_at h 13) x _ (fun j v hj => ((FW.out.old hS).cell _).trans (HXC.out j v hj)) Tryz.underlying46 rfl oX.out.1 (by kernel_rfl)) hK) ?_
    refine goods_is (fun a V h hS K Q hK => op_quiet (quiet_load_row 46 (.tmp 1) _ (look_at h 1) 46 A _ (P1.out.old hS) Tryz.underlying46 rfl (oA.out).1 (by kernel_rfl)) hK) ?_
    refine goods_is (fun a V h hS K Q hK => op_callK #[.tmp 14, .tmp 15] #[.agg x, .agg A] (map2 (look_at h 14) (look_at h 15)) (CADD.out V (PV.out V hS)) hK) ?_
    refine goods_is (fun a V h hS K Q hK => op_quiet (quiet_index _ (.tmp 3) (.tmp 11) _ _ _ (look_at h 3) (look_at h 11) (ix16 g3 (i + 1) hj16) (by kernel_rfl)) hK) ?_
    exact goods_nil
   case hf11 =>
   intro g V hF
   have hbf := hF.below
   clear hF
   simp only [finL, Pl.val, zA, zB, zC]
   have FWV := hid (FW.out.old hbf)
   have n1 := (P1.out.old hbf).rowFar (show w.heap.size ≠ g3 by have := NE3.out; omega) (cellsAt cur (12 * (i + 1)) y)
   have n2 := (XR.out.old hbf).rowFar (show w.heap.size + 1 ≠ g3 by have := NE3.out; omega) (cellsAt cur (12 * (i + 1)) y)
   have n3 := FWV.out.row (cellsAt cur (12 * (i + 1)) y)
   have n4 := below_row (g := g3) (HB.out.trans (hbf.mono HB.out.size)) (by have := NE3.out; omega) (cellsAt cur (12 * (i + 1)) y)
   have HNEW : Hid (FewAt w A z g3 (cellsAt cur (12 * (i + 1)) y) (V.setRow g3 (cellsAt cur (12 * (i + 1)) y))) := hid ⟨n1, n2, n3, n4, NE3.out⟩
   clear n1 n2 n3 n4 hbf PV DD11
   refine wpList_store_off rfl 46 (.tmp 17) (.tmp 16) rfl g3 (12 * (i + 1)) y rfl rfl 80 cur FWV.out hys oY.out.1 oY.out.2.1 ?_
   clear hys
   generalize V.setRow g3 (cellsAt cur (12 * (i + 1)) y) = W4 at *
   generalize cellsAt cur (12 * (i + 1)) y = cur2 at *
   go_wp2_with fail
   go_roundg (gk - 1)
   case measure => omega
   case rel => exact ⟨i + 1, by go_num, by omega, cur2, HN.out, HNEW.out⟩
  ·obtain rfl : i = 15 := by omega
   have XF := hid (XR.out.row cur)
   have HF := hid (below_row (g := w.heap.size + 1) HB.out (Nat.le_succ _) cur)
   go_wp2_with (first | (refine wpList_load_row rfl 80 (.tmp 3) rfl g3 rfl 80 cur (0, 0) _ FW.out Tryz.underlying80 rfl oF.out.1 ?_) | (refine wpList_store_row rfl 80 (.tmp 2) (.tmp 19) rfl (w.heap.size + 1) cur rfl rfl 80 z XR.out oF.out.1 sF.out oF.out.2 ?_))
   refine bodyPost_ret (v := .agg cur) ?_ rfl ⟨cur, rfl, HC.out, HF.out⟩
   exact results_cell_row Tryz.results41 _ _ (w.heap.size + 1) 80 _ (0, 0) _ rfl XF.out Tryz.underlying80 rfl oF.out.1
end Go.Proofs.YtcfogpeinjehbaaGreatDoor
end
