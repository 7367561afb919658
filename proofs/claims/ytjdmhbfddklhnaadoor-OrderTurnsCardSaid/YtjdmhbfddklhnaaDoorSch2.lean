/-
  A region, drawn or not, whose first operations answer by known relations and keep what a frame names, and whose last ones wait for all of these: whatever order is drawn, the first part ends with all relations met. Conditions: each operation's own contract, shown once.
-/
import Derived.OrdersHeld
import Derived.OrdersIn
import Derived.Tactics
import Derived.TacticsIn
import Derived.OwnWalkIn
import Derived.RangeFuncCalls
import Derived.Below
import Derived.Lib.Hide
set_option linter.unusedVariables false
set_option linter.unusedSimpArgs false
namespace Go.Proofs.YtjdmhbfddklhnaaDoor.Sch
open Go Go.Proofs Go.RowKit

def dstOf (ops : Array Oper) (i : Nat) : Option Tmp := (ops[i]?).bind (·.dst)
def onsOf (ops : Array Oper) (i : Nat) : List Nat := match ops[i]? with | some o => (o.after.toList.filter (fun e => Region.binds .any e)).map (·.on) | none => []
def clo (ops : Array Oper) : Nat → List Nat → List Nat
  | 0, l => l
  | f + 1, l => clo ops f (l ++ l.flatMap (onsOf ops)).eraseDups
/-- The operations that have come up ahead of this one, whatever order is drawn. -/
def pre (ops : Array Oper) (i : Nat) : List Nat := clo ops 8 (onsOf ops i)
section
variable (ops : Array Oper) (m : Nat)
/-- A temporary that no operation of the first part writes. -/
def still (t : Tmp) : Bool := (List.range m).all fun j => dstOf ops j != some t
def chk (size : Nat) : Bool :=
  decide (m ≤ ops.size) &&
  ((List.range m).all fun i => (match ops[i]? with | some o => (match o.dst with | some d => decide (d < size) | none => false) | none => false) &&
    ((onsOf ops i).all fun j => decide (j < i)) && ((List.range m).all fun j => j == i || dstOf ops i != dstOf ops j))
def cloB : Bool := (List.range ops.size).all fun j => decide (j < m) || ((List.range m).all fun i => (clo ops 12 (onsOf ops j)).contains i)
end
def opA (ops : Array Oper) (k : Nat) : Oper := (ops[k]?).getD default
theorem opA_of {ops : Array Oper} {k : Nat} {o : Oper} (h : ops[k]? = some o) : opA ops k = o := by unfold opA; rw [h]; rfl
def tm (a : Act) (t : Tmp) : Value := a.tmps.getD t undef
def at_ (ops : Array Oper) (a : Act) (i : Nat) : Value := match dstOf ops i with | some d => tm a d | none => undef

/-- What is said of the first part: the frame, and what each operation answers. -/
structure Plan where
  Fr : World → World → Prop
  R : Nat → (Nat → Value) → Value → World → Prop
  fresh : Nat → Bool
/-- The laws of a plan. -/
structure Laws (p : Plan) : Prop where
  refl : ∀ w, p.Fr w w
  trans : ∀ {u v w}, p.Fr u v → p.Fr v w → p.Fr u w
  drew : ∀ w, p.Fr w w.drew
  size : ∀ {u v}, p.Fr u v → u.heap.size ≤ v.heap.size
  keep : ∀ {i x v V V'}, p.R i x v V → p.Fr V V' → p.R i x v V'

def mask (ops : Array Oper) (k : Nat) (x : Nat → Value) (j : Nat) : Value := if (pre ops k).contains j then x j else undef
/-- An operation's contract: of the ones that came up ahead of it all relations are met. -/
def Good (P : Program) (ops : Array Oper) (m : Nat) (a0 : Act) (w0 : World) (p : Plan) (k : Nat) : Prop :=
  ∀ (a : Act) (V : World), (∀ t, still ops m t = true → tm a t = tm a0 t) → p.Fr w0 V → (∀ j ∈ pre ops k, p.R j (mask ops j (at_ ops a)) (at_ ops a j) V) →
    (Region.wanted (opA ops k) (yielded ops a.tmps) = true ∧ ∀ (K : Act → World → Prop) (Q : Exit → Act → World → Prop),
      (∀ v V', p.Fr V V' → p.R k (mask ops k (at_ ops a)) v V' → (p.fresh k = true → ∃ g, v = .pointer (some ⟨g, 0, none⟩) ∧ V.heap.size ≤ g ∧ g < V'.heap.size) → K (a.put (opA ops k).dst v) V') → (opA ops k).wp P a V K Q) ∨
    (Region.wanted (opA ops k) (yielded ops a.tmps) = false ∧ p.R k (mask ops k (at_ ops a)) undef V ∧ p.fresh k = false)

theorem onsOf_of {ops : Array Oper} {i : Nat} {o : Oper} (ho : ops[i]? = some o) {listed : Array Bool} (h : ∀ e ∈ o.after, Region.binds .any e = true → listed.getD e.on false = true) : ∀ j ∈ onsOf ops i, listed.getD j false = true := by
  intro j hj
  unfold onsOf at hj
  rw [ho] at hj
  simp only [List.mem_map, List.mem_filter] at hj
  obtain ⟨e, ⟨he, hb⟩, rfl⟩ := hj
  exact h e (by simpa using he) hb
theorem clo_listed {ops : Array Oper} {listed : Array Bool} (hd : ∀ i, listed.getD i false = true → ∀ j ∈ onsOf ops i, listed.getD j false = true) : ∀ (f : Nat) (l : List Nat), (∀ x ∈ l, listed.getD x false = true) → ∀ x ∈ clo ops f l, listed.getD x false = true
  | 0, l, h => h
  | f + 1, l, h => by
    unfold clo
    refine clo_listed hd f _ fun x hx => ?_
    rw [List.mem_eraseDups, List.mem_append, List.mem_flatMap] at hx
    rcases hx with hx | ⟨y, hy, hx⟩
    · exact h x hx
    · exact hd y (h y hy) x hx
theorem getD_tf {listed : Array Bool} {i : Nat} (h : i < listed.size) : listed.getD i true = listed.getD i false := by
  simp [Array.getD_eq_getD_getElem?, h]
theorem getD_lt {listed : Array Bool} {i : Nat} (h : listed.getD i false = true) : i < listed.size := by
  rcases Nat.lt_or_ge i listed.size with h' | h'
  · exact h'
  · simp [Array.getD_eq_getD_getElem?, Array.getElem?_eq_none h'] at h
theorem getD_lt' {listed : Array Bool} {i : Nat} (h : listed.getD i true = false) : i < listed.size := by
  rcases Nat.lt_or_ge i listed.size with h' | h'
  · exact h'
  · simp [Array.getD_eq_getD_getElem?, Array.getElem?_eq_none h'] at h
theorem getD_set_eq {listed : Array Bool} {i j : Nat} (hi : i < listed.size) : (listed.setIfInBounds i true).getD j true = if j = i then true else listed.getD j true := by
  split
  · rename_i h; subst h; simp [Array.getD_eq_getD_getElem?, hi]
  · rename_i h; exact getD_set_ne true (fun e => h e.symm)
theorem tget_set {A : Array Value} {d t : Nat} {v : Value} (h : d < A.size) : (A.setIfInBounds d v).getD t undef = if t = d then v else A.getD t undef := by
  split
  · rename_i h1; subst h1; simp [Array.getD_eq_getD_getElem?, h]
  · rename_i h1; simp [Array.getD_eq_getD_getElem?, Array.getElem?_setIfInBounds_ne (fun e => h1 e.symm)]
theorem put_tmps {a : Act} {o : Oper} {d : Tmp} (hd : o.dst = some d) (u : Value) : (a.put o.dst u).tmps = a.tmps.setIfInBounds d u := by rw [hd]; rfl
theorem put_defs {a : Act} (o : Oper) (u : Value) : (a.put o.dst u).defers = a.defers := by unfold Act.put; split <;> rfl

structure Chk (ops : Array Oper) (m size : Nat) : Prop where
  le : m ≤ ops.size
  op : ∀ i, i < m → ∃ o d, ops[i]? = some o ∧ o.dst = some d ∧ d < size
  small : ∀ i, i < m → ∀ j ∈ onsOf ops i, j < i
  ne : ∀ i j, i < m → j < m → i ≠ j → dstOf ops i ≠ dstOf ops j
theorem clo_spec {ops : Array Oper} {m : Nat} (h : cloB ops m = true) : ∀ j, m ≤ j → j < ops.size → ∀ i, i < m → i ∈ clo ops 12 (onsOf ops j) := by
  unfold cloB at h
  simp only [decide_eq_true_eq, List.all_eq_true, List.mem_range, Bool.or_eq_true] at h
  intro j hj hj2 i hi
  rcases h j hj2 with h4 | h4
  · exact absurd h4 (by omega)
  · have := h4 i hi
    simpa using this
theorem chk_spec {ops : Array Oper} {m size : Nat} (h : chk ops m size = true) : Chk ops m size := by
  unfold chk at h
  simp only [Bool.and_eq_true, decide_eq_true_eq, List.all_eq_true, List.mem_range, Bool.or_eq_true] at h
  obtain ⟨h1, h2⟩ := h
  refine ⟨h1, fun i hi => ?_, fun i hi j hj => (h2 i hi).1.2 j hj, fun i j hi hj hne e => ?_⟩
  · have h4 := (h2 i hi).1.1
    cases ho : ops[i]? with
    | none => rw [ho] at h4; simp at h4
    | some o =>
      rw [ho] at h4
      cases hd : o.dst with
      | none => simp [hd] at h4
      | some d =>
        simp only [hd, decide_eq_true_eq] at h4
        exact ⟨o, d, rfl, hd, h4⟩
  · have h4 := (h2 i hi).2 j hj
    rcases h4 with h4 | h4
    · simp at h4; exact hne h4.symm
    · rw [e] at h4; simp at h4

structure SInv (ops : Array Oper) (m : Nat) (a0 : Act) (w0 : World) (p : Plan) (listed : Array Bool) (a : Act) (w : World) : Prop where
  defers : a.defers = a0.defers
  size : a.tmps.size = a0.tmps.size
  lsize : listed.size = ops.size
  far : ∀ t, (∀ i, i < m → dstOf ops i = some t → listed.getD i true = false) → tm a t = tm a0 t
  rel : ∀ i, i < m → listed.getD i true = true → p.R i (mask ops i (at_ ops a)) (at_ ops a i) w
  new : ∀ i, i < m → listed.getD i true = true → p.fresh i = true → ∃ g, at_ ops a i = .pointer (some ⟨g, 0, none⟩) ∧ w0.heap.size ≤ g ∧ g < w.heap.size
  apart : ∀ i j, i < m → j < m → p.fresh i = true → p.fresh j = true → i ≠ j → listed.getD i true = true → listed.getD j true = true → at_ ops a i ≠ at_ ops a j
  frame : p.Fr w0 w
  late : ∀ i, m ≤ i → i < ops.size → listed.getD i true = false
  down : ∀ i, i < m → listed.getD i true = true → ∀ j ∈ onsOf ops i, listed.getD j false = true

theorem SInv.downAll {ops : Array Oper} {m : Nat} {a0 a : Act} {w0 w : World} {p : Plan} {listed : Array Bool} (h : SInv ops m a0 w0 p listed a w) : ∀ k, listed.getD k false = true → ∀ j ∈ onsOf ops k, listed.getD j false = true := fun k hk => by
  have hks := getD_lt hk
  by_cases hkm : k < m
  · exact h.down k hkm (by rw [getD_tf hks]; exact hk)
  · have := h.late k (by omega) (by rw [← h.lsize]; exact hks)
    rw [getD_tf hks, hk] at this; cases this
theorem SInv.pre {ops : Array Oper} {m : Nat} {a0 a : Act} {w0 w : World} {p : Plan} {listed : Array Bool} (h : SInv ops m a0 w0 p listed a w) {i : Nat} (hdeps : ∀ j ∈ onsOf ops i, listed.getD j false = true) : ∀ j ∈ pre ops i, j < m ∧ listed.getD j true = true := fun j hj => by
  have hl := clo_listed h.downAll 8 _ hdeps j hj
  have hs := getD_lt hl
  refine ⟨?_, by rw [getD_tf hs]; exact hl⟩
  rcases Nat.lt_or_ge j m with h1 | h1
  · exact h1
  · have := h.late j h1 (by rw [← h.lsize]; exact hs)
    rw [getD_tf hs, hl] at this; cases this

theorem SInv.next {ops : Array Oper} {m : Nat} {a0 a : Act} {w0 w V : World} {p : Plan} {listed : Array Bool} (L : Laws p) (h : SInv ops m a0 w0 p listed a w) (hc : Chk ops m a0.tmps.size) {i : Nat} (him : i < m) (hun : listed.getD i true = false) {o : Oper} (ho : ops[i]? = some o)
    (hdeps : ∀ j ∈ onsOf ops i, listed.getD j false = true) {d : Tmp} (hd : o.dst = some d) (hds : d < a0.tmps.size) (hb : p.Fr w V) (u : Value)
    (hu : p.R i (mask ops i (at_ ops a)) u V) (hf : p.fresh i = true → ∃ g, u = .pointer (some ⟨g, 0, none⟩) ∧ w.heap.size ≤ g ∧ g < V.heap.size) : SInv ops m a0 w0 p (listed.setIfInBounds i true) (a.put o.dst u) V := by
  have hil := getD_lt' hun
  have hdi : dstOf ops i = some d := by unfold dstOf; rw [ho]; exact hd
  have hget : ∀ t, tm (a.put o.dst u) t = if t = d then u else tm a t := fun t => by unfold tm; rw [put_tmps hd]; exact tget_set (by rw [h.size]; exact hds)
  have hati : at_ ops (a.put o.dst u) i = u := by unfold at_; rw [hdi]; simp only [hget, if_true]
  have hato : ∀ j, j < m → j ≠ i → at_ ops (a.put o.dst u) j = at_ ops a j := fun j hj hne => by
    unfold at_
    cases hdj : dstOf ops j with
    | none => rfl
    | some e =>
      have : e ≠ d := fun e2 => hc.ne j i hj him hne (by rw [hdj, hdi, e2])
      simp only [hget, if_neg this]
  have hold : ∀ j, (listed.setIfInBounds i true).getD j true = true → j ≠ i → listed.getD j true = true := fun j hj hne => by rw [getD_set_eq hil, if_neg hne] at hj; exact hj
  -- what an operation saw that came up already, or that comes up now, is as it was
  have hmask : ∀ j, (∀ k ∈ onsOf ops j, listed.getD k false = true) → mask ops j (at_ ops (a.put o.dst u)) = mask ops j (at_ ops a) := fun j hj => by
    funext k
    unfold mask
    split
    · rename_i hk
      have hk2 := h.pre hj k (by simpa using hk)
      exact hato k hk2.1 (fun e => by subst e; rw [hun] at hk2; exact absurd hk2.2 (by decide))
    · rfl
  refine ⟨?_, ?_, ?_, ?_, ?_, ?_, ?_, ?_, ?_, ?_⟩
  · rw [put_defs]; exact h.defers
  · rw [put_tmps hd]; simp [h.size]
  · simp [h.lsize]
  · intro t ht
    have htd : t ≠ d := fun e => by
      have := ht i him (by rw [hdi, e])
      rw [getD_set_eq hil, if_pos rfl] at this; cases this
    rw [hget, if_neg htd]
    refine h.far t fun j hj hjt => ?_
    have := ht j hj hjt
    rw [getD_set_eq hil] at this
    split at this
    · cases this
    · exact this
  · intro j hj hl
    by_cases e : j = i
    · subst e; rw [hati, hmask _ hdeps]; exact hu
    · have hl2 := hold j hl e
      rw [hato j hj e, hmask j (h.down j hj hl2)]
      exact L.keep (h.rel j hj hl2) hb
  · intro j hj hl hfj
    by_cases e : j = i
    · subst e
      obtain ⟨g, h1, h2, h3⟩ := hf hfj
      exact ⟨g, by rw [hati, h1], Nat.le_trans (L.size h.frame) h2, h3⟩
    · obtain ⟨g, h1, h2, h3⟩ := h.new j hj (hold j hl e) hfj
      exact ⟨g, by rw [hato j hj e, h1], h2, Nat.lt_of_lt_of_le h3 (L.size hb)⟩
  · intro j k hj hk fj fk hne hlj hlk
    by_cases ej : j = i
    · subst ej
      obtain ⟨g, h1, h2, h3⟩ := hf fj
      obtain ⟨g', e1, e2, e3⟩ := h.new k hk (hold k hlk (fun e => hne e.symm)) fk
      rw [hati, hato k hk (fun e => hne e.symm), e1, h1]
      intro e
      injection e with e; injection e with e; injection e with e
      omega
    · by_cases ek : k = i
      · subst ek
        obtain ⟨g, h1, h2, h3⟩ := hf fk
        obtain ⟨g', e1, e2, e3⟩ := h.new j hj (hold j hlj ej) fj
        rw [hato j hj ej, e1, hati, h1]
        intro e
        injection e with e; injection e with e; injection e with e
        omega
      · rw [hato j hj ej, hato k hk ek]
        exact h.apart j k hj hk fj fk hne (hold j hlj ej) (hold k hlk ek)
  · exact L.trans h.frame hb
  · intro j hj hj2
    rw [getD_set_eq hil, if_neg (by omega)]
    exact h.late j hj hj2
  · intro j hj hl k hk
    by_cases e : j = i
    · subst e; exact getD_set_true (hdeps k hk)
    · exact getD_set_true (h.down j hj (hold j hl e) k hk)

def listedM (ops : Array Oper) (m : Nat) : Array Bool := (List.replicate m true ++ List.replicate (ops.size - m) false).toArray
def listedK (n k : Nat) : Array Bool := (List.replicate k true ++ List.replicate (n - k) false).toArray
theorem listedM_K (ops : Array Oper) (m : Nat) : listedM ops m = listedK ops.size m := rfl
theorem listedM_size {ops : Array Oper} {m : Nat} (h : m ≤ ops.size) : (listedM ops m).size = ops.size := by simp [listedM]; omega
theorem listedM_at {ops : Array Oper} {m : Nat} (i : Nat) (h : i < m) : (listedM ops m).getD i true = true := by
  simp [listedM, Array.getD_eq_getD_getElem?, List.getElem?_append_left, h]
theorem listed_eq {ops : Array Oper} {m : Nat} {a0 a : Act} {w0 w : World} {p : Plan} {listed : Array Bool} (h : SInv ops m a0 w0 p listed a w) (hle : m ≤ ops.size) (hall : ∀ i, i < m → listed.getD i true = true) : listed = listedM ops m := by
  refine Array.ext (by rw [h.lsize, listedM_size hle]) fun i h1 h2 => ?_
  by_cases hi : i < m
  · have e1 := hall i hi
    have e2 := listedM_at (ops := ops) i hi
    simp only [Array.getD_eq_getD_getElem?, Array.getElem?_eq_getElem h1, Option.getD_some] at e1
    simp only [Array.getD_eq_getD_getElem?, Array.getElem?_eq_getElem h2, Option.getD_some] at e2
    rw [e1, e2]
  · have e1 := h.late i (by omega) (by rw [← h.lsize]; exact h1)
    simp only [Array.getD_eq_getD_getElem?, Array.getElem?_eq_getElem h1, Option.getD_some] at e1
    rw [e1]
    simp [listedM, List.getElem_append_right, Nat.not_lt.1 hi]
theorem count_set {listed : Array Bool} {i : Nat} (h : listed.getD i true = false) : (listed.setIfInBounds i true).toList.count true = listed.toList.count true + 1 := by
  have hl := getD_lt' h
  have hv : listed.toList[i]'(by simpa using hl) = false := by
    simp only [Array.getD_eq_getD_getElem?, Array.getElem?_eq_getElem hl, Option.getD_some] at h
    simpa using h
  rw [Array.toList_setIfInBounds, List.count_set (by simpa using hl), hv]
  simp
theorem count_all {l : List Bool} (h : l.count true = l.length) (i : Nat) (hi : i < l.length) : l[i] = true := by
  have := List.count_eq_length.1 h
  exact (this _ (List.getElem_mem hi)).symm

/-- How an operation is carried out: plainly, or within a fence. -/
structure Mode2 (P : Program) where
  fits : Array Oper → Prop
  op : Array Oper → (Exit → Act → World → Prop) → Nat → (Act → World → Prop) → Act → World → Prop
  step : ∀ {ops : Array Oper} {Q : Exit → Act → World → Prop} {i : Nat} {K : Act → World → Prop} {a : Act} {w : World} {o : Oper}, fits ops → ops[i]? = some o → Region.wanted o (yielded ops a.tmps) = true → o.wp P a w K Q → op ops Q i K a w
  skip : ∀ {ops : Array Oper} {Q : Exit → Act → World → Prop} {i : Nat} {K : Act → World → Prop} {a : Act} {w : World} {o : Oper}, fits ops → ops[i]? = some o → Region.wanted o (yielded ops a.tmps) = false → K (a.put o.dst undef) w → op ops Q i K a w
def plainMode (P : Program) : Mode2 P where
  fits _ := True
  op ops Q i K a w := wpOp P ops Q i K a w
  step := fun _ ho hw h => by
    unfold wpOp
    simp only [ho]
    rw [if_pos hw]
    exact .inl h
  skip := fun _ ho hw h => by
    unfold wpOp
    simp only [ho]
    rw [if_neg (by rw [hw]; decide)]
    exact h

theorem sched_op {P : Program} {ops : Array Oper} {m : Nat} {a0 : Act} {w0 : World} {p : Plan} {Q : Exit → Act → World → Prop} (M : Mode2 P) (hM : M.fits ops) (L : Laws p) (hc : Chk ops m a0.tmps.size) (hg : ∀ k, k < m → Good P ops m a0 w0 p k)
    {listed : Array Bool} {a : Act} {w : World} (h : SInv ops m a0 w0 p listed a w) {i : Nat} (him : i < m) (hun : listed.getD i true = false) (hdeps : ∀ j ∈ onsOf ops i, listed.getD j false = true) {K : Act → World → Prop}
    (hK : ∀ a' V, SInv ops m a0 w0 p (listed.setIfInBounds i true) a' V → K a' V) : M.op ops Q i K a w := by
  obtain ⟨o, d, ho, hd, hds⟩ := hc.op i him
  have good := hg i him a w (fun t ht => h.far t fun j hj hjt => by
    unfold still at ht
    have := List.all_eq_true.1 ht j (List.mem_range.2 hj)
    rw [hjt] at this
    simp at this) h.frame (fun j hj => h.rel j (h.pre hdeps j hj).1 (h.pre hdeps j hj).2)
  rw [opA_of ho] at good
  rcases good with ⟨hw, good⟩ | ⟨hw, h1, h2⟩
  · exact M.step hM ho hw (good _ _ fun v V' hb hr hf => hK _ _ (h.next L hc him hun ho hdeps hd hds hb v hr hf))
  · exact M.skip hM ho hw (hK _ _ (h.next L hc him hun ho hdeps hd hds (L.refl _) undef h1 (fun hf => by rw [h2] at hf; cases hf)))

def seqd (ops : Array Oper) (m : Nat) : Bool := (List.range (ops.size - m)).all (fun k => Region.ready .any ops (listedK ops.size (m + k)) == [m + k]) && Region.ready .any ops (listedK ops.size ops.size) == []
theorem listedK_set {n k : Nat} (h : k < n) : (listedK n k).setIfInBounds k true = listedK n (k + 1) := by
  unfold listedK
  simp only [List.setIfInBounds_toArray, Array.mk.injEq]
  rw [List.set_append_right _ _ (by simp), List.length_replicate, Nat.sub_self, show n - k = (n - (k + 1)) + 1 by omega, List.replicate_succ, List.set_cons_zero, List.replicate_succ', List.append_assoc]
  rfl
theorem wpAny_tail {P : Program} {ops : Array Oper} {Q : Exit → Act → World → Prop} {m : Nat} (hs : seqd ops m = true) : ∀ (f k : Nat) (a : Act) (w : World), k + f = ops.size - m → m ≤ ops.size → wpList P ops Q (ops.toList.drop (m + k)) a w → wpAny P .any ops Q f (listedK ops.size (m + k)) a w
  | 0, k, a, w, hk, hm, h => by
    unfold seqd at hs
    rw [Bool.and_eq_true] at hs
    have e : m + k = ops.size := by omega
    rw [e] at h ⊢
    rw [List.drop_of_length_le (by simp)] at h
    exact ⟨by simpa using hs.2, h⟩
  | f + 1, k, a, w, hk, hm, h => by
    have hs' := hs
    unfold seqd at hs
    rw [Bool.and_eq_true, List.all_eq_true] at hs
    have hr : Region.ready .any ops (listedK ops.size (m + k)) = [m + k] := by have := hs.1 k (List.mem_range.2 (by omega)); simpa using this
    have hlt : m + k < ops.size := by omega
    refine ⟨fun h0 => (by rw [hr] at h0; cases h0), fun i hi => ?_⟩
    rw [hr] at hi
    obtain rfl : i = m + k := by simpa using hi
    have ho : ops[m + k]? = some ops[m + k] := Array.getElem?_eq_getElem hlt
    have hl : ops.toList.drop (m + k) = ops[m + k] :: ops.toList.drop (m + (k + 1)) := by
      rw [List.drop_eq_getElem_cons (by simpa using hlt)]; rfl
    rw [hl] at h
    unfold wpList at h
    unfold wpOp
    simp only [ho]
    rw [listedK_set hlt]
    have ih := fun a w => wpAny_tail (P := P) (Q := Q) hs' f (k + 1) a w (by omega) hm
    split
    · rename_i hw
      rw [if_pos hw] at h
      exact h.imp (Oper.wp_mono fun a w hh => ih a w hh) id
    · rename_i hw
      rw [if_neg hw] at h
      exact ih _ _ h
/-- The next operation: while not all of the first part is listed, one of it may come up, and nothing else. -/
theorem ready_in {ops : Array Oper} {m : Nat} {a0 a : Act} {w0 w : World} {p : Plan} {listed : Array Bool} (h : SInv ops m a0 w0 p listed a w) (hc : Chk ops m a0.tmps.size) (hcl : cloB ops m = true) (hall : ¬ ∀ i, i < m → listed.getD i true = true) :
    Region.ready .any ops listed ≠ [] ∧ ∀ i ∈ Region.ready .any ops listed, i < m ∧ listed.getD i true = false ∧ ∀ j ∈ onsOf ops i, listed.getD j false = true := by
  constructor
  · intro hr
    apply hall
    intro i
    induction i using Nat.strongRecOn with
    | ind i ihi =>
      intro him
      cases hl : listed.getD i true with
      | true => rfl
      | false =>
        obtain ⟨o, d, ho, _, _⟩ := hc.op i him
        have : i ∈ Region.ready .any ops listed := mem_ready.2 ⟨hl, o, ho, fun e he hb => by
          have hj : e.on ∈ onsOf ops i := by
            unfold onsOf; rw [ho]
            simp only [List.mem_map, List.mem_filter]
            exact ⟨e, ⟨by simpa using he, hb⟩, rfl⟩
          have hlt := hc.small i him _ hj
          have := ihi _ hlt (by omega)
          rwa [getD_tf (by rw [h.lsize]; have := hc.le; omega)] at this⟩
        rw [hr] at this; cases this
  · intro i hi
    obtain ⟨hun, o, ho, hdep⟩ := mem_ready.1 hi
    have hdeps := onsOf_of ho hdep
    have hos : i < ops.size := by rw [← h.lsize]; exact getD_lt' hun
    by_cases him : i < m
    · exact ⟨him, hun, hdeps⟩
    · exfalso
      apply hall
      intro j hj
      have := clo_listed h.downAll 12 _ hdeps j (clo_spec hcl i (by omega) hos j hj)
      rw [getD_tf (getD_lt this)]; exact this
theorem zero_all {ops : Array Oper} {m : Nat} {a0 a : Act} {w0 w : World} {p : Plan} {listed : Array Bool} (h : SInv ops m a0 w0 p listed a w) (hle : m ≤ ops.size) (hn : listed.toList.count true = ops.size) : ∀ i, i < m → listed.getD i true = true := fun i hi => by
  have hl : i < listed.size := by rw [h.lsize]; omega
  have := count_all (l := listed.toList) (by rw [Array.length_toList, h.lsize]; omega) i (by simpa using hl)
  simp only [Array.getD_eq_getD_getElem?, Array.getElem?_eq_getElem hl, Option.getD_some]
  simpa using this
theorem countM {ops : Array Oper} {m : Nat} : (listedM ops m).toList.count true = m := by simp [listedM, List.count_replicate]

theorem wpAny_sched {P : Program} {ops : Array Oper} {m : Nat} {a0 : Act} {w0 : World} {p : Plan} {Q : Exit → Act → World → Prop} (L : Laws p) (hc : Chk ops m a0.tmps.size) (hcl : cloB ops m = true) (hg : ∀ k, k < m → Good P ops m a0 w0 p k)
    (hfin : ∀ a V, SInv ops m a0 w0 p (listedM ops m) a V → wpAny P .any ops Q (ops.size - m) (listedM ops m) a V) :
    ∀ (fuel : Nat) (listed : Array Bool) (a : Act) (w : World), SInv ops m a0 w0 p listed a w → listed.toList.count true + fuel = ops.size → wpAny P .any ops Q fuel listed a w := by
  intro fuel
  induction fuel with
  | zero =>
    intro listed a w h hn
    have e := listed_eq h hc.le (zero_all h hc.le (by omega))
    subst e
    have := hfin a w h
    rw [countM] at hn
    rw [show ops.size - m = 0 by omega] at this
    exact this
  | succ fuel ih =>
    intro listed a w h hn
    by_cases hall : ∀ i, i < m → listed.getD i true = true
    · have e := listed_eq h hc.le hall
      subst e
      have := hfin a w h
      rw [countM] at hn
      rw [show ops.size - m = fuel + 1 by omega] at this
      exact this
    · obtain ⟨h1, h2⟩ := ready_in h hc hcl hall
      refine ⟨fun hr => absurd hr h1, fun i hi => ?_⟩
      obtain ⟨him, hun, hdeps⟩ := h2 i hi
      exact sched_op (plainMode P) trivial L hc hg h him hun hdeps fun a' V h' => ih _ _ _ h' (by rw [count_set hun]; omega)

theorem sinv_start {ops : Array Oper} {m : Nat} {a0 : Act} {w0 w1 : World} {p : Plan} (HC : Chk ops m a0.tmps.size) (hb : p.Fr w0 w1) : SInv ops m a0 w0 p (Array.replicate ops.size false) a0 w1 := by
  have hf : ∀ i, i < ops.size → (Array.replicate ops.size false).getD i true = false := fun i hi => by simp [Array.getD_eq_getD_getElem?, Array.getElem?_replicate, hi]
  have hno : ∀ i, i < m → (Array.replicate ops.size false).getD i true = true → False := fun i hi hl => by
    rw [hf i (Nat.lt_of_lt_of_le hi HC.le)] at hl; cases hl
  exact ⟨rfl, rfl, by simp, fun t _ => rfl, fun i hi hl => (hno i hi hl).elim, fun i hi hl => (hno i hi hl).elim, fun i j hi hj _ _ _ hl => (hno i hi hl).elim, hb, fun i _ hi => hf i hi, fun i hi hl => (hno i hi hl).elim⟩

/-- The temporaries behind the first part. -/
def finL (x : Nat → Value) : Nat → List Tmp → Array Value → Array Value
  | _, [], A => A
  | k, d :: r, A => finL x (k + 1) r (A.setIfInBounds d (x k))
def chkD (ops : Array Oper) : Nat → List Tmp → Bool
  | _, [] => true
  | k, d :: r => dstOf ops k == some d && chkD ops (k + 1) r
theorem finL_eq {ops : Array Oper} {B : Array Value} {x : Nat → Value} : ∀ (D : List Tmp) (k : Nat) (A : Array Value), chkD ops k D = true → B.size = A.size →
    (∀ i d, D[i]? = some d → d < A.size → B.getD d undef = x (k + i)) → (∀ t, (∀ i, i < D.length → dstOf ops (k + i) ≠ some t) → B.getD t undef = A.getD t undef) → finL x k D A = B
  | [], k, A, _, hs, _, hf => by
    unfold finL
    refine (Array.ext hs fun i h1 h2 => ?_).symm
    have := hf i (fun _ h => absurd h (Nat.not_lt_zero _))
    simpa [Array.getD_eq_getD_getElem?, h1, h2] using this
  | d :: r, k, A, hd, hs, hv, hf => by
    unfold chkD at hd
    rw [Bool.and_eq_true] at hd
    have hdk : dstOf ops k = some d := by simpa using hd.1
    unfold finL
    refine finL_eq r (k + 1) _ hd.2 (by simp [hs]) (fun i e hi hlt => ?_) (fun t ht => ?_)
    · have := hv (i + 1) e (by simpa using hi) (by simpa using hlt)
      rw [this]; congr 1; omega
    · by_cases hlt : d < A.size
      · rw [tget_set hlt]
        split
        · rename_i e; subst e
          exact hv 0 t rfl hlt
        · rename_i e
          refine hf t fun i hi hit => ?_
          cases i with
          | zero => rw [Nat.add_zero, hdk] at hit; injection hit with hit; exact e hit.symm
          | succ i => exact ht i (by simpa using hi) (by rw [← hit]; congr 1; omega)
      · have hle : A.size ≤ d := Nat.le_of_not_lt hlt
        rw [Array.setIfInBounds_eq_of_size_le hle]
        by_cases e : t = d
        · subst e
          simp [Array.getD_eq_getD_getElem?, Array.getElem?_eq_none (show B.size ≤ t from hs ▸ hle), Array.getElem?_eq_none hle]
        · refine hf t fun i hi hit => ?_
          cases i with
          | zero => rw [Nat.add_zero, hdk] at hit; injection hit with hit; exact e hit.symm
          | succ i => exact ht i (by simpa using hi) (by rw [← hit]; congr 1; omega)

/-- What is known behind the first part. -/
structure SFin (ops : Array Oper) (m : Nat) (p : Plan) (x : Nat → Value) (w0 V : World) : Prop where
  rel : ∀ i, i < m → p.R i (mask ops i x) (x i) V
  new : ∀ i, i < m → p.fresh i = true → ∃ g, x i = .pointer (some ⟨g, 0, none⟩) ∧ w0.heap.size ≤ g ∧ g < V.heap.size
  apart : ∀ i j, i < m → j < m → p.fresh i = true → p.fresh j = true → i ≠ j → x i ≠ x j
  frame : p.Fr w0 V
theorem sinv_end {ops : Array Oper} {D : List Tmp} {a0 a : Act} {w0 V : World} {p : Plan} (hd : chkD ops 0 D = true) (HC : Chk ops D.length a0.tmps.size) (h : SInv ops D.length a0 w0 p (listedM ops D.length) a V) : SFin ops D.length p (at_ ops a) w0 V ∧ finL (at_ ops a) 0 D a0.tmps = a.tmps := by
  refine ⟨⟨fun i hi => h.rel i hi (listedM_at i hi), fun i hi hf => h.new i hi (listedM_at i hi) hf, fun i j hi hj fi fj hne => h.apart i j hi hj fi fj hne (listedM_at i hi) (listedM_at j hj), h.frame⟩, ?_⟩
  have hD : ∀ (D : List Tmp) (k i : Nat) (d : Tmp), chkD ops k D = true → D[i]? = some d → dstOf ops (k + i) = some d := by
    intro D
    induction D with
    | nil => intro k i d _ h; simp at h
    | cons e r ih =>
      intro k i d hk hi
      unfold chkD at hk
      rw [Bool.and_eq_true] at hk
      cases i with
      | zero => simp at hi; subst hi; simpa using hk.1
      | succ i => have := ih (k + 1) i d hk.2 (by simpa using hi); rwa [show k + 1 + i = k + (i + 1) by omega] at this
  refine finL_eq D 0 _ hd h.size (fun i d hi hlt => ?_) (fun t ht => ?_)
  · have := hD D 0 i d hd hi
    unfold at_ tm
    rw [this]
  · refine h.far t fun i hi hit => ?_
    have := ht i hi
    rw [Nat.zero_add] at this
    exact absurd hit this

theorem wp_sch {P : Program} {ops : Array Oper} {a0 : Act} {w0 : World} {Q : Exit → Act → World → Prop} {id : Nat} {draw : Bool} (p : Plan) (D : List Tmp) (L : Laws p) (hm : P.follows .mixedOrders = true) (hc : chk ops D.length a0.tmps.size = true) (hd : chkD ops 0 D = true) (hq : (!draw || (cloB ops D.length && seqd ops D.length)) = true)
    (hg : ∀ k, k < D.length → Good P ops D.length a0 w0 p k) (tl : List Oper) (ht : ops.toList.drop D.length = tl)
    (hfin : ∀ (x : Nat → Value) (V : World), SFin ops D.length p x w0 V → wpList P ops Q tl ⟨finL x 0 D a0.tmps, a0.defers⟩ V) :
    (Code.region id ops draw).wp P Q a0 w0 := by
  have HC := chk_spec hc
  have fin : ∀ a V, SInv ops D.length a0 w0 p (listedM ops D.length) a V → wpList P ops Q (ops.toList.drop D.length) a V := fun a V h => by
    obtain ⟨h1, h2⟩ := sinv_end hd HC h
    have := hfin _ V h1
    rw [h2, ← h.defers] at this
    rw [ht]; exact this
  cases draw with
  | true =>
    have hq2 : cloB ops D.length = true ∧ seqd ops D.length = true := by simpa using hq
    refine wp_region_any hm (wpAny_sched L HC hq2.1 hg (fun a V h => ?_) ops.size _ a0 w0.drew (sinv_start HC (L.drew _)) (by simp [List.count_replicate]))
    have := wpAny_tail (P := P) (Q := Q) hq2.2 (ops.size - D.length) 0 a V (by omega) HC.le (fin a V h)
    rw [Nat.add_zero, ← listedM_K] at this
    exact this
  | false =>
    refine wp_region ?_
    have key : ∀ (f k : Nat) (a : Act) (w : World), k + f = D.length → SInv ops D.length a0 w0 p (listedK ops.size k) a w → wpOps P ops Q (List.range' k (ops.size - k)) a w := by
      intro f
      induction f with
      | zero =>
        intro k a w hk h
        rw [Nat.add_zero] at hk
        subst hk
        have := fin a w h
        have e : wpOps P ops Q (List.range' D.length (ops.size - D.length)) = wpList P ops Q (ops.toList.drop D.length) := by
          have e1 := wpOps_eq_wpList (P := P) (Q := Q) (ops := ops) (ops.toList.drop D.length) D.length (fun j => by simp)
          have e2 : (ops.toList.drop D.length).length = ops.size - D.length := by simp
          rw [e2] at e1; exact e1
        rw [e]; exact this
      | succ f ih =>
        intro k a w hk h
        have hkm : k < D.length := by omega
        have hks : k < ops.size := Nat.lt_of_lt_of_le hkm HC.le
        rw [show ops.size - k = (ops.size - (k + 1)) + 1 by omega, List.range'_succ, wpOps_cons]
        refine sched_op (plainMode P) trivial L HC hg h hkm ?_ (fun j hj => ?_) (fun a' V h' => ?_)
        · simp [listedK, Array.getD_eq_getD_getElem?, List.getElem?_append_right, List.getElem?_replicate, show 0 < ops.size - k by omega]
        · have := HC.small k hkm j hj
          simp [listedK, Array.getD_eq_getD_getElem?, List.getElem?_append_left, this]
        · rw [listedK_set hks] at h'
          exact ih (k + 1) a' V (by omega) h'
    rw [List.range_eq_range']
    have h0 : listedK ops.size 0 = Array.replicate ops.size false := by simp [listedK]
    exact key D.length 0 a0 w0 (by omega) (by rw [h0]; exact sinv_start HC (L.refl _))

/-! ## The same within a round of a range over a function. -/
theorem wpIn_of_wp {P : Program} {lp n : Nat} (o : Oper) (a : Act) (V : World) (K : Act → World → Prop) (Q : Exit → Act → World → Prop) (hd : ∀ c, o.op ≠ .defer c) (h : o.wp P a V K Q) : o.wpIn (Fence.wide.inRound lp) n P a V K Q := by
  unfold Oper.wpIn
  refine ⟨fun f _ => trivial, ?_⟩
  rw [Oper.semAt_plain _ _ _ hd]
  unfold Oper.wp at h
  generalize (execOp a.eval o).run P V = r at *
  cases r with
  | ok x w' =>
    cases x <;> simp only [Oper.upon, Oper.uponIn] at h ⊢ <;>
      first
        | exact h
        | exact ⟨fun hh => (by cases hh), CallsIn.inRound lp (callsIn_wide.2 (h.mono fun e w'' he => by cases e <;> exact he))⟩
        | exact ⟨fun hh => (by cases hh), fun c cs _ => let ⟨v, w2, r, s⟩ := h c cs; ⟨v, w2, r, stepsIn_wide.2 s⟩⟩
  | halt x w' => cases x <;> simp only [Oper.upon, Oper.uponIn] at h ⊢ <;> exact h
def noDefer (ops : Array Oper) : Bool := ops.all fun o => match o.op with | .defer _ => false | _ => true
theorem noDefer_spec {ops : Array Oper} (h : noDefer ops = true) {i : Nat} {o : Oper} (ho : ops[i]? = some o) (c : Call) : o.op ≠ .defer c := by
  intro e
  have hm : o ∈ ops := Array.mem_of_getElem? ho
  have := Array.all_eq_true_iff_forall_mem.1 h o hm
  rw [e] at this; cases this
def roundMode (P : Program) (lp n : Nat) : Mode2 P where
  fits ops := noDefer ops = true
  op ops Q i K a w := wpOpIn (Fence.wide.inRound lp) n P ops Q i K a w
  step := fun hM ho hw h => by
    unfold wpOpIn
    simp only [ho]
    rw [if_pos hw]
    exact wpIn_of_wp _ _ _ _ _ (fun c => noDefer_spec hM ho c) h
  skip := fun hM ho hw h => by
    unfold wpOpIn
    simp only [ho]
    rw [if_neg (by rw [hw]; decide)]
    exact ⟨fun _ _ => trivial, h⟩
theorem wpAny_tailIn {lp n : Nat} {P : Program} {ops : Array Oper} {Q : Exit → Act → World → Prop} {m : Nat} (hs : seqd ops m = true) : ∀ (f k : Nat) (a : Act) (w : World), k + f = ops.size - m → m ≤ ops.size → wpListIn (Fence.wide.inRound lp) n P ops Q (ops.toList.drop (m + k)) a w → wpAnyIn (Fence.wide.inRound lp) n P .any ops Q f (listedK ops.size (m + k)) a w
  | 0, k, a, w, hk, hm, h => by
    unfold seqd at hs
    rw [Bool.and_eq_true] at hs
    have e : m + k = ops.size := by omega
    rw [e] at h ⊢
    rw [List.drop_of_length_le (by simp)] at h
    exact ⟨by simpa using hs.2, h⟩
  | f + 1, k, a, w, hk, hm, h => by
    have hs' := hs
    unfold seqd at hs
    rw [Bool.and_eq_true, List.all_eq_true] at hs
    have hr : Region.ready .any ops (listedK ops.size (m + k)) = [m + k] := by have := hs.1 k (List.mem_range.2 (by omega)); simpa using this
    have hlt : m + k < ops.size := by omega
    refine ⟨fun h0 => (by rw [hr] at h0; cases h0), fun i hi => ?_⟩
    rw [hr] at hi
    obtain rfl : i = m + k := by simpa using hi
    have ho : ops[m + k]? = some ops[m + k] := Array.getElem?_eq_getElem hlt
    have hl : ops.toList.drop (m + k) = ops[m + k] :: ops.toList.drop (m + (k + 1)) := by
      rw [List.drop_eq_getElem_cons (by simpa using hlt)]; rfl
    rw [hl] at h
    unfold wpListIn at h
    unfold wpOpIn
    simp only [ho]
    rw [listedK_set hlt]
    have ih := fun a w => wpAny_tailIn (lp := lp) (n := n) (P := P) (Q := Q) hs' f (k + 1) a w (by omega) hm
    split
    · rename_i hw
      rw [if_pos hw] at h
      exact Oper.wpIn_mono (fun a w hh => ih a w hh) h
    · rename_i hw
      rw [if_neg hw] at h
      exact ⟨h.1, ih _ _ h.2⟩
theorem wpAny_schedIn {lp n : Nat} {P : Program} {ops : Array Oper} {m : Nat} {a0 : Act} {w0 : World} {p : Plan} {Q : Exit → Act → World → Prop} (hnd : noDefer ops = true) (L : Laws p) (hc : Chk ops m a0.tmps.size) (hcl : cloB ops m = true) (hg : ∀ k, k < m → Good P ops m a0 w0 p k)
    (hfin : ∀ a V, SInv ops m a0 w0 p (listedM ops m) a V → wpAnyIn (Fence.wide.inRound lp) n P .any ops Q (ops.size - m) (listedM ops m) a V) :
    ∀ (fuel : Nat) (listed : Array Bool) (a : Act) (w : World), SInv ops m a0 w0 p listed a w → listed.toList.count true + fuel = ops.size → wpAnyIn (Fence.wide.inRound lp) n P .any ops Q fuel listed a w := by
  intro fuel
  induction fuel with
  | zero =>
    intro listed a w h hn
    have e := listed_eq h hc.le (zero_all h hc.le (by omega))
    subst e
    have := hfin a w h
    rw [countM] at hn
    rw [show ops.size - m = 0 by omega] at this
    exact this
  | succ fuel ih =>
    intro listed a w h hn
    by_cases hall : ∀ i, i < m → listed.getD i true = true
    · have e := listed_eq h hc.le hall
      subst e
      have := hfin a w h
      rw [countM] at hn
      rw [show ops.size - m = fuel + 1 by omega] at this
      exact this
    · obtain ⟨h1, h2⟩ := ready_in h hc hcl hall
      refine ⟨fun hr => absurd hr h1, fun i hi => ?_⟩
      obtain ⟨him, hun, hdeps⟩ := h2 i hi
      exact sched_op (roundMode P lp n) hnd L hc hg h him hun hdeps fun a' V h' => ih _ _ _ h' (by rw [count_set hun]; omega)
theorem wp_schIn {lp n : Nat} {P : Program} {ops : Array Oper} {a0 : Act} {w0 : World} {Q : Exit → Act → World → Prop} {id : Nat} {draw : Bool} (p : Plan) (D : List Tmp) (hnd : noDefer ops = true) (L : Laws p) (hm : P.follows .mixedOrders = true) (hc : chk ops D.length a0.tmps.size = true) (hd : chkD ops 0 D = true) (hq : (!draw || (cloB ops D.length && seqd ops D.length)) = true)
    (hg : ∀ k, k < D.length → Good P ops D.length a0 w0 p k) (tl : List Oper) (ht : ops.toList.drop D.length = tl)
    (hfin : ∀ (x : Nat → Value) (V : World), SFin ops D.length p x w0 V → wpListIn (Fence.wide.inRound lp) n P ops Q tl ⟨finL x 0 D a0.tmps, a0.defers⟩ V) :
    (Code.region id ops draw).wpIn (Fence.wide.inRound lp) n P Q a0 w0 := by
  have HC := chk_spec hc
  have fin : ∀ a V, SInv ops D.length a0 w0 p (listedM ops D.length) a V → wpListIn (Fence.wide.inRound lp) n P ops Q (ops.toList.drop D.length) a V := fun a V h => by
    obtain ⟨h1, h2⟩ := sinv_end hd HC h
    have := hfin _ V h1
    rw [h2, ← h.defers] at this
    rw [ht]; exact this
  cases draw with
  | true =>
    have hq2 : cloB ops D.length = true ∧ seqd ops D.length = true := by simpa using hq
    refine wpIn_region_any hm (wpAny_schedIn hnd L HC hq2.1 hg (fun a V h => ?_) ops.size _ a0 w0.drew (sinv_start HC (L.drew _)) (by simp [List.count_replicate]))
    have := wpAny_tailIn (lp := lp) (n := n) (P := P) (Q := Q) hq2.2 (ops.size - D.length) 0 a V (by omega) HC.le (fin a V h)
    rw [Nat.add_zero, ← listedM_K] at this
    exact this
  | false =>
    refine wpIn_region ?_
    have key : ∀ (f k : Nat) (a : Act) (w : World), k + f = D.length → SInv ops D.length a0 w0 p (listedK ops.size k) a w → wpOpsIn (Fence.wide.inRound lp) n P ops Q (List.range' k (ops.size - k)) a w := by
      intro f
      induction f with
      | zero =>
        intro k a w hk h
        rw [Nat.add_zero] at hk
        subst hk
        have := fin a w h
        have e : wpOpsIn (Fence.wide.inRound lp) n P ops Q (List.range' D.length (ops.size - D.length)) = wpListIn (Fence.wide.inRound lp) n P ops Q (ops.toList.drop D.length) := by
          have e1 := wpOpsIn_eq_wpListIn (F := Fence.wide.inRound lp) (n := n) (P := P) (Q := Q) (ops := ops) (ops.toList.drop D.length) D.length (fun j => by simp)
          have e2 : (ops.toList.drop D.length).length = ops.size - D.length := by simp
          rw [e2] at e1; exact e1
        rw [e]; exact this
      | succ f ih =>
        intro k a w hk h
        have hkm : k < D.length := by omega
        have hks : k < ops.size := Nat.lt_of_lt_of_le hkm HC.le
        rw [show ops.size - k = (ops.size - (k + 1)) + 1 by omega, List.range'_succ, wpOpsIn_cons]
        refine sched_op (roundMode P lp n) hnd L HC hg h hkm ?_ (fun j hj => ?_) (fun a' V h' => ?_)
        · simp [listedK, Array.getD_eq_getD_getElem?, List.getElem?_append_right, List.getElem?_replicate, show 0 < ops.size - k by omega]
        · have := HC.small k hkm j hj
          simp [listedK, Array.getD_eq_getD_getElem?, List.getElem?_append_left, this]
        · rw [listedK_set hks] at h'
          exact ih (k + 1) a' V (by omega) h'
    rw [List.range_eq_range']
    have h0 : listedK ops.size 0 = Array.replicate ops.size false := by simp [listedK]
    exact key D.length 0 a0 w0 (by omega) (by rw [h0]; exact sinv_start HC (L.refl _))
end Go.Proofs.YtjdmhbfddklhnaaDoor.Sch
