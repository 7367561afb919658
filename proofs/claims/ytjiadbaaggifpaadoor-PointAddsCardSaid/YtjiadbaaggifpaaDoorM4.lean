/-
  Several texts in one: Sched, PtU, PtTwice, PtSumP, PtPair, PtEven, PtSameP, PtBytesP, PtGetP, PtDbl, PtFew. Conditions: those that each theorem states.
-/
import Derived.Test.YtjiadbaaggifpaaDoorM3
import Derived.Deep.MidRow
import Derived.Laws.CopyRow

section
set_option linter.unusedVariables false
set_option linter.unusedSimpArgs false
namespace Go.Proofs.YtjiadbaaggifpaaDoor
open Go Go.Proofs Go.RowKit F5

/-- What an operation of the first part does: it yields this value, or it makes a new variable. -/
inductive Pl where
  | is (v : Value)
  | fresh (T : TypeId) (z : Array Value)
def Pl.val (g : Nat) : Pl → Value
  | .is v => v
  | .fresh _ _ => .pointer (some ⟨g, 0, none⟩)
def ptrOf (g : Nat) : Value := .pointer (some ⟨g, 0, none⟩)

section
variable (ops : Array Oper) (PL : List Pl)
def dstOf (i : Nat) : Option Tmp := (ops[i]?).bind (·.dst)
def onsOf (i : Nat) : List Nat := match ops[i]? with | some o => (o.after.toList.filter (fun e => Region.binds .any e)).map (·.on) | none => []
def clo (ops : Array Oper) : Nat → List Nat → List Nat
  | 0, l => l
  | f + 1, l => clo ops f (l ++ l.flatMap (onsOf ops)).eraseDups
/-- Which temporary an operation may look at: one that no operation of the first part writes, or one that an operation which it waits for writes, and that is no new variable. -/
def looks (i : Nat) (t : Tmp) : Bool :=
  ((List.range PL.length).all fun j => dstOf ops j != some t) || ((onsOf ops i).any fun j => dstOf ops j == some t && (match PL[j]? with | some (.is _) => true | _ => false))
def chk (size : Nat) : Bool :=
  decide (PL.length ≤ ops.size) &&
  ((List.range PL.length).all fun i => (match ops[i]? with | some o => (match o.dst with | some d => decide (d < size) | none => false) | none => false) &&
    ((onsOf ops i).all fun j => decide (j < i)) && ((List.range PL.length).all fun j => j == i || dstOf ops i != dstOf ops j))
def cloB : Bool := (List.range ops.size).all fun j => decide (j < PL.length) || ((List.range PL.length).all fun i => (clo ops 12 (onsOf ops j)).contains i)
def listedM : Array Bool := (List.replicate PL.length true ++ List.replicate (ops.size - PL.length) false).toArray
def valOf (ops : Array Oper) (PL : List Pl) (A : Array Value) (t : Tmp) : Value :=
  match (List.range PL.length).find? (fun j => dstOf ops j == some t) with
  | some j => (match PL[j]? with | some (.is v) => v | _ => undef)
  | none => A.getD t undef
/-- The temporaries behind the first part. -/
def finT (g : Nat → Nat) : Nat → List Pl → Array Value → Array Value
  | _, [], A => A
  | k, p :: r, A => finT g (k + 1) r (match dstOf ops k with | some d => A.setIfInBounds d (p.val (g k)) | none => A)
end

def opA (ops : Array Oper) (k : Nat) : Oper := (ops[k]?).getD default
theorem opA_of {ops : Array Oper} {k : Nat} {o : Oper} (h : ops[k]? = some o) : opA ops k = o := by unfold opA; rw [h]; rfl
/-- An operation's contract in the first part. -/
def Good (P : Program) (ops : Array Oper) (PL : List Pl) (A : Array Value) (S : World → Prop) (k : Nat) : Pl → Prop
  | .is v => ∀ (a : Act) (V : World), (∀ t, looks ops PL k t = true → a.tmps.getD t undef = valOf ops PL A t) → S V → (Region.wanted (opA ops k) (yielded ops a.tmps) = true ∧ ∀ (K : Act → World → Prop) (Q : Exit → Act → World → Prop),
      (∀ V', Below V.heap.size V V' → K (a.put (opA ops k).dst v) V') → (opA ops k).wp P a V K Q) ∨ (Region.wanted (opA ops k) (yielded ops a.tmps) = false ∧ v = undef)
  | .fresh T z => (ops[k]?).map (fun o => (o.op, o.guard)) = some (.alloc T, none) ∧ ∀ W, (zeroValue T).run P W = .ok (.agg z) W
def Goods (P : Program) (ops : Array Oper) (PL : List Pl) (A : Array Value) (S : World → Prop) : Nat → List Pl → Prop
  | _, [] => True
  | k, p :: r => Good P ops PL A S k p ∧ Goods P ops PL A S (k + 1) r
theorem goods_at {P : Program} {ops : Array Oper} {PL : List Pl} {A : Array Value} {S : World → Prop} : ∀ (l : List Pl) (k : Nat), Goods P ops PL A S k l → ∀ i p, l[i]? = some p → Good P ops PL A S (k + i) p
  | [], _, _, i, p, h => by simp at h
  | q :: r, k, hg, 0, p, h => by simp at h; subst h; exact hg.1
  | q :: r, k, hg, i + 1, p, h => by
    have := goods_at r (k + 1) hg.2 i p (by simpa using h)
    rwa [show k + 1 + i = k + (i + 1) by omega] at this

structure SInv (ops : Array Oper) (PL : List Pl) (a0 : Act) (w0 : World) (listed : Array Bool) (a : Act) (w : World) : Prop where
  defers : a.defers = a0.defers
  size : a.tmps.size = a0.tmps.size
  lsize : listed.size = ops.size
  far : ∀ t, (∀ i, i < PL.length → dstOf ops i = some t → listed.getD i true = false) → a.tmps.getD t undef = a0.tmps.getD t undef
  is : ∀ i v d, PL[i]? = some (.is v) → listed.getD i true = true → dstOf ops i = some d → a.tmps.getD d undef = v
  fresh : ∀ i T z d, PL[i]? = some (.fresh T z) → listed.getD i true = true → dstOf ops i = some d → ∃ g, a.tmps.getD d undef = .pointer (some ⟨g, 0, none⟩) ∧ w0.heap.size ≤ g ∧ Blk w g T z
  apart : ∀ i j T z T' z' d d', PL[i]? = some (.fresh T z) → PL[j]? = some (.fresh T' z') → i ≠ j → listed.getD i true = true → listed.getD j true = true → dstOf ops i = some d → dstOf ops j = some d' → a.tmps.getD d undef ≠ a.tmps.getD d' undef
  below : Below w0.heap.size w0 w
  late : ∀ i, PL.length ≤ i → i < ops.size → listed.getD i true = false
  down : ∀ i, i < PL.length → listed.getD i true = true → ∀ j ∈ onsOf ops i, listed.getD j false = true

theorem onsOf_of {ops : Array Oper} {i : Nat} {o : Oper} (ho : ops[i]? = some o) {listed : Array Bool} (h : ∀ e ∈ o.after, Region.binds .any e = true → listed.getD e.on false = true) : ∀ j ∈ onsOf ops i, listed.getD j false = true := by
  intro j hj
  unfold onsOf at hj
  rw [ho] at hj
  simp only [List.mem_map, List.mem_filter] at hj
  obtain ⟨e, ⟨he, hb⟩, rfl⟩ := hj
  exact h e (by simpa using he) hb
theorem clo_listed {ops : Array Oper} {listed : Array Bool} (hd : ∀ i, listed.getD i false = true → ∀ j ∈ onsOf ops i, listed.getD j false = true) : ∀ (f : Nat) (l : List Nat), (∀ x ∈ l, listed.getD x false = true) → ∀ x ∈ clo ops f l, listed.getD x false = true
  | 0, l, h => h
  | f + 1, l, h => by
    unfold clo
    refine clo_listed hd f _ fun x hx => ?_
    rw [List.mem_eraseDups, List.mem_append, List.mem_flatMap] at hx
    rcases hx with hx | ⟨y, hy, hx⟩
    · exact h x hx
    · exact hd y (h y hy) x hx
theorem getD_tf {listed : Array Bool} {i : Nat} (h : i < listed.size) : listed.getD i true = listed.getD i false := by
  simp [Array.getD_eq_getD_getElem?, h]
theorem getD_lt {listed : Array Bool} {i : Nat} (h : listed.getD i false = true) : i < listed.size := by
  rcases Nat.lt_or_ge i listed.size with h' | h'
  · exact h'
  · simp [Array.getD_eq_getD_getElem?, Array.getElem?_eq_none h'] at h
theorem getD_lt' {listed : Array Bool} {i : Nat} (h : listed.getD i true = false) : i < listed.size := by
  rcases Nat.lt_or_ge i listed.size with h' | h'
  · exact h'
  · simp [Array.getD_eq_getD_getElem?, Array.getElem?_eq_none h'] at h
theorem getD_set_eq {listed : Array Bool} {i j : Nat} (hi : i < listed.size) : (listed.setIfInBounds i true).getD j true = if j = i then true else listed.getD j true := by
  split
  · rename_i h; subst h; simp [Array.getD_eq_getD_getElem?, hi]
  · rename_i h; exact getD_set_ne true (fun e => h e.symm)
theorem tget_set {A : Array Value} {d t : Nat} {v : Value} (h : d < A.size) : (A.setIfInBounds d v).getD t undef = if t = d then v else A.getD t undef := by
  split
  · rename_i h1; subst h1; simp [Array.getD_eq_getD_getElem?, h]
  · rename_i h1; simp [Array.getD_eq_getD_getElem?, Array.getElem?_setIfInBounds_ne (fun e => h1 e.symm)]
theorem put_tmps {a : Act} {o : Oper} {d : Tmp} (hd : o.dst = some d) (u : Value) : (a.put o.dst u).tmps = a.tmps.setIfInBounds d u := by rw [hd]; rfl
theorem put_defs {a : Act} (o : Oper) (u : Value) : (a.put o.dst u).defers = a.defers := by unfold Act.put; split <;> rfl

structure Chk (ops : Array Oper) (PL : List Pl) (size : Nat) : Prop where
  le : PL.length ≤ ops.size
  op : ∀ i, i < PL.length → ∃ o d, ops[i]? = some o ∧ o.dst = some d ∧ d < size
  small : ∀ i, i < PL.length → ∀ j ∈ onsOf ops i, j < i
  ne : ∀ i j, i < PL.length → j < PL.length → i ≠ j → dstOf ops i ≠ dstOf ops j
theorem clo_spec {ops : Array Oper} {PL : List Pl} (h : cloB ops PL = true) : ∀ j, PL.length ≤ j → j < ops.size → ∀ i, i < PL.length → i ∈ clo ops 12 (onsOf ops j) := by
  unfold cloB at h
  simp only [decide_eq_true_eq, List.all_eq_true, List.mem_range, Bool.or_eq_true] at h
  intro j hj hj2 i hi
  rcases h j hj2 with h4 | h4
  · exact absurd h4 (by omega)
  · have := h4 i hi
    simpa using this
theorem chk_spec {ops : Array Oper} {PL : List Pl} {size : Nat} (h : chk ops PL size = true) : Chk ops PL size := by
  unfold chk at h
  simp only [Bool.and_eq_true, decide_eq_true_eq, List.all_eq_true, List.mem_range, Bool.or_eq_true] at h
  obtain ⟨h1, h2⟩ := h
  refine ⟨h1, fun i hi => ?_, fun i hi j hj => (h2 i hi).1.2 j hj, fun i j hi hj hne e => ?_⟩
  · have h4 := (h2 i hi).1.1
    cases ho : ops[i]? with
    | none => rw [ho] at h4; simp at h4
    | some o =>
      rw [ho] at h4
      cases hd : o.dst with
      | none => simp [hd] at h4
      | some d =>
        simp only [hd, decide_eq_true_eq] at h4
        exact ⟨o, d, rfl, hd, h4⟩
  · have h4 := (h2 i hi).2 j hj
    rcases h4 with h4 | h4
    · simp at h4; exact hne h4.symm
    · rw [e] at h4; simp at h4

theorem SInv.next {ops : Array Oper} {PL : List Pl} {a0 a : Act} {w0 w V : World} {listed : Array Bool} (h : SInv ops PL a0 w0 listed a w) (hc : Chk ops PL a0.tmps.size) {i : Nat} (him : i < PL.length) (hun : listed.getD i true = false) {o : Oper} (ho : ops[i]? = some o)
    (hdeps : ∀ j ∈ onsOf ops i, listed.getD j false = true) {d : Tmp} (hd : o.dst = some d) (hds : d < a0.tmps.size) {p : Pl} (hp : PL[i]? = some p) (hb : Below w.heap.size w V) (u : Value)
    (hu : p = .is u ∨ ∃ T z, p = .fresh T z ∧ u = .pointer (some ⟨w.heap.size, 0, none⟩) ∧ Blk V w.heap.size T z) : SInv ops PL a0 w0 (listed.setIfInBounds i true) (a.put o.dst u) V := by
  have hil := getD_lt' hun
  have hdi : dstOf ops i = some d := by unfold dstOf; rw [ho]; exact hd
  have hget : ∀ t, (a.put o.dst u).tmps.getD t undef = if t = d then u else a.tmps.getD t undef := fun t => by rw [put_tmps hd]; exact tget_set (by rw [h.size]; exact hds)
  have hoth : ∀ j d', j < PL.length → j ≠ i → dstOf ops j = some d' → d' ≠ d := fun j d' hj hne hj' e => hc.ne j i hj him hne (by rw [hj', hdi, e])
  have hold : ∀ j, (listed.setIfInBounds i true).getD j true = true → j ≠ i → listed.getD j true = true := fun j hj hne => by rw [getD_set_eq hil, if_neg hne] at hj; exact hj
  have hlen : ∀ (j : Nat) (q : Pl), PL[j]? = some q → j < PL.length := fun j q hq => (List.getElem?_eq_some_iff.1 hq).1
  refine ⟨?_, ?_, ?_, ?_, ?_, ?_, ?_, ?_, ?_, ?_⟩
  · rw [put_defs]; exact h.defers
  · rw [put_tmps hd]; simp [h.size]
  · simp [h.lsize]
  · intro t ht
    have htd : t ≠ d := fun e => by
      have := ht i him (by rw [hdi, e])
      rw [getD_set_eq hil, if_pos rfl] at this; cases this
    rw [hget, if_neg htd]
    refine h.far t fun j hj hjt => ?_
    have := ht j hj hjt
    rw [getD_set_eq hil] at this
    split at this
    · cases this
    · exact this
  · intro j v d' hj hl hdj
    rw [hget]
    by_cases e : j = i
    · subst e
      rw [hp] at hj; injection hj with hj
      rw [hdi] at hdj; injection hdj with hdj
      rw [if_pos hdj.symm]
      rcases hu with hu | ⟨T, z, hu, _⟩
      · rw [hu] at hj; injection hj
      · rw [hu] at hj; cases hj
    · rw [if_neg (hoth j d' (hlen _ _ hj) e hdj)]
      exact h.is j v d' hj (hold j hl e) hdj
  · intro j T z d' hj hl hdj
    rw [hget]
    by_cases e : j = i
    · subst e
      rw [hp] at hj; injection hj with hj
      rw [hdi] at hdj; injection hdj with hdj
      rw [if_pos hdj.symm]
      rcases hu with hu | ⟨T', z', hu, hu2, hu3⟩
      · rw [hu] at hj; cases hj
      · rw [hu] at hj; injection hj with e1 e2
        subst e1 e2
        exact ⟨_, hu2, h.below.size, hu3⟩
    · rw [if_neg (hoth j d' (hlen _ _ hj) e hdj)]
      obtain ⟨g, h1, h2, h3⟩ := h.fresh j T z d' hj (hold j hl e) hdj
      exact ⟨g, h1, h2, h3.old hb⟩
  · intro j k T z T' z' dj dk hj hk hne hlj hlk hdj hdk
    rw [hget, hget]
    by_cases ej : j = i
    · subst ej
      have ek : k ≠ j := fun e => hne e.symm
      rw [hdi] at hdj; injection hdj with hdj
      rw [if_pos hdj.symm, if_neg (hoth k dk (hlen _ _ hk) ek hdk)]
      obtain ⟨g, h1, h2, h3⟩ := h.fresh k T' z' dk hk (hold k hlk ek) hdk
      rw [h1]
      rcases hu with hu | ⟨T2, z2, hu, hu2, hu3⟩
      · rw [hp, hu] at hj; cases hj
      · rw [hu2]
        intro e
        injection e with e
        injection e with e
        injection e with e
        have := h3.lt
        omega
    · rw [if_neg (hoth j dj (hlen _ _ hj) ej hdj)]
      by_cases ek : k = i
      · subst ek
        rw [hdi] at hdk; injection hdk with hdk
        rw [if_pos hdk.symm]
        obtain ⟨g, h1, h2, h3⟩ := h.fresh j T z dj hj (hold j hlj ej) hdj
        rw [h1]
        rcases hu with hu | ⟨T2, z2, hu, hu2, hu3⟩
        · rw [hp, hu] at hk; cases hk
        · rw [hu2]
          intro e
          injection e with e
          injection e with e
          injection e with e
          have := h3.lt
          omega
      · rw [if_neg (hoth k dk (hlen _ _ hk) ek hdk)]
        exact h.apart j k T z T' z' dj dk hj hk hne (hold j hlj ej) (hold k hlk ek) hdj hdk
  · exact h.below.trans (hb.mono h.below.size)
  · intro j hj hj2
    rw [getD_set_eq hil, if_neg (by omega)]
    exact h.late j hj hj2
  · intro j hj hl k hk
    by_cases e : j = i
    · subst e
      exact getD_set_true (hdeps k hk)
    · exact getD_set_true (h.down j hj (hold j hl e) k hk)

theorem listedM_size {ops : Array Oper} {PL : List Pl} (h : PL.length ≤ ops.size) : (listedM ops PL).size = ops.size := by simp [listedM]; omega
theorem listedM_at {ops : Array Oper} {PL : List Pl} (i : Nat) (h : i < PL.length) : (listedM ops PL).getD i true = true := by
  simp [listedM, Array.getD_eq_getD_getElem?, List.getElem?_append_left, h]
theorem listed_eq {ops : Array Oper} {PL : List Pl} {a0 a : Act} {w0 w : World} {listed : Array Bool} (h : SInv ops PL a0 w0 listed a w) (hle : PL.length ≤ ops.size) (hall : ∀ i, i < PL.length → listed.getD i true = true) : listed = listedM ops PL := by
  refine Array.ext (by rw [h.lsize, listedM_size hle]) fun i h1 h2 => ?_
  by_cases hi : i < PL.length
  · have e1 := hall i hi
    have e2 := listedM_at (ops := ops) i hi
    simp only [Array.getD_eq_getD_getElem?, Array.getElem?_eq_getElem h1, Option.getD_some] at e1
    simp only [Array.getD_eq_getD_getElem?, Array.getElem?_eq_getElem h2, Option.getD_some] at e2
    rw [e1, e2]
  · have e1 := h.late i (by omega) (by rw [← h.lsize]; exact h1)
    simp only [Array.getD_eq_getD_getElem?, Array.getElem?_eq_getElem h1, Option.getD_some] at e1
    rw [e1]
    simp [listedM, List.getElem_append_right, Nat.not_lt.1 hi]
theorem count_set {listed : Array Bool} {i : Nat} (h : listed.getD i true = false) : (listed.setIfInBounds i true).toList.count true = listed.toList.count true + 1 := by
  have hl := getD_lt' h
  have hv : listed.toList[i]'(by simpa using hl) = false := by
    simp only [Array.getD_eq_getD_getElem?, Array.getElem?_eq_getElem hl, Option.getD_some] at h
    simpa using h
  rw [Array.toList_setIfInBounds, List.count_set (by simpa using hl), hv]
  simp
theorem count_all {l : List Bool} (h : l.count true = l.length) (i : Nat) (hi : i < l.length) : l[i] = true := by
  have := List.count_eq_length.1 h
  exact (this _ (List.getElem_mem hi)).symm

theorem sched_op {P : Program} {ops : Array Oper} {PL : List Pl} {a0 : Act} {w0 : World} {Q : Exit → Act → World → Prop} {S : World → Prop} (hc : Chk ops PL a0.tmps.size) (hg : Goods P ops PL a0.tmps S 0 PL) (hS : ∀ V, Below w0.heap.size w0 V → S V)
    {listed : Array Bool} {a : Act} {w : World} (h : SInv ops PL a0 w0 listed a w) {i : Nat} (him : i < PL.length) (hun : listed.getD i true = false) (hdeps : ∀ j ∈ onsOf ops i, listed.getD j false = true) {K : Act → World → Prop}
    (hK : ∀ a' V, SInv ops PL a0 w0 (listed.setIfInBounds i true) a' V → K a' V) : wpOp P ops Q i K a w := by
  obtain ⟨o, d, ho, hd, hds⟩ := hc.op i him
  have hos : i < ops.size := by rw [← h.lsize]; exact getD_lt' hun
  obtain ⟨p, hp⟩ : ∃ p, PL[i]? = some p := ⟨_, List.getElem?_eq_getElem him⟩
  have good := goods_at PL 0 hg i p hp
  rw [Nat.zero_add] at good
  unfold wpOp
  simp only [ho]
  have hnext : ∀ u V, Below w.heap.size w V → (p = .is u ∨ ∃ T z, p = .fresh T z ∧ u = .pointer (some ⟨w.heap.size, 0, none⟩) ∧ Blk V w.heap.size T z) → K (a.put o.dst u) V := fun u V hb hu =>
    hK _ _ (h.next hc him hun ho hdeps hd hds hp hb u hu)
  cases p with
  | is v =>
    have good2 := good a w (fun t ht => ?_) (hS w h.below)
    · rw [opA_of ho] at good2
      rcases good2 with ⟨hw, good2⟩ | ⟨hw, rfl⟩
      · rw [if_pos hw]
        exact .inl (good2 _ _ (fun V hb => hnext v V hb (.inl rfl)))
      · rw [if_neg (by rw [hw]; decide)]
        exact hnext _ w (Below.refl _ _) (.inl rfl)
    · unfold looks at ht
      rw [Bool.or_eq_true] at ht
      unfold valOf
      rcases ht with ht | ht
      · have hno : (List.range PL.length).find? (fun j => dstOf ops j == some t) = none := by
          rw [List.find?_eq_none]
          intro j hj
          have := List.all_eq_true.1 ht j hj
          simpa using this
        rw [hno]
        refine h.far t fun j hj hjt => ?_
        have := List.all_eq_true.1 ht j (List.mem_range.2 hj)
        rw [hjt] at this
        simp at this
      · obtain ⟨j, hj, hj2⟩ := List.any_eq_true.1 ht
        rw [Bool.and_eq_true] at hj2
        obtain ⟨hj2, hj3⟩ := hj2
        have hjt : dstOf ops j = some t := by simpa using hj2
        have hji := hc.small i him j hj
        have hjm : j < PL.length := by omega
        have hfind : (List.range PL.length).find? (fun j => dstOf ops j == some t) = some j := by
          rw [List.find?_range_eq_some]
          refine ⟨by simpa using hjt, List.mem_range.2 hjm, fun k hk => ?_⟩
          have := hc.ne k j (by omega) hjm (by omega)
          rw [hjt] at this
          simpa using this
        rw [hfind]
        obtain ⟨q, hq⟩ : ∃ q, PL[j]? = some q := ⟨_, List.getElem?_eq_getElem hjm⟩
        simp only [hq] at hj3 ⊢
        cases q with
        | is v' => exact h.is j v' t hq (by rw [getD_tf (by rw [h.lsize]; omega)]; exact hdeps j hj) hjt
        | fresh _ _ => simp at hj3
  | fresh T z =>
    obtain ⟨hop, hz⟩ := good
    rw [ho] at hop
    simp only [Option.map_some, Option.some.injEq, Prod.mk.injEq] at hop
    obtain ⟨hop, hgd⟩ := hop
    have hw : Region.wanted o (yielded ops a.tmps) = true := by unfold Region.wanted; rw [hgd]
    rw [if_pos hw]
    refine .inl ?_
    have hrun : (execOp a.eval o).run P w = .ok (.value (.pointer (some ⟨w.heap.size, 0, none⟩))) (w.alloc (.cells z T)) := by
      unfold execOp
      simp only [hop, Instr.alloc, Sem.run_bind, hz, Result.andThen_ok, Sem.run_pure]
      simp [go_sem]
    unfold Oper.wp
    rw [hrun, Oper.upon_value]
    exact hnext _ _ ((Below.refl _ _).alloc (Nat.le_refl _) _) (.inr ⟨T, z, rfl, rfl, Blk.new w T z⟩)

theorem wpAny_sched {P : Program} {ops : Array Oper} {PL : List Pl} {a0 : Act} {w0 : World} {Q : Exit → Act → World → Prop} {S : World → Prop} (hc : Chk ops PL a0.tmps.size) (hcl : cloB ops PL = true) (hg : Goods P ops PL a0.tmps S 0 PL) (hS : ∀ V, Below w0.heap.size w0 V → S V)
    (hfin : ∀ a V, SInv ops PL a0 w0 (listedM ops PL) a V → wpAny P .any ops Q (ops.size - PL.length) (listedM ops PL) a V) :
    ∀ (fuel : Nat) (listed : Array Bool) (a : Act) (w : World), SInv ops PL a0 w0 listed a w → listed.toList.count true + fuel = ops.size → wpAny P .any ops Q fuel listed a w := by
  intro fuel
  induction fuel with
  | zero =>
    intro listed a w h hn
    have hall : ∀ i, i < PL.length → listed.getD i true = true := fun i hi => by
      have hl : i < listed.size := by rw [h.lsize]; exact Nat.lt_of_lt_of_le hi hc.le
      have := count_all (l := listed.toList) (by rw [Array.length_toList, h.lsize]; omega) i (by simpa using hl)
      simp only [Array.getD_eq_getD_getElem?, Array.getElem?_eq_getElem hl, Option.getD_some]
      simpa using this
    have e := listed_eq h hc.le hall
    subst e
    have := hfin a w h
    have hcnt : (listedM ops PL).toList.count true = PL.length := by simp [listedM, List.count_replicate]
    rw [hcnt] at hn
    rw [show ops.size - PL.length = 0 by omega] at this
    exact this
  | succ fuel ih =>
    intro listed a w h hn
    by_cases hall : ∀ i, i < PL.length → listed.getD i true = true
    · have e := listed_eq h hc.le hall
      subst e
      have := hfin a w h
      have hcnt : (listedM ops PL).toList.count true = PL.length := by simp [listedM, List.count_replicate]
      rw [hcnt] at hn
      rw [show ops.size - PL.length = fuel + 1 by omega] at this
      exact this
    · refine ⟨fun hr => ?_, fun i hi => ?_⟩
      · exfalso
        apply hall
        intro i
        induction i using Nat.strongRecOn with
        | ind i ihi =>
          intro him
          cases hl : listed.getD i true with
          | true => rfl
          | false =>
            obtain ⟨o, d, ho, _, _⟩ := hc.op i him
            have : i ∈ Region.ready .any ops listed := mem_ready.2 ⟨hl, o, ho, fun e he hb => by
              have hj : e.on ∈ onsOf ops i := by
                unfold onsOf; rw [ho]
                simp only [List.mem_map, List.mem_filter]
                exact ⟨e, ⟨by simpa using he, hb⟩, rfl⟩
              have hlt := hc.small i him _ hj
              have := ihi _ hlt (by omega)
              rwa [getD_tf (by rw [h.lsize]; have := hc.le; omega)] at this⟩
            rw [hr] at this; cases this
      · obtain ⟨hun, o, ho, hdep⟩ := mem_ready.1 hi
        have hdeps := onsOf_of ho hdep
        have hos : i < ops.size := by rw [← h.lsize]; exact getD_lt' hun
        by_cases him : i < PL.length
        · exact sched_op hc hg hS h him hun hdeps fun a' V h' => ih _ _ _ h' (by rw [count_set hun]; omega)
        · exfalso
          apply hall
          have hd : ∀ k, listed.getD k false = true → ∀ j ∈ onsOf ops k, listed.getD j false = true := fun k hk => by
            have hks := getD_lt hk
            by_cases hkm : k < PL.length
            · exact h.down k hkm (by rw [getD_tf hks]; exact hk)
            · have := h.late k (by omega) (by rw [← h.lsize]; exact hks)
              rw [getD_tf hks, hk] at this; cases this
          intro j hj
          have := clo_listed hd 12 _ hdeps j (clo_spec hcl i (by omega) hos j hj)
          rw [getD_tf (getD_lt this)]; exact this

theorem finT_eq {ops : Array Oper} {g : Nat → Nat} {B : Array Value} : ∀ (l : List Pl) (k : Nat) (A : Array Value), B.size = A.size →
    (∀ i p d, l[i]? = some p → dstOf ops (k + i) = some d → d < A.size → B.getD d undef = p.val (g (k + i))) →
    (∀ t, (∀ i, i < l.length → dstOf ops (k + i) ≠ some t) → B.getD t undef = A.getD t undef) → finT ops g k l A = B
  | [], k, A, hs, _, hf => by
    unfold finT
    refine (Array.ext hs fun i h1 h2 => ?_).symm
    have := hf i (fun _ h => absurd h (Nat.not_lt_zero _))
    simpa [Array.getD_eq_getD_getElem?, h1, h2] using this
  | p :: r, k, A, hs, hv, hf => by
    unfold finT
    refine finT_eq r (k + 1) _ (by split <;> simp [hs]) (fun i q d hq hd hlt => ?_) (fun t ht => ?_)
    · have := hv (i + 1) q d (by simpa using hq) (by rw [← hd]; congr 1; omega) (by split at hlt <;> simpa using hlt)
      rw [this]; congr 2; omega
    · split
      · rename_i d hd
        by_cases hlt : d < A.size
        · rw [tget_set hlt]
          split
          · rename_i e; subst e
            exact hv 0 p t rfl hd hlt
          · rename_i e
            refine hf t fun i hi hit => ?_
            cases i with
            | zero => rw [Nat.add_zero, hd] at hit; injection hit with hit; exact e hit.symm
            | succ i => exact ht i (by simpa using hi) (by rw [← hit]; congr 1; omega)
        · have hle : A.size ≤ d := Nat.le_of_not_lt hlt
          rw [Array.setIfInBounds_eq_of_size_le hle]
          by_cases e : t = d
          · subst e
            simp [Array.getD_eq_getD_getElem?, Array.getElem?_eq_none (show B.size ≤ t from hs ▸ hle), Array.getElem?_eq_none hle]
          · refine hf t fun i hi hit => ?_
            cases i with
            | zero => rw [Nat.add_zero, hd] at hit; injection hit with hit; exact e hit.symm
            | succ i => exact ht i (by simpa using hi) (by rw [← hit]; congr 1; omega)
      · rename_i hd
        refine hf t fun i hi hit => ?_
        cases i with
        | zero => rw [Nat.add_zero, hd] at hit; cases hit
        | succ i => exact ht i (by simpa using hi) (by rw [← hit]; congr 1; omega)

/-- What is known behind the first part: the new variables, each in a block of its own, and what lay below is as it was. -/
structure SFin (PL : List Pl) (g : Nat → Nat) (w0 V : World) : Prop where
  blk : ∀ i T z, PL[i]? = some (.fresh T z) → w0.heap.size ≤ g i ∧ Blk V (g i) T z
  ne : ∀ i j T z T' z', PL[i]? = some (.fresh T z) → PL[j]? = some (.fresh T' z') → i ≠ j → g i ≠ g j
  below : Below w0.heap.size w0 V

/-- The first k are listed. -/
def listedK (n k : Nat) : Array Bool := (List.replicate k true ++ List.replicate (n - k) false).toArray
theorem listedK_set {n k : Nat} (h : k < n) : (listedK n k).setIfInBounds k true = listedK n (k + 1) := by
  unfold listedK
  simp only [List.setIfInBounds_toArray, Array.mk.injEq]
  rw [List.set_append_right _ _ (by simp), List.length_replicate, Nat.sub_self, show n - k = (n - (k + 1)) + 1 by omega, List.replicate_succ, List.set_cons_zero, List.replicate_succ', List.append_assoc]
  rfl
def seqd (ops : Array Oper) (m : Nat) : Bool := (List.range (ops.size - m)).all (fun k => Region.ready .any ops (listedK ops.size (m + k)) == [m + k]) && Region.ready .any ops (listedK ops.size ops.size) == []
theorem wpAny_tail {P : Program} {ops : Array Oper} {Q : Exit → Act → World → Prop} {m : Nat} (hs : seqd ops m = true) : ∀ (f k : Nat) (a : Act) (w : World), k + f = ops.size - m → m ≤ ops.size → wpList P ops Q (ops.toList.drop (m + k)) a w → wpAny P .any ops Q f (listedK ops.size (m + k)) a w
  | 0, k, a, w, hk, hm, h => by
    unfold seqd at hs
    rw [Bool.and_eq_true] at hs
    have e : m + k = ops.size := by omega
    rw [e] at h ⊢
    rw [List.drop_of_length_le (by simp)] at h
    exact ⟨by simpa using hs.2, h⟩
  | f + 1, k, a, w, hk, hm, h => by
    have hs' := hs
    unfold seqd at hs
    rw [Bool.and_eq_true, List.all_eq_true] at hs
    have hr : Region.ready .any ops (listedK ops.size (m + k)) = [m + k] := by have := hs.1 k (List.mem_range.2 (by omega)); simpa using this
    have hlt : m + k < ops.size := by omega
    refine ⟨fun h0 => (by rw [hr] at h0; cases h0), fun i hi => ?_⟩
    rw [hr] at hi
    obtain rfl : i = m + k := by simpa using hi
    have ho : ops[m + k]? = some ops[m + k] := Array.getElem?_eq_getElem hlt
    have hl : ops.toList.drop (m + k) = ops[m + k] :: ops.toList.drop (m + (k + 1)) := by
      rw [List.drop_eq_getElem_cons (by simpa using hlt)]; rfl
    rw [hl] at h
    unfold wpList at h
    unfold wpOp
    simp only [ho]
    rw [listedK_set hlt]
    have ih := fun a w => wpAny_tail (P := P) (Q := Q) hs' f (k + 1) a w (by omega) hm
    split
    · rename_i hw
      rw [if_pos hw] at h
      exact h.imp (Oper.wp_mono fun a w hh => ih a w hh) id
    · rename_i hw
      rw [if_neg hw] at h
      exact ih _ _ h
theorem sinv_start {ops : Array Oper} {PL : List Pl} {a0 : Act} {w0 w1 : World} (HC : Chk ops PL a0.tmps.size) (hb : Below w0.heap.size w0 w1) : SInv ops PL a0 w0 (Array.replicate ops.size false) a0 w1 := by
  have hf : ∀ i, i < ops.size → (Array.replicate ops.size false).getD i true = false := fun i hi => by simp [Array.getD_eq_getD_getElem?, Array.getElem?_replicate, hi]
  have hno : ∀ i, i < PL.length → (Array.replicate ops.size false).getD i true = true → False := fun i hi hl => by
    rw [hf i (Nat.lt_of_lt_of_le hi HC.le)] at hl; cases hl
  exact ⟨rfl, rfl, by simp, fun t _ => rfl, fun i v d hp hl => (hno i (List.getElem?_eq_some_iff.1 hp).1 hl).elim, fun i T z d hp hl => (hno i (List.getElem?_eq_some_iff.1 hp).1 hl).elim,
    fun i j T z T' z' d d' hp _ _ hl => (hno i (List.getElem?_eq_some_iff.1 hp).1 hl).elim, hb, fun i _ hi => hf i hi, fun i hi hl => (hno i hi hl).elim⟩
theorem sinv_end {ops : Array Oper} {PL : List Pl} {a0 a : Act} {w0 V : World} (HC : Chk ops PL a0.tmps.size) (h : SInv ops PL a0 w0 (listedM ops PL) a V) : ∃ g : Nat → Nat, SFin PL g w0 V ∧ finT ops g 0 PL a0.tmps = a.tmps := by
  obtain ⟨g, hgd⟩ : ∃ g : Nat → Nat, ∀ i T z d, PL[i]? = some (.fresh T z) → dstOf ops i = some d → a.tmps.getD d undef = .pointer (some ⟨g i, 0, none⟩) ∧ w0.heap.size ≤ g i ∧ Blk V (g i) T z := by
    refine ⟨fun i => match (dstOf ops i).map fun d => a.tmps.getD d undef with | some (.pointer (some ad)) => ad.block | _ => 0, fun i T z d hp hd => ?_⟩
    have hi := (List.getElem?_eq_some_iff.1 hp).1
    obtain ⟨g, h1, h2, h3⟩ := h.fresh i T z d hp (listedM_at i hi) hd
    simp only [hd, Option.map_some, h1]
    exact ⟨trivial, h2, h3⟩
  have hd0 : ∀ i, i < PL.length → ∃ d, dstOf ops i = some d := fun i hi => by
    obtain ⟨o, d, ho, hd, _⟩ := HC.op i hi
    exact ⟨d, by unfold dstOf; rw [ho]; exact hd⟩
  refine ⟨g, ⟨fun i T z hp => ?_, fun i j T z T' z' hi hj hne e => ?_, h.below⟩, ?_⟩
  · obtain ⟨d, hd⟩ := hd0 i (List.getElem?_eq_some_iff.1 hp).1
    exact (hgd i T z d hp hd).2
  · have li := (List.getElem?_eq_some_iff.1 hi).1
    have lj := (List.getElem?_eq_some_iff.1 hj).1
    obtain ⟨di, hdi⟩ := hd0 i li
    obtain ⟨dj, hdj⟩ := hd0 j lj
    refine h.apart i j T z T' z' di dj hi hj hne (listedM_at i li) (listedM_at j lj) hdi hdj ?_
    rw [(hgd i T z di hi hdi).1, (hgd j T' z' dj hj hdj).1, e]
  · refine finT_eq PL 0 _ h.size (fun i p d hp hd _ => ?_) (fun t ht => ?_)
    · rw [Nat.zero_add] at hd ⊢
      have hi := (List.getElem?_eq_some_iff.1 hp).1
      cases p with
      | is v => exact h.is i v d hp (listedM_at i hi) hd
      | fresh T z => exact (hgd i T z d hp hd).1
    · refine h.far t fun i hi hit => ?_
      have := ht i hi
      rw [Nat.zero_add] at this
      exact absurd hit this
theorem listedM_K (ops : Array Oper) (PL : List Pl) : listedM ops PL = listedK ops.size PL.length := rfl
theorem wp_schedT {P : Program} {ops : Array Oper} {a0 : Act} {w0 : World} {Q : Exit → Act → World → Prop} {id : Nat} (PL : List Pl) (S : World → Prop) (draw : Bool) (hm : P.follows .mixedOrders = true) (hc : chk ops PL a0.tmps.size = true) (hq : (!draw || (cloB ops PL && seqd ops PL.length)) = true)
    (hS : ∀ V, Below w0.heap.size w0 V → S V) (hg : Goods P ops PL a0.tmps S 0 PL)
    (hfin : ∀ (g : Nat → Nat) (V : World), SFin PL g w0 V → wpList P ops Q (ops.toList.drop PL.length) ⟨finT ops g 0 PL a0.tmps, a0.defers⟩ V) :
    (Code.region id ops draw).wp P Q a0 w0 := by
  have HC := chk_spec hc
  have fin : ∀ a V, SInv ops PL a0 w0 (listedM ops PL) a V → wpList P ops Q (ops.toList.drop PL.length) a V := fun a V h => by
    obtain ⟨g, h1, h2⟩ := sinv_end HC h
    have := hfin g V h1
    rw [h2, ← h.defers] at this
    exact this
  cases draw with
  | true =>
    have hq2 : cloB ops PL = true ∧ seqd ops PL.length = true := by simpa using hq
    refine wp_region_any hm (wpAny_sched HC hq2.1 hg hS (fun a V h => ?_) ops.size _ a0 w0.drew (sinv_start HC (Below.refl _ _).drew) (by simp [List.count_replicate]))
    have := wpAny_tail (P := P) (Q := Q) hq2.2 (ops.size - PL.length) 0 a V (by omega) HC.le (fin a V h)
    rw [Nat.add_zero, ← listedM_K] at this
    exact this
  | false =>
    refine wp_region ?_
    have key : ∀ (f k : Nat) (a : Act) (w : World), k + f = PL.length → SInv ops PL a0 w0 (listedK ops.size k) a w → wpOps P ops Q (List.range' k (ops.size - k)) a w := by
      intro f
      induction f with
      | zero =>
        intro k a w hk h
        rw [Nat.add_zero] at hk
        subst hk
        have := fin a w h
        have e : wpOps P ops Q (List.range' PL.length (ops.size - PL.length)) = wpList P ops Q (ops.toList.drop PL.length) := by
          have e1 := wpOps_eq_wpList (P := P) (Q := Q) (ops := ops) (ops.toList.drop PL.length) PL.length (fun j => by simp)
          have e2 : (ops.toList.drop PL.length).length = ops.size - PL.length := by simp
          rw [e2] at e1; exact e1
        rw [e]; exact this
      | succ f ih =>
        intro k a w hk h
        have hkm : k < PL.length := by omega
        have hks : k < ops.size := Nat.lt_of_lt_of_le hkm HC.le
        rw [show ops.size - k = (ops.size - (k + 1)) + 1 by omega, List.range'_succ, wpOps_cons]
        refine sched_op HC hg hS h hkm ?_ (fun j hj => ?_) (fun a' V h' => ?_)
        · simp [listedK, Array.getD_eq_getD_getElem?, List.getElem?_append_right, List.getElem?_replicate, show 0 < ops.size - k by omega]
        · have := HC.small k hkm j hj
          simp [listedK, Array.getD_eq_getD_getElem?, List.getElem?_append_left, this]
        · rw [listedK_set hks] at h'
          exact ih (k + 1) a' V (by omega) h'
    rw [List.range_eq_range']
    have h0 : listedK ops.size 0 = Array.replicate ops.size false := by simp [listedK]
    exact key PL.length 0 a0 w0 (by omega) (by rw [h0]; exact sinv_start HC (Below.refl _ _))

/-- The temporaries behind the first part, by their places. -/
def finL (g : Nat → Nat) : Nat → List (Tmp × Pl) → Array Value → Array Value
  | _, [], A => A
  | k, (d, p) :: r, A => finL g (k + 1) r (A.setIfInBounds d (p.val (g k)))
def chkD (ops : Array Oper) : Nat → List (Tmp × Pl) → Bool
  | _, [] => true
  | k, (d, _) :: r => dstOf ops k == some d && chkD ops (k + 1) r
def plOf (D : List (Tmp × Pl)) : List Pl := D.map (·.2)
theorem finT_finL {ops : Array Oper} {g : Nat → Nat} : ∀ (D : List (Tmp × Pl)) (k : Nat) (A : Array Value), chkD ops k D = true → finT ops g k (plOf D) A = finL g k D A
  | [], _, _, _ => rfl
  | (d, p) :: r, k, A, h => by
    unfold chkD at h
    rw [Bool.and_eq_true] at h
    obtain ⟨h1, h2⟩ := h
    have h3 : dstOf ops k = some d := by simpa using h1
    show finT ops g k (p :: plOf r) A = _
    unfold finT finL
    rw [h3]
    exact finT_finL r (k + 1) _ h2
theorem wp_sched {P : Program} {ops : Array Oper} {a0 : Act} {w0 : World} {Q : Exit → Act → World → Prop} {id : Nat} {draw : Bool} (D : List (Tmp × Pl)) (S : World → Prop) (hm : P.follows .mixedOrders = true) (hc : chk ops (plOf D) a0.tmps.size = true) (hd : chkD ops 0 D = true) (hq : (!draw || (cloB ops (plOf D) && seqd ops (plOf D).length)) = true)
    (hS : ∀ V, Below w0.heap.size w0 V → S V) (hg : Goods P ops (plOf D) a0.tmps S 0 (plOf D)) (tl : List Oper) (ht : ops.toList.drop (plOf D).length = tl)
    (hfin : ∀ (g : Nat → Nat) (V : World), SFin (plOf D) g w0 V → wpList P ops Q tl ⟨finL g 0 D a0.tmps, a0.defers⟩ V) :
    (Code.region id ops draw).wp P Q a0 w0 :=
  wp_schedT (plOf D) S draw hm hc hq hS hg fun g V h => by rw [ht, finT_finL D 0 _ hd]; exact hfin g V h
theorem goods_nil {P : Program} {ops : Array Oper} {PL : List Pl} {A : Array Value} {S : World → Prop} {k : Nat} : Goods P ops PL A S k [] := trivial
section
variable {P : Program} {ops : Array Oper} {PL : List Pl} {A : Array Value} {S : World → Prop} {k : Nat} {v : Value} {r : List Pl}
theorem goods_is (hgd : (opA ops k).guard = none)
    (h : ∀ (a : Act) (V : World), (∀ t, looks ops PL k t = true → a.tmps.getD t undef = valOf ops PL A t) → S V → ∀ (K : Act → World → Prop) (Q : Exit → Act → World → Prop),
      (∀ V', Below V.heap.size V V' → K (a.put (opA ops k).dst v) V') → (opA ops k).wp P a V K Q) (hr : Goods P ops PL A S (k + 1) r) : Goods P ops PL A S k (.is v :: r) :=
  ⟨fun a V hl hS => .inl ⟨by unfold Region.wanted; rw [hgd], h a V hl hS⟩, hr⟩
/-- Whether a guard lets this value pass. -/
def passes (want : Bool) : Value → Bool
  | .bool b => b == want
  | _ => false
theorem wanted_of {a : Act} {o : Oper} {j d : Nat} {want : Bool} {u : Value} (hg : o.guard = some (j, want)) (hd : dstOf ops j = some d) (h : a.tmps.getD d undef = u) : Region.wanted o (yielded ops a.tmps) = passes want u := by
  unfold Region.wanted
  rw [hg]
  have e : yielded ops a.tmps j = match (some d).bind (a.tmps[·]?) with | some (.bool b) => some b | _ => none := by
    unfold yielded
    unfold dstOf at hd
    rw [hd]
    rfl
  simp only [e, Option.bind_some]
  rw [Array.getD_eq_getD_getElem?] at h
  cases hx : a.tmps[d]? with
  | none => rw [hx] at h; subst h; simp [passes, undef]
  | some x =>
    rw [hx] at h; simp only [Option.getD_some] at h; subst h
    cases x <;> simp [passes]
theorem goods_on {j d : Nat} {want : Bool} {u : Value} (hg : (opA ops k).guard = some (j, want)) (hd : dstOf ops j = some d) (h1 : looks ops PL k d = true) (h2 : valOf ops PL A d = u) (hp : passes want u = true)
    (h : ∀ (a : Act) (V : World), (∀ t, looks ops PL k t = true → a.tmps.getD t undef = valOf ops PL A t) → S V → ∀ (K : Act → World → Prop) (Q : Exit → Act → World → Prop),
      (∀ V', Below V.heap.size V V' → K (a.put (opA ops k).dst v) V') → (opA ops k).wp P a V K Q) (hr : Goods P ops PL A S (k + 1) r) : Goods P ops PL A S k (.is v :: r) :=
  ⟨fun a V hl hS => .inl ⟨by rw [wanted_of hg hd ((hl d h1).trans h2)]; exact hp, h a V hl hS⟩, hr⟩
theorem goods_off {j d : Nat} {want : Bool} {u : Value} (hg : (opA ops k).guard = some (j, want)) (hd : dstOf ops j = some d) (h1 : looks ops PL k d = true) (h2 : valOf ops PL A d = u) (hp : passes want u = false)
    (hr : Goods P ops PL A S (k + 1) r) : Goods P ops PL A S k (.is undef :: r) :=
  ⟨fun a V hl hS => .inr ⟨by rw [wanted_of hg hd ((hl d h1).trans h2)]; exact hp, rfl⟩, hr⟩
theorem goods_fresh {T : TypeId} {z : Array Value}
    (h1 : (ops[k]?).map (fun o => (o.op, o.guard)) = some (.alloc T, none)) (h2 : ∀ W, (zeroValue T).run P W = .ok (.agg z) W) (hr : Goods P ops PL A S (k + 1) r) : Goods P ops PL A S k (.fresh T z :: r) := ⟨⟨h1, h2⟩, hr⟩
end

/-! The contracts of single operations. -/
section
variable {P : Program} {o : Oper} {a : Act} {V : World} {K : Act → World → Prop} {Q : Exit → Act → World → Prop}
theorem op_quiet {v : Value} (h : (execOp a.eval o).run P V = .ok (.value v) V) (hK : ∀ V', Below V.heap.size V V' → K (a.put o.dst v) V') : o.wp P a V K Q := by
  unfold Oper.wp
  rw [h, Oper.upon_value]
  exact hK V (Below.refl _ _)
theorem op_call {v : Value} {f : FuncId} {c : Call} (args : Array Value) (ho : o.op = .call c) (hc : c.callee = .value (.func f)) (ha : c.args.map a.eval = args)
    (hk : Calls P f args V fun e w' => e = .returned v ∧ Below V.heap.size V w') (hrun : (callFunc f args).run P V = .ok (.enter f args) V) (hK : ∀ V', Below V.heap.size V V' → K (a.put o.dst v) V') : o.wp P a V K Q := by
  have h : (execOp a.eval o).run P V = .ok (.enter f args) V := by
    unfold execOp
    simp only [ho, resolve, hc, Act.eval, Deferred.ofValue, ha, Sem.run_bind, Sem.run_pure, Result.andThen_ok, invoke]
    simp [go_sem, hrun]
  unfold Oper.wp
  rw [h, Oper.upon_enter]
  refine hk.mono ?_
  rintro e w' ⟨rfl, hb⟩
  exact hK w' hb
end
def callOf (o : Oper) : Call := match o.op with | .call c => c | _ => { callee := .builtin .len, args := #[], argTypes := #[] }
section
variable {P : Program} {o : Oper} {a : Act} {V : World} {K : Act → World → Prop} {Q : Exit → Act → World → Prop} {ev : Operand → Value}
theorem look_at {ops : Array Oper} {PL : List Pl} {A : Array Value} {k : Nat} (h : ∀ t, looks ops PL k t = true → a.tmps.getD t undef = valOf ops PL A t) (t : Tmp) {v : Value} (h1 : looks ops PL k t = true) (h2 : valOf ops PL A t = v) : a.eval (.tmp t) = v := (h t h1).trans h2
theorem map0 : (#[] : Array Operand).map ev = #[] := by simp
theorem map1 {x : Operand} {v : Value} (h : ev x = v) : (#[x] : Array Operand).map ev = #[v] := by simp [h]
theorem map2 {x y : Operand} {v u : Value} (h : ev x = v) (h2 : ev y = u) : (#[x, y] : Array Operand).map ev = #[v, u] := by simp [h, h2]
theorem op_callK {v : Value} {f : FuncId} (xs : Array Operand) (args : Array Value) (ho : o.op = .call (callOf o)) (hc : (callOf o).callee = .value (.func f)) (hx : (callOf o).args = xs) (ha : xs.map a.eval = args)
    (hk : Calls P f args V fun e w' => e = .returned v ∧ Below V.heap.size V w') (hrun : (callFunc f args).run P V = .ok (.enter f args) V) (hK : ∀ V', Below V.heap.size V V' → K (a.put o.dst v) V') : o.wp P a V K Q :=
  op_call args ho hc (by rw [hx]; exact ha) hk hrun hK
theorem bld0 : ((#[] : Array (Nat × Operand)).map fun (i, x) => (i, ev x)).toList = [] := by simp
theorem bld1 {a : Nat} {x : Operand} {v : Value} (h : ev x = v) : ((#[(a, x)] : Array (Nat × Operand)).map fun (i, x) => (i, ev x)).toList = [(a, v)] := by simp [h]
theorem bld2 {a b : Nat} {x y : Operand} {v u : Value} (h : ev x = v) (h2 : ev y = u) : ((#[(a, x), (b, y)] : Array (Nat × Operand)).map fun (i, x) => (i, ev x)).toList = [(a, v), (b, u)] := by simp [h, h2]
theorem bld3 {a b c : Nat} {x y z : Operand} {v u t : Value} (h : ev x = v) (h2 : ev y = u) (h3 : ev z = t) : ((#[(a, x), (b, y), (c, z)] : Array (Nat × Operand)).map fun (i, x) => (i, ev x)).toList = [(a, v), (b, u), (c, t)] := by simp [h, h2, h3]
theorem quiet_move {v : Value} (x : Operand) (hx : ev x = v) (ho : o.op = .move x ∨ o.op = .assign x) : (execOp ev o).run P V = .ok (.value v) V := by
  unfold execOp
  rcases ho with ho | ho <;> simp only [ho, hx, Sem.run_pure]
theorem tail_nil {ops : Array Oper} (h : Q .normal a V) : wpList P ops Q [] a V := h
theorem quiet_pickT {v : Value} (c x y : Operand) (hc : ev c = .bool true) (hx : ev x = v) (ho : o.op = .pick c x y) : (execOp ev o).run P V = .ok (.value v) V := by
  unfold execOp
  simp only [ho, hc, asBool, Sem.run_bind, Sem.run_pure, Result.andThen_ok, hx, if_true]
theorem quiet_pickF {v : Value} (c x y : Operand) (hc : ev c = .bool false) (hy : ev y = v) (ho : o.op = .pick c x y) : (execOp ev o).run P V = .ok (.value v) V := by
  unfold execOp
  simp only [ho, hc, asBool, Sem.run_bind, Sem.run_pure, Result.andThen_ok, hy]
  rfl
theorem quiet_not {b : Bool} (t : TypeId) (x : Operand) (hx : ev x = .bool b) (ho : o.op = .unOp .not t x) : (execOp ev o).run P V = .ok (.value (.bool (!b))) V := by
  unfold execOp
  simp only [ho, hx]
  simp [go_sem]
theorem quiet_extract {t : Array Value} {v : Value} (x : Operand) (k : Nat) (hx : ev x = .tuple t) (hv : t[k]? = some v) (ho : o.op = .extract x k) : (execOp ev o).run P V = .ok (.value v) V := by
  unfold execOp
  simp only [ho, hx, Instr.extract, Sem.run_bind, hv, Sem.run_pure, Result.andThen_ok]
end
end Go.Proofs.YtjiadbaaggifpaaDoor
end

section
set_option linter.unusedVariables false
set_option linter.unusedSimpArgs false
namespace Go.Proofs.YtjiadbaaggifpaaDoor
open Go Go.Proofs Go.RowKit F5

section
variable {P : Program}
theorem run_loadVar_off (w : World) (g off : Nat) (t : TypeId) (cs : Array Value) (d : TypeDesc) (hc : ∀ j v, cs[j]? = some v → w.cell? ⟨g, off + j, none⟩ = some v) (hu : P.underlying t = some d) (hd : d.isRow = true) (hi : (P.info? t).map (·.size) = some cs.size) :
    (loadVar t ⟨g, off, none⟩).run P w = .ok (.agg cs) w := by
  have := run_loadVar_mid (P := P) w g off t cs.toList d (fun j v hv => hc j v (by simpa using hv)) hu hd (by simpa using hi)
  simpa using this
theorem quiet_load_off {o : Oper} {ev : Operand → Value} {w : World} (t : TypeId) (x : Operand) (g off : Nat) (hx : ev x = .pointer (some ⟨g, off, none⟩)) (cs : Array Value) (d : TypeDesc) (hc : ∀ j v, cs[j]? = some v → w.cell? ⟨g, off + j, none⟩ = some v) (hu : P.underlying t = some d) (hd : d.isRow = true)
    (hi : (P.info? t).map (·.size) = some cs.size) (ho : o.op = .load t x) : (execOp ev o).run P w = .ok (.value (.agg cs)) w := by
  unfold execOp
  simp only [ho, hx, Instr.loadAt, Instr.sureAddr, Sem.run_bind, Sem.run_pure, Result.andThen_ok, run_loadVar_off w g off t cs d hc hu hd hi]
theorem wpList_load_off {ops : Array Oper} {rest : List Oper} {o : Oper} {a : Act} {w : World} {Q : Exit → Act → World → Prop} (hgd : o.guard = none) (t : TypeId) (x : Operand) (ho : o.op = .load t x)
    (g off : Nat) (hx : a.eval x = .pointer (some ⟨g, off, none⟩)) (cs : Array Value) (d : TypeDesc) (hc : ∀ j v, cs[j]? = some v → w.cell? ⟨g, off + j, none⟩ = some v) (hu : P.underlying t = some d) (hd : d.isRow = true) (hi : (P.info? t).map (·.size) = some cs.size)
    (h : wpList P ops Q rest (a.put o.dst (.agg cs)) w) : wpList P ops Q (o :: rest) a w :=
  wpList_plain hgd fun _ hK => by
    unfold Oper.wp
    rw [quiet_load_off t x g off hx cs d hc hu hd hi ho, Oper.upon_value]
    exact hK _ _ h
/-- The cells of a block behind a store of these into it. -/
def cellsAt (cur : Array Value) (off : Nat) (cs : Array Value) : Array Value := (cur.toList.take off ++ cs.toList ++ cur.toList.drop (off + cs.size)).toArray
theorem cellsAt_size {cur cs : Array Value} {off : Nat} (h : off + cs.size ≤ cur.size) : (cellsAt cur off cs).size = cur.size := by simp [cellsAt]; omega
theorem cellsAt_in {cur cs : Array Value} {off : Nat} (h : off + cs.size ≤ cur.size) (k : Nat) (hk : k < cs.size) : (cellsAt cur off cs)[off + k]? = cs[k]? := by
  have h1 : (List.take off cur.toList).length = off := by simp; omega
  simp only [cellsAt, List.getElem?_toArray, List.append_assoc]
  rw [List.getElem?_append_right (by omega), h1, Nat.add_sub_cancel_left, List.getElem?_append_left (by simpa using hk)]
  simp
theorem cellsAt_out {cur cs : Array Value} {off : Nat} (h : off + cs.size ≤ cur.size) (k : Nat) (hk : k < off ∨ off + cs.size ≤ k) : (cellsAt cur off cs)[k]? = cur[k]? := by
  have h1 : (List.take off cur.toList).length = off := by simp; omega
  simp only [cellsAt, List.getElem?_toArray, List.append_assoc]
  rcases hk with hk | hk
  · rw [List.getElem?_append_left (by omega), List.getElem?_take]
    simp [hk]
  · rw [List.getElem?_append_right (by omega), h1, List.getElem?_append_right (by simp; omega), List.getElem?_drop]
    simp only [Array.length_toList]
    rw [show off + cs.size + (k - off - cs.size) = k by omega]
    simp
theorem cellsAt_one {cur cs : Array Value} {off : Nat} (h1 : cur.all (·.oneCell') = true) (h2 : cs.all (·.oneCell') = true) : (cellsAt cur off cs).all (·.oneCell') = true := by
  rw [Array.all_eq_true_iff_forall_mem] at h1 h2 ⊢
  intro v hv
  simp only [cellsAt, List.mem_toArray, List.mem_append] at hv
  rcases hv with (hv | hv) | hv
  · exact h1 v (by simpa using List.mem_of_mem_take hv)
  · exact h2 v (by simpa using hv)
  · exact h1 v (by simpa using List.mem_of_mem_drop hv)
theorem wp_store_off {o : Oper} {a : Act} {w : World} {K : Act → World → Prop} {Q : Exit → Act → World → Prop} (t : TypeId) (x y : Operand) (ho : o.op = .store t x y)
    (g off : Nat) (cs : Array Value) (hx : a.eval x = .pointer (some ⟨g, off, none⟩)) (hy : a.eval y = .agg cs) (T : TypeId) (cur : Array Value) (hg : Blk w g T cur) (hl : off + cs.size ≤ cur.size) (hi : (P.info? t).map (·.size) = some cs.size) (h1 : cs.all (·.oneCell') = true)
    (h : K (a.put o.dst undef) (w.setRow g (cellsAt cur off cs))) : o.wp P a w K Q := by
  have hst : (storeVar t ⟨g, off, none⟩ (.agg cs)).run P w = .ok () (w.setRow g (cellsAt cur off cs)) := by
    have := run_storeCells_at (P := P) g off T cs.toList 0 cur w hg (by simpa using hl) (fun v hv => (Array.all_eq_true_iff_forall_mem.1 h1) v (by simpa using hv))
    cases hq : P.info? t with
    | none => simp [hq] at hi
    | some i =>
      have hs : cs.size = i.size := by simp [hq] at hi; omega
      simp only [Nat.add_zero, Array.length_toList] at this
      simp [storeVar, sizeOf, typeInfo, hq, Value.cells, hs, cellsAt, this]
  unfold Oper.wp execOp
  simp only [ho, hx, hy, Instr.storeAt, Instr.sureAddr, Sem.run_bind, Sem.run_pure, Result.andThen_ok, hst]
  exact h
theorem wpList_store_off {ops : Array Oper} {rest : List Oper} {o : Oper} {a : Act} {w : World} {Q : Exit → Act → World → Prop} (hgd : o.guard = none) (t : TypeId) (x y : Operand) (ho : o.op = .store t x y)
    (g off : Nat) (cs : Array Value) (hx : a.eval x = .pointer (some ⟨g, off, none⟩)) (hy : a.eval y = .agg cs) (T : TypeId) (cur : Array Value) (hg : Blk w g T cur) (hl : off + cs.size ≤ cur.size) (hi : (P.info? t).map (·.size) = some cs.size) (h1 : cs.all (·.oneCell') = true)
    (h : wpList P ops Q rest (a.put o.dst undef) (w.setRow g (cellsAt cur off cs))) : wpList P ops Q (o :: rest) a w :=
  wpList_plain hgd fun _ hK => wp_store_off t x y ho g off cs hx hy T cur hg hl hi h1 (hK _ _ h)
theorem quiet_index {o : Oper} {ev : Operand → Value} {w : World} (s : TypeId) (x y : Operand) (v k u : Value) (hx : ev x = v) (hy : ev y = k) (hr : ∀ W, (Instr.indexAt s v k).run P W = .ok u W) (ho : o.op = .indexAddr s x y) : (execOp ev o).run P w = .ok (.value u) w := by
  unfold execOp
  simp only [ho, hx, hy, Sem.run_bind, hr, Sem.run_pure, Result.andThen_ok]
theorem quiet_field {o : Oper} {ev : Operand → Value} {w : World} (s : TypeId) (x : Operand) (f : Nat) (v u : Value) (hx : ev x = v) (hr : ∀ W, (Instr.fieldAt s v f).run P W = .ok u W) (ho : o.op = .fieldAddr s x f) : (execOp ev o).run P w = .ok (.value u) w := by
  unfold execOp
  simp only [ho, hx, Sem.run_bind, hr, Sem.run_pure, Result.andThen_ok]
end
theorem fa0 (g off : Nat) (W : World) : (Instr.fieldAt 30 (.pointer (some ⟨g, off, none⟩)) 0).run Tryd.prog W = .ok (.pointer (some ⟨g, off, none⟩)) W := by go_simp
theorem fa1 (g off : Nat) (W : World) : (Instr.fieldAt 30 (.pointer (some ⟨g, off, none⟩)) 1).run Tryd.prog W = .ok (.pointer (some ⟨g, off + 4, none⟩)) W := by go_simp
theorem fa2 (g off : Nat) (W : World) : (Instr.fieldAt 30 (.pointer (some ⟨g, off, none⟩)) 2).run Tryd.prog W = .ok (.pointer (some ⟨g, off + 8, none⟩)) W := by go_simp
end Go.Proofs.YtjiadbaaggifpaaDoor
end

section
set_option linter.unusedVariables false
set_option linter.unusedSimpArgs false
namespace Go.Proofs.YtjiadbaaggifpaaDoor
open Go Go.Proofs Go.RowKit F5

theorem uV_okz (x y z : Fp) : (Tryd.prog.info? 30).map (·.size) = some (uV x y z).size ∧ (uV x y z).all (·.oneCell') = true ∧ (uV 0 0 0).size = (uV x y z).size := uV_ok x y z
theorem two_blks (w : World) (a b : Array Value) (T U : TypeId) : Blk ((w.alloc (.cells a T)).alloc (.cells b U)) w.heap.size T a ∧ Blk ((w.alloc (.cells a T)).alloc (.cells b U)) (w.heap.size + 1) U b ∧ Below w.heap.size w ((w.alloc (.cells a T)).alloc (.cells b U)) := by
  refine ⟨(Blk.new w T a).alloc _, ?_, ((Below.refl _ _).alloc (Nat.le_refl _) _).alloc (by simp) _⟩
  have := Blk.new (w.alloc (.cells a T)) U b
  rwa [show (w.alloc (.cells a T)).heap.size = w.heap.size + 1 by simp] at this
theorem three_blksT (w : World) (a b c : Array Value) (T U S : TypeId) : Blk (((w.alloc (.cells a T)).alloc (.cells b U)).alloc (.cells c S)) w.heap.size T a ∧ Blk (((w.alloc (.cells a T)).alloc (.cells b U)).alloc (.cells c S)) (w.heap.size + 1) U b ∧ Blk (((w.alloc (.cells a T)).alloc (.cells b U)).alloc (.cells c S)) (w.heap.size + 2) S c ∧ Below w.heap.size w (((w.alloc (.cells a T)).alloc (.cells b U)).alloc (.cells c S)) := by
  obtain ⟨h1, h2, h3⟩ := two_blks w a b T U
  refine ⟨h1.alloc _, h2.alloc _, ?_, h3.alloc (by simp; omega) _⟩
  have := Blk.new ((w.alloc (.cells a T)).alloc (.cells b U)) S c
  rwa [show ((w.alloc (.cells a T)).alloc (.cells b U)).heap.size = w.heap.size + 2 by simp] at this

set_option maxHeartbeats 4000000 in
set_option maxRecDepth 100000 in
theorem twiceP (x y zz xx yy z2 cr ux zd uy c2 r1 s1 r2 r3 : Fp) (hxx : x * x = xx) (hyy : y * y = yy) (hzz : zz * zz = z2) (hcr : x * y = cr) (hux : yy - xx = ux) (hzd : z2 + z2 = zd) (huy : zd - ux = uy) (hc2 : cr + cr = c2) (h1 : c2 * uy = r1) (hs1 : yy + xx = s1) (h2 : s1 * ux = r2) (h3 : ux * uy = r3) (w : World) (hP : PrimeAt w) :
    Calls Tryd.prog 70 #[.agg (uV x y zz)] w fun e w' => e = .returned (.agg (uV r1 r2 r3)) ∧ Below w.heap.size w w' := by
  have MUL (p q r : Fp) (h : p * q = r) : Hid (∀ V, PrimeAt V → Calls Tryd.prog 38 #[.agg (cE p), .agg (cE q)] V fun e w' => e = .returned (.agg (cE r)) ∧ Below V.heap.size V w') := Lib.hid fun V hV => by rw [← h]; exact eMul _ _ V hV
  have SUB (p q r : Fp) (h : p - q = r) : Hid (∀ V, PrimeAt V → Calls Tryd.prog 43 #[.agg (cE p), .agg (cE q)] V fun e w' => e = .returned (.agg (cE r)) ∧ Below V.heap.size V w') := Lib.hid fun V hV => by rw [← h]; exact eSub _ _ V hV
  have ADD (p q r : Fp) (h : p + q = r) : Hid (∀ V, PrimeAt V → Calls Tryd.prog 42 #[.agg (cE p), .agg (cE q)] V fun e w' => e = .returned (.agg (cE r)) ∧ Below V.heap.size V w') := Lib.hid fun V hV => by rw [← h]; exact eAdd _ _ V hV
  have C1 := MUL _ _ _ hxx
  have C2 := MUL _ _ _ hyy
  have C3 := MUL _ _ _ hzz
  have C4 := MUL _ _ _ hcr
  have C5 := SUB _ _ _ hux
  have C6 := ADD _ _ _ hzd
  have C7 := SUB _ _ _ huy
  have C8 := ADD _ _ _ hc2
  have C9 := MUL _ _ _ h1
  have C10 := ADD _ _ _ hs1
  have C11 := MUL _ _ _ h2
  have C12 := MUL _ _ _ h3
  clear MUL SUB ADD hxx hyy hzz hcr hux hzd huy hc2 h1 hs1 h2 h3
  obtain ⟨z, hz⟩ : ∃ z, Hid (z = uV 0 0 0) := ⟨_, Lib.hid rfl⟩
  have hz0 : ∀ W, (zeroValue 30).run Tryd.prog W = .ok (.agg z) W := by rw [hz.out]; exact zeroU
  obtain ⟨zf, hzf⟩ : ∃ z, Hid (z = cE 0) := ⟨_, Lib.hid rfl⟩
  have hzf0 : ∀ W, (zeroValue 28).run Tryd.prog W = .ok (.agg zf) W := by rw [hzf.out]; exact zeroE
  have ofE : Hid (∀ a : Fp, zf.size = (cE a).size) := Lib.hid (fun a => by rw [hzf.out]; exact cE_sz _ _)
  have hBu := Lib.hid (built_U r1 r2 r3)
  have ok := Lib.hid (uV_okz r1 r2 r3)
  rw [← hz.out] at ok
  generalize uV r1 r2 r3 = R at *
  have oA := Lib.hid (uV_okz x y zz)
  have KX := Lib.hid (fun (V : World) g T (h : Blk V g T (uV x y zz)) => uV_cell_x h)
  have KY := Lib.hid (fun (V : World) g T (h : Blk V g T (uV x y zz)) => uV_cell_y h)
  have KZ := Lib.hid (fun (V : World) g T (h : Blk V g T (uV x y zz)) => uV_cell_z h)
  generalize uV x y zz = A at *
  obtain ⟨b1, b2, hb⟩ := two_blks w A z 30 30
  have HP := Lib.hid hP
  clear hz hzf hP
  go_enter Tryd.func70, Tryd.ntmps70
  go_upto_region 1 with fail
  generalize (w.alloc (.cells A 30)).alloc (.cells z 30) = W at *
  have X1 := Lib.hid b1
  have XR := Lib.hid b2
  have HB := Lib.hid hb
  clear b1 b2 hb
  (try simp only [Act.put, List.setIfInBounds_toArray, List.set_cons_zero, List.set_cons_succ])
  have PV : Hid (∀ V, Below W.heap.size W V → PrimeAt V) := Lib.hid fun V hV => HP.out.old (HB.out.trans (hV.mono HB.out.size))
  have DD1 : Hid (∀ V, Below W.heap.size W V → Below W.heap.size W V) := Lib.hid fun _ h => h
  refine wp_sched [(9, .is (.pointer (some ⟨w.heap.size, 0, none⟩))), (10, .is (.agg (cE x))), (11, .is (.pointer (some ⟨w.heap.size, 0, none⟩))), (12, .is (.agg (cE x))), (13, .is (.agg (cE xx))), (14, .is (.pointer (some ⟨w.heap.size, 0 + 4, none⟩))), (15, .is (.agg (cE y))), (16, .is (.pointer (some ⟨w.heap.size, 0 + 4, none⟩))), (17, .is (.agg (cE y))), (18, .is (.agg (cE yy))), (19, .is (.pointer (some ⟨w.heap.size, 0 + 8, none⟩))), (20, .is (.agg (cE zz))), (21, .is (.pointer (some ⟨w.heap.size, 0 + 8, none⟩))), (22, .is (.agg (cE zz))), (23, .is (.agg (cE z2))), (3, .fresh 28 zf), (4, .fresh 28 zf), (5, .fresh 28 zf)] (fun V => Below W.heap.size W V) (by kernel_rfl) (by kernel_rfl) (by kernel_rfl) (by kernel_rfl) DD1.out ?hg1 _ (by rfl) ?hf1
  case hg1 =>
    refine goods_is (by kernel_rfl) (fun a V h hS K Q hK => op_quiet (quiet_field _ (.tmp 1) 0 _ _ (look_at h 1 (by kernel_rfl) (by kernel_rfl)) (fa0 _ _) rfl) hK) ?_
    refine goods_is (by kernel_rfl) (fun a V h hS K Q hK => op_quiet (quiet_load_off 28 (.tmp 9) _ _ (look_at h 9 (by kernel_rfl) (by kernel_rfl)) (cE x) _ (KX.out _ _ _ (X1.out.old hS)) Tryd.underlying28 rfl (cE_ok _).1 (by kernel_rfl)) hK) ?_
    refine goods_is (by kernel_rfl) (fun a V h hS K Q hK => op_quiet (quiet_field _ (.tmp 1) 0 _ _ (look_at h 1 (by kernel_rfl) (by kernel_rfl)) (fa0 _ _) rfl) hK) ?_
    refine goods_is (by kernel_rfl) (fun a V h hS K Q hK => op_quiet (quiet_load_off 28 (.tmp 11) _ _ (look_at h 11 (by kernel_rfl) (by kernel_rfl)) (cE x) _ (KX.out _ _ _ (X1.out.old hS)) Tryd.underlying28 rfl (cE_ok _).1 (by kernel_rfl)) hK) ?_
    refine goods_is (by kernel_rfl) (fun a V h hS K Q hK => op_callK #[.tmp 10, .tmp 12] #[.agg (cE x), .agg (cE x)] (by kernel_rfl) (by kernel_rfl) (by kernel_rfl) (map2 (look_at h 10 (by kernel_rfl) (by kernel_rfl)) (look_at h 12 (by kernel_rfl) (by kernel_rfl))) (C1.out V (PV.out V hS)) (by kernel_rfl) hK) ?_
    refine goods_is (by kernel_rfl) (fun a V h hS K Q hK => op_quiet (quiet_field _ (.tmp 1) 1 _ _ (look_at h 1 (by kernel_rfl) (by kernel_rfl)) (fa1 _ _) rfl) hK) ?_
    refine goods_is (by kernel_rfl) (fun a V h hS K Q hK => op_quiet (quiet_load_off 28 (.tmp 14) _ _ (look_at h 14 (by kernel_rfl) (by kernel_rfl)) (cE y) _ (KY.out _ _ _ (X1.out.old hS)) Tryd.underlying28 rfl (cE_ok _).1 (by kernel_rfl)) hK) ?_
    refine goods_is (by kernel_rfl) (fun a V h hS K Q hK => op_quiet (quiet_field _ (.tmp 1) 1 _ _ (look_at h 1 (by kernel_rfl) (by kernel_rfl)) (fa1 _ _) rfl) hK) ?_
    refine goods_is (by kernel_rfl) (fun a V h hS K Q hK => op_quiet (quiet_load_off 28 (.tmp 16) _ _ (look_at h 16 (by kernel_rfl) (by kernel_rfl)) (cE y) _ (KY.out _ _ _ (X1.out.old hS)) Tryd.underlying28 rfl (cE_ok _).1 (by kernel_rfl)) hK) ?_
    refine goods_is (by kernel_rfl) (fun a V h hS K Q hK => op_callK #[.tmp 15, .tmp 17] #[.agg (cE y), .agg (cE y)] (by kernel_rfl) (by kernel_rfl) (by kernel_rfl) (map2 (look_at h 15 (by kernel_rfl) (by kernel_rfl)) (look_at h 17 (by kernel_rfl) (by kernel_rfl))) (C2.out V (PV.out V hS)) (by kernel_rfl) hK) ?_
    refine goods_is (by kernel_rfl) (fun a V h hS K Q hK => op_quiet (quiet_field _ (.tmp 1) 2 _ _ (look_at h 1 (by kernel_rfl) (by kernel_rfl)) (fa2 _ _) rfl) hK) ?_
    refine goods_is (by kernel_rfl) (fun a V h hS K Q hK => op_quiet (quiet_load_off 28 (.tmp 19) _ _ (look_at h 19 (by kernel_rfl) (by kernel_rfl)) (cE zz) _ (KZ.out _ _ _ (X1.out.old hS)) Tryd.underlying28 rfl (cE_ok _).1 (by kernel_rfl)) hK) ?_
    refine goods_is (by kernel_rfl) (fun a V h hS K Q hK => op_quiet (quiet_field _ (.tmp 1) 2 _ _ (look_at h 1 (by kernel_rfl) (by kernel_rfl)) (fa2 _ _) rfl) hK) ?_
    refine goods_is (by kernel_rfl) (fun a V h hS K Q hK => op_quiet (quiet_load_off 28 (.tmp 21) _ _ (look_at h 21 (by kernel_rfl) (by kernel_rfl)) (cE zz) _ (KZ.out _ _ _ (X1.out.old hS)) Tryd.underlying28 rfl (cE_ok _).1 (by kernel_rfl)) hK) ?_
    refine goods_is (by kernel_rfl) (fun a V h hS K Q hK => op_callK #[.tmp 20, .tmp 22] #[.agg (cE zz), .agg (cE zz)] (by kernel_rfl) (by kernel_rfl) (by kernel_rfl) (map2 (look_at h 20 (by kernel_rfl) (by kernel_rfl)) (look_at h 22 (by kernel_rfl) (by kernel_rfl))) (C3.out V (PV.out V hS)) (by kernel_rfl) hK) ?_
    refine goods_fresh (by kernel_rfl) hzf0 ?_
    refine goods_fresh (by kernel_rfl) hzf0 ?_
    refine goods_fresh (by kernel_rfl) hzf0 ?_
    exact goods_nil
  case hf1 =>
  intro g V hF
  obtain ⟨lg3, bg3⟩ := hF.blk 15 _ _ rfl
  obtain ⟨lg4, bg4⟩ := hF.blk 16 _ _ rfl
  obtain ⟨lg5, bg5⟩ := hF.blk 17 _ _ rfl
  have ng3_4 := hF.ne 15 16 _ _ _ _ rfl rfl (by decide)
  have ng3_5 := hF.ne 15 17 _ _ _ _ rfl rfl (by decide)
  have ng4_3 := hF.ne 16 15 _ _ _ _ rfl rfl (by decide)
  have ng4_5 := hF.ne 16 17 _ _ _ _ rfl rfl (by decide)
  have ng5_3 := hF.ne 17 15 _ _ _ _ rfl rfl (by decide)
  have ng5_4 := hF.ne 17 16 _ _ _ _ rfl rfl (by decide)
  have hbf := hF.below
  clear hF
  simp only [finL, Pl.val, List.setIfInBounds_toArray, List.set_cons_zero, List.set_cons_succ]
  generalize g 15 = g3 at *
  generalize g 16 = g4 at *
  generalize g 17 = g5 at *
  refine wpList_store_row rfl 28 (.tmp 3) (.tmp 13) rfl g3 (cE xx) rfl rfl 28 zf bg3 (cE_ok _).1 (ofE.out _) (cE_ok _).2 ?_
  refine wpList_store_row rfl 28 (.tmp 4) (.tmp 18) rfl g4 (cE yy) rfl rfl 28 zf (bg4.rowFar ng4_3 (cE xx)) (cE_ok _).1 (ofE.out _) (cE_ok _).2 ?_
  refine wpList_store_row rfl 28 (.tmp 5) (.tmp 23) rfl g5 (cE z2) rfl rfl 28 zf ((bg5.rowFar ng5_3 (cE xx)).rowFar ng5_4 (cE yy)) (cE_ok _).1 (ofE.out _) (cE_ok _).2 ?_
  have X1_1 := Lib.hid ((((X1.out.old hbf).rowFar (Nat.ne_of_lt (Nat.lt_of_lt_of_le X1.out.lt lg3)) (cE xx)).rowFar (Nat.ne_of_lt (Nat.lt_of_lt_of_le X1.out.lt lg4)) (cE yy)).rowFar (Nat.ne_of_lt (Nat.lt_of_lt_of_le X1.out.lt lg5)) (cE z2))
  have XR_1 := Lib.hid ((((XR.out.old hbf).rowFar (Nat.ne_of_lt (Nat.lt_of_lt_of_le XR.out.lt lg3)) (cE xx)).rowFar (Nat.ne_of_lt (Nat.lt_of_lt_of_le XR.out.lt lg4)) (cE yy)).rowFar (Nat.ne_of_lt (Nat.lt_of_lt_of_le XR.out.lt lg5)) (cE z2))
  have XX_1 := Lib.hid (((bg3.row (cE xx)).rowFar ng3_4 (cE yy)).rowFar ng3_5 (cE z2))
  have LG3 := Lib.hid (Nat.le_trans HB.out.size lg3)
  have YY_1 := Lib.hid (((bg4.rowFar ng4_3 (cE xx)).row (cE yy)).rowFar ng4_5 (cE z2))
  have LG4 := Lib.hid (Nat.le_trans HB.out.size lg4)
  have ZZ_1 := Lib.hid (((bg5.rowFar ng5_3 (cE xx)).rowFar ng5_4 (cE yy)).row (cE z2))
  have LG5 := Lib.hid (Nat.le_trans HB.out.size lg5)
  have HB_1 := Lib.hid (below_row (g := g5) (below_row (g := g4) (below_row (g := g3) (HB.out.trans (hbf.mono HB.out.size)) (Nat.le_trans HB.out.size lg3) (cE xx)) (Nat.le_trans HB.out.size lg4) (cE yy)) (Nat.le_trans HB.out.size lg5) (cE z2))
  clear X1 XR HB PV lg3 lg4 lg5 bg3 bg4 bg5 ng3_4 ng3_5 ng4_3 ng4_5 ng5_3 ng5_4 hbf DD1
  generalize ((V.setRow g3 (cE xx)).setRow g4 (cE yy)).setRow g5 (cE z2) = W1 at *
  have PV : Hid (∀ V, Below W1.heap.size W1 V → PrimeAt V) := Lib.hid fun V hV => HP.out.old (HB_1.out.trans (hV.mono HB_1.out.size))
  go_upto_region 2 with fail
  (try simp only [Act.put, List.setIfInBounds_toArray, List.set_cons_zero, List.set_cons_succ])
  have DD2 : Hid (∀ V, Below W1.heap.size W1 V → Below W1.heap.size W1 V) := Lib.hid fun _ h => h
  refine wp_sched [(24, .is (.pointer (some ⟨w.heap.size, 0, none⟩))), (25, .is (.agg (cE x))), (26, .is (.pointer (some ⟨w.heap.size, 0 + 4, none⟩))), (27, .is (.agg (cE y))), (28, .is (.agg (cE cr))), (6, .fresh 28 zf)] (fun V => Below W1.heap.size W1 V) (by kernel_rfl) (by kernel_rfl) (by kernel_rfl) (by kernel_rfl) DD2.out ?hg2 _ (by rfl) ?hf2
  case hg2 =>
    refine goods_is (by kernel_rfl) (fun a V h hS K Q hK => op_quiet (quiet_field _ (.tmp 1) 0 _ _ (look_at h 1 (by kernel_rfl) (by kernel_rfl)) (fa0 _ _) rfl) hK) ?_
    refine goods_is (by kernel_rfl) (fun a V h hS K Q hK => op_quiet (quiet_load_off 28 (.tmp 24) _ _ (look_at h 24 (by kernel_rfl) (by kernel_rfl)) (cE x) _ (KX.out _ _ _ (X1_1.out.old hS)) Tryd.underlying28 rfl (cE_ok _).1 (by kernel_rfl)) hK) ?_
    refine goods_is (by kernel_rfl) (fun a V h hS K Q hK => op_quiet (quiet_field _ (.tmp 1) 1 _ _ (look_at h 1 (by kernel_rfl) (by kernel_rfl)) (fa1 _ _) rfl) hK) ?_
    refine goods_is (by kernel_rfl) (fun a V h hS K Q hK => op_quiet (quiet_load_off 28 (.tmp 26) _ _ (look_at h 26 (by kernel_rfl) (by kernel_rfl)) (cE y) _ (KY.out _ _ _ (X1_1.out.old hS)) Tryd.underlying28 rfl (cE_ok _).1 (by kernel_rfl)) hK) ?_
    refine goods_is (by kernel_rfl) (fun a V h hS K Q hK => op_callK #[.tmp 25, .tmp 27] #[.agg (cE x), .agg (cE y)] (by kernel_rfl) (by kernel_rfl) (by kernel_rfl) (map2 (look_at h 25 (by kernel_rfl) (by kernel_rfl)) (look_at h 27 (by kernel_rfl) (by kernel_rfl))) (C4.out V (PV.out V hS)) (by kernel_rfl) hK) ?_
    refine goods_fresh (by kernel_rfl) hzf0 ?_
    exact goods_nil
  case hf2 =>
  intro g V hF
  obtain ⟨lg6, bg6⟩ := hF.blk 5 _ _ rfl
  have hbf := hF.below
  clear hF
  simp only [finL, Pl.val, List.setIfInBounds_toArray, List.set_cons_zero, List.set_cons_succ]
  generalize g 5 = g6 at *
  refine wpList_store_row rfl 28 (.tmp 6) (.tmp 28) rfl g6 (cE cr) rfl rfl 28 zf bg6 (cE_ok _).1 (ofE.out _) (cE_ok _).2 ?_
  have XR_2 := Lib.hid ((XR_1.out.old hbf).rowFar (Nat.ne_of_lt (Nat.lt_of_lt_of_le XR_1.out.lt lg6)) (cE cr))
  have XX_2 := Lib.hid ((XX_1.out.old hbf).rowFar (Nat.ne_of_lt (Nat.lt_of_lt_of_le XX_1.out.lt lg6)) (cE cr))
  have YY_2 := Lib.hid ((YY_1.out.old hbf).rowFar (Nat.ne_of_lt (Nat.lt_of_lt_of_le YY_1.out.lt lg6)) (cE cr))
  have ZZ_2 := Lib.hid ((ZZ_1.out.old hbf).rowFar (Nat.ne_of_lt (Nat.lt_of_lt_of_le ZZ_1.out.lt lg6)) (cE cr))
  have CR_2 := Lib.hid (bg6.row (cE cr))
  have LG6 := Lib.hid (Nat.le_trans HB_1.out.size lg6)
  have HB_2 := Lib.hid (below_row (g := g6) (HB_1.out.trans (hbf.mono HB_1.out.size)) (Nat.le_trans HB_1.out.size lg6) (cE cr))
  clear X1_1 XR_1 XX_1 YY_1 ZZ_1 HB_1 PV lg6 bg6 hbf DD2
  generalize V.setRow g6 (cE cr) = W2 at *
  have PV : Hid (∀ V, Below W2.heap.size W2 V → PrimeAt V) := Lib.hid fun V hV => HP.out.old (HB_2.out.trans (hV.mono HB_2.out.size))
  go_upto_region 3 with fail
  (try simp only [Act.put, List.setIfInBounds_toArray, List.set_cons_zero, List.set_cons_succ])
  have DD3 : Hid (∀ V, Below W2.heap.size W2 V → Below W2.heap.size W2 V) := Lib.hid fun _ h => h
  refine wp_sched [(29, .is (.agg (cE yy))), (30, .is (.agg (cE xx))), (31, .is (.agg (cE ux))), (7, .fresh 28 zf)] (fun V => Below W2.heap.size W2 V) (by kernel_rfl) (by kernel_rfl) (by kernel_rfl) (by kernel_rfl) DD3.out ?hg3 _ (by rfl) ?hf3
  case hg3 =>
    refine goods_is (by kernel_rfl) (fun a V h hS K Q hK => op_quiet (quiet_load_row 28 (.tmp 4) _ (look_at h 4 (by kernel_rfl) (by kernel_rfl)) 28 (cE yy) _ (YY_2.out.old hS) Tryd.underlying28 rfl (cE_ok _).1 (by kernel_rfl)) hK) ?_
    refine goods_is (by kernel_rfl) (fun a V h hS K Q hK => op_quiet (quiet_load_row 28 (.tmp 3) _ (look_at h 3 (by kernel_rfl) (by kernel_rfl)) 28 (cE xx) _ (XX_2.out.old hS) Tryd.underlying28 rfl (cE_ok _).1 (by kernel_rfl)) hK) ?_
    refine goods_is (by kernel_rfl) (fun a V h hS K Q hK => op_callK #[.tmp 29, .tmp 30] #[.agg (cE yy), .agg (cE xx)] (by kernel_rfl) (by kernel_rfl) (by kernel_rfl) (map2 (look_at h 29 (by kernel_rfl) (by kernel_rfl)) (look_at h 30 (by kernel_rfl) (by kernel_rfl))) (C5.out V (PV.out V hS)) (by kernel_rfl) hK) ?_
    refine goods_fresh (by kernel_rfl) hzf0 ?_
    exact goods_nil
  case hf3 =>
  intro g V hF
  obtain ⟨lg7, bg7⟩ := hF.blk 3 _ _ rfl
  have hbf := hF.below
  clear hF
  simp only [finL, Pl.val, List.setIfInBounds_toArray, List.set_cons_zero, List.set_cons_succ]
  generalize g 3 = g7 at *
  refine wpList_store_row rfl 28 (.tmp 7) (.tmp 31) rfl g7 (cE ux) rfl rfl 28 zf bg7 (cE_ok _).1 (ofE.out _) (cE_ok _).2 ?_
  have XR_3 := Lib.hid ((XR_2.out.old hbf).rowFar (Nat.ne_of_lt (Nat.lt_of_lt_of_le XR_2.out.lt lg7)) (cE ux))
  have XX_3 := Lib.hid ((XX_2.out.old hbf).rowFar (Nat.ne_of_lt (Nat.lt_of_lt_of_le XX_2.out.lt lg7)) (cE ux))
  have YY_3 := Lib.hid ((YY_2.out.old hbf).rowFar (Nat.ne_of_lt (Nat.lt_of_lt_of_le YY_2.out.lt lg7)) (cE ux))
  have ZZ_3 := Lib.hid ((ZZ_2.out.old hbf).rowFar (Nat.ne_of_lt (Nat.lt_of_lt_of_le ZZ_2.out.lt lg7)) (cE ux))
  have CR_3 := Lib.hid ((CR_2.out.old hbf).rowFar (Nat.ne_of_lt (Nat.lt_of_lt_of_le CR_2.out.lt lg7)) (cE ux))
  have UX_3 := Lib.hid (bg7.row (cE ux))
  have LG7 := Lib.hid (Nat.le_trans HB_2.out.size lg7)
  have HB_3 := Lib.hid (below_row (g := g7) (HB_2.out.trans (hbf.mono HB_2.out.size)) (Nat.le_trans HB_2.out.size lg7) (cE ux))
  clear XR_2 XX_2 YY_2 ZZ_2 CR_2 HB_2 PV lg7 bg7 hbf DD3
  generalize V.setRow g7 (cE ux) = W3 at *
  have PV : Hid (∀ V, Below W3.heap.size W3 V → PrimeAt V) := Lib.hid fun V hV => HP.out.old (HB_3.out.trans (hV.mono HB_3.out.size))
  go_upto_region 4 with fail
  (try simp only [Act.put, List.setIfInBounds_toArray, List.set_cons_zero, List.set_cons_succ])
  have DD4 : Hid (∀ V, Below W3.heap.size W3 V → Below W3.heap.size W3 V) := Lib.hid fun _ h => h
  refine wp_sched [(32, .is (.agg (cE z2))), (33, .is (.agg (cE z2))), (34, .is (.agg (cE zd))), (35, .is (.agg (cE ux))), (36, .is (.agg (cE uy))), (8, .fresh 28 zf)] (fun V => Below W3.heap.size W3 V) (by kernel_rfl) (by kernel_rfl) (by kernel_rfl) (by kernel_rfl) DD4.out ?hg4 _ (by rfl) ?hf4
  case hg4 =>
    refine goods_is (by kernel_rfl) (fun a V h hS K Q hK => op_quiet (quiet_load_row 28 (.tmp 5) _ (look_at h 5 (by kernel_rfl) (by kernel_rfl)) 28 (cE z2) _ (ZZ_3.out.old hS) Tryd.underlying28 rfl (cE_ok _).1 (by kernel_rfl)) hK) ?_
    refine goods_is (by kernel_rfl) (fun a V h hS K Q hK => op_quiet (quiet_load_row 28 (.tmp 5) _ (look_at h 5 (by kernel_rfl) (by kernel_rfl)) 28 (cE z2) _ (ZZ_3.out.old hS) Tryd.underlying28 rfl (cE_ok _).1 (by kernel_rfl)) hK) ?_
    refine goods_is (by kernel_rfl) (fun a V h hS K Q hK => op_callK #[.tmp 32, .tmp 33] #[.agg (cE z2), .agg (cE z2)] (by kernel_rfl) (by kernel_rfl) (by kernel_rfl) (map2 (look_at h 32 (by kernel_rfl) (by kernel_rfl)) (look_at h 33 (by kernel_rfl) (by kernel_rfl))) (C6.out V (PV.out V hS)) (by kernel_rfl) hK) ?_
    refine goods_is (by kernel_rfl) (fun a V h hS K Q hK => op_quiet (quiet_load_row 28 (.tmp 7) _ (look_at h 7 (by kernel_rfl) (by kernel_rfl)) 28 (cE ux) _ (UX_3.out.old hS) Tryd.underlying28 rfl (cE_ok _).1 (by kernel_rfl)) hK) ?_
    refine goods_is (by kernel_rfl) (fun a V h hS K Q hK => op_callK #[.tmp 34, .tmp 35] #[.agg (cE zd), .agg (cE ux)] (by kernel_rfl) (by kernel_rfl) (by kernel_rfl) (map2 (look_at h 34 (by kernel_rfl) (by kernel_rfl)) (look_at h 35 (by kernel_rfl) (by kernel_rfl))) (C7.out V (PV.out V hS)) (by kernel_rfl) hK) ?_
    refine goods_fresh (by kernel_rfl) hzf0 ?_
    exact goods_nil
  case hf4 =>
  intro g V hF
  obtain ⟨lg8, bg8⟩ := hF.blk 5 _ _ rfl
  have hbf := hF.below
  clear hF
  simp only [finL, Pl.val, List.setIfInBounds_toArray, List.set_cons_zero, List.set_cons_succ]
  generalize g 5 = g8 at *
  refine wpList_store_row rfl 28 (.tmp 8) (.tmp 36) rfl g8 (cE uy) rfl rfl 28 zf bg8 (cE_ok _).1 (ofE.out _) (cE_ok _).2 ?_
  have XR_4 := Lib.hid ((XR_3.out.old hbf).rowFar (Nat.ne_of_lt (Nat.lt_of_lt_of_le XR_3.out.lt lg8)) (cE uy))
  have XX_4 := Lib.hid ((XX_3.out.old hbf).rowFar (Nat.ne_of_lt (Nat.lt_of_lt_of_le XX_3.out.lt lg8)) (cE uy))
  have YY_4 := Lib.hid ((YY_3.out.old hbf).rowFar (Nat.ne_of_lt (Nat.lt_of_lt_of_le YY_3.out.lt lg8)) (cE uy))
  have CR_4 := Lib.hid ((CR_3.out.old hbf).rowFar (Nat.ne_of_lt (Nat.lt_of_lt_of_le CR_3.out.lt lg8)) (cE uy))
  have UX_4 := Lib.hid ((UX_3.out.old hbf).rowFar (Nat.ne_of_lt (Nat.lt_of_lt_of_le UX_3.out.lt lg8)) (cE uy))
  have UY_4 := Lib.hid (bg8.row (cE uy))
  have LG8 := Lib.hid (Nat.le_trans HB_3.out.size lg8)
  have HB_4 := Lib.hid (below_row (g := g8) (HB_3.out.trans (hbf.mono HB_3.out.size)) (Nat.le_trans HB_3.out.size lg8) (cE uy))
  clear XR_3 XX_3 YY_3 ZZ_3 CR_3 UX_3 HB_3 PV lg8 bg8 hbf DD4
  generalize V.setRow g8 (cE uy) = W4 at *
  have PV : Hid (∀ V, Below W4.heap.size W4 V → PrimeAt V) := Lib.hid fun V hV => HP.out.old (HB_4.out.trans (hV.mono HB_4.out.size))
  go_upto_region 5 with fail
  (try simp only [Act.put, List.setIfInBounds_toArray, List.set_cons_zero, List.set_cons_succ])
  have DD5 : Hid (∀ V, Below W4.heap.size W4 V → Below W4.heap.size W4 V) := Lib.hid fun _ h => h
  refine wp_sched [(37, .is (.agg (cE cr))), (38, .is (.agg (cE cr))), (39, .is (.agg (cE c2))), (40, .is (.agg (cE uy))), (41, .is (.agg (cE r1))), (42, .is (.agg (cE yy))), (43, .is (.agg (cE xx))), (44, .is (.agg (cE s1))), (45, .is (.agg (cE ux))), (46, .is (.agg (cE r2))), (47, .is (.agg (cE ux))), (48, .is (.agg (cE uy))), (49, .is (.agg (cE r3))), (50, .is (.agg R))] (fun V => Below W4.heap.size W4 V) (by kernel_rfl) (by kernel_rfl) (by kernel_rfl) (by kernel_rfl) DD5.out ?hg5 _ (by rfl) ?hf5
  case hg5 =>
    refine goods_is (by kernel_rfl) (fun a V h hS K Q hK => op_quiet (quiet_load_row 28 (.tmp 6) _ (look_at h 6 (by kernel_rfl) (by kernel_rfl)) 28 (cE cr) _ (CR_4.out.old hS) Tryd.underlying28 rfl (cE_ok _).1 (by kernel_rfl)) hK) ?_
    refine goods_is (by kernel_rfl) (fun a V h hS K Q hK => op_quiet (quiet_load_row 28 (.tmp 6) _ (look_at h 6 (by kernel_rfl) (by kernel_rfl)) 28 (cE cr) _ (CR_4.out.old hS) Tryd.underlying28 rfl (cE_ok _).1 (by kernel_rfl)) hK) ?_
    refine goods_is (by kernel_rfl) (fun a V h hS K Q hK => op_callK #[.tmp 37, .tmp 38] #[.agg (cE cr), .agg (cE cr)] (by kernel_rfl) (by kernel_rfl) (by kernel_rfl) (map2 (look_at h 37 (by kernel_rfl) (by kernel_rfl)) (look_at h 38 (by kernel_rfl) (by kernel_rfl))) (C8.out V (PV.out V hS)) (by kernel_rfl) hK) ?_
    refine goods_is (by kernel_rfl) (fun a V h hS K Q hK => op_quiet (quiet_load_row 28 (.tmp 8) _ (look_at h 8 (by kernel_rfl) (by kernel_rfl)) 28 (cE uy) _ (UY_4.out.old hS) Tryd.underlying28 rfl (cE_ok _).1 (by kernel_rfl)) hK) ?_
    refine goods_is (by kernel_rfl) (fun a V h hS K Q hK => op_callK #[.tmp 39, .tmp 40] #[.agg (cE c2), .agg (cE uy)] (by kernel_rfl) (by kernel_rfl) (by kernel_rfl) (map2 (look_at h 39 (by kernel_rfl) (by kernel_rfl)) (look_at h 40 (by kernel_rfl) (by kernel_rfl))) (C9.out V (PV.out V hS)) (by kernel_rfl) hK) ?_
    refine goods_is (by kernel_rfl) (fun a V h hS K Q hK => op_quiet (quiet_load_row 28 (.tmp 4) _ (look_at h 4 (by kernel_rfl) (by kernel_rfl)) 28 (cE yy) _ (YY_4.out.old hS) Tryd.underlying28 rfl (cE_ok _).1 (by kernel_rfl)) hK) ?_
    refine goods_is (by kernel_rfl) (fun a V h hS K Q hK => op_quiet (quiet_load_row 28 (.tmp 3) _ (look_at h 3 (by kernel_rfl) (by kernel_rfl)) 28 (cE xx) _ (XX_4.out.old hS) Tryd.underlying28 rfl (cE_ok _).1 (by kernel_rfl)) hK) ?_
    refine goods_is (by kernel_rfl) (fun a V h hS K Q hK => op_callK #[.tmp 42, .tmp 43] #[.agg (cE yy), .agg (cE xx)] (by kernel_rfl) (by kernel_rfl) (by kernel_rfl) (map2 (look_at h 42 (by kernel_rfl) (by kernel_rfl)) (look_at h 43 (by kernel_rfl) (by kernel_rfl))) (C10.out V (PV.out V hS)) (by kernel_rfl) hK) ?_
    refine goods_is (by kernel_rfl) (fun a V h hS K Q hK => op_quiet (quiet_load_row 28 (.tmp 7) _ (look_at h 7 (by kernel_rfl) (by kernel_rfl)) 28 (cE ux) _ (UX_4.out.old hS) Tryd.underlying28 rfl (cE_ok _).1 (by kernel_rfl)) hK) ?_
    refine goods_is (by kernel_rfl) (fun a V h hS K Q hK => op_callK #[.tmp 44, .tmp 45] #[.agg (cE s1), .agg (cE ux)] (by kernel_rfl) (by kernel_rfl) (by kernel_rfl) (map2 (look_at h 44 (by kernel_rfl) (by kernel_rfl)) (look_at h 45 (by kernel_rfl) (by kernel_rfl))) (C11.out V (PV.out V hS)) (by kernel_rfl) hK) ?_
    refine goods_is (by kernel_rfl) (fun a V h hS K Q hK => op_quiet (quiet_load_row 28 (.tmp 7) _ (look_at h 7 (by kernel_rfl) (by kernel_rfl)) 28 (cE ux) _ (UX_4.out.old hS) Tryd.underlying28 rfl (cE_ok _).1 (by kernel_rfl)) hK) ?_
    refine goods_is (by kernel_rfl) (fun a V h hS K Q hK => op_quiet (quiet_load_row 28 (.tmp 8) _ (look_at h 8 (by kernel_rfl) (by kernel_rfl)) 28 (cE uy) _ (UY_4.out.old hS) Tryd.underlying28 rfl (cE_ok _).1 (by kernel_rfl)) hK) ?_
    refine goods_is (by kernel_rfl) (fun a V h hS K Q hK => op_callK #[.tmp 47, .tmp 48] #[.agg (cE ux), .agg (cE uy)] (by kernel_rfl) (by kernel_rfl) (by kernel_rfl) (map2 (look_at h 47 (by kernel_rfl) (by kernel_rfl)) (look_at h 48 (by kernel_rfl) (by kernel_rfl))) (C12.out V (PV.out V hS)) (by kernel_rfl) hK) ?_
    refine goods_is (by kernel_rfl) (fun a V h hS K Q hK => op_quiet (quiet_build_to 30 #[(0, .tmp 41), (1, .tmp 46), (2, .tmp 49)] (by kernel_rfl) [(0, .agg (cE r1)), (1, .agg (cE r2)), (2, .agg (cE r3))] (bld3 (look_at h 41 (by kernel_rfl) (by kernel_rfl)) (look_at h 46 (by kernel_rfl) (by kernel_rfl)) (look_at h 49 (by kernel_rfl) (by kernel_rfl))) R hBu.out) hK) ?_
    exact goods_nil
  case hf5 =>
  intro g V hF
  have hbf := hF.below
  clear hF
  simp only [finL, Pl.val, List.setIfInBounds_toArray, List.set_cons_zero, List.set_cons_succ]
  refine wpList_store_row rfl 30 (.tmp 2) (.tmp 50) rfl (w.heap.size + 1) R rfl rfl 30 z (XR_4.out.old hbf) ok.out.1 ok.out.2.2 ok.out.2.1 ?_
  have XR_5 := Lib.hid ((XR_4.out.old hbf).row R)
  have HB_5 := Lib.hid (below_row (g := (w.heap.size + 1)) (HB_4.out.trans (hbf.mono HB_4.out.size)) (Nat.le_succ _) R)
  clear XR_4 XX_4 YY_4 CR_4 UX_4 UY_4 HB_4 PV hbf DD5
  generalize V.setRow (w.heap.size + 1) R = W5 at *
  have PV : Hid (∀ V, Below W5.heap.size W5 V → PrimeAt V) := Lib.hid fun V hV => HP.out.old (HB_5.out.trans (hV.mono HB_5.out.size))
  go_wp2_with fail
  refine bodyPost_ret (v := .agg R) ?_ rfl ⟨rfl, HB_5.out⟩
  exact results_cell_row Tryd.results70 _ _ (w.heap.size + 1) 30 _ (0, 0) _ rfl XR_5.out Tryd.underlying30 rfl ok.out.1
end Go.Proofs.YtjiadbaaggifpaaDoor
end

section
set_option linter.unusedVariables false
set_option linter.unusedSimpArgs false
namespace Go.Proofs.YtjiadbaaggifpaaDoor
open Go Go.Proofs Go.RowKit F5

set_option maxHeartbeats 4000000 in
set_option maxRecDepth 100000 in
theorem addP (X1 Y1 Z1 X2 Y2 Z2 xx yy zz c1 c2 cr mo on ab pa ux uy m1 r1 s1 m2 r2 r3 : Fp)
    (hxx : X1 * X2 = xx) (hyy : Y1 * Y2 = yy) (hzz : Z1 * Z2 = zz) (hc1 : X1 * Y2 = c1) (hc2 : Y1 * X2 = c2) (hcr : c1 + c2 = cr) (hmo : zz * bF = mo) (hon : mo * zz = on) (hab : xx * yy = ab) (hpa : ab * aF = pa)
    (hux : on - pa = ux) (huy : on + pa = uy) (hm1 : mo * cr = m1) (h1 : m1 * uy = r1) (hs1 : yy + xx = s1) (hm2 : mo * s1 = m2) (h2 : m2 * ux = r2) (h3 : ux * uy = r3) (w : World) (hP : PrimeAt w) :
    Calls Tryd.prog 15 #[.agg (uV X1 Y1 Z1), .agg (uV X2 Y2 Z2)] w fun e w' => e = .returned (.agg (uV r1 r2 r3)) ∧ Below w.heap.size w w' := by
  have MUL (p q r : Fp) (h : p * q = r) : Hid (∀ V, PrimeAt V → Calls Tryd.prog 38 #[.agg (cE p), .agg (cE q)] V fun e w' => e = .returned (.agg (cE r)) ∧ Below V.heap.size V w') := Lib.hid fun V hV => by rw [← h]; exact eMul _ _ V hV
  have SUB (p q r : Fp) (h : p - q = r) : Hid (∀ V, PrimeAt V → Calls Tryd.prog 43 #[.agg (cE p), .agg (cE q)] V fun e w' => e = .returned (.agg (cE r)) ∧ Below V.heap.size V w') := Lib.hid fun V hV => by rw [← h]; exact eSub _ _ V hV
  have ADD (p q r : Fp) (h : p + q = r) : Hid (∀ V, PrimeAt V → Calls Tryd.prog 42 #[.agg (cE p), .agg (cE q)] V fun e w' => e = .returned (.agg (cE r)) ∧ Below V.heap.size V w') := Lib.hid fun V hV => by rw [← h]; exact eAdd _ _ V hV
  have COF (n : Nat) (hn : n < P) (hm : n < M) (a : Fp) (h : a.val = n) (i : Int) (hi : i = n) : Hid (∀ V, PrimeAt V → Calls Tryd.prog 31 #[.int .u64 i] V fun e w' => e = .returned (.agg (cE a)) ∧ Below V.heap.size V w') := Lib.hid fun V _ => eOf n hn hm a h i hi V
  have C1 := MUL _ _ _ hxx
  have C2 := MUL _ _ _ hyy
  have C3 := MUL _ _ _ hzz
  have C4 := MUL _ _ _ hc1
  have C5 := MUL _ _ _ hc2
  have C6 := ADD _ _ _ hcr
  have C7 := MUL _ _ _ hmo
  have C8 := MUL _ _ _ hon
  have C9 := MUL _ _ _ hab
  have C10 := MUL _ _ _ hpa
  have C11 := SUB _ _ _ hux
  have C12 := ADD _ _ _ huy
  have C13 := MUL _ _ _ hm1
  have C14 := MUL _ _ _ h1
  have C15 := ADD _ _ _ hs1
  have C16 := MUL _ _ _ hm2
  have C17 := MUL _ _ _ h2
  have C18 := MUL _ _ _ h3
  have CB := COF 121666 (by decide) (by decide) bF rfl 121666 rfl
  have CA := COF 121665 (by decide) (by decide) aF rfl 121665 rfl
  generalize aF = af at *
  generalize bF = bf at *
  clear MUL SUB ADD COF hxx hyy hzz hc1 hc2 hcr hmo hon hab hpa hux huy hm1 h1 hs1 hm2 h2 h3
  obtain ⟨z, hz⟩ : ∃ z, Hid (z = uV 0 0 0) := ⟨_, Lib.hid rfl⟩
  have hz0 : ∀ W, (zeroValue 30).run Tryd.prog W = .ok (.agg z) W := by rw [hz.out]; exact zeroU
  obtain ⟨zf, hzf⟩ : ∃ z, Hid (z = cE 0) := ⟨_, Lib.hid rfl⟩
  have hzf0 : ∀ W, (zeroValue 28).run Tryd.prog W = .ok (.agg zf) W := by rw [hzf.out]; exact zeroE
  have ofE : Hid (∀ a : Fp, zf.size = (cE a).size) := Lib.hid (fun a => by rw [hzf.out]; exact cE_sz _ _)
  have hBu := Lib.hid (built_U r1 r2 r3)
  have ok := Lib.hid (uV_okz r1 r2 r3)
  rw [← hz.out] at ok
  generalize uV r1 r2 r3 = R at *
  have KX := Lib.hid (fun (V : World) g T (h : Blk V g T (uV X1 Y1 Z1)) => uV_cell_x h)
  have KY := Lib.hid (fun (V : World) g T (h : Blk V g T (uV X1 Y1 Z1)) => uV_cell_y h)
  have KZ := Lib.hid (fun (V : World) g T (h : Blk V g T (uV X1 Y1 Z1)) => uV_cell_z h)
  generalize uV X1 Y1 Z1 = A at *
  have LX := Lib.hid (fun (V : World) g T (h : Blk V g T (uV X2 Y2 Z2)) => uV_cell_x h)
  have LY := Lib.hid (fun (V : World) g T (h : Blk V g T (uV X2 Y2 Z2)) => uV_cell_y h)
  have LZ := Lib.hid (fun (V : World) g T (h : Blk V g T (uV X2 Y2 Z2)) => uV_cell_z h)
  generalize uV X2 Y2 Z2 = B at *
  obtain ⟨b1, b2, b3, hb⟩ := three_blksT w A B z 30 30 30
  have HP := Lib.hid hP
  clear hz hzf hP
  go_enter Tryd.func15, Tryd.ntmps15
  go_upto_region 1 with fail
  generalize ((w.alloc (.cells A 30)).alloc (.cells B 30)).alloc (.cells z 30) = W at *
  have P1 := Lib.hid b1
  have P2 := Lib.hid b2
  have XR := Lib.hid b3
  have HB := Lib.hid hb
  clear b1 b2 b3 hb
  (try simp only [Act.put, List.setIfInBounds_toArray, List.set_cons_zero, List.set_cons_succ])
  have PV : Hid (∀ V, Below W.heap.size W V → PrimeAt V) := Lib.hid fun V hV => HP.out.old (HB.out.trans (hV.mono HB.out.size))
  have DD1 : Hid (∀ V, Below W.heap.size W V → Below W.heap.size W V) := Lib.hid fun _ h => h
  refine wp_sched [(14, .is (.pointer (some ⟨w.heap.size, 0, none⟩))), (15, .is (.agg (cE X1))), (16, .is (.pointer (some ⟨(w.heap.size + 1), 0, none⟩))), (17, .is (.agg (cE X2))), (18, .is (.agg (cE xx))), (19, .is (.pointer (some ⟨w.heap.size, 0 + 4, none⟩))), (20, .is (.agg (cE Y1))), (21, .is (.pointer (some ⟨(w.heap.size + 1), 0 + 4, none⟩))), (22, .is (.agg (cE Y2))), (23, .is (.agg (cE yy))), (24, .is (.pointer (some ⟨w.heap.size, 0 + 8, none⟩))), (25, .is (.agg (cE Z1))), (26, .is (.pointer (some ⟨(w.heap.size + 1), 0 + 8, none⟩))), (27, .is (.agg (cE Z2))), (28, .is (.agg (cE zz))), (5, .fresh 28 zf), (6, .fresh 28 zf), (7, .fresh 28 zf)] (fun V => Below W.heap.size W V) (by kernel_rfl) (by kernel_rfl) (by kernel_rfl) (by kernel_rfl) DD1.out ?hg1 _ (by rfl) ?hf1
  case hg1 =>
    refine goods_is (by kernel_rfl) (fun a V h hS K Q hK => op_quiet (quiet_field _ (.tmp 2) 0 _ _ (look_at h 2 (by kernel_rfl) (by kernel_rfl)) (fa0 _ _) rfl) hK) ?_
    refine goods_is (by kernel_rfl) (fun a V h hS K Q hK => op_quiet (quiet_load_off 28 (.tmp 14) _ _ (look_at h 14 (by kernel_rfl) (by kernel_rfl)) (cE X1) _ (KX.out _ _ _ (P1.out.old hS)) Tryd.underlying28 rfl (cE_ok _).1 (by kernel_rfl)) hK) ?_
    refine goods_is (by kernel_rfl) (fun a V h hS K Q hK => op_quiet (quiet_field _ (.tmp 3) 0 _ _ (look_at h 3 (by kernel_rfl) (by kernel_rfl)) (fa0 _ _) rfl) hK) ?_
    refine goods_is (by kernel_rfl) (fun a V h hS K Q hK => op_quiet (quiet_load_off 28 (.tmp 16) _ _ (look_at h 16 (by kernel_rfl) (by kernel_rfl)) (cE X2) _ (LX.out _ _ _ (P2.out.old hS)) Tryd.underlying28 rfl (cE_ok _).1 (by kernel_rfl)) hK) ?_
    refine goods_is (by kernel_rfl) (fun a V h hS K Q hK => op_callK #[.tmp 15, .tmp 17] #[.agg (cE X1), .agg (cE X2)] (by kernel_rfl) (by kernel_rfl) (by kernel_rfl) (map2 (look_at h 15 (by kernel_rfl) (by kernel_rfl)) (look_at h 17 (by kernel_rfl) (by kernel_rfl))) (C1.out V (PV.out V hS)) (by kernel_rfl) hK) ?_
    refine goods_is (by kernel_rfl) (fun a V h hS K Q hK => op_quiet (quiet_field _ (.tmp 2) 1 _ _ (look_at h 2 (by kernel_rfl) (by kernel_rfl)) (fa1 _ _) rfl) hK) ?_
    refine goods_is (by kernel_rfl) (fun a V h hS K Q hK => op_quiet (quiet_load_off 28 (.tmp 19) _ _ (look_at h 19 (by kernel_rfl) (by kernel_rfl)) (cE Y1) _ (KY.out _ _ _ (P1.out.old hS)) Tryd.underlying28 rfl (cE_ok _).1 (by kernel_rfl)) hK) ?_
    refine goods_is (by kernel_rfl) (fun a V h hS K Q hK => op_quiet (quiet_field _ (.tmp 3) 1 _ _ (look_at h 3 (by kernel_rfl) (by kernel_rfl)) (fa1 _ _) rfl) hK) ?_
    refine goods_is (by kernel_rfl) (fun a V h hS K Q hK => op_quiet (quiet_load_off 28 (.tmp 21) _ _ (look_at h 21 (by kernel_rfl) (by kernel_rfl)) (cE Y2) _ (LY.out _ _ _ (P2.out.old hS)) Tryd.underlying28 rfl (cE_ok _).1 (by kernel_rfl)) hK) ?_
    refine goods_is (by kernel_rfl) (fun a V h hS K Q hK => op_callK #[.tmp 20, .tmp 22] #[.agg (cE Y1), .agg (cE Y2)] (by kernel_rfl) (by kernel_rfl) (by kernel_rfl) (map2 (look_at h 20 (by kernel_rfl) (by kernel_rfl)) (look_at h 22 (by kernel_rfl) (by kernel_rfl))) (C2.out V (PV.out V hS)) (by kernel_rfl) hK) ?_
    refine goods_is (by kernel_rfl) (fun a V h hS K Q hK => op_quiet (quiet_field _ (.tmp 2) 2 _ _ (look_at h 2 (by kernel_rfl) (by kernel_rfl)) (fa2 _ _) rfl) hK) ?_
    refine goods_is (by kernel_rfl) (fun a V h hS K Q hK => op_quiet (quiet_load_off 28 (.tmp 24) _ _ (look_at h 24 (by kernel_rfl) (by kernel_rfl)) (cE Z1) _ (KZ.out _ _ _ (P1.out.old hS)) Tryd.underlying28 rfl (cE_ok _).1 (by kernel_rfl)) hK) ?_
    refine goods_is (by kernel_rfl) (fun a V h hS K Q hK => op_quiet (quiet_field _ (.tmp 3) 2 _ _ (look_at h 3 (by kernel_rfl) (by kernel_rfl)) (fa2 _ _) rfl) hK) ?_
    refine goods_is (by kernel_rfl) (fun a V h hS K Q hK => op_quiet (quiet_load_off 28 (.tmp 26) _ _ (look_at h 26 (by kernel_rfl) (by kernel_rfl)) (cE Z2) _ (LZ.out _ _ _ (P2.out.old hS)) Tryd.underlying28 rfl (cE_ok _).1 (by kernel_rfl)) hK) ?_
    refine goods_is (by kernel_rfl) (fun a V h hS K Q hK => op_callK #[.tmp 25, .tmp 27] #[.agg (cE Z1), .agg (cE Z2)] (by kernel_rfl) (by kernel_rfl) (by kernel_rfl) (map2 (look_at h 25 (by kernel_rfl) (by kernel_rfl)) (look_at h 27 (by kernel_rfl) (by kernel_rfl))) (C3.out V (PV.out V hS)) (by kernel_rfl) hK) ?_
    refine goods_fresh (by kernel_rfl) hzf0 ?_
    refine goods_fresh (by kernel_rfl) hzf0 ?_
    refine goods_fresh (by kernel_rfl) hzf0 ?_
    exact goods_nil
  case hf1 =>
  intro g V hF
  obtain ⟨lg5, bg5⟩ := hF.blk 15 _ _ rfl
  obtain ⟨lg6, bg6⟩ := hF.blk 16 _ _ rfl
  obtain ⟨lg7, bg7⟩ := hF.blk 17 _ _ rfl
  have ng5_6 := hF.ne 15 16 _ _ _ _ rfl rfl (by decide)
  have ng5_7 := hF.ne 15 17 _ _ _ _ rfl rfl (by decide)
  have ng6_5 := hF.ne 16 15 _ _ _ _ rfl rfl (by decide)
  have ng6_7 := hF.ne 16 17 _ _ _ _ rfl rfl (by decide)
  have ng7_5 := hF.ne 17 15 _ _ _ _ rfl rfl (by decide)
  have ng7_6 := hF.ne 17 16 _ _ _ _ rfl rfl (by decide)
  have hbf := hF.below
  clear hF
  simp only [finL, Pl.val, List.setIfInBounds_toArray, List.set_cons_zero, List.set_cons_succ]
  generalize g 15 = g5 at *
  generalize g 16 = g6 at *
  generalize g 17 = g7 at *
  refine wpList_store_row rfl 28 (.tmp 5) (.tmp 18) rfl g5 (cE xx) rfl rfl 28 zf bg5 (cE_ok _).1 (ofE.out _) (cE_ok _).2 ?_
  refine wpList_store_row rfl 28 (.tmp 6) (.tmp 23) rfl g6 (cE yy) rfl rfl 28 zf (bg6.rowFar ng6_5 (cE xx)) (cE_ok _).1 (ofE.out _) (cE_ok _).2 ?_
  refine wpList_store_row rfl 28 (.tmp 7) (.tmp 28) rfl g7 (cE zz) rfl rfl 28 zf ((bg7.rowFar ng7_5 (cE xx)).rowFar ng7_6 (cE yy)) (cE_ok _).1 (ofE.out _) (cE_ok _).2 ?_
  have P1_1 := Lib.hid ((((P1.out.old hbf).rowFar (Nat.ne_of_lt (Nat.lt_of_lt_of_le P1.out.lt lg5)) (cE xx)).rowFar (Nat.ne_of_lt (Nat.lt_of_lt_of_le P1.out.lt lg6)) (cE yy)).rowFar (Nat.ne_of_lt (Nat.lt_of_lt_of_le P1.out.lt lg7)) (cE zz))
  have P2_1 := Lib.hid ((((P2.out.old hbf).rowFar (Nat.ne_of_lt (Nat.lt_of_lt_of_le P2.out.lt lg5)) (cE xx)).rowFar (Nat.ne_of_lt (Nat.lt_of_lt_of_le P2.out.lt lg6)) (cE yy)).rowFar (Nat.ne_of_lt (Nat.lt_of_lt_of_le P2.out.lt lg7)) (cE zz))
  have XR_1 := Lib.hid ((((XR.out.old hbf).rowFar (Nat.ne_of_lt (Nat.lt_of_lt_of_le XR.out.lt lg5)) (cE xx)).rowFar (Nat.ne_of_lt (Nat.lt_of_lt_of_le XR.out.lt lg6)) (cE yy)).rowFar (Nat.ne_of_lt (Nat.lt_of_lt_of_le XR.out.lt lg7)) (cE zz))
  have XX_1 := Lib.hid (((bg5.row (cE xx)).rowFar ng5_6 (cE yy)).rowFar ng5_7 (cE zz))
  have LG5 := Lib.hid (Nat.le_trans HB.out.size lg5)
  have YY_1 := Lib.hid (((bg6.rowFar ng6_5 (cE xx)).row (cE yy)).rowFar ng6_7 (cE zz))
  have LG6 := Lib.hid (Nat.le_trans HB.out.size lg6)
  have ZZ_1 := Lib.hid (((bg7.rowFar ng7_5 (cE xx)).rowFar ng7_6 (cE yy)).row (cE zz))
  have LG7 := Lib.hid (Nat.le_trans HB.out.size lg7)
  have HB_1 := Lib.hid (below_row (g := g7) (below_row (g := g6) (below_row (g := g5) (HB.out.trans (hbf.mono HB.out.size)) (Nat.le_trans HB.out.size lg5) (cE xx)) (Nat.le_trans HB.out.size lg6) (cE yy)) (Nat.le_trans HB.out.size lg7) (cE zz))
  clear P1 P2 XR HB PV lg5 lg6 lg7 bg5 bg6 bg7 ng5_6 ng5_7 ng6_5 ng6_7 ng7_5 ng7_6 hbf DD1
  generalize ((V.setRow g5 (cE xx)).setRow g6 (cE yy)).setRow g7 (cE zz) = W1 at *
  have PV : Hid (∀ V, Below W1.heap.size W1 V → PrimeAt V) := Lib.hid fun V hV => HP.out.old (HB_1.out.trans (hV.mono HB_1.out.size))
  go_upto_region 2 with fail
  (try simp only [Act.put, List.setIfInBounds_toArray, List.set_cons_zero, List.set_cons_succ])
  have DD2 : Hid (∀ V, Below W1.heap.size W1 V → Below W1.heap.size W1 V) := Lib.hid fun _ h => h
  refine wp_sched [(29, .is (.pointer (some ⟨w.heap.size, 0, none⟩))), (30, .is (.agg (cE X1))), (31, .is (.pointer (some ⟨(w.heap.size + 1), 0 + 4, none⟩))), (32, .is (.agg (cE Y2))), (33, .is (.agg (cE c1))), (34, .is (.pointer (some ⟨w.heap.size, 0 + 4, none⟩))), (35, .is (.agg (cE Y1))), (36, .is (.pointer (some ⟨(w.heap.size + 1), 0, none⟩))), (37, .is (.agg (cE X2))), (38, .is (.agg (cE c2))), (39, .is (.agg (cE cr))), (8, .fresh 28 zf)] (fun V => Below W1.heap.size W1 V) (by kernel_rfl) (by kernel_rfl) (by kernel_rfl) (by kernel_rfl) DD2.out ?hg2 _ (by rfl) ?hf2
  case hg2 =>
    refine goods_is (by kernel_rfl) (fun a V h hS K Q hK => op_quiet (quiet_field _ (.tmp 2) 0 _ _ (look_at h 2 (by kernel_rfl) (by kernel_rfl)) (fa0 _ _) rfl) hK) ?_
    refine goods_is (by kernel_rfl) (fun a V h hS K Q hK => op_quiet (quiet_load_off 28 (.tmp 29) _ _ (look_at h 29 (by kernel_rfl) (by kernel_rfl)) (cE X1) _ (KX.out _ _ _ (P1_1.out.old hS)) Tryd.underlying28 rfl (cE_ok _).1 (by kernel_rfl)) hK) ?_
    refine goods_is (by kernel_rfl) (fun a V h hS K Q hK => op_quiet (quiet_field _ (.tmp 3) 1 _ _ (look_at h 3 (by kernel_rfl) (by kernel_rfl)) (fa1 _ _) rfl) hK) ?_
    refine goods_is (by kernel_rfl) (fun a V h hS K Q hK => op_quiet (quiet_load_off 28 (.tmp 31) _ _ (look_at h 31 (by kernel_rfl) (by kernel_rfl)) (cE Y2) _ (LY.out _ _ _ (P2_1.out.old hS)) Tryd.underlying28 rfl (cE_ok _).1 (by kernel_rfl)) hK) ?_
    refine goods_is (by kernel_rfl) (fun a V h hS K Q hK => op_callK #[.tmp 30, .tmp 32] #[.agg (cE X1), .agg (cE Y2)] (by kernel_rfl) (by kernel_rfl) (by kernel_rfl) (map2 (look_at h 30 (by kernel_rfl) (by kernel_rfl)) (look_at h 32 (by kernel_rfl) (by kernel_rfl))) (C4.out V (PV.out V hS)) (by kernel_rfl) hK) ?_
    refine goods_is (by kernel_rfl) (fun a V h hS K Q hK => op_quiet (quiet_field _ (.tmp 2) 1 _ _ (look_at h 2 (by kernel_rfl) (by kernel_rfl)) (fa1 _ _) rfl) hK) ?_
    refine goods_is (by kernel_rfl) (fun a V h hS K Q hK => op_quiet (quiet_load_off 28 (.tmp 34) _ _ (look_at h 34 (by kernel_rfl) (by kernel_rfl)) (cE Y1) _ (KY.out _ _ _ (P1_1.out.old hS)) Tryd.underlying28 rfl (cE_ok _).1 (by kernel_rfl)) hK) ?_
    refine goods_is (by kernel_rfl) (fun a V h hS K Q hK => op_quiet (quiet_field _ (.tmp 3) 0 _ _ (look_at h 3 (by kernel_rfl) (by kernel_rfl)) (fa0 _ _) rfl) hK) ?_
    refine goods_is (by kernel_rfl) (fun a V h hS K Q hK => op_quiet (quiet_load_off 28 (.tmp 36) _ _ (look_at h 36 (by kernel_rfl) (by kernel_rfl)) (cE X2) _ (LX.out _ _ _ (P2_1.out.old hS)) Tryd.underlying28 rfl (cE_ok _).1 (by kernel_rfl)) hK) ?_
    refine goods_is (by kernel_rfl) (fun a V h hS K Q hK => op_callK #[.tmp 35, .tmp 37] #[.agg (cE Y1), .agg (cE X2)] (by kernel_rfl) (by kernel_rfl) (by kernel_rfl) (map2 (look_at h 35 (by kernel_rfl) (by kernel_rfl)) (look_at h 37 (by kernel_rfl) (by kernel_rfl))) (C5.out V (PV.out V hS)) (by kernel_rfl) hK) ?_
    refine goods_is (by kernel_rfl) (fun a V h hS K Q hK => op_callK #[.tmp 33, .tmp 38] #[.agg (cE c1), .agg (cE c2)] (by kernel_rfl) (by kernel_rfl) (by kernel_rfl) (map2 (look_at h 33 (by kernel_rfl) (by kernel_rfl)) (look_at h 38 (by kernel_rfl) (by kernel_rfl))) (C6.out V (PV.out V hS)) (by kernel_rfl) hK) ?_
    refine goods_fresh (by kernel_rfl) hzf0 ?_
    exact goods_nil
  case hf2 =>
  intro g V hF
  obtain ⟨lg8, bg8⟩ := hF.blk 11 _ _ rfl
  have hbf := hF.below
  clear hF
  simp only [finL, Pl.val, List.setIfInBounds_toArray, List.set_cons_zero, List.set_cons_succ]
  generalize g 11 = g8 at *
  refine wpList_store_row rfl 28 (.tmp 8) (.tmp 39) rfl g8 (cE cr) rfl rfl 28 zf bg8 (cE_ok _).1 (ofE.out _) (cE_ok _).2 ?_
  have XR_2 := Lib.hid ((XR_1.out.old hbf).rowFar (Nat.ne_of_lt (Nat.lt_of_lt_of_le XR_1.out.lt lg8)) (cE cr))
  have XX_2 := Lib.hid ((XX_1.out.old hbf).rowFar (Nat.ne_of_lt (Nat.lt_of_lt_of_le XX_1.out.lt lg8)) (cE cr))
  have YY_2 := Lib.hid ((YY_1.out.old hbf).rowFar (Nat.ne_of_lt (Nat.lt_of_lt_of_le YY_1.out.lt lg8)) (cE cr))
  have ZZ_2 := Lib.hid ((ZZ_1.out.old hbf).rowFar (Nat.ne_of_lt (Nat.lt_of_lt_of_le ZZ_1.out.lt lg8)) (cE cr))
  have CR_2 := Lib.hid (bg8.row (cE cr))
  have LG8 := Lib.hid (Nat.le_trans HB_1.out.size lg8)
  have HB_2 := Lib.hid (below_row (g := g8) (HB_1.out.trans (hbf.mono HB_1.out.size)) (Nat.le_trans HB_1.out.size lg8) (cE cr))
  clear P1_1 P2_1 XR_1 XX_1 YY_1 ZZ_1 HB_1 PV lg8 bg8 hbf DD2
  generalize V.setRow g8 (cE cr) = W2 at *
  have PV : Hid (∀ V, Below W2.heap.size W2 V → PrimeAt V) := Lib.hid fun V hV => HP.out.old (HB_2.out.trans (hV.mono HB_2.out.size))
  go_upto_region 3 with fail
  (try simp only [Act.put, List.setIfInBounds_toArray, List.set_cons_zero, List.set_cons_succ])
  have DD3 : Hid (∀ V, Below W2.heap.size W2 V → Below W2.heap.size W2 V) := Lib.hid fun _ h => h
  refine wp_sched [(40, .is (.agg (cE zz))), (41, .is (.agg (cE bf))), (42, .is (.agg (cE mo))), (9, .fresh 28 zf)] (fun V => Below W2.heap.size W2 V) (by kernel_rfl) (by kernel_rfl) (by kernel_rfl) (by kernel_rfl) DD3.out ?hg3 _ (by rfl) ?hf3
  case hg3 =>
    refine goods_is (by kernel_rfl) (fun a V h hS K Q hK => op_quiet (quiet_load_row 28 (.tmp 7) _ (look_at h 7 (by kernel_rfl) (by kernel_rfl)) 28 (cE zz) _ (ZZ_2.out.old hS) Tryd.underlying28 rfl (cE_ok _).1 (by kernel_rfl)) hK) ?_
    refine goods_is (by kernel_rfl) (fun a V h hS K Q hK => op_callK #[.const (.int .u64 121666)] #[.int .u64 121666] (by kernel_rfl) (by kernel_rfl) (by kernel_rfl) (map1 rfl) (CB.out V (PV.out V hS)) (by kernel_rfl) hK) ?_
    refine goods_is (by kernel_rfl) (fun a V h hS K Q hK => op_callK #[.tmp 40, .tmp 41] #[.agg (cE zz), .agg (cE bf)] (by kernel_rfl) (by kernel_rfl) (by kernel_rfl) (map2 (look_at h 40 (by kernel_rfl) (by kernel_rfl)) (look_at h 41 (by kernel_rfl) (by kernel_rfl))) (C7.out V (PV.out V hS)) (by kernel_rfl) hK) ?_
    refine goods_fresh (by kernel_rfl) hzf0 ?_
    exact goods_nil
  case hf3 =>
  intro g V hF
  obtain ⟨lg9, bg9⟩ := hF.blk 3 _ _ rfl
  have hbf := hF.below
  clear hF
  simp only [finL, Pl.val, List.setIfInBounds_toArray, List.set_cons_zero, List.set_cons_succ]
  generalize g 3 = g9 at *
  refine wpList_store_row rfl 28 (.tmp 9) (.tmp 42) rfl g9 (cE mo) rfl rfl 28 zf bg9 (cE_ok _).1 (ofE.out _) (cE_ok _).2 ?_
  have XR_3 := Lib.hid ((XR_2.out.old hbf).rowFar (Nat.ne_of_lt (Nat.lt_of_lt_of_le XR_2.out.lt lg9)) (cE mo))
  have XX_3 := Lib.hid ((XX_2.out.old hbf).rowFar (Nat.ne_of_lt (Nat.lt_of_lt_of_le XX_2.out.lt lg9)) (cE mo))
  have YY_3 := Lib.hid ((YY_2.out.old hbf).rowFar (Nat.ne_of_lt (Nat.lt_of_lt_of_le YY_2.out.lt lg9)) (cE mo))
  have ZZ_3 := Lib.hid ((ZZ_2.out.old hbf).rowFar (Nat.ne_of_lt (Nat.lt_of_lt_of_le ZZ_2.out.lt lg9)) (cE mo))
  have CR_3 := Lib.hid ((CR_2.out.old hbf).rowFar (Nat.ne_of_lt (Nat.lt_of_lt_of_le CR_2.out.lt lg9)) (cE mo))
  have MO_3 := Lib.hid (bg9.row (cE mo))
  have LG9 := Lib.hid (Nat.le_trans HB_2.out.size lg9)
  have HB_3 := Lib.hid (below_row (g := g9) (HB_2.out.trans (hbf.mono HB_2.out.size)) (Nat.le_trans HB_2.out.size lg9) (cE mo))
  clear XR_2 XX_2 YY_2 ZZ_2 CR_2 HB_2 PV lg9 bg9 hbf DD3
  generalize V.setRow g9 (cE mo) = W3 at *
  have PV : Hid (∀ V, Below W3.heap.size W3 V → PrimeAt V) := Lib.hid fun V hV => HP.out.old (HB_3.out.trans (hV.mono HB_3.out.size))
  go_upto_region 4 with fail
  (try simp only [Act.put, List.setIfInBounds_toArray, List.set_cons_zero, List.set_cons_succ])
  have DD4 : Hid (∀ V, Below W3.heap.size W3 V → Below W3.heap.size W3 V) := Lib.hid fun _ h => h
  refine wp_sched [(43, .is (.agg (cE mo))), (44, .is (.agg (cE zz))), (45, .is (.agg (cE on))), (46, .is (.agg (cE xx))), (47, .is (.agg (cE yy))), (48, .is (.agg (cE ab))), (49, .is (.agg (cE af))), (50, .is (.agg (cE pa))), (10, .fresh 28 zf), (11, .fresh 28 zf)] (fun V => Below W3.heap.size W3 V) (by kernel_rfl) (by kernel_rfl) (by kernel_rfl) (by kernel_rfl) DD4.out ?hg4 _ (by rfl) ?hf4
  case hg4 =>
    refine goods_is (by kernel_rfl) (fun a V h hS K Q hK => op_quiet (quiet_load_row 28 (.tmp 9) _ (look_at h 9 (by kernel_rfl) (by kernel_rfl)) 28 (cE mo) _ (MO_3.out.old hS) Tryd.underlying28 rfl (cE_ok _).1 (by kernel_rfl)) hK) ?_
    refine goods_is (by kernel_rfl) (fun a V h hS K Q hK => op_quiet (quiet_load_row 28 (.tmp 7) _ (look_at h 7 (by kernel_rfl) (by kernel_rfl)) 28 (cE zz) _ (ZZ_3.out.old hS) Tryd.underlying28 rfl (cE_ok _).1 (by kernel_rfl)) hK) ?_
    refine goods_is (by kernel_rfl) (fun a V h hS K Q hK => op_callK #[.tmp 43, .tmp 44] #[.agg (cE mo), .agg (cE zz)] (by kernel_rfl) (by kernel_rfl) (by kernel_rfl) (map2 (look_at h 43 (by kernel_rfl) (by kernel_rfl)) (look_at h 44 (by kernel_rfl) (by kernel_rfl))) (C8.out V (PV.out V hS)) (by kernel_rfl) hK) ?_
    refine goods_is (by kernel_rfl) (fun a V h hS K Q hK => op_quiet (quiet_load_row 28 (.tmp 5) _ (look_at h 5 (by kernel_rfl) (by kernel_rfl)) 28 (cE xx) _ (XX_3.out.old hS) Tryd.underlying28 rfl (cE_ok _).1 (by kernel_rfl)) hK) ?_
    refine goods_is (by kernel_rfl) (fun a V h hS K Q hK => op_quiet (quiet_load_row 28 (.tmp 6) _ (look_at h 6 (by kernel_rfl) (by kernel_rfl)) 28 (cE yy) _ (YY_3.out.old hS) Tryd.underlying28 rfl (cE_ok _).1 (by kernel_rfl)) hK) ?_
    refine goods_is (by kernel_rfl) (fun a V h hS K Q hK => op_callK #[.tmp 46, .tmp 47] #[.agg (cE xx), .agg (cE yy)] (by kernel_rfl) (by kernel_rfl) (by kernel_rfl) (map2 (look_at h 46 (by kernel_rfl) (by kernel_rfl)) (look_at h 47 (by kernel_rfl) (by kernel_rfl))) (C9.out V (PV.out V hS)) (by kernel_rfl) hK) ?_
    refine goods_is (by kernel_rfl) (fun a V h hS K Q hK => op_callK #[.const (.int .u64 121665)] #[.int .u64 121665] (by kernel_rfl) (by kernel_rfl) (by kernel_rfl) (map1 rfl) (CA.out V (PV.out V hS)) (by kernel_rfl) hK) ?_
    refine goods_is (by kernel_rfl) (fun a V h hS K Q hK => op_callK #[.tmp 48, .tmp 49] #[.agg (cE ab), .agg (cE af)] (by kernel_rfl) (by kernel_rfl) (by kernel_rfl) (map2 (look_at h 48 (by kernel_rfl) (by kernel_rfl)) (look_at h 49 (by kernel_rfl) (by kernel_rfl))) (C10.out V (PV.out V hS)) (by kernel_rfl) hK) ?_
    refine goods_fresh (by kernel_rfl) hzf0 ?_
    refine goods_fresh (by kernel_rfl) hzf0 ?_
    exact goods_nil
  case hf4 =>
  intro g V hF
  obtain ⟨lg10, bg10⟩ := hF.blk 8 _ _ rfl
  obtain ⟨lg11, bg11⟩ := hF.blk 9 _ _ rfl
  have ng10_11 := hF.ne 8 9 _ _ _ _ rfl rfl (by decide)
  have ng11_10 := hF.ne 9 8 _ _ _ _ rfl rfl (by decide)
  have hbf := hF.below
  clear hF
  simp only [finL, Pl.val, List.setIfInBounds_toArray, List.set_cons_zero, List.set_cons_succ]
  generalize g 8 = g10 at *
  generalize g 9 = g11 at *
  refine wpList_store_row rfl 28 (.tmp 10) (.tmp 45) rfl g10 (cE on) rfl rfl 28 zf bg10 (cE_ok _).1 (ofE.out _) (cE_ok _).2 ?_
  refine wpList_store_row rfl 28 (.tmp 11) (.tmp 50) rfl g11 (cE pa) rfl rfl 28 zf (bg11.rowFar ng11_10 (cE on)) (cE_ok _).1 (ofE.out _) (cE_ok _).2 ?_
  have XR_4 := Lib.hid (((XR_3.out.old hbf).rowFar (Nat.ne_of_lt (Nat.lt_of_lt_of_le XR_3.out.lt lg10)) (cE on)).rowFar (Nat.ne_of_lt (Nat.lt_of_lt_of_le XR_3.out.lt lg11)) (cE pa))
  have XX_4 := Lib.hid (((XX_3.out.old hbf).rowFar (Nat.ne_of_lt (Nat.lt_of_lt_of_le XX_3.out.lt lg10)) (cE on)).rowFar (Nat.ne_of_lt (Nat.lt_of_lt_of_le XX_3.out.lt lg11)) (cE pa))
  have YY_4 := Lib.hid (((YY_3.out.old hbf).rowFar (Nat.ne_of_lt (Nat.lt_of_lt_of_le YY_3.out.lt lg10)) (cE on)).rowFar (Nat.ne_of_lt (Nat.lt_of_lt_of_le YY_3.out.lt lg11)) (cE pa))
  have CR_4 := Lib.hid (((CR_3.out.old hbf).rowFar (Nat.ne_of_lt (Nat.lt_of_lt_of_le CR_3.out.lt lg10)) (cE on)).rowFar (Nat.ne_of_lt (Nat.lt_of_lt_of_le CR_3.out.lt lg11)) (cE pa))
  have MO_4 := Lib.hid (((MO_3.out.old hbf).rowFar (Nat.ne_of_lt (Nat.lt_of_lt_of_le MO_3.out.lt lg10)) (cE on)).rowFar (Nat.ne_of_lt (Nat.lt_of_lt_of_le MO_3.out.lt lg11)) (cE pa))
  have ON_4 := Lib.hid ((bg10.row (cE on)).rowFar ng10_11 (cE pa))
  have LG10 := Lib.hid (Nat.le_trans HB_3.out.size lg10)
  have PA_4 := Lib.hid ((bg11.rowFar ng11_10 (cE on)).row (cE pa))
  have LG11 := Lib.hid (Nat.le_trans HB_3.out.size lg11)
  have HB_4 := Lib.hid (below_row (g := g11) (below_row (g := g10) (HB_3.out.trans (hbf.mono HB_3.out.size)) (Nat.le_trans HB_3.out.size lg10) (cE on)) (Nat.le_trans HB_3.out.size lg11) (cE pa))
  clear XR_3 XX_3 YY_3 ZZ_3 CR_3 MO_3 HB_3 PV lg10 lg11 bg10 bg11 ng10_11 ng11_10 hbf DD4
  generalize (V.setRow g10 (cE on)).setRow g11 (cE pa) = W4 at *
  have PV : Hid (∀ V, Below W4.heap.size W4 V → PrimeAt V) := Lib.hid fun V hV => HP.out.old (HB_4.out.trans (hV.mono HB_4.out.size))
  go_upto_region 5 with fail
  (try simp only [Act.put, List.setIfInBounds_toArray, List.set_cons_zero, List.set_cons_succ])
  have DD5 : Hid (∀ V, Below W4.heap.size W4 V → Below W4.heap.size W4 V) := Lib.hid fun _ h => h
  refine wp_sched [(51, .is (.agg (cE on))), (52, .is (.agg (cE pa))), (53, .is (.agg (cE ux))), (54, .is (.agg (cE on))), (55, .is (.agg (cE pa))), (56, .is (.agg (cE uy))), (12, .fresh 28 zf), (13, .fresh 28 zf)] (fun V => Below W4.heap.size W4 V) (by kernel_rfl) (by kernel_rfl) (by kernel_rfl) (by kernel_rfl) DD5.out ?hg5 _ (by rfl) ?hf5
  case hg5 =>
    refine goods_is (by kernel_rfl) (fun a V h hS K Q hK => op_quiet (quiet_load_row 28 (.tmp 10) _ (look_at h 10 (by kernel_rfl) (by kernel_rfl)) 28 (cE on) _ (ON_4.out.old hS) Tryd.underlying28 rfl (cE_ok _).1 (by kernel_rfl)) hK) ?_
    refine goods_is (by kernel_rfl) (fun a V h hS K Q hK => op_quiet (quiet_load_row 28 (.tmp 11) _ (look_at h 11 (by kernel_rfl) (by kernel_rfl)) 28 (cE pa) _ (PA_4.out.old hS) Tryd.underlying28 rfl (cE_ok _).1 (by kernel_rfl)) hK) ?_
    refine goods_is (by kernel_rfl) (fun a V h hS K Q hK => op_callK #[.tmp 51, .tmp 52] #[.agg (cE on), .agg (cE pa)] (by kernel_rfl) (by kernel_rfl) (by kernel_rfl) (map2 (look_at h 51 (by kernel_rfl) (by kernel_rfl)) (look_at h 52 (by kernel_rfl) (by kernel_rfl))) (C11.out V (PV.out V hS)) (by kernel_rfl) hK) ?_
    refine goods_is (by kernel_rfl) (fun a V h hS K Q hK => op_quiet (quiet_load_row 28 (.tmp 10) _ (look_at h 10 (by kernel_rfl) (by kernel_rfl)) 28 (cE on) _ (ON_4.out.old hS) Tryd.underlying28 rfl (cE_ok _).1 (by kernel_rfl)) hK) ?_
    refine goods_is (by kernel_rfl) (fun a V h hS K Q hK => op_quiet (quiet_load_row 28 (.tmp 11) _ (look_at h 11 (by kernel_rfl) (by kernel_rfl)) 28 (cE pa) _ (PA_4.out.old hS) Tryd.underlying28 rfl (cE_ok _).1 (by kernel_rfl)) hK) ?_
    refine goods_is (by kernel_rfl) (fun a V h hS K Q hK => op_callK #[.tmp 54, .tmp 55] #[.agg (cE on), .agg (cE pa)] (by kernel_rfl) (by kernel_rfl) (by kernel_rfl) (map2 (look_at h 54 (by kernel_rfl) (by kernel_rfl)) (look_at h 55 (by kernel_rfl) (by kernel_rfl))) (C12.out V (PV.out V hS)) (by kernel_rfl) hK) ?_
    refine goods_fresh (by kernel_rfl) hzf0 ?_
    refine goods_fresh (by kernel_rfl) hzf0 ?_
    exact goods_nil
  case hf5 =>
  intro g V hF
  obtain ⟨lg12, bg12⟩ := hF.blk 6 _ _ rfl
  obtain ⟨lg13, bg13⟩ := hF.blk 7 _ _ rfl
  have ng12_13 := hF.ne 6 7 _ _ _ _ rfl rfl (by decide)
  have ng13_12 := hF.ne 7 6 _ _ _ _ rfl rfl (by decide)
  have hbf := hF.below
  clear hF
  simp only [finL, Pl.val, List.setIfInBounds_toArray, List.set_cons_zero, List.set_cons_succ]
  generalize g 6 = g12 at *
  generalize g 7 = g13 at *
  refine wpList_store_row rfl 28 (.tmp 12) (.tmp 53) rfl g12 (cE ux) rfl rfl 28 zf bg12 (cE_ok _).1 (ofE.out _) (cE_ok _).2 ?_
  refine wpList_store_row rfl 28 (.tmp 13) (.tmp 56) rfl g13 (cE uy) rfl rfl 28 zf (bg13.rowFar ng13_12 (cE ux)) (cE_ok _).1 (ofE.out _) (cE_ok _).2 ?_
  have XR_5 := Lib.hid (((XR_4.out.old hbf).rowFar (Nat.ne_of_lt (Nat.lt_of_lt_of_le XR_4.out.lt lg12)) (cE ux)).rowFar (Nat.ne_of_lt (Nat.lt_of_lt_of_le XR_4.out.lt lg13)) (cE uy))
  have XX_5 := Lib.hid (((XX_4.out.old hbf).rowFar (Nat.ne_of_lt (Nat.lt_of_lt_of_le XX_4.out.lt lg12)) (cE ux)).rowFar (Nat.ne_of_lt (Nat.lt_of_lt_of_le XX_4.out.lt lg13)) (cE uy))
  have YY_5 := Lib.hid (((YY_4.out.old hbf).rowFar (Nat.ne_of_lt (Nat.lt_of_lt_of_le YY_4.out.lt lg12)) (cE ux)).rowFar (Nat.ne_of_lt (Nat.lt_of_lt_of_le YY_4.out.lt lg13)) (cE uy))
  have CR_5 := Lib.hid (((CR_4.out.old hbf).rowFar (Nat.ne_of_lt (Nat.lt_of_lt_of_le CR_4.out.lt lg12)) (cE ux)).rowFar (Nat.ne_of_lt (Nat.lt_of_lt_of_le CR_4.out.lt lg13)) (cE uy))
  have MO_5 := Lib.hid (((MO_4.out.old hbf).rowFar (Nat.ne_of_lt (Nat.lt_of_lt_of_le MO_4.out.lt lg12)) (cE ux)).rowFar (Nat.ne_of_lt (Nat.lt_of_lt_of_le MO_4.out.lt lg13)) (cE uy))
  have UX_5 := Lib.hid ((bg12.row (cE ux)).rowFar ng12_13 (cE uy))
  have LG12 := Lib.hid (Nat.le_trans HB_4.out.size lg12)
  have UY_5 := Lib.hid ((bg13.rowFar ng13_12 (cE ux)).row (cE uy))
  have LG13 := Lib.hid (Nat.le_trans HB_4.out.size lg13)
  have HB_5 := Lib.hid (below_row (g := g13) (below_row (g := g12) (HB_4.out.trans (hbf.mono HB_4.out.size)) (Nat.le_trans HB_4.out.size lg12) (cE ux)) (Nat.le_trans HB_4.out.size lg13) (cE uy))
  clear XR_4 XX_4 YY_4 CR_4 MO_4 ON_4 PA_4 HB_4 PV lg12 lg13 bg12 bg13 ng12_13 ng13_12 hbf DD5
  generalize (V.setRow g12 (cE ux)).setRow g13 (cE uy) = W5 at *
  have PV : Hid (∀ V, Below W5.heap.size W5 V → PrimeAt V) := Lib.hid fun V hV => HP.out.old (HB_5.out.trans (hV.mono HB_5.out.size))
  go_upto_region 6 with fail
  (try simp only [Act.put, List.setIfInBounds_toArray, List.set_cons_zero, List.set_cons_succ])
  have DD6 : Hid (∀ V, Below W5.heap.size W5 V → Below W5.heap.size W5 V) := Lib.hid fun _ h => h
  refine wp_sched [(57, .is (.agg (cE mo))), (58, .is (.agg (cE cr))), (59, .is (.agg (cE m1))), (60, .is (.agg (cE uy))), (61, .is (.agg (cE r1))), (62, .is (.agg (cE mo))), (63, .is (.agg (cE yy))), (64, .is (.agg (cE xx))), (65, .is (.agg (cE s1))), (66, .is (.agg (cE m2))), (67, .is (.agg (cE ux))), (68, .is (.agg (cE r2))), (69, .is (.agg (cE ux))), (70, .is (.agg (cE uy))), (71, .is (.agg (cE r3))), (72, .is (.agg R))] (fun V => Below W5.heap.size W5 V) (by kernel_rfl) (by kernel_rfl) (by kernel_rfl) (by kernel_rfl) DD6.out ?hg6 _ (by rfl) ?hf6
  case hg6 =>
    refine goods_is (by kernel_rfl) (fun a V h hS K Q hK => op_quiet (quiet_load_row 28 (.tmp 9) _ (look_at h 9 (by kernel_rfl) (by kernel_rfl)) 28 (cE mo) _ (MO_5.out.old hS) Tryd.underlying28 rfl (cE_ok _).1 (by kernel_rfl)) hK) ?_
    refine goods_is (by kernel_rfl) (fun a V h hS K Q hK => op_quiet (quiet_load_row 28 (.tmp 8) _ (look_at h 8 (by kernel_rfl) (by kernel_rfl)) 28 (cE cr) _ (CR_5.out.old hS) Tryd.underlying28 rfl (cE_ok _).1 (by kernel_rfl)) hK) ?_
    refine goods_is (by kernel_rfl) (fun a V h hS K Q hK => op_callK #[.tmp 57, .tmp 58] #[.agg (cE mo), .agg (cE cr)] (by kernel_rfl) (by kernel_rfl) (by kernel_rfl) (map2 (look_at h 57 (by kernel_rfl) (by kernel_rfl)) (look_at h 58 (by kernel_rfl) (by kernel_rfl))) (C13.out V (PV.out V hS)) (by kernel_rfl) hK) ?_
    refine goods_is (by kernel_rfl) (fun a V h hS K Q hK => op_quiet (quiet_load_row 28 (.tmp 13) _ (look_at h 13 (by kernel_rfl) (by kernel_rfl)) 28 (cE uy) _ (UY_5.out.old hS) Tryd.underlying28 rfl (cE_ok _).1 (by kernel_rfl)) hK) ?_
    refine goods_is (by kernel_rfl) (fun a V h hS K Q hK => op_callK #[.tmp 59, .tmp 60] #[.agg (cE m1), .agg (cE uy)] (by kernel_rfl) (by kernel_rfl) (by kernel_rfl) (map2 (look_at h 59 (by kernel_rfl) (by kernel_rfl)) (look_at h 60 (by kernel_rfl) (by kernel_rfl))) (C14.out V (PV.out V hS)) (by kernel_rfl) hK) ?_
    refine goods_is (by kernel_rfl) (fun a V h hS K Q hK => op_quiet (quiet_load_row 28 (.tmp 9) _ (look_at h 9 (by kernel_rfl) (by kernel_rfl)) 28 (cE mo) _ (MO_5.out.old hS) Tryd.underlying28 rfl (cE_ok _).1 (by kernel_rfl)) hK) ?_
    refine goods_is (by kernel_rfl) (fun a V h hS K Q hK => op_quiet (quiet_load_row 28 (.tmp 6) _ (look_at h 6 (by kernel_rfl) (by kernel_rfl)) 28 (cE yy) _ (YY_5.out.old hS) Tryd.underlying28 rfl (cE_ok _).1 (by kernel_rfl)) hK) ?_
    refine goods_is (by kernel_rfl) (fun a V h hS K Q hK => op_quiet (quiet_load_row 28 (.tmp 5) _ (look_at h 5 (by kernel_rfl) (by kernel_rfl)) 28 (cE xx) _ (XX_5.out.old hS) Tryd.underlying28 rfl (cE_ok _).1 (by kernel_rfl)) hK) ?_
    refine goods_is (by kernel_rfl) (fun a V h hS K Q hK => op_callK #[.tmp 63, .tmp 64] #[.agg (cE yy), .agg (cE xx)] (by kernel_rfl) (by kernel_rfl) (by kernel_rfl) (map2 (look_at h 63 (by kernel_rfl) (by kernel_rfl)) (look_at h 64 (by kernel_rfl) (by kernel_rfl))) (C15.out V (PV.out V hS)) (by kernel_rfl) hK) ?_
    refine goods_is (by kernel_rfl) (fun a V h hS K Q hK => op_callK #[.tmp 62, .tmp 65] #[.agg (cE mo), .agg (cE s1)] (by kernel_rfl) (by kernel_rfl) (by kernel_rfl) (map2 (look_at h 62 (by kernel_rfl) (by kernel_rfl)) (look_at h 65 (by kernel_rfl) (by kernel_rfl))) (C16.out V (PV.out V hS)) (by kernel_rfl) hK) ?_
    refine goods_is (by kernel_rfl) (fun a V h hS K Q hK => op_quiet (quiet_load_row 28 (.tmp 12) _ (look_at h 12 (by kernel_rfl) (by kernel_rfl)) 28 (cE ux) _ (UX_5.out.old hS) Tryd.underlying28 rfl (cE_ok _).1 (by kernel_rfl)) hK) ?_
    refine goods_is (by kernel_rfl) (fun a V h hS K Q hK => op_callK #[.tmp 66, .tmp 67] #[.agg (cE m2), .agg (cE ux)] (by kernel_rfl) (by kernel_rfl) (by kernel_rfl) (map2 (look_at h 66 (by kernel_rfl) (by kernel_rfl)) (look_at h 67 (by kernel_rfl) (by kernel_rfl))) (C17.out V (PV.out V hS)) (by kernel_rfl) hK) ?_
    refine goods_is (by kernel_rfl) (fun a V h hS K Q hK => op_quiet (quiet_load_row 28 (.tmp 12) _ (look_at h 12 (by kernel_rfl) (by kernel_rfl)) 28 (cE ux) _ (UX_5.out.old hS) Tryd.underlying28 rfl (cE_ok _).1 (by kernel_rfl)) hK) ?_
    refine goods_is (by kernel_rfl) (fun a V h hS K Q hK => op_quiet (quiet_load_row 28 (.tmp 13) _ (look_at h 13 (by kernel_rfl) (by kernel_rfl)) 28 (cE uy) _ (UY_5.out.old hS) Tryd.underlying28 rfl (cE_ok _).1 (by kernel_rfl)) hK) ?_
    refine goods_is (by kernel_rfl) (fun a V h hS K Q hK => op_callK #[.tmp 69, .tmp 70] #[.agg (cE ux), .agg (cE uy)] (by kernel_rfl) (by kernel_rfl) (by kernel_rfl) (map2 (look_at h 69 (by kernel_rfl) (by kernel_rfl)) (look_at h 70 (by kernel_rfl) (by kernel_rfl))) (C18.out V (PV.out V hS)) (by kernel_rfl) hK) ?_
    refine goods_is (by kernel_rfl) (fun a V h hS K Q hK => op_quiet (quiet_build_to 30 #[(0, .tmp 61), (1, .tmp 68), (2, .tmp 71)] (by kernel_rfl) [(0, .agg (cE r1)), (1, .agg (cE r2)), (2, .agg (cE r3))] (bld3 (look_at h 61 (by kernel_rfl) (by kernel_rfl)) (look_at h 68 (by kernel_rfl) (by kernel_rfl)) (look_at h 71 (by kernel_rfl) (by kernel_rfl))) R hBu.out) hK) ?_
    exact goods_nil
  case hf6 =>
  intro g V hF
  have hbf := hF.below
  clear hF
  simp only [finL, Pl.val, List.setIfInBounds_toArray, List.set_cons_zero, List.set_cons_succ]
  refine wpList_store_row rfl 30 (.tmp 4) (.tmp 72) rfl (w.heap.size + 2) R rfl rfl 30 z (XR_5.out.old hbf) ok.out.1 ok.out.2.2 ok.out.2.1 ?_
  have XR_6 := Lib.hid ((XR_5.out.old hbf).row R)
  have HB_6 := Lib.hid (below_row (g := (w.heap.size + 2)) (HB_5.out.trans (hbf.mono HB_5.out.size)) (Nat.le_add_right _ _) R)
  clear XR_5 XX_5 YY_5 CR_5 MO_5 UX_5 UY_5 HB_5 PV hbf DD6
  generalize V.setRow (w.heap.size + 2) R = W6 at *
  have PV : Hid (∀ V, Below W6.heap.size W6 V → PrimeAt V) := Lib.hid fun V hV => HP.out.old (HB_6.out.trans (hV.mono HB_6.out.size))
  go_wp2_with fail
  refine bodyPost_ret (v := .agg R) ?_ rfl ⟨rfl, HB_6.out⟩
  exact results_cell_row Tryd.results15 _ _ (w.heap.size + 2) 30 _ (0, 0) _ rfl XR_6.out Tryd.underlying30 rfl ok.out.1

/-- What the program's sum stands for. -/
theorem addPU {p q : Pt} {a b : Array Value} (hp : PU p a) (hq : PU q b) (w : World) (hP : PrimeAt w) : Calls Tryd.prog 15 #[.agg a, .agg b] w fun e w' => ∃ c, e = .returned (.agg c) ∧ PU (padd p q) c ∧ Below w.heap.size w w' := by
  obtain ⟨X1, Y1, Z1, r1, rfl⟩ := hp
  obtain ⟨X2, Y2, Z2, r2, rfl⟩ := hq
  refine (addP X1 Y1 Z1 X2 Y2 Z2 _ _ _ _ _ _ _ _ _ _ _ _ _ _ _ _ _ _ rfl rfl rfl rfl rfl rfl rfl rfl rfl rfl rfl rfl rfl rfl rfl rfl rfl rfl w hP).mono ?_
  rintro e w' ⟨rfl, hb⟩
  exact ⟨_, rfl, ⟨_, _, _, rep_addP r1 r2 rfl rfl rfl rfl rfl rfl rfl rfl rfl rfl rfl rfl rfl rfl rfl rfl rfl rfl, rfl⟩, hb⟩
theorem twicePU {p : Pt} {a : Array Value} (hp : PU p a) (w : World) (hP : PrimeAt w) : Calls Tryd.prog 70 #[.agg a] w fun e w' => ∃ c, e = .returned (.agg c) ∧ PU (padd p p) c ∧ Below w.heap.size w w' := by
  obtain ⟨X1, Y1, Z1, r1, rfl⟩ := hp
  refine (twiceP X1 Y1 Z1 _ _ _ _ _ _ _ _ _ _ _ _ rfl rfl rfl rfl rfl rfl rfl rfl rfl rfl rfl rfl w hP).mono ?_
  rintro e w' ⟨rfl, hb⟩
  exact ⟨_, rfl, ⟨_, _, _, rep_twice r1 rfl rfl rfl rfl rfl rfl rfl rfl rfl rfl rfl rfl, rfl⟩, hb⟩
end Go.Proofs.YtjiadbaaggifpaaDoor
end

section
set_option linter.unusedVariables false
set_option linter.unusedSimpArgs false
namespace Go.Proofs.YtjiadbaaggifpaaDoor
open Go Go.Proofs Go.RowKit F5

set_option maxHeartbeats 4000000 in
set_option maxRecDepth 100000 in
theorem pairP (x y : Fp) (w : World) :
    Calls Tryd.prog 32 #[.agg (cE x), .agg (cE y)] w fun e w' => e = .returned (.agg (uV x y 1)) ∧ Below w.heap.size w w' := by
  obtain ⟨one, h1⟩ : ∃ a : Fp, Hid (a = 1) := ⟨_, Lib.hid rfl⟩
  have C1 : Hid (∀ V, Calls Tryd.prog 31 #[.int .u64 1] V fun e w' => e = .returned (.agg (cE one)) ∧ Below V.heap.size V w') := Lib.hid fun V => eOf 1 (by decide) (by decide) one (by rw [h1.out]; exact fv _ _ (by decide)) _ rfl V
  rw [← h1.out]
  obtain ⟨z, hz⟩ : ∃ z, Hid (z = uV 0 0 0) := ⟨_, Lib.hid rfl⟩
  have hz0 : ∀ W, (zeroValue 30).run Tryd.prog W = .ok (.agg z) W := by rw [hz.out]; exact zeroU
  obtain ⟨zf, hzf⟩ : ∃ z, Hid (z = cE 0) := ⟨_, Lib.hid rfl⟩
  have hzf0 : ∀ W, (zeroValue 28).run Tryd.prog W = .ok (.agg zf) W := by rw [hzf.out]; exact zeroE
  have ofE : Hid (∀ a : Fp, zf.size = (cE a).size) := Lib.hid (fun a => by rw [hzf.out]; exact cE_sz _ _)
  have hBu := Lib.hid (built_U x y one)
  have ok := Lib.hid (uV_okz x y one)
  rw [← hz.out] at ok
  generalize uV x y one = R at *
  obtain ⟨b1, b2, b3, hb⟩ := three_blksT w (cE x) (cE y) z 28 28 30
  clear hz hzf h1
  go_enter Tryd.func32, Tryd.ntmps32
  go_upto_region 1 with fail
  generalize ((w.alloc (.cells (cE x) 28)).alloc (.cells (cE y) 28)).alloc (.cells z 30) = W at *
  have X1 := Lib.hid b1
  have X2 := Lib.hid b2
  have XR := Lib.hid b3
  have HB := Lib.hid hb
  clear b1 b2 b3 hb
  (try simp only [Act.put, List.setIfInBounds_toArray, List.set_cons_zero, List.set_cons_succ])
  have DD1 : Hid (∀ V, Below W.heap.size W V → Below W.heap.size W V) := Lib.hid fun _ h => h
  refine wp_sched [(5, .is (.agg (cE x))), (6, .is (.agg (cE y))), (7, .is (.agg (cE one))), (8, .is (.agg R))] (fun V => Below W.heap.size W V) (by kernel_rfl) (by kernel_rfl) (by kernel_rfl) (by kernel_rfl) DD1.out ?hg1 _ (by rfl) ?hf1
  case hg1 =>
    refine goods_is (by kernel_rfl) (fun a V h hS K Q hK => op_quiet (quiet_load_row 28 (.tmp 2) _ (look_at h 2 (by kernel_rfl) (by kernel_rfl)) 28 (cE x) _ (X1.out.old hS) Tryd.underlying28 rfl (cE_ok _).1 (by kernel_rfl)) hK) ?_
    refine goods_is (by kernel_rfl) (fun a V h hS K Q hK => op_quiet (quiet_load_row 28 (.tmp 3) _ (look_at h 3 (by kernel_rfl) (by kernel_rfl)) 28 (cE y) _ (X2.out.old hS) Tryd.underlying28 rfl (cE_ok _).1 (by kernel_rfl)) hK) ?_
    refine goods_is (by kernel_rfl) (fun a V h hS K Q hK => op_callK #[.const (.int .u64 1)] #[.int .u64 1] (by kernel_rfl) (by kernel_rfl) (by kernel_rfl) (map1 rfl) (C1.out V) (by kernel_rfl) hK) ?_
    refine goods_is (by kernel_rfl) (fun a V h hS K Q hK => op_quiet (quiet_build_to 30 #[(0, .tmp 5), (1, .tmp 6), (2, .tmp 7)] (by kernel_rfl) [(0, .agg (cE x)), (1, .agg (cE y)), (2, .agg (cE one))] (bld3 (look_at h 5 (by kernel_rfl) (by kernel_rfl)) (look_at h 6 (by kernel_rfl) (by kernel_rfl)) (look_at h 7 (by kernel_rfl) (by kernel_rfl))) R hBu.out) hK) ?_
    exact goods_nil
  case hf1 =>
  intro g V hF
  have hbf := hF.below
  clear hF
  simp only [finL, Pl.val, List.setIfInBounds_toArray, List.set_cons_zero, List.set_cons_succ]
  refine wpList_store_row rfl 30 (.tmp 4) (.tmp 8) rfl (w.heap.size + 2) R rfl rfl 30 z (XR.out.old hbf) ok.out.1 ok.out.2.2 ok.out.2.1 ?_
  have XR_1 := Lib.hid ((XR.out.old hbf).row R)
  have HB_1 := Lib.hid (below_row (g := (w.heap.size + 2)) (HB.out.trans (hbf.mono HB.out.size)) (Nat.le_add_right _ _) R)
  clear X1 X2 XR HB hbf DD1
  generalize V.setRow (w.heap.size + 2) R = W1 at *
  go_wp2_with fail
  refine bodyPost_ret (v := .agg R) ?_ rfl ⟨rfl, HB_1.out⟩
  exact results_cell_row Tryd.results32 _ _ (w.heap.size + 2) 30 _ (0, 0) _ rfl XR_1.out Tryd.underlying30 rfl ok.out.1

set_option maxHeartbeats 4000000 in
set_option maxRecDepth 100000 in
theorem zeroP2 (w : World) : Calls Tryd.prog 24 #[] w fun e w' => e = .returned (.agg (uV 0 1 1)) ∧ Below w.heap.size w w' := by
  obtain ⟨one, h1⟩ : ∃ a : Fp, Hid (a = 1) := ⟨_, Lib.hid rfl⟩
  obtain ⟨nil, h0⟩ : ∃ a : Fp, Hid (a = 0) := ⟨_, Lib.hid rfl⟩
  have C1 : Hid (∀ V, Calls Tryd.prog 31 #[.int .u64 1] V fun e w' => e = .returned (.agg (cE one)) ∧ Below V.heap.size V w') := Lib.hid fun V => eOf 1 (by decide) (by decide) one (by rw [h1.out]; exact fv _ _ (by decide)) _ rfl V
  have C0 : Hid (∀ V, Calls Tryd.prog 31 #[.int .u64 0] V fun e w' => e = .returned (.agg (cE nil)) ∧ Below V.heap.size V w') := Lib.hid fun V => eOf 0 (by decide) (by decide) nil (by rw [h0.out]; rfl) _ rfl V
  have C2 : Hid (∀ V, Calls Tryd.prog 32 #[.agg (cE nil), .agg (cE one)] V fun e w' => e = .returned (.agg (uV nil one 1)) ∧ Below V.heap.size V w') := Lib.hid fun V => pairP nil one V
  rw [show uV 0 1 1 = uV nil one 1 by rw [h0.out, h1.out]]
  obtain ⟨z, hz⟩ : ∃ z, Hid (z = uV 0 0 0) := ⟨_, Lib.hid rfl⟩
  have hz0 : ∀ W, (zeroValue 30).run Tryd.prog W = .ok (.agg z) W := by rw [hz.out]; exact zeroU
  obtain ⟨zf, hzf⟩ : ∃ z, Hid (z = cE 0) := ⟨_, Lib.hid rfl⟩
  have hzf0 : ∀ W, (zeroValue 28).run Tryd.prog W = .ok (.agg zf) W := by rw [hzf.out]; exact zeroE
  have ofE : Hid (∀ a : Fp, zf.size = (cE a).size) := Lib.hid (fun a => by rw [hzf.out]; exact cE_sz _ _)
  have ok := Lib.hid (uV_okz nil one 1)
  rw [← hz.out] at ok
  generalize uV nil one 1 = R at *
  have b1 := Blk.new w 30 z
  have hb : Below w.heap.size w (w.alloc (.cells z 30)) := (Below.refl _ _).alloc (Nat.le_refl _) _
  clear hz hzf h1 h0
  go_enter Tryd.func24, Tryd.ntmps24
  go_upto_region 1 with fail
  generalize w.alloc (.cells z 30) = W at *
  have XR := Lib.hid b1
  have HB := Lib.hid hb
  clear b1 hb
  (try simp only [Act.put, List.setIfInBounds_toArray, List.set_cons_zero, List.set_cons_succ])
  have DD1 : Hid (∀ V, Below W.heap.size W V → Below W.heap.size W V) := Lib.hid fun _ h => h
  refine wp_sched [(1, .is (.agg (cE nil))), (2, .is (.agg (cE one))), (3, .is (.agg R))] (fun V => Below W.heap.size W V) (by kernel_rfl) (by kernel_rfl) (by kernel_rfl) (by kernel_rfl) DD1.out ?hg1 _ (by rfl) ?hf1
  case hg1 =>
    refine goods_is (by kernel_rfl) (fun a V h hS K Q hK => op_callK #[.const (.int .u64 0)] #[.int .u64 0] (by kernel_rfl) (by kernel_rfl) (by kernel_rfl) (map1 rfl) (C0.out V) (by kernel_rfl) hK) ?_
    refine goods_is (by kernel_rfl) (fun a V h hS K Q hK => op_callK #[.const (.int .u64 1)] #[.int .u64 1] (by kernel_rfl) (by kernel_rfl) (by kernel_rfl) (map1 rfl) (C1.out V) (by kernel_rfl) hK) ?_
    refine goods_is (by kernel_rfl) (fun a V h hS K Q hK => op_callK #[.tmp 1, .tmp 2] #[.agg (cE nil), .agg (cE one)] (by kernel_rfl) (by kernel_rfl) (by kernel_rfl) (map2 (look_at h 1 (by kernel_rfl) (by kernel_rfl)) (look_at h 2 (by kernel_rfl) (by kernel_rfl))) (C2.out V) (by kernel_rfl) hK) ?_
    exact goods_nil
  case hf1 =>
  intro g V hF
  have hbf := hF.below
  clear hF
  simp only [finL, Pl.val, List.setIfInBounds_toArray, List.set_cons_zero, List.set_cons_succ]
  refine wpList_store_row rfl 30 (.tmp 0) (.tmp 3) rfl w.heap.size R rfl rfl 30 z (XR.out.old hbf) ok.out.1 ok.out.2.2 ok.out.2.1 ?_
  have XR_1 := Lib.hid ((XR.out.old hbf).row R)
  have HB_1 := Lib.hid (below_row (g := w.heap.size) (HB.out.trans (hbf.mono HB.out.size)) (Nat.le_refl _) R)
  clear XR HB hbf DD1
  generalize V.setRow w.heap.size R = W1 at *
  go_wp2_with fail
  refine bodyPost_ret (v := .agg R) ?_ rfl ⟨rfl, HB_1.out⟩
  exact results_cell_row Tryd.results24 _ _ w.heap.size 30 _ (0, 0) _ rfl XR_1.out Tryd.underlying30 rfl ok.out.1

set_option maxHeartbeats 4000000 in
set_option maxRecDepth 100000 in
theorem negP (x y zz : Fp) (w : World) (hP : PrimeAt w) : Calls Tryd.prog 17 #[.agg (uV x y zz)] w fun e w' => e = .returned (.agg (uV (0 - x) y zz)) ∧ Below w.heap.size w w' := by
  obtain ⟨nil, h0⟩ : ∃ a : Fp, Hid (a = 0) := ⟨_, Lib.hid rfl⟩
  have C0 : Hid (∀ V, Calls Tryd.prog 31 #[.int .u64 0] V fun e w' => e = .returned (.agg (cE nil)) ∧ Below V.heap.size V w') := Lib.hid fun V => eOf 0 (by decide) (by decide) nil (by rw [h0.out]; rfl) _ rfl V
  obtain ⟨nx, hn⟩ : ∃ a : Fp, Hid (a = nil - x) := ⟨_, Lib.hid rfl⟩
  have C1 : Hid (∀ V, PrimeAt V → Calls Tryd.prog 43 #[.agg (cE nil), .agg (cE x)] V fun e w' => e = .returned (.agg (cE nx)) ∧ Below V.heap.size V w') := Lib.hid fun V hV => by rw [hn.out]; exact eSub _ _ V hV
  rw [← h0.out, ← hn.out]
  obtain ⟨z, hz⟩ : ∃ z, Hid (z = uV 0 0 0) := ⟨_, Lib.hid rfl⟩
  have hz0 : ∀ W, (zeroValue 30).run Tryd.prog W = .ok (.agg z) W := by rw [hz.out]; exact zeroU
  obtain ⟨zf, hzf⟩ : ∃ z, Hid (z = cE 0) := ⟨_, Lib.hid rfl⟩
  have hzf0 : ∀ W, (zeroValue 28).run Tryd.prog W = .ok (.agg zf) W := by rw [hzf.out]; exact zeroE
  have ofE : Hid (∀ a : Fp, zf.size = (cE a).size) := Lib.hid (fun a => by rw [hzf.out]; exact cE_sz _ _)
  have hBu := Lib.hid (built_U nx y zz)
  have ok := Lib.hid (uV_okz nx y zz)
  rw [← hz.out] at ok
  generalize uV nx y zz = R at *
  have KX := Lib.hid (fun (V : World) g T (h : Blk V g T (uV x y zz)) => uV_cell_x h)
  have KY := Lib.hid (fun (V : World) g T (h : Blk V g T (uV x y zz)) => uV_cell_y h)
  have KZ := Lib.hid (fun (V : World) g T (h : Blk V g T (uV x y zz)) => uV_cell_z h)
  generalize uV x y zz = A at *
  obtain ⟨b1, b2, hb⟩ := two_blks w A z 30 30
  have HP := Lib.hid hP
  clear hz hzf h0 hn hP
  go_enter Tryd.func17, Tryd.ntmps17
  go_upto_region 1 with fail
  generalize (w.alloc (.cells A 30)).alloc (.cells z 30) = W at *
  have X1 := Lib.hid b1
  have XR := Lib.hid b2
  have HB := Lib.hid hb
  clear b1 b2 hb
  (try simp only [Act.put, List.setIfInBounds_toArray, List.set_cons_zero, List.set_cons_succ])
  have PV : Hid (∀ V, Below W.heap.size W V → PrimeAt V) := Lib.hid fun V hV => HP.out.old (HB.out.trans (hV.mono HB.out.size))
  have DD1 : Hid (∀ V, Below W.heap.size W V → Below W.heap.size W V) := Lib.hid fun _ h => h
  refine wp_sched [(3, .is (.agg (cE nil))), (4, .is (.pointer (some ⟨w.heap.size, 0, none⟩))), (5, .is (.agg (cE x))), (6, .is (.agg (cE nx))), (7, .is (.pointer (some ⟨w.heap.size, 0 + 4, none⟩))), (8, .is (.agg (cE y))), (9, .is (.pointer (some ⟨w.heap.size, 0 + 8, none⟩))), (10, .is (.agg (cE zz))), (11, .is (.agg R))] (fun V => Below W.heap.size W V) (by kernel_rfl) (by kernel_rfl) (by kernel_rfl) (by kernel_rfl) DD1.out ?hg1 _ (by rfl) ?hf1
  case hg1 =>
    refine goods_is (by kernel_rfl) (fun a V h hS K Q hK => op_callK #[.const (.int .u64 0)] #[.int .u64 0] (by kernel_rfl) (by kernel_rfl) (by kernel_rfl) (map1 rfl) (C0.out V) (by kernel_rfl) hK) ?_
    refine goods_is (by kernel_rfl) (fun a V h hS K Q hK => op_quiet (quiet_field _ (.tmp 1) 0 _ _ (look_at h 1 (by kernel_rfl) (by kernel_rfl)) (fa0 _ _) rfl) hK) ?_
    refine goods_is (by kernel_rfl) (fun a V h hS K Q hK => op_quiet (quiet_load_off 28 (.tmp 4) _ _ (look_at h 4 (by kernel_rfl) (by kernel_rfl)) (cE x) _ (KX.out _ _ _ (X1.out.old hS)) Tryd.underlying28 rfl (cE_ok _).1 (by kernel_rfl)) hK) ?_
    refine goods_is (by kernel_rfl) (fun a V h hS K Q hK => op_callK #[.tmp 3, .tmp 5] #[.agg (cE nil), .agg (cE x)] (by kernel_rfl) (by kernel_rfl) (by kernel_rfl) (map2 (look_at h 3 (by kernel_rfl) (by kernel_rfl)) (look_at h 5 (by kernel_rfl) (by kernel_rfl))) (C1.out V (PV.out V hS)) (by kernel_rfl) hK) ?_
    refine goods_is (by kernel_rfl) (fun a V h hS K Q hK => op_quiet (quiet_field _ (.tmp 1) 1 _ _ (look_at h 1 (by kernel_rfl) (by kernel_rfl)) (fa1 _ _) rfl) hK) ?_
    refine goods_is (by kernel_rfl) (fun a V h hS K Q hK => op_quiet (quiet_load_off 28 (.tmp 7) _ _ (look_at h 7 (by kernel_rfl) (by kernel_rfl)) (cE y) _ (KY.out _ _ _ (X1.out.old hS)) Tryd.underlying28 rfl (cE_ok _).1 (by kernel_rfl)) hK) ?_
    refine goods_is (by kernel_rfl) (fun a V h hS K Q hK => op_quiet (quiet_field _ (.tmp 1) 2 _ _ (look_at h 1 (by kernel_rfl) (by kernel_rfl)) (fa2 _ _) rfl) hK) ?_
    refine goods_is (by kernel_rfl) (fun a V h hS K Q hK => op_quiet (quiet_load_off 28 (.tmp 9) _ _ (look_at h 9 (by kernel_rfl) (by kernel_rfl)) (cE zz) _ (KZ.out _ _ _ (X1.out.old hS)) Tryd.underlying28 rfl (cE_ok _).1 (by kernel_rfl)) hK) ?_
    refine goods_is (by kernel_rfl) (fun a V h hS K Q hK => op_quiet (quiet_build_to 30 #[(0, .tmp 6), (1, .tmp 8), (2, .tmp 10)] (by kernel_rfl) [(0, .agg (cE nx)), (1, .agg (cE y)), (2, .agg (cE zz))] (bld3 (look_at h 6 (by kernel_rfl) (by kernel_rfl)) (look_at h 8 (by kernel_rfl) (by kernel_rfl)) (look_at h 10 (by kernel_rfl) (by kernel_rfl))) R hBu.out) hK) ?_
    exact goods_nil
  case hf1 =>
  intro g V hF
  have hbf := hF.below
  clear hF
  simp only [finL, Pl.val, List.setIfInBounds_toArray, List.set_cons_zero, List.set_cons_succ]
  refine wpList_store_row rfl 30 (.tmp 2) (.tmp 11) rfl (w.heap.size + 1) R rfl rfl 30 z (XR.out.old hbf) ok.out.1 ok.out.2.2 ok.out.2.1 ?_
  have XR_1 := Lib.hid ((XR.out.old hbf).row R)
  have HB_1 := Lib.hid (below_row (g := (w.heap.size + 1)) (HB.out.trans (hbf.mono HB.out.size)) (Nat.le_succ _) R)
  clear X1 XR HB PV hbf DD1
  generalize V.setRow (w.heap.size + 1) R = W1 at *
  have PV : Hid (∀ V, Below W1.heap.size W1 V → PrimeAt V) := Lib.hid fun V hV => HP.out.old (HB_1.out.trans (hV.mono HB_1.out.size))
  go_wp2_with fail
  refine bodyPost_ret (v := .agg R) ?_ rfl ⟨rfl, HB_1.out⟩
  exact results_cell_row Tryd.results17 _ _ (w.heap.size + 1) 30 _ (0, 0) _ rfl XR_1.out Tryd.underlying30 rfl ok.out.1

theorem zeroPU (w : World) : Calls Tryd.prog 24 #[] w fun e w' => ∃ c, e = .returned (.agg c) ∧ PU pzero c ∧ Below w.heap.size w w' := by
  refine (zeroP2 w).mono ?_
  rintro e w' ⟨rfl, hb⟩
  exact ⟨_, rfl, ⟨0, 1, 1, rep_zero, rfl⟩, hb⟩
theorem negPU {p : Pt} {a : Array Value} (hp : PU p a) (w : World) (hP : PrimeAt w) : Calls Tryd.prog 17 #[.agg a] w fun e w' => ∃ c, e = .returned (.agg c) ∧ PU (pneg p) c ∧ Below w.heap.size w w' := by
  obtain ⟨X, Y, Z, r, rfl⟩ := hp
  refine (negP X Y Z w hP).mono ?_
  rintro e w' ⟨rfl, hb⟩
  exact ⟨_, rfl, ⟨_, _, _, rep_neg r, rfl⟩, hb⟩
end Go.Proofs.YtjiadbaaggifpaaDoor
end

section
set_option linter.unusedVariables false
set_option linter.unusedSimpArgs false
namespace Go.Proofs.YtjiadbaaggifpaaDoor
open Go Go.Proofs Go.RowKit F5

set_option maxHeartbeats 4000000 in
set_option maxRecDepth 100000 in
theorem evenP (y sq s1 up sa dn f r one : Fp) (h1 : one = 1) (hsq : y * y = sq) (hs1 : sq - one = s1) (hup : s1 * bF = up) (hsa : sq * aF = sa) (hdn : bF - sa = dn) (hf : finv dn = f) (hr : up * f = r) (w : World) (hP : PrimeAt w) (hT : TurnAt w) :
    Calls Tryd.prog 29 #[.agg (cE y)] w fun e w' => e = .returned (.tuple #[.agg (cE (rootF r)), .bool (decide (hasRoot r.val))]) ∧ Below w.heap.size w w' := by
  have MUL (p q r : Fp) (h : p * q = r) : Hid (∀ V, PrimeAt V → Calls Tryd.prog 38 #[.agg (cE p), .agg (cE q)] V fun e w' => e = .returned (.agg (cE r)) ∧ Below V.heap.size V w') := Lib.hid fun V hV => by rw [← h]; exact eMul _ _ V hV
  have SUB (p q r : Fp) (h : p - q = r) : Hid (∀ V, PrimeAt V → Calls Tryd.prog 43 #[.agg (cE p), .agg (cE q)] V fun e w' => e = .returned (.agg (cE r)) ∧ Below V.heap.size V w') := Lib.hid fun V hV => by rw [← h]; exact eSub _ _ V hV
  have ADD (p q r : Fp) (h : p + q = r) : Hid (∀ V, PrimeAt V → Calls Tryd.prog 42 #[.agg (cE p), .agg (cE q)] V fun e w' => e = .returned (.agg (cE r)) ∧ Below V.heap.size V w') := Lib.hid fun V hV => by rw [← h]; exact eAdd _ _ V hV
  have COF (n : Nat) (hn : n < P) (hm : n < M) (a : Fp) (h : a.val = n) (i : Int) (hi : i = n) : Hid (∀ V, PrimeAt V → Calls Tryd.prog 31 #[.int .u64 i] V fun e w' => e = .returned (.agg (cE a)) ∧ Below V.heap.size V w') := Lib.hid fun V _ => eOf n hn hm a h i hi V
  have C1 := MUL _ _ _ hsq
  have C2 := SUB _ _ _ hs1
  have C3 := MUL _ _ _ hup
  have C4 := MUL _ _ _ hsa
  have C5 := SUB _ _ _ hdn
  have C6 : Hid (∀ V, PrimeAt V → Calls Tryd.prog 37 #[.agg (cE dn)] V fun e w' => e = .returned (.agg (cE f)) ∧ Below V.heap.size V w') := Lib.hid fun V hV => by rw [← hf]; exact eInv _ V hV
  have C7 := MUL _ _ _ hr
  have CB := COF 121666 (by decide) (by decide) bF rfl 121666 rfl
  have CA := COF 121665 (by decide) (by decide) aF rfl 121665 rfl
  have C0 := COF 1 (by decide) (by decide) one (by rw [h1]; exact fv _ _ (by decide)) 1 rfl
  obtain ⟨ro, hro⟩ : ∃ a : Fp, Hid (a = rootF r) := ⟨_, Lib.hid rfl⟩
  obtain ⟨b, hb⟩ : ∃ b, Hid (b = decide (hasRoot r.val)) := ⟨_, Lib.hid rfl⟩
  have HT := Lib.hid hT
  have CR : Hid (∀ V, PrimeAt V → Below w.heap.size w V → Calls Tryd.prog 58 #[.agg (cE r)] V fun e w' => e = .returned (.tuple #[.agg (cE ro), .bool b]) ∧ Below V.heap.size V w') := Lib.hid fun V hV hW => by rw [hro.out, hb.out]; exact eRoot r V hV (HT.out.old hW)
  rw [← hro.out, ← hb.out]
  generalize aF = af at *
  generalize bF = bf at *
  clear MUL SUB ADD COF h1 hsq hs1 hup hsa hdn hf hr hro hb hT HT
  obtain ⟨z, hz⟩ : ∃ z, Hid (z = uV 0 0 0) := ⟨_, Lib.hid rfl⟩
  have hz0 : ∀ W, (zeroValue 30).run Tryd.prog W = .ok (.agg z) W := by rw [hz.out]; exact zeroU
  obtain ⟨zf, hzf⟩ : ∃ z, Hid (z = cE 0) := ⟨_, Lib.hid rfl⟩
  have hzf0 : ∀ W, (zeroValue 28).run Tryd.prog W = .ok (.agg zf) W := by rw [hzf.out]; exact zeroE
  have ofE : Hid (∀ a : Fp, zf.size = (cE a).size) := Lib.hid (fun a => by rw [hzf.out]; exact cE_sz _ _)
  obtain ⟨b1, b2, hb⟩ := two_blks w (cE y) zf 28 28
  have HP := Lib.hid hP
  clear hz hz0 z hzf hP
  go_enter Tryd.func29, Tryd.ntmps29
  go_upto_region 1 with fail
  generalize (w.alloc (.cells (cE y) 28)).alloc (.cells zf 28) = W at *
  have P1 := Lib.hid b1
  have XR := Lib.hid b2
  have HB := Lib.hid hb
  clear b1 b2 hb
  (try simp only [Act.put, List.setIfInBounds_toArray, List.set_cons_zero, List.set_cons_succ])
  have PV : Hid (∀ V, Below W.heap.size W V → PrimeAt V) := Lib.hid fun V hV => HP.out.old (HB.out.trans (hV.mono HB.out.size))
  have DD1 : Hid (∀ V, Below W.heap.size W V → Below W.heap.size W V) := Lib.hid fun _ h => h
  refine wp_sched [(7, .is (.agg (cE y))), (8, .is (.agg (cE y))), (9, .is (.agg (cE sq))), (4, .fresh 28 zf)] (fun V => Below W.heap.size W V) (by kernel_rfl) (by kernel_rfl) (by kernel_rfl) (by kernel_rfl) DD1.out ?hg1 _ (by rfl) ?hf1
  case hg1 =>
    refine goods_is (by kernel_rfl) (fun a V h hS K Q hK => op_quiet (quiet_load_row 28 (.tmp 1) _ (look_at h 1 (by kernel_rfl) (by kernel_rfl)) 28 (cE y) _ (P1.out.old hS) Tryd.underlying28 rfl (cE_ok _).1 (by kernel_rfl)) hK) ?_
    refine goods_is (by kernel_rfl) (fun a V h hS K Q hK => op_quiet (quiet_load_row 28 (.tmp 1) _ (look_at h 1 (by kernel_rfl) (by kernel_rfl)) 28 (cE y) _ (P1.out.old hS) Tryd.underlying28 rfl (cE_ok _).1 (by kernel_rfl)) hK) ?_
    refine goods_is (by kernel_rfl) (fun a V h hS K Q hK => op_callK #[.tmp 7, .tmp 8] #[.agg (cE y), .agg (cE y)] (by kernel_rfl) (by kernel_rfl) (by kernel_rfl) (map2 (look_at h 7 (by kernel_rfl) (by kernel_rfl)) (look_at h 8 (by kernel_rfl) (by kernel_rfl))) (C1.out V (PV.out V hS)) (by kernel_rfl) hK) ?_
    refine goods_fresh (by kernel_rfl) hzf0 ?_
    exact goods_nil
  case hf1 =>
  intro g V hF
  obtain ⟨lg4, bg4⟩ := hF.blk 3 _ _ rfl
  have hbf := hF.below
  clear hF
  simp only [finL, Pl.val, List.setIfInBounds_toArray, List.set_cons_zero, List.set_cons_succ]
  generalize g 3 = g4 at *
  refine wpList_store_row rfl 28 (.tmp 4) (.tmp 9) rfl g4 (cE sq) rfl rfl 28 zf bg4 (cE_ok _).1 (ofE.out _) (cE_ok _).2 ?_
  have XR_1 := Lib.hid ((XR.out.old hbf).rowFar (Nat.ne_of_lt (Nat.lt_of_lt_of_le XR.out.lt lg4)) (cE sq))
  have SQ_1 := Lib.hid (bg4.row (cE sq))
  have LG4 := Lib.hid (Nat.le_trans HB.out.size lg4)
  have HB_1 := Lib.hid (below_row (g := g4) (HB.out.trans (hbf.mono HB.out.size)) (Nat.le_trans HB.out.size lg4) (cE sq))
  clear P1 XR HB PV lg4 bg4 hbf DD1
  generalize V.setRow g4 (cE sq) = W1 at *
  have PV : Hid (∀ V, Below W1.heap.size W1 V → PrimeAt V) := Lib.hid fun V hV => HP.out.old (HB_1.out.trans (hV.mono HB_1.out.size))
  go_upto_region 2 with fail
  (try simp only [Act.put, List.setIfInBounds_toArray, List.set_cons_zero, List.set_cons_succ])
  have DD2 : Hid (∀ V, Below W1.heap.size W1 V → Below W1.heap.size W1 V) := Lib.hid fun _ h => h
  refine wp_sched [(10, .is (.agg (cE sq))), (11, .is (.agg (cE one))), (12, .is (.agg (cE s1))), (13, .is (.agg (cE bf))), (14, .is (.agg (cE up))), (5, .fresh 28 zf)] (fun V => Below W1.heap.size W1 V) (by kernel_rfl) (by kernel_rfl) (by kernel_rfl) (by kernel_rfl) DD2.out ?hg2 _ (by rfl) ?hf2
  case hg2 =>
    refine goods_is (by kernel_rfl) (fun a V h hS K Q hK => op_quiet (quiet_load_row 28 (.tmp 4) _ (look_at h 4 (by kernel_rfl) (by kernel_rfl)) 28 (cE sq) _ (SQ_1.out.old hS) Tryd.underlying28 rfl (cE_ok _).1 (by kernel_rfl)) hK) ?_
    refine goods_is (by kernel_rfl) (fun a V h hS K Q hK => op_callK #[.const (.int .u64 1)] #[.int .u64 1] (by kernel_rfl) (by kernel_rfl) (by kernel_rfl) (map1 rfl) (C0.out V (PV.out V hS)) (by kernel_rfl) hK) ?_
    refine goods_is (by kernel_rfl) (fun a V h hS K Q hK => op_callK #[.tmp 10, .tmp 11] #[.agg (cE sq), .agg (cE one)] (by kernel_rfl) (by kernel_rfl) (by kernel_rfl) (map2 (look_at h 10 (by kernel_rfl) (by kernel_rfl)) (look_at h 11 (by kernel_rfl) (by kernel_rfl))) (C2.out V (PV.out V hS)) (by kernel_rfl) hK) ?_
    refine goods_is (by kernel_rfl) (fun a V h hS K Q hK => op_callK #[.const (.int .u64 121666)] #[.int .u64 121666] (by kernel_rfl) (by kernel_rfl) (by kernel_rfl) (map1 rfl) (CB.out V (PV.out V hS)) (by kernel_rfl) hK) ?_
    refine goods_is (by kernel_rfl) (fun a V h hS K Q hK => op_callK #[.tmp 12, .tmp 13] #[.agg (cE s1), .agg (cE bf)] (by kernel_rfl) (by kernel_rfl) (by kernel_rfl) (map2 (look_at h 12 (by kernel_rfl) (by kernel_rfl)) (look_at h 13 (by kernel_rfl) (by kernel_rfl))) (C3.out V (PV.out V hS)) (by kernel_rfl) hK) ?_
    refine goods_fresh (by kernel_rfl) hzf0 ?_
    exact goods_nil
  case hf2 =>
  intro g V hF
  obtain ⟨lg5, bg5⟩ := hF.blk 5 _ _ rfl
  have hbf := hF.below
  clear hF
  simp only [finL, Pl.val, List.setIfInBounds_toArray, List.set_cons_zero, List.set_cons_succ]
  generalize g 5 = g5 at *
  refine wpList_store_row rfl 28 (.tmp 5) (.tmp 14) rfl g5 (cE up) rfl rfl 28 zf bg5 (cE_ok _).1 (ofE.out _) (cE_ok _).2 ?_
  have XR_2 := Lib.hid ((XR_1.out.old hbf).rowFar (Nat.ne_of_lt (Nat.lt_of_lt_of_le XR_1.out.lt lg5)) (cE up))
  have SQ_2 := Lib.hid ((SQ_1.out.old hbf).rowFar (Nat.ne_of_lt (Nat.lt_of_lt_of_le SQ_1.out.lt lg5)) (cE up))
  have UP0_2 := Lib.hid (bg5.row (cE up))
  have LG5 := Lib.hid (Nat.le_trans HB_1.out.size lg5)
  have HB_2 := Lib.hid (below_row (g := g5) (HB_1.out.trans (hbf.mono HB_1.out.size)) (Nat.le_trans HB_1.out.size lg5) (cE up))
  clear XR_1 SQ_1 HB_1 PV lg5 bg5 hbf DD2
  generalize V.setRow g5 (cE up) = W2 at *
  have PV : Hid (∀ V, Below W2.heap.size W2 V → PrimeAt V) := Lib.hid fun V hV => HP.out.old (HB_2.out.trans (hV.mono HB_2.out.size))
  go_upto_region 3 with fail
  (try simp only [Act.put, List.setIfInBounds_toArray, List.set_cons_zero, List.set_cons_succ])
  have DD3 : Hid (∀ V, Below W2.heap.size W2 V → Below W2.heap.size W2 V) := Lib.hid fun _ h => h
  refine wp_sched [(15, .is (.agg (cE bf))), (16, .is (.agg (cE sq))), (17, .is (.agg (cE af))), (18, .is (.agg (cE sa))), (19, .is (.agg (cE dn))), (6, .fresh 28 zf)] (fun V => Below W2.heap.size W2 V) (by kernel_rfl) (by kernel_rfl) (by kernel_rfl) (by kernel_rfl) DD3.out ?hg3 _ (by rfl) ?hf3
  case hg3 =>
    refine goods_is (by kernel_rfl) (fun a V h hS K Q hK => op_callK #[.const (.int .u64 121666)] #[.int .u64 121666] (by kernel_rfl) (by kernel_rfl) (by kernel_rfl) (map1 rfl) (CB.out V (PV.out V hS)) (by kernel_rfl) hK) ?_
    refine goods_is (by kernel_rfl) (fun a V h hS K Q hK => op_quiet (quiet_load_row 28 (.tmp 4) _ (look_at h 4 (by kernel_rfl) (by kernel_rfl)) 28 (cE sq) _ (SQ_2.out.old hS) Tryd.underlying28 rfl (cE_ok _).1 (by kernel_rfl)) hK) ?_
    refine goods_is (by kernel_rfl) (fun a V h hS K Q hK => op_callK #[.const (.int .u64 121665)] #[.int .u64 121665] (by kernel_rfl) (by kernel_rfl) (by kernel_rfl) (map1 rfl) (CA.out V (PV.out V hS)) (by kernel_rfl) hK) ?_
    refine goods_is (by kernel_rfl) (fun a V h hS K Q hK => op_callK #[.tmp 16, .tmp 17] #[.agg (cE sq), .agg (cE af)] (by kernel_rfl) (by kernel_rfl) (by kernel_rfl) (map2 (look_at h 16 (by kernel_rfl) (by kernel_rfl)) (look_at h 17 (by kernel_rfl) (by kernel_rfl))) (C4.out V (PV.out V hS)) (by kernel_rfl) hK) ?_
    refine goods_is (by kernel_rfl) (fun a V h hS K Q hK => op_callK #[.tmp 15, .tmp 18] #[.agg (cE bf), .agg (cE sa)] (by kernel_rfl) (by kernel_rfl) (by kernel_rfl) (map2 (look_at h 15 (by kernel_rfl) (by kernel_rfl)) (look_at h 18 (by kernel_rfl) (by kernel_rfl))) (C5.out V (PV.out V hS)) (by kernel_rfl) hK) ?_
    refine goods_fresh (by kernel_rfl) hzf0 ?_
    exact goods_nil
  case hf3 =>
  intro g V hF
  obtain ⟨lg6, bg6⟩ := hF.blk 5 _ _ rfl
  have hbf := hF.below
  clear hF
  simp only [finL, Pl.val, List.setIfInBounds_toArray, List.set_cons_zero, List.set_cons_succ]
  generalize g 5 = g6 at *
  refine wpList_store_row rfl 28 (.tmp 6) (.tmp 19) rfl g6 (cE dn) rfl rfl 28 zf bg6 (cE_ok _).1 (ofE.out _) (cE_ok _).2 ?_
  have XR_3 := Lib.hid ((XR_2.out.old hbf).rowFar (Nat.ne_of_lt (Nat.lt_of_lt_of_le XR_2.out.lt lg6)) (cE dn))
  have UP0_3 := Lib.hid ((UP0_2.out.old hbf).rowFar (Nat.ne_of_lt (Nat.lt_of_lt_of_le UP0_2.out.lt lg6)) (cE dn))
  have DN_3 := Lib.hid (bg6.row (cE dn))
  have LG6 := Lib.hid (Nat.le_trans HB_2.out.size lg6)
  have HB_3 := Lib.hid (below_row (g := g6) (HB_2.out.trans (hbf.mono HB_2.out.size)) (Nat.le_trans HB_2.out.size lg6) (cE dn))
  clear XR_2 SQ_2 UP0_2 HB_2 PV lg6 bg6 hbf DD3
  generalize V.setRow g6 (cE dn) = W3 at *
  have PV : Hid (∀ V, Below W3.heap.size W3 V → PrimeAt V) := Lib.hid fun V hV => HP.out.old (HB_3.out.trans (hV.mono HB_3.out.size))
  go_upto_region 4 with fail
  (try simp only [Act.put, List.setIfInBounds_toArray, List.set_cons_zero, List.set_cons_succ])
  have DD4 : Hid (∀ V, Below W3.heap.size W3 V → Below W3.heap.size W3 V) := Lib.hid fun _ h => h
  refine wp_sched [(20, .is (.agg (cE up))), (21, .is (.agg (cE dn))), (22, .is (.agg (cE f))), (23, .is (.agg (cE r))), (24, .is (.tuple #[.agg (cE ro), .bool b])), (25, .is (.agg (cE ro))), (26, .is (.bool b))] (fun V => Below W3.heap.size W3 V) (by kernel_rfl) (by kernel_rfl) (by kernel_rfl) (by kernel_rfl) DD4.out ?hg4 _ (by rfl) ?hf4
  case hg4 =>
    refine goods_is (by kernel_rfl) (fun a V h hS K Q hK => op_quiet (quiet_load_row 28 (.tmp 5) _ (look_at h 5 (by kernel_rfl) (by kernel_rfl)) 28 (cE up) _ (UP0_3.out.old hS) Tryd.underlying28 rfl (cE_ok _).1 (by kernel_rfl)) hK) ?_
    refine goods_is (by kernel_rfl) (fun a V h hS K Q hK => op_quiet (quiet_load_row 28 (.tmp 6) _ (look_at h 6 (by kernel_rfl) (by kernel_rfl)) 28 (cE dn) _ (DN_3.out.old hS) Tryd.underlying28 rfl (cE_ok _).1 (by kernel_rfl)) hK) ?_
    refine goods_is (by kernel_rfl) (fun a V h hS K Q hK => op_callK #[.tmp 21] #[.agg (cE dn)] (by kernel_rfl) (by kernel_rfl) (by kernel_rfl) (map1 (look_at h 21 (by kernel_rfl) (by kernel_rfl))) (C6.out V (PV.out V hS)) (by kernel_rfl) hK) ?_
    refine goods_is (by kernel_rfl) (fun a V h hS K Q hK => op_callK #[.tmp 20, .tmp 22] #[.agg (cE up), .agg (cE f)] (by kernel_rfl) (by kernel_rfl) (by kernel_rfl) (map2 (look_at h 20 (by kernel_rfl) (by kernel_rfl)) (look_at h 22 (by kernel_rfl) (by kernel_rfl))) (C7.out V (PV.out V hS)) (by kernel_rfl) hK) ?_
    refine goods_is (by kernel_rfl) (fun a V h hS K Q hK => op_callK #[.tmp 23] #[.agg (cE r)] (by kernel_rfl) (by kernel_rfl) (by kernel_rfl) (map1 (look_at h 23 (by kernel_rfl) (by kernel_rfl))) (CR.out V (PV.out V hS) (HB_3.out.trans (hS.mono HB_3.out.size))) (by kernel_rfl) hK) ?_
    refine goods_is (by kernel_rfl) (fun a V h hS K Q hK => op_quiet (quiet_extract (t := #[.agg (cE ro), .bool b]) (.tmp 24) 0 (look_at h 24 (by kernel_rfl) (by kernel_rfl)) rfl (by kernel_rfl)) hK) ?_
    refine goods_is (by kernel_rfl) (fun a V h hS K Q hK => op_quiet (quiet_extract (t := #[.agg (cE ro), .bool b]) (.tmp 24) 1 (look_at h 24 (by kernel_rfl) (by kernel_rfl)) rfl (by kernel_rfl)) hK) ?_
    exact goods_nil
  case hf4 =>
  intro g V hF
  have hbf := hF.below
  clear hF
  simp only [finL, Pl.val, List.setIfInBounds_toArray, List.set_cons_zero, List.set_cons_succ]
  refine wpList_store_row rfl 28 (.tmp 2) (.tmp 25) rfl (w.heap.size + 1) (cE ro) rfl rfl 28 zf (XR_3.out.old hbf) (cE_ok _).1 (ofE.out _) (cE_ok _).2 ?_
  have XR_4 := Lib.hid ((XR_3.out.old hbf).row (cE ro))
  have HB_4 := Lib.hid (below_row (g := (w.heap.size + 1)) (HB_3.out.trans (hbf.mono HB_3.out.size)) (Nat.le_succ _) (cE ro))
  clear XR_3 UP0_3 DN_3 HB_3 PV hbf DD4
  generalize V.setRow (w.heap.size + 1) (cE ro) = W4 at *
  have PV : Hid (∀ V, Below W4.heap.size W4 V → PrimeAt V) := Lib.hid fun V hV => HP.out.old (HB_4.out.trans (hV.mono HB_4.out.size))
  go_wp2_with fail
  refine bodyPost_ret (v := .tuple #[.agg (cE ro), .bool b]) ?_ rfl ⟨rfl, HB_4.out⟩
  exact results_row_tmp1 Tryd.results29 _ _ (w.heap.size + 1) 28 _ _ _ rfl rfl XR_4.out Tryd.underlying28 (cE_ok _).1

theorem evenX_any (y : Fp) (w : World) (hP : PrimeAt w) (hT : TurnAt w) : Calls Tryd.prog 29 #[.agg (cE y)] w fun e w' => e = .returned (.tuple #[.agg (cE (rootF (xsq y))), .bool (decide (hasRoot (xsq y).val))]) ∧ Below w.heap.size w w' := by
  rw [xsq_prog (y := y) (one := 1) rfl rfl rfl rfl rfl rfl rfl rfl]
  exact evenP y _ _ _ _ _ _ _ 1 rfl rfl rfl rfl rfl rfl rfl rfl w hP hT

set_option maxHeartbeats 4000000 in
set_option maxRecDepth 100000 in
theorem baseP (w : World) (hP : PrimeAt w) (hT : TurnAt w) : Calls Tryd.prog 20 #[] w fun e w' => e = .returned (.agg (uV pbase.x pbase.y 1)) ∧ Below w.heap.size w w' := by
  obtain ⟨four, h4⟩ : ∃ a : Fp, Hid (a = 4) := ⟨_, Lib.hid rfl⟩
  obtain ⟨five, h5⟩ : ∃ a : Fp, Hid (a = 5) := ⟨_, Lib.hid rfl⟩
  have C4 : Hid (∀ V, Calls Tryd.prog 31 #[.int .u64 4] V fun e w' => e = .returned (.agg (cE four)) ∧ Below V.heap.size V w') := Lib.hid fun V => eOf 4 (by decide) (by decide) four (by rw [h4.out]; exact fv _ _ (by decide)) _ rfl V
  have C5 : Hid (∀ V, Calls Tryd.prog 31 #[.int .u64 5] V fun e w' => e = .returned (.agg (cE five)) ∧ Below V.heap.size V w') := Lib.hid fun V => eOf 5 (by decide) (by decide) five (by rw [h5.out]; exact fv _ _ (by decide)) _ rfl V
  obtain ⟨iv, hiv⟩ : ∃ a : Fp, Hid (a = finv five) := ⟨_, Lib.hid rfl⟩
  have CI : Hid (∀ V, PrimeAt V → Calls Tryd.prog 37 #[.agg (cE five)] V fun e w' => e = .returned (.agg (cE iv)) ∧ Below V.heap.size V w') := Lib.hid fun V hV => by rw [hiv.out]; exact eInv _ V hV
  obtain ⟨y, hy⟩ : ∃ a : Fp, Hid (a = pbase.y) := ⟨_, Lib.hid rfl⟩
  obtain ⟨x, hx⟩ : ∃ a : Fp, Hid (a = pbase.x) := ⟨_, Lib.hid rfl⟩
  have CM : Hid (∀ V, PrimeAt V → Calls Tryd.prog 38 #[.agg (cE four), .agg (cE iv)] V fun e w' => e = .returned (.agg (cE y)) ∧ Below V.heap.size V w') := Lib.hid fun V hV => by
    have := eMul four iv V hV
    rwa [show four * iv = y by rw [h4.out, hiv.out, h5.out, hy.out]; exact base_gy] at this
  obtain ⟨b, hbb⟩ : ∃ b, Hid (b = true) := ⟨_, Lib.hid rfl⟩
  have HT := Lib.hid hT
  have CX : Hid (∀ V, PrimeAt V → Below w.heap.size w V → Calls Tryd.prog 29 #[.agg (cE y)] V fun e w' => e = .returned (.tuple #[.agg (cE x), .bool b]) ∧ Below V.heap.size V w') := Lib.hid fun V hV hW => by
    have := evenX_any y V hV (HT.out.old hW)
    rwa [hy.out, base_x_root.2, decide_eq_true base_x_root.1, ← hx.out, ← hbb.out, ← hy.out] at this
  have CP : Hid (∀ V, Calls Tryd.prog 32 #[.agg (cE x), .agg (cE y)] V fun e w' => e = .returned (.agg (uV x y 1)) ∧ Below V.heap.size V w') := Lib.hid fun V => pairP x y V
  rw [← hx.out, ← hy.out]
  obtain ⟨z, hz⟩ : ∃ z, Hid (z = uV 0 0 0) := ⟨_, Lib.hid rfl⟩
  have hz0 : ∀ W, (zeroValue 30).run Tryd.prog W = .ok (.agg z) W := by rw [hz.out]; exact zeroU
  obtain ⟨zf, hzf⟩ : ∃ z, Hid (z = cE 0) := ⟨_, Lib.hid rfl⟩
  have hzf0 : ∀ W, (zeroValue 28).run Tryd.prog W = .ok (.agg zf) W := by rw [hzf.out]; exact zeroE
  have ofE : Hid (∀ a : Fp, zf.size = (cE a).size) := Lib.hid (fun a => by rw [hzf.out]; exact cE_sz _ _)
  have ok := Lib.hid (uV_okz x y 1)
  rw [← hz.out] at ok
  generalize uV x y 1 = R at *
  have b1 := Blk.new w 30 z
  have hb : Below w.heap.size w (w.alloc (.cells z 30)) := (Below.refl _ _).alloc (Nat.le_refl _) _
  have HP := Lib.hid hP
  clear hz hzf h4 h5 hiv hy hx hbb hP hT HT
  go_enter Tryd.func20, Tryd.ntmps20
  go_upto_region 1 with fail
  generalize w.alloc (.cells z 30) = W at *
  have XR := Lib.hid b1
  have HB := Lib.hid hb
  clear b1 hb
  (try simp only [Act.put, List.setIfInBounds_toArray, List.set_cons_zero, List.set_cons_succ])
  have PV : Hid (∀ V, Below W.heap.size W V → PrimeAt V) := Lib.hid fun V hV => HP.out.old (HB.out.trans (hV.mono HB.out.size))
  have DD1 : Hid (∀ V, Below W.heap.size W V → Below W.heap.size W V) := Lib.hid fun _ h => h
  refine wp_sched [(4, .is (.agg (cE four))), (5, .is (.agg (cE five))), (6, .is (.agg (cE iv))), (7, .is (.agg (cE y))), (1, .fresh 28 zf)] (fun V => Below W.heap.size W V) (by kernel_rfl) (by kernel_rfl) (by kernel_rfl) (by kernel_rfl) DD1.out ?hg1 _ (by rfl) ?hf1
  case hg1 =>
    refine goods_is (by kernel_rfl) (fun a V h hS K Q hK => op_callK #[.const (.int .u64 4)] #[.int .u64 4] (by kernel_rfl) (by kernel_rfl) (by kernel_rfl) (map1 rfl) (C4.out V) (by kernel_rfl) hK) ?_
    refine goods_is (by kernel_rfl) (fun a V h hS K Q hK => op_callK #[.const (.int .u64 5)] #[.int .u64 5] (by kernel_rfl) (by kernel_rfl) (by kernel_rfl) (map1 rfl) (C5.out V) (by kernel_rfl) hK) ?_
    refine goods_is (by kernel_rfl) (fun a V h hS K Q hK => op_callK #[.tmp 5] #[.agg (cE five)] (by kernel_rfl) (by kernel_rfl) (by kernel_rfl) (map1 (look_at h 5 (by kernel_rfl) (by kernel_rfl))) (CI.out V (PV.out V hS)) (by kernel_rfl) hK) ?_
    refine goods_is (by kernel_rfl) (fun a V h hS K Q hK => op_callK #[.tmp 4, .tmp 6] #[.agg (cE four), .agg (cE iv)] (by kernel_rfl) (by kernel_rfl) (by kernel_rfl) (map2 (look_at h 4 (by kernel_rfl) (by kernel_rfl)) (look_at h 6 (by kernel_rfl) (by kernel_rfl))) (CM.out V (PV.out V hS)) (by kernel_rfl) hK) ?_
    refine goods_fresh (by kernel_rfl) hzf0 ?_
    exact goods_nil
  case hf1 =>
  intro g V hF
  obtain ⟨lg1, bg1⟩ := hF.blk 4 _ _ rfl
  have hbf := hF.below
  clear hF
  simp only [finL, Pl.val, List.setIfInBounds_toArray, List.set_cons_zero, List.set_cons_succ]
  generalize g 4 = g1 at *
  refine wpList_store_row rfl 28 (.tmp 1) (.tmp 7) rfl g1 (cE y) rfl rfl 28 zf bg1 (cE_ok _).1 (ofE.out _) (cE_ok _).2 ?_
  have XR_1 := Lib.hid ((XR.out.old hbf).rowFar (Nat.ne_of_lt (Nat.lt_of_lt_of_le XR.out.lt lg1)) (cE y))
  have YY_1 := Lib.hid (bg1.row (cE y))
  have LG1 := Lib.hid (Nat.le_trans HB.out.size lg1)
  have HB_1 := Lib.hid (below_row (g := g1) (HB.out.trans (hbf.mono HB.out.size)) (Nat.le_trans HB.out.size lg1) (cE y))
  clear XR HB PV lg1 bg1 hbf DD1
  generalize V.setRow g1 (cE y) = W1 at *
  have PV : Hid (∀ V, Below W1.heap.size W1 V → PrimeAt V) := Lib.hid fun V hV => HP.out.old (HB_1.out.trans (hV.mono HB_1.out.size))
  go_upto_region 2 with fail
  (try simp only [Act.put, List.setIfInBounds_toArray, List.set_cons_zero, List.set_cons_succ])
  have DD2 : Hid (∀ V, Below W1.heap.size W1 V → Below W1.heap.size W1 V) := Lib.hid fun _ h => h
  refine wp_sched [(9, .is (.agg (cE y))), (10, .is (.tuple #[.agg (cE x), .bool b])), (8, .is (.tuple #[.agg (cE x), .bool b])), (11, .is (.agg (cE x))), (12, .is (.bool b)), (2, .fresh 28 zf)] (fun V => Below W1.heap.size W1 V) (by kernel_rfl) (by kernel_rfl) (by kernel_rfl) (by kernel_rfl) DD2.out ?hg2 _ (by rfl) ?hf2
  case hg2 =>
    refine goods_is (by kernel_rfl) (fun a V h hS K Q hK => op_quiet (quiet_load_row 28 (.tmp 1) _ (look_at h 1 (by kernel_rfl) (by kernel_rfl)) 28 (cE y) _ (YY_1.out.old hS) Tryd.underlying28 rfl (cE_ok _).1 (by kernel_rfl)) hK) ?_
    refine goods_is (by kernel_rfl) (fun a V h hS K Q hK => op_callK #[.tmp 9] #[.agg (cE y)] (by kernel_rfl) (by kernel_rfl) (by kernel_rfl) (map1 (look_at h 9 (by kernel_rfl) (by kernel_rfl))) (CX.out V (PV.out V hS) (HB_1.out.trans (hS.mono HB_1.out.size))) (by kernel_rfl) hK) ?_
    refine goods_is (by kernel_rfl) (fun a V h hS K Q hK => op_quiet (quiet_move (.tmp 10) (look_at h 10 (by kernel_rfl) (by kernel_rfl)) (.inl (by kernel_rfl))) hK) ?_
    refine goods_is (by kernel_rfl) (fun a V h hS K Q hK => op_quiet (quiet_extract (t := #[.agg (cE x), .bool b]) (.tmp 8) 0 (look_at h 8 (by kernel_rfl) (by kernel_rfl)) rfl (by kernel_rfl)) hK) ?_
    refine goods_is (by kernel_rfl) (fun a V h hS K Q hK => op_quiet (quiet_extract (t := #[.agg (cE x), .bool b]) (.tmp 8) 1 (look_at h 8 (by kernel_rfl) (by kernel_rfl)) rfl (by kernel_rfl)) hK) ?_
    refine goods_fresh (by kernel_rfl) hzf0 ?_
    exact goods_nil
  case hf2 =>
  intro g V hF
  obtain ⟨lg2, bg2⟩ := hF.blk 5 _ _ rfl
  have hbf := hF.below
  clear hF
  simp only [finL, Pl.val, List.setIfInBounds_toArray, List.set_cons_zero, List.set_cons_succ]
  generalize g 5 = g2 at *
  refine wpList_store_row rfl 28 (.tmp 2) (.tmp 11) rfl g2 (cE x) rfl rfl 28 zf bg2 (cE_ok _).1 (ofE.out _) (cE_ok _).2 ?_
  have XR_2 := Lib.hid ((XR_1.out.old hbf).rowFar (Nat.ne_of_lt (Nat.lt_of_lt_of_le XR_1.out.lt lg2)) (cE x))
  have YY_2 := Lib.hid ((YY_1.out.old hbf).rowFar (Nat.ne_of_lt (Nat.lt_of_lt_of_le YY_1.out.lt lg2)) (cE x))
  have XX_2 := Lib.hid (bg2.row (cE x))
  have LG2 := Lib.hid (Nat.le_trans HB_1.out.size lg2)
  have HB_2 := Lib.hid (below_row (g := g2) (HB_1.out.trans (hbf.mono HB_1.out.size)) (Nat.le_trans HB_1.out.size lg2) (cE x))
  clear XR_1 YY_1 HB_1 PV lg2 bg2 hbf DD2
  generalize V.setRow g2 (cE x) = W2 at *
  have PV : Hid (∀ V, Below W2.heap.size W2 V → PrimeAt V) := Lib.hid fun V hV => HP.out.old (HB_2.out.trans (hV.mono HB_2.out.size))
  go_upto_region 3 with fail
  (try simp only [Act.put, List.setIfInBounds_toArray, List.set_cons_zero, List.set_cons_succ])
  have DD3 : Hid (∀ V, Below W2.heap.size W2 V → Below W2.heap.size W2 V) := Lib.hid fun _ h => h
  refine wp_sched [(13, .is (.agg (cE x))), (14, .is (.agg (cE y))), (15, .is (.agg R))] (fun V => Below W2.heap.size W2 V) (by kernel_rfl) (by kernel_rfl) (by kernel_rfl) (by kernel_rfl) DD3.out ?hg3 _ (by rfl) ?hf3
  case hg3 =>
    refine goods_is (by kernel_rfl) (fun a V h hS K Q hK => op_quiet (quiet_load_row 28 (.tmp 2) _ (look_at h 2 (by kernel_rfl) (by kernel_rfl)) 28 (cE x) _ (XX_2.out.old hS) Tryd.underlying28 rfl (cE_ok _).1 (by kernel_rfl)) hK) ?_
    refine goods_is (by kernel_rfl) (fun a V h hS K Q hK => op_quiet (quiet_load_row 28 (.tmp 1) _ (look_at h 1 (by kernel_rfl) (by kernel_rfl)) 28 (cE y) _ (YY_2.out.old hS) Tryd.underlying28 rfl (cE_ok _).1 (by kernel_rfl)) hK) ?_
    refine goods_is (by kernel_rfl) (fun a V h hS K Q hK => op_callK #[.tmp 13, .tmp 14] #[.agg (cE x), .agg (cE y)] (by kernel_rfl) (by kernel_rfl) (by kernel_rfl) (map2 (look_at h 13 (by kernel_rfl) (by kernel_rfl)) (look_at h 14 (by kernel_rfl) (by kernel_rfl))) (CP.out V) (by kernel_rfl) hK) ?_
    exact goods_nil
  case hf3 =>
  intro g V hF
  have hbf := hF.below
  clear hF
  simp only [finL, Pl.val, List.setIfInBounds_toArray, List.set_cons_zero, List.set_cons_succ]
  refine wpList_store_row rfl 30 (.tmp 0) (.tmp 15) rfl w.heap.size R rfl rfl 30 z (XR_2.out.old hbf) ok.out.1 ok.out.2.2 ok.out.2.1 ?_
  have XR_3 := Lib.hid ((XR_2.out.old hbf).row R)
  have HB_3 := Lib.hid (below_row (g := w.heap.size) (HB_2.out.trans (hbf.mono HB_2.out.size)) (Nat.le_refl _) R)
  clear XR_2 YY_2 XX_2 HB_2 PV hbf DD3
  generalize V.setRow w.heap.size R = W3 at *
  have PV : Hid (∀ V, Below W3.heap.size W3 V → PrimeAt V) := Lib.hid fun V hV => HP.out.old (HB_3.out.trans (hV.mono HB_3.out.size))
  go_wp2_with fail
  refine bodyPost_ret (v := .agg R) ?_ rfl ⟨rfl, HB_3.out⟩
  exact results_cell_row Tryd.results20 _ _ w.heap.size 30 _ (0, 0) _ rfl XR_3.out Tryd.underlying30 rfl ok.out.1

theorem basePU (w : World) (hP : PrimeAt w) (hT : TurnAt w) : Calls Tryd.prog 20 #[] w fun e w' => ∃ c, e = .returned (.agg c) ∧ PU pbase c ∧ Below w.heap.size w w' := by
  refine (baseP w hP hT).mono ?_
  rintro e w' ⟨rfl, hb⟩
  exact ⟨_, rfl, ⟨_, _, _, rep_one pbase, rfl⟩, hb⟩
end Go.Proofs.YtjiadbaaggifpaaDoor
end

section
set_option linter.unusedVariables false
set_option linter.unusedSimpArgs false
namespace Go.Proofs.YtjiadbaaggifpaaDoor
open Go Go.Proofs Go.RowKit F5

set_option maxHeartbeats 4000000 in
set_option maxRecDepth 100000 in
theorem sameP (X1 Y1 Z1 X2 Y2 Z2 m1 m2 m3 m4 : Fp) (h1 : X1 * Z2 = m1) (h2 : X2 * Z1 = m2) (h3 : Y1 * Z2 = m3) (h4 : Y2 * Z1 = m4) (w : World) (hP : PrimeAt w) :
    Calls Tryd.prog 19 #[.agg (uV X1 Y1 Z1), .agg (uV X2 Y2 Z2)] w fun e w' => e = .returned (.bool (decide (m1 = m2) && decide (m3 = m4))) ∧ Below w.heap.size w w' := by
  have MUL (p q r : Fp) (h : p * q = r) : Hid (∀ V, PrimeAt V → Calls Tryd.prog 38 #[.agg (cE p), .agg (cE q)] V fun e w' => e = .returned (.agg (cE r)) ∧ Below V.heap.size V w') := Lib.hid fun V hV => by rw [← h]; exact eMul _ _ V hV
  have SUB (p q r : Fp) (h : p - q = r) : Hid (∀ V, PrimeAt V → Calls Tryd.prog 43 #[.agg (cE p), .agg (cE q)] V fun e w' => e = .returned (.agg (cE r)) ∧ Below V.heap.size V w') := Lib.hid fun V hV => by rw [← h]; exact eSub _ _ V hV
  have ADD (p q r : Fp) (h : p + q = r) : Hid (∀ V, PrimeAt V → Calls Tryd.prog 42 #[.agg (cE p), .agg (cE q)] V fun e w' => e = .returned (.agg (cE r)) ∧ Below V.heap.size V w') := Lib.hid fun V hV => by rw [← h]; exact eAdd _ _ V hV
  have C1 := MUL _ _ _ h1
  have C2 := MUL _ _ _ h2
  have C3 := MUL _ _ _ h3
  have C4 := MUL _ _ _ h4
  obtain ⟨b1, hb1⟩ : ∃ b, Hid (b = decide (m1 = m2)) := ⟨_, Lib.hid rfl⟩
  obtain ⟨b2, hb2⟩ : ∃ b, Hid (b = decide (m3 = m4)) := ⟨_, Lib.hid rfl⟩
  have S1 : Hid (∀ V, Calls Tryd.prog 30 #[.agg (cE m1), .agg (cE m2)] V fun e w' => e = .returned (.bool b1) ∧ Below V.heap.size V w') := Lib.hid fun V => by rw [hb1.out]; exact eSame _ _ V
  have S2 : Hid (∀ V, Calls Tryd.prog 30 #[.agg (cE m3), .agg (cE m4)] V fun e w' => e = .returned (.bool b2) ∧ Below V.heap.size V w') := Lib.hid fun V => by rw [hb2.out]; exact eSame _ _ V
  rw [← hb1.out, ← hb2.out]
  clear MUL SUB ADD h1 h2 h3 h4 hb1 hb2
  have oA := Lib.hid (uV_okz X1 Y1 Z1)
  have KX := Lib.hid (fun (V : World) g T (h : Blk V g T (uV X1 Y1 Z1)) => uV_cell_x h)
  have KY := Lib.hid (fun (V : World) g T (h : Blk V g T (uV X1 Y1 Z1)) => uV_cell_y h)
  have KZ := Lib.hid (fun (V : World) g T (h : Blk V g T (uV X1 Y1 Z1)) => uV_cell_z h)
  generalize uV X1 Y1 Z1 = A at *
  have LX := Lib.hid (fun (V : World) g T (h : Blk V g T (uV X2 Y2 Z2)) => uV_cell_x h)
  have LY := Lib.hid (fun (V : World) g T (h : Blk V g T (uV X2 Y2 Z2)) => uV_cell_y h)
  have LZ := Lib.hid (fun (V : World) g T (h : Blk V g T (uV X2 Y2 Z2)) => uV_cell_z h)
  generalize uV X2 Y2 Z2 = B at *
  obtain ⟨b1', b2', hb⟩ := two_blks w A B 30 30
  have HP := Lib.hid hP
  clear hP
  go_enter Tryd.func19, Tryd.ntmps19
  go_upto_region 1 with fail
  generalize (w.alloc (.cells A 30)).alloc (.cells B 30) = W at *
  have P1 := Lib.hid b1'
  have P2 := Lib.hid b2'
  have HB := Lib.hid hb
  clear b1' b2' hb
  (try simp only [Act.put, List.setIfInBounds_toArray, List.set_cons_zero, List.set_cons_succ])
  have PV : Hid (∀ V, Below W.heap.size W V → PrimeAt V) := Lib.hid fun V hV => HP.out.old (HB.out.trans (hV.mono HB.out.size))
  cases b1
  · skip
    have DD1 : Hid (∀ V, Below W.heap.size W V → Below W.heap.size W V) := Lib.hid fun _ h => h
    refine wp_sched [(5, .is (.pointer (some ⟨w.heap.size, 0, none⟩))), (6, .is (.agg (cE X1))), (7, .is (.pointer (some ⟨(w.heap.size + 1), 0 + 8, none⟩))), (8, .is (.agg (cE Z2))), (9, .is (.agg (cE m1))), (10, .is (.pointer (some ⟨(w.heap.size + 1), 0, none⟩))), (11, .is (.agg (cE X2))), (12, .is (.pointer (some ⟨w.heap.size, 0 + 8, none⟩))), (13, .is (.agg (cE Z1))), (14, .is (.agg (cE m2))), (15, .is (.bool false)), (16, .is (.bool false)), (17, .is undef), (18, .is undef), (19, .is undef), (20, .is undef), (21, .is undef), (22, .is undef), (23, .is undef), (24, .is undef), (25, .is undef), (26, .is undef), (27, .is undef), (28, .is (.bool false))] (fun V => Below W.heap.size W V) (by kernel_rfl) (by kernel_rfl) (by kernel_rfl) (by kernel_rfl) DD1.out ?hg1 _ (by rfl) ?hf1
    case hg1 =>
      refine goods_is (by kernel_rfl) (fun a V h hS K Q hK => op_quiet (quiet_field _ (.tmp 2) 0 _ _ (look_at h 2 (by kernel_rfl) (by kernel_rfl)) (fa0 _ _) rfl) hK) ?_
      refine goods_is (by kernel_rfl) (fun a V h hS K Q hK => op_quiet (quiet_load_off 28 (.tmp 5) _ _ (look_at h 5 (by kernel_rfl) (by kernel_rfl)) (cE X1) _ (KX.out _ _ _ (P1.out.old hS)) Tryd.underlying28 rfl (cE_ok _).1 (by kernel_rfl)) hK) ?_
      refine goods_is (by kernel_rfl) (fun a V h hS K Q hK => op_quiet (quiet_field _ (.tmp 3) 2 _ _ (look_at h 3 (by kernel_rfl) (by kernel_rfl)) (fa2 _ _) rfl) hK) ?_
      refine goods_is (by kernel_rfl) (fun a V h hS K Q hK => op_quiet (quiet_load_off 28 (.tmp 7) _ _ (look_at h 7 (by kernel_rfl) (by kernel_rfl)) (cE Z2) _ (LZ.out _ _ _ (P2.out.old hS)) Tryd.underlying28 rfl (cE_ok _).1 (by kernel_rfl)) hK) ?_
      refine goods_is (by kernel_rfl) (fun a V h hS K Q hK => op_callK #[.tmp 6, .tmp 8] #[.agg (cE X1), .agg (cE Z2)] (by kernel_rfl) (by kernel_rfl) (by kernel_rfl) (map2 (look_at h 6 (by kernel_rfl) (by kernel_rfl)) (look_at h 8 (by kernel_rfl) (by kernel_rfl))) (C1.out V (PV.out V hS)) (by kernel_rfl) hK) ?_
      refine goods_is (by kernel_rfl) (fun a V h hS K Q hK => op_quiet (quiet_field _ (.tmp 3) 0 _ _ (look_at h 3 (by kernel_rfl) (by kernel_rfl)) (fa0 _ _) rfl) hK) ?_
      refine goods_is (by kernel_rfl) (fun a V h hS K Q hK => op_quiet (quiet_load_off 28 (.tmp 10) _ _ (look_at h 10 (by kernel_rfl) (by kernel_rfl)) (cE X2) _ (LX.out _ _ _ (P2.out.old hS)) Tryd.underlying28 rfl (cE_ok _).1 (by kernel_rfl)) hK) ?_
      refine goods_is (by kernel_rfl) (fun a V h hS K Q hK => op_quiet (quiet_field _ (.tmp 2) 2 _ _ (look_at h 2 (by kernel_rfl) (by kernel_rfl)) (fa2 _ _) rfl) hK) ?_
      refine goods_is (by kernel_rfl) (fun a V h hS K Q hK => op_quiet (quiet_load_off 28 (.tmp 12) _ _ (look_at h 12 (by kernel_rfl) (by kernel_rfl)) (cE Z1) _ (KZ.out _ _ _ (P1.out.old hS)) Tryd.underlying28 rfl (cE_ok _).1 (by kernel_rfl)) hK) ?_
      refine goods_is (by kernel_rfl) (fun a V h hS K Q hK => op_callK #[.tmp 11, .tmp 13] #[.agg (cE X2), .agg (cE Z1)] (by kernel_rfl) (by kernel_rfl) (by kernel_rfl) (map2 (look_at h 11 (by kernel_rfl) (by kernel_rfl)) (look_at h 13 (by kernel_rfl) (by kernel_rfl))) (C2.out V (PV.out V hS)) (by kernel_rfl) hK) ?_
      refine goods_is (by kernel_rfl) (fun a V h hS K Q hK => op_callK #[.tmp 9, .tmp 14] #[.agg (cE m1), .agg (cE m2)] (by kernel_rfl) (by kernel_rfl) (by kernel_rfl) (map2 (look_at h 9 (by kernel_rfl) (by kernel_rfl)) (look_at h 14 (by kernel_rfl) (by kernel_rfl))) (S1.out V) (by kernel_rfl) hK) ?_
      refine goods_is (by kernel_rfl) (fun a V h hS K Q hK => op_quiet (quiet_move (.tmp 15) (look_at h 15 (by kernel_rfl) (by kernel_rfl)) (.inl (by kernel_rfl))) hK) ?_
      refine goods_off (j := 11) (want := true) (d := 16) (u := .bool false) (by kernel_rfl) (by kernel_rfl) (by kernel_rfl) (by kernel_rfl) (by kernel_rfl) ?_
      refine goods_off (j := 11) (want := true) (d := 16) (u := .bool false) (by kernel_rfl) (by kernel_rfl) (by kernel_rfl) (by kernel_rfl) (by kernel_rfl) ?_
      refine goods_off (j := 11) (want := true) (d := 16) (u := .bool false) (by kernel_rfl) (by kernel_rfl) (by kernel_rfl) (by kernel_rfl) (by kernel_rfl) ?_
      refine goods_off (j := 11) (want := true) (d := 16) (u := .bool false) (by kernel_rfl) (by kernel_rfl) (by kernel_rfl) (by kernel_rfl) (by kernel_rfl) ?_
      refine goods_off (j := 11) (want := true) (d := 16) (u := .bool false) (by kernel_rfl) (by kernel_rfl) (by kernel_rfl) (by kernel_rfl) (by kernel_rfl) ?_
      refine goods_off (j := 11) (want := true) (d := 16) (u := .bool false) (by kernel_rfl) (by kernel_rfl) (by kernel_rfl) (by kernel_rfl) (by kernel_rfl) ?_
      refine goods_off (j := 11) (want := true) (d := 16) (u := .bool false) (by kernel_rfl) (by kernel_rfl) (by kernel_rfl) (by kernel_rfl) (by kernel_rfl) ?_
      refine goods_off (j := 11) (want := true) (d := 16) (u := .bool false) (by kernel_rfl) (by kernel_rfl) (by kernel_rfl) (by kernel_rfl) (by kernel_rfl) ?_
      refine goods_off (j := 11) (want := true) (d := 16) (u := .bool false) (by kernel_rfl) (by kernel_rfl) (by kernel_rfl) (by kernel_rfl) (by kernel_rfl) ?_
      refine goods_off (j := 11) (want := true) (d := 16) (u := .bool false) (by kernel_rfl) (by kernel_rfl) (by kernel_rfl) (by kernel_rfl) (by kernel_rfl) ?_
      refine goods_off (j := 11) (want := true) (d := 16) (u := .bool false) (by kernel_rfl) (by kernel_rfl) (by kernel_rfl) (by kernel_rfl) (by kernel_rfl) ?_
      refine goods_is (by kernel_rfl) (fun a V h hS K Q hK => op_quiet (quiet_pickF (.tmp 16) (.tmp 27) (.const (.bool false)) (look_at h 16 (by kernel_rfl) (by kernel_rfl)) rfl (by kernel_rfl)) hK) ?_
      exact goods_nil
    case hf1 =>
    intro g V hF
    have hbf := hF.below
    clear hF
    simp only [finL, Pl.val, List.setIfInBounds_toArray, List.set_cons_zero, List.set_cons_succ]
    have HBB := Lib.hid (HB.out.trans (hbf.mono HB.out.size))
    clear hbf
    go_wp2_with fail
    go_ret
    exact ⟨by first | rfl | simp, HBB.out⟩
  · skip
    have DD1 : Hid (∀ V, Below W.heap.size W V → Below W.heap.size W V) := Lib.hid fun _ h => h
    refine wp_sched [(5, .is (.pointer (some ⟨w.heap.size, 0, none⟩))), (6, .is (.agg (cE X1))), (7, .is (.pointer (some ⟨(w.heap.size + 1), 0 + 8, none⟩))), (8, .is (.agg (cE Z2))), (9, .is (.agg (cE m1))), (10, .is (.pointer (some ⟨(w.heap.size + 1), 0, none⟩))), (11, .is (.agg (cE X2))), (12, .is (.pointer (some ⟨w.heap.size, 0 + 8, none⟩))), (13, .is (.agg (cE Z1))), (14, .is (.agg (cE m2))), (15, .is (.bool true)), (16, .is (.bool true)), (17, .is (.pointer (some ⟨w.heap.size, 0 + 4, none⟩))), (18, .is (.agg (cE Y1))), (19, .is (.pointer (some ⟨(w.heap.size + 1), 0 + 8, none⟩))), (20, .is (.agg (cE Z2))), (21, .is (.agg (cE m3))), (22, .is (.pointer (some ⟨(w.heap.size + 1), 0 + 4, none⟩))), (23, .is (.agg (cE Y2))), (24, .is (.pointer (some ⟨w.heap.size, 0 + 8, none⟩))), (25, .is (.agg (cE Z1))), (26, .is (.agg (cE m4))), (27, .is (.bool b2)), (28, .is (.bool b2))] (fun V => Below W.heap.size W V) (by kernel_rfl) (by kernel_rfl) (by kernel_rfl) (by kernel_rfl) DD1.out ?hg1 _ (by rfl) ?hf1
    case hg1 =>
      refine goods_is (by kernel_rfl) (fun a V h hS K Q hK => op_quiet (quiet_field _ (.tmp 2) 0 _ _ (look_at h 2 (by kernel_rfl) (by kernel_rfl)) (fa0 _ _) rfl) hK) ?_
      refine goods_is (by kernel_rfl) (fun a V h hS K Q hK => op_quiet (quiet_load_off 28 (.tmp 5) _ _ (look_at h 5 (by kernel_rfl) (by kernel_rfl)) (cE X1) _ (KX.out _ _ _ (P1.out.old hS)) Tryd.underlying28 rfl (cE_ok _).1 (by kernel_rfl)) hK) ?_
      refine goods_is (by kernel_rfl) (fun a V h hS K Q hK => op_quiet (quiet_field _ (.tmp 3) 2 _ _ (look_at h 3 (by kernel_rfl) (by kernel_rfl)) (fa2 _ _) rfl) hK) ?_
      refine goods_is (by kernel_rfl) (fun a V h hS K Q hK => op_quiet (quiet_load_off 28 (.tmp 7) _ _ (look_at h 7 (by kernel_rfl) (by kernel_rfl)) (cE Z2) _ (LZ.out _ _ _ (P2.out.old hS)) Tryd.underlying28 rfl (cE_ok _).1 (by kernel_rfl)) hK) ?_
      refine goods_is (by kernel_rfl) (fun a V h hS K Q hK => op_callK #[.tmp 6, .tmp 8] #[.agg (cE X1), .agg (cE Z2)] (by kernel_rfl) (by kernel_rfl) (by kernel_rfl) (map2 (look_at h 6 (by kernel_rfl) (by kernel_rfl)) (look_at h 8 (by kernel_rfl) (by kernel_rfl))) (C1.out V (PV.out V hS)) (by kernel_rfl) hK) ?_
      refine goods_is (by kernel_rfl) (fun a V h hS K Q hK => op_quiet (quiet_field _ (.tmp 3) 0 _ _ (look_at h 3 (by kernel_rfl) (by kernel_rfl)) (fa0 _ _) rfl) hK) ?_
      refine goods_is (by kernel_rfl) (fun a V h hS K Q hK => op_quiet (quiet_load_off 28 (.tmp 10) _ _ (look_at h 10 (by kernel_rfl) (by kernel_rfl)) (cE X2) _ (LX.out _ _ _ (P2.out.old hS)) Tryd.underlying28 rfl (cE_ok _).1 (by kernel_rfl)) hK) ?_
      refine goods_is (by kernel_rfl) (fun a V h hS K Q hK => op_quiet (quiet_field _ (.tmp 2) 2 _ _ (look_at h 2 (by kernel_rfl) (by kernel_rfl)) (fa2 _ _) rfl) hK) ?_
      refine goods_is (by kernel_rfl) (fun a V h hS K Q hK => op_quiet (quiet_load_off 28 (.tmp 12) _ _ (look_at h 12 (by kernel_rfl) (by kernel_rfl)) (cE Z1) _ (KZ.out _ _ _ (P1.out.old hS)) Tryd.underlying28 rfl (cE_ok _).1 (by kernel_rfl)) hK) ?_
      refine goods_is (by kernel_rfl) (fun a V h hS K Q hK => op_callK #[.tmp 11, .tmp 13] #[.agg (cE X2), .agg (cE Z1)] (by kernel_rfl) (by kernel_rfl) (by kernel_rfl) (map2 (look_at h 11 (by kernel_rfl) (by kernel_rfl)) (look_at h 13 (by kernel_rfl) (by kernel_rfl))) (C2.out V (PV.out V hS)) (by kernel_rfl) hK) ?_
      refine goods_is (by kernel_rfl) (fun a V h hS K Q hK => op_callK #[.tmp 9, .tmp 14] #[.agg (cE m1), .agg (cE m2)] (by kernel_rfl) (by kernel_rfl) (by kernel_rfl) (map2 (look_at h 9 (by kernel_rfl) (by kernel_rfl)) (look_at h 14 (by kernel_rfl) (by kernel_rfl))) (S1.out V) (by kernel_rfl) hK) ?_
      refine goods_is (by kernel_rfl) (fun a V h hS K Q hK => op_quiet (quiet_move (.tmp 15) (look_at h 15 (by kernel_rfl) (by kernel_rfl)) (.inl (by kernel_rfl))) hK) ?_
      refine goods_on (j := 11) (want := true) (d := 16) (u := .bool true) (by kernel_rfl) (by kernel_rfl) (by kernel_rfl) (by kernel_rfl) (by kernel_rfl) (fun a V h hS K Q hK => op_quiet (quiet_field _ (.tmp 2) 1 _ _ (look_at h 2 (by kernel_rfl) (by kernel_rfl)) (fa1 _ _) rfl) hK) ?_
      refine goods_on (j := 11) (want := true) (d := 16) (u := .bool true) (by kernel_rfl) (by kernel_rfl) (by kernel_rfl) (by kernel_rfl) (by kernel_rfl) (fun a V h hS K Q hK => op_quiet (quiet_load_off 28 (.tmp 17) _ _ (look_at h 17 (by kernel_rfl) (by kernel_rfl)) (cE Y1) _ (KY.out _ _ _ (P1.out.old hS)) Tryd.underlying28 rfl (cE_ok _).1 (by kernel_rfl)) hK) ?_
      refine goods_on (j := 11) (want := true) (d := 16) (u := .bool true) (by kernel_rfl) (by kernel_rfl) (by kernel_rfl) (by kernel_rfl) (by kernel_rfl) (fun a V h hS K Q hK => op_quiet (quiet_field _ (.tmp 3) 2 _ _ (look_at h 3 (by kernel_rfl) (by kernel_rfl)) (fa2 _ _) rfl) hK) ?_
      refine goods_on (j := 11) (want := true) (d := 16) (u := .bool true) (by kernel_rfl) (by kernel_rfl) (by kernel_rfl) (by kernel_rfl) (by kernel_rfl) (fun a V h hS K Q hK => op_quiet (quiet_load_off 28 (.tmp 19) _ _ (look_at h 19 (by kernel_rfl) (by kernel_rfl)) (cE Z2) _ (LZ.out _ _ _ (P2.out.old hS)) Tryd.underlying28 rfl (cE_ok _).1 (by kernel_rfl)) hK) ?_
      refine goods_on (j := 11) (want := true) (d := 16) (u := .bool true) (by kernel_rfl) (by kernel_rfl) (by kernel_rfl) (by kernel_rfl) (by kernel_rfl) (fun a V h hS K Q hK => op_callK #[.tmp 18, .tmp 20] #[.agg (cE Y1), .agg (cE Z2)] (by kernel_rfl) (by kernel_rfl) (by kernel_rfl) (map2 (look_at h 18 (by kernel_rfl) (by kernel_rfl)) (look_at h 20 (by kernel_rfl) (by kernel_rfl))) (C3.out V (PV.out V hS)) (by kernel_rfl) hK) ?_
      refine goods_on (j := 11) (want := true) (d := 16) (u := .bool true) (by kernel_rfl) (by kernel_rfl) (by kernel_rfl) (by kernel_rfl) (by kernel_rfl) (fun a V h hS K Q hK => op_quiet (quiet_field _ (.tmp 3) 1 _ _ (look_at h 3 (by kernel_rfl) (by kernel_rfl)) (fa1 _ _) rfl) hK) ?_
      refine goods_on (j := 11) (want := true) (d := 16) (u := .bool true) (by kernel_rfl) (by kernel_rfl) (by kernel_rfl) (by kernel_rfl) (by kernel_rfl) (fun a V h hS K Q hK => op_quiet (quiet_load_off 28 (.tmp 22) _ _ (look_at h 22 (by kernel_rfl) (by kernel_rfl)) (cE Y2) _ (LY.out _ _ _ (P2.out.old hS)) Tryd.underlying28 rfl (cE_ok _).1 (by kernel_rfl)) hK) ?_
      refine goods_on (j := 11) (want := true) (d := 16) (u := .bool true) (by kernel_rfl) (by kernel_rfl) (by kernel_rfl) (by kernel_rfl) (by kernel_rfl) (fun a V h hS K Q hK => op_quiet (quiet_field _ (.tmp 2) 2 _ _ (look_at h 2 (by kernel_rfl) (by kernel_rfl)) (fa2 _ _) rfl) hK) ?_
      refine goods_on (j := 11) (want := true) (d := 16) (u := .bool true) (by kernel_rfl) (by kernel_rfl) (by kernel_rfl) (by kernel_rfl) (by kernel_rfl) (fun a V h hS K Q hK => op_quiet (quiet_load_off 28 (.tmp 24) _ _ (look_at h 24 (by kernel_rfl) (by kernel_rfl)) (cE Z1) _ (KZ.out _ _ _ (P1.out.old hS)) Tryd.underlying28 rfl (cE_ok _).1 (by kernel_rfl)) hK) ?_
      refine goods_on (j := 11) (want := true) (d := 16) (u := .bool true) (by kernel_rfl) (by kernel_rfl) (by kernel_rfl) (by kernel_rfl) (by kernel_rfl) (fun a V h hS K Q hK => op_callK #[.tmp 23, .tmp 25] #[.agg (cE Y2), .agg (cE Z1)] (by kernel_rfl) (by kernel_rfl) (by kernel_rfl) (map2 (look_at h 23 (by kernel_rfl) (by kernel_rfl)) (look_at h 25 (by kernel_rfl) (by kernel_rfl))) (C4.out V (PV.out V hS)) (by kernel_rfl) hK) ?_
      refine goods_on (j := 11) (want := true) (d := 16) (u := .bool true) (by kernel_rfl) (by kernel_rfl) (by kernel_rfl) (by kernel_rfl) (by kernel_rfl) (fun a V h hS K Q hK => op_callK #[.tmp 21, .tmp 26] #[.agg (cE m3), .agg (cE m4)] (by kernel_rfl) (by kernel_rfl) (by kernel_rfl) (map2 (look_at h 21 (by kernel_rfl) (by kernel_rfl)) (look_at h 26 (by kernel_rfl) (by kernel_rfl))) (S2.out V) (by kernel_rfl) hK) ?_
      refine goods_is (by kernel_rfl) (fun a V h hS K Q hK => op_quiet (quiet_pickT (.tmp 16) (.tmp 27) (.const (.bool false)) (look_at h 16 (by kernel_rfl) (by kernel_rfl)) (look_at h 27 (by kernel_rfl) (by kernel_rfl)) (by kernel_rfl)) hK) ?_
      exact goods_nil
    case hf1 =>
    intro g V hF
    have hbf := hF.below
    clear hF
    simp only [finL, Pl.val, List.setIfInBounds_toArray, List.set_cons_zero, List.set_cons_succ]
    have HBB := Lib.hid (HB.out.trans (hbf.mono HB.out.size))
    clear hbf
    go_wp2_with fail
    go_ret
    exact ⟨by first | rfl | simp, HBB.out⟩

theorem samePU {p q : Pt} {a b : Array Value} (hp : PU p a) (hq : PU q b) (w : World) (hP : PrimeAt w) : Calls Tryd.prog 19 #[.agg a, .agg b] w fun e w' => e = .returned (.bool (decide (enc p = enc q))) ∧ Below w.heap.size w w' := by
  obtain ⟨X1, Y1, Z1, r1, rfl⟩ := hp
  obtain ⟨X2, Y2, Z2, r2, rfl⟩ := hq
  refine (sameP X1 Y1 Z1 X2 Y2 Z2 _ _ _ _ rfl rfl rfl rfl w hP).mono ?_
  rintro e w' ⟨rfl, hb⟩
  refine ⟨ret_bool ?_, hb⟩
  rw [Bool.eq_iff_iff, Bool.and_eq_true, decide_eq_true_iff, decide_eq_true_iff, decide_eq_true_iff, same_iff r1 r2]
  exact ⟨fun h => by rw [h], enc_inj⟩
end Go.Proofs.YtjiadbaaggifpaaDoor
end

section
set_option linter.unusedVariables false
set_option linter.unusedSimpArgs false
namespace Go.Proofs.YtjiadbaaggifpaaDoor
open Go Go.Proofs Go.RowKit F5

theorem or_128 : ∀ x : Fin 128, bits .or .u8 ((x.val : Nat) : Int) 128 = ((x.val + 128 : Nat) : Int) := by decide +kernel
set_option maxHeartbeats 4000000 in
set_option maxRecDepth 100000 in
theorem bytesPU {p : Pt} {A : Array Value} (hA : PU p A) (w : World) (hP : PrimeAt w) :
    Calls Tryd.prog 12 #[.agg A] w fun e w' => e = .returned (.agg (bytesA (fbytes (enc p)))) ∧ Below w.heap.size w w' := by
  obtain ⟨X, Y, Z, hrep, rfl⟩ := hA
  obtain ⟨hx, hy⟩ := rep_x hrep
  obtain ⟨Zi, hZi⟩ : ∃ a : Fp, Hid (a = finv Z) := ⟨_, Lib.hid rfl⟩
  rw [← hZi.out] at hx hy
  obtain ⟨x, hxx⟩ : ∃ a : Fp, Hid (a = p.x) := ⟨_, Lib.hid rfl⟩
  obtain ⟨y, hyy⟩ : ∃ a : Fp, Hid (a = p.y) := ⟨_, Lib.hid rfl⟩
  rw [← hxx.out] at hx
  rw [← hyy.out] at hy
  have MUL (p q r : Fp) (h : p * q = r) : Hid (∀ V, PrimeAt V → Calls Tryd.prog 38 #[.agg (cE p), .agg (cE q)] V fun e w' => e = .returned (.agg (cE r)) ∧ Below V.heap.size V w') := Lib.hid fun V hV => by rw [← h]; exact eMul _ _ V hV
  have SUB (p q r : Fp) (h : p - q = r) : Hid (∀ V, PrimeAt V → Calls Tryd.prog 43 #[.agg (cE p), .agg (cE q)] V fun e w' => e = .returned (.agg (cE r)) ∧ Below V.heap.size V w') := Lib.hid fun V hV => by rw [← h]; exact eSub _ _ V hV
  have ADD (p q r : Fp) (h : p + q = r) : Hid (∀ V, PrimeAt V → Calls Tryd.prog 42 #[.agg (cE p), .agg (cE q)] V fun e w' => e = .returned (.agg (cE r)) ∧ Below V.heap.size V w') := Lib.hid fun V hV => by rw [← h]; exact eAdd _ _ V hV
  have CX := MUL _ _ _ hx
  have CY := MUL _ _ _ hy
  have CI : Hid (∀ V, PrimeAt V → Calls Tryd.prog 37 #[.agg (cE Z)] V fun e w' => e = .returned (.agg (cE Zi)) ∧ Below V.heap.size V w') := Lib.hid fun V hV => by rw [hZi.out]; exact eInv _ V hV
  obtain ⟨bs, hbs⟩ : ∃ c, Hid (c = bytesA (fbytes y.val)) := ⟨_, Lib.hid rfl⟩
  have CB : Hid (∀ V, Calls Tryd.prog 39 #[.agg (cE y)] V fun e w' => e = .returned (.agg bs) ∧ Below V.heap.size V w') := Lib.hid fun V => by rw [hbs.out]; exact eBytes _ V
  obtain ⟨b, hb⟩ : ∃ b, Hid (b = decide (x.val % 2 = 1)) := ⟨_, Lib.hid rfl⟩
  have CO : Hid (∀ V, Calls Tryd.prog 40 #[.agg (cE x)] V fun e w' => e = .returned (.bool b) ∧ Below V.heap.size V w') := Lib.hid fun V => by rw [hb.out]; exact eOdd _ V
  obtain ⟨zb, hzb⟩ : ∃ z, Hid (z = bytesA (List.replicate 32 0)) := ⟨_, Lib.hid rfl⟩
  have hzb0 : ∀ W, (zeroValue 40).run Tryd.prog W = .ok (.agg zb) W := by
    rw [hzb.out]; exact (zero_of_info (n := 32) (by kernel_rfl)).1
  have oB : Hid ((Tryd.prog.info? 40).map (·.size) = some bs.size ∧ bs.all (·.oneCell') = true ∧ zb.size = bs.size) := Lib.hid (by rw [hbs.out, hzb.out]; exact ⟨fbytes_info _, bytesA_one _, by rw [bytesA_size, bytesA_size, fbytes_length]; rfl⟩)
  have hev : Hid (b = false → bs = bytesA (fbytes (enc p))) := Lib.hid fun h => by
    rw [hb.out, hxx.out] at h
    rw [hbs.out, hyy.out, enc_even (by have := of_decide_eq_false h; omega)]
  obtain ⟨xb, hxb⟩ := named (y.val / 256 ^ 31 % 256)
  have hx128 : xb < 128 := by
    have h1 := y.isLt
    have h2 := P_255
    have e1 : (256 : Nat) ^ 31 = 2 ^ 248 := by decide
    rw [hxb.out, e1]
    omega
  obtain ⟨nx, hnx⟩ := named (xb + 128)
  have hor : bits .or .u8 (xb : Int) 128 = (nx : Int) := by rw [hnx.out]; exact or_128 ⟨xb, hx128⟩
  have hcl : Hid (bs[31]? = some (.int .u8 (xb : Int))) := by
    rw [hbs.out, bytesA_get _ _ (by rw [fbytes_length]; omega), fbytes_get _ _ (by omega), hxb.out]; exact Lib.hid rfl
  have hod : Hid (b = true → bs.setIfInBounds 31 (.int .u8 (nx : Int)) = bytesA (fbytes (enc p))) := Lib.hid fun h => by
    rw [hb.out, hxx.out] at h
    have hn : (UInt8.ofNat nx).toNat = nx := by rw [UInt8.toNat_ofNat', hnx.out]; omega
    have hl := hx128
    rw [hxb.out] at hl
    rw [enc_odd (of_decide_eq_true h), ← hyy.out, ← fbytes_top (Nat.lt_trans y.isLt P_255) (UInt8.ofNat nx) (by rw [hn, hnx.out, hxb.out]), hbs.out, ← bytesA_set, hn]
  obtain ⟨out, hout⟩ : ∃ o, Hid (o = bytesA (fbytes (enc p))) := ⟨_, Lib.hid rfl⟩
  have oO : Hid ((Tryd.prog.info? 40).map (·.size) = some out.size ∧ out.all (·.oneCell') = true ∧ zb.size = out.size) := Lib.hid (by rw [hout.out, hzb.out]; exact ⟨fbytes_info _, bytesA_one _, by rw [bytesA_size, bytesA_size, fbytes_length]; rfl⟩)
  rw [← hout.out] at hev hod ⊢
  clear MUL SUB ADD hrep hx hy hZi hxx hyy hbs hb hzb hxb hout
  obtain ⟨z, hz⟩ : ∃ z, Hid (z = uV 0 0 0) := ⟨_, Lib.hid rfl⟩
  have hz0 : ∀ W, (zeroValue 30).run Tryd.prog W = .ok (.agg z) W := by rw [hz.out]; exact zeroU
  obtain ⟨zf, hzf⟩ : ∃ z, Hid (z = cE 0) := ⟨_, Lib.hid rfl⟩
  have hzf0 : ∀ W, (zeroValue 28).run Tryd.prog W = .ok (.agg zf) W := by rw [hzf.out]; exact zeroE
  have ofE : Hid (∀ a : Fp, zf.size = (cE a).size) := Lib.hid (fun a => by rw [hzf.out]; exact cE_sz _ _)
  have oA := Lib.hid (uV_okz X Y Z)
  have KX := Lib.hid (fun (V : World) g T (h : Blk V g T (uV X Y Z)) => uV_cell_x h)
  have KY := Lib.hid (fun (V : World) g T (h : Blk V g T (uV X Y Z)) => uV_cell_y h)
  have KZ := Lib.hid (fun (V : World) g T (h : Blk V g T (uV X Y Z)) => uV_cell_z h)
  generalize uV X Y Z = A at *
  obtain ⟨b1, b2, hb⟩ := two_blks w A zb 30 40
  have HP := Lib.hid hP
  clear hz hz0 z hzf hP hnx
  go_enter Tryd.func12, Tryd.ntmps12
  go_upto_region 1 with fail
  generalize (w.alloc (.cells A 30)).alloc (.cells zb 40) = W at *
  have P1 := Lib.hid b1
  have XR := Lib.hid b2
  have HB := Lib.hid hb
  clear b1 b2 hb
  (try simp only [Act.put, List.setIfInBounds_toArray, List.set_cons_zero, List.set_cons_succ])
  have PV : Hid (∀ V, Below W.heap.size W V → PrimeAt V) := Lib.hid fun V hV => HP.out.old (HB.out.trans (hV.mono HB.out.size))
  have DD1 : Hid (∀ V, Below W.heap.size W V → Below W.heap.size W V) := Lib.hid fun _ h => h
  refine wp_sched [(5, .is (.pointer (some ⟨w.heap.size, 0 + 8, none⟩))), (6, .is (.agg (cE Z))), (7, .is (.agg (cE Zi))), (3, .fresh 28 zf)] (fun V => Below W.heap.size W V) (by kernel_rfl) (by kernel_rfl) (by kernel_rfl) (by kernel_rfl) DD1.out ?hg1 _ (by rfl) ?hf1
  case hg1 =>
    refine goods_is (by kernel_rfl) (fun a V h hS K Q hK => op_quiet (quiet_field _ (.tmp 1) 2 _ _ (look_at h 1 (by kernel_rfl) (by kernel_rfl)) (fa2 _ _) rfl) hK) ?_
    refine goods_is (by kernel_rfl) (fun a V h hS K Q hK => op_quiet (quiet_load_off 28 (.tmp 5) _ _ (look_at h 5 (by kernel_rfl) (by kernel_rfl)) (cE Z) _ (KZ.out _ _ _ (P1.out.old hS)) Tryd.underlying28 rfl (cE_ok _).1 (by kernel_rfl)) hK) ?_
    refine goods_is (by kernel_rfl) (fun a V h hS K Q hK => op_callK #[.tmp 6] #[.agg (cE Z)] (by kernel_rfl) (by kernel_rfl) (by kernel_rfl) (map1 (look_at h 6 (by kernel_rfl) (by kernel_rfl))) (CI.out V (PV.out V hS)) (by kernel_rfl) hK) ?_
    refine goods_fresh (by kernel_rfl) hzf0 ?_
    exact goods_nil
  case hf1 =>
  intro g V hF
  obtain ⟨lg3, bg3⟩ := hF.blk 3 _ _ rfl
  have hbf := hF.below
  clear hF
  simp only [finL, Pl.val, List.setIfInBounds_toArray, List.set_cons_zero, List.set_cons_succ]
  generalize g 3 = g3 at *
  refine wpList_store_row rfl 28 (.tmp 3) (.tmp 7) rfl g3 (cE Zi) rfl rfl 28 zf bg3 (cE_ok _).1 (ofE.out _) (cE_ok _).2 ?_
  have P1_1 := Lib.hid ((P1.out.old hbf).rowFar (Nat.ne_of_lt (Nat.lt_of_lt_of_le P1.out.lt lg3)) (cE Zi))
  have XR_1 := Lib.hid ((XR.out.old hbf).rowFar (Nat.ne_of_lt (Nat.lt_of_lt_of_le XR.out.lt lg3)) (cE Zi))
  have ZI_1 := Lib.hid (bg3.row (cE Zi))
  have LG3 := Lib.hid (Nat.le_trans HB.out.size lg3)
  have HB_1 := Lib.hid (below_row (g := g3) (HB.out.trans (hbf.mono HB.out.size)) (Nat.le_trans HB.out.size lg3) (cE Zi))
  clear P1 XR HB PV lg3 bg3 hbf DD1
  generalize V.setRow g3 (cE Zi) = W1 at *
  have PV : Hid (∀ V, Below W1.heap.size W1 V → PrimeAt V) := Lib.hid fun V hV => HP.out.old (HB_1.out.trans (hV.mono HB_1.out.size))
  go_upto_region 2 with fail
  (try simp only [Act.put, List.setIfInBounds_toArray, List.set_cons_zero, List.set_cons_succ])
  have DD2 : Hid (∀ V, Below W1.heap.size W1 V → Below W1.heap.size W1 V) := Lib.hid fun _ h => h
  refine wp_sched [(8, .is (.pointer (some ⟨w.heap.size, 0 + 4, none⟩))), (9, .is (.agg (cE Y))), (10, .is (.agg (cE Zi))), (11, .is (.agg (cE y))), (12, .is (.agg bs)), (4, .fresh 40 zb)] (fun V => Below W1.heap.size W1 V) (by kernel_rfl) (by kernel_rfl) (by kernel_rfl) (by kernel_rfl) DD2.out ?hg2 _ (by rfl) ?hf2
  case hg2 =>
    refine goods_is (by kernel_rfl) (fun a V h hS K Q hK => op_quiet (quiet_field _ (.tmp 1) 1 _ _ (look_at h 1 (by kernel_rfl) (by kernel_rfl)) (fa1 _ _) rfl) hK) ?_
    refine goods_is (by kernel_rfl) (fun a V h hS K Q hK => op_quiet (quiet_load_off 28 (.tmp 8) _ _ (look_at h 8 (by kernel_rfl) (by kernel_rfl)) (cE Y) _ (KY.out _ _ _ (P1_1.out.old hS)) Tryd.underlying28 rfl (cE_ok _).1 (by kernel_rfl)) hK) ?_
    refine goods_is (by kernel_rfl) (fun a V h hS K Q hK => op_quiet (quiet_load_row 28 (.tmp 3) _ (look_at h 3 (by kernel_rfl) (by kernel_rfl)) 28 (cE Zi) _ (ZI_1.out.old hS) Tryd.underlying28 rfl (cE_ok _).1 (by kernel_rfl)) hK) ?_
    refine goods_is (by kernel_rfl) (fun a V h hS K Q hK => op_callK #[.tmp 9, .tmp 10] #[.agg (cE Y), .agg (cE Zi)] (by kernel_rfl) (by kernel_rfl) (by kernel_rfl) (map2 (look_at h 9 (by kernel_rfl) (by kernel_rfl)) (look_at h 10 (by kernel_rfl) (by kernel_rfl))) (CY.out V (PV.out V hS)) (by kernel_rfl) hK) ?_
    refine goods_is (by kernel_rfl) (fun a V h hS K Q hK => op_callK #[.tmp 11] #[.agg (cE y)] (by kernel_rfl) (by kernel_rfl) (by kernel_rfl) (map1 (look_at h 11 (by kernel_rfl) (by kernel_rfl))) (CB.out V) (by kernel_rfl) hK) ?_
    refine goods_fresh (by kernel_rfl) hzb0 ?_
    exact goods_nil
  case hf2 =>
  intro g V hF
  obtain ⟨lg4, bg4⟩ := hF.blk 5 _ _ rfl
  have hbf := hF.below
  clear hF
  simp only [finL, Pl.val, List.setIfInBounds_toArray, List.set_cons_zero, List.set_cons_succ]
  generalize g 5 = g4 at *
  refine wpList_store_row rfl 40 (.tmp 4) (.tmp 12) rfl g4 bs rfl rfl 40 zb bg4 oB.out.1 oB.out.2.2 oB.out.2.1 ?_
  have P1_2 := Lib.hid ((P1_1.out.old hbf).rowFar (Nat.ne_of_lt (Nat.lt_of_lt_of_le P1_1.out.lt lg4)) bs)
  have XR_2 := Lib.hid ((XR_1.out.old hbf).rowFar (Nat.ne_of_lt (Nat.lt_of_lt_of_le XR_1.out.lt lg4)) bs)
  have ZI_2 := Lib.hid ((ZI_1.out.old hbf).rowFar (Nat.ne_of_lt (Nat.lt_of_lt_of_le ZI_1.out.lt lg4)) bs)
  have BS_2 := Lib.hid (bg4.row bs)
  have NE4 := Lib.hid (Nat.ne_of_lt (Nat.lt_of_lt_of_le XR_1.out.lt lg4))
  have LG4 := Lib.hid (Nat.le_trans HB_1.out.size lg4)
  have HB_2 := Lib.hid (below_row (g := g4) (HB_1.out.trans (hbf.mono HB_1.out.size)) (Nat.le_trans HB_1.out.size lg4) bs)
  clear P1_1 XR_1 ZI_1 HB_1 PV lg4 bg4 hbf DD2
  generalize V.setRow g4 bs = W2 at *
  have PV : Hid (∀ V, Below W2.heap.size W2 V → PrimeAt V) := Lib.hid fun V hV => HP.out.old (HB_2.out.trans (hV.mono HB_2.out.size))
  go_upto_region 3 with fail
  (try simp only [Act.put, List.setIfInBounds_toArray, List.set_cons_zero, List.set_cons_succ])
  have DD3 : Hid (∀ V, Below W2.heap.size W2 V → Below W2.heap.size W2 V) := Lib.hid fun _ h => h
  refine wp_sched [(13, .is (.pointer (some ⟨w.heap.size, 0, none⟩))), (14, .is (.agg (cE X))), (15, .is (.agg (cE Zi))), (16, .is (.agg (cE x))), (17, .is (.bool b))] (fun V => Below W2.heap.size W2 V) (by kernel_rfl) (by kernel_rfl) (by kernel_rfl) (by kernel_rfl) DD3.out ?hg3 _ (by rfl) ?hf3
  case hg3 =>
    refine goods_is (by kernel_rfl) (fun a V h hS K Q hK => op_quiet (quiet_field _ (.tmp 1) 0 _ _ (look_at h 1 (by kernel_rfl) (by kernel_rfl)) (fa0 _ _) rfl) hK) ?_
    refine goods_is (by kernel_rfl) (fun a V h hS K Q hK => op_quiet (quiet_load_off 28 (.tmp 13) _ _ (look_at h 13 (by kernel_rfl) (by kernel_rfl)) (cE X) _ (KX.out _ _ _ (P1_2.out.old hS)) Tryd.underlying28 rfl (cE_ok _).1 (by kernel_rfl)) hK) ?_
    refine goods_is (by kernel_rfl) (fun a V h hS K Q hK => op_quiet (quiet_load_row 28 (.tmp 3) _ (look_at h 3 (by kernel_rfl) (by kernel_rfl)) 28 (cE Zi) _ (ZI_2.out.old hS) Tryd.underlying28 rfl (cE_ok _).1 (by kernel_rfl)) hK) ?_
    refine goods_is (by kernel_rfl) (fun a V h hS K Q hK => op_callK #[.tmp 14, .tmp 15] #[.agg (cE X), .agg (cE Zi)] (by kernel_rfl) (by kernel_rfl) (by kernel_rfl) (map2 (look_at h 14 (by kernel_rfl) (by kernel_rfl)) (look_at h 15 (by kernel_rfl) (by kernel_rfl))) (CX.out V (PV.out V hS)) (by kernel_rfl) hK) ?_
    refine goods_is (by kernel_rfl) (fun a V h hS K Q hK => op_callK #[.tmp 16] #[.agg (cE x)] (by kernel_rfl) (by kernel_rfl) (by kernel_rfl) (map1 (look_at h 16 (by kernel_rfl) (by kernel_rfl))) (CO.out V) (by kernel_rfl) hK) ?_
    exact goods_nil
  case hf3 =>
  intro g V hF
  have hbf := hF.below
  clear hF
  simp only [finL, Pl.val, List.setIfInBounds_toArray, List.set_cons_zero, List.set_cons_succ]
  refine tail_nil ?_
  have XR_3 := Lib.hid (XR_2.out.old hbf)
  have BS_3 := Lib.hid (BS_2.out.old hbf)
  have HB_3 := Lib.hid (HB_2.out.trans (hbf.mono HB_2.out.size))
  clear P1_2 XR_2 ZI_2 BS_2 HB_2 PV hbf DD3
  generalize V = W3 at *
  have PV : Hid (∀ V, Below W3.heap.size W3 V → PrimeAt V) := Lib.hid fun V hV => HP.out.old (HB_3.out.trans (hV.mono HB_3.out.size))
  cases hbv : b
  · have E := hev.out hbv
    subst E
    have XF := Lib.hid (XR_3.out.row bs)
    have HF := Lib.hid (below_row (g := w.heap.size + 1) HB_3.out (Nat.le_succ _) bs)
    clear hbv hev hod
    go_wp2_with (first | (refine wpList_load_row rfl 40 (.tmp 4) rfl g4 rfl 40 bs (0, 0) _ BS_3.out Tryd.underlying40 rfl oB.out.1 ?_) | (refine wpList_store_row rfl 40 (.tmp 2) (.tmp 22) rfl (w.heap.size + 1) bs rfl rfl 40 zb XR_3.out oB.out.1 oB.out.2.2 oB.out.2.1 ?_))
    refine bodyPost_ret (v := .agg bs) ?_ rfl ⟨rfl, HF.out⟩
    exact results_cell_row Tryd.results12 _ _ (w.heap.size + 1) 40 _ (0, 0) _ rfl XF.out Tryd.underlying40 rfl oB.out.1
  · have hcell := (BS_3.out.cell 31).trans hcl.out
    have hfz := BS_3.out.frozen 31
    have hal : Tryd.prog.arrayLen 40 = 32 := by kernel_rfl
    have hel : Tryd.prog.elem 40 = 5 := by kernel_rfl
    have B2 := BS_3.out.set_ 31 (.int .u8 (nx : Int))
    rw [hod.out hbv] at B2
    have BO := Lib.hid B2
    have hne : w.heap.size + 1 ≠ g4 := NE4.out
    have XO := Lib.hid (XR_3.out.far (p := ⟨g4, 31, none⟩) hne (.int .u8 (nx : Int)))
    have HBO := Lib.hid (HB_3.out.setCell (p := ⟨g4, 31, none⟩) LG4.out (.int .u8 (nx : Int)))
    clear hbv hev hod B2
    go_upto_region 5 with fail
    generalize W3.setCell ⟨g4, 31, none⟩ (.int .u8 (nx : Int)) = W4 at *
    have XF := Lib.hid (XO.out.row out)
    have HF := Lib.hid (below_row (g := w.heap.size + 1) HBO.out (Nat.le_succ _) out)
    clear hcell hfz
    go_wp2_with (first | (refine wpList_load_row rfl 40 (.tmp 4) rfl g4 rfl 40 out (0, 0) _ BO.out Tryd.underlying40 rfl oO.out.1 ?_) | (refine wpList_store_row rfl 40 (.tmp 2) (.tmp 22) rfl (w.heap.size + 1) out rfl rfl 40 zb XO.out oO.out.1 oO.out.2.2 oO.out.2.1 ?_))
    refine bodyPost_ret (v := .agg out) ?_ rfl ⟨rfl, HF.out⟩
    exact results_cell_row Tryd.results12 _ _ (w.heap.size + 1) 40 _ (0, 0) _ rfl XF.out Tryd.underlying40 rfl oO.out.1
end Go.Proofs.YtjiadbaaggifpaaDoor
end

section
set_option linter.unusedVariables false
set_option linter.unusedSimpArgs false
namespace Go.Proofs.YtjiadbaaggifpaaDoor
open Go Go.Proofs Go.RowKit F5

theorem and_128 : ∀ x : Fin 256, (bits .and .u8 ((x.val : Nat) : Int) 128 != 0) = decide (128 ≤ x.val) := by decide +kernel
theorem andNot_128 : ∀ x : Fin 256, bits .andNot .u8 ((x.val : Nat) : Int) 128 = ((x.val % 128 : Nat) : Int) := by decide +kernel
theorem quiet_slice32 {o : Oper} {ev : Operand → Value} {V : World} (x : Operand) (g : Nat) (hx : ev x = .pointer (some ⟨g, 0, none⟩)) (ho : o.op = .slice 40 x none none none) : (execOp ev o).run Tryd.prog V = .ok (.value (.slice (some ⟨g, 0, none⟩) 32 32)) V := by
  have := slice32 g V
  unfold execOp
  simp only [ho, hx, Option.map_none, Sem.run_bind, this, Sem.run_pure, Result.andThen_ok]
theorem quiet_arr32 {o : Oper} {ev : Operand → Value} {V : World} (x : Operand) (ad : Addr) (n : Nat) (hx : ev x = .slice (some ad) 32 n) (ho : o.op = .sliceToArrayPointer 40 x) : (execOp ev o).run Tryd.prog V = .ok (.value (.pointer (some ad))) V := by
  have := arr32 (some ad) 32 n (Nat.le_refl _) V
  unfold execOp
  simp only [ho, hx, Sem.run_bind, this, Sem.run_pure, Result.andThen_ok]
/-- What Get answers. -/
def GetEnd (v : Nat) (w : World) (e : Ending) (w' : World) : Prop := ∃ c x, e = .returned (.tuple #[.agg c, .int .i64 x]) ∧ (if okP v then x = 0 else x = 8) ∧ (∀ h : okP v, PU (pget v h) c) ∧ (Tryd.prog.info? 30).map (·.size) = some c.size ∧ c.all (·.oneCell') = true ∧ (uV 0 0 0).size = c.size ∧ Below w.heap.size w w'
theorem GetEnd.bad {v : Nat} {w w' : World} (h : ¬ okP v) (hb : Below w.heap.size w w') {z : Array Value} (hz : z = uV 0 0 0) : GetEnd v w (.returned (.tuple #[.agg z, .int .i64 8])) w' := by
  subst hz
  obtain ⟨h1, h2, h3⟩ := uV_ok 0 0 0
  exact ⟨_, 8, rfl, by rw [if_neg h], fun h2 => absurd h2 h, h1, h2, h3, hb⟩
theorem GetEnd.good {v : Nat} {w w' : World} (h : okP v) {c : Array Value} (hc : c = uV (gx v) (gy v) 1) (hb : Below w.heap.size w w') : GetEnd v w (.returned (.tuple #[.agg c, .int .i64 0])) w' := by
  subst hc
  obtain ⟨h1, h2, h3⟩ := uV_ok (gx v) (gy v) 1
  exact ⟨_, 0, rfl, by rw [if_pos h], fun h2 => ⟨_, _, _, rep_one (pget v h2), rfl⟩, h1, h2, h3, hb⟩

set_option maxHeartbeats 4000000 in
set_option maxRecDepth 100000 in
theorem get32PU (v : Nat) (ad : Addr) (n : Nat) (w : World) (hv : v < 2 ^ 256) (hr : Reads w w.heap.size 1 (some ad) 32 (Lib.byteCells (fbytes v))) (hn : 32 ≤ n) (hm : n ≤ maxLen) (hP : PrimeAt w) (hT : TurnAt w) :
    Calls Tryd.prog 10 #[.slice (some ad) 32 n] w (GetEnd v w) := by
  have HP := Lib.hid hP
  have HT := Lib.hid hT
  have HRR := Lib.hid hr
  obtain ⟨u, hu⟩ := named (v % 2 ^ 255)
  have hu256 : u < 2 ^ 256 := by rw [hu.out]; exact Nat.lt_trans (Nat.mod_lt _ (by decide)) (by decide)
  obtain ⟨xb, hxb⟩ := named (v / 256 ^ 31 % 256)
  have hx256 : xb < 256 := by rw [hxb.out]; exact Nat.mod_lt _ (by decide)
  obtain ⟨r, hrr⟩ := named (xb % 128)
  obtain ⟨bo, hbo⟩ : ∃ b, Hid (b = decide (2 ^ 255 ≤ v)) := ⟨_, Lib.hid rfl⟩
  have hand : (bits .and .u8 (xb : Int) 128 != 0) = bo := by
    have h1 := and_128 ⟨xb, hx256⟩
    simp only at h1
    rw [h1, hbo.out]
    have e1 : (256 : Nat) ^ 31 = 2 ^ 248 := by decide
    have hx2 := hxb.out
    rw [e1] at hx2
    exact decide_eq_decide.2 (by omega)
  have hant : bits .andNot .u8 (xb : Int) 128 = (r : Int) := by rw [hrr.out]; exact andNot_128 ⟨xb, hx256⟩
  obtain ⟨bs, hbs⟩ : ∃ c, Hid (c = bytesA (fbytes v)) := ⟨_, Lib.hid rfl⟩
  obtain ⟨bs2, hbs2⟩ : ∃ c, Hid (c = bytesA (fbytes u)) := ⟨_, Lib.hid rfl⟩
  have hcl : Hid (bs[31]? = some (.int .u8 (xb : Int))) := by
    rw [hbs.out, bytesA_get _ _ (by rw [fbytes_length]; omega), fbytes_get _ _ (by omega), hxb.out]; exact Lib.hid rfl
  have hset : Hid (bs.setIfInBounds 31 (.int .u8 (r : Int)) = bs2) := by
    have hr128 : r < 128 := by rw [hrr.out]; exact Nat.mod_lt _ (by decide)
    have hn : (UInt8.ofNat r).toNat = r := by rw [UInt8.toNat_ofNat']; omega
    rw [hbs.out, hbs2.out, hu.out, ← fbytes_cut hv (UInt8.ofNat r) (by rw [hn, hrr.out, hxb.out]), ← bytesA_set, hn]
    exact Lib.hid rfl
  obtain ⟨zb, hzb⟩ : ∃ z, Hid (z = bytesA (List.replicate 32 0)) := ⟨_, Lib.hid rfl⟩
  have hzb0 : ∀ W, (zeroValue 40).run Tryd.prog W = .ok (.agg zb) W := by
    rw [hzb.out]; exact (zero_of_info (n := 32) (by kernel_rfl)).1
  have oB : Hid ((Tryd.prog.info? 40).map (·.size) = some bs.size ∧ bs.all (·.oneCell') = true ∧ zb.size = bs.size) := Lib.hid (by rw [hbs.out, hzb.out]; exact ⟨fbytes_info _, bytesA_one _, by rw [bytesA_size, bytesA_size, fbytes_length]; rfl⟩)
  have hload : Hid (∀ V, Below w.heap.size w V → ∀ j x, bs[j]? = some x → V.cell? (ad.add j) = some x) := Lib.hid fun V hV j x hj => by
    obtain ⟨ad', h1, h2, h3⟩ := (HRR.out.below hV).2 (by omega)
    cases h1
    exact h3 j x (by rw [hbs.out] at hj; simpa [bytesA] using hj)
  obtain ⟨z, hz⟩ : ∃ z, Hid (z = uV 0 0 0) := ⟨_, Lib.hid rfl⟩
  have hz0 : ∀ W, (zeroValue 30).run Tryd.prog W = .ok (.agg z) W := by rw [hz.out]; exact zeroU
  obtain ⟨zf, hzf⟩ : ∃ z, Hid (z = cE 0) := ⟨_, Lib.hid rfl⟩
  have hzf0 : ∀ W, (zeroValue 28).run Tryd.prog W = .ok (.agg zf) W := by rw [hzf.out]; exact zeroE
  have ofE : Hid (∀ a : Fp, zf.size = (cE a).size) := Lib.hid (fun a => by rw [hzf.out]; exact cE_sz _ _)
  have hzu : Hid (z = uV 0 0 0) := hz
  have hBN : Hid (Tryd.prog.built 30 [] = some z) := by rw [hz.out]; exact Lib.hid built_nilU
  have oz : Hid ((Tryd.prog.info? 30).map (·.size) = some z.size ∧ z.all (·.oneCell') = true) := by rw [hz.out]; exact Lib.hid ⟨uV_info _ _ _, uV_one _ _ _⟩
  obtain ⟨y, hy⟩ : ∃ y : Fp, Hid (y = gy v) := ⟨_, Lib.hid rfl⟩
  obtain ⟨x0, hx0⟩ : ∃ y, Hid (y = rootF (xsq (gy v))) := ⟨_, Lib.hid rfl⟩
  obtain ⟨b2, hb2⟩ : ∃ b, Hid (b = decide (hasRoot (xsq (gy v)).val)) := ⟨_, Lib.hid rfl⟩
  have CX : Hid (∀ V, PrimeAt V → Below w.heap.size w V → Calls Tryd.prog 29 #[.agg (cE y)] V fun e w' => e = .returned (.tuple #[.agg (cE x0), .bool b2]) ∧ Below V.heap.size V w') := Lib.hid fun V hV hW => by
    rw [hx0.out, hb2.out, hy.out]; exact evenX_any _ V hV (HT.out.old hW)
  obtain ⟨nil, h0⟩ : ∃ a : Fp, Hid (a = 0) := ⟨_, Lib.hid rfl⟩
  have C0 : Hid (∀ V, Calls Tryd.prog 31 #[.int .u64 0] V fun e w' => e = .returned (.agg (cE nil)) ∧ Below V.heap.size V w') := Lib.hid fun V => eOf 0 (by decide) (by decide) nil (by rw [h0.out]; rfl) _ rfl V
  obtain ⟨b0, hb0⟩ : ∃ b, Hid (b = decide (x0 = 0)) := ⟨_, Lib.hid rfl⟩
  have CS : Hid (∀ V, Calls Tryd.prog 30 #[.agg (cE x0), .agg (cE nil)] V fun e w' => e = .returned (.bool b0) ∧ Below V.heap.size V w') := Lib.hid fun V => by rw [hb0.out, h0.out]; exact eSame _ _ V
  obtain ⟨q1, hq1⟩ : ∃ c, Hid (c = uV x0 y 1) := ⟨_, Lib.hid rfl⟩
  obtain ⟨q2, hq2⟩ : ∃ c, Hid (c = uV (0 - x0) y 1) := ⟨_, Lib.hid rfl⟩
  have CP : Hid (∀ V, Calls Tryd.prog 32 #[.agg (cE x0), .agg (cE y)] V fun e w' => e = .returned (.agg q1) ∧ Below V.heap.size V w') := Lib.hid fun V => by rw [hq1.out]; exact pairP x0 y V
  have CN : Hid (∀ V, PrimeAt V → Calls Tryd.prog 17 #[.agg q1] V fun e w' => e = .returned (.agg q2) ∧ Below V.heap.size V w') := Lib.hid fun V hV => by rw [hq1.out, hq2.out]; exact negP x0 y 1 V hV
  have oq1 : Hid ((Tryd.prog.info? 30).map (·.size) = some q1.size ∧ q1.all (·.oneCell') = true ∧ z.size = q1.size) := by rw [hq1.out, hz.out]; exact Lib.hid (uV_ok _ _ _)
  have oq2 : Hid ((Tryd.prog.info? 30).map (·.size) = some q2.size ∧ q2.all (·.oneCell') = true ∧ z.size = q2.size) := by rw [hq2.out, hz.out]; exact Lib.hid (uV_ok _ _ _)
  have hokv : Hid (decide (okP v) = (decide (u < P) && b2 && !(bo && b0))) := Lib.hid (by
    rw [hu.out, hb2.out, hbo.out, hb0.out, hx0.out, Bool.eq_iff_iff]
    simp only [decide_eq_true_iff, Bool.and_eq_true, Bool.not_eq_true', Bool.and_eq_false_iff, decide_eq_false_iff_not]
    unfold okP gr
    constructor
    · rintro ⟨h1, h2, h3⟩; exact ⟨⟨h1, h2⟩, Decidable.not_and_iff_or_not.1 h3⟩
    · rintro ⟨⟨h1, h2⟩, h3⟩; exact ⟨h1, h2, Decidable.not_and_iff_or_not.2 h3⟩)
  have hg1 : Hid (bo = false → q1 = uV (gx v) (gy v) 1) := Lib.hid fun h => by
    rw [hbo.out] at h
    rw [hq1.out, hy.out, hx0.out]
    unfold gx gr
    rw [if_neg (by simpa using h)]
  have hg2 : Hid (bo = true → q2 = uV (gx v) (gy v) 1) := Lib.hid fun h => by
    rw [hbo.out] at h
    rw [hq2.out, hy.out, hx0.out]
    unfold gx gr
    rw [if_pos (by simpa using h)]
  have hyv : Hid (u < P → cE y = limA u) := Lib.hid fun h => by rw [hy.out, cE, gy_val (by rw [← hu.out]; exact h), hu.out]
  have b1 := Blk.new w 30 z
  have hb : Below w.heap.size w (w.alloc (.cells z 30)) := (Below.refl _ _).alloc (Nat.le_refl _) _
  clear hz hzf hP hT hr hv hu hxb hrr hbo hbs hzb hy hx0 hb2 h0 hb0 hq1 hq2 hn hm
  go_enter Tryd.func10, Tryd.ntmps10
  go_upto_region 1 with fail
  generalize w.alloc (.cells z 30) = W at *
  have XR := Lib.hid b1
  have HB := Lib.hid hb
  clear b1 hb
  go_upto_region 5 with fail
  (try simp only [Act.put, List.setIfInBounds_toArray, List.set_cons_zero, List.set_cons_succ])
  have PV : Hid (∀ V, Below W.heap.size W V → PrimeAt V) := Lib.hid fun V hV => HP.out.old (HB.out.trans (hV.mono HB.out.size))
  have DD1 : Hid (∀ V, Below W.heap.size W V → Below W.heap.size W V) := Lib.hid fun _ h => h
  refine wp_sched [(18, .is (.slice (some ad) 32 n)), (19, .is (.pointer (some ad))), (20, .is (.agg bs)), (4, .fresh 40 zb)] (fun V => Below W.heap.size W V) (by kernel_rfl) (by kernel_rfl) (by kernel_rfl) (by kernel_rfl) DD1.out ?hg1 _ (by rfl) ?hf1
  case hg1 =>
    refine goods_is (by kernel_rfl) (fun a V h hS K Q hK => op_quiet (quiet_move (.tmp 0) (look_at h 0 (by kernel_rfl) (by kernel_rfl)) (.inl (by kernel_rfl))) hK) ?_
    refine goods_is (by kernel_rfl) (fun a V h hS K Q hK => op_quiet (quiet_arr32 (.tmp 18) ad n (look_at h 18 (by kernel_rfl) (by kernel_rfl)) (by kernel_rfl)) hK) ?_
    refine goods_is (by kernel_rfl) (fun a V h hS K Q hK => op_quiet (quiet_load_add 40 (.tmp 19) ad (look_at h 19 (by kernel_rfl) (by kernel_rfl)) _ _ bs Tryd.underlying40 oB.out.1 (hload.out V (HB.out.trans (hS.mono HB.out.size))) (by kernel_rfl)) hK) ?_
    refine goods_fresh (by kernel_rfl) hzb0 ?_
    exact goods_nil
  case hf1 =>
  intro g V hF
  obtain ⟨lg4, bg4⟩ := hF.blk 3 _ _ rfl
  have hbf := hF.below
  clear hF
  simp only [finL, Pl.val, List.setIfInBounds_toArray, List.set_cons_zero, List.set_cons_succ]
  generalize g 3 = g4 at *
  refine wpList_store_row rfl 40 (.tmp 4) (.tmp 20) rfl g4 bs rfl rfl 40 zb bg4 oB.out.1 oB.out.2.2 oB.out.2.1 ?_
  have XR_1 := Lib.hid ((XR.out.old hbf).rowFar (Nat.ne_of_lt (Nat.lt_of_lt_of_le XR.out.lt lg4)) bs)
  have BS_1 := Lib.hid (bg4.row bs)
  have NE4 := Lib.hid (Nat.ne_of_lt (Nat.lt_of_lt_of_le XR.out.lt lg4))
  have LG4 := Lib.hid (Nat.le_trans HB.out.size lg4)
  have HB_1 := Lib.hid (below_row (g := g4) (HB.out.trans (hbf.mono HB.out.size)) (Nat.le_trans HB.out.size lg4) bs)
  clear XR HB PV lg4 bg4 hbf DD1
  generalize V.setRow g4 bs = W1 at *
  have PV : Hid (∀ V, Below W1.heap.size W1 V → PrimeAt V) := Lib.hid fun V hV => HP.out.old (HB_1.out.trans (hV.mono HB_1.out.size))
  have hcell := (BS_1.out.cell 31).trans hcl.out
  have hfz := BS_1.out.frozen 31
  have hal : Tryd.prog.arrayLen 40 = 32 := by kernel_rfl
  have hel : Tryd.prog.elem 40 = 5 := by kernel_rfl
  have B2 := BS_1.out.set_ 31 (.int .u8 (r : Int))
  rw [hset.out] at B2
  have BO := Lib.hid B2
  have XO := Lib.hid (XR_1.out.far (p := ⟨g4, 31, none⟩) NE4.out (.int .u8 (r : Int)))
  have HBO := Lib.hid (HB_1.out.setCell (p := ⟨g4, 31, none⟩) LG4.out (.int .u8 (r : Int)))
  clear B2 PV
  go_upto_region 8 with fail
  generalize W1.setCell ⟨g4, 31, none⟩ (.int .u8 (r : Int)) = W2 at *
  (try simp only [Act.put, List.setIfInBounds_toArray, List.set_cons_zero, List.set_cons_succ])
  clear hcell hfz hal hel BS_1 XR_1 HB_1
  have PV : Hid (∀ V, Below W2.heap.size W2 V → PrimeAt V) := Lib.hid fun V hV => HP.out.old (HBO.out.trans (hV.mono HBO.out.size))
  have RD : Hid (∀ V, Below W2.heap.size W2 V → Reads V V.heap.size 1 (some ⟨g4, 0, none⟩) 32 (Lib.byteCells (fbytes u))) := Lib.hid fun V hV => by
    have := BO.out.old hV
    rw [hbs2.out] at this
    have := reads_blk this
    rwa [fbytes_length] at this
  by_cases hup : u < P
  · skip
    have CG : Hid (∀ V, PrimeAt V → Below W2.heap.size W2 V → Calls Tryd.prog 28 #[.slice (some ⟨g4, 0, none⟩) 32 32] V fun e w' => e = .returned (.tuple #[.agg (cE y), .int .i64 0]) ∧ Below V.heap.size V w') := Lib.hid fun V hV hS => by
      have := get_32 u hu256 ⟨g4, 0, none⟩ 32 V (RD.out V hS) hV
      simp only [hup, if_true] at this
      rw [elemV, ← hyv.out hup] at this
      exact this
    have DD2 : Hid (∀ V, Below W2.heap.size W2 V → Below W2.heap.size W2 V) := Lib.hid fun _ h => h
    refine wp_sched [(30, .is (.slice (some ⟨g4, 0, none⟩) 32 32)), (31, .is (.tuple #[.agg (cE y), .int .i64 0])), (29, .is (.tuple #[.agg (cE y), .int .i64 0])), (32, .is (.agg (cE y))), (33, .is (.int .i64 0)), (6, .fresh 28 zf)] (fun V => Below W2.heap.size W2 V) (by kernel_rfl) (by kernel_rfl) (by kernel_rfl) (by kernel_rfl) DD2.out ?hg2 _ (by rfl) ?hf2
    case hg2 =>
      refine goods_is (by kernel_rfl) (fun a V h hS K Q hK => op_quiet (quiet_slice32 (.tmp 4) g4 (look_at h 4 (by kernel_rfl) (by kernel_rfl)) (by kernel_rfl)) hK) ?_
      refine goods_is (by kernel_rfl) (fun a V h hS K Q hK => op_callK #[.tmp 30] #[.slice (some ⟨g4, 0, none⟩) 32 32] (by kernel_rfl) (by kernel_rfl) (by kernel_rfl) (map1 (look_at h 30 (by kernel_rfl) (by kernel_rfl))) (CG.out V (PV.out V hS) hS) (by kernel_rfl) hK) ?_
      refine goods_is (by kernel_rfl) (fun a V h hS K Q hK => op_quiet (quiet_move (.tmp 31) (look_at h 31 (by kernel_rfl) (by kernel_rfl)) (.inl (by kernel_rfl))) hK) ?_
      refine goods_is (by kernel_rfl) (fun a V h hS K Q hK => op_quiet (quiet_extract (t := #[.agg (cE y), .int .i64 0]) (.tmp 29) 0 (look_at h 29 (by kernel_rfl) (by kernel_rfl)) rfl (by kernel_rfl)) hK) ?_
      refine goods_is (by kernel_rfl) (fun a V h hS K Q hK => op_quiet (quiet_extract (t := #[.agg (cE y), .int .i64 0]) (.tmp 29) 1 (look_at h 29 (by kernel_rfl) (by kernel_rfl)) rfl (by kernel_rfl)) hK) ?_
      refine goods_fresh (by kernel_rfl) hzf0 ?_
      exact goods_nil
    case hf2 =>
    intro g V hF
    obtain ⟨lg6, bg6⟩ := hF.blk 5 _ _ rfl
    have hbf := hF.below
    clear hF
    simp only [finL, Pl.val, List.setIfInBounds_toArray, List.set_cons_zero, List.set_cons_succ]
    generalize g 5 = g6 at *
    refine wpList_store_row rfl 28 (.tmp 6) (.tmp 32) rfl g6 (cE y) rfl rfl 28 zf bg6 (cE_ok _).1 (ofE.out _) (cE_ok _).2 ?_
    have XR_2 := Lib.hid ((XO.out.old hbf).rowFar (Nat.ne_of_lt (Nat.lt_of_lt_of_le XO.out.lt lg6)) (cE y))
    have YY_2 := Lib.hid (bg6.row (cE y))
    have LG6 := Lib.hid (Nat.le_trans HBO.out.size lg6)
    have HB_2 := Lib.hid (below_row (g := g6) (HBO.out.trans (hbf.mono HBO.out.size)) (Nat.le_trans HBO.out.size lg6) (cE y))
    clear XO BO HBO PV lg6 bg6 hbf DD2
    generalize V.setRow g6 (cE y) = W3 at *
    have PV : Hid (∀ V, Below W3.heap.size W3 V → PrimeAt V) := Lib.hid fun V hV => HP.out.old (HB_2.out.trans (hV.mono HB_2.out.size))
    have hok2 : Hid (decide (okP v) = (b2 && !(bo && b0))) := Lib.hid (by rw [hokv.out, decide_eq_true hup, Bool.true_and])
    clear hokv hup CG RD
    go_upto_region 11 with fail
    (try simp only [Act.put, List.setIfInBounds_toArray, List.set_cons_zero, List.set_cons_succ])
    (try simp only [Act.put, List.setIfInBounds_toArray, List.set_cons_zero, List.set_cons_succ])
    cases b2
    · skip
      have DD3 : Hid (∀ V, Below W3.heap.size W3 V → Below W3.heap.size W3 V) := Lib.hid fun _ h => h
      refine wp_sched [(38, .is (.agg (cE y))), (39, .is (.tuple #[.agg (cE x0), .bool false])), (37, .is (.tuple #[.agg (cE x0), .bool false])), (40, .is (.agg (cE x0))), (41, .is (.bool false)), (8, .fresh 28 zf)] (fun V => Below W3.heap.size W3 V) (by kernel_rfl) (by kernel_rfl) (by kernel_rfl) (by kernel_rfl) DD3.out ?hg3 _ (by rfl) ?hf3
      case hg3 =>
        refine goods_is (by kernel_rfl) (fun a V h hS K Q hK => op_quiet (quiet_load_row 28 (.tmp 6) _ (look_at h 6 (by kernel_rfl) (by kernel_rfl)) 28 (cE y) _ (YY_2.out.old hS) Tryd.underlying28 rfl (cE_ok _).1 (by kernel_rfl)) hK) ?_
        refine goods_is (by kernel_rfl) (fun a V h hS K Q hK => op_callK #[.tmp 38] #[.agg (cE y)] (by kernel_rfl) (by kernel_rfl) (by kernel_rfl) (map1 (look_at h 38 (by kernel_rfl) (by kernel_rfl))) (CX.out V (PV.out V hS) (HB_2.out.trans (hS.mono HB_2.out.size))) (by kernel_rfl) hK) ?_
        refine goods_is (by kernel_rfl) (fun a V h hS K Q hK => op_quiet (quiet_move (.tmp 39) (look_at h 39 (by kernel_rfl) (by kernel_rfl)) (.inl (by kernel_rfl))) hK) ?_
        refine goods_is (by kernel_rfl) (fun a V h hS K Q hK => op_quiet (quiet_extract (t := #[.agg (cE x0), .bool false]) (.tmp 37) 0 (look_at h 37 (by kernel_rfl) (by kernel_rfl)) rfl (by kernel_rfl)) hK) ?_
        refine goods_is (by kernel_rfl) (fun a V h hS K Q hK => op_quiet (quiet_extract (t := #[.agg (cE x0), .bool false]) (.tmp 37) 1 (look_at h 37 (by kernel_rfl) (by kernel_rfl)) rfl (by kernel_rfl)) hK) ?_
        refine goods_fresh (by kernel_rfl) hzf0 ?_
        exact goods_nil
      case hf3 =>
      intro g V hF
      obtain ⟨lg8, bg8⟩ := hF.blk 5 _ _ rfl
      have hbf := hF.below
      clear hF
      simp only [finL, Pl.val, List.setIfInBounds_toArray, List.set_cons_zero, List.set_cons_succ]
      generalize g 5 = g8 at *
      refine wpList_store_row rfl 28 (.tmp 8) (.tmp 40) rfl g8 (cE x0) rfl rfl 28 zf bg8 (cE_ok _).1 (ofE.out _) (cE_ok _).2 ?_
      have XR_3 := Lib.hid ((XR_2.out.old hbf).rowFar (Nat.ne_of_lt (Nat.lt_of_lt_of_le XR_2.out.lt lg8)) (cE x0))
      have YY_3 := Lib.hid ((YY_2.out.old hbf).rowFar (Nat.ne_of_lt (Nat.lt_of_lt_of_le YY_2.out.lt lg8)) (cE x0))
      have XX_3 := Lib.hid (bg8.row (cE x0))
      have LG8 := Lib.hid (Nat.le_trans HB_2.out.size lg8)
      have HB_3 := Lib.hid (below_row (g := g8) (HB_2.out.trans (hbf.mono HB_2.out.size)) (Nat.le_trans HB_2.out.size lg8) (cE x0))
      clear XR_2 YY_2 HB_2 PV lg8 bg8 hbf DD3
      generalize V.setRow g8 (cE x0) = W4 at *
      have PV : Hid (∀ V, Below W4.heap.size W4 V → PrimeAt V) := Lib.hid fun V hV => HP.out.old (HB_3.out.trans (hV.mono HB_3.out.size))
      go_upto_region 12 with fail
      (try simp only [Act.put, List.setIfInBounds_toArray, List.set_cons_zero, List.set_cons_succ])
      (try simp only [Act.put, List.setIfInBounds_toArray, List.set_cons_zero, List.set_cons_succ])
      have DD4 : Hid (∀ V, Below W4.heap.size W4 V → Below W4.heap.size W4 V) := Lib.hid fun _ h => h
      refine wp_sched [(42, .is (.bool false)), (43, .is (.bool true)), (44, .is (.bool true)), (45, .is undef), (46, .is undef), (47, .is undef), (48, .is undef), (49, .is undef), (50, .is undef), (51, .is (.bool true))] (fun V => Below W4.heap.size W4 V) (by kernel_rfl) (by kernel_rfl) (by kernel_rfl) (by kernel_rfl) DD4.out ?hg4 _ (by rfl) ?hf4
      case hg4 =>
        refine goods_is (by kernel_rfl) (fun a V h hS K Q hK => op_quiet (quiet_move (.tmp 9) (look_at h 9 (by kernel_rfl) (by kernel_rfl)) (.inl (by kernel_rfl))) hK) ?_
        refine goods_is (by kernel_rfl) (fun a V h hS K Q hK => op_quiet (quiet_not (b := false) 4 (.tmp 42) (look_at h 42 (by kernel_rfl) (by kernel_rfl)) (by kernel_rfl)) hK) ?_
        refine goods_is (by kernel_rfl) (fun a V h hS K Q hK => op_quiet (quiet_move (.tmp 43) (look_at h 43 (by kernel_rfl) (by kernel_rfl)) (.inl (by kernel_rfl))) hK) ?_
        refine goods_off (j := 2) (want := false) (d := 44) (u := .bool true) (by kernel_rfl) (by kernel_rfl) (by kernel_rfl) (by kernel_rfl) (by kernel_rfl) ?_
        refine goods_off (j := 2) (want := false) (d := 44) (u := .bool true) (by kernel_rfl) (by kernel_rfl) (by kernel_rfl) (by kernel_rfl) (by kernel_rfl) ?_
        refine goods_off (j := 4) (want := true) (d := 46) (u := undef) (by kernel_rfl) (by kernel_rfl) (by kernel_rfl) (by kernel_rfl) (by kernel_rfl) ?_
        refine goods_off (j := 4) (want := true) (d := 46) (u := undef) (by kernel_rfl) (by kernel_rfl) (by kernel_rfl) (by kernel_rfl) (by kernel_rfl) ?_
        refine goods_off (j := 4) (want := true) (d := 46) (u := undef) (by kernel_rfl) (by kernel_rfl) (by kernel_rfl) (by kernel_rfl) (by kernel_rfl) ?_
        refine goods_off (j := 2) (want := false) (d := 44) (u := .bool true) (by kernel_rfl) (by kernel_rfl) (by kernel_rfl) (by kernel_rfl) (by kernel_rfl) ?_
        refine goods_is (by kernel_rfl) (fun a V h hS K Q hK => op_quiet (quiet_pickT (.tmp 44) (.const (.bool true)) (.tmp 50) (look_at h 44 (by kernel_rfl) (by kernel_rfl)) rfl (by kernel_rfl)) hK) ?_
        exact goods_nil
      case hf4 =>
      intro g V hF
      have hbf := hF.below
      clear hF
      simp only [finL, Pl.val, List.setIfInBounds_toArray, List.set_cons_zero, List.set_cons_succ]
      refine tail_nil ?_
      have XR_4 := Lib.hid (XR_3.out.old hbf)
      have HB_4 := Lib.hid (HB_3.out.trans (hbf.mono HB_3.out.size))
      clear XR_3 YY_3 XX_3 HB_3 PV hbf DD4
      generalize V = W5 at *
      have PV : Hid (∀ V, Below W5.heap.size W5 V → PrimeAt V) := Lib.hid fun V hV => HP.out.old (HB_4.out.trans (hV.mono HB_4.out.size))
      have HOK : Hid (decide (okP v) = false) := Lib.hid (by rw [hok2.out]; rfl)
      clear hok2
      have XF := Lib.hid (XR_4.out.row z)
      have HF := Lib.hid (below_row (g := w.heap.size) HB_4.out (Nat.le_refl _) z)
      go_wp2_with (first | (refine wpList_build_to rfl 30 #[] rfl [] (by simp [Act.eval]) z hBN.out ?_) | (refine wpList_store_row rfl 30 (.tmp 2) (.tmp 52) rfl w.heap.size z rfl rfl 30 z XR_4.out oz.out.1 rfl oz.out.2 ?_))
      refine bodyPost_ret (v := .tuple #[.agg z, .int .i64 8]) ?_ rfl (GetEnd.bad (of_decide_eq_false HOK.out) HF.out hzu.out)
      exact results_row_tmp1 Tryd.results10 _ _ w.heap.size 30 _ _ _ rfl rfl XF.out Tryd.underlying30 oz.out.1
    · skip
      have DD3 : Hid (∀ V, Below W3.heap.size W3 V → Below W3.heap.size W3 V) := Lib.hid fun _ h => h
      refine wp_sched [(38, .is (.agg (cE y))), (39, .is (.tuple #[.agg (cE x0), .bool true])), (37, .is (.tuple #[.agg (cE x0), .bool true])), (40, .is (.agg (cE x0))), (41, .is (.bool true)), (8, .fresh 28 zf)] (fun V => Below W3.heap.size W3 V) (by kernel_rfl) (by kernel_rfl) (by kernel_rfl) (by kernel_rfl) DD3.out ?hg3 _ (by rfl) ?hf3
      case hg3 =>
        refine goods_is (by kernel_rfl) (fun a V h hS K Q hK => op_quiet (quiet_load_row 28 (.tmp 6) _ (look_at h 6 (by kernel_rfl) (by kernel_rfl)) 28 (cE y) _ (YY_2.out.old hS) Tryd.underlying28 rfl (cE_ok _).1 (by kernel_rfl)) hK) ?_
        refine goods_is (by kernel_rfl) (fun a V h hS K Q hK => op_callK #[.tmp 38] #[.agg (cE y)] (by kernel_rfl) (by kernel_rfl) (by kernel_rfl) (map1 (look_at h 38 (by kernel_rfl) (by kernel_rfl))) (CX.out V (PV.out V hS) (HB_2.out.trans (hS.mono HB_2.out.size))) (by kernel_rfl) hK) ?_
        refine goods_is (by kernel_rfl) (fun a V h hS K Q hK => op_quiet (quiet_move (.tmp 39) (look_at h 39 (by kernel_rfl) (by kernel_rfl)) (.inl (by kernel_rfl))) hK) ?_
        refine goods_is (by kernel_rfl) (fun a V h hS K Q hK => op_quiet (quiet_extract (t := #[.agg (cE x0), .bool true]) (.tmp 37) 0 (look_at h 37 (by kernel_rfl) (by kernel_rfl)) rfl (by kernel_rfl)) hK) ?_
        refine goods_is (by kernel_rfl) (fun a V h hS K Q hK => op_quiet (quiet_extract (t := #[.agg (cE x0), .bool true]) (.tmp 37) 1 (look_at h 37 (by kernel_rfl) (by kernel_rfl)) rfl (by kernel_rfl)) hK) ?_
        refine goods_fresh (by kernel_rfl) hzf0 ?_
        exact goods_nil
      case hf3 =>
      intro g V hF
      obtain ⟨lg8, bg8⟩ := hF.blk 5 _ _ rfl
      have hbf := hF.below
      clear hF
      simp only [finL, Pl.val, List.setIfInBounds_toArray, List.set_cons_zero, List.set_cons_succ]
      generalize g 5 = g8 at *
      refine wpList_store_row rfl 28 (.tmp 8) (.tmp 40) rfl g8 (cE x0) rfl rfl 28 zf bg8 (cE_ok _).1 (ofE.out _) (cE_ok _).2 ?_
      have XR_3 := Lib.hid ((XR_2.out.old hbf).rowFar (Nat.ne_of_lt (Nat.lt_of_lt_of_le XR_2.out.lt lg8)) (cE x0))
      have YY_3 := Lib.hid ((YY_2.out.old hbf).rowFar (Nat.ne_of_lt (Nat.lt_of_lt_of_le YY_2.out.lt lg8)) (cE x0))
      have XX_3 := Lib.hid (bg8.row (cE x0))
      have LG8 := Lib.hid (Nat.le_trans HB_2.out.size lg8)
      have HB_3 := Lib.hid (below_row (g := g8) (HB_2.out.trans (hbf.mono HB_2.out.size)) (Nat.le_trans HB_2.out.size lg8) (cE x0))
      clear XR_2 YY_2 HB_2 PV lg8 bg8 hbf DD3
      generalize V.setRow g8 (cE x0) = W4 at *
      have PV : Hid (∀ V, Below W4.heap.size W4 V → PrimeAt V) := Lib.hid fun V hV => HP.out.old (HB_3.out.trans (hV.mono HB_3.out.size))
      go_upto_region 12 with fail
      (try simp only [Act.put, List.setIfInBounds_toArray, List.set_cons_zero, List.set_cons_succ])
      (try simp only [Act.put, List.setIfInBounds_toArray, List.set_cons_zero, List.set_cons_succ])
      cases bo
      · skip
        have DD4 : Hid (∀ V, Below W4.heap.size W4 V → Below W4.heap.size W4 V) := Lib.hid fun _ h => h
        refine wp_sched [(42, .is (.bool true)), (43, .is (.bool false)), (44, .is (.bool false)), (45, .is (.bool false)), (46, .is (.bool false)), (47, .is undef), (48, .is undef), (49, .is undef), (50, .is (.bool false)), (51, .is (.bool false))] (fun V => Below W4.heap.size W4 V) (by kernel_rfl) (by kernel_rfl) (by kernel_rfl) (by kernel_rfl) DD4.out ?hg4 _ (by rfl) ?hf4
        case hg4 =>
          refine goods_is (by kernel_rfl) (fun a V h hS K Q hK => op_quiet (quiet_move (.tmp 9) (look_at h 9 (by kernel_rfl) (by kernel_rfl)) (.inl (by kernel_rfl))) hK) ?_
          refine goods_is (by kernel_rfl) (fun a V h hS K Q hK => op_quiet (quiet_not (b := true) 4 (.tmp 42) (look_at h 42 (by kernel_rfl) (by kernel_rfl)) (by kernel_rfl)) hK) ?_
          refine goods_is (by kernel_rfl) (fun a V h hS K Q hK => op_quiet (quiet_move (.tmp 43) (look_at h 43 (by kernel_rfl) (by kernel_rfl)) (.inl (by kernel_rfl))) hK) ?_
          refine goods_on (j := 2) (want := false) (d := 44) (u := .bool false) (by kernel_rfl) (by kernel_rfl) (by kernel_rfl) (by kernel_rfl) (by kernel_rfl) (fun a V h hS K Q hK => op_quiet (quiet_move (.tmp 5) (look_at h 5 (by kernel_rfl) (by kernel_rfl)) (.inl (by kernel_rfl))) hK) ?_
          refine goods_on (j := 2) (want := false) (d := 44) (u := .bool false) (by kernel_rfl) (by kernel_rfl) (by kernel_rfl) (by kernel_rfl) (by kernel_rfl) (fun a V h hS K Q hK => op_quiet (quiet_move (.tmp 45) (look_at h 45 (by kernel_rfl) (by kernel_rfl)) (.inl (by kernel_rfl))) hK) ?_
          refine goods_off (j := 4) (want := true) (d := 46) (u := .bool false) (by kernel_rfl) (by kernel_rfl) (by kernel_rfl) (by kernel_rfl) (by kernel_rfl) ?_
          refine goods_off (j := 4) (want := true) (d := 46) (u := .bool false) (by kernel_rfl) (by kernel_rfl) (by kernel_rfl) (by kernel_rfl) (by kernel_rfl) ?_
          refine goods_off (j := 4) (want := true) (d := 46) (u := .bool false) (by kernel_rfl) (by kernel_rfl) (by kernel_rfl) (by kernel_rfl) (by kernel_rfl) ?_
          refine goods_on (j := 2) (want := false) (d := 44) (u := .bool false) (by kernel_rfl) (by kernel_rfl) (by kernel_rfl) (by kernel_rfl) (by kernel_rfl) (fun a V h hS K Q hK => op_quiet (quiet_pickF (.tmp 46) (.tmp 49) (.const (.bool false)) (look_at h 46 (by kernel_rfl) (by kernel_rfl)) rfl (by kernel_rfl)) hK) ?_
          refine goods_is (by kernel_rfl) (fun a V h hS K Q hK => op_quiet (quiet_pickF (.tmp 44) (.const (.bool true)) (.tmp 50) (look_at h 44 (by kernel_rfl) (by kernel_rfl)) (look_at h 50 (by kernel_rfl) (by kernel_rfl)) (by kernel_rfl)) hK) ?_
          exact goods_nil
        case hf4 =>
        intro g V hF
        have hbf := hF.below
        clear hF
        simp only [finL, Pl.val, List.setIfInBounds_toArray, List.set_cons_zero, List.set_cons_succ]
        refine tail_nil ?_
        have XR_4 := Lib.hid (XR_3.out.old hbf)
        have YY_4 := Lib.hid (YY_3.out.old hbf)
        have XX_4 := Lib.hid (XX_3.out.old hbf)
        have HB_4 := Lib.hid (HB_3.out.trans (hbf.mono HB_3.out.size))
        clear XR_3 YY_3 XX_3 HB_3 PV hbf DD4
        generalize V = W5 at *
        have PV : Hid (∀ V, Below W5.heap.size W5 V → PrimeAt V) := Lib.hid fun V hV => HP.out.old (HB_4.out.trans (hV.mono HB_4.out.size))
        have HOK : Hid (decide (okP v) = true) := Lib.hid (by rw [hok2.out]; rfl)
        clear hok2
        go_upto_region 16 with fail
        (try simp only [Act.put, List.setIfInBounds_toArray, List.set_cons_zero, List.set_cons_succ])
        (try simp only [Act.put, List.setIfInBounds_toArray, List.set_cons_zero, List.set_cons_succ])
        have DD5 : Hid (∀ V, Below W5.heap.size W5 V → Below W5.heap.size W5 V) := Lib.hid fun _ h => h
        refine wp_sched [(58, .is (.agg (cE x0))), (59, .is (.agg (cE y))), (60, .is (.agg q1))] (fun V => Below W5.heap.size W5 V) (by kernel_rfl) (by kernel_rfl) (by kernel_rfl) (by kernel_rfl) DD5.out ?hg5 _ (by rfl) ?hf5
        case hg5 =>
          refine goods_is (by kernel_rfl) (fun a V h hS K Q hK => op_quiet (quiet_load_row 28 (.tmp 8) _ (look_at h 8 (by kernel_rfl) (by kernel_rfl)) 28 (cE x0) _ (XX_4.out.old hS) Tryd.underlying28 rfl (cE_ok _).1 (by kernel_rfl)) hK) ?_
          refine goods_is (by kernel_rfl) (fun a V h hS K Q hK => op_quiet (quiet_load_row 28 (.tmp 6) _ (look_at h 6 (by kernel_rfl) (by kernel_rfl)) 28 (cE y) _ (YY_4.out.old hS) Tryd.underlying28 rfl (cE_ok _).1 (by kernel_rfl)) hK) ?_
          refine goods_is (by kernel_rfl) (fun a V h hS K Q hK => op_callK #[.tmp 58, .tmp 59] #[.agg (cE x0), .agg (cE y)] (by kernel_rfl) (by kernel_rfl) (by kernel_rfl) (map2 (look_at h 58 (by kernel_rfl) (by kernel_rfl)) (look_at h 59 (by kernel_rfl) (by kernel_rfl))) (CP.out V) (by kernel_rfl) hK) ?_
          exact goods_nil
        case hf5 =>
        intro g V hF
        have hbf := hF.below
        clear hF
        simp only [finL, Pl.val, List.setIfInBounds_toArray, List.set_cons_zero, List.set_cons_succ]
        refine wpList_store_row rfl 30 (.tmp 2) (.tmp 60) rfl w.heap.size q1 rfl rfl 30 z (XR_4.out.old hbf) oq1.out.1 oq1.out.2.2 oq1.out.2.1 ?_
        have XR_5 := Lib.hid ((XR_4.out.old hbf).row q1)
        have HB_5 := Lib.hid (below_row (g := w.heap.size) (HB_4.out.trans (hbf.mono HB_4.out.size)) (Nat.le_refl _) q1)
        clear XR_4 YY_4 XX_4 HB_4 PV hbf DD5
        generalize V.setRow w.heap.size q1 = W6 at *
        have PV : Hid (∀ V, Below W6.heap.size W6 V → PrimeAt V) := Lib.hid fun V hV => HP.out.old (HB_5.out.trans (hV.mono HB_5.out.size))
        go_wp2_with fail
        refine bodyPost_ret (v := .tuple #[.agg q1, .int .i64 0]) ?_ rfl (GetEnd.good (of_decide_eq_true HOK.out) (hg1.out (by first | rfl | trivial)) HB_5.out)
        exact results_row_tmp1 Tryd.results10 _ _ w.heap.size 30 _ _ _ rfl rfl XR_5.out Tryd.underlying30 oq1.out.1
      · skip
        cases b0
        · skip
          have DD4 : Hid (∀ V, Below W4.heap.size W4 V → Below W4.heap.size W4 V) := Lib.hid fun _ h => h
          refine wp_sched [(42, .is (.bool true)), (43, .is (.bool false)), (44, .is (.bool false)), (45, .is (.bool true)), (46, .is (.bool true)), (47, .is (.agg (cE x0))), (48, .is (.agg (cE nil))), (49, .is (.bool false)), (50, .is (.bool false)), (51, .is (.bool false))] (fun V => Below W4.heap.size W4 V) (by kernel_rfl) (by kernel_rfl) (by kernel_rfl) (by kernel_rfl) DD4.out ?hg4 _ (by rfl) ?hf4
          case hg4 =>
            refine goods_is (by kernel_rfl) (fun a V h hS K Q hK => op_quiet (quiet_move (.tmp 9) (look_at h 9 (by kernel_rfl) (by kernel_rfl)) (.inl (by kernel_rfl))) hK) ?_
            refine goods_is (by kernel_rfl) (fun a V h hS K Q hK => op_quiet (quiet_not (b := true) 4 (.tmp 42) (look_at h 42 (by kernel_rfl) (by kernel_rfl)) (by kernel_rfl)) hK) ?_
            refine goods_is (by kernel_rfl) (fun a V h hS K Q hK => op_quiet (quiet_move (.tmp 43) (look_at h 43 (by kernel_rfl) (by kernel_rfl)) (.inl (by kernel_rfl))) hK) ?_
            refine goods_on (j := 2) (want := false) (d := 44) (u := .bool false) (by kernel_rfl) (by kernel_rfl) (by kernel_rfl) (by kernel_rfl) (by kernel_rfl) (fun a V h hS K Q hK => op_quiet (quiet_move (.tmp 5) (look_at h 5 (by kernel_rfl) (by kernel_rfl)) (.inl (by kernel_rfl))) hK) ?_
            refine goods_on (j := 2) (want := false) (d := 44) (u := .bool false) (by kernel_rfl) (by kernel_rfl) (by kernel_rfl) (by kernel_rfl) (by kernel_rfl) (fun a V h hS K Q hK => op_quiet (quiet_move (.tmp 45) (look_at h 45 (by kernel_rfl) (by kernel_rfl)) (.inl (by kernel_rfl))) hK) ?_
            refine goods_on (j := 4) (want := true) (d := 46) (u := .bool true) (by kernel_rfl) (by kernel_rfl) (by kernel_rfl) (by kernel_rfl) (by kernel_rfl) (fun a V h hS K Q hK => op_quiet (quiet_load_row 28 (.tmp 8) _ (look_at h 8 (by kernel_rfl) (by kernel_rfl)) 28 (cE x0) _ (XX_3.out.old hS) Tryd.underlying28 rfl (cE_ok _).1 (by kernel_rfl)) hK) ?_
            refine goods_on (j := 4) (want := true) (d := 46) (u := .bool true) (by kernel_rfl) (by kernel_rfl) (by kernel_rfl) (by kernel_rfl) (by kernel_rfl) (fun a V h hS K Q hK => op_callK #[.const (.int .u64 0)] #[.int .u64 0] (by kernel_rfl) (by kernel_rfl) (by kernel_rfl) (map1 rfl) (C0.out V) (by kernel_rfl) hK) ?_
            refine goods_on (j := 4) (want := true) (d := 46) (u := .bool true) (by kernel_rfl) (by kernel_rfl) (by kernel_rfl) (by kernel_rfl) (by kernel_rfl) (fun a V h hS K Q hK => op_callK #[.tmp 47, .tmp 48] #[.agg (cE x0), .agg (cE nil)] (by kernel_rfl) (by kernel_rfl) (by kernel_rfl) (map2 (look_at h 47 (by kernel_rfl) (by kernel_rfl)) (look_at h 48 (by kernel_rfl) (by kernel_rfl))) (CS.out V) (by kernel_rfl) hK) ?_
            refine goods_on (j := 2) (want := false) (d := 44) (u := .bool false) (by kernel_rfl) (by kernel_rfl) (by kernel_rfl) (by kernel_rfl) (by kernel_rfl) (fun a V h hS K Q hK => op_quiet (quiet_pickT (.tmp 46) (.tmp 49) (.const (.bool false)) (look_at h 46 (by kernel_rfl) (by kernel_rfl)) (look_at h 49 (by kernel_rfl) (by kernel_rfl)) (by kernel_rfl)) hK) ?_
            refine goods_is (by kernel_rfl) (fun a V h hS K Q hK => op_quiet (quiet_pickF (.tmp 44) (.const (.bool true)) (.tmp 50) (look_at h 44 (by kernel_rfl) (by kernel_rfl)) (look_at h 50 (by kernel_rfl) (by kernel_rfl)) (by kernel_rfl)) hK) ?_
            exact goods_nil
          case hf4 =>
          intro g V hF
          have hbf := hF.below
          clear hF
          simp only [finL, Pl.val, List.setIfInBounds_toArray, List.set_cons_zero, List.set_cons_succ]
          refine tail_nil ?_
          have XR_4 := Lib.hid (XR_3.out.old hbf)
          have YY_4 := Lib.hid (YY_3.out.old hbf)
          have XX_4 := Lib.hid (XX_3.out.old hbf)
          have HB_4 := Lib.hid (HB_3.out.trans (hbf.mono HB_3.out.size))
          clear XR_3 YY_3 XX_3 HB_3 PV hbf DD4
          generalize V = W5 at *
          have PV : Hid (∀ V, Below W5.heap.size W5 V → PrimeAt V) := Lib.hid fun V hV => HP.out.old (HB_4.out.trans (hV.mono HB_4.out.size))
          have HOK : Hid (decide (okP v) = true) := Lib.hid (by rw [hok2.out]; rfl)
          clear hok2
          go_upto_region 15 with fail
          (try simp only [Act.put, List.setIfInBounds_toArray, List.set_cons_zero, List.set_cons_succ])
          (try simp only [Act.put, List.setIfInBounds_toArray, List.set_cons_zero, List.set_cons_succ])
          have DD5 : Hid (∀ V, Below W5.heap.size W5 V → Below W5.heap.size W5 V) := Lib.hid fun _ h => h
          refine wp_sched [(54, .is (.agg (cE x0))), (55, .is (.agg (cE y))), (56, .is (.agg q1)), (57, .is (.agg q2))] (fun V => Below W5.heap.size W5 V) (by kernel_rfl) (by kernel_rfl) (by kernel_rfl) (by kernel_rfl) DD5.out ?hg5 _ (by rfl) ?hf5
          case hg5 =>
            refine goods_is (by kernel_rfl) (fun a V h hS K Q hK => op_quiet (quiet_load_row 28 (.tmp 8) _ (look_at h 8 (by kernel_rfl) (by kernel_rfl)) 28 (cE x0) _ (XX_4.out.old hS) Tryd.underlying28 rfl (cE_ok _).1 (by kernel_rfl)) hK) ?_
            refine goods_is (by kernel_rfl) (fun a V h hS K Q hK => op_quiet (quiet_load_row 28 (.tmp 6) _ (look_at h 6 (by kernel_rfl) (by kernel_rfl)) 28 (cE y) _ (YY_4.out.old hS) Tryd.underlying28 rfl (cE_ok _).1 (by kernel_rfl)) hK) ?_
            refine goods_is (by kernel_rfl) (fun a V h hS K Q hK => op_callK #[.tmp 54, .tmp 55] #[.agg (cE x0), .agg (cE y)] (by kernel_rfl) (by kernel_rfl) (by kernel_rfl) (map2 (look_at h 54 (by kernel_rfl) (by kernel_rfl)) (look_at h 55 (by kernel_rfl) (by kernel_rfl))) (CP.out V) (by kernel_rfl) hK) ?_
            refine goods_is (by kernel_rfl) (fun a V h hS K Q hK => op_callK #[.tmp 56] #[.agg q1] (by kernel_rfl) (by kernel_rfl) (by kernel_rfl) (map1 (look_at h 56 (by kernel_rfl) (by kernel_rfl))) (CN.out V (PV.out V hS)) (by kernel_rfl) hK) ?_
            exact goods_nil
          case hf5 =>
          intro g V hF
          have hbf := hF.below
          clear hF
          simp only [finL, Pl.val, List.setIfInBounds_toArray, List.set_cons_zero, List.set_cons_succ]
          refine wpList_store_row rfl 30 (.tmp 2) (.tmp 57) rfl w.heap.size q2 rfl rfl 30 z (XR_4.out.old hbf) oq2.out.1 oq2.out.2.2 oq2.out.2.1 ?_
          have XR_5 := Lib.hid ((XR_4.out.old hbf).row q2)
          have HB_5 := Lib.hid (below_row (g := w.heap.size) (HB_4.out.trans (hbf.mono HB_4.out.size)) (Nat.le_refl _) q2)
          clear XR_4 YY_4 XX_4 HB_4 PV hbf DD5
          generalize V.setRow w.heap.size q2 = W6 at *
          have PV : Hid (∀ V, Below W6.heap.size W6 V → PrimeAt V) := Lib.hid fun V hV => HP.out.old (HB_5.out.trans (hV.mono HB_5.out.size))
          go_wp2_with fail
          refine bodyPost_ret (v := .tuple #[.agg q2, .int .i64 0]) ?_ rfl (GetEnd.good (of_decide_eq_true HOK.out) (hg2.out (by first | rfl | trivial)) HB_5.out)
          exact results_row_tmp1 Tryd.results10 _ _ w.heap.size 30 _ _ _ rfl rfl XR_5.out Tryd.underlying30 oq2.out.1
        · skip
          have DD4 : Hid (∀ V, Below W4.heap.size W4 V → Below W4.heap.size W4 V) := Lib.hid fun _ h => h
          refine wp_sched [(42, .is (.bool true)), (43, .is (.bool false)), (44, .is (.bool false)), (45, .is (.bool true)), (46, .is (.bool true)), (47, .is (.agg (cE x0))), (48, .is (.agg (cE nil))), (49, .is (.bool true)), (50, .is (.bool true)), (51, .is (.bool true))] (fun V => Below W4.heap.size W4 V) (by kernel_rfl) (by kernel_rfl) (by kernel_rfl) (by kernel_rfl) DD4.out ?hg4 _ (by rfl) ?hf4
          case hg4 =>
            refine goods_is (by kernel_rfl) (fun a V h hS K Q hK => op_quiet (quiet_move (.tmp 9) (look_at h 9 (by kernel_rfl) (by kernel_rfl)) (.inl (by kernel_rfl))) hK) ?_
            refine goods_is (by kernel_rfl) (fun a V h hS K Q hK => op_quiet (quiet_not (b := true) 4 (.tmp 42) (look_at h 42 (by kernel_rfl) (by kernel_rfl)) (by kernel_rfl)) hK) ?_
            refine goods_is (by kernel_rfl) (fun a V h hS K Q hK => op_quiet (quiet_move (.tmp 43) (look_at h 43 (by kernel_rfl) (by kernel_rfl)) (.inl (by kernel_rfl))) hK) ?_
            refine goods_on (j := 2) (want := false) (d := 44) (u := .bool false) (by kernel_rfl) (by kernel_rfl) (by kernel_rfl) (by kernel_rfl) (by kernel_rfl) (fun a V h hS K Q hK => op_quiet (quiet_move (.tmp 5) (look_at h 5 (by kernel_rfl) (by kernel_rfl)) (.inl (by kernel_rfl))) hK) ?_
            refine goods_on (j := 2) (want := false) (d := 44) (u := .bool false) (by kernel_rfl) (by kernel_rfl) (by kernel_rfl) (by kernel_rfl) (by kernel_rfl) (fun a V h hS K Q hK => op_quiet (quiet_move (.tmp 45) (look_at h 45 (by kernel_rfl) (by kernel_rfl)) (.inl (by kernel_rfl))) hK) ?_
            refine goods_on (j := 4) (want := true) (d := 46) (u := .bool true) (by kernel_rfl) (by kernel_rfl) (by kernel_rfl) (by kernel_rfl) (by kernel_rfl) (fun a V h hS K Q hK => op_quiet (quiet_load_row 28 (.tmp 8) _ (look_at h 8 (by kernel_rfl) (by kernel_rfl)) 28 (cE x0) _ (XX_3.out.old hS) Tryd.underlying28 rfl (cE_ok _).1 (by kernel_rfl)) hK) ?_
            refine goods_on (j := 4) (want := true) (d := 46) (u := .bool true) (by kernel_rfl) (by kernel_rfl) (by kernel_rfl) (by kernel_rfl) (by kernel_rfl) (fun a V h hS K Q hK => op_callK #[.const (.int .u64 0)] #[.int .u64 0] (by kernel_rfl) (by kernel_rfl) (by kernel_rfl) (map1 rfl) (C0.out V) (by kernel_rfl) hK) ?_
            refine goods_on (j := 4) (want := true) (d := 46) (u := .bool true) (by kernel_rfl) (by kernel_rfl) (by kernel_rfl) (by kernel_rfl) (by kernel_rfl) (fun a V h hS K Q hK => op_callK #[.tmp 47, .tmp 48] #[.agg (cE x0), .agg (cE nil)] (by kernel_rfl) (by kernel_rfl) (by kernel_rfl) (map2 (look_at h 47 (by kernel_rfl) (by kernel_rfl)) (look_at h 48 (by kernel_rfl) (by kernel_rfl))) (CS.out V) (by kernel_rfl) hK) ?_
            refine goods_on (j := 2) (want := false) (d := 44) (u := .bool false) (by kernel_rfl) (by kernel_rfl) (by kernel_rfl) (by kernel_rfl) (by kernel_rfl) (fun a V h hS K Q hK => op_quiet (quiet_pickT (.tmp 46) (.tmp 49) (.const (.bool false)) (look_at h 46 (by kernel_rfl) (by kernel_rfl)) (look_at h 49 (by kernel_rfl) (by kernel_rfl)) (by kernel_rfl)) hK) ?_
            refine goods_is (by kernel_rfl) (fun a V h hS K Q hK => op_quiet (quiet_pickF (.tmp 44) (.const (.bool true)) (.tmp 50) (look_at h 44 (by kernel_rfl) (by kernel_rfl)) (look_at h 50 (by kernel_rfl) (by kernel_rfl)) (by kernel_rfl)) hK) ?_
            exact goods_nil
          case hf4 =>
          intro g V hF
          have hbf := hF.below
          clear hF
          simp only [finL, Pl.val, List.setIfInBounds_toArray, List.set_cons_zero, List.set_cons_succ]
          refine tail_nil ?_
          have XR_4 := Lib.hid (XR_3.out.old hbf)
          have YY_4 := Lib.hid (YY_3.out.old hbf)
          have XX_4 := Lib.hid (XX_3.out.old hbf)
          have HB_4 := Lib.hid (HB_3.out.trans (hbf.mono HB_3.out.size))
          clear XR_3 YY_3 XX_3 HB_3 PV hbf DD4
          generalize V = W5 at *
          have PV : Hid (∀ V, Below W5.heap.size W5 V → PrimeAt V) := Lib.hid fun V hV => HP.out.old (HB_4.out.trans (hV.mono HB_4.out.size))
          have HOK : Hid (decide (okP v) = false) := Lib.hid (by rw [hok2.out]; rfl)
          clear hok2
          have XF := Lib.hid (XR_4.out.row z)
          have HF := Lib.hid (below_row (g := w.heap.size) HB_4.out (Nat.le_refl _) z)
          go_wp2_with (first | (refine wpList_build_to rfl 30 #[] rfl [] (by simp [Act.eval]) z hBN.out ?_) | (refine wpList_store_row rfl 30 (.tmp 2) (.tmp 52) rfl w.heap.size z rfl rfl 30 z XR_4.out oz.out.1 rfl oz.out.2 ?_))
          refine bodyPost_ret (v := .tuple #[.agg z, .int .i64 8]) ?_ rfl (GetEnd.bad (of_decide_eq_false HOK.out) HF.out hzu.out)
          exact results_row_tmp1 Tryd.results10 _ _ w.heap.size 30 _ _ _ rfl rfl XF.out Tryd.underlying30 oz.out.1
  · skip
    have CG : Hid (∀ V, PrimeAt V → Below W2.heap.size W2 V → Calls Tryd.prog 28 #[.slice (some ⟨g4, 0, none⟩) 32 32] V fun e w' => e = .returned (.tuple #[.agg (cE 0), .int .i64 6]) ∧ Below V.heap.size V w') := Lib.hid fun V hV hS => by
      have := get_32 u hu256 ⟨g4, 0, none⟩ 32 V (RD.out V hS) hV
      simp only [hup, if_false] at this
      exact this
    have DD2 : Hid (∀ V, Below W2.heap.size W2 V → Below W2.heap.size W2 V) := Lib.hid fun _ h => h
    refine wp_sched [(30, .is (.slice (some ⟨g4, 0, none⟩) 32 32)), (31, .is (.tuple #[.agg (cE 0), .int .i64 6])), (29, .is (.tuple #[.agg (cE 0), .int .i64 6])), (32, .is (.agg (cE 0))), (33, .is (.int .i64 6)), (6, .fresh 28 zf)] (fun V => Below W2.heap.size W2 V) (by kernel_rfl) (by kernel_rfl) (by kernel_rfl) (by kernel_rfl) DD2.out ?hg2 _ (by rfl) ?hf2
    case hg2 =>
      refine goods_is (by kernel_rfl) (fun a V h hS K Q hK => op_quiet (quiet_slice32 (.tmp 4) g4 (look_at h 4 (by kernel_rfl) (by kernel_rfl)) (by kernel_rfl)) hK) ?_
      refine goods_is (by kernel_rfl) (fun a V h hS K Q hK => op_callK #[.tmp 30] #[.slice (some ⟨g4, 0, none⟩) 32 32] (by kernel_rfl) (by kernel_rfl) (by kernel_rfl) (map1 (look_at h 30 (by kernel_rfl) (by kernel_rfl))) (CG.out V (PV.out V hS) hS) (by kernel_rfl) hK) ?_
      refine goods_is (by kernel_rfl) (fun a V h hS K Q hK => op_quiet (quiet_move (.tmp 31) (look_at h 31 (by kernel_rfl) (by kernel_rfl)) (.inl (by kernel_rfl))) hK) ?_
      refine goods_is (by kernel_rfl) (fun a V h hS K Q hK => op_quiet (quiet_extract (t := #[.agg (cE 0), .int .i64 6]) (.tmp 29) 0 (look_at h 29 (by kernel_rfl) (by kernel_rfl)) rfl (by kernel_rfl)) hK) ?_
      refine goods_is (by kernel_rfl) (fun a V h hS K Q hK => op_quiet (quiet_extract (t := #[.agg (cE 0), .int .i64 6]) (.tmp 29) 1 (look_at h 29 (by kernel_rfl) (by kernel_rfl)) rfl (by kernel_rfl)) hK) ?_
      refine goods_fresh (by kernel_rfl) hzf0 ?_
      exact goods_nil
    case hf2 =>
    intro g V hF
    obtain ⟨lg6, bg6⟩ := hF.blk 5 _ _ rfl
    have hbf := hF.below
    clear hF
    simp only [finL, Pl.val, List.setIfInBounds_toArray, List.set_cons_zero, List.set_cons_succ]
    generalize g 5 = g6 at *
    refine wpList_store_row rfl 28 (.tmp 6) (.tmp 32) rfl g6 (cE 0) rfl rfl 28 zf bg6 (cE_ok _).1 (ofE.out _) (cE_ok _).2 ?_
    have XR_2 := Lib.hid ((XO.out.old hbf).rowFar (Nat.ne_of_lt (Nat.lt_of_lt_of_le XO.out.lt lg6)) (cE 0))
    have YY_2 := Lib.hid (bg6.row (cE 0))
    have LG6 := Lib.hid (Nat.le_trans HBO.out.size lg6)
    have HB_2 := Lib.hid (below_row (g := g6) (HBO.out.trans (hbf.mono HBO.out.size)) (Nat.le_trans HBO.out.size lg6) (cE 0))
    clear XO BO HBO PV lg6 bg6 hbf DD2
    generalize V.setRow g6 (cE 0) = W3 at *
    have PV : Hid (∀ V, Below W3.heap.size W3 V → PrimeAt V) := Lib.hid fun V hV => HP.out.old (HB_2.out.trans (hV.mono HB_2.out.size))
    have HOK : Hid (decide (okP v) = false) := Lib.hid (by rw [hokv.out, decide_eq_false hup]; rfl)
    clear hokv hup CG RD
    have XF := Lib.hid (XR_2.out.row z)
    have HF := Lib.hid (below_row (g := w.heap.size) HB_2.out (Nat.le_refl _) z)
    go_wp2_with (first | (refine wpList_build_to rfl 30 #[] rfl [] (by simp [Act.eval]) z hBN.out ?_) | (refine wpList_store_row rfl 30 (.tmp 2) (.tmp 36) rfl w.heap.size z rfl rfl 30 z XR_2.out oz.out.1 rfl oz.out.2 ?_))
    refine bodyPost_ret (v := .tuple #[.agg z, .int .i64 8]) ?_ rfl (GetEnd.bad (of_decide_eq_false HOK.out) HF.out hzu.out)
    exact results_row_tmp1 Tryd.results10 _ _ w.heap.size 30 _ _ _ rfl rfl XF.out Tryd.underlying30 oz.out.1
end Go.Proofs.YtjiadbaaggifpaaDoor
end

section
set_option linter.unusedVariables false
set_option linter.unusedSimpArgs false
namespace Go.Proofs.YtjiadbaaggifpaaDoor
open Go Go.Proofs Go.RowKit F5

/-- Two points that stand in the first and the second new block. -/
def TwoP (w : World) (a b : Array Value) (wr : World) : Prop := Blk wr w.heap.size 30 a ∧ Blk wr (w.heap.size + 1) 30 b ∧ Below w.heap.size w wr
theorem TwoP.new (w : World) (a b : Array Value) : TwoP w a b ((w.alloc (.cells a 30)).alloc (.cells b 30)) := two_blks w a b _ _
theorem TwoP.next {w wr w' : World} {a b : Array Value} (h : TwoP w a b wr) (hb : Below wr.heap.size wr w') : TwoP w a b w' := ⟨h.1.old hb, h.2.1.old hb, h.2.2.trans (hb.mono h.2.2.size)⟩
theorem TwoP.fst {w wr : World} {a b : Array Value} (h : TwoP w a b wr) (c : Array Value) : TwoP w c b (wr.setRow w.heap.size c) := ⟨h.1.row c, h.2.1.rowFar (by omega) c, below_row h.2.2 (Nat.le_refl _) c⟩
theorem TwoP.snd {w wr : World} {a b : Array Value} (h : TwoP w a b wr) (c : Array Value) : TwoP w a c (wr.setRow (w.heap.size + 1) c) := ⟨h.1.rowFar (by omega) c, h.2.1.row c, below_row h.2.2 (by omega) c⟩

/-! The answers hang on the arguments' cells alone. -/
theorem addDet {p q : Pt} {a b : Array Value} (hp : PU p a) (hq : PU q b) : ∃ c, PU (padd p q) c ∧ ∀ w, PrimeAt w → Calls Tryd.prog 15 #[.agg a, .agg b] w fun e w' => e = .returned (.agg c) ∧ Below w.heap.size w w' := by
  obtain ⟨X1, Y1, Z1, r1, rfl⟩ := hp
  obtain ⟨X2, Y2, Z2, r2, rfl⟩ := hq
  exact ⟨_, ⟨_, _, _, rep_addP r1 r2 rfl rfl rfl rfl rfl rfl rfl rfl rfl rfl rfl rfl rfl rfl rfl rfl rfl rfl, rfl⟩, fun w hP => addP X1 Y1 Z1 X2 Y2 Z2 _ _ _ _ _ _ _ _ _ _ _ _ _ _ _ _ _ _ rfl rfl rfl rfl rfl rfl rfl rfl rfl rfl rfl rfl rfl rfl rfl rfl rfl rfl w hP⟩
theorem twiceDet {p : Pt} {a : Array Value} (hp : PU p a) : ∃ c, PU (padd p p) c ∧ ∀ w, PrimeAt w → Calls Tryd.prog 70 #[.agg a] w fun e w' => e = .returned (.agg c) ∧ Below w.heap.size w w' := by
  obtain ⟨X1, Y1, Z1, r1, rfl⟩ := hp
  exact ⟨_, ⟨_, _, _, rep_twice r1 rfl rfl rfl rfl rfl rfl rfl rfl rfl rfl rfl rfl, rfl⟩, fun w hP => twiceP X1 Y1 Z1 _ _ _ _ _ _ _ _ _ _ _ _ rfl rfl rfl rfl rfl rfl rfl rfl rfl rfl rfl rfl w hP⟩
/-- Doubled and doubled again: one row of cells. -/
theorem dbl_seq {p : Pt} {a : Array Value} (hp : PU p a) : ∀ c : Nat, ∃ f : Nat → Array Value, f 0 = a ∧ (∀ i, i ≤ c → PU (pmul (2 ^ i) p) (f i)) ∧ ∀ i, i < c → ∀ w, PrimeAt w → Calls Tryd.prog 70 #[.agg (f i)] w fun e w' => e = .returned (.agg (f (i + 1))) ∧ Below w.heap.size w w'
  | 0 => ⟨fun _ => a, rfl, fun i hi => by obtain rfl : i = 0 := by omega
                                          rw [show 2 ^ 0 = 1 from rfl, pmul_one]; exact hp, fun i hi => absurd hi (Nat.not_lt_zero _)⟩
  | c + 1 => by
    obtain ⟨f, h0, h1, h2⟩ := dbl_seq hp c
    obtain ⟨y, hy, hc⟩ := twiceDet (h1 c (Nat.le_refl _))
    rw [pmul_double] at hy
    refine ⟨fun i => if i = c + 1 then y else f i, by simp [h0], fun i hi => ?_, fun i hi w hP => ?_⟩
    · by_cases e : i = c + 1
      · subst e; simpa using hy
      · simp only [e, if_false]; exact h1 i (by omega)
    · have hne : i ≠ c + 1 := by omega
      simp only [hne, if_false]
      by_cases e : i = c
      · subst e; simpa using hc w hP
      · have : i + 1 ≠ c + 1 := by omega
        simp only [this, if_false]
        exact h2 i (by omega) w hP

set_option maxHeartbeats 4000000 in
set_option maxRecDepth 100000 in
theorem doubled_seq {p : Pt} (f : Nat → Array Value) (c : Nat) (hc : c ≤ 1000) (hf : ∀ i, i ≤ c → PU (pmul (2 ^ i) p) (f i)) (ht : ∀ i, i < c → ∀ w, PrimeAt w → Calls Tryd.prog 70 #[.agg (f i)] w fun e w' => e = .returned (.agg (f (i + 1))) ∧ Below w.heap.size w w') (w : World) (hP : PrimeAt w) :
    Calls Tryd.prog 48 #[.agg (f 0), .int .i64 (c : Int)] w fun e w' => e = .returned (.agg (f c)) ∧ Below w.heap.size w w' := by
  have HP := Lib.hid hP
  have HF := Lib.hid hf
  have HT := Lib.hid ht
  obtain ⟨a, ha⟩ : ∃ a, Hid (a = f 0) := ⟨_, Lib.hid rfl⟩
  rw [← ha.out]
  obtain ⟨z, hz⟩ : ∃ z, Hid (z = uV 0 0 0) := ⟨_, Lib.hid rfl⟩
  have hz0 : ∀ W, (zeroValue 30).run Tryd.prog W = .ok (.agg z) W := by rw [hz.out]; exact zeroU
  have ok : Hid (∀ {q : Pt} {b : Array Value}, PU q b → (Tryd.prog.info? 30).map (·.size) = some b.size ∧ b.all (·.oneCell') = true ∧ z.size = b.size) := by rw [hz.out]; exact Lib.hid PU.ok
  clear hP hf ht hz
  go_enter Tryd.func48, Tryd.ntmps48
  go_wp2_with fail
  have h2 := TwoP.new w a z
  generalize (w.alloc (.cells a 30)).alloc (.cells z 30) = W at *
  go_loopg [6] c (fun g iv wr => ∃ i : Nat, iv = .int .i64 (i : Nat) ∧ g + i = c ∧ ∃ x, Hid (x = f i) ∧ TwoP w x z wr)
  case atStart => exact ⟨0, rfl, rfl, a, ha, h2⟩
  case round =>
    obtain ⟨i, rfl, hg, x, hx, hT⟩ := hrel
    clear h2
    have HTw := Lib.hid hT
    have oX : Hid ((Tryd.prog.info? 30).map (·.size) = some x.size ∧ x.all (·.oneCell') = true ∧ z.size = x.size) := Lib.hid (by rw [hx.out]; exact ok.out (HF.out i (by omega)))
    clear hT
    by_cases hlt : i < c
    · obtain ⟨y, hy⟩ : ∃ y, Hid (y = f (i + 1)) := ⟨_, Lib.hid rfl⟩
      have HMUL : Hid (Calls Tryd.prog 70 #[.agg x] wr fun e w' => e = .returned (.agg y) ∧ Below wr.heap.size wr w') := by rw [hx.out, hy.out]; exact Lib.hid (HT.out i hlt wr (HP.out.old HTw.out.2.2))
      have oY : Hid ((Tryd.prog.info? 30).map (·.size) = some y.size ∧ y.all (·.oneCell') = true ∧ z.size = y.size) := Lib.hid (by rw [hy.out]; exact ok.out (HF.out (i + 1) (by omega)))
      go_wp2_with (first | (refine wpList_load_row rfl 30 (.tmp 2) rfl w.heap.size rfl 30 x (0, 0) _ HTw.out.1 Tryd.underlying30 rfl oX.out.1 ?_))
      refine HMUL.out.mono ?_
      rintro e w1 ⟨rfl, hb1⟩
      have HT1 := Lib.hid (HTw.out.next hb1)
      have hs : Hid (x.size = y.size) := Lib.hid (oX.out.2.2.symm.trans oY.out.2.2)
      clear hb1
      have HT2 := Lib.hid (HT1.out.fst y)
      go_wp2_with (first | (refine wpList_store_row rfl 30 (.tmp 2) (.tmp 9) rfl w.heap.size y rfl rfl 30 x HT1.out.1 oY.out.1 hs.out oY.out.2.1 ?_))
      go_roundg (gk - 1)
      case measure => omega
      case rel => exact ⟨i + 1, by go_num, by omega, y, hy, HT2.out⟩
    · obtain rfl : i = c := by omega
      go_wp2_with (first | (refine wpList_load_row rfl 30 (.tmp 2) rfl w.heap.size rfl 30 x (0, 0) _ HTw.out.1 Tryd.underlying30 rfl oX.out.1 ?_) |
        (refine wpList_store_row rfl 30 (.tmp 4) (.tmp 11) rfl (w.heap.size + 1) x rfl rfl 30 _ HTw.out.2.1 oX.out.1 oX.out.2.2 oX.out.2.1 ?_))
      refine bodyPost_ret (v := .agg x) ?_ rfl ⟨by rw [hx.out], (HTw.out.snd x).2.2⟩
      exact results_cell_row Tryd.results48 _ _ (w.heap.size + 1) 30 x (0, 0) _ rfl (HTw.out.snd x).2.1 Tryd.underlying30 rfl oX.out.1

theorem doubledDet {p : Pt} {a : Array Value} (hp : PU p a) (c : Nat) (hc : c ≤ 1000) : ∃ o, PU (pmul (2 ^ c) p) o ∧ ∀ w, PrimeAt w → Calls Tryd.prog 48 #[.agg a, .int .i64 (c : Int)] w fun e w' => e = .returned (.agg o) ∧ Below w.heap.size w w' := by
  obtain ⟨f, h0, h1, h2⟩ := dbl_seq hp c
  exact ⟨f c, h1 c (Nat.le_refl _), fun w hP => by rw [← h0]; exact doubled_seq f c hc h1 h2 w hP⟩
end Go.Proofs.YtjiadbaaggifpaaDoor
end

section
set_option linter.unusedVariables false
set_option linter.unusedSimpArgs false
namespace Go.Proofs.YtjiadbaaggifpaaDoor
open Go Go.Proofs Go.RowKit F5

theorem zero16P (W : World) : (zeroValue 74).run Tryd.prog W = .ok (.agg (Array.replicate 192 (.int .u64 0))) W := by kernel_rfl
theorem built16 : Tryd.prog.built 74 [(0, .agg (uV 0 1 1))] = some (uV 0 1 1 ++ Array.replicate 180 (.int .u64 0)) := by kernel_rfl
theorem ix16 (g i : Nat) (hi : i < 16) (W : World) : (Instr.indexAt 74 (.pointer (some ⟨g, 0, none⟩)) (.int .i64 (i : Int))).run Tryd.prog W = .ok (.pointer (some ⟨g, 12 * i, none⟩)) W := by
  have hal : Tryd.prog.arrayLen 74 = 16 := by kernel_rfl
  have hel : Tryd.prog.elem 74 = 30 := by kernel_rfl
  go_simp
  rw [if_pos (by omega), Nat.mul_comm]
theorem ix16b (g i : Nat) (hi : i < 16) (W : World) : (Instr.indexAt 74 (.pointer (some ⟨g, 0, none⟩)) (.int .u8 (i : Int))).run Tryd.prog W = .ok (.pointer (some ⟨g, 12 * i, none⟩)) W := by
  have hal : Tryd.prog.arrayLen 74 = 16 := by kernel_rfl
  have hel : Tryd.prog.elem 74 = 30 := by kernel_rfl
  go_simp
  rw [if_pos (by omega), Nat.mul_comm]
theorem quiet_inc {o : Oper} {ev : Operand → Value} {V : World} (x : Operand) (U : TypeId) (i : Nat) (hi : i < 1000) (hx : ev x = .int .i64 (i : Int)) (ho : o.op = .binOp .add 3 x (.const (.int .i64 1)) U) (hc : ev (.const (.int .i64 1)) = .int .i64 1) : (execOp ev o).run Tryd.prog V = .ok (.value (.int .i64 ((i + 1 : Nat) : Int))) V := by
  have hw : IntKind.i64.wrap ((i : Int) + 1) = ((i + 1 : Nat) : Int) := by rw [IntWalk.i64_in _ (by omega)]; rfl
  unfold execOp
  simp only [ho, hx, hc]
  go_simp

/-- Of the sixteen points in these cells the ones up to number n are the multiples of p. -/
def FewOk (p : Pt) (n : Nat) (cur : Array Value) : Prop := cur.size = 192 ∧ cur.all (·.oneCell') = true ∧ ∀ j, j ≤ n → ∃ c, PU (pmul j p) c ∧ ∀ k v, c[k]? = some v → cur[12 * j + k]? = some v
theorem PU.size {p : Pt} {c : Array Value} (h : PU p c) : c.size = 12 := by rw [← h.ok.2.2, uV_size]
theorem FewOk.info {p : Pt} {n : Nat} {cur : Array Value} (h : FewOk p n cur) : (Tryd.prog.info? 74).map (·.size) = some cur.size ∧ cur.all (·.oneCell') = true := ⟨by rw [h.1]; kernel_rfl, h.2.1⟩
theorem FewOk.next {p : Pt} {n : Nat} {cur c : Array Value} (h : FewOk p n cur) (hn : n < 15) (hc : PU (pmul (n + 1) p) c) : FewOk p (n + 1) (cellsAt cur (12 * (n + 1)) c) := by
  obtain ⟨h1, h2, h3⟩ := h
  have hs := hc.size
  have hl : 12 * (n + 1) + c.size ≤ cur.size := by omega
  refine ⟨by rw [cellsAt_size hl, h1], cellsAt_one h2 hc.ok.2.1, fun j hj => ?_⟩
  by_cases hjn : j ≤ n
  · obtain ⟨d, hd, hk⟩ := h3 j hjn
    refine ⟨d, hd, fun k v hv => ?_⟩
    have hk12 : k < 12 := by rw [← hd.size]; exact (Array.getElem?_eq_some_iff.1 hv).1
    rw [cellsAt_out hl _ (by omega)]
    exact hk k v hv
  · obtain rfl : j = n + 1 := by omega
    refine ⟨c, hc, fun k v hv => ?_⟩
    rw [cellsAt_in hl k (Array.getElem?_eq_some_iff.1 hv).1, hv]
theorem FewOk.start (p : Pt) : FewOk p 0 (uV 0 1 1 ++ Array.replicate 180 (.int .u64 0)) := by
  refine ⟨by rw [Array.size_append, uV_size, Array.size_replicate], ?_, fun j hj => ⟨uV 0 1 1, ?_, fun k v hv => ?_⟩⟩
  · rw [Array.all_append, uV_one, Bool.true_and, Array.all_eq_true_iff_forall_mem]
    intro v hv
    rw [(Array.mem_replicate.1 hv).2]; rfl
  · obtain rfl : j = 0 := by omega
    exact ⟨0, 1, 1, rep_zero, rfl⟩
  · obtain rfl : j = 0 := by omega
    rw [Nat.mul_zero, Nat.zero_add, Array.getElem?_append_left (Array.getElem?_eq_some_iff.1 hv).1]
    exact hv
def FewAt (w : World) (a z : Array Value) (g : Nat) (cur : Array Value) (wr : World) : Prop := Blk wr w.heap.size 30 a ∧ Blk wr (w.heap.size + 1) 74 z ∧ Blk wr g 74 cur ∧ Below w.heap.size w wr ∧ w.heap.size + 1 < g

set_option maxHeartbeats 4000000 in
set_option maxRecDepth 100000 in
theorem fewPU {p : Pt} {A : Array Value} (hp : PU p A) (w : World) (hP : PrimeAt w) :
    Calls Tryd.prog 46 #[.agg A] w fun e w' => ∃ o, e = .returned (.agg o) ∧ FewOk p 15 o ∧ Below w.heap.size w w' := by
  have HA := Lib.hid hp
  have oA := Lib.hid hp.ok
  have HP := Lib.hid hP
  obtain ⟨z, hz⟩ : ∃ z : Array Value, Hid (z = Array.replicate 192 (.int .u64 0)) := ⟨_, Lib.hid rfl⟩
  have hz0 : ∀ W, (zeroValue 74).run Tryd.prog W = .ok (.agg z) W := by rw [hz.out]; exact zero16P
  have zs : Hid (z.size = 192) := Lib.hid (by rw [hz.out]; simp)
  obtain ⟨zc, hzc⟩ : ∃ c, Hid (c = uV 0 1 1) := ⟨_, Lib.hid rfl⟩
  have CZ : Hid (∀ V, Calls Tryd.prog 24 #[] V fun e w' => e = .returned (.agg zc) ∧ Below V.heap.size V w') := Lib.hid fun V => by rw [hzc.out]; exact zeroP2 V
  obtain ⟨cur0, hcu, hcu2⟩ : ∃ c, Hid (Tryd.prog.built 74 [(0, .agg zc)] = some c) ∧ FewOk p 0 c := ⟨_, by rw [hzc.out]; exact Lib.hid built16, FewOk.start p⟩
  have HF0 := Lib.hid hcu2
  have oF := Lib.hid hcu2.info
  have sF : Hid (z.size = cur0.size) := Lib.hid (by rw [zs.out, hcu2.1])
  obtain ⟨b1, b2, hb⟩ := two_blks w A z 30 74
  clear hz hzc hp hP hcu2
  go_enter Tryd.func46, Tryd.ntmps46
  go_upto_region 1 with fail
  generalize (w.alloc (.cells A 30)).alloc (.cells z 74) = W at *
  have P1 := Lib.hid b1
  have XR := Lib.hid b2
  have HB := Lib.hid hb
  clear b1 b2 hb
  (try simp only [Act.put, List.setIfInBounds_toArray, List.set_cons_zero, List.set_cons_succ])
  have PV : Hid (∀ V, Below W.heap.size W V → PrimeAt V) := Lib.hid fun V hV => HP.out.old (HB.out.trans (hV.mono HB.out.size))
  have DD1 : Hid (∀ V, Below W.heap.size W V → Below W.heap.size W V) := Lib.hid fun _ h => h
  refine wp_sched [(5, .is (.agg zc)), (6, .is (.agg cur0)), (3, .fresh 74 z)] (fun V => Below W.heap.size W V) (by kernel_rfl) (by kernel_rfl) (by kernel_rfl) (by kernel_rfl) DD1.out ?hg1 _ (by rfl) ?hf1
  case hg1 =>
    refine goods_is (by kernel_rfl) (fun a V h hS K Q hK => op_callK #[] #[] (by kernel_rfl) (by kernel_rfl) (by kernel_rfl) (map0 ) (CZ.out V) (by kernel_rfl) hK) ?_
    refine goods_is (by kernel_rfl) (fun a V h hS K Q hK => op_quiet (quiet_build_to 74 #[(0, .tmp 5)] (by kernel_rfl) [(0, .agg zc)] (bld1 (look_at h 5 (by kernel_rfl) (by kernel_rfl))) cur0 hcu.out) hK) ?_
    refine goods_fresh (by kernel_rfl) hz0 ?_
    exact goods_nil
  case hf1 =>
  intro g V hF
  obtain ⟨lg3, bg3⟩ := hF.blk 2 _ _ rfl
  have hbf := hF.below
  clear hF
  simp only [finL, Pl.val, List.setIfInBounds_toArray, List.set_cons_zero, List.set_cons_succ]
  generalize g 2 = g3 at *
  refine wpList_store_row rfl 74 (.tmp 3) (.tmp 6) rfl g3 cur0 rfl rfl 74 z bg3 oF.out.1 sF.out oF.out.2 ?_
  have P1_1 := Lib.hid ((P1.out.old hbf).rowFar (Nat.ne_of_lt (Nat.lt_of_lt_of_le P1.out.lt lg3)) cur0)
  have XR_1 := Lib.hid ((XR.out.old hbf).rowFar (Nat.ne_of_lt (Nat.lt_of_lt_of_le XR.out.lt lg3)) cur0)
  have FW_1 := Lib.hid (bg3.row cur0)
  have NE3 := Lib.hid (show w.heap.size + 1 < g3 from Nat.lt_of_lt_of_le XR.out.lt lg3)
  have LG3 := Lib.hid (Nat.le_trans HB.out.size lg3)
  have HB_1 := Lib.hid (below_row (g := g3) (HB.out.trans (hbf.mono HB.out.size)) (Nat.le_trans HB.out.size lg3) cur0)
  clear P1 XR HB PV lg3 bg3 hbf DD1
  generalize V.setRow g3 cur0 = W1 at *
  have PV : Hid (∀ V, Below W1.heap.size W1 V → PrimeAt V) := Lib.hid fun V hV => HP.out.old (HB_1.out.trans (hV.mono HB_1.out.size))
  have h0 : FewAt w A z g3 cur0 W1 := ⟨P1_1.out, XR_1.out, FW_1.out, HB_1.out, NE3.out⟩
  have hF0 := HF0.out
  clear P1_1 XR_1 FW_1 HB_1 oF sF HF0 hcu PV LG3
  go_wp2_with fail
  go_loopg [7] 15 (fun g iv wr => ∃ i : Nat, iv = .int .i64 (i : Nat) ∧ g + i = 15 ∧ ∃ cur, FewOk p i cur ∧ FewAt w A z g3 cur wr)
  case atStart => exact ⟨0, rfl, rfl, cur0, hF0, h0⟩
  case round =>
    obtain ⟨i, rfl, hg, cur, hcu, p1, p2, p3, p4, p5⟩ := hrel
    clear h0 hF0
    have P1 := Lib.hid p1
    have XR := Lib.hid p2
    have FW := Lib.hid p3
    have HB := Lib.hid p4
    have NE3 := Lib.hid p5
    have HC := Lib.hid hcu
    have oF := Lib.hid hcu.info
    have sF : Hid (z.size = cur.size) := Lib.hid (by rw [zs.out, hcu.1])
    clear p1 p2 p3 p4 p5 hcu
    by_cases hlt : i < 15
    · obtain ⟨x, hx, hxc⟩ := HC.out.2.2 i (Nat.le_refl _)
      have oX := Lib.hid hx.ok
      have HX := Lib.hid hx
      have HXC := Lib.hid hxc
      clear hx hxc
      have hi16 : i < 16 := by omega
      have hj16 : i + 1 < 16 := by omega
      go_upto_region 5 with fail
      generalize wr = W2 at *
      (try simp only [Act.put, List.setIfInBounds_toArray, List.set_cons_zero, List.set_cons_succ])
      have PV : Hid (∀ V, Below W2.heap.size W2 V → PrimeAt V) := Lib.hid fun V hV => HP.out.old (HB.out.trans (hV.mono HB.out.size))
      obtain ⟨y, hy, hADD⟩ := addDet HX.out HA.out
      have CADD := Lib.hid hADD
      have oY := Lib.hid hy.ok
      have HN := Lib.hid (HC.out.next hlt hy)
      have hys : 12 * (i + 1) + y.size ≤ cur.size := by rw [hy.size, HC.out.1]; omega
      clear hADD hy
      have DD11 : Hid (∀ V, Below W2.heap.size W2 V → Below W2.heap.size W2 V) := Lib.hid fun _ h => h
      refine wp_sched [(10, .is (.int .i64 (i : Int))), (11, .is (.int .i64 ((i + 1 : Nat) : Int))), (12, .is (.int .i64 (i : Int))), (13, .is (.pointer (some ⟨g3, 12 * i, none⟩))), (14, .is (.agg x)), (15, .is (.agg A)), (16, .is (.agg y)), (17, .is (.pointer (some ⟨g3, 12 * (i + 1), none⟩)))] (fun V => Below W2.heap.size W2 V) (by kernel_rfl) (by kernel_rfl) (by kernel_rfl) (by kernel_rfl) DD11.out ?hg11 _ (by rfl) ?hf11
      case hg11 =>
        refine goods_is (by kernel_rfl) (fun a V h hS K Q hK => op_quiet (quiet_move (.tmp 4) (look_at h 4 (by kernel_rfl) (by kernel_rfl)) (.inl (by kernel_rfl))) hK) ?_
        refine goods_is (by kernel_rfl) (fun a V h hS K Q hK => op_quiet (quiet_inc (.tmp 10) 3 i (by omega) (look_at h 10 (by kernel_rfl) (by kernel_rfl)) (by kernel_rfl) rfl) hK) ?_
        refine goods_is (by kernel_rfl) (fun a V h hS K Q hK => op_quiet (quiet_move (.tmp 4) (look_at h 4 (by kernel_rfl) (by kernel_rfl)) (.inl (by kernel_rfl))) hK) ?_
        refine goods_is (by kernel_rfl) (fun a V h hS K Q hK => op_quiet (quiet_index _ (.tmp 3) (.tmp 12) _ _ _ (look_at h 3 (by kernel_rfl) (by kernel_rfl)) (look_at h 12 (by kernel_rfl) (by kernel_rfl)) (ix16 g3 i hi16) (by kernel_rfl)) hK) ?_
        refine goods_is (by kernel_rfl) (fun a V h hS K Q hK => op_quiet (quiet_load_off 30 (.tmp 13) _ _ (look_at h 13 (by kernel_rfl) (by kernel_rfl)) x _ (fun j v hj => ((FW.out.old hS).cell _).trans (HXC.out j v hj)) Tryd.underlying30 rfl oX.out.1 (by kernel_rfl)) hK) ?_
        refine goods_is (by kernel_rfl) (fun a V h hS K Q hK => op_quiet (quiet_load_row 30 (.tmp 1) _ (look_at h 1 (by kernel_rfl) (by kernel_rfl)) 30 A _ (P1.out.old hS) Tryd.underlying30 rfl (oA.out).1 (by kernel_rfl)) hK) ?_
        refine goods_is (by kernel_rfl) (fun a V h hS K Q hK => op_callK #[.tmp 14, .tmp 15] #[.agg x, .agg A] (by kernel_rfl) (by kernel_rfl) (by kernel_rfl) (map2 (look_at h 14 (by kernel_rfl) (by kernel_rfl)) (look_at h 15 (by kernel_rfl) (by kernel_rfl))) (CADD.out V (PV.out V hS)) (by kernel_rfl) hK) ?_
        refine goods_is (by kernel_rfl) (fun a V h hS K Q hK => op_quiet (quiet_index _ (.tmp 3) (.tmp 11) _ _ _ (look_at h 3 (by kernel_rfl) (by kernel_rfl)) (look_at h 11 (by kernel_rfl) (by kernel_rfl)) (ix16 g3 (i + 1) hj16) (by kernel_rfl)) hK) ?_
        exact goods_nil
      case hf11 =>
      intro g V hF
      have hbf := hF.below
      clear hF
      simp only [finL, Pl.val, List.setIfInBounds_toArray, List.set_cons_zero, List.set_cons_succ]
      have FWV := Lib.hid (FW.out.old hbf)
      have n1 := (P1.out.old hbf).rowFar (show w.heap.size ≠ g3 by have := NE3.out; omega) (cellsAt cur (12 * (i + 1)) y)
      have n2 := (XR.out.old hbf).rowFar (show w.heap.size + 1 ≠ g3 by have := NE3.out; omega) (cellsAt cur (12 * (i + 1)) y)
      have n3 := FWV.out.row (cellsAt cur (12 * (i + 1)) y)
      have n4 := below_row (g := g3) (HB.out.trans (hbf.mono HB.out.size)) (by have := NE3.out; omega) (cellsAt cur (12 * (i + 1)) y)
      have HNEW : Hid (FewAt w A z g3 (cellsAt cur (12 * (i + 1)) y) (V.setRow g3 (cellsAt cur (12 * (i + 1)) y))) := Lib.hid ⟨n1, n2, n3, n4, NE3.out⟩
      clear n1 n2 n3 n4 hbf PV DD11
      refine wpList_store_off rfl 30 (.tmp 17) (.tmp 16) rfl g3 (12 * (i + 1)) y rfl rfl 74 cur FWV.out hys oY.out.1 oY.out.2.1 ?_
      clear hys
      generalize V.setRow g3 (cellsAt cur (12 * (i + 1)) y) = W4 at *
      generalize cellsAt cur (12 * (i + 1)) y = cur2 at *
      go_wp2_with fail
      go_roundg (gk - 1)
      case measure => omega
      case rel => exact ⟨i + 1, by go_num, by omega, cur2, HN.out, HNEW.out⟩
    · obtain rfl : i = 15 := by omega
      have XF := Lib.hid (XR.out.row cur)
      have HF := Lib.hid (below_row (g := w.heap.size + 1) HB.out (Nat.le_succ _) cur)
      go_wp2_with (first | (refine wpList_load_row rfl 74 (.tmp 3) rfl g3 rfl 74 cur (0, 0) _ FW.out Tryd.underlying74 rfl oF.out.1 ?_) | (refine wpList_store_row rfl 74 (.tmp 2) (.tmp 19) rfl (w.heap.size + 1) cur rfl rfl 74 z XR.out oF.out.1 sF.out oF.out.2 ?_))
      refine bodyPost_ret (v := .agg cur) ?_ rfl ⟨cur, rfl, HC.out, HF.out⟩
      exact results_cell_row Tryd.results46 _ _ (w.heap.size + 1) 74 _ (0, 0) _ rfl XF.out Tryd.underlying74 rfl oF.out.1
end Go.Proofs.YtjiadbaaggifpaaDoor
end
