/-
  Several texts in one: Sch2, SchL, OrdRef2, OrdRef6, SchQ, Auto, OrdRef7, OrdRef3, OrdOk, RefSame, TgRef2, TgRef4, TgEnd, TgVal, TgRef3, TgMay, TgRow, TgTags. Conditions: those that each theorem states.
-/
import Derived.Test.YtinlonpcakkfhaaGreatDoorM1
import Derived.OrdersHeld
import Derived.OrdersIn
import Derived.Tactics
import Derived.TacticsIn
import Derived.OwnWalkIn
import Derived.RangeFuncCalls
import Derived.Below
import Derived.Lib.Hide
import Derived.Great.BuildSlice
import Derived.Deep.WholeRow
import Derived.WalkMore
import Derived.WalkKit
import Derived.IntWalk
import Derived.Laws.Rows
import Derived.Laws.ResultCell
import Derived.StillTailTactics
set_option linter.unusedVariables false
set_option linter.unusedSimpArgs false
open Go.Lib (hid)
open Go.Proofs.YtinlonpcakkfhaaGreatDoor (zA zB zC zD zE zF)

section
namespace Go.Proofs.YtinlonpcakkfhaaGreatDoor.Sch
open Go Go.Proofs Go.RowKit
def dstOf (ops : Array Oper) (i : Nat) : Option Tmp := (ops[i]?).bind (·.dst)
def onsOf (ops : Array Oper) (i : Nat) : List Nat := match ops[i]? with | some o => (o.after.toList.filter (fun e => Region.binds .any e)).map (·.on) | none => []
def clo (ops : Array Oper) : Nat → List Nat → List Nat
  | 0, l => l
  | f + 1, l => clo ops f (l ++ l.flatMap (onsOf ops)).eraseDups
def pre (ops : Array Oper) (i : Nat) : List Nat := clo ops 8 (onsOf ops i)
section
variable (ops : Array Oper) (m : Nat)
def still (t : Tmp) : Bool := (List.range m).all fun j => dstOf ops j != some t
def chk (size : Nat) : Bool :=
  decide (m ≤ ops.size) &&
  ((List.range m).all fun i => (match ops[i]? with | some o => (match o.dst with | some d => decide (d < size) | none => false) | none => false) &&
    ((onsOf ops i).all fun j => decide (j < i)) && ((List.range m).all fun j => j == i || dstOf ops i != dstOf ops j))
def cloB : Bool := (List.range ops.size).all fun j => decide (j < m) || ((List.range m).all fun i => (clo ops 12 (onsOf ops j)).contains i)
end
def opA (ops : Array Oper) (k : Nat) : Oper := (ops[k]?).getD default
theorem opA_of {ops : Array Oper} {k : Nat} {o : Oper} (h : ops[k]? = some o) : opA ops k = o := by unfold opA; rw [h]; rfl
def tm (a : Act) (t : Tmp) : Value := a.tmps.getD t undef
def at_ (ops : Array Oper) (a : Act) (i : Nat) : Value := match dstOf ops i with | some d => tm a d | none => undef
structure Plan where
  Fr : World → World → Prop
  R : Nat → (Nat → Value) → Value → World → Prop
  fresh : Nat → Bool
structure Laws (p : Plan) : Prop where
  refl : ∀ w, p.Fr w w
  trans : ∀ {u v w}, p.Fr u v → p.Fr v w → p.Fr u w
  drew : ∀ w, p.Fr w w.drew
  size : ∀ {u v}, p.Fr u v → u.heap.size ≤ v.heap.size
  keep : ∀ {i x v V V'}, p.R i x v V → p.Fr V V' → p.R i x v V'
def mask (ops : Array Oper) (k : Nat) (x : Nat → Value) (j : Nat) : Value := if (pre ops k).contains j then x j else undef
def Good (P : Program) (ops : Array Oper) (m : Nat) (a0 : Act) (w0 : World) (p : Plan) (k : Nat) : Prop :=
  ∀ (a : Act) (V : World), (∀ t, still ops m t = true → tm a t = tm a0 t) → p.Fr w0 V → (∀ j ∈ pre ops k, p.R j (mask ops j (at_ ops a)) (at_ ops a j) V) →
    (Region.wanted (opA ops k) (yielded ops a.tmps) = true ∧ ∀ (K : Act → World → Prop) (Q : Exit → Act → World → Prop),
      (∀ v V', p.Fr V V' → p.R k (mask ops k (at_ ops a)) v V' → (p.fresh k = true → ∃ g, v = .pointer (some ⟨g, 0, none⟩) ∧ V.heap.size ≤ g ∧ g < V'.heap.size) → K (a.put (opA ops k).dst v) V') → (opA ops k).wp P a V K Q) ∨
    (Region.wanted (opA ops k) (yielded ops a.tmps) = false ∧ p.R k (mask ops k (at_ ops a)) undef V ∧ p.fresh k = false)
theorem onsOf_of {ops : Array Oper} {i : Nat} {o : Oper} (ho : ops[i]? = some o) {listed : Array Bool} (h : ∀ e ∈ o.after, Region.binds .any e = true → listed.getD e.on false = true) : ∀ j ∈ onsOf ops i, listed.getD j false = true := by
  intro j hj
  unfold onsOf at hj
  rw [ho] at hj
  simp only [List.mem_map, List.mem_filter] at hj
  obtain ⟨e, ⟨he, hb⟩, rfl⟩ := hj
  exact h e (by simpa using he) hb
theorem clo_listed {ops : Array Oper} {listed : Array Bool} (hd : ∀ i, listed.getD i false = true → ∀ j ∈ onsOf ops i, listed.getD j false = true) : ∀ (f : Nat) (l : List Nat), (∀ x ∈ l, listed.getD x false = true) → ∀ x ∈ clo ops f l, listed.getD x false = true
  | 0, l, h => h
  | f + 1, l, h => by
    unfold clo
    refine clo_listed hd f _ fun x hx => ?_
    rw [List.mem_eraseDups, List.mem_append, List.mem_flatMap] at hx
    rcases hx with hx | ⟨y, hy, hx⟩
    · exact h x hx
    · exact hd y (h y hy) x hx
theorem getD_tf {listed : Array Bool} {i : Nat} (h : i < listed.size) : listed.getD i true = listed.getD i false := by
  simp [Array.getD_eq_getD_getElem?, h]
theorem getD_lt {listed : Array Bool} {i : Nat} (h : listed.getD i false = true) : i < listed.size := by
  rcases Nat.lt_or_ge i listed.size with h' | h'
  · exact h'
  · simp [Array.getD_eq_getD_getElem?, Array.getElem?_eq_none h'] at h
theorem getD_lt' {listed : Array Bool} {i : Nat} (h : listed.getD i true = false) : i < listed.size := by
  rcases Nat.lt_or_ge i listed.size with h' | h'
  · exact h'
  · simp [Array.getD_eq_getD_getElem?, Array.getElem?_eq_none h'] at h
theorem getD_set_eq {listed : Array Bool} {i j : Nat} (hi : i < listed.size) : (listed.setIfInBounds i true).getD j true = if j = i then true else listed.getD j true := by
  split
  · rename_i h; subst h; simp [Array.getD_eq_getD_getElem?, hi]
  · rename_i h; exact getD_set_ne true (fun e => h e.symm)
theorem tget_set {A : Array Value} {d t : Nat} {v : Value} (h : d < A.size) : (A.setIfInBounds d v).getD t undef = if t = d then v else A.getD t undef := by
  split
  · rename_i h1; subst h1; simp [Array.getD_eq_getD_getElem?, h]
  · rename_i h1; simp [Array.getD_eq_getD_getElem?, Array.getElem?_setIfInBounds_ne (fun e => h1 e.symm)]
theorem put_tmps {a : Act} {o : Oper} {d : Tmp} (hd : o.dst = some d) (u : Value) : (a.put o.dst u).tmps = a.tmps.setIfInBounds d u := by rw [hd]; rfl
theorem put_defs {a : Act} (o : Oper) (u : Value) : (a.put o.dst u).defers = a.defers := by unfold Act.put; split <;> rfl
structure Chk (ops : Array Oper) (m size : Nat) : Prop where
  le : m ≤ ops.size
  op : ∀ i, i < m → ∃ o d, ops[i]? = some o ∧ o.dst = some d ∧ d < size
  small : ∀ i, i < m → ∀ j ∈ onsOf ops i, j < i
  ne : ∀ i j, i < m → j < m → i ≠ j → dstOf ops i ≠ dstOf ops j
theorem clo_spec {ops : Array Oper} {m : Nat} (h : cloB ops m = true) : ∀ j, m ≤ j → j < ops.size → ∀ i, i < m → i ∈ clo ops 12 (onsOf ops j) := by
  unfold cloB at h
  simp only [decide_eq_true_eq, List.all_eq_true, List.mem_range, Bool.or_eq_true] at h
  intro j hj hj2 i hi
  rcases h j hj2 with h4 | h4
  · exact absurd h4 (by omega)
  · have := h4 i hi
    simpa using this
theorem chk_spec {ops : Array Oper} {m size : Nat} (h : chk ops m size = true) : Chk ops m size := by
  unfold chk at h
  simp only [Bool.and_eq_true, decide_eq_true_eq, List.all_eq_true, List.mem_range, Bool.or_eq_true] at h
  obtain ⟨h1, h2⟩ := h
  refine ⟨h1, fun i hi => ?_, fun i hi j hj => (h2 i hi).1.2 j hj, fun i j hi hj hne e => ?_⟩
  · have h4 := (h2 i hi).1.1
    cases ho : ops[i]? with
    | none => rw [ho] at h4; simp at h4
    | some o =>
      rw [ho] at h4
      cases hd : o.dst with
      | none => simp [hd] at h4
      | some d =>
        simp only [hd, decide_eq_true_eq] at h4
        exact ⟨o, d, rfl, hd, h4⟩
  · have h4 := (h2 i hi).2 j hj
    rcases h4 with h4 | h4
    · simp at h4; exact hne h4.symm
    · rw [e] at h4; simp at h4
structure SInv (ops : Array Oper) (m : Nat) (a0 : Act) (w0 : World) (p : Plan) (listed : Array Bool) (a : Act) (w : World) : Prop where
  defers : a.defers = a0.defers
  size : a.tmps.size = a0.tmps.size
  lsize : listed.size = ops.size
  far : ∀ t, (∀ i, i < m → dstOf ops i = some t → listed.getD i true = false) → tm a t = tm a0 t
  rel : ∀ i, i < m → listed.getD i true = true → p.R i (mask ops i (at_ ops a)) (at_ ops a i) w
  new : ∀ i, i < m → listed.getD i true = true → p.fresh i = true → ∃ g, at_ ops a i = .pointer (some ⟨g, 0, none⟩) ∧ w0.heap.size ≤ g ∧ g < w.heap.size
  apart : ∀ i j, i < m → j < m → p.fresh i = true → p.fresh j = true → i ≠ j → listed.getD i true = true → listed.getD j true = true → at_ ops a i ≠ at_ ops a j
  frame : p.Fr w0 w
  late : ∀ i, m ≤ i → i < ops.size → listed.getD i true = false
  down : ∀ i, i < m → listed.getD i true = true → ∀ j ∈ onsOf ops i, listed.getD j false = true
theorem SInv.downAll {ops : Array Oper} {m : Nat} {a0 a : Act} {w0 w : World} {p : Plan} {listed : Array Bool} (h : SInv ops m a0 w0 p listed a w) : ∀ k, listed.getD k false = true → ∀ j ∈ onsOf ops k, listed.getD j false = true := fun k hk => by
  have hks := getD_lt hk
  by_cases hkm : k < m
  · exact h.down k hkm (by rw [getD_tf hks]; exact hk)
  · have := h.late k (by omega) (by rw [← h.lsize]; exact hks)
    rw [getD_tf hks, hk] at this; cases this
theorem SInv.pre {ops : Array Oper} {m : Nat} {a0 a : Act} {w0 w : World} {p : Plan} {listed : Array Bool} (h : SInv ops m a0 w0 p listed a w) {i : Nat} (hdeps : ∀ j ∈ onsOf ops i, listed.getD j false = true) : ∀ j ∈ pre ops i, j < m ∧ listed.getD j true = true := fun j hj => by
  have hl := clo_listed h.downAll 8 _ hdeps j hj
  have hs := getD_lt hl
  refine ⟨?_, by rw [getD_tf hs]; exact hl⟩
  rcases Nat.lt_or_ge j m with h1 | h1
  · exact h1
  · have := h.late j h1 (by rw [← h.lsize]; exact hs)
    rw [getD_tf hs, hl] at this; cases this
theorem SInv.next {ops : Array Oper} {m : Nat} {a0 a : Act} {w0 w V : World} {p : Plan} {listed : Array Bool} (L : Laws p) (h : SInv ops m a0 w0 p listed a w) (hc : Chk ops m a0.tmps.size) {i : Nat} (him : i < m) (hun : listed.getD i true = false) {o : Oper} (ho : ops[i]? = some o)
    (hdeps : ∀ j ∈ onsOf ops i, listed.getD j false = true) {d : Tmp} (hd : o.dst = some d) (hds : d < a0.tmps.size) (hb : p.Fr w V) (u : Value)
    (hu : p.R i (mask ops i (at_ ops a)) u V) (hf : p.fresh i = true → ∃ g, u = .pointer (some ⟨g, 0, none⟩) ∧ w.heap.size ≤ g ∧ g < V.heap.size) : SInv ops m a0 w0 p (listed.setIfInBounds i true) (a.put o.dst u) V := by
  have hil := getD_lt' hun
  have hdi : dstOf ops i = some d := by unfold dstOf; rw [ho]; exact hd
  have hget : ∀ t, tm (a.put o.dst u) t = if t = d then u else tm a t := fun t => by unfold tm; rw [put_tmps hd]; exact tget_set (by rw [h.size]; exact hds)
  have hati : at_ ops (a.put o.dst u) i = u := by unfold at_; rw [hdi]; simp only [hget, if_true]
  have hato : ∀ j, j < m → j ≠ i → at_ ops (a.put o.dst u) j = at_ ops a j := fun j hj hne => by
    unfold at_
    cases hdj : dstOf ops j with
    | none => rfl
    | some e =>
      have : e ≠ d := fun e2 => hc.ne j i hj him hne (by rw [hdj, hdi, e2])
      simp only [hget, if_neg this]
  have hold : ∀ j, (listed.setIfInBounds i true).getD j true = true → j ≠ i → listed.getD j true = true := fun j hj hne => by rw [getD_set_eq hil, if_neg hne] at hj; exact hj
  -- what an operation saw that came up already, or that comes up now, is as it was
  have hmask : ∀ j, (∀ k ∈ onsOf ops j, listed.getD k false = true) → mask ops j (at_ ops (a.put o.dst u)) = mask ops j (at_ ops a) := fun j hj => by
    funext k
    unfold mask
    split
    · rename_i hk
      have hk2 := h.pre hj k (by simpa using hk)
      exact hato k hk2.1 (fun e => by subst e; rw [hun] at hk2; exact absurd hk2.2 (by decide))
    · rfl
  refine ⟨?_, ?_, ?_, ?_, ?_, ?_, ?_, ?_, ?_, ?_⟩
  · rw [put_defs]; exact h.defers
  · rw [put_tmps hd]; simp [h.size]
  · simp [h.lsize]
  · intro t ht
    have htd : t ≠ d := fun e => by
      have := ht i him (by rw [hdi, e])
      rw [getD_set_eq hil, if_pos rfl] at this; cases this
    rw [hget, if_neg htd]
    refine h.far t fun j hj hjt => ?_
    have := ht j hj hjt
    rw [getD_set_eq hil] at this
    split at this
    · cases this
    · exact this
  · intro j hj hl
    by_cases e : j = i
    · subst e; rw [hati, hmask _ hdeps]; exact hu
    · have hl2 := hold j hl e
      rw [hato j hj e, hmask j (h.down j hj hl2)]
      exact L.keep (h.rel j hj hl2) hb
  · intro j hj hl hfj
    by_cases e : j = i
    · subst e
      obtain ⟨g, h1, h2, h3⟩ := hf hfj
      exact ⟨g, by rw [hati, h1], Nat.le_trans (L.size h.frame) h2, h3⟩
    · obtain ⟨g, h1, h2, h3⟩ := h.new j hj (hold j hl e) hfj
      exact ⟨g, by rw [hato j hj e, h1], h2, Nat.lt_of_lt_of_le h3 (L.size hb)⟩
  · intro j k hj hk fj fk hne hlj hlk
    by_cases ej : j = i
    · subst ej
      obtain ⟨g, h1, h2, h3⟩ := hf fj
      obtain ⟨g', e1, e2, e3⟩ := h.new k hk (hold k hlk (fun e => hne e.symm)) fk
      rw [hati, hato k hk (fun e => hne e.symm), e1, h1]
      intro e
      injection e with e; injection e with e; injection e with e
      omega
    · by_cases ek : k = i
      · subst ek
        obtain ⟨g, h1, h2, h3⟩ := hf fk
        obtain ⟨g', e1, e2, e3⟩ := h.new j hj (hold j hlj ej) fj
        rw [hato j hj ej, e1, hati, h1]
        intro e
        injection e with e; injection e with e; injection e with e
        omega
      · rw [hato j hj ej, hato k hk ek]
        exact h.apart j k hj hk fj fk hne (hold j hlj ej) (hold k hlk ek)
  · exact L.trans h.frame hb
  · intro j hj hj2
    rw [getD_set_eq hil, if_neg (by omega)]
    exact h.late j hj hj2
  · intro j hj hl k hk
    by_cases e : j = i
    · subst e; exact getD_set_true (hdeps k hk)
    · exact getD_set_true (h.down j hj (hold j hl e) k hk)
def listedM (ops : Array Oper) (m : Nat) : Array Bool := (List.replicate m true ++ List.replicate (ops.size - m) false).toArray
def listedK (n k : Nat) : Array Bool := (List.replicate k true ++ List.replicate (n - k) false).toArray
theorem listedM_K (ops : Array Oper) (m : Nat) : listedM ops m = listedK ops.size m := rfl
theorem listedM_size {ops : Array Oper} {m : Nat} (h : m ≤ ops.size) : (listedM ops m).size = ops.size := by simp [listedM]; omega
theorem listedM_at {ops : Array Oper} {m : Nat} (i : Nat) (h : i < m) : (listedM ops m).getD i true = true := by
  simp [listedM, Array.getD_eq_getD_getElem?, List.getElem?_append_left, h]
theorem listed_eq {ops : Array Oper} {m : Nat} {a0 a : Act} {w0 w : World} {p : Plan} {listed : Array Bool} (h : SInv ops m a0 w0 p listed a w) (hle : m ≤ ops.size) (hall : ∀ i, i < m → listed.getD i true = true) : listed = listedM ops m := by
  refine Array.ext (by rw [h.lsize, listedM_size hle]) fun i h1 h2 => ?_
  by_cases hi : i < m
  · have e1 := hall i hi
    have e2 := listedM_at (ops := ops) i hi
    simp only [Array.getD_eq_getD_getElem?, Array.getElem?_eq_getElem h1, Option.getD_some] at e1
    simp only [Array.getD_eq_getD_getElem?, Array.getElem?_eq_getElem h2, Option.getD_some] at e2
    rw [e1, e2]
  · have e1 := h.late i (by omega) (by rw [← h.lsize]; exact h1)
    simp only [Array.getD_eq_getD_getElem?, Array.getElem?_eq_getElem h1, Option.getD_some] at e1
    rw [e1]
    simp [listedM, List.getElem_append_right, Nat.not_lt.1 hi]
theorem count_set {listed : Array Bool} {i : Nat} (h : listed.getD i true = false) : (listed.setIfInBounds i true).toList.count true = listed.toList.count true + 1 := by
  have hl := getD_lt' h
  have hv : listed.toList[i]'(by simpa using hl) = false := by
    simp only [Array.getD_eq_getD_getElem?, Array.getElem?_eq_getElem hl, Option.getD_some] at h
    simpa using h
  rw [Array.toList_setIfInBounds, List.count_set (by simpa using hl), hv]
  simp
theorem count_all {l : List Bool} (h : l.count true = l.length) (i : Nat) (hi : i < l.length) : l[i] = true := by
  have := List.count_eq_length.1 h
  exact (this _ (List.getElem_mem hi)).symm
structure Mode2 (P : Program) where
  fits : Array Oper → Prop
  op : Array Oper → (Exit → Act → World → Prop) → Nat → (Act → World → Prop) → Act → World → Prop
  step : ∀ {ops : Array Oper} {Q : Exit → Act → World → Prop} {i : Nat} {K : Act → World → Prop} {a : Act} {w : World} {o : Oper}, fits ops → ops[i]? = some o → Region.wanted o (yielded ops a.tmps) = true → o.wp P a w K Q → op ops Q i K a w
  skip : ∀ {ops : Array Oper} {Q : Exit → Act → World → Prop} {i : Nat} {K : Act → World → Prop} {a : Act} {w : World} {o : Oper}, fits ops → ops[i]? = some o → Region.wanted o (yielded ops a.tmps) = false → K (a.put o.dst undef) w → op ops Q i K a w
def plainMode (P : Program) : Mode2 P where
  fits _ := True
  op ops Q i K a w := wpOp P ops Q i K a w
  step := fun _ ho hw h => by
    unfold wpOp
    simp only [ho]
    rw [if_pos hw]
    exact .inl h
  skip := fun _ ho hw h => by
    unfold wpOp
    simp only [ho]
    rw [if_neg (by rw [hw]; decide)]
    exact h
theorem sched_op {P : Program} {ops : Array Oper} {m : Nat} {a0 : Act} {w0 : World} {p : Plan} {Q : Exit → Act → World → Prop} (M : Mode2 P) (hM : M.fits ops) (L : Laws p) (hc : Chk ops m a0.tmps.size) (hg : ∀ k, k < m → Good P ops m a0 w0 p k)
    {listed : Array Bool} {a : Act} {w : World} (h : SInv ops m a0 w0 p listed a w) {i : Nat} (him : i < m) (hun : listed.getD i true = false) (hdeps : ∀ j ∈ onsOf ops i, listed.getD j false = true) {K : Act → World → Prop}
    (hK : ∀ a' V, SInv ops m a0 w0 p (listed.setIfInBounds i true) a' V → K a' V) : M.op ops Q i K a w := by
  obtain ⟨o, d, ho, hd, hds⟩ := hc.op i him
  have good := hg i him a w (fun t ht => h.far t fun j hj hjt => by
    unfold still at ht
    have := List.all_eq_true.1 ht j (List.mem_range.2 hj)
    rw [hjt] at this
    simp at this) h.frame (fun j hj => h.rel j (h.pre hdeps j hj).1 (h.pre hdeps j hj).2)
  rw [opA_of ho] at good
  rcases good with ⟨hw, good⟩ | ⟨hw, h1, h2⟩
  · exact M.step hM ho hw (good _ _ fun v V' hb hr hf => hK _ _ (h.next L hc him hun ho hdeps hd hds hb v hr hf))
  · exact M.skip hM ho hw (hK _ _ (h.next L hc him hun ho hdeps hd hds (L.refl _) undef h1 (fun hf => by rw [h2] at hf; cases hf)))
def seqd (ops : Array Oper) (m : Nat) : Bool := (List.range (ops.size - m)).all (fun k => Region.ready .any ops (listedK ops.size (m + k)) == [m + k]) && Region.ready .any ops (listedK ops.size ops.size) == []
theorem listedK_set {n k : Nat} (h : k < n) : (listedK n k).setIfInBounds k true = listedK n (k + 1) := by
  unfold listedK
  simp only [List.setIfInBounds_toArray, Array.mk.injEq]
  rw [List.set_append_right _ _ (by simp), List.length_replicate, Nat.sub_self, show n - k = (n - (k + 1)) + 1 by omega, List.replicate_succ, List.set_cons_zero, List.replicate_succ', List.append_assoc]
  rfl
theorem wpAny_tail {P : Program} {ops : Array Oper} {Q : Exit → Act → World → Prop} {m : Nat} (hs : seqd ops m = true) : ∀ (f k : Nat) (a : Act) (w : World), k + f = ops.size - m → m ≤ ops.size → wpList P ops Q (ops.toList.drop (m + k)) a w → wpAny P .any ops Q f (listedK ops.size (m + k)) a w
  | 0, k, a, w, hk, hm, h => by
    unfold seqd at hs
    rw [Bool.and_eq_true] at hs
    have e : m + k = ops.size := by omega
    rw [e] at h ⊢
    rw [List.drop_of_length_le (by simp)] at h
    exact ⟨by simpa using hs.2, h⟩
  | f + 1, k, a, w, hk, hm, h => by
    have hs' := hs
    unfold seqd at hs
    rw [Bool.and_eq_true, List.all_eq_true] at hs
    have hr : Region.ready .any ops (listedK ops.size (m + k)) = [m + k] := by have := hs.1 k (List.mem_range.2 (by omega)); simpa using this
    have hlt : m + k < ops.size := by omega
    refine ⟨fun h0 => (by rw [hr] at h0; cases h0), fun i hi => ?_⟩
    rw [hr] at hi
    obtain rfl : i = m + k := by simpa using hi
    have ho : ops[m + k]? = some ops[m + k] := Array.getElem?_eq_getElem hlt
    have hl : ops.toList.drop (m + k) = ops[m + k] :: ops.toList.drop (m + (k + 1)) := by
      rw [List.drop_eq_getElem_cons (by simpa using hlt)]; rfl
    rw [hl] at h
    unfold wpList at h
    unfold wpOp
    simp only [ho]
    rw [listedK_set hlt]
    have ih := fun a w => wpAny_tail (P := P) (Q := Q) hs' f (k + 1) a w (by omega) hm
    split
    · rename_i hw
      rw [if_pos hw] at h
      exact h.imp (Oper.wp_mono fun a w hh => ih a w hh) id
    · rename_i hw
      rw [if_neg hw] at h
      exact ih _ _ h
theorem ready_in {ops : Array Oper} {m : Nat} {a0 a : Act} {w0 w : World} {p : Plan} {listed : Array Bool} (h : SInv ops m a0 w0 p listed a w) (hc : Chk ops m a0.tmps.size) (hcl : cloB ops m = true) (hall : ¬ ∀ i, i < m → listed.getD i true = true) :
    Region.ready .any ops listed ≠ [] ∧ ∀ i ∈ Region.ready .any ops listed, i < m ∧ listed.getD i true = false ∧ ∀ j ∈ onsOf ops i, listed.getD j false = true := by
  constructor
  · intro hr
    apply hall
    intro i
    induction i using Nat.strongRecOn with
    | ind i ihi =>
      intro him
      cases hl : listed.getD i true with
      | true => rfl
      | false =>
        obtain ⟨o, d, ho, _, _⟩ := hc.op i him
        have : i ∈ Region.ready .any ops listed := mem_ready.2 ⟨hl, o, ho, fun e he hb => by
          have hj : e.on ∈ onsOf ops i := by
            unfold onsOf; rw [ho]
            simp only [List.mem_map, List.mem_filter]
            exact ⟨e, ⟨by simpa using he, hb⟩, rfl⟩
          have hlt := hc.small i him _ hj
          have := ihi _ hlt (by omega)
          rwa [getD_tf (by rw [h.lsize]; have := hc.le; omega)] at this⟩
        rw [hr] at this; cases this
  · intro i hi
    obtain ⟨hun, o, ho, hdep⟩ := mem_ready.1 hi
    have hdeps := onsOf_of ho hdep
    have hos : i < ops.size := by rw [← h.lsize]; exact getD_lt' hun
    by_cases him : i < m
    · exact ⟨him, hun, hdeps⟩
    · exfalso
      apply hall
      intro j hj
      have := clo_listed h.downAll 12 _ hdeps j (clo_spec hcl i (by omega) hos j hj)
      rw [getD_tf (getD_lt this)]; exact this
theorem zero_all {ops : Array Oper} {m : Nat} {a0 a : Act} {w0 w : World} {p : Plan} {listed : Array Bool} (h : SInv ops m a0 w0 p listed a w) (hle : m ≤ ops.size) (hn : listed.toList.count true = ops.size) : ∀ i, i < m → listed.getD i true = true := fun i hi => by
  have hl : i < listed.size := by rw [h.lsize]; omega
  have := count_all (l := listed.toList) (by rw [Array.length_toList, h.lsize]; omega) i (by simpa using hl)
  simp only [Array.getD_eq_getD_getElem?, Array.getElem?_eq_getElem hl, Option.getD_some]
  simpa using this
theorem countM {ops : Array Oper} {m : Nat} : (listedM ops m).toList.count true = m := by simp [listedM, List.count_replicate]
theorem wpAny_sched {P : Program} {ops : Array Oper} {m : Nat} {a0 : Act} {w0 : World} {p : Plan} {Q : Exit → Act → World → Prop} (L : Laws p) (hc : Chk ops m a0.tmps.size) (hcl : cloB ops m = true) (hg : ∀ k, k < m → Good P ops m a0 w0 p k)
    (hfin : ∀ a V, SInv ops m a0 w0 p (listedM ops m) a V → wpAny P .any ops Q (ops.size - m) (listedM ops m) a V) :
    ∀ (fuel : Nat) (listed : Array Bool) (a : Act) (w : World), SInv ops m a0 w0 p listed a w → listed.toList.count true + fuel = ops.size → wpAny P .any ops Q fuel listed a w := by
  intro fuel
  induction fuel with
  | zero =>
    intro listed a w h hn
    have e := listed_eq h hc.le (zero_all h hc.le (by omega))
    subst e
    have := hfin a w h
    rw [countM] at hn
    rw [show ops.size - m = 0 by omega] at this
    exact this
  | succ fuel ih =>
    intro listed a w h hn
    by_cases hall : ∀ i, i < m → listed.getD i true = true
    · have e := listed_eq h hc.le hall
      subst e
      have := hfin a w h
      rw [countM] at hn
      rw [show ops.size - m = fuel + 1 by omega] at this
      exact this
    · obtain ⟨h1, h2⟩ := ready_in h hc hcl hall
      refine ⟨fun hr => absurd hr h1, fun i hi => ?_⟩
      obtain ⟨him, hun, hdeps⟩ := h2 i hi
      exact sched_op (plainMode P) trivial L hc hg h him hun hdeps fun a' V h' => ih _ _ _ h' (by rw [count_set hun]; omega)
theorem sinv_start {ops : Array Oper} {m : Nat} {a0 : Act} {w0 w1 : World} {p : Plan} (HC : Chk ops m a0.tmps.size) (hb : p.Fr w0 w1) : SInv ops m a0 w0 p (Array.replicate ops.size false) a0 w1 := by
  have hf : ∀ i, i < ops.size → (Array.replicate ops.size false).getD i true = false := fun i hi => by simp [Array.getD_eq_getD_getElem?, Array.getElem?_replicate, hi]
  have hno : ∀ i, i < m → (Array.replicate ops.size false).getD i true = true → False := fun i hi hl => by
    rw [hf i (Nat.lt_of_lt_of_le hi HC.le)] at hl; cases hl
  exact ⟨rfl, rfl, by simp, fun t _ => rfl, fun i hi hl => (hno i hi hl).elim, fun i hi hl => (hno i hi hl).elim, fun i j hi hj _ _ _ hl => (hno i hi hl).elim, hb, fun i _ hi => hf i hi, fun i hi hl => (hno i hi hl).elim⟩
def finL (x : Nat → Value) : Nat → List Tmp → Array Value → Array Value
  | _, [], A => A
  | k, d :: r, A => finL x (k + 1) r (A.setIfInBounds d (x k))
def chkD (ops : Array Oper) : Nat → List Tmp → Bool
  | _, [] => true
  | k, d :: r => dstOf ops k == some d && chkD ops (k + 1) r
theorem finL_eq {ops : Array Oper} {B : Array Value} {x : Nat → Value} : ∀ (D : List Tmp) (k : Nat) (A : Array Value), chkD ops k D = true → B.size = A.size →
    (∀ i d, D[i]? = some d → d < A.size → B.getD d undef = x (k + i)) → (∀ t, (∀ i, i < D.length → dstOf ops (k + i) ≠ some t) → B.getD t undef = A.getD t undef) → finL x k D A = B
  | [], k, A, _, hs, _, hf => by
    unfold finL
    refine (Array.ext hs fun i h1 h2 => ?_).symm
    have := hf i (fun _ h => absurd h (Nat.not_lt_zero _))
    simpa [Array.getD_eq_getD_getElem?, h1, h2] using this
  | d :: r, k, A, hd, hs, hv, hf => by
    unfold chkD at hd
    rw [Bool.and_eq_true] at hd
    have hdk : dstOf ops k = some d := by simpa using hd.1
    unfold finL
    refine finL_eq r (k + 1) _ hd.2 (by simp [hs]) (fun i e hi hlt => ?_) (fun t ht => ?_)
    · have := hv (i + 1) e (by simpa using hi) (by simpa using hlt)
      rw [this]; congr 1; omega
    · by_cases hlt : d < A.size
      · rw [tget_set hlt]
        split
        · rename_i e; subst e
          exact hv 0 t rfl hlt
        · rename_i e
          refine hf t fun i hi hit => ?_
          cases i with
          | zero => rw [Nat.add_zero, hdk] at hit; injection hit with hit; exact e hit.symm
          | succ i => exact ht i (by simpa using hi) (by rw [← hit]; congr 1; omega)
      · have hle : A.size ≤ d := Nat.le_of_not_lt hlt
        rw [Array.setIfInBounds_eq_of_size_le hle]
        by_cases e : t = d
        · subst e
          simp [Array.getD_eq_getD_getElem?, Array.getElem?_eq_none (show B.size ≤ t from hs ▸ hle), Array.getElem?_eq_none hle]
        · refine hf t fun i hi hit => ?_
          cases i with
          | zero => rw [Nat.add_zero, hdk] at hit; injection hit with hit; exact e hit.symm
          | succ i => exact ht i (by simpa using hi) (by rw [← hit]; congr 1; omega)
structure SFin (ops : Array Oper) (m : Nat) (p : Plan) (x : Nat → Value) (w0 V : World) : Prop where
  rel : ∀ i, i < m → p.R i (mask ops i x) (x i) V
  new : ∀ i, i < m → p.fresh i = true → ∃ g, x i = .pointer (some ⟨g, 0, none⟩) ∧ w0.heap.size ≤ g ∧ g < V.heap.size
  apart : ∀ i j, i < m → j < m → p.fresh i = true → p.fresh j = true → i ≠ j → x i ≠ x j
  frame : p.Fr w0 V
theorem sinv_end {ops : Array Oper} {D : List Tmp} {a0 a : Act} {w0 V : World} {p : Plan} (hd : chkD ops 0 D = true) (HC : Chk ops D.length a0.tmps.size) (h : SInv ops D.length a0 w0 p (listedM ops D.length) a V) : SFin ops D.length p (at_ ops a) w0 V ∧ finL (at_ ops a) 0 D a0.tmps = a.tmps := by
  refine ⟨⟨fun i hi => h.rel i hi (listedM_at i hi), fun i hi hf => h.new i hi (listedM_at i hi) hf, fun i j hi hj fi fj hne => h.apart i j hi hj fi fj hne (listedM_at i hi) (listedM_at j hj), h.frame⟩, ?_⟩
  have hD : ∀ (D : List Tmp) (k i : Nat) (d : Tmp), chkD ops k D = true → D[i]? = some d → dstOf ops (k + i) = some d := by
    intro D
    induction D with
    | nil => intro k i d _ h; simp at h
    | cons e r ih =>
      intro k i d hk hi
      unfold chkD at hk
      rw [Bool.and_eq_true] at hk
      cases i with
      | zero => simp at hi; subst hi; simpa using hk.1
      | succ i => have := ih (k + 1) i d hk.2 (by simpa using hi); rwa [show k + 1 + i = k + (i + 1) by omega] at this
  refine finL_eq D 0 _ hd h.size (fun i d hi hlt => ?_) (fun t ht => ?_)
  · have := hD D 0 i d hd hi
    unfold at_ tm
    rw [this]
  · refine h.far t fun i hi hit => ?_
    have := ht i hi
    rw [Nat.zero_add] at this
    exact absurd hit this
theorem wp_sch {P : Program} {ops : Array Oper} {a0 : Act} {w0 : World} {Q : Exit → Act → World → Prop} {id : Nat} {draw : Bool} (p : Plan) (D : List Tmp) (L : Laws p) (hm : P.follows .mixedOrders = true) (hc : chk ops D.length a0.tmps.size = true) (hd : chkD ops 0 D = true) (hq : (!draw || (cloB ops D.length && seqd ops D.length)) = true)
    (hg : ∀ k, k < D.length → Good P ops D.length a0 w0 p k) (tl : List Oper) (ht : ops.toList.drop D.length = tl)
    (hfin : ∀ (x : Nat → Value) (V : World), SFin ops D.length p x w0 V → wpList P ops Q tl ⟨finL x 0 D a0.tmps, a0.defers⟩ V) :
    (Code.region id ops draw).wp P Q a0 w0 := by
  have HC := chk_spec hc
  have fin : ∀ a V, SInv ops D.length a0 w0 p (listedM ops D.length) a V → wpList P ops Q (ops.toList.drop D.length) a V := fun a V h => by
    obtain ⟨h1, h2⟩ := sinv_end hd HC h
    have := hfin _ V h1
    rw [h2, ← h.defers] at this
    rw [ht]; exact this
  cases draw with
  | true =>
    have hq2 : cloB ops D.length = true ∧ seqd ops D.length = true := by simpa using hq
    refine wp_region_any hm (wpAny_sched L HC hq2.1 hg (fun a V h => ?_) ops.size _ a0 w0.drew (sinv_start HC (L.drew _)) (by simp [List.count_replicate]))
    have := wpAny_tail (P := P) (Q := Q) hq2.2 (ops.size - D.length) 0 a V (by omega) HC.le (fin a V h)
    rw [Nat.add_zero, ← listedM_K] at this
    exact this
  | false =>
    refine wp_region ?_
    have key : ∀ (f k : Nat) (a : Act) (w : World), k + f = D.length → SInv ops D.length a0 w0 p (listedK ops.size k) a w → wpOps P ops Q (List.range' k (ops.size - k)) a w := by
      intro f
      induction f with
      | zero =>
        intro k a w hk h
        rw [Nat.add_zero] at hk
        subst hk
        have := fin a w h
        have e : wpOps P ops Q (List.range' D.length (ops.size - D.length)) = wpList P ops Q (ops.toList.drop D.length) := by
          have e1 := wpOps_eq_wpList (P := P) (Q := Q) (ops := ops) (ops.toList.drop D.length) D.length (fun j => by simp)
          have e2 : (ops.toList.drop D.length).length = ops.size - D.length := by simp
          rw [e2] at e1; exact e1
        rw [e]; exact this
      | succ f ih =>
        intro k a w hk h
        have hkm : k < D.length := by omega
        have hks : k < ops.size := Nat.lt_of_lt_of_le hkm HC.le
        rw [show ops.size - k = (ops.size - (k + 1)) + 1 by omega, List.range'_succ, wpOps_cons]
        refine sched_op (plainMode P) trivial L HC hg h hkm ?_ (fun j hj => ?_) (fun a' V h' => ?_)
        · simp [listedK, Array.getD_eq_getD_getElem?, List.getElem?_append_right, List.getElem?_replicate, show 0 < ops.size - k by omega]
        · have := HC.small k hkm j hj
          simp [listedK, Array.getD_eq_getD_getElem?, List.getElem?_append_left, this]
        · rw [listedK_set hks] at h'
          exact ih (k + 1) a' V (by omega) h'
    rw [List.range_eq_range']
    have h0 : listedK ops.size 0 = Array.replicate ops.size false := by simp [listedK]
    exact key D.length 0 a0 w0 (by omega) (by rw [h0]; exact sinv_start HC (L.refl _))
/-! ## The same within a round of a range over a function. -/
end Go.Proofs.YtinlonpcakkfhaaGreatDoor.Sch
end
section
namespace Go.Proofs.YtinlonpcakkfhaaGreatDoor
open Go Go.Proofs Go.RowKit
def Blk (w : World) (g : Nat) (t : TypeId) (cs : Array Value) : Prop := w.heap[g]? = some (.cells cs t (0, 0))
section
variable {w w' : World} {g : Nat} {t : TypeId} {cs : Array Value}
theorem Blk.lt (h : Blk w g t cs) : g < w.heap.size := by
  rcases Nat.lt_or_ge g w.heap.size with hlt | hge
  · exact hlt
  · unfold Blk at h; rw [Array.getElem?_eq_none hge] at h; cases h
theorem Blk.cell (h : Blk w g t cs) (i : Nat) : w.cell? ⟨g, i, none⟩ = cs[i]? := cell_of_row w g i cs t (0, 0) h
theorem Blk.frozen (h : Blk w g t cs) (i : Nat) : w.frozen? ⟨g, i, none⟩ = false := by
  unfold Blk at h
  simp [World.frozen?, h]
theorem Blk.new (w : World) (t : TypeId) (cs : Array Value) : Blk (w.alloc (.cells cs t)) w.heap.size t cs := heap_alloc_new w _
theorem Blk.drew (h : Blk w g t cs) : Blk w.drew g t cs := h
theorem Blk.drewN (h : Blk w g t cs) (n : Nat) : Blk (w.drewN n) g t cs := h
theorem Blk.alloc (h : Blk w g t cs) (o : Obj) : Blk (w.alloc o) g t cs := (Below.heap_alloc w o g h.lt).trans h
theorem Blk.set_ (h : Blk w g t cs) (i : Nat) (u : Value) : Blk (w.setCell ⟨g, i, none⟩ u) g t (cs.setIfInBounds i u) := by
  unfold Blk at h ⊢
  simp [World.setCell, Array.getElem?_modify, h]
theorem Blk.far (h : Blk w g t cs) {p : Addr} (hp : g ≠ p.block) (u : Value) : Blk (w.setCell p u) g t cs := (Below.heap_setCell w p u g hp).trans h
theorem Blk.below {B : Nat} (h : Blk w g t cs) (hb : Below B w w') (hg : g < B) : Blk w' g t cs := (hb.block g hg).trans h
theorem Blk.grown {row : Option Nat} (h : Blk w g t cs) (hb : w.grownBy w' row) (hg : some g ≠ row) : Blk w' g t cs := (hb.block g h.lt hg).trans h
end
theorem Blk.old {w w' : World} {g t : Nat} {cs : Array Value} (h : Blk w g t cs) (hb : Below w.heap.size w w') : Blk w' g t cs := h.below hb h.lt
theorem Blk.row {w : World} {g t : Nat} {c : Array Value} (h : Blk w g t c) (c' : Array Value) : Blk (w.setRow g c') g t c' := setRow_heap w g c c' t (0, 0) h
theorem Blk.rowFar {w : World} {g g' t : Nat} {c : Array Value} (h : Blk w g t c) (hne : g ≠ g') (c' : Array Value) : Blk (w.setRow g' c') g t c := (setRow_other w g' g c' hne).trans h
theorem below_row {B : Nat} {w w' : World} (h : Below B w w') {g : Nat} (hg : B ≤ g) (c : Array Value) : Below B w (w'.setRow g c) :=
  ⟨h.os, h.tape, h.output, by simp; exact h.size, fun k hk => (setRow_other w' g k c (by omega)).trans (h.block k hk)⟩
theorem quiet_load_row {P : Program} {o : Oper} {ev : Operand → Value} {w : World} (ty : TypeId) (x : Operand)
    (g : Nat) (hx : ev x = .pointer (some ⟨g, 0, none⟩)) (t : TypeId) (cs : Array Value) (d : TypeDesc) (hg : Blk w g t cs)
    (hu : P.underlying ty = some d) (hd : (match d with | .struct _ | .array _ _ => true | _ => false) = true) (hi : (P.info? ty).map (·.size) = some cs.size) (ho : o.op = .load ty x) :
    (execOp ev o).run P w = .ok (.value (.agg cs)) w := by
  unfold execOp
  simp only [ho, hx, Instr.loadAt, Instr.sureAddr, Sem.run_bind, Sem.run_pure, Result.andThen_ok, run_loadVar_row w g t ty cs (0, 0) d hg hu hd hi]
section
variable {P : Program} {ops : Array Oper}
def passes (want : Bool) : Value → Bool
  | .bool b => b == want
  | _ => false
theorem wanted_of {a : Act} {o : Oper} {j d : Nat} {want : Bool} {u : Value} (hg : o.guard = some (j, want)) (hd : Sch.dstOf ops j = some d) (h : a.tmps.getD d undef = u) : Region.wanted o (yielded ops a.tmps) = passes want u := by
  unfold Region.wanted
  rw [hg]
  have e : yielded ops a.tmps j = match (some d).bind (a.tmps[·]?) with | some (.bool b) => some b | _ => none := by
    unfold yielded
    unfold Sch.dstOf at hd
    rw [hd]
    rfl
  simp only [e, Option.bind_some]
  rw [Array.getD_eq_getD_getElem?] at h
  cases hx : a.tmps[d]? with
  | none => rw [hx] at h; subst h; simp [passes, undef]
  | some x =>
    rw [hx] at h; simp only [Option.getD_some] at h; subst h
    cases x <;> simp [passes]
end
/-! The contracts of single operations. -/
section
variable {P : Program} {o : Oper} {a : Act} {V : World} {K : Act → World → Prop} {Q : Exit → Act → World → Prop}
theorem op_quiet {v : Value} (h : (execOp a.eval o).run P V = .ok (.value v) V) (hK : ∀ V', Below V.heap.size V V' → K (a.put o.dst v) V') : o.wp P a V K Q := by
  unfold Oper.wp
  rw [h, Oper.upon_value]
  exact hK V (Below.refl _ _)
theorem op_call {v : Value} {f : FuncId} {c : Call} (args : Array Value) (ho : o.op = .call c) (hc : c.callee = .value (.func f)) (ha : c.args.map a.eval = args)
    (hk : Calls P f args V fun e w' => e = .returned v ∧ Below V.heap.size V w') (hrun : (callFunc f args).run P V = .ok (.enter f args) V) (hK : ∀ V', Below V.heap.size V V' → K (a.put o.dst v) V') : o.wp P a V K Q := by
  have h : (execOp a.eval o).run P V = .ok (.enter f args) V := by
    unfold execOp
    simp only [ho, resolve, hc, Act.eval, Deferred.ofValue, ha, Sem.run_bind, Sem.run_pure, Result.andThen_ok, invoke]
    simp [go_sem, hrun]
  unfold Oper.wp
  rw [h, Oper.upon_enter]
  refine hk.mono ?_
  rintro e w' ⟨rfl, hb⟩
  exact hK w' hb
end
def callOf (o : Oper) : Call := match o.op with | .call c => c | _ => { callee := .builtin .len, args := #[], argTypes := #[] }
section
variable {P : Program} {o : Oper} {a : Act} {V : World} {K : Act → World → Prop} {Q : Exit → Act → World → Prop} {ev : Operand → Value}
theorem map0 : (#[] : Array Operand).map ev = #[] := by simp
theorem map1 {x : Operand} {v : Value} (h : ev x = v) : (#[x] : Array Operand).map ev = #[v] := by simp [h]
theorem map2 {x y : Operand} {v u : Value} (h : ev x = v) (h2 : ev y = u) : (#[x, y] : Array Operand).map ev = #[v, u] := by simp [h, h2]
theorem op_callK {v : Value} {f : FuncId} (xs : Array Operand) (args : Array Value) (ho : o.op = .call (callOf o)) (hc : (callOf o).callee = .value (.func f)) (hx : (callOf o).args = xs) (ha : xs.map a.eval = args)
    (hk : Calls P f args V fun e w' => e = .returned v ∧ Below V.heap.size V w') (hrun : (callFunc f args).run P V = .ok (.enter f args) V) (hK : ∀ V', Below V.heap.size V V' → K (a.put o.dst v) V') : o.wp P a V K Q :=
  op_call args ho hc (by rw [hx]; exact ha) hk hrun hK
theorem bld0 : ((#[] : Array (Nat × Operand)).map fun (i, x) => (i, ev x)).toList = [] := by simp
theorem bld1 {a : Nat} {x : Operand} {v : Value} (h : ev x = v) : ((#[(a, x)] : Array (Nat × Operand)).map fun (i, x) => (i, ev x)).toList = [(a, v)] := by simp [h]
theorem bld2 {a b : Nat} {x y : Operand} {v u : Value} (h : ev x = v) (h2 : ev y = u) : ((#[(a, x), (b, y)] : Array (Nat × Operand)).map fun (i, x) => (i, ev x)).toList = [(a, v), (b, u)] := by simp [h, h2]
theorem bld3 {a b c : Nat} {x y z : Operand} {v u t : Value} (h : ev x = v) (h2 : ev y = u) (h3 : ev z = t) : ((#[(a, x), (b, y), (c, z)] : Array (Nat × Operand)).map fun (i, x) => (i, ev x)).toList = [(a, v), (b, u), (c, t)] := by simp [h, h2, h3]
theorem quiet_move {v : Value} (x : Operand) (hx : ev x = v) (ho : o.op = .move x ∨ o.op = .assign x) : (execOp ev o).run P V = .ok (.value v) V := by
  unfold execOp
  rcases ho with ho | ho <;> simp only [ho, hx, Sem.run_pure]
theorem tail_nil {ops : Array Oper} (h : Q .normal a V) : wpList P ops Q [] a V := h
theorem quiet_pickT {v : Value} (c x y : Operand) (hc : ev c = .bool true) (hx : ev x = v) (ho : o.op = .pick c x y) : (execOp ev o).run P V = .ok (.value v) V := by
  unfold execOp
  simp only [ho, hc, asBool, Sem.run_bind, Sem.run_pure, Result.andThen_ok, hx, if_true]
theorem quiet_pickF {v : Value} (c x y : Operand) (hc : ev c = .bool false) (hy : ev y = v) (ho : o.op = .pick c x y) : (execOp ev o).run P V = .ok (.value v) V := by
  unfold execOp
  simp only [ho, hc, asBool, Sem.run_bind, Sem.run_pure, Result.andThen_ok, hy]
  rfl
theorem quiet_not {b : Bool} (t : TypeId) (x : Operand) (hx : ev x = .bool b) (ho : o.op = .unOp .not t x) : (execOp ev o).run P V = .ok (.value (.bool (!b))) V := by
  unfold execOp
  simp only [ho, hx]
  simp [go_sem]
end
end Go.Proofs.YtinlonpcakkfhaaGreatDoor
namespace Go.Proofs.YtinlonpcakkfhaaGreatDoor.Sch
open Go Go.Proofs Go.RowKit
inductive Rk where
  | is (p : Value → World → Prop) (hk : ∀ v V V', p v V → Below V.heap.size V V' → p v V')
  | fresh (T : TypeId) (z : Array Value)
def Rk.rel : Rk → Value → World → Prop
  | .is p _ => p
  | .fresh T z => fun v V => ∃ g, v = .pointer (some ⟨g, 0, none⟩) ∧ Blk V g T z
def Rk.new : Rk → Bool
  | .is _ _ => false
  | .fresh _ _ => true
def Rk.val (u : Value) : Rk := .is (fun v _ => v = u) (fun _ _ _ h _ => h)
theorem Rk.keep (r : Rk) {v : Value} {V V' : World} (h : r.rel v V) (hb : Below V.heap.size V V') : r.rel v V' := by
  cases r with
  | is p hk => exact hk v V V' h hb
  | fresh T z => obtain ⟨g, e, hB⟩ := h; exact ⟨g, e, hB.old hb⟩
def relOf (PL : List Rk) (i : Nat) (v : Value) (V : World) : Prop := match PL[i]? with | some r => r.rel v V | none => False
def planR (PL : List Rk) : Plan := { Fr := fun u v => Below u.heap.size u v, R := fun i _ v V => relOf PL i v V, fresh := fun i => match PL[i]? with | some r => r.new | none => false }
theorem relOf_at {PL : List Rk} {i : Nat} {r : Rk} (h : PL[i]? = some r) {v : Value} {V : World} : relOf PL i v V ↔ r.rel v V := by unfold relOf; rw [h]
theorem planR_laws (PL : List Rk) : Laws (planR PL) where
  refl _ := Below.refl _ _
  trans h1 h2 := Below.trans h1 (Below.mono h2 h1.size)
  drew _ := (Below.refl _ _).drew
  size h := h.size
  keep {i x v V V'} h hb := by
    show relOf PL i v V'
    have h : relOf PL i v V := h
    unfold relOf at h ⊢
    cases hr : PL[i]? with
    | none => rw [hr] at h; exact h
    | some r => rw [hr] at h; exact r.keep h hb
def GoodsR (P : Program) (ops : Array Oper) (m : Nat) (a0 : Act) (w0 : World) (PL : List Rk) : Nat → List Rk → Prop
  | _, [] => True
  | k, _ :: r => Good P ops m a0 w0 (planR PL) k ∧ GoodsR P ops m a0 w0 PL (k + 1) r
section
variable {P : Program} {ops : Array Oper} {m : Nat} {a0 : Act} {w0 : World} {PL : List Rk} {k : Nat} {r : List Rk}
theorem goodsR_at : ∀ (l : List Rk) (k : Nat), GoodsR P ops m a0 w0 PL k l → ∀ i, i < l.length → Good P ops m a0 w0 (planR PL) (k + i)
  | [], _, _, i, h => absurd h (Nat.not_lt_zero _)
  | q :: r, k, hg, 0, h => hg.1
  | q :: r, k, hg, i + 1, h => by
    have := goodsR_at r (k + 1) hg.2 i (by simpa using h)
    rwa [show k + 1 + i = k + (i + 1) by omega] at this
theorem gr_nil : GoodsR P ops m a0 w0 PL k [] := trivial
structure Here (ops : Array Oper) (m : Nat) (a0 : Act) (w0 : World) (PL : List Rk) (k : Nat) (a : Act) (V : World) : Prop where
  still : ∀ t, still ops m t = true → tm a t = tm a0 t
  frame : Below w0.heap.size w0 V
  got : ∀ j ∈ pre ops k, relOf PL j (at_ ops a j) V
theorem Here.old {a : Act} {V : World} (h : Here ops m a0 w0 PL k a V) (t : Tmp) {v : Value} (h1 : Sch.still ops m t = true) (h2 : tm a0 t = v) : a.eval (.tmp t) = v := (h.still t h1).trans h2
theorem Here.rel {a : Act} {V : World} (h : Here ops m a0 w0 PL k a V) (j : Nat) (t : Tmp) {q : Rk} (h1 : (pre ops k).contains j = true) (h2 : dstOf ops j = some t) (h3 : PL[j]? = some q) : q.rel (a.eval (.tmp t)) V := by
  have := h.got j (by simpa using h1)
  rw [relOf_at h3] at this
  have e : at_ ops a j = a.eval (.tmp t) := by unfold at_; rw [h2]; rfl
  rwa [e] at this
theorem gr_is {p : Value → World → Prop} {hk : ∀ v V V', p v V → Below V.heap.size V V' → p v V'} (hPL : PL[k]? = some (.is p hk)) (hgd : (opA ops k).guard = none)
    (h : ∀ (a : Act) (V : World), Here ops m a0 w0 PL k a V → ∀ (K : Act → World → Prop) (Q : Exit → Act → World → Prop),
      (∀ v V', Below V.heap.size V V' → p v V' → K (a.put (opA ops k).dst v) V') → (opA ops k).wp P a V K Q) (hr : GoodsR P ops m a0 w0 PL (k + 1) r) : GoodsR P ops m a0 w0 PL k (.is p hk :: r) :=
  ⟨fun a V h1 h2 h3 => .inl ⟨by unfold Region.wanted; rw [hgd], fun K Q hK => h a V ⟨h1, h2, fun j hj => h3 j hj⟩ K Q fun v V' hb hp => hK v V' hb ((relOf_at hPL).2 hp) (fun hf => by
    exfalso
    have e : (planR PL).fresh k = false := by show (match PL[k]? with | some r => r.new | none => false) = false; rw [hPL]; rfl
    rw [e] at hf; cases hf)⟩, hr⟩
theorem gr_val {u : Value} (hPL : PL[k]? = some (.val u)) (hgd : (opA ops k).guard = none)
    (h : ∀ (a : Act) (V : World), Here ops m a0 w0 PL k a V → ∀ (K : Act → World → Prop) (Q : Exit → Act → World → Prop),
      (∀ V', Below V.heap.size V V' → K (a.put (opA ops k).dst u) V') → (opA ops k).wp P a V K Q) (hr : GoodsR P ops m a0 w0 PL (k + 1) r) : GoodsR P ops m a0 w0 PL k (.val u :: r) :=
  gr_is hPL hgd (fun a V H K Q hK => h a V H K Q fun V' hb => hK u V' hb rfl) hr
theorem gr_fresh {T : TypeId} {z : Array Value} (hPL : PL[k]? = some (.fresh T z)) (h1 : (ops[k]?).map (fun o => (o.op, o.guard)) = some (.alloc T, none)) (h2 : ∀ W, (zeroValue T).run P W = .ok (.agg z) W) (hr : GoodsR P ops m a0 w0 PL (k + 1) r) :
    GoodsR P ops m a0 w0 PL k (.fresh T z :: r) := by
  refine ⟨fun a V _ _ _ => .inl ?_, hr⟩
  cases ho : ops[k]? with
  | none => rw [ho] at h1; simp at h1
  | some o =>
    rw [ho] at h1
    simp only [Option.map_some, Option.some.injEq, Prod.mk.injEq] at h1
    rw [opA_of ho]
    refine ⟨by unfold Region.wanted; rw [h1.2], fun K Q hK => ?_⟩
    have hrun : (execOp a.eval o).run P V = .ok (.value (.pointer (some ⟨V.heap.size, 0, none⟩))) (V.alloc (.cells z T)) := by
      unfold execOp
      simp only [h1.1, Instr.alloc, Sem.run_bind, h2, Result.andThen_ok, Sem.run_pure]
      rfl
    unfold Oper.wp
    rw [hrun, Oper.upon_value]
    exact hK _ _ ((Below.refl _ _).alloc (Nat.le_refl _) _) ((relOf_at hPL).2 ⟨_, rfl, Blk.new V T z⟩) (fun _ => ⟨_, rfl, Nat.le_refl _, by simp⟩)
structure FinR (PL : List Rk) (x : Nat → Value) (w0 V : World) : Prop where
  rel : ∀ i (r : Rk), PL[i]? = some r → r.rel (x i) V
  new : ∀ i T z, PL[i]? = some (.fresh T z) → ∃ g, x i = .pointer (some ⟨g, 0, none⟩) ∧ w0.heap.size ≤ g ∧ Blk V g T z
  apart : ∀ i j T z T' z', PL[i]? = some (.fresh T z) → PL[j]? = some (.fresh T' z') → i ≠ j → x i ≠ x j
  frame : Below w0.heap.size w0 V
theorem wp_R {Q : Exit → Act → World → Prop} {id : Nat} {draw : Bool} (D : List Tmp) (PL : List Rk) (hl : PL.length = D.length) (hm : P.follows .mixedOrders = true) (hc : chk ops D.length a0.tmps.size = true) (hd : chkD ops 0 D = true) (hq : (!draw || (cloB ops D.length && seqd ops D.length)) = true)
    (hg : GoodsR P ops D.length a0 w0 PL 0 PL) (tl : List Oper) (ht : ops.toList.drop D.length = tl)
    (hfin : ∀ (x : Nat → Value) (V : World), FinR PL x w0 V → wpList P ops Q tl ⟨finL x 0 D a0.tmps, a0.defers⟩ V) : (Code.region id ops draw).wp P Q a0 w0 := by
  refine wp_sch (planR PL) D (planR_laws PL) hm hc hd hq (fun k hk => ?_) tl ht fun x V hF => hfin x V ⟨fun i r hr => ?_, fun i T z hr => ?_, fun i j T z T' z' hi hj hne => ?_, hF.frame⟩
  · have := goodsR_at PL 0 hg k (by omega)
    rwa [Nat.zero_add] at this
  · have hi : i < D.length := by rw [← hl]; exact (List.getElem?_eq_some_iff.1 hr).1
    exact (relOf_at hr).1 (hF.rel i hi)
  · have hi : i < D.length := by rw [← hl]; exact (List.getElem?_eq_some_iff.1 hr).1
    obtain ⟨g, e, h1, h2⟩ := hF.new i hi (by show (match PL[i]? with | some r => r.new | none => false) = true; rw [hr]; rfl)
    obtain ⟨g', e', hB⟩ := (relOf_at hr).1 (hF.rel i hi)
    rw [e] at e'
    injection e' with e'
    injection e' with e'
    injection e' with e'
    subst e'
    exact ⟨g, e, h1, hB⟩
  · have ni : i < D.length := by rw [← hl]; exact (List.getElem?_eq_some_iff.1 hi).1
    have nj : j < D.length := by rw [← hl]; exact (List.getElem?_eq_some_iff.1 hj).1
    exact hF.apart i j ni nj (by show (match PL[i]? with | some r => r.new | none => false) = true; rw [hi]; rfl) (by show (match PL[j]? with | some r => r.new | none => false) = true; rw [hj]; rfl) hne
end
section
variable {P : Program} {o : Oper} {a : Act} {V : World} {K : Act → World → Prop} {Q : Exit → Act → World → Prop}
theorem op_callR {f : FuncId} {p : Value → World → Prop} (xs : Array Operand) (args : Array Value) (ho : o.op = .call (callOf o)) (hc : (callOf o).callee = .value (.func f)) (hx : (callOf o).args = xs) (ha : xs.map a.eval = args)
    (hk : Calls P f args V fun e w' => ∃ v, e = .returned v ∧ p v w' ∧ Below V.heap.size V w') (hrun : (callFunc f args).run P V = .ok (.enter f args) V) (hK : ∀ v V', Below V.heap.size V V' → p v V' → K (a.put o.dst v) V') : o.wp P a V K Q := by
  have h : (execOp a.eval o).run P V = .ok (.enter f args) V := by
    unfold execOp
    rw [ho]
    simp only [resolve, hc, hx, Act.eval, Deferred.ofValue, ha, Sem.run_bind, Sem.run_pure, Result.andThen_ok, invoke]
    simp [go_sem, hrun]
  unfold Oper.wp
  rw [h, Oper.upon_enter]
  refine hk.mono ?_
  rintro e w' ⟨v, rfl, hp, hb⟩
  exact hK v w' hb hp
end
end Go.Proofs.YtinlonpcakkfhaaGreatDoor.Sch
namespace Go.Proofs.YtinlonpcakkfhaaGreatDoor.Sch
open Go Go.Proofs Go.RowKit
section
variable {P : Program} {ops : Array Oper} {m : Nat} {a0 : Act} {w0 : World} {PL : List Rk} {k : Nat} {r : List Rk}
theorem gr_on {p : Value → World → Prop} {hk : ∀ v V V', p v V → Below V.heap.size V V' → p v V'} {j d : Nat} {want : Bool} {u : Value} (hPL : PL[k]? = some (.is p hk)) (hgd : (opA ops k).guard = some (j, want)) (hd : dstOf ops j = some d)
    (hv : ∀ (a : Act) (V : World), Here ops m a0 w0 PL k a V → a.eval (.tmp d) = u) (hp : passes want u = true)
    (h : ∀ (a : Act) (V : World), Here ops m a0 w0 PL k a V → ∀ (K : Act → World → Prop) (Q : Exit → Act → World → Prop),
      (∀ v V', Below V.heap.size V V' → p v V' → K (a.put (opA ops k).dst v) V') → (opA ops k).wp P a V K Q) (hr : GoodsR P ops m a0 w0 PL (k + 1) r) : GoodsR P ops m a0 w0 PL k (.is p hk :: r) :=
  ⟨fun a V h1 h2 h3 => .inl ⟨by
      rw [wanted_of hgd hd (hv a V ⟨h1, h2, fun j hj => h3 j hj⟩)]; exact hp, fun K Q hK => h a V ⟨h1, h2, fun j hj => h3 j hj⟩ K Q fun v V' hb hp => hK v V' hb ((relOf_at hPL).2 hp) (fun hf => by
    exfalso
    have e : (planR PL).fresh k = false := by show (match PL[k]? with | some r => r.new | none => false) = false; rw [hPL]; rfl
    rw [e] at hf; cases hf)⟩, hr⟩
theorem gr_onV {w : Value} {j d : Nat} {want : Bool} {u : Value} (hPL : PL[k]? = some (.val w)) (hgd : (opA ops k).guard = some (j, want)) (hd : dstOf ops j = some d)
    (hv : ∀ (a : Act) (V : World), Here ops m a0 w0 PL k a V → a.eval (.tmp d) = u) (hp : passes want u = true)
    (h : ∀ (a : Act) (V : World), Here ops m a0 w0 PL k a V → ∀ (K : Act → World → Prop) (Q : Exit → Act → World → Prop),
      (∀ V', Below V.heap.size V V' → K (a.put (opA ops k).dst w) V') → (opA ops k).wp P a V K Q) (hr : GoodsR P ops m a0 w0 PL (k + 1) r) : GoodsR P ops m a0 w0 PL k (.val w :: r) :=
  gr_on hPL hgd hd hv hp (fun a V H K Q hK => h a V H K Q fun V' hb => hK w V' hb rfl) hr
end
end Go.Proofs.YtinlonpcakkfhaaGreatDoor.Sch
end
section
set_option maxRecDepth 100000
namespace Go.Proofs.YtinlonpcakkfhaaGreatDoor
open Go Go.Proofs Go.RowKit _root_.Ord11 Go.Proofs.YtinlonpcakkfhaaGreatDoor.Ord11
structure SlAt (w : World) (B : Nat) (A : Option Addr) (n c : Nat) (l : List UInt8) : Prop where
  rd : Reads w B 1 A n (Lib.byteCells l)
  fit : n ≤ 1099511627776
  cap : n ≤ c
theorem SlAt.below {w w' : World} {B : Nat} {A : Option Addr} {n c : Nat} {l : List UInt8} (h : SlAt w B A n c l) (hb : Below B w w') : SlAt w' B A n c l := ⟨h.rd.below hb, h.fit, h.cap⟩
theorem SlAt.more {w : World} {B B' : Nat} {A : Option Addr} {n c : Nat} {l : List UInt8} (h : SlAt w B A n c l) (hb : B ≤ B') : SlAt w B' A n c l := ⟨h.rd.more hb, h.fit, h.cap⟩
theorem SlAt.next {w w' : World} {A : Option Addr} {n c : Nat} {l : List UInt8} (h : SlAt w w.heap.size A n c l) (hb : Below w.heap.size w w') : SlAt w' w'.heap.size A n c l := (h.below hb).more hb.size
theorem SlAt.len {w : World} {B : Nat} {A : Option Addr} {n c : Nat} {l : List UInt8} (h : SlAt w B A n c l) : l.length = n := by have := h.rd.1; simpa [Lib.byteCells_length] using this
def rgC (r : Rg) (A1 : Option Addr) (n1 c1 : Nat) (A2 : Option Addr) (n2 c2 : Nat) : Array Value := #[.int .u8 r.o, .bool r.lo.is, .bool r.lo.op, .slice A1 n1 c1, .bool r.hi.is, .bool r.hi.op, .slice A2 n2 c2]
def bdC (x : Bd) (A : Option Addr) (n c : Nat) : Array Value := #[.bool x.is, .bool x.op, .slice A n c]
theorem isOk11 (o : Nat) (ho : o < 256) {A : Option Addr} {n c : Nat} {a : List UInt8} {w : World} (h : SlAt w w.heap.size A n c a) : Calls Tryz.prog 80 #[.int .u8 o, .slice A n c] w fun e w' => e = .returned (.bool (isV ordC o a)) ∧ Below w.heap.size w w' := refIs11 o ho A n c a w h.rd h.fit h.cap
theorem next_below {w W w1 : World} (h : Below w.heap.size w W) (hb : Below W.heap.size W w1) : Below w.heap.size w w1 := h.trans (hb.mono h.size)
theorem cell_below {w W : World} (h : Below w.heap.size w W) {g k : Nat} {v : Value} (hc : w.cell? ⟨g, k, none⟩ = some v) (hg : g < w.heap.size) : W.cell? ⟨g, k, none⟩ = some v := (h.cell hg).trans hc
theorem mayB_val (o : Nat) (x : Bd) : mayB ordC o x = if x.is then isV ordC o x.at_ else (!x.op && x.at_.isEmpty) := by
  unfold mayB; cases x.is <;> simp
set_option maxHeartbeats 8000000 in
theorem refMay11 (r : Rg) (ho : r.o < 256) {A1 A2 : Option Addr} {n1 c1 n2 c2 : Nat} (w : World) (h1 : SlAt w w.heap.size A1 n1 c1 r.lo.at_) (h2 : SlAt w w.heap.size A2 n2 c2 r.hi.at_) :
    Calls Tryz.prog 57 #[.agg (rgC r A1 n1 c1 A2 n2 c2)] w fun e w' => e = .returned (.bool (mayR ordC r)) ∧ Below w.heap.size w w' := by
  obtain ⟨o, ⟨i1, p1, l1⟩, ⟨i2, p2, l2⟩⟩ := r
  have e1 := h1.len
  have e2 := h2.len
  dsimp only at e1 e2 ho
  have z1 : Hid (l1.isEmpty = decide (n1 = 0)) := by show _ = _; rw [← e1]; cases l1 <;> simp
  have z2 : Hid (l2.isEmpty = decide (n2 = 0)) := by show _ = _; rw [← e2]; cases l2 <;> simp
  obtain ⟨v1, hv1⟩ : ∃ v, v = isV ordC o l1 := ⟨_, rfl⟩
  obtain ⟨v2, hv2⟩ : ∃ v, v = isV ordC o l2 := ⟨_, rfl⟩
  obtain ⟨b1, hb1⟩ : ∃ b, b = mayB ordC o ⟨i1, p1, l1⟩ := ⟨_, rfl⟩
  obtain ⟨b2, hb2⟩ : ∃ b, b = mayB ordC o ⟨i2, p2, l2⟩ := ⟨_, rfl⟩
  obtain ⟨X, hX⟩ : ∃ X, X = mayR ordC ⟨o, ⟨i1, p1, l1⟩, ⟨i2, p2, l2⟩⟩ := ⟨_, rfl⟩
  have HM : Hid (X = (decide (1 ≤ o) && decide (o ≤ 5) && b1 && b2)) := by show _ = _; rw [hX, hb1, hb2]; rfl
  rw [mayB_val] at hb1 hb2
  dsimp only at hb1 hb2
  rw [← hv1, z1.out] at hb1
  rw [← hv2, z2.out] at hb2
  rw [← hX]
  have Y1 := hid hb1
  have Y2 := hid hb2
  clear hb1 hb2 hX z1 z2 e1 e2
  obtain ⟨w0, hw0⟩ : ∃ w0, w0 = (w.alloc (.cells #[.int .u8 o, .bool i1, .bool p1, .slice A1 n1 c1, .bool i2, .bool p2, .slice A2 n2 c2] 27)) := ⟨_, rfl⟩
  have HB0 : Hid (Below w.heap.size w w0) := by
    show Below _ _ _
    rw [hw0]
    exact (Below.refl w.heap.size w).alloc (Nat.le_refl _) _
  have B0 : Blk w0 w.heap.size 27 #[.int .u8 o, .bool i1, .bool p1, .slice A1 n1 c1, .bool i2, .bool p2, .slice A2 n2 c2] := by
    rw [hw0]
    exact Blk.new w 27 #[.int .u8 o, .bool i1, .bool p1, .slice A1 n1 c1, .bool i2, .bool p2, .slice A2 n2 c2]
  have X0 : Hid (∀ W, Below w0.heap.size w0 W → ∀ k u, (#[.int .u8 o, .bool i1, .bool p1, .slice A1 n1 c1, .bool i2, .bool p2, .slice A2 n2 c2] : Array Value)[k]? = some u → W.cell? ⟨w.heap.size, k, none⟩ = some u) := fun W hW k u hk => cell_below hW ((B0.cell k).trans hk) B0.lt
  have HR : Below w0.heap.size w0 w0 := Below.refl _ _
  clear B0
  have K1 : Hid (∀ W, Below w0.heap.size w0 W → Calls Tryz.prog 80 #[.int .u8 o, .slice A1 n1 c1] W fun e w' => e = .returned (.bool v1) ∧ Below W.heap.size W w') := by
    intro W hW; rw [hv1]; exact isOk11 o ho (h1.next (next_below HB0.out hW))
  have K2 : Hid (∀ W, Below w0.heap.size w0 W → Calls Tryz.prog 80 #[.int .u8 o, .slice A2 n2 c2] W fun e w' => e = .returned (.bool v2) ∧ Below W.heap.size W w') := by
    intro W hW; rw [hv2]; exact isOk11 o ho (h2.next (next_below HB0.out hW))
  clear hv1 hv2 h1 h2
  unfold rgC
  go_enter Tryz.func57, Tryz.ntmps57
  go_upto_region 1 with fail
  rw [← hw0]
  clear hw0
  have x0_0 := X0.out _ HR 0 _ rfl
  have x0_1 := X0.out _ HR 1 _ rfl
  have x0_2 := X0.out _ HR 2 _ rfl
  have x0_3 := X0.out _ HR 3 _ rfl
  have x0_4 := X0.out _ HR 4 _ rfl
  have x0_5 := X0.out _ HR 5 _ rfl
  have x0_6 := X0.out _ HR 6 _ rfl
  go_cut [3] (fun p3 wx => p3 = .bool b1 ∧ Below w0.heap.size w0 wx)
  case first =>
    cases i1 with
    | true =>
      go_wp2_with (go_at_call 80; (with_reducible refine (K1.out _ (by assumption)).mono ?_); rintro e w1 ⟨rfl, hb⟩; have hB := next_below (by assumption) hb; have x0_0 := X0.out _ hB 0 _ rfl; have x0_1 := X0.out _ hB 1 _ rfl; have x0_2 := X0.out _ hB 2 _ rfl; have x0_3 := X0.out _ hB 3 _ rfl; have x0_4 := X0.out _ hB 4 _ rfl; have x0_5 := X0.out _ hB 5 _ rfl; have x0_6 := X0.out _ hB 6 _ rfl; clear hb)
      all_goals go_meet
      all_goals exact ⟨by rw [Y1.out]; simp_all, hB⟩
    | false =>
      cases p1 with
      | true =>
        go_wp2_with fail
        all_goals go_meet
        all_goals exact ⟨by rw [Y1.out]; simp, HR⟩
      | false =>
        by_cases hn : n1 = 0
        · subst hn
          go_wp2_with fail
          all_goals go_meet
          all_goals exact ⟨by rw [Y1.out]; simp, HR⟩
        · have hnB : ((n1 : Int) == 0) = false := by rw [beq_eq_false_iff_ne]; omega
          have HN := hid hn
          clear hn
          go_wp2_with fail
          all_goals go_meet
          all_goals exact ⟨by rw [Y1.out]; simp [HN.out], HR⟩
  case rest =>
    obtain ⟨rfl, hb⟩ := hcut
    clear HR x0_0 x0_1 x0_2 x0_3 x0_4 x0_5 x0_6
    have hB := hb
    have x0_0 := X0.out _ hb 0 _ rfl
    have x0_1 := X0.out _ hb 1 _ rfl
    have x0_2 := X0.out _ hb 2 _ rfl
    have x0_3 := X0.out _ hb 3 _ rfl
    have x0_4 := X0.out _ hb 4 _ rfl
    have x0_5 := X0.out _ hb 5 _ rfl
    have x0_6 := X0.out _ hb 6 _ rfl
    go_upto_region 2 with fail
    go_cut [4] (fun p4 wx => p4 = .bool b2 ∧ Below w0.heap.size w0 wx)
    case first =>
      cases i2 with
      | true =>
        go_wp2_with (go_at_call 80; (with_reducible refine (K2.out _ (by assumption)).mono ?_); rintro e w1 ⟨rfl, hb⟩; have hB := next_below (by assumption) hb; have x0_0 := X0.out _ hB 0 _ rfl; have x0_1 := X0.out _ hB 1 _ rfl; have x0_2 := X0.out _ hB 2 _ rfl; have x0_3 := X0.out _ hB 3 _ rfl; have x0_4 := X0.out _ hB 4 _ rfl; have x0_5 := X0.out _ hB 5 _ rfl; have x0_6 := X0.out _ hB 6 _ rfl; clear hb)
        all_goals go_meet
        all_goals exact ⟨by rw [Y2.out]; simp_all, by assumption⟩
      | false =>
        cases p2 with
        | true =>
          go_wp2_with fail
          all_goals go_meet
          all_goals exact ⟨by rw [Y2.out]; simp, hB⟩
        | false =>
          by_cases hn : n2 = 0
          · subst hn
            go_wp2_with fail
            all_goals go_meet
            all_goals exact ⟨by rw [Y2.out]; simp, hB⟩
          · have hnB : ((n2 : Int) == 0) = false := by rw [beq_eq_false_iff_ne]; omega
            have HN := hid hn
            clear hn
            go_wp2_with fail
            all_goals go_meet
            all_goals exact ⟨by rw [Y2.out]; simp [HN.out], hB⟩
    case rest =>
      clear hb hB x0_0 x0_1 x0_2 x0_3 x0_4 x0_5 x0_6
      obtain ⟨rfl, hb⟩ := hcut
      have x0_0 := X0.out _ hb 0 _ rfl
      have x0_1 := X0.out _ hb 1 _ rfl
      have x0_2 := X0.out _ hb 2 _ rfl
      have x0_3 := X0.out _ hb 3 _ rfl
      have x0_4 := X0.out _ hb 4 _ rfl
      have x0_5 := X0.out _ hb 5 _ rfl
      have x0_6 := X0.out _ hb 6 _ rfl
      cases b1 <;> cases b2
      all_goals go_wp2_with fail
      all_goals go_ret
      all_goals exact ⟨by rw [HM.out]; simp_all <;> omega, next_below HB0.out hb⟩
end Go.Proofs.YtinlonpcakkfhaaGreatDoor
end
section
set_option maxRecDepth 100000
namespace Go.Proofs.YtinlonpcakkfhaaGreatDoor
open Go Go.Proofs Go.RowKit _root_.Ord11 Go.Proofs.YtinlonpcakkfhaaGreatDoor.Ord11
def endP (o : Nat) (x y : Bd) (lower : Bool) : Bool :=
  if x.is = false then false else if y.is = false then true else
  if (ordC o x.at_ y.at_).1 = 0 then !(y.op && !x.op) else decide (0 < (ordC o x.at_ y.at_).1) == lower
end Go.Proofs.YtinlonpcakkfhaaGreatDoor
end
section
set_option maxRecDepth 100000
namespace Go.Proofs.YtinlonpcakkfhaaGreatDoor.Sch
open Go Go.Proofs Go.RowKit
section
variable {P : Program} {ops : Array Oper} {m : Nat} {a0 : Act} {w0 : World} {PL : List Rk} {k : Nat} {r : List Rk}
theorem gr_offV {j d : Nat} {want : Bool} {u : Value} (hPL : PL[k]? = some (.val undef)) (hgd : (opA ops k).guard = some (j, want)) (hd : dstOf ops j = some d)
    (hv : ∀ (a : Act) (V : World), Here ops m a0 w0 PL k a V → a.eval (.tmp d) = u) (hp : passes want u = false) (hr : GoodsR P ops m a0 w0 PL (k + 1) r) : GoodsR P ops m a0 w0 PL k (.val undef :: r) :=
  ⟨fun a V h1 h2 h3 => .inr ⟨by rw [wanted_of hgd hd (hv a V ⟨h1, h2, fun j hj => h3 j hj⟩)]; exact hp, (relOf_at hPL).2 rfl, by
    show (match PL[k]? with | some r => r.new | none => false) = false; rw [hPL]; rfl⟩, hr⟩
end
end Go.Proofs.YtinlonpcakkfhaaGreatDoor.Sch
namespace Go.Proofs.YtinlonpcakkfhaaGreatDoor
open Go Go.Proofs Go.RowKit
section
variable {P : Program} {o : Oper} {ev : Operand → Value} {V : World}
theorem run_loadVar_cell {v : Value} (T : TypeId) (ad : Addr) {d : TypeDesc} (hu : P.underlying T = some d) (hd : (match d with | .struct _ | .array _ _ => true | _ => false) = false) (hc : V.cell? ad = some v) : (loadVar T ad).run P V = .ok v V := by
  have hagg : (isAgg T).run P V = .ok false V := by
    unfold isAgg
    rw [Sem.run_bind, run_underlying hu V]
    cases d <;> simp_all [Result.andThen]
  simp [loadVar, Sem.run_bind, hagg, Result.andThen, hc]
theorem quiet_cell {v : Value} (T : TypeId) (x : Operand) (ad : Addr) (hx : ev x = .pointer (some ad)) {d : TypeDesc} (hu : P.underlying T = some d) (hd : (match d with | .struct _ | .array _ _ => true | _ => false) = false) (hc : V.cell? ad = some v) (ho : o.op = .load T x) : (execOp ev o).run P V = .ok (.value v) V := by
  unfold execOp
  simp only [ho, hx, Instr.loadAt, Instr.sureAddr, Sem.run_bind, Sem.run_pure, Result.andThen_ok, run_loadVar_cell T ad hu hd hc]
theorem quiet_len (x : Operand) (A : Option Addr) (n c : Nat) (T e : TypeId) (hx : ev x = .slice A n c) (hu : P.underlying T = some (.slice e)) (ho : o.op = .call { callee := .builtin .len, args := #[x], argTypes := #[T] }) : (execOp ev o).run P V = .ok (.value (.int .i64 (n : Int))) V := by
  unfold execOp
  simp only [ho, resolve, invoke, builtin, Sem.run_bind, Sem.run_pure, Result.andThen_ok, List.map_toArray, List.map_cons, List.map_nil, hx]
  simp [Builtin.len_, run_underlying hu, Result.andThen, goInt]
end
section
variable {P : Program} {o : Oper} {a : Act} {V : World} {K : Act → World → Prop} {Q : Exit → Act → World → Prop}
end
end Go.Proofs.YtinlonpcakkfhaaGreatDoor
end
section
set_option maxRecDepth 100000
namespace Go.Proofs.YtinlonpcakkfhaaGreatDoor
open Go Go.Proofs Go.RowKit
section
variable {P : Program} {o : Oper} {ev : Operand → Value} {w : World}
theorem quiet_fld (s : TypeId) (x : Operand) (f : Nat) (v u : Value) (hx : ev x = v) (hr : ∀ W, (Instr.fieldAt s v f).run P W = .ok u W) (ho : o.op = .fieldAddr s x f) : (execOp ev o).run P w = .ok (.value u) w := by
  unfold execOp
  simp only [ho, hx, Sem.run_bind, hr, Result.andThen_ok, Sem.run_pure]
theorem run_loadVar_offs (w : World) (g off : Nat) (t : TypeId) (cs : Array Value) (d : TypeDesc) (hc : ∀ j v, cs[j]? = some v → w.cell? ⟨g, off + j, none⟩ = some v) (hu : P.underlying t = some d) (hd : (match d with | .struct _ | .array _ _ => true | _ => false) = true) (hi : (P.info? t).map (·.size) = some cs.size) :
    (loadVar t ⟨g, off, none⟩).run P w = .ok (.agg cs) w := by
  have hl : (loadCells ⟨g, off, none⟩ cs.toList.length).run P w = .ok cs.toList.toArray w :=
    run_loadCells_list (P := P) w ⟨g, off, none⟩ cs.toList (fun j v hv => by
      have hadd : (⟨g, off, none⟩ : Addr).add j = ⟨g, off + j, none⟩ := by unfold Addr.add; split <;> simp_all
      rw [hadd]
      exact hc j v (by simpa using hv))
  cases hq : P.info? t with
  | none => simp [hq] at hi
  | some i =>
    have hs : i.size = cs.size := by simpa [hq] using hi
    have hagg : (isAgg t).run P w = .ok true w := by
      unfold isAgg
      rw [Sem.run_bind, run_underlying hu w]
      cases d <;> simp_all [Result.andThen]
    simp only [Array.length_toList, Array.toArray_toList] at hl
    simp [loadVar, Sem.run_bind, hagg, sizeOf, typeInfo, hq, hs, hl, Result.andThen]
theorem quiet_agg (t : TypeId) (x : Operand) (g off : Nat) (hx : ev x = .pointer (some ⟨g, off, none⟩)) (cs : Array Value) {d : TypeDesc} (hc : ∀ j v, cs[j]? = some v → w.cell? ⟨g, off + j, none⟩ = some v) (hu : P.underlying t = some d) (hd : (match d with | .struct _ | .array _ _ => true | _ => false) = true) (hi : (P.info? t).map (·.size) = some cs.size) (ho : o.op = .load t x) :
    (execOp ev o).run P w = .ok (.value (.agg cs)) w := by
  unfold execOp
  simp only [ho, hx, Instr.loadAt, Instr.sureAddr, Sem.run_bind, Sem.run_pure, Result.andThen_ok, run_loadVar_offs w g off t cs d hc hu hd hi]
theorem quiet_bld (t : TypeId) (parts : Array (Nat × Operand)) (vals : List (Nat × Value)) (hv : (parts.map fun (i, x) => (i, ev x)).toList = vals) (cells : Array Value) (hb : P.built t vals = some cells) (ho : o.op = .build t parts) : (execOp ev o).run P w = .ok (.value (.agg cells)) w := by
  unfold execOp
  simp only [ho, Sem.run_bind, run_build w t _ cells (by rw [hv]; exact hb), Result.andThen_ok, Sem.run_pure]
theorem quiet_eqlB (x y : Operand) (p q b : Bool) (T K : TypeId) (hu : P.underlying T = some .bool) (hb : (p == q) = b) (hx : ev x = .bool p) (hy : ev y = .bool q) (ho : o.op = .binOp .eql T x y K) : (execOp ev o).run P w = .ok (.value (.bool b)) w := by
  subst hb
  unfold execOp
  simp only [ho, hx, hy]
  simp [go_sem, hu, Result.andThen]
end
def isRowB (d : TypeDesc) : Bool := match d with | .struct _ | .array _ _ => true | _ => false
theorem results_st_tmp {fn : Func} {p u : Tmp} {ty : TypeId} {P : Program} (h : fn.results = #[.cell p ty, .tmp u]) (tmps : Array Value) (w : World) (g : Nat) (t : TypeId) (cs : Array Value) (v : Value) (d : TypeDesc)
    (hp : tmps.getD p undef = .pointer (some ⟨g, 0, none⟩)) (hv : tmps.getD u undef = v) (hg : Blk w g t cs) (hu : P.underlying ty = some d) (hd : isRowB d = true) (hi : (P.info? ty).map (·.size) = some cs.size) :
    (results fn tmps).run P w = .ok (.tuple #[.agg cs, v]) w := by
  rw [results_cell_tmp h, hp, hv]
  have hl := run_loadVar_row w g t ty cs (0, 0) d hg hu (by cases d <;> simp_all [isRowB]) hi
  simp [asAddr, Result.andThen, hl]
theorem part_at {cells cs : Array Value} (off : Nat) (h : ∃ r, cells.toList.drop off = cs.toList ++ r) (j : Nat) (v : Value) (hj : cs[j]? = some v) : cells[off + j]? = some v := by
  obtain ⟨r, h⟩ := h
  have e : (cells.toList.drop off)[j]? = some v := by
    rw [h, List.getElem?_append_left]
    · simpa using hj
    · have := (Array.getElem?_eq_some_iff.1 hj).1
      simpa using this
  rw [List.getElem?_drop] at e
  simpa using e
end Go.Proofs.YtinlonpcakkfhaaGreatDoor
end
section
set_option maxRecDepth 100000
namespace Go.Proofs.YtinlonpcakkfhaaGreatDoor
open Go Go.Proofs Go.RowKit _root_.Ord11 Go.Proofs.YtinlonpcakkfhaaGreatDoor.Ord11
open Sch (wp_R gr_val gr_is gr_fresh gr_nil gr_on gr_onV gr_offV op_callR Rk)
theorem fR0 (g o : Nat) : ∀ W, (Instr.fieldAt 27 (.pointer (some ⟨g, o, none⟩)) 0).run Tryz.prog W = .ok (.pointer (some ⟨g, o, none⟩)) W := fun W => by kernel_rfl
theorem fB2 (g o : Nat) : ∀ W, (Instr.fieldAt 25 (.pointer (some ⟨g, o, none⟩)) 2).run Tryz.prog W = .ok (.pointer (some ⟨g, o + 2, none⟩)) W := fun W => by kernel_rfl
end Go.Proofs.YtinlonpcakkfhaaGreatDoor
end
section
set_option maxRecDepth 100000
namespace Go.Proofs.YtinlonpcakkfhaaGreatDoor
open Go Go.Proofs Go.RowKit _root_.Ord11 Go.Proofs.YtinlonpcakkfhaaGreatDoor.Ord11
set_option maxHeartbeats 4000000 in
theorem refGreat11 (r : Rg) (A1 A2 : Option Addr) (n1 c1 n2 c2 : Nat) (w : World) :
    Calls Tryz.prog 23 #[.agg (rgC r A1 n1 c1 A2 n2 c2)] w fun e w' => e = .returned (.bool (decide (200 < n1) || decide (200 < n2))) ∧ Below w.heap.size w w' := by
  obtain ⟨o, ⟨i1, p1, l1⟩, ⟨i2, p2, l2⟩⟩ := r
  obtain ⟨X, hX⟩ : ∃ X, X = (decide (200 < n1) || decide (200 < n2)) := ⟨_, rfl⟩
  rw [← hX]
  have HX := hid hX
  clear hX
  obtain ⟨w0, hw0⟩ : ∃ w0, w0 = (w.alloc (.cells #[.int .u8 o, .bool i1, .bool p1, .slice A1 n1 c1, .bool i2, .bool p2, .slice A2 n2 c2] 27)) := ⟨_, rfl⟩
  have HB0 : Hid (Below w.heap.size w w0) := by
    show Below _ _ _
    rw [hw0]
    exact (Below.refl w.heap.size w).alloc (Nat.le_refl _) _
  have B0 : Blk w0 w.heap.size 27 #[.int .u8 o, .bool i1, .bool p1, .slice A1 n1 c1, .bool i2, .bool p2, .slice A2 n2 c2] := by
    rw [hw0]
    exact Blk.new w 27 #[.int .u8 o, .bool i1, .bool p1, .slice A1 n1 c1, .bool i2, .bool p2, .slice A2 n2 c2]
  have X0 : Hid (∀ W, Below w0.heap.size w0 W → ∀ k u, (#[.int .u8 o, .bool i1, .bool p1, .slice A1 n1 c1, .bool i2, .bool p2, .slice A2 n2 c2] : Array Value)[k]? = some u → W.cell? ⟨w.heap.size, k, none⟩ = some u) := fun W hW k u hk => cell_below hW ((B0.cell k).trans hk) B0.lt
  have HR : Below w0.heap.size w0 w0 := Below.refl _ _
  clear B0
  unfold rgC
  go_enter Tryz.func23, Tryz.ntmps23
  go_upto_region 1 with fail
  rw [← hw0]
  clear hw0
  have x0_0 := X0.out _ HR 0 _ rfl
  have x0_1 := X0.out _ HR 1 _ rfl
  have x0_2 := X0.out _ HR 2 _ rfl
  have x0_3 := X0.out _ HR 3 _ rfl
  have x0_4 := X0.out _ HR 4 _ rfl
  have x0_5 := X0.out _ HR 5 _ rfl
  have x0_6 := X0.out _ HR 6 _ rfl
  by_cases h1 : 200 < n1
  · go_wp2_with fail
    go_ret
    exact ⟨by rw [HX.out]; simp [h1] <;> omega, HB0.out⟩
  · by_cases h2 : 200 < n2
    · go_wp2_with fail
      go_ret
      exact ⟨by rw [HX.out]; simp [h2] <;> omega, HB0.out⟩
    · go_wp2_with fail
      go_ret
      exact ⟨by rw [HX.out]; simp [h1, h2] <;> omega, HB0.out⟩
set_option maxHeartbeats 4000000 in
theorem refsame11 (x y : Bd) {A1 A2 : Option Addr} {n1 c1 n2 c2 : Nat} (w : World) (h1 : SlAt w w.heap.size A1 n1 c1 x.at_) (h2 : SlAt w w.heap.size A2 n2 c2 y.at_) :
    Calls Tryz.prog 61 #[.agg (bdC x A1 n1 c1), .agg (bdC y A2 n2 c2)] w fun e w' => e = .returned (.bool (sameB x y)) ∧ Below w.heap.size w w' := by
  obtain ⟨i1, p1, l1⟩ := x
  obtain ⟨i2, p2, l2⟩ := y
  dsimp only at h1 h2
  obtain ⟨X, hX⟩ : ∃ X, X = sameB ⟨i1, p1, l1⟩ ⟨i2, p2, l2⟩ := ⟨_, rfl⟩
  rw [← hX]
  have s1 : (⟨l1.toArray⟩ : ByteArray).toList = l1 := by rw [ByteArray.toList_eq]
  have s2 : (⟨l2.toArray⟩ : ByteArray).toList = l2 := by rw [ByteArray.toList_eq]
  obtain ⟨w0, hw0⟩ : ∃ w0, w0 = ((w.alloc (.cells #[.bool i1, .bool p1, .slice A1 n1 c1] 25)).alloc (.cells #[.bool i2, .bool p2, .slice A2 n2 c2] 25)) := ⟨_, rfl⟩
  have HB0 : Hid (Below w.heap.size w w0) := by
    show Below _ _ _
    rw [hw0]
    exact ((Below.refl w.heap.size w).alloc (Nat.le_refl _) _).alloc (by simp; try omega) _
  have B0 : Blk w0 w.heap.size 25 #[.bool i1, .bool p1, .slice A1 n1 c1] := by
    rw [hw0]
    exact (Blk.new w 25 #[.bool i1, .bool p1, .slice A1 n1 c1]).alloc _
  have X0 : Hid (∀ W, Below w0.heap.size w0 W → ∀ k u, (#[.bool i1, .bool p1, .slice A1 n1 c1] : Array Value)[k]? = some u → W.cell? ⟨w.heap.size, k, none⟩ = some u) := fun W hW k u hk => cell_below hW ((B0.cell k).trans hk) B0.lt
  have B1 : Blk w0 (w.heap.size + 1) 25 #[.bool i2, .bool p2, .slice A2 n2 c2] := by
    rw [hw0]
    have h := Blk.new (w.alloc (.cells #[.bool i1, .bool p1, .slice A1 n1 c1] 25)) 25 #[.bool i2, .bool p2, .slice A2 n2 c2]
    simpa using h
  have X1 : Hid (∀ W, Below w0.heap.size w0 W → ∀ k u, (#[.bool i2, .bool p2, .slice A2 n2 c2] : Array Value)[k]? = some u → W.cell? ⟨(w.heap.size + 1), k, none⟩ = some u) := fun W hW k u hk => cell_below hW ((B1.cell k).trans hk) B1.lt
  have HR : Below w0.heap.size w0 w0 := Below.refl _ _
  clear B0 B1
  have k1 := run_back (c := c1) (h1.next HB0.out).rd
  have k2 := run_back (c := c2) (h2.next HB0.out).rd
  generalize (⟨l1.toArray⟩ : ByteArray) = S at k1 s1
  generalize (⟨l2.toArray⟩ : ByteArray) = S' at k2 s2
  obtain ⟨q, hq⟩ : ∃ q, (S.toList == S'.toList) = q := ⟨_, rfl⟩
  have HX : Hid (X = ((i1 == i2) && (p1 == p2) && q)) := by show _ = _; rw [hX, ← hq, s1, s2]; rfl
  clear hX s1 s2 h1 h2
  unfold bdC
  go_enter Tryz.func61, Tryz.ntmps61
  go_upto_region 1 with fail
  rw [← hw0]
  clear hw0
  have x0_0 := X0.out _ HR 0 _ rfl
  have x0_1 := X0.out _ HR 1 _ rfl
  have x0_2 := X0.out _ HR 2 _ rfl
  have x1_0 := X1.out _ HR 0 _ rfl
  have x1_1 := X1.out _ HR 1 _ rfl
  have x1_2 := X1.out _ HR 2 _ rfl
  cases i1 <;> cases i2 <;> cases p1 <;> cases p2
  all_goals go_wp2_with fail
  all_goals go_ret
  all_goals exact ⟨by rw [HX.out]; simp_all, HB0.out⟩
set_option maxHeartbeats 8000000 in
theorem refSame11 (r s : Rg) (hor : r.o < 256) (hos : s.o < 256) {A1 A2 A3 A4 : Option Addr} {n1 c1 n2 c2 n3 c3 n4 c4 : Nat} (w : World) (h1 : SlAt w w.heap.size A1 n1 c1 r.lo.at_) (h2 : SlAt w w.heap.size A2 n2 c2 r.hi.at_) (h3 : SlAt w w.heap.size A3 n3 c3 s.lo.at_) (h4 : SlAt w w.heap.size A4 n4 c4 s.hi.at_) :
    Calls Tryz.prog 35 #[.agg (rgC r A1 n1 c1 A2 n2 c2), .agg (rgC s A3 n3 c3 A4 n4 c4)] w fun e w' => e = .returned (.bool (sameR r s)) ∧ Below w.heap.size w w' := by
  obtain ⟨oa, ⟨ia1, pa1, l1⟩, ⟨ia2, pa2, l2⟩⟩ := r
  obtain ⟨ob, ⟨ib1, pb1, l3⟩, ⟨ib2, pb2, l4⟩⟩ := s
  dsimp only at h1 h2 h3 h4 hor hos
  obtain ⟨X, hX⟩ : ∃ X, X = sameR ⟨oa, ⟨ia1, pa1, l1⟩, ⟨ia2, pa2, l2⟩⟩ ⟨ob, ⟨ib1, pb1, l3⟩, ⟨ib2, pb2, l4⟩⟩ := ⟨_, rfl⟩
  rw [← hX]
  obtain ⟨q1, hq1⟩ : ∃ q, q = sameB ⟨ia1, pa1, l1⟩ ⟨ib1, pb1, l3⟩ := ⟨_, rfl⟩
  obtain ⟨q2, hq2⟩ : ∃ q, q = sameB ⟨ia2, pa2, l2⟩ ⟨ib2, pb2, l4⟩ := ⟨_, rfl⟩
  have HX : Hid (X = (decide (oa = ob) && q1 && q2)) := by show _ = _; rw [hX, hq1, hq2]; rfl
  clear hX
  obtain ⟨w0, hw0⟩ : ∃ w0, w0 = ((w.alloc (.cells #[.int .u8 oa, .bool ia1, .bool pa1, .slice A1 n1 c1, .bool ia2, .bool pa2, .slice A2 n2 c2] 27)).alloc (.cells #[.int .u8 ob, .bool ib1, .bool pb1, .slice A3 n3 c3, .bool ib2, .bool pb2, .slice A4 n4 c4] 27)) := ⟨_, rfl⟩
  have HB0 : Hid (Below w.heap.size w w0) := by
    show Below _ _ _
    rw [hw0]
    exact ((Below.refl w.heap.size w).alloc (Nat.le_refl _) _).alloc (by simp; try omega) _
  have B0 : Blk w0 w.heap.size 27 #[.int .u8 oa, .bool ia1, .bool pa1, .slice A1 n1 c1, .bool ia2, .bool pa2, .slice A2 n2 c2] := by
    rw [hw0]
    exact (Blk.new w 27 #[.int .u8 oa, .bool ia1, .bool pa1, .slice A1 n1 c1, .bool ia2, .bool pa2, .slice A2 n2 c2]).alloc _
  have X0 : Hid (∀ W, Below w0.heap.size w0 W → ∀ k u, (#[.int .u8 oa, .bool ia1, .bool pa1, .slice A1 n1 c1, .bool ia2, .bool pa2, .slice A2 n2 c2] : Array Value)[k]? = some u → W.cell? ⟨w.heap.size, k, none⟩ = some u) := fun W hW k u hk => cell_below hW ((B0.cell k).trans hk) B0.lt
  have B1 : Blk w0 (w.heap.size + 1) 27 #[.int .u8 ob, .bool ib1, .bool pb1, .slice A3 n3 c3, .bool ib2, .bool pb2, .slice A4 n4 c4] := by
    rw [hw0]
    have h := Blk.new (w.alloc (.cells #[.int .u8 oa, .bool ia1, .bool pa1, .slice A1 n1 c1, .bool ia2, .bool pa2, .slice A2 n2 c2] 27)) 27 #[.int .u8 ob, .bool ib1, .bool pb1, .slice A3 n3 c3, .bool ib2, .bool pb2, .slice A4 n4 c4]
    simpa using h
  have X1 : Hid (∀ W, Below w0.heap.size w0 W → ∀ k u, (#[.int .u8 ob, .bool ib1, .bool pb1, .slice A3 n3 c3, .bool ib2, .bool pb2, .slice A4 n4 c4] : Array Value)[k]? = some u → W.cell? ⟨(w.heap.size + 1), k, none⟩ = some u) := fun W hW k u hk => cell_below hW ((B1.cell k).trans hk) B1.lt
  have HR : Below w0.heap.size w0 w0 := Below.refl _ _
  clear B0 B1
  have K1 : Hid (∀ W, Below w0.heap.size w0 W → Calls Tryz.prog 61 #[.agg #[.bool ia1, .bool pa1, .slice A1 n1 c1], .agg #[.bool ib1, .bool pb1, .slice A3 n3 c3]] W fun e w' => e = .returned (.bool q1) ∧ Below W.heap.size W w') := by
    intro W hW
    have hW' := next_below HB0.out hW
    rw [hq1]; exact refsame11 ⟨ia1, pa1, l1⟩ ⟨ib1, pb1, l3⟩ W (h1.next hW') (h3.next hW')
  have K2 : Hid (∀ W, Below w0.heap.size w0 W → Calls Tryz.prog 61 #[.agg #[.bool ia2, .bool pa2, .slice A2 n2 c2], .agg #[.bool ib2, .bool pb2, .slice A4 n4 c4]] W fun e w' => e = .returned (.bool q2) ∧ Below W.heap.size W w') := by
    intro W hW
    have hW' := next_below HB0.out hW
    rw [hq2]; exact refsame11 ⟨ia2, pa2, l2⟩ ⟨ib2, pb2, l4⟩ W (h2.next hW') (h4.next hW')
  clear hq1 hq2 h1 h2 h3 h4
  unfold rgC
  go_enter Tryz.func35, Tryz.ntmps35
  go_upto_region 1 with fail
  rw [← hw0]
  clear hw0
  have x0_0 := X0.out _ HR 0 _ rfl
  have x0_1 := X0.out _ HR 1 _ rfl
  have x0_2 := X0.out _ HR 2 _ rfl
  have x0_3 := X0.out _ HR 3 _ rfl
  have x0_4 := X0.out _ HR 4 _ rfl
  have x0_5 := X0.out _ HR 5 _ rfl
  have x0_6 := X0.out _ HR 6 _ rfl
  have x1_0 := X1.out _ HR 0 _ rfl
  have x1_1 := X1.out _ HR 1 _ rfl
  have x1_2 := X1.out _ HR 2 _ rfl
  have x1_3 := X1.out _ HR 3 _ rfl
  have x1_4 := X1.out _ HR 4 _ rfl
  have x1_5 := X1.out _ HR 5 _ rfl
  have x1_6 := X1.out _ HR 6 _ rfl
  by_cases ho : oa = ob
  · subst ho
    have hoB : ((oa : Int) == (oa : Int)) = true := beq_self_eq_true _
    cases q1
    all_goals go_wp2_with (go_at_call 61; (first | (with_reducible refine (K1.out _ (by assumption)).mono ?_) | (with_reducible refine (K2.out _ (by assumption)).mono ?_)); rintro e w1 ⟨rfl, hb⟩; have hB := next_below (by assumption) hb; have x0_0 := X0.out _ hB 0 _ rfl; have x0_1 := X0.out _ hB 1 _ rfl; have x0_2 := X0.out _ hB 2 _ rfl; have x0_3 := X0.out _ hB 3 _ rfl; have x0_4 := X0.out _ hB 4 _ rfl; have x0_5 := X0.out _ hB 5 _ rfl; have x0_6 := X0.out _ hB 6 _ rfl; have x1_0 := X1.out _ hB 0 _ rfl; have x1_1 := X1.out _ hB 1 _ rfl; have x1_2 := X1.out _ hB 2 _ rfl; have x1_3 := X1.out _ hB 3 _ rfl; have x1_4 := X1.out _ hB 4 _ rfl; have x1_5 := X1.out _ hB 5 _ rfl; have x1_6 := X1.out _ hB 6 _ rfl; clear hb)
    all_goals go_ret
    all_goals exact ⟨by rw [HX.out]; simp, next_below HB0.out (by assumption)⟩
  · have hoB : ((oa : Int) == (ob : Int)) = false := by rw [beq_eq_false_iff_ne]; omega
    have HO := hid ho
    clear ho
    go_wp2_with fail
    go_ret
    exact ⟨by rw [HX.out]; simp [HO.out], HB0.out⟩
end Go.Proofs.YtinlonpcakkfhaaGreatDoor
end
section
set_option maxRecDepth 100000
namespace Go.Proofs.YtinlonpcakkfhaaGreatDoor
open Go Go.Proofs Go.RowKit _root_.Ord11 Go.Proofs.YtinlonpcakkfhaaGreatDoor.Ord11
def RgIs (w : World) (r : Rg) (z : Array Value) : Prop :=
  ∃ (A1 : Option Addr) (n1 c1 : Nat) (A2 : Option Addr) (n2 c2 : Nat), z = rgC r A1 n1 c1 A2 n2 c2 ∧ r.o < 256 ∧ SlAt w w.heap.size A1 n1 c1 r.lo.at_ ∧ SlAt w w.heap.size A2 n2 c2 r.hi.at_
theorem RgIs.next {w w' : World} {r : Rg} {z : Array Value} (h : RgIs w r z) (hb : Below w.heap.size w w') : RgIs w' r z := by
  obtain ⟨A1, n1, c1, A2, n2, c2, e, ho, h1, h2⟩ := h
  exact ⟨A1, n1, c1, A2, n2, c2, e, ho, h1.next hb, h2.next hb⟩
/-! The document's answers, in the same words. -/
end Go.Proofs.YtinlonpcakkfhaaGreatDoor
end
section
namespace Go.Proofs.YtinlonpcakkfhaaGreatDoor
open Go Go.Proofs Go.RowKit Sx
theorem sameL_take (a b : List SX) (k : Nat) (x y : SX) (hx : a[k]? = some x) (hy : b[k]? = some y) : sameL (a.take (k + 1)) (b.take (k + 1)) = (sameL (a.take k) (b.take k) && same x y) := by
  induction a generalizing b k with
  | nil => simp at hx
  | cons u r ih =>
    cases b with
    | nil => simp at hy
    | cons v s =>
      cases k with
      | zero =>
        simp at hx hy
        subst hx hy
        simp [sameL]
      | succ k =>
        simp at hx hy
        simp [sameL, ih s k hx hy, Bool.and_assoc]
theorem sameL_bad (a b : List SX) (k : Nat) (x y : SX) (hx : a[k]? = some x) (hy : b[k]? = some y) (h : same x y = false) : sameL a b = false := by
  rw [Bool.eq_false_iff]
  intro e
  have := (sameL_iff a b).1 e
  subst this
  rw [hx] at hy
  injection hy with hy
  subst hy
  rw [same_refl] at h
  cases h
theorem sameL_len (a b : List SX) (h : a.length ≠ b.length) : sameL a b = false := by
  rw [Bool.eq_false_iff]
  intro e
  have := (sameL_iff a b).1 e
  subst this
  exact h rfl
set_option maxHeartbeats 2000000 in
set_option maxRecDepth 100000 in
theorem refSame_any (t : SX) : ∀ (t' : SX) (w : World) (S S' : Nat → Prop) (cs cs' : List Value), SIn w S t cs → SIn w S' t' cs' →
    Calls Tryz.prog 13 #[.agg cs.toArray, .agg cs'.toArray] w fun e w' => e = .returned (.bool (same t t')) ∧ Below w.heap.size w w' := by
  induction t using SX.ind with
  | H l h hi da ks ih =>
    intro t' w S S' cs cs' hs hs'
    obtain ⟨_, _, _, _, _, A1, n1, c1, A2, n2, c2, A3, n3, c3, e, rfl⟩ := hs.form_
    cases e
    obtain ⟨l', h', hi', da', ks', A1', n1', c1', A2', n2', c2', A3', n3', c3', e, rfl⟩ := hs'.form_
    subst e
    have HS := hid hs
    have HS' := hid hs'
    have IH := hid ih
    have hM : Hid (same (.mk l h hi da ks) (.mk l' h' hi' da' ks') = (l == l' && h == h' && hi == hi' && da == da' && sameL ks ks')) := by show _ = _; rw [same]
    have hb0 := (below_new w (.cells #[Value.bool l, Value.bool h, Value.slice A1 n1 c1, Value.slice A2 n2 c2, Value.slice A3 n3 c3] 34)).trans ((below_new (w.alloc (.cells #[Value.bool l, Value.bool h, Value.slice A1 n1 c1, Value.slice A2 n2 c2, Value.slice A3 n3 c3] 34)) (.cells #[Value.bool l', Value.bool h', Value.slice A1' n1' c1', Value.slice A2' n2' c2', Value.slice A3' n3' c3'] 34)).mono (by simp))
    obtain ⟨_, _, r1, r2, g1, g2, hk, b11, b12, b21, b22, b31, b32⟩ := (hs.old hb0).inv
    obtain ⟨_, _, r1', r2', g1', g2', hk', b11', b12', b21', b22', b31', b32'⟩ := (hs'.old hb0).inv
    have k1 := run_back (r1.reads (by omega)) (c := c1)
    have k2 := run_back (r2.reads (by omega)) (c := c2)
    have k1' := run_back (r1'.reads (by omega)) (c := c1')
    have k2' := run_back (r2'.reads (by omega)) (c := c2')
    have HK := hid hk
    have HK' := hid hk'
    clear hs hs' ih r1 r2 r1' r2' g1 g2 g1' g2' hk hk'
    by_cases q1 : ¬ l = l'
    · have HQ := hid q1
      have q1' : (l != l') = true := by simpa using q1
      clear q1
      go_enter Tryz.func13, Tryz.ntmps13
      go_wp2_with fail
      go_ret
      exact ⟨ret_bool (by rw [hM.out]; simp [HQ.out]), hb0⟩
    have q1 : l = l' := Classical.not_not.1 q1
    subst q1
    by_cases q2 : ¬ h = h'
    · have HQ := hid q2
      have q2' : (h != h') = true := by simpa using q2
      clear q2
      go_enter Tryz.func13, Tryz.ntmps13
      go_wp2_with fail
      go_ret
      exact ⟨ret_bool (by rw [hM.out]; simp [HQ.out]), hb0⟩
    have q2 : h = h' := Classical.not_not.1 q2
    subst q2
    by_cases q3 : ¬ hi = hi'
    · have HQ := hid q3
      go_enter Tryz.func13, Tryz.ntmps13
      go_wp2_with fail
      go_ret
      exact ⟨ret_bool (by rw [hM.out]; simp [HQ.out]), hb0⟩
    have q3 : hi = hi' := Classical.not_not.1 q3
    subst q3
    by_cases q4 : ¬ da = da'
    · have HQ := hid q4
      go_enter Tryz.func13, Tryz.ntmps13
      go_wp2_with fail
      go_ret
      exact ⟨ret_bool (by rw [hM.out]; simp [HQ.out]), hb0⟩
    have q4 : da = da' := Classical.not_not.1 q4
    subst q4
    by_cases q5 : ¬ n3 = n3'
    · have HQ := hid (sameL_len ks ks' (by rw [HK.out, HK'.out]; exact q5))
      have q5' : ((n3 : Int) != (n3' : Int)) = true := by rw [bne_iff_ne]; omega
      clear q5
      go_enter Tryz.func13, Tryz.ntmps13
      go_wp2_with fail
      go_ret
      exact ⟨ret_bool (by rw [hM.out]; simp [HQ.out]), hb0⟩
    have q5 : n3 = n3' := Classical.not_not.1 q5
    subst q5
    have hM' : Hid (same (.mk l h hi da ks) (.mk l h hi da ks') = sameL ks ks') := by show _ = _; rw [hM.out]; simp
    have HX1 := hid (below_at (below_new (w.alloc (Obj.cells #[Value.bool l, Value.bool h, Value.slice A1 n1 c1, Value.slice A2 n2 c2, Value.slice A3 n3 c3] 34 (0, 0))) (Obj.cells #[Value.bool l, Value.bool h, Value.slice A1' n1' c1', Value.slice A2' n2' c2', Value.slice A3' n3 c3'] 34 (0, 0))) (heap_alloc_new w (Obj.cells #[Value.bool l, Value.bool h, Value.slice A1 n1 c1, Value.slice A2 n2 c2, Value.slice A3 n3 c3] 34 (0, 0))))
    have HX2 := hid (heap_alloc_new (w.alloc (Obj.cells #[Value.bool l, Value.bool h, Value.slice A1 n1 c1, Value.slice A2 n2 c2, Value.slice A3 n3 c3] 34 (0, 0))) (Obj.cells #[Value.bool l, Value.bool h, Value.slice A1' n1' c1', Value.slice A2' n2' c2', Value.slice A3' n3 c3'] 34 (0, 0)))
    have hsz0 : (w.alloc (Obj.cells #[Value.bool l, Value.bool h, Value.slice A1 n1 c1, Value.slice A2 n2 c2, Value.slice A3 n3 c3] 34 (0, 0))).heap.size = w.heap.size + 1 := by simp
    rw [hsz0] at HX2
    clear hsz0
    clear hM
    go_enter Tryz.func13, Tryz.ntmps13
    go_wp2_with fail
    go_loopw [48] (fun i wr => ∃ k : Nat, k ≤ n3 ∧ i = .int .i64 k ∧ Hid (sameL (ks.take k) (ks'.take k) = true) ∧ Below w.heap.size w wr ∧ Hid (wr.heap[w.heap.size]? = some (Obj.cells #[Value.bool l, Value.bool h, Value.slice A1 n1 c1, Value.slice A2 n2 c2, Value.slice A3 n3 c3] 34 (0, 0))) ∧ Hid (wr.heap[w.heap.size + 1]? = some (Obj.cells #[Value.bool l, Value.bool h, Value.slice A1' n1' c1', Value.slice A2' n2' c2', Value.slice A3' n3 c3'] 34 (0, 0)))) (fun i _ => n3 - (intOf i).toNat)
    case atStart => exact ⟨0, Nat.zero_le _, rfl, rfl, hb0, HX1.out, HX2.out⟩
    case round =>
      obtain ⟨k, hkn, rfl, hcl, hbel, hB1, hB2⟩ := hrel
      clear hb0 HX1 HX2 k1 k2 k1' k2'
      by_cases hlt : k < n3
      · obtain ⟨ad, v0, v1, v2, v3, v4, t, rfl, hS, hks, hm, hin, d0, d1, d2, d3, d4⟩ := (HS.out.old hbel).kid hlt
        obtain ⟨ad', v0', v1', v2', v3', v4', t', rfl, hS', hks', hm', hin', d0', d1', d2', d3', d4'⟩ := (HS'.out.old hbel).kid hlt
        have e4 := (box5b hB1.out).2.2.2.2
        have e4' := (box5b hB2.out).2.2.2.2
        have hlt' : (k : Int) < n3 := by omega
        have hdr : Below wr.heap.size wr wr.drew := (Below.refl _ _).drew
        have hdin := hin.old hdr
        have hdin' := hin'.old hdr
        have hbd := hbel.trans (hdr.mono hbel.size)
        have HBd1 := hid (below_at hdr hB1.out)
        have HBd2 := hid (below_at hdr hB2.out)
        have HM := hid hm
        have HT := hid (sameL_take ks ks' k t t' hks hks')
        have HBad := hid (sameL_bad ks ks' k t t' hks hks')
        clear hks hks' hm hm' hin hin'
        go_wp2_with fail
        go_still_tail 10, (by kernel_rfl)
        change wpList _ _ _ _ _ wr.drew
        clear d0 d1 d2 d3 d4 d0' d1' d2' d3' d4' e4 e4' hdr hbel hB1 hB2
        generalize wr.drew = wd at *
        by_cases hct : same t t' = true
        · have hct' := hid hct
          have ihh := IH.out t HM.out t'
          rw [hct] at ihh
          clear hct
          go_wp2_with ((with_reducible refine (ihh _ S S' _ _ hdin hdin').mono ?_); rintro e w2 ⟨rfl, hb2⟩)
          go_roundw
          case rel => exact ⟨k + 1, by omega, by go_num, (show _ = _ by rw [HT.out, hcl.out, hct'.out]; rfl), hbd.trans (hb2.mono hbd.size), below_at hb2 HBd1.out, below_at hb2 HBd2.out⟩
          case measure => simp [intOf]; omega
        · have hct : same t t' = false := by simpa using hct
          have hct' := hid hct
          have ihh := IH.out t HM.out t'
          rw [hct] at ihh
          clear hct
          go_wp2_with ((with_reducible refine (ihh _ S S' _ _ hdin hdin').mono ?_); rintro e w2 ⟨rfl, hb2⟩)
          go_ret
          exact ⟨ret_bool (by rw [hM'.out, HBad.out hct'.out]), hbd.trans (hb2.mono hbd.size)⟩
      · obtain rfl : k = n3 := by omega
        have hall : Hid (sameL ks ks' = true) := by
          have h := hcl.out
          rw [List.take_of_length_le (by rw [HK.out]; exact Nat.le_refl _), List.take_of_length_le (by rw [HK'.out]; exact Nat.le_refl _)] at h
          exact h
        go_wp2_with fail
        go_ret
        exact ⟨ret_bool (by rw [hM'.out, hall.out]), hbel⟩
end Go.Proofs.YtinlonpcakkfhaaGreatDoor
end
section
set_option maxRecDepth 100000
namespace Tag12
open Ord11 Sx
mutual
def countT : TG → Nat
  | .mk _ _ _ ks => 1 + countL ks
def countL : List TG → Nat
  | [] => 0
  | t :: r => countT t + countL r
end
theorem countL_snoc (l : List TG) (t : TG) : countL (l ++ [t]) = countL l + countT t := by
  induction l with
  | nil => simp [countL]
  | cons a r ih => simp [countL, ih]; omega
theorem take_snocT {l : List TG} {k : Nat} {x : TG} (h : l[k]? = some x) : l.take (k + 1) = l.take k ++ [x] := by
  rw [List.take_add_one, h]; rfl
theorem countL_take (l : List TG) (k : Nat) (x : TG) (h : l[k]? = some x) : countL (l.take (k + 1)) = countL (l.take k) + countT x := by rw [take_snocT h, countL_snoc]
/- No end of a range is too long. -/
mutual
def fineT : TG → Bool
  | .mk _ _ r ks => decide (r.lo.at_.length ≤ 1099511627776) && decide (r.hi.at_.length ≤ 1099511627776) && fineL ks
def fineL : List TG → Bool
  | [] => true
  | t :: r => fineT t && fineL r
end
theorem fineL_snoc (l : List TG) (t : TG) : fineL (l ++ [t]) = (fineL l && fineT t) := by
  induction l with
  | nil => simp [fineL]
  | cons a r ih => simp [fineL, ih, Bool.and_assoc]
theorem fineL_take (l : List TG) (k : Nat) (x : TG) (h : l[k]? = some x) : fineL (l.take (k + 1)) = (fineL (l.take k) && fineT x) := by rw [take_snocT h, fineL_snoc]
theorem fineL_mem {l : List TG} (h : fineL l = true) : ∀ x ∈ l, fineT x = true := by
  induction l with
  | nil => intro x hx; cases hx
  | cons a r ih =>
    rw [fineL, Bool.and_eq_true] at h
    intro x hx
    rcases List.mem_cons.1 hx with rfl | hx
    · exact h.1
    · exact ih h.2 x hx
end Tag12
namespace Go.Proofs.YtinlonpcakkfhaaGreatDoor
open Go Go.Proofs Go.RowKit Sx _root_.Ord11 Go.Proofs.YtinlonpcakkfhaaGreatDoor.Ord11 _root_.Tag12
set_option maxHeartbeats 1000000 in
theorem count12_any (t : TG) : ∀ (w : World) (S : Nat → Prop) (cs : List Value), TIn w S t cs →
    Calls Tryz.prog 24 #[.agg cs.toArray] w fun e w' => e = .returned (.int .i64 (wrap64 (countT t))) ∧ Below w.heap.size w w' := by
  induction t using TG.ind with
  | H k d r ks ih =>
    intro w S cs hs
    obtain ⟨o, ⟨i1, p1, l1⟩, ⟨i2, p2, l2⟩⟩ := r
    obtain ⟨_, _, _, _, A1, n1, c1, A2, n2, c2, A3, n3, c3, A4, n4, c4, e, rfl⟩ := hs.form_
    cases e
    dsimp only at hs ⊢
    obtain ⟨_, _, _, ⟨_, hk, _, _⟩, ⟨_, _, b21, b22, _⟩⟩ := hs.inv
    have HK := hid hk
    have HS := hid hs
    have IH := hid ih
    clear hk hs ih
    obtain ⟨w0, hw0⟩ : ∃ w0, w0 = (w.alloc (.cells #[.int .u8 k, .slice A1 n1 c1, .slice A2 n2 c2, .int .u8 o, .bool i1, .bool p1, .slice A3 n3 c3, .bool i2, .bool p2, .slice A4 n4 c4] 29)) := ⟨_, rfl⟩
    have HB0 : Hid (Below w.heap.size w w0) := by
      show Below _ _ _
      rw [hw0]
      exact below_new _ _
    have X0 : Hid (∀ W, Below w0.heap.size w0 W → ∀ k' u, (#[.int .u8 k, .slice A1 n1 c1, .slice A2 n2 c2, .int .u8 o, .bool i1, .bool p1, .slice A3 n3 c3, .bool i2, .bool p2, .slice A4 n4 c4] : Array Value)[k']? = some u → W.cell? ⟨w.heap.size, k', none⟩ = some u) := by
      intro W hW k' u hk
      have B0 : Blk w0 w.heap.size 29 #[.int .u8 k, .slice A1 n1 c1, .slice A2 n2 c2, .int .u8 o, .bool i1, .bool p1, .slice A3 n3 c3, .bool i2, .bool p2, .slice A4 n4 c4] := by
        rw [hw0]
        exact Blk.new w 29 #[.int .u8 k, .slice A1 n1 c1, .slice A2 n2 c2, .int .u8 o, .bool i1, .bool p1, .slice A3 n3 c3, .bool i2, .bool p2, .slice A4 n4 c4]
      exact cell_below hW ((B0.cell k').trans hk) B0.lt
    have HR : Below w0.heap.size w0 w0 := Below.refl _ _
    go_enter Tryz.func24, Tryz.ntmps24
    go_upto_region 1 with fail
    rw [← hw0]
    clear hw0
    have x0_2 := X0.out _ HR 2 _ rfl
    go_wp2_with fail
    go_loopw [3, 8] (fun v i wr => ∃ q : Nat, q ≤ n2 ∧ i = .int .i64 q ∧ v = .int .i64 (wrap64 (1 + countL (ks.take q))) ∧ Below w0.heap.size w0 wr) (fun _ i _ => n2 - (intOf i).toNat)
    case atStart => exact ⟨0, Nat.zero_le _, rfl, by simp [countL, wrap64], HR⟩
    case round =>
      clear x0_2 HR
      obtain ⟨q, hqn, rfl, rfl, hbel⟩ := hrel
      have hbw := HB0.out.trans (hbel.mono HB0.out.size)
      by_cases hlt : q < n2
      · obtain ⟨ad, v0, v1, v2, v3, v4, v5, v6, v7, v8, v9, t, rfl, hS, hks, hm, hin, d0, d1, d2, d3, d4, d5, d6, d7, d8, d9⟩ := (HS.out.old hbw).kid hlt
        have x0_2 := X0.out _ hbel 2 _ rfl
        have HT := hid (countL_take ks q t hks)
        have HM := hid hm
        have hsz := hbel.size
        clear hks hm
        go_wp2_with ((with_reducible refine (IH.out t HM.out _ S _ hin).mono ?_); rintro e w2 ⟨rfl, hb2⟩)
        go_roundw
        case rel => exact ⟨q + 1, by omega, by go_num, val_i64 (by rw [HT.out, wrap_add]; congr 1; omega), hbel.trans (hb2.mono hsz)⟩
        case measure => simp [intOf]; omega
      · obtain rfl : q = n2 := by omega
        go_wp2_with fail
        go_ret
        exact ⟨ret_i64 (by rw [List.take_of_length_le (by rw [HK.out]; exact Nat.le_refl _), countT]; rfl), hbw⟩
theorem concL_take (l : List SX) (k : Nat) (x : SX) (h : l[k]? = some x) : concreteL (l.take (k + 1)) = (concreteL (l.take k) && concrete x) := by
  have : ∀ (l : List SX) (t : SX), concreteL (l ++ [t]) = (concreteL l && concrete t) := by
    intro l t
    induction l with
    | nil => simp [concreteL]
    | cons a r ih => simp [concreteL, ih, Bool.and_assoc]
  rw [take_snoc l k x h, this]
theorem concL_bad (l : List SX) (k : Nat) (x : SX) (h : l[k]? = some x) (hx : concrete x = false) : concreteL l = false := by
  have e : l = l.take (k + 1) ++ l.drop (k + 1) := (List.take_append_drop _ _).symm
  have : ∀ (a b : List SX), concreteL (a ++ b) = (concreteL a && concreteL b) := by
    intro a b
    induction a with
    | nil => simp [concreteL]
    | cons u r ih => simp [concreteL, ih, Bool.and_assoc]
  rw [e, this, concL_take l k x h, hx]; simp
theorem headA_headIs (t : SX) : headA t = headIs t star := by
  obtain ⟨l, h, hi, da, ks⟩ := t
  unfold headA headIs
  rfl
set_option maxHeartbeats 2000000 in
theorem concrete12_any (t : SX) : ∀ (w : World) (S : Nat → Prop) (cs : List Value), SIn w S t cs →
    Calls Tryz.prog 42 #[.agg cs.toArray] w fun e w' => e = .returned (.bool (concrete t)) ∧ Below w.heap.size w w' := by
  induction t using SX.ind with
  | H l h hi da ks ih =>
    intro w S cs hs
    obtain ⟨_, _, _, _, _, A1, n1, c1, A2, n2, c2, A3, n3, c3, e, rfl⟩ := hs.form_
    cases e
    obtain ⟨_, _, _, _, _, _, hk, _, _, _, _, b31, b32⟩ := hs.inv
    have HK := hid hk
    have HS := hid hs
    have IH := hid ih
    have HC : Hid (concrete (.mk l h hi da ks) = (!h && !headIs (.mk l h hi da ks) star && concreteL ks)) := by show _ = _; rw [concrete, headA_headIs]
    obtain ⟨hd, hhd⟩ : ∃ b, b = headIs (.mk l h hi da ks) star := ⟨_, rfl⟩
    rw [← hhd] at HC
    have hb0 := below_new w (.cells #[.bool l, .bool h, .slice A1 n1 c1, .slice A2 n2 c2, .slice A3 n3 c3] 34)
    have KH : Hid (∀ W, Below w.heap.size w W → Calls Tryz.prog 62 #[.agg #[.bool l, .bool h, .slice A1 n1 c1, .slice A2 n2 c2, .slice A3 n3 c3], .string ⟨#[42]⟩] W fun e w' => e = .returned (.bool hd) ∧ Below W.heap.size W w') := fun W hW => by
      rw [hhd]
      exact refHead_any (.mk l h hi da ks) star W S _ (HS.out.old hW)
    clear hk hs ih hhd
    obtain ⟨w0, hw0⟩ : ∃ w0, w0 = (w.alloc (.cells #[.bool l, .bool h, .slice A1 n1 c1, .slice A2 n2 c2, .slice A3 n3 c3] 34)) := ⟨_, rfl⟩
    have HB0 : Hid (Below w.heap.size w w0) := by
      show Below _ _ _
      rw [hw0]
      exact below_new _ _
    have X0 : Hid (∀ W, Below w0.heap.size w0 W → ∀ k' u, (#[.bool l, .bool h, .slice A1 n1 c1, .slice A2 n2 c2, .slice A3 n3 c3] : Array Value)[k']? = some u → W.cell? ⟨w.heap.size, k', none⟩ = some u) := by
      intro W hW k' u hk
      have B0 : Blk w0 w.heap.size 34 #[.bool l, .bool h, .slice A1 n1 c1, .slice A2 n2 c2, .slice A3 n3 c3] := by
        rw [hw0]
        exact Blk.new w 34 #[.bool l, .bool h, .slice A1 n1 c1, .slice A2 n2 c2, .slice A3 n3 c3]
      exact cell_below hW ((B0.cell k').trans hk) B0.lt
    have HR : Below w0.heap.size w0 w0 := Below.refl _ _
    clear hb0
    go_enter Tryz.func42, Tryz.ntmps42
    go_upto_region 1 with fail
    rw [← hw0]
    clear hw0
    have x0_0 := X0.out _ HR 0 _ rfl
    have x0_1 := X0.out _ HR 1 _ rfl
    have x0_2 := X0.out _ HR 2 _ rfl
    have x0_3 := X0.out _ HR 3 _ rfl
    have x0_4 := X0.out _ HR 4 _ rfl
    cases h with
    | true =>
      go_wp2_with fail
      go_ret
      exact ⟨ret_bool (by rw [HC.out]; rfl), HB0.out⟩
    | false =>
      cases hd with
      | true =>
        go_wp2_with (go_at_call 62; refine (KH.out _ HB0.out).mono ?_; rintro e w1 ⟨rfl, hb1⟩)
        go_ret
        exact ⟨ret_bool (by rw [HC.out]; rfl), HB0.out.trans (hb1.mono HB0.out.size)⟩
      | false =>
        go_wp2_with (go_at_call 62; refine (KH.out _ HB0.out).mono ?_; rintro e w1 ⟨rfl, hb1⟩; have y4 := X0.out _ hb1 4 _ rfl)
        go_loopw [13] (fun i wr => ∃ q : Nat, q ≤ n3 ∧ i = .int .i64 q ∧ Hid (concreteL (ks.take q) = true) ∧ Below w0.heap.size w0 wr) (fun i _ => n3 - (intOf i).toNat)
        case atStart => exact ⟨0, Nat.zero_le _, rfl, by show _ = _; simp [concreteL], hb1⟩
        case round =>
          clear x0_0 x0_1 x0_2 x0_3 x0_4 HR y4 hb1
          obtain ⟨q, hqn, rfl, hcl, hbel⟩ := hrel
          have hbw := HB0.out.trans (hbel.mono HB0.out.size)
          by_cases hlt : q < n3
          · obtain ⟨ad, v0, v1, v2, v3, v4, t, rfl, hS, hks, hm, hin, d0, d1, d2, d3, d4⟩ := (HS.out.old hbw).kid hlt
            have x0_4 := X0.out _ hbel 4 _ rfl
            have HT := hid (concL_take ks q t hks)
            have HBad := hid (concL_bad ks q t hks)
            have KI := hid (IH.out t hm _ S _ hin)
            obtain ⟨b, hb⟩ : ∃ b, b = concrete t := ⟨_, rfl⟩
            rw [← hb] at HT HBad KI
            have hsz := hbel.size
            clear hks hm hin hb
            cases b with
            | true =>
              go_wp2_with (go_at_call 42; refine (KI.out).mono ?_; rintro e w2 ⟨rfl, hb2⟩)
              go_roundw
              case rel => exact ⟨q + 1, by omega, by go_num, by show _ = _; rw [HT.out, hcl.out]; rfl, hbel.trans (hb2.mono hsz)⟩
              case measure => simp [intOf]; omega
            | false =>
              go_wp2_with (go_at_call 42; refine (KI.out).mono ?_; rintro e w2 ⟨rfl, hb2⟩)
              go_ret
              exact ⟨ret_bool (by rw [HC.out, HBad.out (by simp)]; rfl), hbw.trans (hb2.mono hbw.size)⟩
          · obtain rfl : q = n3 := by omega
            have hall : Hid (concreteL ks = true) := by
              show _ = _
              have := hcl.out
              rwa [List.take_of_length_le (by rw [HK.out]; exact Nat.le_refl _)] at this
            go_wp2_with fail
            go_ret
            exact ⟨ret_bool (by rw [HC.out, hall.out]; rfl), hbw⟩
end Go.Proofs.YtinlonpcakkfhaaGreatDoor
end
section
set_option maxRecDepth 100000
namespace Go.Proofs.YtinlonpcakkfhaaGreatDoor
open Go Go.Proofs Go.RowKit Sx _root_.Ord11 Go.Proofs.YtinlonpcakkfhaaGreatDoor.Ord11 _root_.Tag12 Sch
def SlS (Sd : Nat → Prop) (B : Nat) (ks : List SX) (v : Value) (w : World) : Prop :=
  ∃ A n c xs, v = .slice A n c ∧ n ≤ c ∧ n * 80 ≤ 140737488355328 ∧ ks.length = n ∧ RIn w (fun b => B ≤ b) 5 A n xs ∧ Kids w (fun b => Sd b ∨ B ≤ b) ks xs
theorem SlS.old {Sd : Nat → Prop} {B : Nat} {ks : List SX} {v : Value} {w w' : World} (h : SlS Sd B ks v w) (hb : Below w.heap.size w w') : SlS Sd B ks v w' := by
  obtain ⟨A, n, c, xs, e, h1, h2, h3, h4, h5⟩ := h
  exact ⟨A, n, c, xs, e, h1, h2, h3, h4.old (by omega) hb, fun i t hi => (h5 i t hi).old hb⟩
def SlO (Sd : Nat → Prop) (B : Nat) (ks : List SX) (v : Value) (w : World) : Prop :=
  ∃ n xs, ks.length = n ∧ w.ownsRow B 34 5 v n xs ∧ Kids w (fun b => (Sd b ∨ B ≤ b) ∧ some b ≠ v.ownBlock) ks xs
theorem SlO.old {Sd : Nat → Prop} {B : Nat} {ks : List SX} {v : Value} {w w' : World} (h : SlO Sd B ks v w) (hb : Below w.heap.size w w') : SlO Sd B ks v w' := by
  obtain ⟨n, xs, h1, h2, h3⟩ := h
  exact ⟨n, xs, h1, own_old h2 hb, fun i t hi => (h3 i t hi).old hb⟩
theorem SlO.toS {Sd : Nat → Prop} {B B' : Nat} {ks : List SX} {v : Value} {w : World} (h : SlO Sd B ks v w) (hB : B' ≤ B) (hn : ks.length * 80 ≤ 140737488355328) : SlS Sd B' ks v w := by
  obtain ⟨n, xs, h1, h2, h3⟩ := h
  have h3' : Kids w (fun b => Sd b ∨ B' ≤ b) ks xs := fun i t hi => (h3 i t hi).more fun b hb => hb.1.elim .inl fun h => .inr (by omega)
  rcases h2.2 with ⟨rfl, rfl⟩ | ⟨g, cap, cur, rfl, hb, hg, hnc, hcm, hcs, ht⟩
  · have hx : xs = [] := List.eq_nil_of_length_eq_zero (by simpa using h2.1)
    subst hx
    exact ⟨none, 0, 0, [], rfl, Nat.le_refl _, by omega, h1, RIn.none_, h3'⟩
  · exact ⟨_, n, cap, xs, rfl, hnc, by omega, h1, ⟨h2.1, fun _ => ⟨_, rfl, by show B' ≤ g; omega, h2.cells (g := g) rfl⟩⟩, h3'⟩
def SxV (Sd : Nat → Prop) (B : Nat) (t : SX) (v : Value) (w : World) : Prop := ∃ v0 v1 v2 v3 v4, v = .agg #[v0, v1, v2, v3, v4] ∧ SIn w (fun b => Sd b ∨ B ≤ b) t [v0, v1, v2, v3, v4]
theorem SxV.old {Sd : Nat → Prop} {B : Nat} {t : SX} {v : Value} {w w' : World} (h : SxV Sd B t v w) (hb : Below w.heap.size w w') : SxV Sd B t v w' := by
  obtain ⟨v0, v1, v2, v3, v4, e, h1⟩ := h
  exact ⟨v0, v1, v2, v3, v4, e, h1.old hb⟩
theorem SxV.more {Sd : Nat → Prop} {B B' : Nat} {t : SX} {v : Value} {w : World} (h : SxV Sd B t v w) (hB : B' ≤ B) : SxV Sd B' t v w := by
  obtain ⟨v0, v1, v2, v3, v4, e, h1⟩ := h
  exact ⟨v0, v1, v2, v3, v4, e, h1.more fun b hb => hb.elim .inl (fun h => .inr (by omega))⟩
theorem SxV.five {Sd : Nat → Prop} {B : Nat} {t : SX} {v : Value} {w : World} (h : SxV Sd B t v w) : ∃ (l h : Bool) (A1 : Option Addr) (n1 c1 : Nat) (A2 : Option Addr) (n2 c2 : Nat) (A3 : Option Addr) (n3 c3 : Nat),
    v = .agg #[.bool l, .bool h, .slice A1 n1 c1, .slice A2 n2 c2, .slice A3 n3 c3] ∧ SIn w (fun b => Sd b ∨ B ≤ b) t [.bool l, .bool h, .slice A1 n1 c1, .slice A2 n2 c2, .slice A3 n3 c3] := by
  obtain ⟨v0, v1, v2, v3, v4, rfl, hin⟩ := h
  obtain ⟨l, h, hi, da, ks, A1, n1, c1, A2, n2, c2, A3, n3, c3, _, e⟩ := hin.form_
  injection e with e0 e; injection e with e1 e; injection e with e2 e; injection e with e3 e; injection e with e4 e
  subst e0 e1 e2 e3 e4
  exact ⟨_, _, _, _, _, _, _, _, _, _, _, rfl, hin⟩
theorem kids_one {w : World} {S : Nat → Prop} {t : SX} {a b c d e : Value} (h : SIn w S t [a, b, c, d, e]) : Kids w S [t] [a, b, c, d, e] := by
  intro i u hi
  match i, hi with
  | 0, hi => simp at hi; subst hi; exact h
theorem kids_app {w : World} {S : Nat → Prop} {ks ls : List SX} {xs ys : List Value} (h : Kids w S ks xs) (hx : xs.length = ks.length * 5) (h' : Kids w S ls ys) : Kids w S (ks ++ ls) (xs ++ ys) := by
  intro i t hi
  by_cases hlt : i < ks.length
  · rw [List.getElem?_append_left hlt] at hi
    have := h i t hi
    rwa [List.drop_append_of_le_length (by omega), List.take_append_of_le_length (by rw [List.length_drop]; omega)]
  · rw [List.getElem?_append_right (by omega)] at hi
    have := h' _ t hi
    rw [List.drop_append, List.drop_of_length_le (by omega), List.nil_append, hx]
    rwa [show i * 5 - ks.length * 5 = (i - ks.length) * 5 by omega]
section
variable {o : Oper} {a : Act} {V : World} {K : Act → World → Prop} {Q : Exit → Act → World → Prop}
theorem op_sx2 (x1 x2 : Operand) {u0 u1 u2 u3 u4 v0 v1 v2 v3 v4 : Value} (h1 : a.eval x1 = .agg #[u0, u1, u2, u3, u4]) (h2 : a.eval x2 = .agg #[v0, v1, v2, v3, v4]) (ho : o.op = .buildSlice 32 2 #[(0, x1), (1, x2)])
    (hK : K (a.put o.dst (.slice (some ⟨V.heap.size, 0, none⟩) 2 2)) (V.alloc (.cells #[u0, u1, u2, u3, u4, v0, v1, v2, v3, v4] 34))) : o.wp Tryz.prog a V K Q := by
  obtain ⟨ib, hib, e0, e1, e2⟩ := info_parts infoSexp
  refine wp_buildSlice 32 34 2 _ ho #[u0, u1, u2, u3, u4, v0, v1, v2, v3, v4] ib _ Tryz.underlying32 hib e0 (by rw [e1]; decide) (by rw [e1]; decide) (by rw [e1]; simp only [List.map_toArray, List.map_cons, List.map_nil, h1, h2]; kernel_rfl) hK
theorem op_sx3 (x1 x2 x3 : Operand) {u0 u1 u2 u3 u4 v0 v1 v2 v3 v4 r0 r1 r2 r3 r4 : Value} (h1 : a.eval x1 = .agg #[u0, u1, u2, u3, u4]) (h2 : a.eval x2 = .agg #[v0, v1, v2, v3, v4]) (h3 : a.eval x3 = .agg #[r0, r1, r2, r3, r4]) (ho : o.op = .buildSlice 32 3 #[(0, x1), (1, x2), (2, x3)])
    (hK : K (a.put o.dst (.slice (some ⟨V.heap.size, 0, none⟩) 3 3)) (V.alloc (.cells #[u0, u1, u2, u3, u4, v0, v1, v2, v3, v4, r0, r1, r2, r3, r4] 34))) : o.wp Tryz.prog a V K Q := by
  obtain ⟨ib, hib, e0, e1, e2⟩ := info_parts infoSexp
  refine wp_buildSlice 32 34 3 _ ho #[u0, u1, u2, u3, u4, v0, v1, v2, v3, v4, r0, r1, r2, r3, r4] ib _ Tryz.underlying32 hib e0 (by rw [e1]; decide) (by rw [e1]; decide) (by rw [e1]; simp only [List.map_toArray, List.map_cons, List.map_nil, h1, h2, h3]; kernel_rfl) hK
end
theorem sls_lit {Sd : Nat → Prop} {B : Nat} {V : World} {ks : List SX} {xs : List Value} (hB : B ≤ V.heap.size) (hl : xs.length = ks.length * 5) (hn : ks.length ≤ 1000) (hk : Kids V (fun b => Sd b ∨ B ≤ b) ks xs) :
    SlS Sd B ks (.slice (some ⟨V.heap.size, 0, none⟩) ks.length ks.length) (V.alloc (.cells xs.toArray 34)) := by
  refine ⟨_, _, _, xs, rfl, Nat.le_refl _, by omega, rfl, ⟨hl, fun _ => ⟨_, rfl, hB, fun j u hj => ?_⟩⟩, fun i t hi => (hk i t hi).old (below_new _ _)⟩
  rw [show (⟨V.heap.size, 0, none⟩ : Addr).add j = ⟨V.heap.size, j, none⟩ from by unfold Addr.add; split <;> simp_all]
  rw [Lib.cell_of_heap (heap_alloc_new V _)]
  simpa using hj
theorem sls_lit1 {Sd : Nat → Prop} {B : Nat} {V : World} {t : SX} {a b c d e : Value} (hB : B ≤ V.heap.size) (h : SIn V (fun b => Sd b ∨ B ≤ b) t [a, b, c, d, e]) : SlS Sd B [t] (.slice (some ⟨V.heap.size, 0, none⟩) 1 1) (V.alloc (.cells #[a, b, c, d, e] 34)) :=
  sls_lit (ks := [t]) hB rfl (by simp) (kids_one h)
theorem sls_lit2 {Sd : Nat → Prop} {B : Nat} {V : World} {t t' : SX} {a b c d e a' b' c' d' e' : Value} (hB : B ≤ V.heap.size) (h : SIn V (fun b => Sd b ∨ B ≤ b) t [a, b, c, d, e]) (h' : SIn V (fun b => Sd b ∨ B ≤ b) t' [a', b', c', d', e']) :
    SlS Sd B [t, t'] (.slice (some ⟨V.heap.size, 0, none⟩) 2 2) (V.alloc (.cells #[a, b, c, d, e, a', b', c', d', e'] 34)) :=
  sls_lit (ks := [t, t']) hB rfl (by simp) (kids_app (kids_one h) rfl (kids_one h'))
theorem sls_lit3 {Sd : Nat → Prop} {B : Nat} {V : World} {t t' t2 : SX} {a b c d e a' b' c' d' e' a2 b2 c2 d2 e2 : Value} (hB : B ≤ V.heap.size) (h : SIn V (fun b => Sd b ∨ B ≤ b) t [a, b, c, d, e]) (h' : SIn V (fun b => Sd b ∨ B ≤ b) t' [a', b', c', d', e']) (h2 : SIn V (fun b => Sd b ∨ B ≤ b) t2 [a2, b2, c2, d2, e2]) :
    SlS Sd B [t, t', t2] (.slice (some ⟨V.heap.size, 0, none⟩) 3 3) (V.alloc (.cells #[a, b, c, d, e, a', b', c', d', e', a2, b2, c2, d2, e2] 34)) :=
  sls_lit (ks := [t, t', t2]) hB rfl (by simp) (kids_app (kids_one h) rfl (kids_app (kids_one h') rfl (kids_one h2)))
theorem slo_nil {Sd : Nat → Prop} {B : Nat} {V : World} (hB : B ≤ V.heap.size) : SlO Sd B [] (.slice (some ⟨V.heap.size, 0, none⟩) 0 0) (V.alloc (.cells #[] 34)) := by
  refine ⟨0, [], rfl, ⟨rfl, .inr ⟨V.heap.size, 0, #[], rfl, hB, heap_alloc_new V _, Nat.le_refl _, by unfold maxLen; omega, rfl, rfl⟩⟩, fun i t h => by simp at h⟩
section
variable {o : Oper} {a : Act} {V : World} {K : Act → World → Prop} {Q : Exit → Act → World → Prop}
theorem op_app0 {Sd : Nat → Prop} {B B' g m : Nat} {ks : List SX} {v : Value} (x y : Operand) (hB : B ≤ V.heap.size) (hx : a.eval x = .slice (some ⟨g, 0, none⟩) 0 0) (hox : SlO Sd B [] (.slice (some ⟨g, 0, none⟩) 0 0) V)
    (hy : a.eval y = v) (hsy : SlS Sd B' ks v V) (hB' : ∀ b, B' ≤ b → Sd b ∨ B ≤ b) (hm : ks.length = m) (h0 : 0 < m) (hfit : Builtin.nextslicecap (0 + m) 0 * 80 ≤ 281474976710656) (h3 : m ≤ 1000)
    (ho : o.op = .call { callee := .builtin .append, args := #[x, y], argTypes := #[32, 32] })
    (hK : ∀ v' V', Below V.heap.size V V' → SlO Sd B ks v' V' → K (a.put o.dst v') V') : o.wp Tryz.prog a V K Q := by
  obtain ⟨ib, hib, e0, e1, e2⟩ := info_parts infoSexp
  obtain ⟨A, n, c, ys, rfl, c1, c2, c3, c4, c5⟩ := hsy
  obtain rfl : n = m := by omega
  obtain ⟨n0, xs, d1, d2, d3⟩ := hox
  obtain rfl : n0 = 0 := d1.symm
  obtain rfl : xs = [] := List.eq_nil_of_length_eq_zero (by simpa using d2.1)
  obtain ⟨ad, rfl, _, hcell⟩ := c4.2 h0
  have hrun := run_append_grow V 32 o.type 34 ib _ Tryz.underlying32 hib e0 ⟨g, 0, none⟩ 0 0 [] (by simp) (fun j v hj => by simp at hj) ad n c ys (by rw [e1]; exact c4.1) hcell (by omega) (by omega) (by rw [e2]; exact hfit)
  obtain ⟨v', w', hr2, hown, hgr, hblk⟩ := run_append_any (P := Tryz.prog) V B 32 o.type 34 ib _ 5 80 Tryz.underlying32 hib e0 e1 e2 rfl (by omega) _ 0 [] d2 V.heap.size (some ad) n c ys (c4.reads (by omega)) (one_cells (c4.more (S' := fun b => Sd b ∨ B' ≤ b) fun _ h => .inr h) c3 c5) (by unfold maxLen; omega) (by omega) hB
  rw [hrun] at hr2
  injection hr2 with hv hw
  subst hv hw
  have hb := ((Below.refl V.heap.size V).drew).alloc (Nat.le_refl _) (.cells (([] : List Value).toArray ++ ys.toArray ++ Builtin.zeroCells (Value.agg #[Value.bool false, Value.bool false, Value.slice none 0 0, Value.slice none 0 0, Value.slice none 0 0]).cells (grownCap V (0 + n) 0 34 - (0 + n))) 34)
  unfold Oper.wp execOp
  simp only [ho, resolve, invoke, builtin, Sem.run_bind, Sem.run_pure, Result.andThen_ok, List.map_toArray, List.map_cons, List.map_nil, hx, hy, hrun]
  refine hK _ _ hb ⟨0 + n, ys, by omega, by simpa using hown, fun i t hi => ((c5 i t hi).size_.old hb).more fun b hb => ⟨hb.1.elim .inl fun h => hB' b h, fun e => ?_⟩⟩
  have e : some b = some V.heap.size := e
  injection e with e
  have := hb.2
  omega
end
theorem slo_app {Sd S0 : Nat → Prop} {B B2 n m : Nat} {ks ls : List SX} {v v' : Value} {V w' : World} {xs ys : List Value} (hk : ks.length = n) (h2 : V.ownsRow B 34 5 v n xs)
    (h3 : Kids V (fun b => (Sd b ∨ B ≤ b) ∧ some b ≠ v.ownBlock) ks xs) (hl : ls.length = m) (hy : Kids V (fun b => S0 b ∨ B2 ≤ b) ls ys) (hS : ∀ b, S0 b → Sd b ∧ b < B) (hB : B ≤ B2) (ho : ∀ g, v.ownBlock = some g → g < B2)
    (hown : w'.ownsRow B 34 5 v' (n + m) (xs ++ ys)) (hgr : V.grownBy w' v.ownBlock) (hb : v'.ownBlock = v.ownBlock ∨ v'.ownBlock = some V.heap.size) : SlO Sd B (ks ++ ls) v' w' := by
  have hlt := h2.lt
  refine ⟨n + m, xs ++ ys, by rw [List.length_append]; omega, hown, kids_app (fun i t hi => ?_) (by rw [h2.1]; omega) (fun i t hi => ?_)⟩
  · refine (((h3 i t hi).size_).grown hgr fun b hb => hb.1.2).more fun b hb2 => ⟨hb2.1.1, ?_⟩
    rcases hb with e | e
    · rw [e]; exact hb2.1.2
    · rw [e]; intro e2; injection e2 with e2; have := hb2.2; omega
  · have hne : ∀ b, (S0 b ∨ B2 ≤ b) → some b ≠ v.ownBlock := by
      intro b hb2 e
      have h1 := (hlt b e.symm).1
      have h2 := ho b e.symm
      rcases hb2 with h | h
      · have := (hS b h).2; omega
      · omega
    refine (((hy i t hi).size_).grown hgr fun b hb => hne b hb.1).more fun b hb2 => ⟨hb2.1.elim (fun h => .inl (hS b h).1) fun h => .inr (by omega), ?_⟩
    rcases hb with e | e
    · rw [e]; exact hne b hb2.1
    · rw [e]; intro e2; injection e2 with e2; have := hb2.2; omega
theorem sIn_atomD {w : World} {Sd : Nat → Prop} {B : Nat} {A : Option Addr} {n c : Nat} {l : List UInt8} (h : RIn w Sd 1 A n (Lib.byteCells l)) (hc : n ≤ c) (hn : n ≤ 140737488355328) : SIn w (fun b => Sd b ∨ B ≤ b) (atom l) [.bool false, .bool false, .slice none 0 0, .slice A n c, .slice none 0 0] :=
  .mk (xs := []) RIn.none_ ⟨Nat.le_refl _, by omega⟩ (h.more fun _ hb => .inl hb) ⟨hc, hn⟩ RIn.none_ ⟨Nat.le_refl _, by omega⟩ rfl (fun i t h => by simp at h)
theorem refAtom_sx {Sd : Nat → Prop} {B : Nat} (l : List UInt8) (w : World) (hl : l.length ≤ 140737488355328) (hB : B ≤ w.heap.size) :
    Calls Tryz.prog 32 #[.string (bT l)] w fun e w' => ∃ v, e = .returned v ∧ SxV Sd B (atom l) v w' ∧ Below w.heap.size w w' := by
  refine (refAtom_any (bT l) w (by rw [bT_size]; exact hl)).mono ?_
  rintro e w' ⟨v0, v1, v2, v3, v4, rfl, hin, hb⟩
  exact ⟨_, rfl, ⟨v0, v1, v2, v3, v4, rfl, hin.more fun b hb => .inr (by omega)⟩, hb⟩
def wordB (p : Bool) (wd : UInt8) : List UInt8 := if p then [wd] else [wd, 101]
set_option maxHeartbeats 4000000 in
theorem refBound_any (i p : Bool) (l : List UInt8) (wd : UInt8) (A : Option Addr) (n c : Nat) (Sd : Nat → Prop) (B : Nat) (w : World) (hB : B ≤ w.heap.size) (hr : RIn w Sd 1 A n (Lib.byteCells l)) (hc : n ≤ c) (hn : n ≤ 140737488355328) :
    Calls Tryz.prog 34 #[.agg #[.bool i, .bool p, .slice A n c], .string (bT [wd])] w fun e w' => ∃ v, e = .returned v ∧ SlS Sd B (boundV ⟨i, p, l⟩ wd) v w' ∧ Below w.heap.size w w' := by
  obtain ⟨w0, hw0⟩ : ∃ w0, w0 = (w.alloc (.cells #[.bool i, .bool p, .slice A n c] 25)) := ⟨_, rfl⟩
  have hb0 : Below w.heap.size w w0 := by
    rw [hw0]
    exact below_new _ _
  have X0 : Hid (∀ W, Below w0.heap.size w0 W → ∀ k' u, (#[.bool i, .bool p, .slice A n c] : Array Value)[k']? = some u → W.cell? ⟨w.heap.size, k', none⟩ = some u) := by
    intro W hW k' u hk
    have B0 : Blk w0 w.heap.size 25 #[.bool i, .bool p, .slice A n c] := by
      rw [hw0]
      exact Blk.new w 25 #[.bool i, .bool p, .slice A n c]
    exact cell_below hW ((B0.cell k').trans hk) B0.lt
  have HRD := hid (hr.old (by omega) hb0)
  have HB0 := hid hb0
  have HR : Below w0.heap.size w0 w0 := Below.refl _ _
  have hB0 : B ≤ w0.heap.size := Nat.le_trans hB hb0.size
  have hws : (bT [wd] ++ (⟨#[101]⟩ : ByteArray)) = bT [wd, 101] := by apply ByteArray.ext; simp [bT]
  have hsz : (bT [wd]).size = 1 := by rw [bT_size]; rfl
  generalize hbw : bT [wd] = BW at hws hsz ⊢
  have HWS := hid hws
  have HBW := hid hbw
  clear hr hb0 hws hbw
  go_enter Tryz.func34, Tryz.ntmps34
  go_upto_region 1 with fail
  rw [← hw0]
  clear hw0
  have x0_0 := X0.out _ HR 0 _ rfl
  have x0_1 := X0.out _ HR 1 _ rfl
  have x0_2 := X0.out _ HR 2 _ rfl
  cases i with
  | false =>
    go_wp2_with fail
    go_ret
    exact ⟨_, rfl, ⟨_, 0, 0, [], rfl, Nat.le_refl _, by omega, rfl, ⟨rfl, fun h => absurd h (by omega)⟩, fun i t h => by simp [boundV] at h⟩, HB0.out.trans ((below_new _ _).mono HB0.out.size)⟩
  | true =>
    have hwl : (wordB p wd).length ≤ 140737488355328 := by cases p <;> simp [wordB]
    have HW1 : Hid (if p then BW = bT (wordB p wd) else BW ++ (⟨#[101]⟩ : ByteArray) = bT (wordB p wd)) := by
      cases p
      · exact HWS.out
      · exact HBW.out.symm
    have HBV : Hid (boundV ⟨true, p, l⟩ wd = [atom (wordB p wd), atom l]) := rfl
    generalize wordB p wd = W1 at hwl HW1 HBV
    cases p
    case false =>
      go_upto_region 5 with fail
      have hw1 := HW1.out
      simp only [if_true, Bool.false_eq_true, if_false] at hw1
      rw [hw1]
      clear hw1
      try simp only [Act.put]
      refine wp_R [14, 15, 16, 17, 18, 19] [Rk.val (.string (bT W1)), Rk.is (fun v V => SxV Sd B (atom W1) v V) (fun _ _ _ h hb => h.old hb), Rk.val (.pointer (some ⟨w.heap.size, 2, none⟩)), Rk.val (.slice A n c), Rk.val (.agg #[.bool false, .bool false, .slice none 0 0, .slice A n c, .slice none 0 0]), Rk.is (fun v V => SlS Sd B [atom W1, atom l] v V) (fun _ _ _ h hb => h.old hb)] rfl (by kernel_rfl) (by kernel_rfl) (by kernel_rfl) (by kernel_rfl) ?hgfalse _ (by rfl) ?hffalse
      case hgfalse =>
        refine gr_val rfl (by kernel_rfl) (fun a V H K Q hK => op_quiet (quiet_move (.tmp 1) (H.old 1 (by kernel_rfl) (by kernel_rfl)) (.inl (by kernel_rfl))) hK) ?_
        refine gr_is rfl (by kernel_rfl) (fun a V H K Q hK => op_callR #[.tmp 14] #[.string (bT W1)] (by kernel_rfl) (by kernel_rfl) (by kernel_rfl) (map1 (H.rel 0 14 (by kernel_rfl) (by kernel_rfl) rfl)) (refAtom_sx W1 V hwl (Nat.le_trans hB0 H.frame.size)) (by kernel_rfl) hK) ?_
        refine gr_val rfl (by kernel_rfl) (fun a V H K Q hK => op_quiet (quiet_fld _ (.tmp 2) 2 _ _ (H.old 2 (by kernel_rfl) (by kernel_rfl)) (fB2 _ 0) (by kernel_rfl)) hK) ?_
        refine gr_val rfl (by kernel_rfl) (fun a V H K Q hK => op_quiet (quiet_cell _ (.tmp 16) _ (H.rel 2 16 (by kernel_rfl) (by kernel_rfl) rfl) Tryz.underlying22 rfl (X0.out _ H.frame 2 _ rfl) (by kernel_rfl)) hK) ?_
        refine gr_val rfl (by kernel_rfl) (fun a V H K Q hK => op_quiet (quiet_bld 34 _ _ (bld1 (a := 3) (H.rel 3 17 (by kernel_rfl) (by kernel_rfl) rfl)) #[.bool false, .bool false, .slice none 0 0, .slice A n c, .slice none 0 0] (by kernel_rfl) (by kernel_rfl)) hK) ?_
        refine gr_is rfl (by kernel_rfl) (fun a V H K Q hK => by
            obtain ⟨v0, v1, v2, v3, v4, e15, h15⟩ := (show SxV Sd B (atom W1) (a.eval (.tmp 15)) V from (H.rel 1 15 (by kernel_rfl) (by kernel_rfl) rfl))
            refine op_sx2 (.tmp 15) (.tmp 18) e15 (H.rel 4 18 (by kernel_rfl) (by kernel_rfl) rfl) (by kernel_rfl) (hK _ _ (below_new _ _) ?_)
            exact sls_lit2 (Nat.le_trans hB0 H.frame.size) h15 (sIn_atomD (HRD.out.old (by omega) H.frame) hc hn)) ?_
        exact gr_nil
      case hffalse =>
        intro x V hF
        have ev0 : x 0 = .string (bT W1) := hF.rel 0 _ rfl
        have rv1 := hF.rel 1 _ rfl
        generalize hy1 : x 1 = y1 at rv1 ⊢
        have ev2 : x 2 = .pointer (some ⟨w.heap.size, 2, none⟩) := hF.rel 2 _ rfl
        have ev3 : x 3 = .slice A n c := hF.rel 3 _ rfl
        have ev4 : x 4 = .agg #[.bool false, .bool false, .slice none 0 0, .slice A n c, .slice none 0 0] := hF.rel 4 _ rfl
        have rv5 := hF.rel 5 _ rfl
        generalize hy5 : x 5 = y5 at rv5 ⊢
        have hbf := hF.frame
        clear hF
        simp only [Sch.finL, zA, zB, zC, ev0, hy1, ev2, ev3, ev4, hy5]
        clear ev0 hy1 ev2 ev3 ev4 hy5
        have HBF := hid (HB0.out.trans (hbf.mono HB0.out.size))
        have RV := hid rv5
        clear rv1 rv5 hbf
        go_wp2_with fail
        go_ret
        exact ⟨_, rfl, by rw [HBV.out]; exact RV.out, HBF.out⟩
    case true =>
      go_upto_region 5 with fail
      have hw1 := HW1.out
      simp only [if_true, Bool.false_eq_true, if_false] at hw1
      rw [hw1]
      clear hw1
      try simp only [Act.put]
      refine wp_R [14, 15, 16, 17, 18, 19] [Rk.val (.string (bT W1)), Rk.is (fun v V => SxV Sd B (atom W1) v V) (fun _ _ _ h hb => h.old hb), Rk.val (.pointer (some ⟨w.heap.size, 2, none⟩)), Rk.val (.slice A n c), Rk.val (.agg #[.bool false, .bool false, .slice none 0 0, .slice A n c, .slice none 0 0]), Rk.is (fun v V => SlS Sd B [atom W1, atom l] v V) (fun _ _ _ h hb => h.old hb)] rfl (by kernel_rfl) (by kernel_rfl) (by kernel_rfl) (by kernel_rfl) ?hgtrue _ (by rfl) ?hftrue
      case hgtrue =>
        refine gr_val rfl (by kernel_rfl) (fun a V H K Q hK => op_quiet (quiet_move (.tmp 1) (H.old 1 (by kernel_rfl) (by kernel_rfl)) (.inl (by kernel_rfl))) hK) ?_
        refine gr_is rfl (by kernel_rfl) (fun a V H K Q hK => op_callR #[.tmp 14] #[.string (bT W1)] (by kernel_rfl) (by kernel_rfl) (by kernel_rfl) (map1 (H.rel 0 14 (by kernel_rfl) (by kernel_rfl) rfl)) (refAtom_sx W1 V hwl (Nat.le_trans hB0 H.frame.size)) (by kernel_rfl) hK) ?_
        refine gr_val rfl (by kernel_rfl) (fun a V H K Q hK => op_quiet (quiet_fld _ (.tmp 2) 2 _ _ (H.old 2 (by kernel_rfl) (by kernel_rfl)) (fB2 _ 0) (by kernel_rfl)) hK) ?_
        refine gr_val rfl (by kernel_rfl) (fun a V H K Q hK => op_quiet (quiet_cell _ (.tmp 16) _ (H.rel 2 16 (by kernel_rfl) (by kernel_rfl) rfl) Tryz.underlying22 rfl (X0.out _ H.frame 2 _ rfl) (by kernel_rfl)) hK) ?_
        refine gr_val rfl (by kernel_rfl) (fun a V H K Q hK => op_quiet (quiet_bld 34 _ _ (bld1 (a := 3) (H.rel 3 17 (by kernel_rfl) (by kernel_rfl) rfl)) #[.bool false, .bool false, .slice none 0 0, .slice A n c, .slice none 0 0] (by kernel_rfl) (by kernel_rfl)) hK) ?_
        refine gr_is rfl (by kernel_rfl) (fun a V H K Q hK => by
            obtain ⟨v0, v1, v2, v3, v4, e15, h15⟩ := (show SxV Sd B (atom W1) (a.eval (.tmp 15)) V from (H.rel 1 15 (by kernel_rfl) (by kernel_rfl) rfl))
            refine op_sx2 (.tmp 15) (.tmp 18) e15 (H.rel 4 18 (by kernel_rfl) (by kernel_rfl) rfl) (by kernel_rfl) (hK _ _ (below_new _ _) ?_)
            exact sls_lit2 (Nat.le_trans hB0 H.frame.size) h15 (sIn_atomD (HRD.out.old (by omega) H.frame) hc hn)) ?_
        exact gr_nil
      case hftrue =>
        intro x V hF
        have ev0 : x 0 = .string (bT W1) := hF.rel 0 _ rfl
        have rv1 := hF.rel 1 _ rfl
        generalize hy1 : x 1 = y1 at rv1 ⊢
        have ev2 : x 2 = .pointer (some ⟨w.heap.size, 2, none⟩) := hF.rel 2 _ rfl
        have ev3 : x 3 = .slice A n c := hF.rel 3 _ rfl
        have ev4 : x 4 = .agg #[.bool false, .bool false, .slice none 0 0, .slice A n c, .slice none 0 0] := hF.rel 4 _ rfl
        have rv5 := hF.rel 5 _ rfl
        generalize hy5 : x 5 = y5 at rv5 ⊢
        have hbf := hF.frame
        clear hF
        simp only [Sch.finL, zA, zB, zC, ev0, hy1, ev2, ev3, ev4, hy5]
        clear ev0 hy1 ev2 ev3 ev4 hy5
        have HBF := hid (HB0.out.trans (hbf.mono HB0.out.size))
        have RV := hid rv5
        clear rv1 rv5 hbf
        go_wp2_with fail
        go_ret
        exact ⟨_, rfl, by rw [HBV.out]; exact RV.out, HBF.out⟩
end Go.Proofs.YtinlonpcakkfhaaGreatDoor
end
section
set_option maxRecDepth 100000
namespace Go.Proofs.YtinlonpcakkfhaaGreatDoor
open Go Go.Proofs Go.RowKit Sx _root_.Ord11 Go.Proofs.YtinlonpcakkfhaaGreatDoor.Ord11 _root_.Tag12 Sch
def RowS (w : World) (S : Nat → Prop) (ks : List SX) (A : Option Addr) (n c : Nat) : Prop :=
  ∃ xs, n ≤ c ∧ n * 80 ≤ 140737488355328 ∧ ks.length = n ∧ RIn w S 5 A n xs ∧ Kids w S ks xs
theorem RowS.old {w w' : World} {S : Nat → Prop} {ks : List SX} {A : Option Addr} {n c : Nat} (h : RowS w S ks A n c) (hb : Below w.heap.size w w') : RowS w' S ks A n c := by
  obtain ⟨xs, h1, h2, h3, h4, h5⟩ := h
  exact ⟨xs, h1, h2, h3, h4.old (by omega) hb, fun i t hi => (h5 i t hi).old hb⟩
theorem RowS.nil {w : World} {S : Nat → Prop} : RowS w S [] none 0 0 := ⟨[], Nat.le_refl _, by omega, rfl, RIn.none_, fun i t h => by simp at h⟩
theorem RowS.len {w : World} {S : Nat → Prop} {ks : List SX} {A : Option Addr} {n c : Nat} (h : RowS w S ks A n c) : ks.length = n ∧ n ≤ c ∧ n * 80 ≤ 140737488355328 := by
  obtain ⟨xs, h1, h2, h3, h4, h5⟩ := h
  exact ⟨h3, h1, h2⟩
theorem SIn.rowS {w : World} {S : Nat → Prop} {l h l' h' : Bool} {hi da : List UInt8} {ks : List SX} {V1 V2 : Value} {A3 : Option Addr} {n3 c3 : Nat}
    (hs : SIn w S (.mk l h hi da ks) [.bool l', .bool h', V1, V2, .slice A3 n3 c3]) : RowS w S ks A3 n3 c3 := by
  cases hs with
  | mk h1 b1 h2 b2 h3 b3 hk hs => exact ⟨_, b3.1, b3.2, hk, h3, hs⟩
theorem RowS.at_ {w : World} {S : Nat → Prop} {ks : List SX} {A : Option Addr} {n c : Nat} (h : RowS w S ks A n c) {k : Nat} (hlt : k < n) :
    ∃ ad v0 v1 v2 v3 v4 t, A = some ad ∧ S ad.block ∧ ks[k]? = some t ∧ t ∈ ks ∧ SIn w S t [v0, v1, v2, v3, v4] ∧
      w.cell? (ad.add (k * 5)) = some v0 ∧ w.cell? ⟨(ad.add (k * 5)).block, (ad.add (k * 5)).off + 1, none⟩ = some v1 ∧ w.cell? ⟨(ad.add (k * 5)).block, (ad.add (k * 5)).off + 2, none⟩ = some v2 ∧
      w.cell? ⟨(ad.add (k * 5)).block, (ad.add (k * 5)).off + 3, none⟩ = some v3 ∧ w.cell? ⟨(ad.add (k * 5)).block, (ad.add (k * 5)).off + 4, none⟩ = some v4 := by
  obtain ⟨xs, h1, h2, h3, h4, h5⟩ := h
  obtain ⟨ad, v0, v1, v2, v3, v4, rfl, hS, hcs, d0, d1, d2, d3, d4⟩ := h4.at5 hlt
  have hkl : k < ks.length := by omega
  have := h5 k ks[k] (List.getElem?_eq_getElem hkl)
  rw [hcs] at this
  exact ⟨ad, v0, v1, v2, v3, v4, ks[k], rfl, hS, List.getElem?_eq_getElem hkl, List.getElem_mem hkl, this, d0, d1, d2, d3, d4⟩
theorem RowS.drop {w : World} {S : Nat → Prop} {ks : List SX} {A : Option Addr} {n c : Nat} (h : RowS w S ks A n c) {k : Nat} (hlt : k ≤ n) : RowS w S (ks.drop k) (if c = k then A else A.map (·.add (k * 5))) (n - k) (c - k) := by
  obtain ⟨xs, h1, h2, h3, h4, h5⟩ := h
  refine ⟨xs.drop (k * 5), by omega, by omega, by rw [List.length_drop]; omega, ⟨by rw [List.length_drop, h4.1, Nat.sub_mul], fun hn => ?_⟩, fun i t hi => ?_⟩
  · obtain ⟨ad', rfl, hb, hc⟩ := h4.2 (by omega)
    rw [if_neg (by omega)]
    refine ⟨_, rfl, by rw [block_of_add]; exact hb, fun j u hu => ?_⟩
    rw [List.getElem?_drop] at hu
    rw [add_of_add]
    exact hc _ u hu
  · rw [List.getElem?_drop] at hi
    have := h5 _ t hi
    rwa [List.drop_drop, show k * 5 + i * 5 = (k + i) * 5 by omega]
theorem endV_cons (v : SX) (r : List SX) (w : UInt8) : endV (v :: r) w = if (isA v [w] || isA v [w, 101]) = true then (match r with | .mk false false _ d _ :: q => some (⟨true, isA v [w], d⟩, q) | _ => none) else some (zeroB, v :: r) := rfl
section
variable {P : Program} {o : Oper} {ev : Operand → Value} {V : World}
theorem quiet_indexN (x y : Operand) (ad : Addr) (n c i s : Nat) (T e : TypeId) (hx : ev x = .slice (some ad) n c) (hy : ev y = .int .i64 (i : Int)) (hi : i < n) (hu : P.underlying T = some (.slice e)) (hs : (P.info? e).map (·.size) = some s) (ho : o.op = .indexAddr T x y) : (execOp ev o).run P V = .ok (.value (.pointer (some (ad.add (i * s))))) V := by
  obtain ⟨inf, hinf, hs2⟩ : ∃ q, P.info? e = some q ∧ q.size = s := by
    cases hq : P.info? e with
    | none => rw [hq] at hs; cases hs
    | some q => rw [hq] at hs; exact ⟨q, rfl, by simpa using hs⟩
  unfold execOp
  simp only [ho, hx, hy]
  have h2 : (i : Int) < (n : Int) := by omega
  simp [Instr.indexAt, asIntOf, run_underlying hu, Result.andThen, sizeOf, typeInfo, hinf, hs2, h2, hi]
theorem quiet_sliceL (x y : Operand) (A A' : Option Addr) (n c i s : Nat) (T e : TypeId) (hx : ev x = .slice A n c) (hy : ev y = .int .i64 (i : Int)) (hi : i ≤ n) (hu : P.underlying T = some (.slice (P.elem T))) (hs : (P.info? (P.elem T)).map (·.size) = some s) (hA : (if c = i then A else A.map (·.add (i * s))) = A') (ho : o.op = .slice T x (some y) none none) : (execOp ev o).run P V = .ok (.value (.slice A' (n - i) (c - i))) V := by
  subst hA
  obtain ⟨inf, hinf, hs2⟩ : ∃ q, P.info? (P.elem T) = some q ∧ q.size = s := by
    cases hq : P.info? (P.elem T) with
    | none => rw [hq] at hs; cases hs
    | some q => rw [hq] at hs; exact ⟨q, rfl, by simpa using hs⟩
  unfold execOp
  simp only [ho, hx, hy, Option.map_some, Option.map_none]
  rw [Sem.run_bind, run_sliceAt_slice _ _ _ _ _ _ hu, run_slice_l V T A n c hu .i64 (i : Int) (by omega) (by omega)]
  simp [sizeOf, typeInfo, hinf, hs2, Result.andThen, sliced]
end
def EndA (a : Option (Bd × List SX)) (S : Nat → Prop) (v : Value) (w : World) : Prop :=
  ∃ (x : Bd) (q : List SX) (A : Option Addr) (n c : Nat) (A2 : Option Addr) (n2 c2 : Nat), v = .tuple #[.agg #[.bool x.is, .bool x.op, .slice A n c], .slice A2 n2 c2, .bool a.isSome] ∧ (∀ y, a = some y → y = (x, q)) ∧
    RIn w S 1 A n (Lib.byteCells x.at_) ∧ n ≤ c ∧ n ≤ 140737488355328 ∧ RowS w S q A2 n2 c2
theorem results_cell_tmps {fn : Func} {p u z : Tmp} {ty : TypeId} {P : Program} (h : fn.results = #[.cell p ty, .tmp u, .tmp z]) (tmps : Array Value) (w : World) (g : Nat) (t : TypeId) (cs : Array Value) (v v2 : Value) (d : TypeDesc)
    (hp : tmps.getD p undef = .pointer (some ⟨g, 0, none⟩)) (hv : tmps.getD u undef = v) (hz : tmps.getD z undef = v2) (hg : Blk w g t cs) (hu : P.underlying ty = some d) (hd : isRowB d = true) (hi : (P.info? ty).map (·.size) = some cs.size) :
    (results fn tmps).run P w = .ok (.tuple #[.agg cs, v, v2]) w := by
  have hl := run_loadVar_row w g t ty cs (0, 0) d hg hu (by cases d <;> simp_all [isRowB]) hi
  unfold results
  rw [h]
  rw [Array.getD_eq_getD_getElem?] at hp hv hz
  simp [hp, hv, hz, asAddr, Sem.run_bind, Result.andThen, hl]
theorem infoBound : (Tryz.prog.info? 25).map (·.size) = some 3 := by kernel_rfl
set_option maxHeartbeats 8000000 in
theorem refEnd12_any (l : List SX) (wd : UInt8) (w : World) (S : Nat → Prop) (A : Option Addr) (n c : Nat) (hs : RowS w S l A n c) :
    Calls Tryz.prog 84 #[.slice A n c, .string (bT [wd])] w fun e w' => ∃ v, e = .returned v ∧ EndA (endV l wd) S v w' ∧ Below w.heap.size w w' := by
  obtain ⟨hl, hc, hm⟩ := hs.len
  obtain ⟨ea, hea⟩ : ∃ e, e = endV l wd := ⟨_, rfl⟩
  rw [← hea]
  have HE := hid hea
  clear hea
  obtain ⟨w0, hw0⟩ : ∃ w0, w0 = (w.alloc (.cells #[.bool false, .bool false, .slice none 0 0] 25)) := ⟨_, rfl⟩
  have HB0 : Hid (Below w.heap.size w w0) := by
    show Below _ _ _
    rw [hw0]
    exact below_new _ _
  have KZ : Hid (∀ W, Below w0.heap.size w0 W → Blk W w.heap.size 25 #[.bool false, .bool false, .slice none 0 0]) := by
    intro W hW
    refine Blk.old (w := w0) ?_ hW
    rw [hw0]
    exact Blk.new w 25 #[.bool false, .bool false, .slice none 0 0]
  have HR : Below w0.heap.size w0 w0 := Below.refl _ _
  have HS := hid hs
  have HL := hid hl
  have hone : Hid ((#[.bool false, .bool false, .slice none 0 0] : Array Value).all (·.oneCell') = true) := by show _ = _; simp [Value.oneCell']
  clear hs
  go_enter Tryz.func84, Tryz.ntmps84
  go_upto_region 1 with fail
  rw [← hw0]
  clear hw0
  by_cases h0 : n = 0
  · have h0B : ((n : Int) == 0) = true := by rw [beq_iff_eq]; omega
    have hl0 : l = [] := List.eq_nil_of_length_eq_zero (by omega)
    subst hl0 h0
    obtain rfl : ea = some (zeroB, []) := HE.out
    go_wp2_with (refine wpList_store_row rfl 25 (.tmp 4) (.tmp 12) rfl w.heap.size _ rfl rfl 25 #[.bool false, .bool false, .slice none 0 0] (KZ.out _ (by assumption)) infoBound rfl hone.out ?_)
    exact bodyPost_ret (results_cell_tmps Tryz.results84 _ _ w.heap.size 25 _ _ _ _ rfl rfl rfl ((KZ.out _ HR).row _) Tryz.underlying25 rfl infoBound) rfl ⟨_, rfl, ⟨zeroB, [], none, 0, 0, A, 0, c, rfl, by simp, RIn.none_, by omega, by omega, HS.out.old (below_row (next_below HB0.out HR) (Nat.le_refl _) _)⟩, below_row (next_below HB0.out HR) (Nat.le_refl _) _⟩
  · have h0B : ((n : Int) == 0) = false := by rw [beq_eq_false_iff_ne]; omega
    obtain ⟨ad, v0, v1, v2, v3, v4, t, rfl, hS0, ht0, -, hin, d0, d1, d2, d3, d4⟩ := (HS.out.old HB0.out).at_ (k := 0) (by omega)
    rw [Nat.zero_mul, show ad.add 0 = ad from if_pos rfl] at d0 d1 d2 d3 d4
    obtain ⟨b1, hb1⟩ : ∃ b, b = isA t [wd] := ⟨_, rfl⟩
    obtain ⟨b2, hb2⟩ : ∃ b, b = isA t [wd, 101] := ⟨_, rfl⟩
    have K1 : Hid (∀ W, Below w0.heap.size w0 W → Calls Tryz.prog 64 #[.agg #[v0, v1, v2, v3, v4], .string (bT [wd])] W fun e w' => e = .returned (.bool b1) ∧ Below W.heap.size W w') := fun W hW => by
      rw [hb1]; exact refIs_any t [wd] W S _ (hin.old hW)
    have K2 : Hid (∀ W, Below w0.heap.size w0 W → Calls Tryz.prog 64 #[.agg #[v0, v1, v2, v3, v4], .string (bT [wd, 101])] W fun e w' => e = .returned (.bool b2) ∧ Below W.heap.size W w') := fun W hW => by
      rw [hb2]; exact refIs_any t [wd, 101] W S _ (hin.old hW)
    obtain ⟨r, rfl⟩ : ∃ r, l = t :: r := by
      cases l with
      | nil => simp at ht0
      | cons y r => exact ⟨r, by simpa using ht0⟩
    have KC : Hid (∀ W, Below w0.heap.size w0 W → W.cell? ad = some v0 ∧ W.cell? ⟨ad.block, ad.off + 1, none⟩ = some v1 ∧ W.cell? ⟨ad.block, ad.off + 2, none⟩ = some v2 ∧ W.cell? ⟨ad.block, ad.off + 3, none⟩ = some v3 ∧ W.cell? ⟨ad.block, ad.off + 4, none⟩ = some v4) := by
      intro W hW
      have h := fun p u (h : w0.cell? p = some u) => (hW.cell (World.block_lt_of_cell? _ _ h)).trans h
      exact ⟨h _ _ d0, h _ _ d1, h _ _ d2, h _ _ d3, h _ _ d4⟩
    have hapB : (bT [wd] ++ (⟨#[101]⟩ : ByteArray)) = bT [wd, 101] := by rfl
    clear hS0 hin ht0
    have HB1 := hid hb1
    have HB2 := hid hb2
    clear hb1 hb2
    go_upto_region 5 with first | (go_at_call 64; (with_reducible refine (K1.out _ HR).mono ?_); rintro e w1 ⟨rfl, hq1⟩; obtain ⟨d0, d1, d2, d3, d4⟩ := KC.out _ hq1) | (go_at_call 64; (with_reducible refine (K2.out _ hq1).mono ?_); rintro e w2 ⟨rfl, hq⟩; have hq2 := next_below hq1 hq)
    clear d0 d1 d2 d3 d4 hq hq1 K1 K2 hapB
    by_cases hb : b1 = false ∧ b2 = false
    · obtain ⟨rfl, rfl⟩ := hb
      obtain rfl : ea = some (zeroB, t :: r) := by rw [HE.out, endV_cons, ← HB1.out, ← HB2.out]; rfl
      go_wp2_with (refine wpList_store_row rfl 25 (.tmp 4) (.tmp 31) rfl w.heap.size _ rfl rfl 25 #[.bool false, .bool false, .slice none 0 0] (KZ.out _ (by assumption)) infoBound rfl hone.out ?_)
      exact bodyPost_ret (results_cell_tmps Tryz.results84 _ _ w.heap.size 25 _ _ _ _ rfl rfl rfl ((KZ.out _ hq2).row _) Tryz.underlying25 rfl infoBound) rfl ⟨_, rfl, ⟨zeroB, t :: r, none, 0, 0, some ad, n, c, rfl, by simp, RIn.none_, by omega, by omega, HS.out.old (below_row (next_below HB0.out hq2) (Nat.le_refl _) _)⟩, below_row (next_below HB0.out hq2) (Nat.le_refl _) _⟩
    · have HBB : Hid ((b1 || b2) = true) := by
        show _ = _
        cases b1 <;> cases b2 <;> simp_all
      clear hb
      by_cases h1 : n < 2
      · have h1B : decide ((n : Int) < 2) = true := decide_eq_true (by omega)
        obtain rfl : r = [] := List.eq_nil_of_length_eq_zero (by simp at hl; omega)
        obtain rfl : ea = none := by rw [HE.out, endV_cons, ← HB1.out, ← HB2.out, HBB.out]; rfl
        clear hl
        cases b1 <;> cases b2
        · exact absurd HBB.out (by simp)
        all_goals
          go_wp2_with (refine wpList_store_row rfl 25 (.tmp 4) (.tmp 48) rfl w.heap.size _ rfl rfl 25 #[.bool false, .bool false, .slice none 0 0] (KZ.out _ (by assumption)) infoBound rfl hone.out ?_)
          exact bodyPost_ret (results_cell_tmps Tryz.results84 _ _ w.heap.size 25 _ _ _ _ rfl rfl rfl ((KZ.out _ hq2).row _) Tryz.underlying25 rfl infoBound) rfl ⟨_, rfl, ⟨zeroB, [t], none, 0, 0, some ad, n, c, rfl, by simp, RIn.none_, by omega, by omega, HS.out.old (below_row (next_below HB0.out hq2) (Nat.le_refl _) _)⟩, below_row (next_below HB0.out hq2) (Nat.le_refl _) _⟩
      · have h1B : decide ((n : Int) < 2) = false := decide_eq_false (by omega)
        obtain ⟨ad', u0, u1, u2, u3, u4, t2, e, hS0, ht0, -, hin, f0, f1, f2, f3, f4⟩ := HS.out.at_ (k := 1) (by omega)
        have hcw := fun p u (h : w.cell? p = some u) => ((next_below HB0.out hq2).cell (World.block_lt_of_cell? _ _ h)).trans h
        injection e with e
        subst e
        obtain ⟨q, rfl⟩ : ∃ q, r = t2 :: q := by
          cases r with
          | nil => simp at ht0
          | cons y r => exact ⟨r, by simpa using ht0⟩
        obtain ⟨l', h', hi, da, ks', B1, m1, j1, B2, m2, j2, B3, m3, j3, et, ec⟩ := hin.form_
        subst et
        injection ec with ec0 ec
        injection ec with ec1 ec
        injection ec with ec2 ec
        injection ec with ec3 ec
        injection ec with ec4 ec
        subst ec0 ec1 ec2 ec3 ec4
        obtain ⟨-, -, r1, r2, -, g2, -, -, -, c3, c4, -, -⟩ := hin.inv
        have R2 := hid r2
        have y0 : w2.cell? ⟨ad.block, ad.off + 5, none⟩ = some (.bool l') := hcw _ _ f0
        have y1 : w2.cell? ⟨ad.block, ad.off + 6, none⟩ = some (.bool h') := hcw _ _ f1
        have y3 : w2.cell? ⟨ad.block, ad.off + 8, none⟩ = some (.slice B2 m2 j2) := hcw _ _ f3
        clear f0 f1 f2 f3 f4 hcw
        clear hS0 ht0 hin r1 r2 hl
        cases l' with
        | true =>
          obtain rfl : ea = none := by rw [HE.out, endV_cons, ← HB1.out, ← HB2.out, HBB.out]; rfl
          cases b1 <;> cases b2
          · exact absurd HBB.out (by simp)
          all_goals
            go_wp2_with (refine wpList_store_row rfl 25 (.tmp 4) (.tmp 48) rfl w.heap.size _ rfl rfl 25 #[.bool false, .bool false, .slice none 0 0] (KZ.out _ (by assumption)) infoBound rfl hone.out ?_)
            exact bodyPost_ret (results_cell_tmps Tryz.results84 _ _ w.heap.size 25 _ _ _ _ rfl rfl rfl ((KZ.out _ hq2).row _) Tryz.underlying25 rfl infoBound) rfl ⟨_, rfl, ⟨zeroB, _, none, 0, 0, some ad, n, c, rfl, by simp, RIn.none_, by omega, by omega, HS.out.old (below_row (next_below HB0.out hq2) (Nat.le_refl _) _)⟩, below_row (next_below HB0.out hq2) (Nat.le_refl _) _⟩
        | false =>
          cases h' with
          | true =>
            obtain rfl : ea = none := by rw [HE.out, endV_cons, ← HB1.out, ← HB2.out, HBB.out]; rfl
            cases b1 <;> cases b2
            · exact absurd HBB.out (by simp)
            all_goals
              go_wp2_with (refine wpList_store_row rfl 25 (.tmp 4) (.tmp 48) rfl w.heap.size _ rfl rfl 25 #[.bool false, .bool false, .slice none 0 0] (KZ.out _ (by assumption)) infoBound rfl hone.out ?_)
              exact bodyPost_ret (results_cell_tmps Tryz.results84 _ _ w.heap.size 25 _ _ _ _ rfl rfl rfl ((KZ.out _ hq2).row _) Tryz.underlying25 rfl infoBound) rfl ⟨_, rfl, ⟨zeroB, _, none, 0, 0, some ad, n, c, rfl, by simp, RIn.none_, by omega, by omega, HS.out.old (below_row (next_below HB0.out hq2) (Nat.le_refl _) _)⟩, below_row (next_below HB0.out hq2) (Nat.le_refl _) _⟩
          | false =>
            obtain rfl : ea = some (⟨true, b1, da⟩, q) := by rw [HE.out, endV_cons, ← HB1.out, ← HB2.out, HBB.out]; rfl
            have HD : Hid (RowS w S q (if c = 2 then some ad else some (⟨ad.block, ad.off + 10, none⟩ : Addr)) (n - 2) (c - 2)) := HS.out.drop (k := 2) (by omega)
            obtain ⟨z0, z1, z2, zf⟩ : w2.cell? ⟨w.heap.size, 0, none⟩ = some (.bool false) ∧ w2.cell? ⟨w.heap.size, 1, none⟩ = some (.bool false) ∧ w2.cell? ⟨w.heap.size, 2, none⟩ = some (.slice none 0 0) ∧ (∀ i, w2.frozen? ⟨w.heap.size, i, none⟩ = false) := by
              have h := KZ.out _ hq2
              exact ⟨h.cell 0, h.cell 1, h.cell 2, fun i => h.frozen i⟩
            have zf0 := zf 0
            have zf1 := zf 1
            have zf2 := zf 2
            clear zf
            cases b1 <;> cases b2
            · exact absurd HBB.out (by simp)
            · have y3 := y3
              go_upto_region 9 with fail
              go_region
              have hT : Below w.heap.size w (((w2.setCell ⟨w.heap.size, 0, none⟩ (.bool true)).setCell ⟨w.heap.size, 1, none⟩ (.bool false)).setCell ⟨w.heap.size, 2, none⟩ (.slice B2 m2 j2)).drew := ((((next_below HB0.out hq2).setCell (Nat.le_refl _) _).setCell (Nat.le_refl _) _).setCell (Nat.le_refl _) _).drew
              have hK : Blk (((w2.setCell ⟨w.heap.size, 0, none⟩ (.bool true)).setCell ⟨w.heap.size, 1, none⟩ (.bool false)).setCell ⟨w.heap.size, 2, none⟩ (.slice B2 m2 j2)).drew w.heap.size 25 #[.bool true, .bool false, .slice B2 m2 j2] := ((((KZ.out _ hq2).set_ 0 _).set_ 1 _).set_ 2 _).drew
              generalize (((w2.setCell ⟨w.heap.size, 0, none⟩ (.bool true)).setCell ⟨w.heap.size, 1, none⟩ (.bool false)).setCell ⟨w.heap.size, 2, none⟩ (.slice B2 m2 j2)).drew = w9 at *
              have hD := HD.out
              generalize (if c = 2 then some ad else some (⟨ad.block, ad.off + 10, none⟩ : Addr)) = A9 at hD ⊢
              go_wp2_with fail
              exact bodyPost_ret (results_cell_tmps Tryz.results84 _ _ w.heap.size 25 _ _ _ _ rfl rfl rfl hK Tryz.underlying25 rfl infoBound) rfl ⟨_, rfl, ⟨⟨true, false, da⟩, q, B2, m2, j2, A9, n - 2, c - 2, rfl, by simp, R2.out.old (by omega) hT, by omega, by omega, hD.old hT⟩, hT⟩
            · have y3 := y3
              go_upto_region 9 with fail
              go_region
              have hT : Below w.heap.size w (((w2.setCell ⟨w.heap.size, 0, none⟩ (.bool true)).setCell ⟨w.heap.size, 1, none⟩ (.bool true)).setCell ⟨w.heap.size, 2, none⟩ (.slice B2 m2 j2)).drew := ((((next_below HB0.out hq2).setCell (Nat.le_refl _) _).setCell (Nat.le_refl _) _).setCell (Nat.le_refl _) _).drew
              have hK : Blk (((w2.setCell ⟨w.heap.size, 0, none⟩ (.bool true)).setCell ⟨w.heap.size, 1, none⟩ (.bool true)).setCell ⟨w.heap.size, 2, none⟩ (.slice B2 m2 j2)).drew w.heap.size 25 #[.bool true, .bool true, .slice B2 m2 j2] := ((((KZ.out _ hq2).set_ 0 _).set_ 1 _).set_ 2 _).drew
              generalize (((w2.setCell ⟨w.heap.size, 0, none⟩ (.bool true)).setCell ⟨w.heap.size, 1, none⟩ (.bool true)).setCell ⟨w.heap.size, 2, none⟩ (.slice B2 m2 j2)).drew = w9 at *
              have hD := HD.out
              generalize (if c = 2 then some ad else some (⟨ad.block, ad.off + 10, none⟩ : Addr)) = A9 at hD ⊢
              go_wp2_with fail
              exact bodyPost_ret (results_cell_tmps Tryz.results84 _ _ w.heap.size 25 _ _ _ _ rfl rfl rfl hK Tryz.underlying25 rfl infoBound) rfl ⟨_, rfl, ⟨⟨true, true, da⟩, q, B2, m2, j2, A9, n - 2, c - 2, rfl, by simp, R2.out.old (by omega) hT, by omega, by omega, hD.old hT⟩, hT⟩
            · have y3 := y3
              go_upto_region 9 with fail
              go_region
              have hT : Below w.heap.size w (((w2.setCell ⟨w.heap.size, 0, none⟩ (.bool true)).setCell ⟨w.heap.size, 1, none⟩ (.bool true)).setCell ⟨w.heap.size, 2, none⟩ (.slice B2 m2 j2)).drew := ((((next_below HB0.out hq2).setCell (Nat.le_refl _) _).setCell (Nat.le_refl _) _).setCell (Nat.le_refl _) _).drew
              have hK : Blk (((w2.setCell ⟨w.heap.size, 0, none⟩ (.bool true)).setCell ⟨w.heap.size, 1, none⟩ (.bool true)).setCell ⟨w.heap.size, 2, none⟩ (.slice B2 m2 j2)).drew w.heap.size 25 #[.bool true, .bool true, .slice B2 m2 j2] := ((((KZ.out _ hq2).set_ 0 _).set_ 1 _).set_ 2 _).drew
              generalize (((w2.setCell ⟨w.heap.size, 0, none⟩ (.bool true)).setCell ⟨w.heap.size, 1, none⟩ (.bool true)).setCell ⟨w.heap.size, 2, none⟩ (.slice B2 m2 j2)).drew = w9 at *
              have hD := HD.out
              generalize (if c = 2 then some ad else some (⟨ad.block, ad.off + 10, none⟩ : Addr)) = A9 at hD ⊢
              go_wp2_with fail
              exact bodyPost_ret (results_cell_tmps Tryz.results84 _ _ w.heap.size 25 _ _ _ _ rfl rfl rfl hK Tryz.underlying25 rfl infoBound) rfl ⟨_, rfl, ⟨⟨true, true, da⟩, q, B2, m2, j2, A9, n - 2, c - 2, rfl, by simp, R2.out.old (by omega) hT, by omega, by omega, hD.old hT⟩, hT⟩
end Go.Proofs.YtinlonpcakkfhaaGreatDoor
end
section
set_option maxRecDepth 100000
namespace Go.Proofs.YtinlonpcakkfhaaGreatDoor
open Go Go.Proofs Go.RowKit Sx _root_.Ord11 Go.Proofs.YtinlonpcakkfhaaGreatDoor.Ord11 _root_.Tag12 Sch
theorem row_cell {V : World} {b : Nat} {c : Array Value} {p : Addr} (hp : p.block ≠ b) : (V.setRow b c).cell? p = V.cell? p := World.cell?_of_block (setRow_other V b p.block c hp)
theorem val_end {S Sd : Nat → Prop} {w V : World} {ks : List SX} {v5 : Value} (c : Array Value) (hb : Below w.heap.size w V) (h : SlS Sd (w.heap.size + 2) ks v5 V) (hSd : ∀ b, Sd b → (S b ∨ w.heap.size ≤ b) ∧ b ≠ w.heap.size + 1) :
    SxV S w.heap.size (list ks) (.agg #[.bool true, .bool false, .slice none 0 0, .slice none 0 0, v5]) (V.setRow (w.heap.size + 1) c) ∧ Below w.heap.size w (V.setRow (w.heap.size + 1) c) := by
  obtain ⟨A, n, k, xs, rfl, h1, h2, h3, h4, h5⟩ := h
  have hf : ∀ b, (Sd b ∨ w.heap.size + 2 ≤ b) → (S b ∨ w.heap.size ≤ b) ∧ b ≠ w.heap.size + 1 := fun b hb => hb.elim (hSd b) fun h => ⟨.inr (by omega), by omega⟩
  refine ⟨⟨_, _, _, _, _, rfl, .mk RIn.none_ ⟨Nat.le_refl _, by omega⟩ RIn.none_ ⟨Nat.le_refl _, by omega⟩ ((h4.keep fun p hp => row_cell (by omega)).more fun b hb => .inr (by omega)) ⟨h1, h2⟩ h3 (fun i t hi => ((h5 i t hi).keep fun p hp => row_cell (hf _ hp).2).more fun b hb => (hf b hb).1)⟩, below_row hb (by omega) _⟩
theorem val_atom {S : Nat → Prop} {w V : World} {A : Option Addr} {n k : Nat} {l : List UInt8} (c : Array Value) (hb : Below w.heap.size w V) (h : RIn V (fun b => S b ∧ b < w.heap.size) 1 A n (Lib.byteCells l)) (hn : n ≤ k) (hm : n ≤ 140737488355328) :
    SxV S w.heap.size (atom l) (.agg #[.bool false, .bool false, .slice none 0 0, .slice A n k, .slice none 0 0]) (V.setRow (w.heap.size + 1) c) ∧ Below w.heap.size w (V.setRow (w.heap.size + 1) c) :=
  ⟨⟨_, _, _, _, _, rfl, sIn_atomD (((h.keep fun p hp => row_cell (by omega)).more fun b hb => hb.1)) hn hm⟩, below_row hb (by omega) _⟩
theorem valuesT_take (l : List TG) (k : Nat) (x : TG) (h : l[k]? = some x) : valuesT (l.take (k + 1)) = valuesT (l.take k) ++ [valueT x] := by
  rw [take_snocT h]
  have : ∀ (l : List TG) (t : TG), valuesT (l ++ [t]) = valuesT l ++ [valueT t] := by
    intro l t
    induction l with
    | nil => simp [valuesT]
    | cons a r ih => simp [valuesT, ih]
  exact this _ _
theorem valuesT_len (l : List TG) : (valuesT l).length = l.length := by
  induction l with
  | nil => rfl
  | cons a r ih => simp [valuesT, ih]
theorem reads_lit5 (V : World) (a b c d e : Value) : Reads (V.alloc (.cells #[a, b, c, d, e] 34)) (V.heap.size + 1) 5 (some ⟨V.heap.size, 0, none⟩) 1 [a, b, c, d, e] := by
  refine ⟨rfl, fun _ => ⟨_, rfl, by simp, fun j u hj => ?_⟩⟩
  rw [show (⟨V.heap.size, 0, none⟩ : Addr).add j = ⟨V.heap.size, j, none⟩ from by unfold Addr.add; split <;> simp_all]
  rw [Lib.cell_of_heap (heap_alloc_new V _)]
  simpa using hj
theorem ones5 (a b : Bool) (A1 : Option Addr) (n1 c1 : Nat) (A2 : Option Addr) (n2 c2 : Nat) (A3 : Option Addr) (n3 c3 : Nat) : ∀ u ∈ ([.bool a, .bool b, .slice A1 n1 c1, .slice A2 n2 c2, .slice A3 n3 c3] : List Value), u.oneCell' = true := by
  intro u hu
  simp only [List.mem_cons, List.not_mem_nil, or_false] at hu
  rcases hu with rfl | rfl | rfl | rfl | rfl <;> rfl
theorem one5 (a b : Bool) (A1 : Option Addr) (n1 c1 : Nat) (A2 : Option Addr) (n2 c2 : Nat) (A3 : Option Addr) (n3 c3 : Nat) : ((#[.bool a, .bool b, .slice A1 n1 c1, .slice A2 n2 c2, .slice A3 n3 c3] : Array Value).all (·.oneCell')) = true := by kernel_rfl
theorem fT1 (g o : Nat) : ∀ W, (Instr.fieldAt 29 (.pointer (some ⟨g, o, none⟩)) 1).run Tryz.prog W = .ok (.pointer (some ⟨g, o + 1, none⟩)) W := fun W => by kernel_rfl
theorem fT2 (g o : Nat) : ∀ W, (Instr.fieldAt 29 (.pointer (some ⟨g, o, none⟩)) 2).run Tryz.prog W = .ok (.pointer (some ⟨g, o + 2, none⟩)) W := fun W => by kernel_rfl
theorem fT3 (g o : Nat) : ∀ W, (Instr.fieldAt 29 (.pointer (some ⟨g, o, none⟩)) 3).run Tryz.prog W = .ok (.pointer (some ⟨g, o + 3, none⟩)) W := fun W => by kernel_rfl
set_option maxHeartbeats 16000000 in
theorem refValue_any (t : TG) : ∀ (w : World) (S : Nat → Prop) (cs : List Value), TIn w S t cs →
    Calls Tryz.prog 15 #[.agg cs.toArray] w fun e w' => ∃ v, e = .returned v ∧ SxV S w.heap.size (valueT t) v w' ∧ Below w.heap.size w w' := by
  induction t using TG.ind with
  | H k d r ks ih =>
    intro w S cs hs
    obtain ⟨o, ⟨i1, p1, l1⟩, ⟨i2, p2, l2⟩⟩ := r
    obtain ⟨_, _, _, _, A1, n1, c1, A2, n2, c2, A3, n3, c3, A4, n4, c4, e, rfl⟩ := hs.form_
    cases e
    dsimp only at hs ⊢
    have hs0 := hs.size_
    obtain ⟨_, ⟨hk8, ho8⟩, ⟨r1, r3, r4⟩, ⟨g1, hk, g3, g4⟩, ⟨b11, b12, b21, b22, b31, b32, b41, b42⟩⟩ := hs0.inv
    dsimp only at r3 r4 g3 g4 ho8
    obtain ⟨vt, hvt⟩ : ∃ x, x = valueT (.mk k d ⟨o, ⟨i1, p1, l1⟩, ⟨i2, p2, l2⟩⟩ ks) := ⟨_, rfl⟩
    rw [← hvt]
    have HVT : Hid (vt = if k = 1 then list [atom star] else if k = 2 then atom d else if k = 4 then list (atom star :: atom setW :: valuesT ks) else if k = 5 then list [atom star, atom prefW, atom d] else if k = 6 then list (atom star :: atom rangW :: atom (nameW o) :: (boundV ⟨i1, p1, l1⟩ 103 ++ boundV ⟨i2, p2, l2⟩ 108)) else list (valuesT ks)) := by show _ = _; rw [hvt, valueT]
    clear hvt
    obtain ⟨w0, hw0⟩ : ∃ w0, w0 = ((w.alloc (.cells #[.int .u8 k, .slice A1 n1 c1, .slice A2 n2 c2, .int .u8 o, .bool i1, .bool p1, .slice A3 n3 c3, .bool i2, .bool p2, .slice A4 n4 c4] 29)).alloc (.cells #[.bool false, .bool false, .slice none 0 0, .slice none 0 0, .slice none 0 0] 34)) := ⟨_, rfl⟩
    have hb0 : Below w.heap.size w w0 := by
      rw [hw0]
      exact ((Below.refl w.heap.size w).alloc (Nat.le_refl _) _).alloc (by simp; try omega) _
    have hz0 : w0.heap.size = w.heap.size + 2 := by rw [hw0]; simp
    have B0 : Blk w0 w.heap.size 29 #[.int .u8 k, .slice A1 n1 c1, .slice A2 n2 c2, .int .u8 o, .bool i1, .bool p1, .slice A3 n3 c3, .bool i2, .bool p2, .slice A4 n4 c4] := by
      rw [hw0]
      exact (Blk.new w 29 #[.int .u8 k, .slice A1 n1 c1, .slice A2 n2 c2, .int .u8 o, .bool i1, .bool p1, .slice A3 n3 c3, .bool i2, .bool p2, .slice A4 n4 c4]).alloc _
    have B1 : Blk w0 (w.heap.size + 1) 34 #[.bool false, .bool false, .slice none 0 0, .slice none 0 0, .slice none 0 0] := by
      rw [hw0]
      have h := Blk.new (w.alloc (.cells #[.int .u8 k, .slice A1 n1 c1, .slice A2 n2 c2, .int .u8 o, .bool i1, .bool p1, .slice A3 n3 c3, .bool i2, .bool p2, .slice A4 n4 c4] 29)) 34 #[.bool false, .bool false, .slice none 0 0, .slice none 0 0, .slice none 0 0]
      simpa using h
    have hsz : Hid (∀ a b c d e : Value, (Tryz.prog.info? 34).map (·.size) = some (#[a, b, c, d, e] : Array Value).size) := by
      intro a b c d e
      show _ = some 5
      kernel_rfl
    have HS0 := hid hs0
    have R1 := hid r1
    have R3 := hid r3
    have R4 := hid r4
    have HK := hid hk
    have IH := hid ih
    clear hs hs0 r1 r3 r4 hk ih g1 g3 g4
    go_enter Tryz.func15, Tryz.ntmps15
    go_upto_region 1 with fail
    rw [← hw0]
    clear hw0
    go_upto_region 3 with (go_at_call 32; refine (refAtom_sx (Sd := fun b => S b ∧ b < w.heap.size) (B := w.heap.size + 2) star w0 (by decide) (by omega)).mono ?_; rintro e w1 ⟨v, rfl, hsx, hb1⟩; obtain ⟨q0, q1, D1, m1, j1, D2, m2, j2, D3, m3, j3, rfl, hin⟩ := hsx.five; clear hsx)
    obtain ⟨g, hg⟩ : ∃ g, g = w1.heap.size := ⟨_, rfl⟩
    obtain ⟨W, hW⟩ : ∃ W, W = ((w1.alloc (.cells #[.bool q0, .bool q1, .slice D1 m1 j1, .slice D2 m2 j2, .slice D3 m3 j3] 34)).alloc (.cells #[] 34)) := ⟨_, rfl⟩
    rw [← hW, ← hg]
    have hg2 : w.heap.size + 2 ≤ g := by rw [hg, ← hz0]; exact hb1.size
    have hgz : W.heap.size = g + 2 := by rw [hW, hg]; simp
    have hb01 : Below w0.heap.size w0 W := by
      rw [hW]
      exact (hb1.alloc hb1.size _).alloc (by have := hb1.size; simp; omega) _
    have hbW : Below w.heap.size w W := hb0.trans (hb01.mono (by omega))
    have X0 : Hid (∀ V, Below (g + 1) W V → ∀ k' u, (#[.int .u8 k, .slice A1 n1 c1, .slice A2 n2 c2, .int .u8 o, .bool i1, .bool p1, .slice A3 n3 c3, .bool i2, .bool p2, .slice A4 n4 c4] : Array Value)[k']? = some u → V.cell? ⟨w.heap.size, k', none⟩ = some u) := fun V hV k' u hk' => (((B0.old hb01).below hV (by omega)).cell k').trans hk'
    have BR : Hid (∀ V, Below (g + 1) W V → Blk V (w.heap.size + 1) 34 #[.bool false, .bool false, .slice none 0 0, .slice none 0 0, .slice none 0 0]) := fun V hV => (B1.old hb01).below hV (by omega)
    have BS : Blk W g 34 #[.bool q0, .bool q1, .slice D1 m1 j1, .slice D2 m2 j2, .slice D3 m3 j3] := by
      rw [hW, hg]
      exact (Blk.new w1 34 #[.bool q0, .bool q1, .slice D1 m1 j1, .slice D2 m2 j2, .slice D3 m3 j3]).alloc _
    have XS : Hid (∀ V, Below (g + 1) W V → ∀ k' u, (#[.bool q0, .bool q1, .slice D1 m1 j1, .slice D2 m2 j2, .slice D3 m3 j3] : Array Value)[k']? = some u → V.cell? ⟨g, k', none⟩ = some u) := fun V hV k' u hk' => ((BS.below hV (by omega)).cell k').trans hk'
    obtain ⟨Sd, hSd⟩ : ∃ Sd : Nat → Prop, Sd = fun b => (S b ∧ b < w.heap.size) ∨ w.heap.size + 2 ≤ b := ⟨_, rfl⟩
    have HS1 : Hid (∀ b, (S b ∧ b < w.heap.size) → Sd b ∧ b < g + 1) := fun b hb => ⟨by rw [hSd]; exact .inl hb, by omega⟩
    have HS2 : Hid (∀ b, w.heap.size + 2 ≤ b → Sd b) := fun b hb => by rw [hSd]; exact .inr hb
    have HS3 : Hid (∀ b, Sd b → (S b ∨ w.heap.size ≤ b) ∧ b ≠ w.heap.size + 1) := fun b hb => by
      rw [hSd] at hb
      exact hb.elim (fun h => ⟨.inl h.1, by omega⟩) fun h => ⟨.inr (by omega), by omega⟩
    have HST : Hid (∀ V, Below W.heap.size W V → SIn V Sd (atom star) [.bool q0, .bool q1, .slice D1 m1 j1, .slice D2 m2 j2, .slice D3 m3 j3]) := fun V hV => by
      rw [hSd]
      have h1 := (hin.old (w' := W) (by rw [hW]; exact (below_new _ _).trans ((below_new _ _).mono (by simp)))).old hV
      exact h1
    have HL0 : Hid (SlO Sd (g + 1) [] (.slice (some ⟨g + 1, 0, none⟩) 0 0) W) := by
      have h := slo_nil (Sd := Sd) (B := g + 1) (V := w1.alloc (.cells #[.bool q0, .bool q1, .slice D1 m1 j1, .slice D2 m2 j2, .slice D3 m3 j3] 34)) (by rw [hg]; simp)
      show SlO _ _ _ _ _
      rw [hW, hg]
      simpa [hg] using h
    have HBW := hid hbW
    have hgz1 : g + 2 ≤ W.heap.size := by omega
    have HW0 : Below (g + 1) W W := Below.refl _ _
    clear hgz hb0 hb1 hz0 B0 B1 BS hW hg hb01 hbW hin hSd
    have x0_0 := X0.out _ HW0 0 _ rfl
    have x0_1 := X0.out _ HW0 1 _ rfl
    have x0_2 := X0.out _ HW0 2 _ rfl
    have x0_3 := X0.out _ HW0 3 _ rfl
    have x0_4 := X0.out _ HW0 4 _ rfl
    have x0_5 := X0.out _ HW0 5 _ rfl
    have x0_6 := X0.out _ HW0 6 _ rfl
    have x0_7 := X0.out _ HW0 7 _ rfl
    have x0_8 := X0.out _ HW0 8 _ rfl
    have x0_9 := X0.out _ HW0 9 _ rfl
    have xs_0 := XS.out _ HW0 0 _ rfl
    have xs_1 := XS.out _ HW0 1 _ rfl
    have xs_2 := XS.out _ HW0 2 _ rfl
    have xs_3 := XS.out _ HW0 3 _ rfl
    have xs_4 := XS.out _ HW0 4 _ rfl
    by_cases k1 : k = 1
    · have HV : Hid (vt = list [atom star]) := by show _ = _; rw [HVT.out, if_pos k1]
      have kB : ((k : Int) == 1) = true := by rw [beq_iff_eq]; omega
      have hB2 : Below (g + 1) W (W.alloc (.cells #[.bool q0, .bool q1, .slice D1 m1 j1, .slice D2 m2 j2, .slice D3 m3 j3] 34)) := (Below.refl _ _).alloc (by omega) _
      have HE := hid (val_end (S := S) (c := #[.bool true, .bool false, .slice none 0 0, .slice none 0 0, .slice (some ⟨W.heap.size, 0, none⟩) 1 1]) (HBW.out.trans ((below_new W (.cells #[.bool q0, .bool q1, .slice D1 m1 j1, .slice D2 m2 j2, .slice D3 m3 j3] 34)).mono (by omega))) (sls_lit1 (Sd := Sd) (B := w.heap.size + 2) (by omega) ((HST.out W (Below.refl _ _)).more fun b hb => .inl hb)) HS3.out)
      clear k1
      go_wp2_with (refine wpList_store_row rfl 34 (.tmp 2) (.tmp 14) rfl (w.heap.size + 1) #[.bool true, .bool false, .slice none 0 0, .slice none 0 0, .slice (some ⟨W.heap.size, 0, none⟩) 1 1] rfl rfl 34 #[.bool false, .bool false, .slice none 0 0, .slice none 0 0, .slice none 0 0] (BR.out _ hB2) (hsz.out _ _ _ _ _) rfl (one5 _ _ _ _ _ _ _ _ _ _ _) ?_)
      exact bodyPost_ret (v := .agg #[.bool true, .bool false, .slice none 0 0, .slice none 0 0, .slice (some ⟨W.heap.size, 0, none⟩) 1 1]) (results_cell_row Tryz.results15 _ _ (w.heap.size + 1) 34 #[.bool true, .bool false, .slice none 0 0, .slice none 0 0, .slice (some ⟨W.heap.size, 0, none⟩) 1 1] (0, 0) _ rfl ((BR.out _ hB2).row _) Tryz.underlying34 rfl (hsz.out _ _ _ _ _)) rfl ⟨_, rfl, by rw [HV.out]; exact HE.out⟩
    have kB1 : ((k : Int) == 1) = false := by rw [beq_eq_false_iff_ne]; omega
    by_cases k2 : k = 2
    · have HV : Hid (vt = atom d) := by show _ = _; rw [HVT.out, if_neg k1, if_pos k2]
      have kB : ((k : Int) == 2) = true := by rw [beq_iff_eq]; omega
      have HE := hid (val_atom (S := S) (c := #[.bool false, .bool false, .slice none 0 0, .slice A1 n1 c1, .slice none 0 0]) HBW.out (R1.out.old (by omega) HBW.out) b11 b12)
      clear k1 k2
      go_wp2_with (refine wpList_store_row rfl 34 (.tmp 2) (.tmp 19) rfl (w.heap.size + 1) #[.bool false, .bool false, .slice none 0 0, .slice A1 n1 c1, .slice none 0 0] rfl rfl 34 #[.bool false, .bool false, .slice none 0 0, .slice none 0 0, .slice none 0 0] (BR.out _ HW0) (hsz.out _ _ _ _ _) rfl (one5 _ _ _ _ _ _ _ _ _ _ _) ?_)
      exact bodyPost_ret (v := .agg #[.bool false, .bool false, .slice none 0 0, .slice A1 n1 c1, .slice none 0 0]) (results_cell_row Tryz.results15 _ _ (w.heap.size + 1) 34 #[.bool false, .bool false, .slice none 0 0, .slice A1 n1 c1, .slice none 0 0] (0, 0) _ rfl ((BR.out _ HW0).row _) Tryz.underlying34 rfl (hsz.out _ _ _ _ _)) rfl ⟨_, rfl, by rw [HV.out]; exact HE.out⟩
    have kB2 : ((k : Int) == 2) = false := by rw [beq_eq_false_iff_ne]; omega
    obtain ⟨ib, hib, hzb0, hzb1, hzb2⟩ := info_parts infoSexp
    have HIB := hid hib
    clear hib
    by_cases k4 : k = 4
    · have HV : Hid (vt = list ([atom star, atom setW] ++ valuesT ks)) := by show _ = _; rw [HVT.out, if_neg k1, if_neg k2, if_pos k4]; rfl
      have kB : ((k : Int) == 4) = true := by rw [beq_iff_eq]; omega
      have HWL : Hid (setW.length ≤ 140737488355328) := by show _ ≤ _; decide
      clear k1 k2 k4
      go_upto_region 9 with fail
      try simp only [Act.put]
      refine wp_R [22, 23, 24, 25, 26] [Rk.val (.slice (some ⟨g + 1, 0, none⟩) 0 0), Rk.val (.agg #[.bool q0, .bool q1, .slice D1 m1 j1, .slice D2 m2 j2, .slice D3 m3 j3]), Rk.is (fun v V => SxV Sd (w.heap.size + 2) (atom setW) v V) (fun _ _ _ h hb => h.old hb), Rk.is (fun v V => SlS Sd (w.heap.size + 2) [atom star, atom setW] v V) (fun _ _ _ h hb => h.old hb), Rk.is (fun v V => SlO Sd (g + 1) [atom star, atom setW] v V) (fun _ _ _ h hb => h.old hb)] rfl (by kernel_rfl) (by kernel_rfl) (by kernel_rfl) (by kernel_rfl) ?hgb _ (by rfl) ?hfb
      case hgb =>
        refine gr_val rfl (by kernel_rfl) (fun a V H K Q hK => op_quiet (quiet_move (.tmp 4) (H.old 4 (by kernel_rfl) (by kernel_rfl)) (.inl (by kernel_rfl))) hK) ?_
        refine gr_val rfl (by kernel_rfl) (fun a V H K Q hK => op_quiet (quiet_agg _ (.tmp 3) _ 0 (H.old 3 (by kernel_rfl) (by kernel_rfl)) #[.bool q0, .bool q1, .slice D1 m1 j1, .slice D2 m2 j2, .slice D3 m3 j3] (fun j v hj => XS.out _ (H.frame.mono (by omega)) _ v (part_at 0 ⟨_, rfl⟩ j v hj)) Tryz.underlying34 rfl (by kernel_rfl) (by kernel_rfl)) hK) ?_
        refine gr_is rfl (by kernel_rfl) (fun a V H K Q hK => op_callR #[.const (.string ⟨#[115, 101, 116]⟩)] #[.string (bT setW)] (by kernel_rfl) (by kernel_rfl) (by kernel_rfl) (map1 (x := .const (.string ⟨#[115, 101, 116]⟩)) rfl) (refAtom_sx setW V HWL.out (by have := H.frame.size; omega)) (by kernel_rfl) hK) ?_
        refine gr_is rfl (by kernel_rfl) (fun a V H K Q hK => by
            obtain ⟨v0, v1, v2, v3, v4, e24, h24⟩ := (show SxV Sd (w.heap.size + 2) (atom setW) (a.eval (.tmp 24)) V from (H.rel 2 24 (by kernel_rfl) (by kernel_rfl) rfl))
            refine op_sx2 (.tmp 23) (.tmp 24) (H.rel 1 23 (by kernel_rfl) (by kernel_rfl) rfl) e24 (by kernel_rfl) (hK _ _ (below_new _ _) ?_)
            exact sls_lit2 (by have := H.frame.size; omega) ((HST.out V H.frame).more fun b hb => .inl hb) h24) ?_
        refine gr_is rfl (by kernel_rfl) (fun a V H K Q hK => by
            obtain ⟨A, n, c, xs, e25, q1, q2, q3, q4, q5⟩ := (show SlS Sd (w.heap.size + 2) [atom star, atom setW] (a.eval (.tmp 25)) V from (H.rel 3 25 (by kernel_rfl) (by kernel_rfl) rfl))
            exact op_app0 (m := 2) (.tmp 22) (.tmp 25) (by have := H.frame.size; omega) (H.rel 0 22 (by kernel_rfl) (by kernel_rfl) rfl) (HL0.out.old H.frame) e25 ⟨A, n, c, xs, rfl, q1, q2, q3, q4, q5⟩ (fun b hb => .inl (HS2.out b hb)) rfl (by decide) (by decide) (by decide) (by kernel_rfl) hK) ?_
        exact gr_nil
      case hfb =>
        intro x V hF
        have ev0 : x 0 = .slice (some ⟨g + 1, 0, none⟩) 0 0 := hF.rel 0 _ rfl
        have ev1 : x 1 = .agg #[.bool q0, .bool q1, .slice D1 m1 j1, .slice D2 m2 j2, .slice D3 m3 j3] := hF.rel 1 _ rfl
        have rv2 := hF.rel 2 _ rfl
        generalize hy2 : x 2 = y2 at rv2 ⊢
        have rv3 := hF.rel 3 _ rfl
        generalize hy3 : x 3 = y3 at rv3 ⊢
        have rv4 := hF.rel 4 _ rfl
        generalize hy4 : x 4 = y4 at rv4 ⊢
        have hbf := hF.frame
        clear hF
        simp only [Sch.finL, zA, zB, zC, ev0, ev1, hy2, hy3, hy4]
        clear ev0 ev1 hy2 hy3 hy4
        have HLO := hid rv4
        have hbv : Below (g + 1) W V := hbf.mono (by omega)
        clear rv2 rv3 rv4 hbf
        go_upto_region 17 with fail
        have x0_2 := X0.out _ hbv 2 _ rfl
        go_wp2_with fail
        go_loopw [4, 65] (fun p i wr => ∃ (q : Nat) (v : Value), v = p ∧ q ≤ n2 ∧ i = .int .i64 q ∧ Hid (SlO Sd (g + 1) ([atom star, atom setW] ++ valuesT (ks.take q)) v wr) ∧ Below (g + 1) W wr) (fun _ i _ => n2 - (intOf i).toNat)
        case atStart => exact ⟨0, _, rfl, Nat.zero_le _, rfl, by show SlO _ _ _ _ _; rw [List.take_zero, valuesT, List.append_nil]; exact HLO.out, hbv⟩
        case round =>
          clear x0_2
          obtain ⟨q, v, rfl, hqn, rfl, hlo, hbel⟩ := hrel
          have hbw := HBW.out.trans (hbel.mono (by omega))
          have hgs : g + 2 ≤ wr.heap.size := by have := hbel.size; omega
          by_cases hlt : q < n2
          · obtain ⟨ad, v0, v1, v2, v3, v4, v5, v6, v7, v8, v9, t, rfl, hS, hks, hm, hin, d0, d1, d2, d3, d4, d5, d6, d7, d8, d9⟩ := (HS0.out.old hbw).kid hlt
            have x0_2 := X0.out _ hbel 2 _ rfl
            have HT := hid (valuesT_take ks q t hks)
            have HM := hid hm
            obtain ⟨nA, xsA, hlA, hownW, hkW⟩ := hlo.out
            have HLA := hid hlA
            have HOW := hid hownW
            have HKW := hid hkW
            have hnA : nA ≤ n2 + 2 := by rw [← HLA.out, List.length_append, valuesT_len, List.length_take]; simp; omega
            clear hks hm hlA hownW hkW
            go_wp2_with first | (go_at_call 15; refine (IH.out t HM.out _ (fun b => S b ∧ b < w.heap.size) _ hin).mono ?_; rintro e V1 ⟨vx, rfl, hsx, hb1⟩; obtain ⟨z0, z1, Z1, zn1, zc1, Z2, zn2, zc2, Z3, zn3, zc3, rfl, hzin⟩ := hsx.five; have HO1 := hid (own_old HOW.out hb1); have HZ := hid hzin; have HB1 := hid hb1; have hg1 : g + 2 ≤ V1.heap.size := (by have := hb1.size; omega); clear hsx hzin hb1) | (at_builtin; refine wpList_append_any _ rfl (.tmp 68) (.tmp 75) 32 rfl (g + 1) 34 ib _ 5 80 Tryz.underlying32 HIB.out hzb0 hzb1 hzb2 rfl (by omega) _ nA xsA rfl (HO1.out.alloc _) _ _ 1 _ [.bool z0, .bool z1, .slice Z1 zn1 zc1, .slice Z2 zn2 zc2, .slice Z3 zn3 zc3] rfl (reads_lit5 V1 _ _ _ _ _) (ones5 _ _ _ _ _ _ _ _ _ _ _) (by unfold maxLen; omega) (by omega) (by simp; omega) ?_; intro v' V3 hown' hgr hbl)
            have hba : Below V1.heap.size V1 (V1.alloc (.cells #[.bool z0, .bool z1, .slice Z1 zn1 zc1, .slice Z2 zn2 zc2, .slice Z3 zn3 zc3] 34)) := below_new _ _
            have HNEW : Hid (SlO Sd (g + 1) (([atom star, atom setW] ++ valuesT (ks.take q)) ++ [valueT t]) v' V3) := slo_app (S0 := (fun b => S b ∧ b < w.heap.size)) (B2 := wr.heap.size) HLA.out (HO1.out.alloc _) (fun i t hi => ((HKW.out i t hi).old HB1.out).old hba) rfl (kids_one (HZ.out.old hba)) HS1.out (by omega) (fun b hb => (HOW.out.lt b hb).2) hown' hgr hbl
            have HB3 : Below (g + 1) W V3 := (((hbel.trans (HB1.out.mono (by omega))).alloc (by omega) _).grown hgr (by simp; omega) (fun b hb => (HO1.out.lt b hb).1))
            clear hown' hgr hbl
            go_wp2_with fail
            go_roundw
            case rel => exact ⟨q + 1, _, rfl, by omega, by go_num, by show SlO _ _ _ _ _; rw [HT.out, ← List.append_assoc]; exact HNEW.out, HB3⟩
            case measure => simp [intOf]; omega
          · obtain rfl : q = n2 := by omega
            have hall : Hid (ks.take q = ks) := List.take_of_length_le (by rw [HK.out]; exact Nat.le_refl _)
            have hSl : SlS Sd (w.heap.size + 2) ([atom star, atom setW] ++ valuesT ks) v wr := by
              have h := hlo.out
              rw [hall.out] at h
              exact h.toS (by omega) (by rw [List.length_append, valuesT_len, HK.out]; simp; omega)
            obtain ⟨AL, nL, cL, hvL⟩ : ∃ A n c, v = .slice A n c := by
              obtain ⟨A, n, c, xs, e, _⟩ := hSl
              exact ⟨A, n, c, e⟩
            subst hvL
            have HE := hid (val_end (S := S) (c := #[.bool true, .bool false, .slice none 0 0, .slice none 0 0, .slice AL nL cL]) hbw hSl HS3.out)
            clear hSl hlo
            go_wp2_with (refine wpList_store_row rfl 34 (.tmp 2) (.tmp 79) rfl (w.heap.size + 1) #[.bool true, .bool false, .slice none 0 0, .slice none 0 0, .slice AL nL cL] rfl rfl 34 #[.bool false, .bool false, .slice none 0 0, .slice none 0 0, .slice none 0 0] (BR.out _ hbel) (hsz.out _ _ _ _ _) rfl (one5 _ _ _ _ _ _ _ _ _ _ _) ?_)
            exact bodyPost_ret (v := .agg #[.bool true, .bool false, .slice none 0 0, .slice none 0 0, .slice AL nL cL]) (results_cell_row Tryz.results15 _ _ (w.heap.size + 1) 34 #[.bool true, .bool false, .slice none 0 0, .slice none 0 0, .slice AL nL cL] (0, 0) _ rfl ((BR.out _ hbel).row _) Tryz.underlying34 rfl (hsz.out _ _ _ _ _)) rfl ⟨_, rfl, by rw [HV.out]; exact HE.out⟩
    have kB4 : ((k : Int) == 4) = false := by rw [beq_eq_false_iff_ne]; omega
    by_cases k5 : k = 5
    · have HV : Hid (vt = list [atom star, atom prefW, atom d]) := by show _ = _; rw [HVT.out, if_neg k1, if_neg k2, if_neg k4, if_pos k5]
      have kB : ((k : Int) == 5) = true := by rw [beq_iff_eq]; omega
      have HWL : Hid (prefW.length ≤ 140737488355328) := by show _ ≤ _; decide
      clear k1 k2 k4 k5
      go_upto_region 11 with fail
      try simp only [Act.put]
      refine wp_R [29, 30, 31, 32, 33, 34, 35] [Rk.val (.agg #[.bool q0, .bool q1, .slice D1 m1 j1, .slice D2 m2 j2, .slice D3 m3 j3]), Rk.is (fun v V => SxV Sd (w.heap.size + 2) (atom prefW) v V) (fun _ _ _ h hb => h.old hb), Rk.val (.pointer (some ⟨w.heap.size, 1, none⟩)), Rk.val (.slice A1 n1 c1), Rk.val (.agg #[.bool false, .bool false, .slice none 0 0, .slice A1 n1 c1, .slice none 0 0]), Rk.is (fun v V => SlS Sd (w.heap.size + 2) [atom star, atom prefW, atom d] v V) (fun _ _ _ h hb => h.old hb), Rk.is (fun v V => ∃ A n c, v = .agg #[.bool true, .bool false, .slice none 0 0, .slice none 0 0, .slice A n c] ∧ SlS Sd (w.heap.size + 2) [atom star, atom prefW, atom d] (.slice A n c) V) (fun _ _ _ h hb => by obtain ⟨A, n, c, e, hh⟩ := h; exact ⟨A, n, c, e, hh.old hb⟩)] rfl (by kernel_rfl) (by kernel_rfl) (by kernel_rfl) (by kernel_rfl) ?hgc _ (by rfl) ?hfc
      case hgc =>
        refine gr_val rfl (by kernel_rfl) (fun a V H K Q hK => op_quiet (quiet_agg _ (.tmp 3) _ 0 (H.old 3 (by kernel_rfl) (by kernel_rfl)) #[.bool q0, .bool q1, .slice D1 m1 j1, .slice D2 m2 j2, .slice D3 m3 j3] (fun j v hj => XS.out _ (H.frame.mono (by omega)) _ v (part_at 0 ⟨_, rfl⟩ j v hj)) Tryz.underlying34 rfl (by kernel_rfl) (by kernel_rfl)) hK) ?_
        refine gr_is rfl (by kernel_rfl) (fun a V H K Q hK => op_callR #[.const (.string ⟨#[112, 114, 101, 102, 105, 120]⟩)] #[.string (bT prefW)] (by kernel_rfl) (by kernel_rfl) (by kernel_rfl) (map1 (x := .const (.string ⟨#[112, 114, 101, 102, 105, 120]⟩)) rfl) (refAtom_sx prefW V HWL.out (by have := H.frame.size; omega)) (by kernel_rfl) hK) ?_
        refine gr_val rfl (by kernel_rfl) (fun a V H K Q hK => op_quiet (quiet_fld _ (.tmp 1) 1 _ _ (H.old 1 (by kernel_rfl) (by kernel_rfl)) (fT1 _ 0) (by kernel_rfl)) hK) ?_
        refine gr_val rfl (by kernel_rfl) (fun a V H K Q hK => op_quiet (quiet_cell _ (.tmp 31) _ (H.rel 2 31 (by kernel_rfl) (by kernel_rfl) rfl) Tryz.underlying22 rfl (X0.out _ (H.frame.mono (by omega)) 1 _ rfl) (by kernel_rfl)) hK) ?_
        refine gr_val rfl (by kernel_rfl) (fun a V H K Q hK => op_quiet (quiet_bld 34 _ _ (bld1 (a := 3) (H.rel 3 32 (by kernel_rfl) (by kernel_rfl) rfl)) #[.bool false, .bool false, .slice none 0 0, .slice A1 n1 c1, .slice none 0 0] (by kernel_rfl) (by kernel_rfl)) hK) ?_
        refine gr_is rfl (by kernel_rfl) (fun a V H K Q hK => by
            obtain ⟨v0, v1, v2, v3, v4, e30, h30⟩ := (show SxV Sd (w.heap.size + 2) (atom prefW) (a.eval (.tmp 30)) V from (H.rel 1 30 (by kernel_rfl) (by kernel_rfl) rfl))
            refine op_sx3 (.tmp 29) (.tmp 30) (.tmp 33) (H.rel 0 29 (by kernel_rfl) (by kernel_rfl) rfl) e30 (H.rel 4 33 (by kernel_rfl) (by kernel_rfl) rfl) (by kernel_rfl) (hK _ _ (below_new _ _) ?_)
            exact sls_lit3 (by have := H.frame.size; omega) ((HST.out V H.frame).more fun b hb => .inl hb) h30 ((sIn_atomD (B := w.heap.size + 2) (R1.out.old (by omega) (HBW.out.trans (H.frame.mono HBW.out.size))) b11 b12).more fun b hb => hb.elim (fun h => .inl (HS1.out b h).1) .inr)) ?_
        refine gr_is rfl (by kernel_rfl) (fun a V H K Q hK => by
            have h34 := (show SlS Sd (w.heap.size + 2) [atom star, atom prefW, atom d] (a.eval (.tmp 34)) V from (H.rel 5 34 (by kernel_rfl) (by kernel_rfl) rfl))
            obtain ⟨A, n, c, xs, e34, hh⟩ := h34
            refine op_quiet (quiet_bld 34 _ _ (bld2 (a := 0) (b := 4) (x := .const (.bool true)) rfl e34) #[.bool true, .bool false, .slice none 0 0, .slice none 0 0, .slice A n c] (by kernel_rfl) (by kernel_rfl)) (fun V' hb => hK _ V' hb ?_)
            exact ⟨A, n, c, rfl, SlS.old ⟨A, n, c, xs, rfl, hh⟩ hb⟩) ?_
        exact gr_nil
      case hfc =>
        intro x V hF
        have ev0 : x 0 = .agg #[.bool q0, .bool q1, .slice D1 m1 j1, .slice D2 m2 j2, .slice D3 m3 j3] := hF.rel 0 _ rfl
        have rv1 := hF.rel 1 _ rfl
        generalize hy1 : x 1 = y1 at rv1 ⊢
        have ev2 : x 2 = .pointer (some ⟨w.heap.size, 1, none⟩) := hF.rel 2 _ rfl
        have ev3 : x 3 = .slice A1 n1 c1 := hF.rel 3 _ rfl
        have ev4 : x 4 = .agg #[.bool false, .bool false, .slice none 0 0, .slice A1 n1 c1, .slice none 0 0] := hF.rel 4 _ rfl
        have rv5 := hF.rel 5 _ rfl
        generalize hy5 : x 5 = y5 at rv5 ⊢
        have rv6 := hF.rel 6 _ rfl
        generalize hy6 : x 6 = y6 at rv6 ⊢
        have hbf := hF.frame
        clear hF
        simp only [Sch.finL, zA, zB, zC, ev0, hy1, ev2, ev3, ev4, hy5, hy6]
        clear ev0 hy1 ev2 ev3 ev4 hy5 hy6
        obtain ⟨AL, nL, cL, eL, hSl⟩ := rv6
        subst eL
        have hbv : Below (g + 1) W V := hbf.mono (by omega)
        have HE := hid (val_end (S := S) (c := #[.bool true, .bool false, .slice none 0 0, .slice none 0 0, .slice AL nL cL]) (HBW.out.trans (hbf.mono HBW.out.size)) hSl HS3.out)
        clear rv1 rv5 hSl hbf
        refine wpList_store_row rfl 34 (.tmp 2) (.tmp 35) rfl (w.heap.size + 1) #[.bool true, .bool false, .slice none 0 0, .slice none 0 0, .slice AL nL cL] rfl rfl 34 #[.bool false, .bool false, .slice none 0 0, .slice none 0 0, .slice none 0 0] (BR.out _ hbv) (hsz.out _ _ _ _ _) rfl (one5 _ _ _ _ _ _ _ _ _ _ _) ?_
        go_wp2_with fail
        exact bodyPost_ret (v := .agg #[.bool true, .bool false, .slice none 0 0, .slice none 0 0, .slice AL nL cL]) (results_cell_row Tryz.results15 _ _ (w.heap.size + 1) 34 #[.bool true, .bool false, .slice none 0 0, .slice none 0 0, .slice AL nL cL] (0, 0) _ rfl ((BR.out _ hbv).row _) Tryz.underlying34 rfl (hsz.out _ _ _ _ _)) rfl ⟨_, rfl, by rw [HV.out]; exact HE.out⟩
    have kB5 : ((k : Int) == 5) = false := by rw [beq_eq_false_iff_ne]; omega
    by_cases k6 : k = 6
    · have HV : Hid (vt = list (([atom star, atom rangW, atom (nameW o)] ++ boundV ⟨i1, p1, l1⟩ 103) ++ boundV ⟨i2, p2, l2⟩ 108)) := by show _ = _; rw [HVT.out, if_neg k1, if_neg k2, if_neg k4, if_neg k5, if_pos k6, List.append_assoc]; rfl
      have kB : ((k : Int) == 6) = true := by rw [beq_iff_eq]; omega
      have HWL : Hid (rangW.length ≤ 140737488355328) := by show _ ≤ _; decide
      have hnw : (nameW o).length ≤ 140737488355328 := by
        unfold nameW
        repeat' split
        all_goals simp
      have HNW : Hid (∀ V, Calls Tryz.prog 33 #[.int .u8 o] V fun e w' => e = .returned (.string (bT (nameW o))) ∧ Below V.heap.size V w') := fun V => refName_any o ho8 V
      have hbl1 : (boundV ⟨i1, p1, l1⟩ 103).length ≤ 2 := by cases i1 <;> simp [boundV]
      have hbl2 : (boundV ⟨i2, p2, l2⟩ 108).length ≤ 2 := by cases i2 <;> simp [boundV]
      have HBL1 := hid hbl1
      have HBL2 := hid hbl2
      generalize nameW o = nw at hnw HNW HV
      have HWN : Hid (nw.length ≤ 140737488355328) := hnw
      clear k1 k2 k4 k5 k6 hbl1 hbl2
      go_upto_region 13 with fail
      try simp only [Act.put]
      refine wp_R [38, 39, 40, 41, 42, 43, 44, 45, 46, 47] [Rk.val (.slice (some ⟨g + 1, 0, none⟩) 0 0), Rk.val (.agg #[.bool q0, .bool q1, .slice D1 m1 j1, .slice D2 m2 j2, .slice D3 m3 j3]), Rk.is (fun v V => SxV Sd (w.heap.size + 2) (atom rangW) v V) (fun _ _ _ h hb => h.old hb), Rk.val (.pointer (some ⟨w.heap.size, 3, none⟩)), Rk.val (.pointer (some ⟨w.heap.size, 3, none⟩)), Rk.val (.int .u8 o), Rk.val (.string (bT nw)), Rk.is (fun v V => SxV Sd (w.heap.size + 2) (atom nw) v V) (fun _ _ _ h hb => h.old hb), Rk.is (fun v V => SlS Sd (w.heap.size + 2) [atom star, atom rangW, atom nw] v V) (fun _ _ _ h hb => h.old hb), Rk.is (fun v V => SlO Sd (g + 1) [atom star, atom rangW, atom nw] v V) (fun _ _ _ h hb => h.old hb)] rfl (by kernel_rfl) (by kernel_rfl) (by kernel_rfl) (by kernel_rfl) ?hgd _ (by rfl) ?hfd
      case hgd =>
        refine gr_val rfl (by kernel_rfl) (fun a V H K Q hK => op_quiet (quiet_move (.tmp 4) (H.old 4 (by kernel_rfl) (by kernel_rfl)) (.inl (by kernel_rfl))) hK) ?_
        refine gr_val rfl (by kernel_rfl) (fun a V H K Q hK => op_quiet (quiet_agg _ (.tmp 3) _ 0 (H.old 3 (by kernel_rfl) (by kernel_rfl)) #[.bool q0, .bool q1, .slice D1 m1 j1, .slice D2 m2 j2, .slice D3 m3 j3] (fun j v hj => XS.out _ (H.frame.mono (by omega)) _ v (part_at 0 ⟨_, rfl⟩ j v hj)) Tryz.underlying34 rfl (by kernel_rfl) (by kernel_rfl)) hK) ?_
        refine gr_is rfl (by kernel_rfl) (fun a V H K Q hK => op_callR #[.const (.string ⟨#[114, 97, 110, 103, 101]⟩)] #[.string (bT rangW)] (by kernel_rfl) (by kernel_rfl) (by kernel_rfl) (map1 (x := .const (.string ⟨#[114, 97, 110, 103, 101]⟩)) rfl) (refAtom_sx rangW V HWL.out (by have := H.frame.size; omega)) (by kernel_rfl) hK) ?_
        refine gr_val rfl (by kernel_rfl) (fun a V H K Q hK => op_quiet (quiet_fld _ (.tmp 1) 3 _ _ (H.old 1 (by kernel_rfl) (by kernel_rfl)) (fT3 _ 0) (by kernel_rfl)) hK) ?_
        refine gr_val rfl (by kernel_rfl) (fun a V H K Q hK => op_quiet (quiet_fld _ (.tmp 41) 0 _ _ (H.rel 3 41 (by kernel_rfl) (by kernel_rfl) rfl) (fR0 _ 3) (by kernel_rfl)) hK) ?_
        refine gr_val rfl (by kernel_rfl) (fun a V H K Q hK => op_quiet (quiet_cell _ (.tmp 42) _ (H.rel 4 42 (by kernel_rfl) (by kernel_rfl) rfl) Tryz.underlying5 rfl (X0.out _ (H.frame.mono (by omega)) 3 _ rfl) (by kernel_rfl)) hK) ?_
        refine gr_val rfl (by kernel_rfl) (fun a V H K Q hK => op_callK _ #[.int .u8 o] (by kernel_rfl) (by kernel_rfl) (by kernel_rfl) (map1 (H.rel 5 43 (by kernel_rfl) (by kernel_rfl) rfl)) (HNW.out V) (by kernel_rfl) hK) ?_
        refine gr_is rfl (by kernel_rfl) (fun a V H K Q hK => op_callR #[.tmp 44] #[.string (bT nw)] (by kernel_rfl) (by kernel_rfl) (by kernel_rfl) (map1 (H.rel 6 44 (by kernel_rfl) (by kernel_rfl) rfl)) (refAtom_sx nw V HWN.out (by have := H.frame.size; omega)) (by kernel_rfl) hK) ?_
        refine gr_is rfl (by kernel_rfl) (fun a V H K Q hK => by
            obtain ⟨v0, v1, v2, v3, v4, e40, h40⟩ := (show SxV Sd (w.heap.size + 2) (atom rangW) (a.eval (.tmp 40)) V from (H.rel 2 40 (by kernel_rfl) (by kernel_rfl) rfl))
            obtain ⟨u0, u1, u2, u3, u4, e45, h45⟩ := (show SxV Sd (w.heap.size + 2) (atom nw) (a.eval (.tmp 45)) V from (H.rel 7 45 (by kernel_rfl) (by kernel_rfl) rfl))
            refine op_sx3 (.tmp 39) (.tmp 40) (.tmp 45) (H.rel 1 39 (by kernel_rfl) (by kernel_rfl) rfl) e40 e45 (by kernel_rfl) (hK _ _ (below_new _ _) ?_)
            exact sls_lit3 (by have := H.frame.size; omega) ((HST.out V H.frame).more fun b hb => .inl hb) h40 h45) ?_
        refine gr_is rfl (by kernel_rfl) (fun a V H K Q hK => by
            obtain ⟨A, n, c, xs, e46, q1, q2, q3, q4, q5⟩ := (show SlS Sd (w.heap.size + 2) [atom star, atom rangW, atom nw] (a.eval (.tmp 46)) V from (H.rel 8 46 (by kernel_rfl) (by kernel_rfl) rfl))
            exact op_app0 (m := 3) (.tmp 38) (.tmp 46) (by have := H.frame.size; omega) (H.rel 0 38 (by kernel_rfl) (by kernel_rfl) rfl) (HL0.out.old H.frame) e46 ⟨A, n, c, xs, rfl, q1, q2, q3, q4, q5⟩ (fun b hb => .inl (HS2.out b hb)) rfl (by decide) (by decide) (by decide) (by kernel_rfl) hK) ?_
        exact gr_nil
      case hfd =>
        intro x V hF
        have ev0 : x 0 = .slice (some ⟨g + 1, 0, none⟩) 0 0 := hF.rel 0 _ rfl
        have ev1 : x 1 = .agg #[.bool q0, .bool q1, .slice D1 m1 j1, .slice D2 m2 j2, .slice D3 m3 j3] := hF.rel 1 _ rfl
        have rv2 := hF.rel 2 _ rfl
        generalize hy2 : x 2 = y2 at rv2 ⊢
        have ev3 : x 3 = .pointer (some ⟨w.heap.size, 3, none⟩) := hF.rel 3 _ rfl
        have ev4 : x 4 = .pointer (some ⟨w.heap.size, 3, none⟩) := hF.rel 4 _ rfl
        have ev5 : x 5 = .int .u8 o := hF.rel 5 _ rfl
        have ev6 : x 6 = .string (bT nw) := hF.rel 6 _ rfl
        have rv7 := hF.rel 7 _ rfl
        generalize hy7 : x 7 = y7 at rv7 ⊢
        have rv8 := hF.rel 8 _ rfl
        generalize hy8 : x 8 = y8 at rv8 ⊢
        have rv9 := hF.rel 9 _ rfl
        generalize hy9 : x 9 = y9 at rv9 ⊢
        have hbf := hF.frame
        clear hF
        simp only [Sch.finL, zA, zB, zC, ev0, ev1, hy2, ev3, ev4, ev5, ev6, hy7, hy8, hy9]
        clear ev0 ev1 hy2 ev3 ev4 ev5 ev6 hy7 hy8 hy9
        have HLO := hid rv9
        have hbv : Below (g + 1) W V := hbf.mono (by omega)
        clear rv2 rv7 rv8 rv9 hbf
        clear x0_0 x0_1 x0_2 x0_3 x0_4 x0_5 x0_6 x0_7 x0_8 x0_9 xs_0 xs_1 xs_2 xs_3 xs_4
        go_upto_region 14 with fail
        have x0_0 := X0.out _ hbv 0 _ rfl
        have x0_1 := X0.out _ hbv 1 _ rfl
        have x0_2 := X0.out _ hbv 2 _ rfl
        have x0_3 := X0.out _ hbv 3 _ rfl
        have x0_4 := X0.out _ hbv 4 _ rfl
        have x0_5 := X0.out _ hbv 5 _ rfl
        have x0_6 := X0.out _ hbv 6 _ rfl
        have x0_7 := X0.out _ hbv 7 _ rfl
        have x0_8 := X0.out _ hbv 8 _ rfl
        have x0_9 := X0.out _ hbv 9 _ rfl
        obtain ⟨nA, xsA, hlA, hownW, hkW⟩ := HLO.out
        have HLA := hid hlA
        have HOW := hid hownW
        have HKW := hid hkW
        have hnA : nA ≤ 10 := by have := HBL1.out; have := HBL2.out; rw [← HLA.out]; simp [List.length_append]; try omega
        have hgs : g + 2 ≤ V.heap.size := by have := hbv.size; omega
        have hbw1 : Below w.heap.size w V := HBW.out.trans (hbv.mono (by omega))
        have RB := R3.out.old (by omega) hbw1
        clear hlA hownW hkW
        go_upto_region 15 with first | (go_at_call 34; refine (refBound_any i1 p1 l1 103 A3 n3 c3 (fun b => S b ∧ b < w.heap.size) V.heap.size V (Nat.le_refl _) RB b31 b32).mono ?_; rintro e V1 ⟨vB, rfl, ⟨AB, nB, cB, xsB, rfl, qc, qn, ql, qr, qk⟩, hb1⟩; have HO1 := hid (own_old HOW.out hb1); have HB1 := hid hb1; have HQK := hid qk; have HQL := hid ql; have hqr := qr.reads (by omega); have hone := one_cells (qr.more (S' := fun b => (S b ∧ b < w.heap.size) ∨ V.heap.size ≤ b) fun _ h => .inr h) ql qk; have hnB : nB ≤ 2 := (by have := HBL1.out; omega); have hg1 : g + 2 ≤ V1.heap.size := (by have := hb1.size; omega); clear hb1 qk ql qr) | (at_builtin; refine wpList_append_any _ rfl (.tmp 48) (.tmp 52) 32 rfl (g + 1) 34 ib _ 5 80 Tryz.underlying32 HIB.out hzb0 hzb1 hzb2 rfl (by omega) _ nA xsA rfl HO1.out _ AB nB cB xsB rfl hqr hone (by unfold maxLen; omega) (by omega) (by omega) ?_; intro v14 V14 hown' hgr hbl)
        have HL14 : Hid (SlO Sd (g + 1) (([atom star, atom rangW, atom nw]) ++ boundV ⟨i1, p1, l1⟩ 103) v14 V14) := slo_app (S0 := (fun b => S b ∧ b < w.heap.size)) (B2 := V.heap.size) HLA.out HO1.out (fun i t hi => (HKW.out i t hi).old HB1.out) HQL.out HQK.out HS1.out (by omega) (fun b hb => (HOW.out.lt b hb).2) hown' hgr hbl
        have hb14 : Below (g + 1) W V14 := (((hbv.trans (HB1.out.mono (by omega)))).grown hgr (by omega) (fun b hb => (HO1.out.lt b hb).1))
        clear hown' hgr hbl HLA HOW HKW hnA hgs RB HO1 HB1 HQK HQL hqr hone hnB hg1 x0_0 x0_1 x0_2 x0_3 x0_4 x0_5 x0_6 x0_7 x0_8 x0_9
        have x0_0 := X0.out _ hb14 0 _ rfl
        have x0_1 := X0.out _ hb14 1 _ rfl
        have x0_2 := X0.out _ hb14 2 _ rfl
        have x0_3 := X0.out _ hb14 3 _ rfl
        have x0_4 := X0.out _ hb14 4 _ rfl
        have x0_5 := X0.out _ hb14 5 _ rfl
        have x0_6 := X0.out _ hb14 6 _ rfl
        have x0_7 := X0.out _ hb14 7 _ rfl
        have x0_8 := X0.out _ hb14 8 _ rfl
        have x0_9 := X0.out _ hb14 9 _ rfl
        obtain ⟨nA, xsA, hlA, hownW, hkW⟩ := HL14.out
        have HLA := hid hlA
        have HOW := hid hownW
        have HKW := hid hkW
        have hnA : nA ≤ 10 := by have := HBL1.out; have := HBL2.out; rw [← HLA.out]; simp [List.length_append]; try omega
        have hgs : g + 2 ≤ V14.heap.size := by have := hb14.size; omega
        have hbw2 : Below w.heap.size w V14 := HBW.out.trans (hb14.mono (by omega))
        have RB := R4.out.old (by omega) hbw2
        clear hlA hownW hkW
        go_upto_region 16 with first | (go_at_call 34; refine (refBound_any i2 p2 l2 108 A4 n4 c4 (fun b => S b ∧ b < w.heap.size) V14.heap.size V14 (Nat.le_refl _) RB b41 b42).mono ?_; rintro e V1 ⟨vB, rfl, ⟨AB, nB, cB, xsB, rfl, qc, qn, ql, qr, qk⟩, hb1⟩; have HO1 := hid (own_old HOW.out hb1); have HB1 := hid hb1; have HQK := hid qk; have HQL := hid ql; have hqr := qr.reads (by omega); have hone := one_cells (qr.more (S' := fun b => (S b ∧ b < w.heap.size) ∨ V14.heap.size ≤ b) fun _ h => .inr h) ql qk; have hnB : nB ≤ 2 := (by have := HBL2.out; omega); have hg1 : g + 2 ≤ V1.heap.size := (by have := hb1.size; omega); clear hb1 qk ql qr) | (at_builtin; refine wpList_append_any _ rfl (.tmp 54) (.tmp 58) 32 rfl (g + 1) 34 ib _ 5 80 Tryz.underlying32 HIB.out hzb0 hzb1 hzb2 rfl (by omega) _ nA xsA rfl HO1.out _ AB nB cB xsB rfl hqr hone (by unfold maxLen; omega) (by omega) (by omega) ?_; intro v15 V15 hown' hgr hbl)
        have HL15 : Hid (SlO Sd (g + 1) (([atom star, atom rangW, atom nw] ++ boundV ⟨i1, p1, l1⟩ 103) ++ boundV ⟨i2, p2, l2⟩ 108) v15 V15) := slo_app (S0 := (fun b => S b ∧ b < w.heap.size)) (B2 := V14.heap.size) HLA.out HO1.out (fun i t hi => (HKW.out i t hi).old HB1.out) HQL.out HQK.out HS1.out (by omega) (fun b hb => (HOW.out.lt b hb).2) hown' hgr hbl
        have hb15 : Below (g + 1) W V15 := (((hb14.trans (HB1.out.mono (by omega)))).grown hgr (by omega) (fun b hb => (HO1.out.lt b hb).1))
        clear hown' hgr hbl HLA HOW HKW hnA hgs RB HO1 HB1 HQK HQL hqr hone hnB hg1 x0_0 x0_1 x0_2 x0_3 x0_4 x0_5 x0_6 x0_7 x0_8 x0_9
        have hSl := HL15.out.toS (B' := w.heap.size + 2) (by omega) (by have := HBL1.out; have := HBL2.out; simp [List.length_append]; omega)
        obtain ⟨AL, nL, cL, hvL⟩ : ∃ A n c, v15 = .slice A n c := by
          obtain ⟨A, n, c, xs, e, _⟩ := hSl
          exact ⟨A, n, c, e⟩
        subst hvL
        have HE := hid (val_end (S := S) (c := #[.bool true, .bool false, .slice none 0 0, .slice none 0 0, .slice AL nL cL]) (HBW.out.trans (hb15.mono (by omega))) hSl HS3.out)
        clear hSl
        go_wp2_with (refine wpList_store_row rfl 34 (.tmp 2) (.tmp 61) rfl (w.heap.size + 1) #[.bool true, .bool false, .slice none 0 0, .slice none 0 0, .slice AL nL cL] rfl rfl 34 #[.bool false, .bool false, .slice none 0 0, .slice none 0 0, .slice none 0 0] (BR.out _ hb15) (hsz.out _ _ _ _ _) rfl (one5 _ _ _ _ _ _ _ _ _ _ _) ?_)
        exact bodyPost_ret (v := .agg #[.bool true, .bool false, .slice none 0 0, .slice none 0 0, .slice AL nL cL]) (results_cell_row Tryz.results15 _ _ (w.heap.size + 1) 34 #[.bool true, .bool false, .slice none 0 0, .slice none 0 0, .slice AL nL cL] (0, 0) _ rfl ((BR.out _ hb15).row _) Tryz.underlying34 rfl (hsz.out _ _ _ _ _)) rfl ⟨_, rfl, by rw [HV.out]; exact HE.out⟩
    have kB6 : ((k : Int) == 6) = false := by rw [beq_eq_false_iff_ne]; omega
    have HV : Hid (vt = list ([] ++ valuesT ks)) := by show _ = _; rw [HVT.out, if_neg k1, if_neg k2, if_neg k4, if_neg k5, if_neg k6]; rfl
    clear k1 k2 k4 k5 k6
    clear x0_1 x0_2 x0_3 x0_4 x0_5 x0_6 x0_7 x0_8 x0_9 xs_0 xs_1 xs_2 xs_3 xs_4
    go_upto_region 17 with fail
    have x0_2 := X0.out _ HW0 2 _ rfl
    go_wp2_with fail
    go_loopw [4, 65] (fun p i wr => ∃ (q : Nat) (v : Value), v = p ∧ q ≤ n2 ∧ i = .int .i64 q ∧ Hid (SlO Sd (g + 1) ([] ++ valuesT (ks.take q)) v wr) ∧ Below (g + 1) W wr) (fun _ i _ => n2 - (intOf i).toNat)
    case atStart => exact ⟨0, _, rfl, Nat.zero_le _, rfl, by show SlO _ _ _ _ _; rw [List.take_zero, valuesT, List.append_nil]; exact HL0.out, HW0⟩
    case round =>
      clear x0_2
      obtain ⟨q, v, rfl, hqn, rfl, hlo, hbel⟩ := hrel
      have hbw := HBW.out.trans (hbel.mono (by omega))
      have hgs : g + 2 ≤ wr.heap.size := by have := hbel.size; omega
      by_cases hlt : q < n2
      · obtain ⟨ad, v0, v1, v2, v3, v4, v5, v6, v7, v8, v9, t, rfl, hS, hks, hm, hin, d0, d1, d2, d3, d4, d5, d6, d7, d8, d9⟩ := (HS0.out.old hbw).kid hlt
        have x0_2 := X0.out _ hbel 2 _ rfl
        have HT := hid (valuesT_take ks q t hks)
        have HM := hid hm
        obtain ⟨nA, xsA, hlA, hownW, hkW⟩ := hlo.out
        have HLA := hid hlA
        have HOW := hid hownW
        have HKW := hid hkW
        have hnA : nA ≤ n2 + 2 := by rw [← HLA.out, List.length_append, valuesT_len, List.length_take]; simp; omega
        clear hks hm hlA hownW hkW
        go_wp2_with first | (go_at_call 15; refine (IH.out t HM.out _ (fun b => S b ∧ b < w.heap.size) _ hin).mono ?_; rintro e V1 ⟨vx, rfl, hsx, hb1⟩; obtain ⟨z0, z1, Z1, zn1, zc1, Z2, zn2, zc2, Z3, zn3, zc3, rfl, hzin⟩ := hsx.five; have HO1 := hid (own_old HOW.out hb1); have HZ := hid hzin; have HB1 := hid hb1; have hg1 : g + 2 ≤ V1.heap.size := (by have := hb1.size; omega); clear hsx hzin hb1) | (at_builtin; refine wpList_append_any _ rfl (.tmp 68) (.tmp 75) 32 rfl (g + 1) 34 ib _ 5 80 Tryz.underlying32 HIB.out hzb0 hzb1 hzb2 rfl (by omega) _ nA xsA rfl (HO1.out.alloc _) _ _ 1 _ [.bool z0, .bool z1, .slice Z1 zn1 zc1, .slice Z2 zn2 zc2, .slice Z3 zn3 zc3] rfl (reads_lit5 V1 _ _ _ _ _) (ones5 _ _ _ _ _ _ _ _ _ _ _) (by unfold maxLen; omega) (by omega) (by simp; omega) ?_; intro v' V3 hown' hgr hbl)
        have hba : Below V1.heap.size V1 (V1.alloc (.cells #[.bool z0, .bool z1, .slice Z1 zn1 zc1, .slice Z2 zn2 zc2, .slice Z3 zn3 zc3] 34)) := below_new _ _
        have HNEW : Hid (SlO Sd (g + 1) (([] ++ valuesT (ks.take q)) ++ [valueT t]) v' V3) := slo_app (S0 := (fun b => S b ∧ b < w.heap.size)) (B2 := wr.heap.size) HLA.out (HO1.out.alloc _) (fun i t hi => ((HKW.out i t hi).old HB1.out).old hba) rfl (kids_one (HZ.out.old hba)) HS1.out (by omega) (fun b hb => (HOW.out.lt b hb).2) hown' hgr hbl
        have HB3 : Below (g + 1) W V3 := (((hbel.trans (HB1.out.mono (by omega))).alloc (by omega) _).grown hgr (by simp; omega) (fun b hb => (HO1.out.lt b hb).1))
        clear hown' hgr hbl
        go_wp2_with fail
        go_roundw
        case rel => exact ⟨q + 1, _, rfl, by omega, by go_num, by show SlO _ _ _ _ _; rw [HT.out, ← List.append_assoc]; exact HNEW.out, HB3⟩
        case measure => simp [intOf]; omega
      · obtain rfl : q = n2 := by omega
        have hall : Hid (ks.take q = ks) := List.take_of_length_le (by rw [HK.out]; exact Nat.le_refl _)
        have hSl : SlS Sd (w.heap.size + 2) ([] ++ valuesT ks) v wr := by
          have h := hlo.out
          rw [hall.out] at h
          exact h.toS (by omega) (by rw [List.length_append, valuesT_len, HK.out]; simp; omega)
        obtain ⟨AL, nL, cL, hvL⟩ : ∃ A n c, v = .slice A n c := by
          obtain ⟨A, n, c, xs, e, _⟩ := hSl
          exact ⟨A, n, c, e⟩
        subst hvL
        have HE := hid (val_end (S := S) (c := #[.bool true, .bool false, .slice none 0 0, .slice none 0 0, .slice AL nL cL]) hbw hSl HS3.out)
        clear hSl hlo
        go_wp2_with (refine wpList_store_row rfl 34 (.tmp 2) (.tmp 79) rfl (w.heap.size + 1) #[.bool true, .bool false, .slice none 0 0, .slice none 0 0, .slice AL nL cL] rfl rfl 34 #[.bool false, .bool false, .slice none 0 0, .slice none 0 0, .slice none 0 0] (BR.out _ hbel) (hsz.out _ _ _ _ _) rfl (one5 _ _ _ _ _ _ _ _ _ _ _) ?_)
        exact bodyPost_ret (v := .agg #[.bool true, .bool false, .slice none 0 0, .slice none 0 0, .slice AL nL cL]) (results_cell_row Tryz.results15 _ _ (w.heap.size + 1) 34 #[.bool true, .bool false, .slice none 0 0, .slice none 0 0, .slice AL nL cL] (0, 0) _ rfl ((BR.out _ hbel).row _) Tryz.underlying34 rfl (hsz.out _ _ _ _ _)) rfl ⟨_, rfl, by rw [HV.out]; exact HE.out⟩
end Go.Proofs.YtinlonpcakkfhaaGreatDoor
end
section
set_option maxRecDepth 100000
namespace Tag12
open Ord11 Sx
theorem sameTs_take : ∀ (a b : List TG) (k : Nat) (x y : TG), a[k]? = some x → b[k]? = some y → sameTs (a.take (k + 1)) (b.take (k + 1)) = (sameTs (a.take k) (b.take k) && sameT x y)
  | [], _, k, x, y, hx, _ => by simp at hx
  | _ :: _, [], k, x, y, _, hy => by simp at hy
  | u :: r, v :: s, 0, x, y, hx, hy => by
    simp at hx hy
    subst hx hy
    simp [sameTs]
  | u :: r, v :: s, k + 1, x, y, hx, hy => by
    simp at hx hy
    simp [sameTs, sameTs_take r s k x y hx hy, Bool.and_assoc]
theorem sameTs_bad : ∀ (a b : List TG) (k : Nat) (x y : TG), a[k]? = some x → b[k]? = some y → sameT x y = false → sameTs a b = false
  | [], _, k, x, y, hx, _, _ => by simp at hx
  | _ :: _, [], k, x, y, _, hy, _ => by simp at hy
  | u :: r, v :: s, 0, x, y, hx, hy, h => by
    simp at hx hy
    subst hx hy
    simp [sameTs, h]
  | u :: r, v :: s, k + 1, x, y, hx, hy, h => by
    simp at hx hy
    simp [sameTs, sameTs_bad r s k x y hx hy h]
theorem sameTs_len : ∀ (a b : List TG), a.length ≠ b.length → sameTs a b = false
  | [], [], h => absurd rfl h
  | [], _ :: _, _ => by simp [sameTs]
  | _ :: _, [], _ => by simp [sameTs]
  | u :: r, v :: s, h => by simp [sameTs, sameTs_len r s (by simpa using h)]
end Tag12
namespace Go.Proofs.YtinlonpcakkfhaaGreatDoor
open Go Go.Proofs Go.RowKit Sx _root_.Ord11 Go.Proofs.YtinlonpcakkfhaaGreatDoor.Ord11 _root_.Tag12
def GreatT (t : TG) (w : World) (e : Ending) (w' : World) : Prop := ∃ b : Bool, e = .returned (.bool b) ∧ (b = false → fineT t = true) ∧ Below w.heap.size w w'
set_option maxHeartbeats 4000000 in
theorem great12_any (t : TG) : ∀ (w : World) (S : Nat → Prop) (cs : List Value) (a : Int), TIn w S t cs → 0 ≤ a → a ≤ 61 →
    Calls Tryz.prog 8 #[.agg cs.toArray, .int .i64 a] w fun e w' => GreatT t w e w' := by
  induction t using TG.ind with
  | H k d r ks ih =>
    intro w S cs a hs ha0 ha1
    obtain ⟨o, ⟨i1, p1, l1⟩, ⟨i2, p2, l2⟩⟩ := r
    obtain ⟨_, _, _, _, A1, n1, c1, A2, n2, c2, A3, n3, c3, A4, n4, c4, e, rfl⟩ := hs.form_
    cases e
    dsimp only at hs ⊢
    obtain ⟨_, _, _, ⟨_, hk, g3, g4⟩, ⟨_, _, b21, b22, _⟩⟩ := hs.inv
    dsimp only at g3 g4
    have HF : Hid (n3 ≤ 200 → n4 ≤ 200 → fineL ks = true → fineT (.mk k d ⟨o, ⟨i1, p1, l1⟩, ⟨i2, p2, l2⟩⟩ ks) = true) := fun h1 h2 h3 => by
      rw [fineT, h3]
      simp only [Bool.and_true, Bool.and_eq_true, decide_eq_true_eq]
      omega
    have HK := hid hk
    have HS := hid hs
    have IH := hid ih
    obtain ⟨gb, hgb⟩ : ∃ gb, gb = (decide (200 < n3) || decide (200 < n4)) := ⟨_, rfl⟩
    have KG : Hid (∀ W, Calls Tryz.prog 23 #[.agg #[.int .u8 o, .bool i1, .bool p1, .slice A3 n3 c3, .bool i2, .bool p2, .slice A4 n4 c4]] W fun e w' => e = .returned (.bool gb) ∧ Below W.heap.size W w') := fun W => by
      rw [hgb]
      exact refGreat11 ⟨o, ⟨i1, p1, l1⟩, ⟨i2, p2, l2⟩⟩ A3 A4 n3 c3 n4 c4 W
    have HGB := hid hgb
    clear hk hs ih g3 g4 hgb
    obtain ⟨w0, hw0⟩ : ∃ w0, w0 = (w.alloc (.cells #[.int .u8 k, .slice A1 n1 c1, .slice A2 n2 c2, .int .u8 o, .bool i1, .bool p1, .slice A3 n3 c3, .bool i2, .bool p2, .slice A4 n4 c4] 29)) := ⟨_, rfl⟩
    have HB0 : Hid (Below w.heap.size w w0) := by
      show Below _ _ _
      rw [hw0]
      exact below_new _ _
    have X0 : Hid (∀ W, Below w0.heap.size w0 W → ∀ k' u, (#[.int .u8 k, .slice A1 n1 c1, .slice A2 n2 c2, .int .u8 o, .bool i1, .bool p1, .slice A3 n3 c3, .bool i2, .bool p2, .slice A4 n4 c4] : Array Value)[k']? = some u → W.cell? ⟨w.heap.size, k', none⟩ = some u) := by
      intro W hW k' u hk
      have B0 : Blk w0 w.heap.size 29 #[.int .u8 k, .slice A1 n1 c1, .slice A2 n2 c2, .int .u8 o, .bool i1, .bool p1, .slice A3 n3 c3, .bool i2, .bool p2, .slice A4 n4 c4] := by
        rw [hw0]
        exact Blk.new w 29 #[.int .u8 k, .slice A1 n1 c1, .slice A2 n2 c2, .int .u8 o, .bool i1, .bool p1, .slice A3 n3 c3, .bool i2, .bool p2, .slice A4 n4 c4]
      exact cell_below hW ((B0.cell k').trans hk) B0.lt
    have HR : Below w0.heap.size w0 w0 := Below.refl _ _
    go_enter Tryz.func8, Tryz.ntmps8
    go_upto_region 1 with fail
    rw [← hw0]
    clear hw0
    have x0_0 := X0.out _ HR 0 _ rfl
    have x0_1 := X0.out _ HR 1 _ rfl
    have x0_2 := X0.out _ HR 2 _ rfl
    have x0_3 := X0.out _ HR 3 _ rfl
    have x0_4 := X0.out _ HR 4 _ rfl
    have x0_5 := X0.out _ HR 5 _ rfl
    have x0_6 := X0.out _ HR 6 _ rfl
    have x0_7 := X0.out _ HR 7 _ rfl
    have x0_8 := X0.out _ HR 8 _ rfl
    have x0_9 := X0.out _ HR 9 _ rfl
    have no : ∀ W, Below w.heap.size w W → GreatT (.mk k d ⟨o, ⟨i1, p1, l1⟩, ⟨i2, p2, l2⟩⟩ ks) w (.returned (.bool true)) W := fun W hW => ⟨true, rfl, fun h => (by cases h), hW⟩
    have NO := hid no
    clear no
    by_cases g1 : 60 < a
    · have g1B : decide (60 < a) = true := decide_eq_true g1
      clear g1
      go_wp2_with fail
      go_ret
      exact NO.out _ HB0.out
    have g1B : decide (60 < a) = false := decide_eq_false g1
    by_cases g2 : 700 < n2
    · have g2B : decide (700 < n2) = true := decide_eq_true g2
      go_wp2_with fail
      go_ret
      exact NO.out _ HB0.out
    have g2B : decide (700 < n2) = false := decide_eq_false g2
    by_cases g3 : 5000 < n1
    · have g3B : decide (5000 < n1) = true := decide_eq_true g3
      go_wp2_with fail
      go_ret
      exact NO.out _ HB0.out
    have g3B : decide (5000 < n1) = false := decide_eq_false g3
    have ha60 : a + 1 ≤ 61 := by omega
    clear g1
    cases gb with
    | true =>
      go_wp2_with (go_at_call 23; refine (KG.out _).mono ?_; rintro e w1 ⟨rfl, hb1⟩)
      go_ret
      exact NO.out _ (HB0.out.trans (hb1.mono HB0.out.size))
    | false =>
      have hg : n3 ≤ 200 ∧ n4 ≤ 200 := by
        have := HGB.out
        by_cases h1 : 200 < n3
        · rw [decide_eq_true h1] at this; cases this
        · by_cases h2 : 200 < n4
          · rw [decide_eq_true h2, Bool.or_true] at this; cases this
          · omega
      have HG := hid hg
      clear hg
      go_wp2_with (go_at_call 23; refine (KG.out _).mono ?_; rintro e w1 ⟨rfl, hb1⟩; have y2 := X0.out _ hb1 2 _ rfl)
      go_loopw [28] (fun i wr => ∃ q : Nat, q ≤ n2 ∧ i = .int .i64 q ∧ Hid (fineL (ks.take q) = true) ∧ Below w0.heap.size w0 wr) (fun i _ => n2 - (intOf i).toNat)
      case atStart => exact ⟨0, Nat.zero_le _, rfl, by show _ = _; simp [fineL], hb1⟩
      case round =>
        clear x0_0 x0_1 x0_2 x0_3 x0_4 x0_5 x0_6 x0_7 x0_8 x0_9 HR y2 hb1
        obtain ⟨q, hqn, rfl, hfl, hbel⟩ := hrel
        have hbw := HB0.out.trans (hbel.mono HB0.out.size)
        by_cases hlt : q < n2
        · obtain ⟨ad, v0, v1, v2, v3, v4, v5, v6, v7, v8, v9, t, rfl, hS, hks, hm, hin, d0, d1, d2, d3, d4, d5, d6, d7, d8, d9⟩ := (HS.out.old hbw).kid hlt
          have x0_2 := X0.out _ hbel 2 _ rfl
          have HT := hid (fineL_take ks q t hks)
          have HM := hid hm
          have hsz := hbel.size
          clear hks hm
          go_wp2_with ((with_reducible refine (IH.out t HM.out _ S _ (a + 1) hin (by omega) (by omega)).mono ?_); rintro e w2 ⟨b, rfl, hf, hb2⟩; have HFF := hid hf; clear hf; rcases b with _ | _)
          · go_roundw
            case rel => exact ⟨q + 1, by omega, by go_num, by show _ = _; rw [HT.out, hfl.out, HFF.out (by simp)]; rfl, hbel.trans (hb2.mono hsz)⟩
            case measure => simp [intOf]; omega
          · go_ret
            exact NO.out _ (hbw.trans (hb2.mono hbw.size))
        · obtain rfl : q = n2 := by omega
          have hin := HS.out.old hbw
          have hall : Hid (fineL ks = true) := by
            show _ = _
            have := hfl.out
            rwa [List.take_of_length_le (by rw [HK.out]; exact Nat.le_refl _)] at this
          have hend : ∀ (b : Bool) W, Below w.heap.size w W → GreatT (.mk k d ⟨o, ⟨i1, p1, l1⟩, ⟨i2, p2, l2⟩⟩ ks) w (.returned (.bool b)) W := fun b W hW => ⟨b, rfl, fun _ => HF.out HG.out.1 HG.out.2 hall.out, hW⟩
          have HEND := hid hend
          clear hend
          have x0_0 := X0.out _ hbel 0 _ rfl
          have x0_1 := X0.out _ hbel 1 _ rfl
          have x0_2 := X0.out _ hbel 2 _ rfl
          have x0_3 := X0.out _ hbel 3 _ rfl
          have x0_4 := X0.out _ hbel 4 _ rfl
          have x0_5 := X0.out _ hbel 5 _ rfl
          have x0_6 := X0.out _ hbel 6 _ rfl
          have x0_7 := X0.out _ hbel 7 _ rfl
          have x0_8 := X0.out _ hbel 8 _ rfl
          have x0_9 := X0.out _ hbel 9 _ rfl
          by_cases ha : a = 0
          · subst ha
            go_wp2_with ((with_reducible refine (count12_any _ _ S _ hin).mono ?_); rintro e w2 ⟨rfl, hb2⟩)
            go_ret
            exact HEND.out _ _ (hbw.trans (hb2.mono hbw.size))
          · have ha2 : (a == 0) = false := by rw [beq_eq_false_iff_ne]; exact ha
            go_wp2_with fail
            go_ret
            exact HEND.out _ _ hbw
theorem sameT_parts (k k' : Nat) (d d' : List UInt8) (r r' : Rg) (ks ks' : List TG) : sameT (.mk k d r ks) (.mk k' d' r' ks') = (decide (k = k') && (d == d') && sameR r r' && sameTs ks ks') := by rw [sameT]
set_option maxHeartbeats 8000000 in
theorem refSame12_any (t : TG) : ∀ (t' : TG) (w : World) (S S' : Nat → Prop) (cs cs' : List Value), TIn w S t cs → TIn w S' t' cs' → fineT t = true → fineT t' = true →
    Calls Tryz.prog 16 #[.agg cs.toArray, .agg cs'.toArray] w fun e w' => e = .returned (.bool (sameT t t')) ∧ Below w.heap.size w w' := by
  induction t using TG.ind with
  | H k d r ks ih =>
    intro t' w S S' cs cs' hs hs' hf hf'
    obtain ⟨o, ⟨i1, p1, l1⟩, ⟨i2, p2, l2⟩⟩ := r
    obtain ⟨_, _, _, _, A1, n1, c1, A2, n2, c2, A3, n3, c3, A4, n4, c4, e, rfl⟩ := hs.form_
    cases e
    dsimp only at hs ⊢
    obtain ⟨k', d', ⟨o', ⟨i1', p1', l1'⟩, ⟨i2', p2', l2'⟩⟩, ks', A1', n1', c1', A2', n2', c2', A3', n3', c3', A4', n4', c4', e, rfl⟩ := hs'.form_
    subst e
    dsimp only at hs' ⊢
    obtain ⟨w0, hw0⟩ : ∃ w0, w0 = ((w.alloc (.cells #[.int .u8 k, .slice A1 n1 c1, .slice A2 n2 c2, .int .u8 o, .bool i1, .bool p1, .slice A3 n3 c3, .bool i2, .bool p2, .slice A4 n4 c4] 29)).alloc (.cells #[.int .u8 k', .slice A1' n1' c1', .slice A2' n2' c2', .int .u8 o', .bool i1', .bool p1', .slice A3' n3' c3', .bool i2', .bool p2', .slice A4' n4' c4'] 29)) := ⟨_, rfl⟩
    have hb0 : Below w.heap.size w w0 := by
      rw [hw0]
      exact ((Below.refl w.heap.size w).alloc (Nat.le_refl _) _).alloc (by simp; try omega) _
    have X0 : Hid (∀ W, Below w0.heap.size w0 W → ∀ k' u, (#[.int .u8 k, .slice A1 n1 c1, .slice A2 n2 c2, .int .u8 o, .bool i1, .bool p1, .slice A3 n3 c3, .bool i2, .bool p2, .slice A4 n4 c4] : Array Value)[k']? = some u → W.cell? ⟨w.heap.size, k', none⟩ = some u) := by
      intro W hW q u hk
      have B0 : Blk w0 w.heap.size 29 #[.int .u8 k, .slice A1 n1 c1, .slice A2 n2 c2, .int .u8 o, .bool i1, .bool p1, .slice A3 n3 c3, .bool i2, .bool p2, .slice A4 n4 c4] := by
        rw [hw0]
        exact (Blk.new w 29 #[.int .u8 k, .slice A1 n1 c1, .slice A2 n2 c2, .int .u8 o, .bool i1, .bool p1, .slice A3 n3 c3, .bool i2, .bool p2, .slice A4 n4 c4]).alloc _
      exact cell_below hW ((B0.cell q).trans hk) B0.lt
    have X1 : Hid (∀ W, Below w0.heap.size w0 W → ∀ k2 u, (#[.int .u8 k', .slice A1' n1' c1', .slice A2' n2' c2', .int .u8 o', .bool i1', .bool p1', .slice A3' n3' c3', .bool i2', .bool p2', .slice A4' n4' c4'] : Array Value)[k2]? = some u → W.cell? ⟨w.heap.size + 1, k2, none⟩ = some u) := by
      intro W hW q u hk
      have B1 : Blk w0 (w.heap.size + 1) 29 #[.int .u8 k', .slice A1' n1' c1', .slice A2' n2' c2', .int .u8 o', .bool i1', .bool p1', .slice A3' n3' c3', .bool i2', .bool p2', .slice A4' n4' c4'] := by
        rw [hw0]
        have h := Blk.new (w.alloc (.cells #[.int .u8 k, .slice A1 n1 c1, .slice A2 n2 c2, .int .u8 o, .bool i1, .bool p1, .slice A3 n3 c3, .bool i2, .bool p2, .slice A4 n4 c4] 29)) 29 #[.int .u8 k', .slice A1' n1' c1', .slice A2' n2' c2', .int .u8 o', .bool i1', .bool p1', .slice A3' n3' c3', .bool i2', .bool p2', .slice A4' n4' c4']
        simpa using h
      exact cell_below hW ((B1.cell q).trans hk) B1.lt
    have HR : Below w0.heap.size w0 w0 := Below.refl _ _
    obtain ⟨_, ⟨_, ho8⟩, ⟨r1, r3, r4⟩, ⟨_, hk, e3, e4⟩, ⟨_, _, _, _, m3, _, m4, _⟩⟩ := (hs.old hb0).inv
    obtain ⟨_, ⟨_, ho8'⟩, ⟨r1', r3', r4'⟩, ⟨_, hk', e3', e4'⟩, ⟨_, _, _, _, m3', _, m4', _⟩⟩ := (hs'.old hb0).inv
    dsimp only at e3 e4 e3' e4' ho8 ho8' r3 r4 r3' r4'
    rw [fineT] at hf hf'
    simp only [Bool.and_eq_true, decide_eq_true_eq] at hf hf'
    obtain ⟨⟨f3, f4⟩, ff⟩ := hf
    obtain ⟨⟨f3', f4'⟩, ff'⟩ := hf'
    have HFF : Hid (∀ x ∈ ks, fineT x = true) := fineL_mem ff
    have HFF' : Hid (∀ x ∈ ks', fineT x = true) := fineL_mem ff'
    obtain ⟨sr, hsr⟩ : ∃ b, b = sameR ⟨o, ⟨i1, p1, l1⟩, ⟨i2, p2, l2⟩⟩ ⟨o', ⟨i1', p1', l1'⟩, ⟨i2', p2', l2'⟩⟩ := ⟨_, rfl⟩
    have KS : Hid (Calls Tryz.prog 35 #[.agg #[.int .u8 o, .bool i1, .bool p1, .slice A3 n3 c3, .bool i2, .bool p2, .slice A4 n4 c4], .agg #[.int .u8 o', .bool i1', .bool p1', .slice A3' n3' c3', .bool i2', .bool p2', .slice A4' n4' c4']] w0 fun e w' => e = .returned (.bool sr) ∧ Below w0.heap.size w0 w') := by
      rw [hsr]
      exact refSame11 ⟨o, ⟨i1, p1, l1⟩, ⟨i2, p2, l2⟩⟩ ⟨o', ⟨i1', p1', l1'⟩, ⟨i2', p2', l2'⟩⟩ ho8 ho8' w0 ⟨r3.reads (by omega), by omega, m3⟩ ⟨r4.reads (by omega), by omega, m4⟩ ⟨r3'.reads (by omega), by omega, m3'⟩ ⟨r4'.reads (by omega), by omega, m4'⟩
    have k1 := run_back (r1.reads (by omega)) (c := c1)
    have k1' := run_back (r1'.reads (by omega)) (c := c1')
    have s1 : (⟨d.toArray⟩ : ByteArray).toList = d := bT_list d
    have s1' : (⟨d'.toArray⟩ : ByteArray).toList = d' := bT_list d'
    generalize (⟨d.toArray⟩ : ByteArray) = D at k1 s1
    generalize (⟨d'.toArray⟩ : ByteArray) = D' at k1' s1'
    have HM : Hid (sameT (.mk k d ⟨o, ⟨i1, p1, l1⟩, ⟨i2, p2, l2⟩⟩ ks) (.mk k' d' ⟨o', ⟨i1', p1', l1'⟩, ⟨i2', p2', l2'⟩⟩ ks') = (decide (k = k') && (D.toList == D'.toList) && sr && sameTs ks ks')) := by show _ = _; rw [sameT_parts, s1, s1', hsr]
    obtain ⟨db, hdb⟩ : ∃ b, b = (D.toList == D'.toList) := ⟨_, rfl⟩
    rw [← hdb] at HM
    have HS := hid hs
    have HS' := hid hs'
    have IH := hid ih
    have HK := hid hk
    have HK' := hid hk'
    have HB0 := hid hb0
    clear hs hs' ih r1 r3 r4 r1' r3' r4' e3 e4 e3' e4' f3 f4 f3' f4' ff ff' hk hk' hsr s1 s1' hb0 m3 m4 m3' m4'
    go_enter Tryz.func16, Tryz.ntmps16
    go_upto_region 1 with fail
    rw [← hw0]
    clear hw0
    have x0_0 := X0.out _ HR 0 _ rfl
    have x0_1 := X0.out _ HR 1 _ rfl
    have x0_2 := X0.out _ HR 2 _ rfl
    have x0_3 := X0.out _ HR 3 _ rfl
    have x0_4 := X0.out _ HR 4 _ rfl
    have x0_5 := X0.out _ HR 5 _ rfl
    have x0_6 := X0.out _ HR 6 _ rfl
    have x0_7 := X0.out _ HR 7 _ rfl
    have x0_8 := X0.out _ HR 8 _ rfl
    have x0_9 := X0.out _ HR 9 _ rfl
    have x1_0 := X1.out _ HR 0 _ rfl
    have x1_1 := X1.out _ HR 1 _ rfl
    have x1_2 := X1.out _ HR 2 _ rfl
    have x1_3 := X1.out _ HR 3 _ rfl
    have x1_4 := X1.out _ HR 4 _ rfl
    have x1_5 := X1.out _ HR 5 _ rfl
    have x1_6 := X1.out _ HR 6 _ rfl
    have x1_7 := X1.out _ HR 7 _ rfl
    have x1_8 := X1.out _ HR 8 _ rfl
    have x1_9 := X1.out _ HR 9 _ rfl
    by_cases q1 : ¬ k = k'
    · have q1B : (k != k') = true := by simpa using q1
      have HN : Hid (decide (k = k') = false) := decide_eq_false q1
      have q1I : ((k : Int) != (k' : Int)) = true := by rw [bne_iff_ne]; omega
      clear q1
      go_wp2_with fail
      go_ret
      exact ⟨ret_bool (by rw [HM.out, HN.out]; rfl), HB0.out⟩
    have q1 : k = k' := Classical.not_not.1 q1
    subst q1
    have HE1 : Hid (decide (k = k) = true) := decide_eq_true rfl
    cases db with
    | false =>
      have q2 : ¬ D.toList = D'.toList := fun e => by rw [e] at hdb; simp at hdb
      clear hdb
      go_wp2_with fail
      go_ret
      exact ⟨ret_bool (by rw [HM.out, HE1.out]; rfl), HB0.out⟩
    | true =>
      have q2 : D.toList = D'.toList := by simpa using hdb.symm
      clear hdb
      cases sr with
      | false =>
        go_wp2_with (go_at_call 35; refine (KS.out).mono ?_; rintro e w1 ⟨rfl, hb1⟩)
        go_ret
        exact ⟨ret_bool (by rw [HM.out, HE1.out]; rfl), HB0.out.trans (hb1.mono HB0.out.size)⟩
      | true =>
        have HM' : Hid (sameT (.mk k d ⟨o, ⟨i1, p1, l1⟩, ⟨i2, p2, l2⟩⟩ ks) (.mk k d' ⟨o', ⟨i1', p1', l1'⟩, ⟨i2', p2', l2'⟩⟩ ks') = sameTs ks ks') := by show _ = _; rw [HM.out, HE1.out]; rfl
        by_cases q5 : ¬ n2 = n2'
        · have HQ := hid (sameTs_len ks ks' (by rw [HK.out, HK'.out]; exact q5))
          have q5' : (n2 != n2') = true := by simpa using q5
          have q5I : ((n2 : Int) != (n2' : Int)) = true := by rw [bne_iff_ne]; omega
          clear q5
          go_wp2_with (go_at_call 35; refine (KS.out).mono ?_; rintro e w1 ⟨rfl, hb1⟩; have y2 := X0.out _ hb1 2 _ rfl; have z2 := X1.out _ hb1 2 _ rfl)
          go_ret
          exact ⟨ret_bool (by rw [HM'.out, HQ.out]), HB0.out.trans (hb1.mono HB0.out.size)⟩
        have q5 : n2 = n2' := Classical.not_not.1 q5
        subst q5
        go_wp2_with (go_at_call 35; refine (KS.out).mono ?_; rintro e w1 ⟨rfl, hb1⟩; have y2 := X0.out _ hb1 2 _ rfl; have z2 := X1.out _ hb1 2 _ rfl)
        go_loopw [40] (fun i wr => ∃ q : Nat, q ≤ n2 ∧ i = .int .i64 q ∧ Hid (sameTs (ks.take q) (ks'.take q) = true) ∧ Below w0.heap.size w0 wr) (fun i _ => n2 - (intOf i).toNat)
        case atStart => exact ⟨0, Nat.zero_le _, rfl, rfl, hb1⟩
        case round =>
          clear x0_0 x1_0 x0_1 x1_1 x0_2 x1_2 x0_3 x1_3 x0_4 x1_4 x0_5 x1_5 x0_6 x1_6 x0_7 x1_7 x0_8 x1_8 x0_9 x1_9 HR y2 z2 hb1 k1 k1' q2
          obtain ⟨q, hqn, rfl, hcl, hbel⟩ := hrel
          have hbw := HB0.out.trans (hbel.mono HB0.out.size)
          by_cases hlt : q < n2
          · obtain ⟨ad, v0, v1, v2, v3, v4, v5, v6, v7, v8, v9, t, rfl, hS, hks, hm, hin, d0, d1, d2, d3, d4, d5, d6, d7, d8, d9⟩ := (HS.out.old hbw).kid hlt
            obtain ⟨ad', v0', v1', v2', v3', v4', v5', v6', v7', v8', v9', t', rfl, hS', hks', hm', hin', d0', d1', d2', d3', d4', d5', d6', d7', d8', d9'⟩ := (HS'.out.old hbw).kid hlt
            have x0_2 := X0.out _ hbel 2 _ rfl
            have x1_2 := X1.out _ hbel 2 _ rfl
            have hlt' : (q : Int) < n2 := by omega
            have hdr : Below wr.heap.size wr wr.drew := (Below.refl _ _).drew
            have hdin := hin.old hdr
            have hdin' := hin'.old hdr
            have hbd := hbel.trans (hdr.mono hbel.size)
            have hbdw := hbw.trans (hdr.mono hbw.size)
            have HM2 := hid hm
            have HF1 := hid (HFF.out t hm)
            have HF2 := hid (HFF'.out t' hm')
            have HT := hid (sameTs_take ks ks' q t t' hks hks')
            have HBad := hid (sameTs_bad ks ks' q t t' hks hks')
            clear hks hks' hm hm' hin hin'
            go_wp2_with fail
            go_still_tail 10, (by kernel_rfl)
            change wpList _ _ _ _ _ wr.drew
            clear d0 d1 d2 d3 d4 d5 d6 d7 d8 d9 d0' d1' d2' d3' d4' d5' d6' d7' d8' d9' x0_2 x1_2 hdr hbel hbw
            generalize wr.drew = wd at *
            have ihh := IH.out t HM2.out t' wd S S' _ _ hdin hdin' HF1.out HF2.out
            obtain ⟨b, hb⟩ : ∃ b, b = sameT t t' := ⟨_, rfl⟩
            rw [← hb] at ihh HT HBad
            have KI := hid ihh
            clear hb ihh hdin hdin'
            cases b with
            | true =>
              go_wp2_with (go_at_call 16; refine (KI.out).mono ?_; rintro e w2 ⟨rfl, hb2⟩)
              go_roundw
              case rel => exact ⟨q + 1, by omega, by go_num, (show _ = _ by rw [HT.out, hcl.out]; rfl), hbd.trans (hb2.mono hbd.size)⟩
              case measure => simp [intOf]; omega
            | false =>
              go_wp2_with (go_at_call 16; refine (KI.out).mono ?_; rintro e w2 ⟨rfl, hb2⟩)
              go_ret
              exact ⟨ret_bool (by rw [HM'.out, HBad.out (by simp)]), hbdw.trans (hb2.mono hbdw.size)⟩
          · obtain rfl : q = n2 := by omega
            have hall : Hid (sameTs ks ks' = true) := by
              have h := hcl.out
              rw [List.take_of_length_le (by rw [HK.out]; exact Nat.le_refl _), List.take_of_length_le (by rw [HK'.out]; exact Nat.le_refl _)] at h
              exact h
            go_wp2_with fail
            go_ret
            exact ⟨ret_bool (by rw [HM'.out, hall.out]), hbw⟩
end Go.Proofs.YtinlonpcakkfhaaGreatDoor
end
section
set_option maxRecDepth 100000
namespace Tag12
open Ord11 Sx
def ownR (C : Cmp) (k : Nat) (d : List UInt8) (r : Rg) (ks : List TG) : Bool :=
  if k = 1 then sameR r zeroR && d.isEmpty && ks.isEmpty else if k = 2 ∨ k = 5 then sameR r zeroR && ks.isEmpty
    else if k = 3 then sameR r zeroR && d.isEmpty && !headStar ks else if k = 4 then sameR r zeroR && d.isEmpty
    else if k = 6 then mayR C r && d.isEmpty && ks.isEmpty else false
theorem right_own (C : Cmp) (k : Nat) (d : List UInt8) (r : Rg) (ks : List TG) : rightT C (.mk k d r ks) = (ownR C k d r ks && rightsT C ks) := by rw [rightT]; rfl
theorem rightsT_take (C : Cmp) (l : List TG) (k : Nat) (x : TG) (h : l[k]? = some x) : rightsT C (l.take (k + 1)) = (rightsT C (l.take k) && rightT C x) := by
  rw [take_snocT h]
  have : ∀ (l : List TG) (t : TG), rightsT C (l ++ [t]) = (rightsT C l && rightT C t) := by
    intro l t
    induction l with
    | nil => simp [rightsT]
    | cons a r ih => simp [rightsT, ih, Bool.and_assoc]
  exact this _ _
end Tag12
namespace Go.Proofs.YtinlonpcakkfhaaGreatDoor
open Go Go.Proofs Go.RowKit Sx _root_.Ord11 Go.Proofs.YtinlonpcakkfhaaGreatDoor.Ord11 _root_.Tag12
theorem int_beq (a b : Nat) : ((a : Int) == (b : Int)) = decide (a = b) := by
  by_cases h : a = b
  · rw [decide_eq_true h, beq_iff_eq, h]
  · rw [decide_eq_false h, beq_eq_false_iff_ne]; omega
theorem int_zero (a : Nat) : ((a : Int) == 0) = decide (a = 0) := int_beq a 0
set_option maxHeartbeats 16000000 in
theorem refRight_any (t : TG) : ∀ (w : World) (S : Nat → Prop) (cs : List Value), TIn w S t cs → fineT t = true →
    Calls Tryz.prog 29 #[.agg cs.toArray] w fun e w' => e = .returned (.bool (rightT ordC t)) ∧ Below w.heap.size w w' := by
  induction t using TG.ind with
  | H k d r ks ih =>
    intro w S cs hs hf
    obtain ⟨o, ⟨i1, p1, l1⟩, ⟨i2, p2, l2⟩⟩ := r
    obtain ⟨_, _, _, _, A1, n1, c1, A2, n2, c2, A3, n3, c3, A4, n4, c4, e, rfl⟩ := hs.form_
    cases e
    dsimp only at hs ⊢
    rw [fineT] at hf
    simp only [Bool.and_eq_true, decide_eq_true_eq] at hf
    obtain ⟨⟨f3, f4⟩, ff⟩ := hf
    have HFF : Hid (∀ x ∈ ks, fineT x = true) := fineL_mem ff
    obtain ⟨X, hX⟩ : ∃ b, b = ownR ordC k d ⟨o, ⟨i1, p1, l1⟩, ⟨i2, p2, l2⟩⟩ ks := ⟨_, rfl⟩
    have HM : Hid (rightT ordC (.mk k d ⟨o, ⟨i1, p1, l1⟩, ⟨i2, p2, l2⟩⟩ ks) = (X && rightsT ordC ks)) := by show _ = _; rw [right_own, hX]
    obtain ⟨pl, hpl⟩ : ∃ b, b = sameR ⟨o, ⟨i1, p1, l1⟩, ⟨i2, p2, l2⟩⟩ zeroR := ⟨_, rfl⟩
    obtain ⟨mr, hmr⟩ : ∃ b, b = mayR ordC ⟨o, ⟨i1, p1, l1⟩, ⟨i2, p2, l2⟩⟩ := ⟨_, rfl⟩
    obtain ⟨w0, hw0⟩ : ∃ w0, w0 = (w.alloc (.cells #[.int .u8 k, .slice A1 n1 c1, .slice A2 n2 c2, .int .u8 o, .bool i1, .bool p1, .slice A3 n3 c3, .bool i2, .bool p2, .slice A4 n4 c4] 29)) := ⟨_, rfl⟩
    have HB0 : Hid (Below w.heap.size w w0) := by
      show Below _ _ _
      rw [hw0]
      exact below_new _ _
    have X0 : Hid (∀ W, Below w0.heap.size w0 W → ∀ k' u, (#[.int .u8 k, .slice A1 n1 c1, .slice A2 n2 c2, .int .u8 o, .bool i1, .bool p1, .slice A3 n3 c3, .bool i2, .bool p2, .slice A4 n4 c4] : Array Value)[k']? = some u → W.cell? ⟨w.heap.size, k', none⟩ = some u) := by
      intro W hW k' u hk
      have B0 : Blk w0 w.heap.size 29 #[.int .u8 k, .slice A1 n1 c1, .slice A2 n2 c2, .int .u8 o, .bool i1, .bool p1, .slice A3 n3 c3, .bool i2, .bool p2, .slice A4 n4 c4] := by
        rw [hw0]
        exact Blk.new w 29 #[.int .u8 k, .slice A1 n1 c1, .slice A2 n2 c2, .int .u8 o, .bool i1, .bool p1, .slice A3 n3 c3, .bool i2, .bool p2, .slice A4 n4 c4]
      exact cell_below hW ((B0.cell k').trans hk) B0.lt
    have HR : Below w0.heap.size w0 w0 := Below.refl _ _
    obtain ⟨_, ⟨hk8, ho8⟩, ⟨r1, r3, r4⟩, ⟨g1, hk, e3, e4⟩, ⟨_, _, b21, b22, m3, _, m4, _⟩⟩ := (hs.old HB0.out).inv
    dsimp only at e3 e4 ho8 r3 r4
    have KS : Hid (Calls Tryz.prog 35 #[.agg #[.int .u8 o, .bool i1, .bool p1, .slice A3 n3 c3, .bool i2, .bool p2, .slice A4 n4 c4], .agg #[.int .u8 0, .bool false, .bool false, .slice none 0 0, .bool false, .bool false, .slice none 0 0]] w0 fun e w' => e = .returned (.bool pl) ∧ Below w0.heap.size w0 w') := by
      rw [hpl]
      exact refSame11 ⟨o, ⟨i1, p1, l1⟩, ⟨i2, p2, l2⟩⟩ zeroR ho8 (by decide) w0 ⟨r3.reads (by omega), by omega, m3⟩ ⟨r4.reads (by omega), by omega, m4⟩ ⟨Reads.none_, by omega, by omega⟩ ⟨Reads.none_, by omega, by omega⟩
    have KM : Hid (∀ W, Below w0.heap.size w0 W → Calls Tryz.prog 57 #[.agg #[.int .u8 o, .bool i1, .bool p1, .slice A3 n3 c3, .bool i2, .bool p2, .slice A4 n4 c4]] W fun e w' => e = .returned (.bool mr) ∧ Below W.heap.size W w') := fun W hW => by
      rw [hmr]
      exact refMay11 ⟨o, ⟨i1, p1, l1⟩, ⟨i2, p2, l2⟩⟩ ho8 W ⟨(r3.old (by omega) hW).reads (by omega), by omega, m3⟩ ⟨(r4.old (by omega) hW).reads (by omega), by omega, m4⟩
    obtain ⟨e1, he1⟩ : ∃ b, decide (n1 = 0) = b := ⟨_, rfl⟩
    obtain ⟨e2, he2⟩ : ∃ b, decide (n2 = 0) = b := ⟨_, rfl⟩
    have Z1 : Hid (d.isEmpty = e1) := by
      show _ = _
      rw [← he1, ← g1]
      cases d <;> simp
    have Z2 : Hid (ks.isEmpty = e2) := by
      show _ = _
      rw [← he2, ← hk]
      cases ks <;> simp
    have hX' : Hid (X = if k = 1 then pl && e1 && e2 else if k = 2 ∨ k = 5 then pl && e2 else if k = 3 then pl && e1 && !headStar ks else if k = 4 then pl && e1 else if k = 6 then mr && e1 && e2 else false) := by
      show _ = _
      rw [hX]; unfold ownR
      rw [← hpl, ← hmr, Z1.out, Z2.out]
    have q1 : ((n1 : Int) == 0) = e1 := by rw [int_zero]; exact he1
    have q2 : ((n2 : Int) == 0) = e2 := by rw [int_zero]; exact he2
    have HE2 := hid he2
    have HS := hid hs
    have IH := hid ih
    have HK := hid hk
    clear hX hpl hmr he1 he2 hs ih hk g1 e3 e4 f3 f4 ff r1 r3 r4 m3 m4
    go_enter Tryz.func29, Tryz.ntmps29
    go_upto_region 1 with fail
    rw [← hw0]
    clear hw0
    have x0_0 := X0.out _ HR 0 _ rfl
    have x0_1 := X0.out _ HR 1 _ rfl
    have x0_2 := X0.out _ HR 2 _ rfl
    have x0_3 := X0.out _ HR 3 _ rfl
    have x0_4 := X0.out _ HR 4 _ rfl
    have x0_5 := X0.out _ HR 5 _ rfl
    have x0_6 := X0.out _ HR 6 _ rfl
    have x0_7 := X0.out _ HR 7 _ rfl
    have x0_8 := X0.out _ HR 8 _ rfl
    have x0_9 := X0.out _ HR 9 _ rfl
    go_upto_region 2 with (go_at_call 35; refine (KS.out).mono ?_; rintro e w1 ⟨rfl, hb1⟩)
    clear x0_0 x0_1 x0_2 x0_3 x0_4 x0_5 x0_6 x0_7 x0_8 x0_9
    have x0_0 := X0.out _ hb1 0 _ rfl
    have x0_1 := X0.out _ hb1 1 _ rfl
    have x0_2 := X0.out _ hb1 2 _ rfl
    have x0_3 := X0.out _ hb1 3 _ rfl
    have x0_4 := X0.out _ hb1 4 _ rfl
    have x0_5 := X0.out _ hb1 5 _ rfl
    have x0_6 := X0.out _ hb1 6 _ rfl
    have x0_7 := X0.out _ hb1 7 _ rfl
    have x0_8 := X0.out _ hb1 8 _ rfl
    have x0_9 := X0.out _ hb1 9 _ rfl
    have hbw1 : Below w.heap.size w w1 := HB0.out.trans (hb1.mono HB0.out.size)
    go_upto_block 0 with fail
    go_cut [4] (fun p wx => p = .bool X ∧ Below w0.heap.size w0 wx)
    case first =>
      have done : ∀ (b : Bool), b = X → Value.bool b = .bool X := fun b h => by rw [h]
      by_cases k1 : k = 1
      · have kB : ((k : Int) == 1) = true := by rw [beq_iff_eq]; omega
        have HXk : Hid (X = (pl && e1 && e2)) := by show _ = _; rw [hX'.out, if_pos k1]
        clear k1
        cases pl <;> cases e1 <;> cases e2
        all_goals
          go_wp2_with fail
          go_meet
          exact ⟨by rw [HXk.out]; rfl, hb1⟩
      have kB1 : ((k : Int) == 1) = false := by rw [beq_eq_false_iff_ne]; omega
      by_cases k2 : k = 2
      · have kB : ((k : Int) == 2) = true := by rw [beq_iff_eq]; omega
        have HXk : Hid (X = (pl && e2)) := by show _ = _; rw [hX'.out, if_neg k1, if_pos (.inl k2)]
        clear k1 k2
        cases pl <;> cases e2
        all_goals
          go_wp2_with fail
          go_meet
          exact ⟨by rw [HXk.out]; rfl, hb1⟩
      have kB2 : ((k : Int) == 2) = false := by rw [beq_eq_false_iff_ne]; omega
      by_cases k5 : k = 5
      · have kB : ((k : Int) == 5) = true := by rw [beq_iff_eq]; omega
        have HXk : Hid (X = (pl && e2)) := by show _ = _; rw [hX'.out, if_neg k1, if_pos (.inr k5)]
        clear k1 k2 k5
        cases pl <;> cases e2
        all_goals
          go_wp2_with fail
          go_meet
          exact ⟨by rw [HXk.out]; rfl, hb1⟩
      have kB5 : ((k : Int) == 5) = false := by rw [beq_eq_false_iff_ne]; omega
      have k25 : ¬ (k = 2 ∨ k = 5) := by omega
      by_cases k3 : k = 3
      · have kB : ((k : Int) == 3) = true := by rw [beq_iff_eq]; omega
        have HXk : Hid (X = (pl && e1 && !headStar ks)) := by show _ = _; rw [hX'.out, if_neg k1, if_neg k25, if_pos k3]
        clear k1 k2 k5 k25 k3
        by_cases hn : n2 = 0
        · have hh : Hid (headStar ks = false) := by show _ = _; rw [List.eq_nil_of_length_eq_zero (HK.out.trans hn)]; rfl
          have he : e2 = true := by rw [← q2, int_zero, decide_eq_true hn]
          subst he
          clear hn
          cases pl <;> cases e1
          all_goals
            go_wp2_with fail
            go_meet
            exact ⟨by rw [HXk.out, hh.out]; rfl, hb1⟩
        · have he : e2 = false := by rw [← q2, int_zero, decide_eq_false hn]
          subst he
          obtain ⟨ad, v0, v1, v2, v3, v4, v5, v6, v7, v8, v9, t, rfl, hS, hks, hm, hin, d0, d1, d2, d3, d4, d5, d6, d7, d8, d9⟩ := (HS.out.old hbw1).kid (k := 0) (by omega)
          rw [Nat.zero_mul, show ad.add 0 = ad from if_pos rfl] at d0 d1
          obtain ⟨k', d', r', ks', B1, m1, j1, B2, m2, j2, B3, m3, j3, B4, m4, j4, et, ec⟩ := hin.form_
          subst et
          injection ec with ec0 ec
          injection ec with ec1 ec
          subst ec0 ec1
          have hin' := hin
          cases hin' with
          | mk h8 h1 b1 h3 b3 h4 b4 h2 b2 hk2 hs2 =>
            have k1 := run_back (h1.reads (by omega)) (c := j1)
            have s1 : (⟨d'.toArray⟩ : ByteArray).toList = d' := bT_list d'
            have hh : Hid (headStar ks = (decide (k' = 2) && (d' == star))) := by
              show _ = _
              cases ks with
              | nil => simp at hks
              | cons y q =>
                have : y = .mk k' d' r' ks' := by simpa using hks
                rw [this]; rfl
            generalize (⟨d'.toArray⟩ : ByteArray) = D at k1 s1
            have s2 : Hid ((d' == star) = (D.toList == star)) := by show _ = _; rw [s1]
            have hn0 : 0 < n2 := by omega
            have hn0B : decide (0 < n2) = true := decide_eq_true hn0
            clear s1 hin hks hm hn h1 h3 h4 h2 hk2 hs2 d2 d3 d4 d5 d6 d7 d8 d9
            have QH := hid q2
            have S0 : Hid ((⟨#[42]⟩ : ByteArray).toList = star) := bT_list [42]
            have SH : Hid (((⟨#[42]⟩ : ByteArray).toList == star) = true) := by show _ = _; rw [S0.out]; rfl
            clear q2
            cases pl with
            | false =>
              go_wp2_with fail
              go_meet
              exact ⟨by rw [HXk.out]; rfl, hb1⟩
            | true =>
              cases e1 with
              | false =>
                go_wp2_with fail
                go_meet
                exact ⟨by rw [HXk.out]; rfl, hb1⟩
              | true =>
                by_cases hk2 : k' = 2
                · have hk2B : ((k' : Int) == 2) = true := by rw [beq_iff_eq]; omega
                  by_cases hD : D.toList = (⟨#[42]⟩ : ByteArray).toList
                  · go_wp2_with fail
                    go_meet
                    exact ⟨by rw [HXk.out, hh.out, s2.out, decide_eq_true hk2, hD, SH.out, QH.out]; rfl, hb1⟩
                  · have hD2 : Hid ((D.toList == star) = false) := by show _ = _; rw [beq_eq_false_iff_ne]; exact fun e => hD (e.trans S0.out.symm)
                    go_wp2_with fail
                    go_meet
                    have hD3 : Hid ((D.toList == [42]) = false) := hD2.out
                    exact ⟨by rw [HXk.out, hh.out, s2.out, decide_eq_true hk2, hD3.out, hD2.out, QH.out]; rfl, hb1⟩
                · have hk2B : ((k' : Int) == 2) = false := by rw [beq_eq_false_iff_ne]; omega
                  go_wp2_with fail
                  go_meet
                  exact ⟨by rw [HXk.out, hh.out, decide_eq_false hk2]; rfl, hb1⟩
      have kB3 : ((k : Int) == 3) = false := by rw [beq_eq_false_iff_ne]; omega
      by_cases k4 : k = 4
      · have kB : ((k : Int) == 4) = true := by rw [beq_iff_eq]; omega
        have HXk : Hid (X = (pl && e1)) := by show _ = _; rw [hX'.out, if_neg k1, if_neg k25, if_neg k3, if_pos k4]
        clear k1 k2 k5 k25 k3 k4
        cases pl <;> cases e1
        all_goals
          go_wp2_with fail
          go_meet
          exact ⟨by rw [HXk.out]; rfl, hb1⟩
      have kB4 : ((k : Int) == 4) = false := by rw [beq_eq_false_iff_ne]; omega
      by_cases k6 : k = 6
      · have kB : ((k : Int) == 6) = true := by rw [beq_iff_eq]; omega
        have HXk : Hid (X = (mr && e1 && e2)) := by show _ = _; rw [hX'.out, if_neg k1, if_neg k25, if_neg k3, if_neg k4, if_pos k6]
        clear k1 k2 k5 k25 k3 k4 k6
        cases mr <;> cases e1 <;> cases e2
        all_goals
          go_wp2_with (go_at_call 57; refine (KM.out _ hb1).mono ?_; rintro e w2 ⟨rfl, hb2⟩; have hbw2 : Below w0.heap.size w0 w2 := hb1.trans (hb2.mono hb1.size); have x0_0 := X0.out _ hbw2 0 _ rfl; have x0_1 := X0.out _ hbw2 1 _ rfl; have x0_2 := X0.out _ hbw2 2 _ rfl; have x0_3 := X0.out _ hbw2 3 _ rfl; have x0_4 := X0.out _ hbw2 4 _ rfl; have x0_5 := X0.out _ hbw2 5 _ rfl; have x0_6 := X0.out _ hbw2 6 _ rfl; have x0_7 := X0.out _ hbw2 7 _ rfl; have x0_8 := X0.out _ hbw2 8 _ rfl; have x0_9 := X0.out _ hbw2 9 _ rfl)
          go_meet
          exact ⟨by rw [HXk.out]; rfl, by assumption⟩
      · have kB6 : ((k : Int) == 6) = false := by rw [beq_eq_false_iff_ne]; omega
        have HXk : Hid (X = false) := by show _ = _; rw [hX'.out, if_neg k1, if_neg k25, if_neg k3, if_neg k4, if_neg k6]
        clear k1 k2 k5 k25 k3 k4 k6
        go_wp2_with fail
        go_meet
        exact ⟨by rw [HXk.out], hb1⟩
    case rest =>
      obtain ⟨rfl, hb2⟩ := hcut
      clear hX' Z1 Z2 HE2 q1 q2 e1 e2 KM mr hb1 hbw1 HR x0_0 x0_1 x0_2 x0_3 x0_4 x0_5 x0_6 x0_7 x0_8 x0_9
      have x0_2 := X0.out _ hb2 2 _ rfl
      go_wp2_with fail
      go_loopw [4, 98] (fun v i wr => ∃ q : Nat, q ≤ n2 ∧ i = .int .i64 q ∧ v = .bool (X && rightsT ordC (ks.take q)) ∧ Below w0.heap.size w0 wr) (fun _ i _ => n2 - (intOf i).toNat)
      case atStart => exact ⟨0, Nat.zero_le _, rfl, by simp [rightsT], hb2⟩
      case round =>
        clear x0_2 hb2
        obtain ⟨q, hqn, rfl, rfl, hbel⟩ := hrel
        have hbw := HB0.out.trans (hbel.mono HB0.out.size)
        by_cases hlt : q < n2
        · obtain ⟨ad, v0, v1, v2, v3, v4, v5, v6, v7, v8, v9, t, rfl, hS, hks, hm, hin, d0, d1, d2, d3, d4, d5, d6, d7, d8, d9⟩ := (HS.out.old hbw).kid hlt
          have x0_2 := X0.out _ hbel 2 _ rfl
          have HT := hid (rightsT_take ordC ks q t hks)
          have HM2 := hid hm
          have hsz := hbel.size
          clear hks hm
          obtain ⟨bx, hbx⟩ : ∃ b, b = (X && rightsT ordC (ks.take q)) := ⟨_, rfl⟩
          have HX2 : Hid (∀ c : Bool, (bx && c) = true → (X && rightsT ordC (ks.take q)) = true) := by
            show ∀ _, _; intro c h; rw [hbx] at h; exact (Bool.and_eq_true_iff.1 h).1
          have HX3 : Hid (bx = (X && rightsT ordC (ks.take q))) := hbx
          rw [← hbx]
          clear hbx
          cases bx with
          | false =>
            go_wp2_with fail
            go_roundw
            case rel => exact ⟨q + 1, by omega, by go_num, by rw [HT.out, ← Bool.and_assoc, ← HX3.out]; rfl, hbel⟩
            case measure => simp [intOf]; omega
          | true =>
            go_wp2_with ((with_reducible refine (IH.out t HM2.out _ S _ hin (HFF.out t HM2.out)).mono ?_); rintro e w2 ⟨rfl, hb2⟩)
            go_roundw
            case rel => exact ⟨q + 1, by omega, by go_num, by rw [HT.out, ← Bool.and_assoc, ← HX3.out]; rfl, hbel.trans (hb2.mono hsz)⟩
            case measure => simp [intOf]; omega
        · obtain rfl : q = n2 := by omega
          go_wp2_with fail
          go_ret
          exact ⟨ret_bool (by rw [HM.out, List.take_of_length_le (by rw [HK.out]; exact Nat.le_refl _)]), hbw⟩
set_option maxHeartbeats 4000000 in
theorem refTagMay_any (t : TG) (w : World) (S : Nat → Prop) (cs : List Value) (hs : TIn w S t cs) (hf : fineT t = true) (hn : nodes (valueT t) ≤ 1099511627776) (hg : (form (valueT t)).length ≤ 1099511627776) :
    Calls Tryz.prog 11 #[.agg cs.toArray] w fun e w' => e = .returned (.bool (rightT ordC t && may (valueT t))) ∧ Below w.heap.size w w' := by
  obtain ⟨k, d, r, ks, A1, n1, c1, A2, n2, c2, A3, n3, c3, A4, n4, c4, et, rfl⟩ := hs.form_
  obtain ⟨o, ⟨i1, p1, l1⟩, ⟨i2, p2, l2⟩⟩ := r
  dsimp only at hs ⊢
  have HE := hid et
  clear et
  obtain ⟨w0, hw0⟩ : ∃ w0, w0 = (w.alloc (.cells #[.int .u8 k, .slice A1 n1 c1, .slice A2 n2 c2, .int .u8 o, .bool i1, .bool p1, .slice A3 n3 c3, .bool i2, .bool p2, .slice A4 n4 c4] 29)) := ⟨_, rfl⟩
  have HB0 : Hid (Below w.heap.size w w0) := by
    show Below _ _ _
    rw [hw0]
    exact below_new _ _
  have X0 : Hid (∀ W, Below w0.heap.size w0 W → ∀ k' u, (#[.int .u8 k, .slice A1 n1 c1, .slice A2 n2 c2, .int .u8 o, .bool i1, .bool p1, .slice A3 n3 c3, .bool i2, .bool p2, .slice A4 n4 c4] : Array Value)[k']? = some u → W.cell? ⟨w.heap.size, k', none⟩ = some u) := by
    intro W hW k' u hk
    have B0 : Blk w0 w.heap.size 29 #[.int .u8 k, .slice A1 n1 c1, .slice A2 n2 c2, .int .u8 o, .bool i1, .bool p1, .slice A3 n3 c3, .bool i2, .bool p2, .slice A4 n4 c4] := by
      rw [hw0]
      exact Blk.new w 29 #[.int .u8 k, .slice A1 n1 c1, .slice A2 n2 c2, .int .u8 o, .bool i1, .bool p1, .slice A3 n3 c3, .bool i2, .bool p2, .slice A4 n4 c4]
    exact cell_below hW ((B0.cell k').trans hk) B0.lt
  have HR : Below w0.heap.size w0 w0 := Below.refl _ _
  have HS := hid hs
  have HF := hid hf
  have KR : Hid (Calls Tryz.prog 29 #[.agg #[.int .u8 k, .slice A1 n1 c1, .slice A2 n2 c2, .int .u8 o, .bool i1, .bool p1, .slice A3 n3 c3, .bool i2, .bool p2, .slice A4 n4 c4]] w0 fun e w' => e = .returned (.bool (rightT ordC t)) ∧ Below w0.heap.size w0 w') := refRight_any t w0 S _ (hs.old HB0.out) hf
  have KV : Hid (∀ W, Below w0.heap.size w0 W → Calls Tryz.prog 15 #[.agg #[.int .u8 k, .slice A1 n1 c1, .slice A2 n2 c2, .int .u8 o, .bool i1, .bool p1, .slice A3 n3 c3, .bool i2, .bool p2, .slice A4 n4 c4]] W fun e w' => ∃ v, e = .returned v ∧ SxV S W.heap.size (valueT t) v w' ∧ Below W.heap.size W w') := fun W hW => refValue_any t W S _ (hs.old (next_below HB0.out hW))
  have KM : Hid (∀ W cs, SIn W (fun b => S b ∨ w0.heap.size ≤ b) (valueT t) cs → Calls Tryz.prog 22 #[.agg cs.toArray] W fun e w' => e = .returned (.bool (may (valueT t))) ∧ Below W.heap.size W w') := fun W cs h => refMay_any _ W _ _ h hn hg
  obtain ⟨b1, hb1⟩ : ∃ b, b = rightT ordC t := ⟨_, rfl⟩
  obtain ⟨b2, hb2⟩ : ∃ b, b = may (valueT t) := ⟨_, rfl⟩
  rw [← hb1] at KR
  rw [← hb2] at KM
  rw [← hb1, ← hb2]
  clear hs hf hn hg hb1 hb2
  go_enter Tryz.func11, Tryz.ntmps11
  go_upto_region 1 with fail
  rw [← hw0]
  clear hw0
  have x0_0 := X0.out _ HR 0 _ rfl
  have x0_1 := X0.out _ HR 1 _ rfl
  have x0_2 := X0.out _ HR 2 _ rfl
  have x0_3 := X0.out _ HR 3 _ rfl
  have x0_4 := X0.out _ HR 4 _ rfl
  have x0_5 := X0.out _ HR 5 _ rfl
  have x0_6 := X0.out _ HR 6 _ rfl
  have x0_7 := X0.out _ HR 7 _ rfl
  have x0_8 := X0.out _ HR 8 _ rfl
  have x0_9 := X0.out _ HR 9 _ rfl
  cases b1 with
  | false =>
    go_wp2_with (go_at_call 29; refine (KR.out).mono ?_; rintro e w1 ⟨rfl, hq1⟩)
    go_ret
    exact ⟨rfl, next_below HB0.out hq1⟩
  | true =>
    go_wp2_with first | (go_at_call 29; refine (KR.out).mono ?_; rintro e w1 ⟨rfl, hq1⟩; have x0_0 := X0.out _ hq1 0 _ rfl; have x0_1 := X0.out _ hq1 1 _ rfl; have x0_2 := X0.out _ hq1 2 _ rfl; have x0_3 := X0.out _ hq1 3 _ rfl; have x0_4 := X0.out _ hq1 4 _ rfl; have x0_5 := X0.out _ hq1 5 _ rfl; have x0_6 := X0.out _ hq1 6 _ rfl; have x0_7 := X0.out _ hq1 7 _ rfl; have x0_8 := X0.out _ hq1 8 _ rfl; have x0_9 := X0.out _ hq1 9 _ rfl) | (go_at_call 15; refine (KV.out _ hq1).mono ?_; rintro e w2 ⟨v, rfl, hv, hq2⟩; obtain ⟨v0, v1, v2, v3, v4, rfl, hin⟩ := hv; have hsz := hq1.size; have hin2 := hin.more (S' := fun b => S b ∨ w0.heap.size ≤ b) (fun b h => h.elim Or.inl (fun h => Or.inr (Nat.le_trans hsz h)))) | (go_at_call 22; (refine (KM.out _ _ hin2).mono ?_); rintro e w3 ⟨rfl, hq3⟩)
    go_ret
    exact ⟨rfl, next_below HB0.out (hq1.trans ((hq2.trans (hq3.mono hq2.size)).mono hq1.size))⟩
set_option maxHeartbeats 4000000 in
theorem refRequest_any (t : SX) (w : World) (S : Nat → Prop) (cs : List Value) (hs : SIn w S t cs) (hn : nodes t ≤ 1099511627776) (hg : (form t).length ≤ 1099511627776) :
    Calls Tryz.prog 20 #[.agg cs.toArray] w fun e w' => e = .returned (.bool (may t && concrete t)) ∧ Below w.heap.size w w' := by
  obtain ⟨l, h, hi, da, ks, A1, n1, c1, A2, n2, c2, A3, n3, c3, et, rfl⟩ := hs.form_
  have HE := hid et
  clear et
  obtain ⟨w0, hw0⟩ : ∃ w0, w0 = (w.alloc (.cells #[.bool l, .bool h, .slice A1 n1 c1, .slice A2 n2 c2, .slice A3 n3 c3] 34)) := ⟨_, rfl⟩
  have HB0 : Hid (Below w.heap.size w w0) := by
    show Below _ _ _
    rw [hw0]
    exact below_new _ _
  have X0 : Hid (∀ W, Below w0.heap.size w0 W → ∀ k' u, (#[.bool l, .bool h, .slice A1 n1 c1, .slice A2 n2 c2, .slice A3 n3 c3] : Array Value)[k']? = some u → W.cell? ⟨w.heap.size, k', none⟩ = some u) := by
    intro W hW k' u hk
    have B0 : Blk w0 w.heap.size 34 #[.bool l, .bool h, .slice A1 n1 c1, .slice A2 n2 c2, .slice A3 n3 c3] := by
      rw [hw0]
      exact Blk.new w 34 #[.bool l, .bool h, .slice A1 n1 c1, .slice A2 n2 c2, .slice A3 n3 c3]
    exact cell_below hW ((B0.cell k').trans hk) B0.lt
  have HR : Below w0.heap.size w0 w0 := Below.refl _ _
  have KM : Hid (Calls Tryz.prog 22 #[.agg #[.bool l, .bool h, .slice A1 n1 c1, .slice A2 n2 c2, .slice A3 n3 c3]] w0 fun e w' => e = .returned (.bool (may t)) ∧ Below w0.heap.size w0 w') := refMay_any t w0 S _ (hs.old HB0.out) hn hg
  have KC : Hid (∀ W, Below w0.heap.size w0 W → Calls Tryz.prog 42 #[.agg #[.bool l, .bool h, .slice A1 n1 c1, .slice A2 n2 c2, .slice A3 n3 c3]] W fun e w' => e = .returned (.bool (concrete t)) ∧ Below W.heap.size W w') := fun W hW => concrete12_any t W S _ (hs.old (next_below HB0.out hW))
  obtain ⟨b1, hb1⟩ : ∃ b, b = may t := ⟨_, rfl⟩
  obtain ⟨b2, hb2⟩ : ∃ b, b = concrete t := ⟨_, rfl⟩
  rw [← hb1] at KM
  rw [← hb2] at KC
  rw [← hb1, ← hb2]
  clear hs hn hg hb1 hb2
  go_enter Tryz.func20, Tryz.ntmps20
  go_upto_region 1 with fail
  rw [← hw0]
  clear hw0
  have x0_0 := X0.out _ HR 0 _ rfl
  have x0_1 := X0.out _ HR 1 _ rfl
  have x0_2 := X0.out _ HR 2 _ rfl
  have x0_3 := X0.out _ HR 3 _ rfl
  have x0_4 := X0.out _ HR 4 _ rfl
  cases b1 with
  | false =>
    go_wp2_with (go_at_call 22; refine (KM.out).mono ?_; rintro e w1 ⟨rfl, hq1⟩)
    go_ret
    exact ⟨rfl, next_below HB0.out hq1⟩
  | true =>
    go_wp2_with first | (go_at_call 22; refine (KM.out).mono ?_; rintro e w1 ⟨rfl, hq1⟩; have x0_0 := X0.out _ hq1 0 _ rfl; have x0_1 := X0.out _ hq1 1 _ rfl; have x0_2 := X0.out _ hq1 2 _ rfl; have x0_3 := X0.out _ hq1 3 _ rfl; have x0_4 := X0.out _ hq1 4 _ rfl) | (go_at_call 42; refine (KC.out _ hq1).mono ?_; rintro e w2 ⟨rfl, hq2⟩)
    go_ret
    exact ⟨rfl, next_below HB0.out (hq1.trans (hq2.mono hq1.size))⟩
end Go.Proofs.YtinlonpcakkfhaaGreatDoor
end
section
set_option maxRecDepth 100000
namespace Go.Proofs.YtinlonpcakkfhaaGreatDoor
open Go Go.Proofs Go.RowKit Sx _root_.Ord11 Go.Proofs.YtinlonpcakkfhaaGreatDoor.Ord11 _root_.Tag12 Sch
def KidsT (w : World) (S : Nat → Prop) (ks : List TG) (xs : List Value) : Prop := ∀ i t, ks[i]? = some t → TIn w S t ((xs.drop (i * 10)).take 10)
theorem infoTagB : (Tryz.prog.info? 29).map (fun i => (i.zero, i.size, i.bytes)) = some (some (.agg #[.int .u8 0, .slice none 0 0, .slice none 0 0, .int .u8 0, .bool false, .bool false, .slice none 0 0, .bool false, .bool false, .slice none 0 0]), 10, 128) := by kernel_rfl
theorem kids_oneT {w : World} {S : Nat → Prop} {t : TG} {a b c d e f g h i j : Value} (H : TIn w S t [a, b, c, d, e, f, g, h, i, j]) : KidsT w S [t] [a, b, c, d, e, f, g, h, i, j] := by
  intro i u hi
  match i, hi with
  | 0, hi => simp at hi; subst hi; exact H
def TlO (Sd : Nat → Prop) (B : Nat) (ks : List TG) (v : Value) (w : World) : Prop :=
  ∃ n xs, ks.length = n ∧ w.ownsRow B 29 10 v n xs ∧ KidsT w (fun b => (Sd b ∨ B ≤ b) ∧ some b ≠ v.ownBlock) ks xs
theorem TlO.old {Sd : Nat → Prop} {B : Nat} {ks : List TG} {v : Value} {w w' : World} (h : TlO Sd B ks v w) (hb : Below w.heap.size w w') : TlO Sd B ks v w' := by
  obtain ⟨n, xs, h1, h2, h3⟩ := h
  exact ⟨n, xs, h1, own_old h2 hb, fun i t hi => (h3 i t hi).old hb⟩
theorem kids_appT {w : World} {S : Nat → Prop} {ks ls : List TG} {xs ys : List Value} (h : KidsT w S ks xs) (hx : xs.length = ks.length * 10) (h' : KidsT w S ls ys) : KidsT w S (ks ++ ls) (xs ++ ys) := by
  intro i t hi
  by_cases hlt : i < ks.length
  · rw [List.getElem?_append_left hlt] at hi
    have := h i t hi
    rwa [List.drop_append_of_le_length (by omega), List.take_append_of_le_length (by rw [List.length_drop]; omega)]
  · rw [List.getElem?_append_right (by omega)] at hi
    have := h' _ t hi
    rw [List.drop_append, List.drop_of_length_le (by omega), List.nil_append, hx]
    rwa [show i * 10 - ks.length * 10 = (i - ks.length) * 10 by omega]
theorem tlo_nil {Sd : Nat → Prop} {B : Nat} {V : World} (hB : B ≤ V.heap.size) : TlO Sd B [] (.slice (some ⟨V.heap.size, 0, none⟩) 0 0) (V.alloc (.cells #[] 29)) := by
  refine ⟨0, [], rfl, ⟨rfl, .inr ⟨V.heap.size, 0, #[], rfl, hB, heap_alloc_new V _, Nat.le_refl _, by unfold maxLen; omega, rfl, rfl⟩⟩, fun i t h => by simp at h⟩
theorem tlo_app {Sd S0 : Nat → Prop} {B B2 n m : Nat} {ks ls : List TG} {v v' : Value} {V w' : World} {xs ys : List Value} (hk : ks.length = n) (h2 : V.ownsRow B 29 10 v n xs)
    (h3 : KidsT V (fun b => (Sd b ∨ B ≤ b) ∧ some b ≠ v.ownBlock) ks xs) (hl : ls.length = m) (hy : KidsT V (fun b => S0 b ∨ B2 ≤ b) ls ys) (hS : ∀ b, S0 b → Sd b ∧ b < B) (hB : B ≤ B2) (ho : ∀ g, v.ownBlock = some g → g < B2)
    (hown : w'.ownsRow B 29 10 v' (n + m) (xs ++ ys)) (hgr : V.grownBy w' v.ownBlock) (hb : v'.ownBlock = v.ownBlock ∨ v'.ownBlock = some V.heap.size) : TlO Sd B (ks ++ ls) v' w' := by
  have hlt := h2.lt
  refine ⟨n + m, xs ++ ys, by rw [List.length_append]; omega, hown, kids_appT (fun i t hi => ?_) (by rw [h2.1]; omega) (fun i t hi => ?_)⟩
  · refine (((h3 i t hi).size_).grown hgr fun b hb => hb.1.2).more fun b hb2 => ⟨hb2.1.1, ?_⟩
    rcases hb with e | e
    · rw [e]; exact hb2.1.2
    · rw [e]; intro e2; injection e2 with e2; have := hb2.2; omega
  · have hne : ∀ b, (S0 b ∨ B2 ≤ b) → some b ≠ v.ownBlock := by
      intro b hb2 e
      have h1 := (hlt b e.symm).1
      have h2 := ho b e.symm
      rcases hb2 with h | h
      · have := (hS b h).2; omega
      · omega
    refine (((hy i t hi).size_).grown hgr fun b hb => hne b hb.1).more fun b hb2 => ⟨hb2.1.elim (fun h => .inl (hS b h).1) fun h => .inr (by omega), ?_⟩
    rcases hb with e | e
    · rw [e]; exact hne b hb2.1
    · rw [e]; intro e2; injection e2 with e2; have := hb2.2; omega
end Go.Proofs.YtinlonpcakkfhaaGreatDoor
end
section
set_option maxRecDepth 100000
namespace Tag12
open Ord11 Sx
theorem getsT_snoc (C : Cmp) (l : List SX) (x : SX) : getsT C (l ++ [x]) = match getsT C l, getT C x with | some ts, some t => some (ts ++ [t]) | _, _ => none := by
  induction l with
  | nil => show getsT C [x] = _; rw [getsT, getsT]; cases getT C x <;> rfl
  | cons a r ih =>
    rw [List.cons_append, getsT, ih, getsT]
    cases getT C a <;> cases getsT C r <;> cases getT C x <;> rfl
theorem getsT_none (C : Cmp) {l : List SX} {x : SX} (hx : x ∈ l) (hn : getT C x = none) : getsT C l = none := by
  induction l with
  | nil => cases hx
  | cons a r ih =>
    rw [getsT]
    rcases List.mem_cons.1 hx with rfl | h
    · rw [hn]
    · rw [ih h]; cases getT C a <;> rfl
theorem getsT_len (C : Cmp) {l : List SX} {ts : List TG} (h : getsT C l = some ts) : ts.length = l.length := by
  induction l generalizing ts with
  | nil => rw [getsT] at h; cases h; rfl
  | cons a r ih =>
    rw [getsT] at h
    cases h1 : getT C a with
    | none => rw [h1] at h; cases h
    | some t =>
      cases h2 : getsT C r with
      | none => rw [h1, h2] at h; cases h
      | some q =>
        rw [h1, h2] at h
        injection h with h
        subst h
        simp [ih h2]
end Tag12
namespace Go.Proofs.YtinlonpcakkfhaaGreatDoor
open Go Go.Proofs Go.RowKit Sx _root_.Ord11 Go.Proofs.YtinlonpcakkfhaaGreatDoor.Ord11 _root_.Tag12 Sch
def TagA (a : Option TG) (S : Nat → Prop) (v : Value) (w : World) : Prop :=
  ∃ t c0 c1 c2 c3 c4 c5 c6 c7 c8 c9, v = .tuple #[.agg #[c0, c1, c2, c3, c4, c5, c6, c7, c8, c9], .bool a.isSome] ∧ TIn w S t [c0, c1, c2, c3, c4, c5, c6, c7, c8, c9] ∧ (∀ y, a = some y → y = t)
theorem TagA.ten {a : Option TG} {S : Nat → Prop} {v : Value} {w : World} (h : TagA a S v w) : ∃ (t : TG) (k o : Nat) (i1 p1 i2 p2 : Bool) (A1 : Option Addr) (n1 c1 : Nat) (A2 : Option Addr) (n2 c2 : Nat) (A3 : Option Addr) (n3 c3 : Nat) (A4 : Option Addr) (n4 c4 : Nat),
    v = .tuple #[.agg #[.int .u8 k, .slice A1 n1 c1, .slice A2 n2 c2, .int .u8 o, .bool i1, .bool p1, .slice A3 n3 c3, .bool i2, .bool p2, .slice A4 n4 c4], .bool a.isSome] ∧ TIn w S t [.int .u8 k, .slice A1 n1 c1, .slice A2 n2 c2, .int .u8 o, .bool i1, .bool p1, .slice A3 n3 c3, .bool i2, .bool p2, .slice A4 n4 c4] ∧ (∀ y, a = some y → y = t) := by
  obtain ⟨t, c0, c1, c2, c3, c4, c5, c6, c7, c8, c9, rfl, hin, hy⟩ := h
  obtain ⟨_, _, _, _, _, _, _, _, _, _, _, _, _, _, _, _, -, e⟩ := hin.form_
  injection e with e0 e; injection e with e1 e; injection e with e2 e; injection e with e3 e; injection e with e4 e; injection e with e5 e; injection e with e6 e; injection e with e7 e; injection e with e8 e; injection e with e9 e
  subst e0 e1 e2 e3 e4 e5 e6 e7 e8 e9
  exact ⟨_, _, _, _, _, _, _, _, _, _, _, _, _, _, _, _, _, _, _, rfl, hin, hy⟩
theorem TlO.tin {Sd S0 : Nat → Prop} {B k : Nat} {ts : List TG} {v : Value} {w : World} (h : TlO Sd B ts v w) (hk : k < 256) (hn : ts.length ≤ 1099511627776) (hS : ∀ b, (Sd b ∨ B ≤ b) → S0 b) :
    ∃ A n c, v = .slice A n c ∧ TIn w S0 (.mk k [] zeroR ts) [.int .u8 k, .slice none 0 0, .slice A n c, .int .u8 0, .bool false, .bool false, .slice none 0 0, .bool false, .bool false, .slice none 0 0] := by
  obtain ⟨n, xs, h1, h2, h3⟩ := h
  have h3' : KidsT w S0 ts xs := fun i t hi => (h3 i t hi).more fun b hb => hS b hb.1
  rcases h2.2 with ⟨rfl, rfl⟩ | ⟨g, cap, cur, rfl, hb, hg, hnc, hcm, hcs, ht⟩
  · have hx : xs = [] := List.eq_nil_of_length_eq_zero (by simpa using h2.1)
    subst hx
    exact ⟨none, 0, 0, rfl, .mk (xs := []) ⟨hk, by decide⟩ RIn.none_ ⟨Nat.le_refl _, by omega⟩ RIn.none_ ⟨Nat.le_refl _, by omega⟩ RIn.none_ ⟨Nat.le_refl _, by omega⟩ RIn.none_ ⟨Nat.le_refl _, by omega⟩ h1 h3'⟩
  · exact ⟨_, n, cap, rfl, .mk (xs := xs) ⟨hk, by decide⟩ RIn.none_ ⟨Nat.le_refl _, by omega⟩ RIn.none_ ⟨Nat.le_refl _, by omega⟩ RIn.none_ ⟨Nat.le_refl _, by omega⟩ ⟨h2.1, fun _ => ⟨_, rfl, hS _ (.inr hb), h2.cells (g := g) rfl⟩⟩ ⟨hnc, by omega⟩ h1 h3'⟩
def TagsA (a : Option (List TG)) (Sd : Nat → Prop) (B : Nat) (v : Value) (w : World) : Prop := ∃ ts sl, v = .tuple #[sl, .bool a.isSome] ∧ TlO Sd B ts sl w ∧ ts.length ≤ 1099511627776 ∧ (∀ y, a = some y → y = ts)
theorem reads_lit10 (V : World) (z0 z1 z2 z3 z4 z5 z6 z7 z8 z9 : Value) : Reads (V.alloc (.cells #[z0, z1, z2, z3, z4, z5, z6, z7, z8, z9] 29)) (V.heap.size + 1) 10 (some ⟨V.heap.size, 0, none⟩) 1 [z0, z1, z2, z3, z4, z5, z6, z7, z8, z9] := by
  refine ⟨rfl, fun _ => ⟨_, rfl, by simp, fun j u hj => ?_⟩⟩
  rw [show (⟨V.heap.size, 0, none⟩ : Addr).add j = ⟨V.heap.size, j, none⟩ from by unfold Addr.add; split <;> simp_all]
  rw [Lib.cell_of_heap (heap_alloc_new V _)]
  simpa using hj
theorem ones_tin {w : World} {S : Nat → Prop} {t : TG} {cs : List Value} (h : TIn w S t cs) : ∀ u ∈ cs, u.oneCell' = true := by
  obtain ⟨_, _, _, _, _, _, _, _, _, _, _, _, _, _, _, _, -, rfl⟩ := h.form_
  intro u hu
  simp only [List.mem_cons, List.not_mem_nil, or_false] at hu
  rcases hu with rfl | rfl | rfl | rfl | rfl | rfl | rfl | rfl | rfl | rfl <;> rfl
set_option maxHeartbeats 8000000 in
theorem refTags12_any (l : List SX) (w : World) (S : Nat → Prop) (A : Option Addr) (n c : Nat) (hs : RowS w S l A n c) (hn : n ≤ 1099511627776) (hS : ∀ b, S b → b < w.heap.size)
    (IH : ∀ t ∈ l, ∀ (W : World) (cs : List Value), w.heap.size ≤ W.heap.size → SIn W S t cs → Calls Tryz.prog 37 #[.agg cs.toArray] W fun e w' => ∃ v, e = .returned v ∧ TagA (getT ordC t) (fun b => S b ∨ W.heap.size ≤ b) v w' ∧ Below W.heap.size W w') :
    Calls Tryz.prog 63 #[.slice A n c] w fun e w' => ∃ v, e = .returned v ∧ TagsA (getsT ordC l) S w.heap.size v w' ∧ Below w.heap.size w w' := by
  obtain ⟨hl, hc, hm⟩ := hs.len
  obtain ⟨ra, hra⟩ : ∃ e, e = getsT ordC l := ⟨_, rfl⟩
  rw [← hra]
  have HE := hid hra
  have HS := hid hs
  have HI := hid IH
  have HSS := hid hS
  have HL := hid hl
  clear hra hs IH hS
  have HB0 : Hid (Below w.heap.size w (w.alloc (.cells #[] 29))) := below_new _ _
  have HT0 : Hid (TlO S w.heap.size [] (.slice (some ⟨w.heap.size, 0, none⟩) 0 0) (w.alloc (.cells #[] 29))) := tlo_nil (Nat.le_refl _)
  obtain ⟨ib, hib, hzb0, hzb1, hzb2⟩ := info_parts infoTagB
  have HIB := hid hib
  clear hib
  go_enter Tryz.func63, Tryz.ntmps63
  go_upto_region 2 with fail
  generalize w.alloc (.cells #[] 29) = W0 at *
  go_wp2_with fail
  go_loopw [4, 11] (fun p i wr => ∃ (q : Nat) (v : Value) (ts : List TG), v = p ∧ q ≤ n ∧ i = .int .i64 q ∧ Hid (TlO S w.heap.size ts v wr ∧ getsT ordC (l.take q) = some ts) ∧ Below w.heap.size w wr) (fun _ i _ => n - (intOf i).toNat)
  case atStart => exact ⟨0, _, [], rfl, Nat.zero_le _, rfl, ⟨HT0.out, by rw [List.take_zero, getsT]⟩, HB0.out⟩
  case round =>
    obtain ⟨q, v, ts, rfl, hqn, rfl, hlo, hbw⟩ := hrel
    by_cases hlt : q < n
    · obtain ⟨ad, v0, v1, v2, v3, v4, t, rfl, hS0, ht0, htm, hin, d0, d1, d2, d3, d4⟩ := (HS.out.old hbw).at_ hlt
      have HM := hid htm
      have HT := hid ht0
      have HLN : Hid (ts.length ≤ 1099511627776) := by show _ ≤ _; rw [getsT_len ordC hlo.out.2, List.length_take]; omega
      have HBW := hid hbw
      obtain ⟨nA, xsA, hlA, hownW, hkW⟩ := hlo.out.1
      have HLA := hid hlA
      have HOW := hid hownW
      have HKW := hid hkW
      have hnA : nA ≤ q := by rw [← hlA, getsT_len ordC hlo.out.2, List.length_take]; omega
      have KG : Hid (Calls Tryz.prog 37 #[.agg #[v0, v1, v2, v3, v4]] wr fun e w' => ∃ v, e = .returned v ∧ TagA (getT ordC t) (fun b => S b ∨ wr.heap.size ≤ b) v w' ∧ Below wr.heap.size wr w') := HI.out t htm wr _ hbw.size hin
      clear hS0 htm hin hbw hlA hownW hkW ht0
      go_upto_region 6 with (go_at_call 37; refine (KG.out).mono ?_; rintro e V1 ⟨vx, rfl, hta, hb1⟩; obtain ⟨tt, k, o, i1, p1, i2, p2, A1, n1, c1, A2, n2, c2, A3, n3, c3, A4, n4, c4, rfl, htt, hy⟩ := hta.ten)
      have hbV : Below w.heap.size w V1 := HBW.out.trans (hb1.mono HBW.out.size)
      have hb2 : Below V1.heap.size V1 (V1.alloc (.cells #[.int .u8 k, .slice A1 n1 c1, .slice A2 n2 c2, .int .u8 o, .bool i1, .bool p1, .slice A3 n3 c3, .bool i2, .bool p2, .slice A4 n4 c4] 29)) := below_new _ _
      have HB2 := hid (hb1.trans (hb2.mono hb1.size))
      have BT : Blk (V1.alloc (.cells #[.int .u8 k, .slice A1 n1 c1, .slice A2 n2 c2, .int .u8 o, .bool i1, .bool p1, .slice A3 n3 c3, .bool i2, .bool p2, .slice A4 n4 c4] 29)) V1.heap.size 29 #[.int .u8 k, .slice A1 n1 c1, .slice A2 n2 c2, .int .u8 o, .bool i1, .bool p1, .slice A3 n3 c3, .bool i2, .bool p2, .slice A4 n4 c4] := Blk.new _ _ _
      have HTT := hid (htt.old hb2)
      have HBW2 := hid (hbV.trans (hb2.mono hbV.size))
      have HO1 := hid (own_old HOW.out HB2.out)
      have hsz : wr.heap.size ≤ (V1.alloc (.cells #[.int .u8 k, .slice A1 n1 c1, .slice A2 n2 c2, .int .u8 o, .bool i1, .bool p1, .slice A3 n3 c3, .bool i2, .bool p2, .slice A4 n4 c4] 29)).heap.size := HB2.out.size
      have hsz2 : w.heap.size ≤ wr.heap.size := HBW.out.size
      have HY := hid hy
      clear hb1 hb2 hbV htt hy hta
      generalize hgv : V1.heap.size = gv at BT ⊢
      generalize V1.alloc (.cells #[.int .u8 k, .slice A1 n1 c1, .slice A2 n2 c2, .int .u8 o, .bool i1, .bool p1, .slice A3 n3 c3, .bool i2, .bool p2, .slice A4 n4 c4] 29) = W2 at *
      have x0 := BT.cell 0
      have x1 := BT.cell 1
      have x2 := BT.cell 2
      have x3 := BT.cell 3
      have x4 := BT.cell 4
      have x5 := BT.cell 5
      have x6 := BT.cell 6
      have x7 := BT.cell 7
      have x8 := BT.cell 8
      have x9 := BT.cell 9
      obtain ⟨a, ha⟩ : ∃ a, a = getT ordC t := ⟨_, rfl⟩
      have HA := hid ha
      rw [← ha] at HY ⊢
      clear ha
      cases a with
      | none =>
        obtain rfl : ra = none := HE.out.trans (getsT_none ordC HM.out HA.out.symm)
        have hnB : (none : Option TG).isSome = false := rfl
        rw [hnB]
        go_wp2_with fail
        go_ret2
        exact ⟨_, rfl, ⟨ts, v, rfl, hlo.out.1.old HB2.out, HLN.out, by simp⟩, HBW2.out⟩
      | some t' =>
        obtain rfl := HY.out t' rfl
        have hnB : (some t' : Option TG).isSome = true := rfl
        rw [hnB]
        go_wp2_with (at_builtin; go_loud (refine wpList_append_any _ rfl (.tmp 25) (.tmp 27) 23 rfl w.heap.size 29 ib _ 10 128 Tryz.underlying23 HIB.out hzb0 hzb1 hzb2 rfl (by omega) _ nA xsA rfl (HO1.out.alloc _) _ _ 1 _ [.int .u8 k, .slice A1 n1 c1, .slice A2 n2 c2, .int .u8 o, .bool i1, .bool p1, .slice A3 n3 c3, .bool i2, .bool p2, .slice A4 n4 c4] rfl (reads_lit10 W2 _ _ _ _ _ _ _ _ _ _) (ones_tin HTT.out) (by unfold maxLen; omega) (by omega) (by simp; omega) ?_); intro v' V3 hown' hgr hbl)
        have hba : Below W2.heap.size W2 (W2.alloc (.cells #[.int .u8 k, .slice A1 n1 c1, .slice A2 n2 c2, .int .u8 o, .bool i1, .bool p1, .slice A3 n3 c3, .bool i2, .bool p2, .slice A4 n4 c4] 29)) := below_new _ _
        have HNEW : Hid (TlO S w.heap.size (ts ++ [t']) v' V3) := tlo_app (S0 := S) (B2 := wr.heap.size) HLA.out (HO1.out.alloc _) (fun i t hi => ((HKW.out i t hi).old HB2.out).old hba) rfl (kids_oneT (HTT.out.old hba)) (fun b hb => ⟨hb, HSS.out b hb⟩) hsz2 (fun b hb => (HOW.out.lt b hb).2) hown' hgr hbl
        have HB3 : Below w.heap.size w V3 := ((HBW2.out.alloc (by omega) _).grown hgr (by simp; omega) (fun b hb => (HO1.out.lt b hb).1))
        clear hown' hgr hbl
        go_wp2_with fail
        go_roundw
        case rel => exact ⟨q + 1, _, ts ++ [t'], rfl, by omega, by go_num, ⟨HNEW.out, by rw [take_snoc l q t HT.out, getsT_snoc, hlo.out.2, ← HA.out]⟩, HB3⟩
        case measure => simp [intOf]; omega
    · obtain rfl : q = n := by omega
      obtain rfl : ra = some ts := HE.out.trans (by
        have h := hlo.out.2
        rwa [List.take_of_length_le (by rw [HL.out]; exact Nat.le_refl _)] at h)
      go_wp2_with fail
      go_ret2
      exact ⟨_, rfl, ⟨ts, v, rfl, hlo.out.1, by rw [getsT_len ordC hlo.out.2, List.length_take]; omega, by simp⟩, hbw⟩
end Go.Proofs.YtinlonpcakkfhaaGreatDoor
end
