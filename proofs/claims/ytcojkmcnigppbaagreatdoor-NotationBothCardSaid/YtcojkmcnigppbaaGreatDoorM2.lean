/-
  Several texts in one: Sch2, SchL, SchQ, Math, B64Math, Ub64Math, Nota, Nota2, Nota3, Nota4, NtRd, Once, Repl, Rep2, Rep3, Rep4, Rep5, Signs, NtRun, NtPart. Conditions: those that each theorem states.
-/
import Derived.Test.YtcojkmcnigppbaaGreatDoorM1
import Derived.OrdersHeld
import Derived.OrdersIn
import Derived.Tactics
import Derived.TacticsIn
import Derived.OwnWalkIn
import Derived.RangeFuncCalls
import Derived.Below
import Derived.Lib.Hide
import Derived.Great.BuildSlice
import Derived.Deep.WholeRow
import Derived.WalkMore
import Derived.WalkKit
import Derived.IntWalk
import Derived.Lib.Bytealg
import Derived.Lib.TrimByte
import Derived.Test.YtcojkmcnigppbaaGreatDoorProg
import Derived.Tactics2
import Derived.Defers
import Derived.Laws.Pointers
import Derived.Laws.LoneSync
import Derived.RegionTactic
import Derived.RegionCalls
import Derived.ChangeAlike
import Derived.ArgAppend
import Derived.LoopN
import Derived.Deep.CutBlock
import Derived.Deep.DeepCutAuto
import Derived.Laws.Tables
import Derived.Lib.Builder
import Derived.Deep.OwnRows
import Derived.Lib.CountLaws
import Derived.Lib.Strings
import Derived.Deep.LoopGhost
import Derived.Deep.QuietTactic
import Derived.Deep.RegionLaw
import Derived.Laws.CopyRow
set_option linter.unusedVariables false
set_option linter.unusedSimpArgs false
open Go.Lib (hid)
open Go.Proofs.YtcojkmcnigppbaaGreatDoor (zA zB zC zD zE zF)

section
namespace Go.Proofs.YtcojkmcnigppbaaGreatDoor.Sch
open Go Go.Proofs Go.RowKit
def dstOf (ops : Array Oper) (i : Nat) : Option Tmp := (ops[i]?).bind (·.dst)
def onsOf (ops : Array Oper) (i : Nat) : List Nat := match ops[i]? with | some o => (o.after.toList.filter (fun e => Region.binds .any e)).map (·.on) | none => []
def clo (ops : Array Oper) : Nat → List Nat → List Nat
  | 0, l => l
  | f + 1, l => clo ops f (l ++ l.flatMap (onsOf ops)).eraseDups
def pre (ops : Array Oper) (i : Nat) : List Nat := clo ops 8 (onsOf ops i)
section
variable (ops : Array Oper) (m : Nat)
def still (t : Tmp) : Bool := (List.range m).all fun j => dstOf ops j != some t
def chk (size : Nat) : Bool :=
  decide (m ≤ ops.size) &&
  ((List.range m).all fun i => (match ops[i]? with | some o => (match o.dst with | some d => decide (d < size) | none => false) | none => false) &&
    ((onsOf ops i).all fun j => decide (j < i)) && ((List.range m).all fun j => j == i || dstOf ops i != dstOf ops j))
def cloB : Bool := (List.range ops.size).all fun j => decide (j < m) || ((List.range m).all fun i => (clo ops 12 (onsOf ops j)).contains i)
end
def opA (ops : Array Oper) (k : Nat) : Oper := (ops[k]?).getD default
theorem opA_of {ops : Array Oper} {k : Nat} {o : Oper} (h : ops[k]? = some o) : opA ops k = o := by unfold opA; rw [h]; rfl
def tm (a : Act) (t : Tmp) : Value := a.tmps.getD t undef
def at_ (ops : Array Oper) (a : Act) (i : Nat) : Value := match dstOf ops i with | some d => tm a d | none => undef
structure Plan where
  Fr : World → World → Prop
  R : Nat → (Nat → Value) → Value → World → Prop
  fresh : Nat → Bool
structure Laws (p : Plan) : Prop where
  refl : ∀ w, p.Fr w w
  trans : ∀ {u v w}, p.Fr u v → p.Fr v w → p.Fr u w
  drew : ∀ w, p.Fr w w.drew
  size : ∀ {u v}, p.Fr u v → u.heap.size ≤ v.heap.size
  keep : ∀ {i x v V V'}, p.R i x v V → p.Fr V V' → p.R i x v V'
def mask (ops : Array Oper) (k : Nat) (x : Nat → Value) (j : Nat) : Value := if (pre ops k).contains j then x j else undef
def Good (P : Program) (ops : Array Oper) (m : Nat) (a0 : Act) (w0 : World) (p : Plan) (k : Nat) : Prop :=
  ∀ (a : Act) (V : World), (∀ t, still ops m t = true → tm a t = tm a0 t) → p.Fr w0 V → (∀ j ∈ pre ops k, p.R j (mask ops j (at_ ops a)) (at_ ops a j) V) →
    (Region.wanted (opA ops k) (yielded ops a.tmps) = true ∧ ∀ (K : Act → World → Prop) (Q : Exit → Act → World → Prop),
      (∀ v V', p.Fr V V' → p.R k (mask ops k (at_ ops a)) v V' → (p.fresh k = true → ∃ g, v = .pointer (some ⟨g, 0, none⟩) ∧ V.heap.size ≤ g ∧ g < V'.heap.size) → K (a.put (opA ops k).dst v) V') → (opA ops k).wp P a V K Q) ∨
    (Region.wanted (opA ops k) (yielded ops a.tmps) = false ∧ p.R k (mask ops k (at_ ops a)) undef V ∧ p.fresh k = false)
theorem onsOf_of {ops : Array Oper} {i : Nat} {o : Oper} (ho : ops[i]? = some o) {listed : Array Bool} (h : ∀ e ∈ o.after, Region.binds .any e = true → listed.getD e.on false = true) : ∀ j ∈ onsOf ops i, listed.getD j false = true := by
  intro j hj
  unfold onsOf at hj
  rw [ho] at hj
  simp only [List.mem_map, List.mem_filter] at hj
  obtain ⟨e, ⟨he, hb⟩, rfl⟩ := hj
  exact h e (by simpa using he) hb
theorem clo_listed {ops : Array Oper} {listed : Array Bool} (hd : ∀ i, listed.getD i false = true → ∀ j ∈ onsOf ops i, listed.getD j false = true) : ∀ (f : Nat) (l : List Nat), (∀ x ∈ l, listed.getD x false = true) → ∀ x ∈ clo ops f l, listed.getD x false = true
  | 0, l, h => h
  | f + 1, l, h => by
    unfold clo
    refine clo_listed hd f _ fun x hx => ?_
    rw [List.mem_eraseDups, List.mem_append, List.mem_flatMap] at hx
    rcases hx with hx | ⟨y, hy, hx⟩
    · exact h x hx
    · exact hd y (h y hy) x hx
theorem getD_tf {listed : Array Bool} {i : Nat} (h : i < listed.size) : listed.getD i true = listed.getD i false := by
  simp [Array.getD_eq_getD_getElem?, h]
theorem getD_lt {listed : Array Bool} {i : Nat} (h : listed.getD i false = true) : i < listed.size := by
  rcases Nat.lt_or_ge i listed.size with h' | h'
  · exact h'
  · simp [Array.getD_eq_getD_getElem?, Array.getElem?_eq_none h'] at h
theorem getD_lt' {listed : Array Bool} {i : Nat} (h : listed.getD i true = false) : i < listed.size := by
  rcases Nat.lt_or_ge i listed.size with h' | h'
  · exact h'
  · simp [Array.getD_eq_getD_getElem?, Array.getElem?_eq_none h'] at h
theorem getD_set_eq {listed : Array Bool} {i j : Nat} (hi : i < listed.size) : (listed.setIfInBounds i true).getD j true = if j = i then true else listed.getD j true := by
  split
  · rename_i h; subst h; simp [Array.getD_eq_getD_getElem?, hi]
  · rename_i h; exact getD_set_ne true (fun e => h e.symm)
theorem tget_set {A : Array Value} {d t : Nat} {v : Value} (h : d < A.size) : (A.setIfInBounds d v).getD t undef = if t = d then v else A.getD t undef := by
  split
  · rename_i h1; subst h1; simp [Array.getD_eq_getD_getElem?, h]
  · rename_i h1; simp [Array.getD_eq_getD_getElem?, Array.getElem?_setIfInBounds_ne (fun e => h1 e.symm)]
theorem put_tmps {a : Act} {o : Oper} {d : Tmp} (hd : o.dst = some d) (u : Value) : (a.put o.dst u).tmps = a.tmps.setIfInBounds d u := by rw [hd]; rfl
theorem put_defs {a : Act} (o : Oper) (u : Value) : (a.put o.dst u).defers = a.defers := by unfold Act.put; split <;> rfl
structure Chk (ops : Array Oper) (m size : Nat) : Prop where
  le : m ≤ ops.size
  op : ∀ i, i < m → ∃ o d, ops[i]? = some o ∧ o.dst = some d ∧ d < size
  small : ∀ i, i < m → ∀ j ∈ onsOf ops i, j < i
  ne : ∀ i j, i < m → j < m → i ≠ j → dstOf ops i ≠ dstOf ops j
theorem clo_spec {ops : Array Oper} {m : Nat} (h : cloB ops m = true) : ∀ j, m ≤ j → j < ops.size → ∀ i, i < m → i ∈ clo ops 12 (onsOf ops j) := by
  unfold cloB at h
  simp only [decide_eq_true_eq, List.all_eq_true, List.mem_range, Bool.or_eq_true] at h
  intro j hj hj2 i hi
  rcases h j hj2 with h4 | h4
  · exact absurd h4 (by omega)
  · have := h4 i hi
    simpa using this
theorem chk_spec {ops : Array Oper} {m size : Nat} (h : chk ops m size = true) : Chk ops m size := by
  unfold chk at h
  simp only [Bool.and_eq_true, decide_eq_true_eq, List.all_eq_true, List.mem_range, Bool.or_eq_true] at h
  obtain ⟨h1, h2⟩ := h
  refine ⟨h1, fun i hi => ?_, fun i hi j hj => (h2 i hi).1.2 j hj, fun i j hi hj hne e => ?_⟩
  · have h4 := (h2 i hi).1.1
    cases ho : ops[i]? with
    | none => rw [ho] at h4; simp at h4
    | some o =>
      rw [ho] at h4
      cases hd : o.dst with
      | none => simp [hd] at h4
      | some d =>
        simp only [hd, decide_eq_true_eq] at h4
        exact ⟨o, d, rfl, hd, h4⟩
  · have h4 := (h2 i hi).2 j hj
    rcases h4 with h4 | h4
    · simp at h4; exact hne h4.symm
    · rw [e] at h4; simp at h4
structure SInv (ops : Array Oper) (m : Nat) (a0 : Act) (w0 : World) (p : Plan) (listed : Array Bool) (a : Act) (w : World) : Prop where
  defers : a.defers = a0.defers
  size : a.tmps.size = a0.tmps.size
  lsize : listed.size = ops.size
  far : ∀ t, (∀ i, i < m → dstOf ops i = some t → listed.getD i true = false) → tm a t = tm a0 t
  rel : ∀ i, i < m → listed.getD i true = true → p.R i (mask ops i (at_ ops a)) (at_ ops a i) w
  new : ∀ i, i < m → listed.getD i true = true → p.fresh i = true → ∃ g, at_ ops a i = .pointer (some ⟨g, 0, none⟩) ∧ w0.heap.size ≤ g ∧ g < w.heap.size
  apart : ∀ i j, i < m → j < m → p.fresh i = true → p.fresh j = true → i ≠ j → listed.getD i true = true → listed.getD j true = true → at_ ops a i ≠ at_ ops a j
  frame : p.Fr w0 w
  late : ∀ i, m ≤ i → i < ops.size → listed.getD i true = false
  down : ∀ i, i < m → listed.getD i true = true → ∀ j ∈ onsOf ops i, listed.getD j false = true
theorem SInv.downAll {ops : Array Oper} {m : Nat} {a0 a : Act} {w0 w : World} {p : Plan} {listed : Array Bool} (h : SInv ops m a0 w0 p listed a w) : ∀ k, listed.getD k false = true → ∀ j ∈ onsOf ops k, listed.getD j false = true := fun k hk => by
  have hks := getD_lt hk
  by_cases hkm : k < m
  · exact h.down k hkm (by rw [getD_tf hks]; exact hk)
  · have := h.late k (by omega) (by rw [← h.lsize]; exact hks)
    rw [getD_tf hks, hk] at this; cases this
theorem SInv.pre {ops : Array Oper} {m : Nat} {a0 a : Act} {w0 w : World} {p : Plan} {listed : Array Bool} (h : SInv ops m a0 w0 p listed a w) {i : Nat} (hdeps : ∀ j ∈ onsOf ops i, listed.getD j false = true) : ∀ j ∈ pre ops i, j < m ∧ listed.getD j true = true := fun j hj => by
  have hl := clo_listed h.downAll 8 _ hdeps j hj
  have hs := getD_lt hl
  refine ⟨?_, by rw [getD_tf hs]; exact hl⟩
  rcases Nat.lt_or_ge j m with h1 | h1
  · exact h1
  · have := h.late j h1 (by rw [← h.lsize]; exact hs)
    rw [getD_tf hs, hl] at this; cases this
theorem SInv.next {ops : Array Oper} {m : Nat} {a0 a : Act} {w0 w V : World} {p : Plan} {listed : Array Bool} (L : Laws p) (h : SInv ops m a0 w0 p listed a w) (hc : Chk ops m a0.tmps.size) {i : Nat} (him : i < m) (hun : listed.getD i true = false) {o : Oper} (ho : ops[i]? = some o)
    (hdeps : ∀ j ∈ onsOf ops i, listed.getD j false = true) {d : Tmp} (hd : o.dst = some d) (hds : d < a0.tmps.size) (hb : p.Fr w V) (u : Value)
    (hu : p.R i (mask ops i (at_ ops a)) u V) (hf : p.fresh i = true → ∃ g, u = .pointer (some ⟨g, 0, none⟩) ∧ w.heap.size ≤ g ∧ g < V.heap.size) : SInv ops m a0 w0 p (listed.setIfInBounds i true) (a.put o.dst u) V := by
  have hil := getD_lt' hun
  have hdi : dstOf ops i = some d := by unfold dstOf; rw [ho]; exact hd
  have hget : ∀ t, tm (a.put o.dst u) t = if t = d then u else tm a t := fun t => by unfold tm; rw [put_tmps hd]; exact tget_set (by rw [h.size]; exact hds)
  have hati : at_ ops (a.put o.dst u) i = u := by unfold at_; rw [hdi]; simp only [hget, if_true]
  have hato : ∀ j, j < m → j ≠ i → at_ ops (a.put o.dst u) j = at_ ops a j := fun j hj hne => by
    unfold at_
    cases hdj : dstOf ops j with
    | none => rfl
    | some e =>
      have : e ≠ d := fun e2 => hc.ne j i hj him hne (by rw [hdj, hdi, e2])
      simp only [hget, if_neg this]
  have hold : ∀ j, (listed.setIfInBounds i true).getD j true = true → j ≠ i → listed.getD j true = true := fun j hj hne => by rw [getD_set_eq hil, if_neg hne] at hj; exact hj
  -- what an operation saw that came up already, or that comes up now, is as it was
  have hmask : ∀ j, (∀ k ∈ onsOf ops j, listed.getD k false = true) → mask ops j (at_ ops (a.put o.dst u)) = mask ops j (at_ ops a) := fun j hj => by
    funext k
    unfold mask
    split
    · rename_i hk
      have hk2 := h.pre hj k (by simpa using hk)
      exact hato k hk2.1 (fun e => by subst e; rw [hun] at hk2; exact absurd hk2.2 (by decide))
    · rfl
  refine ⟨?_, ?_, ?_, ?_, ?_, ?_, ?_, ?_, ?_, ?_⟩
  · rw [put_defs]; exact h.defers
  · rw [put_tmps hd]; simp [h.size]
  · simp [h.lsize]
  · intro t ht
    have htd : t ≠ d := fun e => by
      have := ht i him (by rw [hdi, e])
      rw [getD_set_eq hil, if_pos rfl] at this; cases this
    rw [hget, if_neg htd]
    refine h.far t fun j hj hjt => ?_
    have := ht j hj hjt
    rw [getD_set_eq hil] at this
    split at this
    · cases this
    · exact this
  · intro j hj hl
    by_cases e : j = i
    · subst e; rw [hati, hmask _ hdeps]; exact hu
    · have hl2 := hold j hl e
      rw [hato j hj e, hmask j (h.down j hj hl2)]
      exact L.keep (h.rel j hj hl2) hb
  · intro j hj hl hfj
    by_cases e : j = i
    · subst e
      obtain ⟨g, h1, h2, h3⟩ := hf hfj
      exact ⟨g, by rw [hati, h1], Nat.le_trans (L.size h.frame) h2, h3⟩
    · obtain ⟨g, h1, h2, h3⟩ := h.new j hj (hold j hl e) hfj
      exact ⟨g, by rw [hato j hj e, h1], h2, Nat.lt_of_lt_of_le h3 (L.size hb)⟩
  · intro j k hj hk fj fk hne hlj hlk
    by_cases ej : j = i
    · subst ej
      obtain ⟨g, h1, h2, h3⟩ := hf fj
      obtain ⟨g', e1, e2, e3⟩ := h.new k hk (hold k hlk (fun e => hne e.symm)) fk
      rw [hati, hato k hk (fun e => hne e.symm), e1, h1]
      intro e
      injection e with e; injection e with e; injection e with e
      omega
    · by_cases ek : k = i
      · subst ek
        obtain ⟨g, h1, h2, h3⟩ := hf fk
        obtain ⟨g', e1, e2, e3⟩ := h.new j hj (hold j hlj ej) fj
        rw [hato j hj ej, e1, hati, h1]
        intro e
        injection e with e; injection e with e; injection e with e
        omega
      · rw [hato j hj ej, hato k hk ek]
        exact h.apart j k hj hk fj fk hne (hold j hlj ej) (hold k hlk ek)
  · exact L.trans h.frame hb
  · intro j hj hj2
    rw [getD_set_eq hil, if_neg (by omega)]
    exact h.late j hj hj2
  · intro j hj hl k hk
    by_cases e : j = i
    · subst e; exact getD_set_true (hdeps k hk)
    · exact getD_set_true (h.down j hj (hold j hl e) k hk)
def listedM (ops : Array Oper) (m : Nat) : Array Bool := (List.replicate m true ++ List.replicate (ops.size - m) false).toArray
def listedK (n k : Nat) : Array Bool := (List.replicate k true ++ List.replicate (n - k) false).toArray
theorem listedM_K (ops : Array Oper) (m : Nat) : listedM ops m = listedK ops.size m := rfl
theorem listedM_size {ops : Array Oper} {m : Nat} (h : m ≤ ops.size) : (listedM ops m).size = ops.size := by simp [listedM]; omega
theorem listedM_at {ops : Array Oper} {m : Nat} (i : Nat) (h : i < m) : (listedM ops m).getD i true = true := by
  simp [listedM, Array.getD_eq_getD_getElem?, List.getElem?_append_left, h]
theorem listed_eq {ops : Array Oper} {m : Nat} {a0 a : Act} {w0 w : World} {p : Plan} {listed : Array Bool} (h : SInv ops m a0 w0 p listed a w) (hle : m ≤ ops.size) (hall : ∀ i, i < m → listed.getD i true = true) : listed = listedM ops m := by
  refine Array.ext (by rw [h.lsize, listedM_size hle]) fun i h1 h2 => ?_
  by_cases hi : i < m
  · have e1 := hall i hi
    have e2 := listedM_at (ops := ops) i hi
    simp only [Array.getD_eq_getD_getElem?, Array.getElem?_eq_getElem h1, Option.getD_some] at e1
    simp only [Array.getD_eq_getD_getElem?, Array.getElem?_eq_getElem h2, Option.getD_some] at e2
    rw [e1, e2]
  · have e1 := h.late i (by omega) (by rw [← h.lsize]; exact h1)
    simp only [Array.getD_eq_getD_getElem?, Array.getElem?_eq_getElem h1, Option.getD_some] at e1
    rw [e1]
    simp [listedM, List.getElem_append_right, Nat.not_lt.1 hi]
theorem count_set {listed : Array Bool} {i : Nat} (h : listed.getD i true = false) : (listed.setIfInBounds i true).toList.count true = listed.toList.count true + 1 := by
  have hl := getD_lt' h
  have hv : listed.toList[i]'(by simpa using hl) = false := by
    simp only [Array.getD_eq_getD_getElem?, Array.getElem?_eq_getElem hl, Option.getD_some] at h
    simpa using h
  rw [Array.toList_setIfInBounds, List.count_set (by simpa using hl), hv]
  simp
theorem count_all {l : List Bool} (h : l.count true = l.length) (i : Nat) (hi : i < l.length) : l[i] = true := by
  have := List.count_eq_length.1 h
  exact (this _ (List.getElem_mem hi)).symm
structure Mode2 (P : Program) where
  fits : Array Oper → Prop
  op : Array Oper → (Exit → Act → World → Prop) → Nat → (Act → World → Prop) → Act → World → Prop
  step : ∀ {ops : Array Oper} {Q : Exit → Act → World → Prop} {i : Nat} {K : Act → World → Prop} {a : Act} {w : World} {o : Oper}, fits ops → ops[i]? = some o → Region.wanted o (yielded ops a.tmps) = true → o.wp P a w K Q → op ops Q i K a w
  skip : ∀ {ops : Array Oper} {Q : Exit → Act → World → Prop} {i : Nat} {K : Act → World → Prop} {a : Act} {w : World} {o : Oper}, fits ops → ops[i]? = some o → Region.wanted o (yielded ops a.tmps) = false → K (a.put o.dst undef) w → op ops Q i K a w
def plainMode (P : Program) : Mode2 P where
  fits _ := True
  op ops Q i K a w := wpOp P ops Q i K a w
  step := fun _ ho hw h => by
    unfold wpOp
    simp only [ho]
    rw [if_pos hw]
    exact .inl h
  skip := fun _ ho hw h => by
    unfold wpOp
    simp only [ho]
    rw [if_neg (by rw [hw]; decide)]
    exact h
theorem sched_op {P : Program} {ops : Array Oper} {m : Nat} {a0 : Act} {w0 : World} {p : Plan} {Q : Exit → Act → World → Prop} (M : Mode2 P) (hM : M.fits ops) (L : Laws p) (hc : Chk ops m a0.tmps.size) (hg : ∀ k, k < m → Good P ops m a0 w0 p k)
    {listed : Array Bool} {a : Act} {w : World} (h : SInv ops m a0 w0 p listed a w) {i : Nat} (him : i < m) (hun : listed.getD i true = false) (hdeps : ∀ j ∈ onsOf ops i, listed.getD j false = true) {K : Act → World → Prop}
    (hK : ∀ a' V, SInv ops m a0 w0 p (listed.setIfInBounds i true) a' V → K a' V) : M.op ops Q i K a w := by
  obtain ⟨o, d, ho, hd, hds⟩ := hc.op i him
  have good := hg i him a w (fun t ht => h.far t fun j hj hjt => by
    unfold still at ht
    have := List.all_eq_true.1 ht j (List.mem_range.2 hj)
    rw [hjt] at this
    simp at this) h.frame (fun j hj => h.rel j (h.pre hdeps j hj).1 (h.pre hdeps j hj).2)
  rw [opA_of ho] at good
  rcases good with ⟨hw, good⟩ | ⟨hw, h1, h2⟩
  · exact M.step hM ho hw (good _ _ fun v V' hb hr hf => hK _ _ (h.next L hc him hun ho hdeps hd hds hb v hr hf))
  · exact M.skip hM ho hw (hK _ _ (h.next L hc him hun ho hdeps hd hds (L.refl _) undef h1 (fun hf => by rw [h2] at hf; cases hf)))
def seqd (ops : Array Oper) (m : Nat) : Bool := (List.range (ops.size - m)).all (fun k => Region.ready .any ops (listedK ops.size (m + k)) == [m + k]) && Region.ready .any ops (listedK ops.size ops.size) == []
theorem listedK_set {n k : Nat} (h : k < n) : (listedK n k).setIfInBounds k true = listedK n (k + 1) := by
  unfold listedK
  simp only [List.setIfInBounds_toArray, Array.mk.injEq]
  rw [List.set_append_right _ _ (by simp), List.length_replicate, Nat.sub_self, show n - k = (n - (k + 1)) + 1 by omega, List.replicate_succ, List.set_cons_zero, List.replicate_succ', List.append_assoc]
  rfl
theorem wpAny_tail {P : Program} {ops : Array Oper} {Q : Exit → Act → World → Prop} {m : Nat} (hs : seqd ops m = true) : ∀ (f k : Nat) (a : Act) (w : World), k + f = ops.size - m → m ≤ ops.size → wpList P ops Q (ops.toList.drop (m + k)) a w → wpAny P .any ops Q f (listedK ops.size (m + k)) a w
  | 0, k, a, w, hk, hm, h => by
    unfold seqd at hs
    rw [Bool.and_eq_true] at hs
    have e : m + k = ops.size := by omega
    rw [e] at h ⊢
    rw [List.drop_of_length_le (by simp)] at h
    exact ⟨by simpa using hs.2, h⟩
  | f + 1, k, a, w, hk, hm, h => by
    have hs' := hs
    unfold seqd at hs
    rw [Bool.and_eq_true, List.all_eq_true] at hs
    have hr : Region.ready .any ops (listedK ops.size (m + k)) = [m + k] := by have := hs.1 k (List.mem_range.2 (by omega)); simpa using this
    have hlt : m + k < ops.size := by omega
    refine ⟨fun h0 => (by rw [hr] at h0; cases h0), fun i hi => ?_⟩
    rw [hr] at hi
    obtain rfl : i = m + k := by simpa using hi
    have ho : ops[m + k]? = some ops[m + k] := Array.getElem?_eq_getElem hlt
    have hl : ops.toList.drop (m + k) = ops[m + k] :: ops.toList.drop (m + (k + 1)) := by
      rw [List.drop_eq_getElem_cons (by simpa using hlt)]; rfl
    rw [hl] at h
    unfold wpList at h
    unfold wpOp
    simp only [ho]
    rw [listedK_set hlt]
    have ih := fun a w => wpAny_tail (P := P) (Q := Q) hs' f (k + 1) a w (by omega) hm
    split
    · rename_i hw
      rw [if_pos hw] at h
      exact h.imp (Oper.wp_mono fun a w hh => ih a w hh) id
    · rename_i hw
      rw [if_neg hw] at h
      exact ih _ _ h
theorem ready_in {ops : Array Oper} {m : Nat} {a0 a : Act} {w0 w : World} {p : Plan} {listed : Array Bool} (h : SInv ops m a0 w0 p listed a w) (hc : Chk ops m a0.tmps.size) (hcl : cloB ops m = true) (hall : ¬ ∀ i, i < m → listed.getD i true = true) :
    Region.ready .any ops listed ≠ [] ∧ ∀ i ∈ Region.ready .any ops listed, i < m ∧ listed.getD i true = false ∧ ∀ j ∈ onsOf ops i, listed.getD j false = true := by
  constructor
  · intro hr
    apply hall
    intro i
    induction i using Nat.strongRecOn with
    | ind i ihi =>
      intro him
      cases hl : listed.getD i true with
      | true => rfl
      | false =>
        obtain ⟨o, d, ho, _, _⟩ := hc.op i him
        have : i ∈ Region.ready .any ops listed := mem_ready.2 ⟨hl, o, ho, fun e he hb => by
          have hj : e.on ∈ onsOf ops i := by
            unfold onsOf; rw [ho]
            simp only [List.mem_map, List.mem_filter]
            exact ⟨e, ⟨by simpa using he, hb⟩, rfl⟩
          have hlt := hc.small i him _ hj
          have := ihi _ hlt (by omega)
          rwa [getD_tf (by rw [h.lsize]; have := hc.le; omega)] at this⟩
        rw [hr] at this; cases this
  · intro i hi
    obtain ⟨hun, o, ho, hdep⟩ := mem_ready.1 hi
    have hdeps := onsOf_of ho hdep
    have hos : i < ops.size := by rw [← h.lsize]; exact getD_lt' hun
    by_cases him : i < m
    · exact ⟨him, hun, hdeps⟩
    · exfalso
      apply hall
      intro j hj
      have := clo_listed h.downAll 12 _ hdeps j (clo_spec hcl i (by omega) hos j hj)
      rw [getD_tf (getD_lt this)]; exact this
theorem zero_all {ops : Array Oper} {m : Nat} {a0 a : Act} {w0 w : World} {p : Plan} {listed : Array Bool} (h : SInv ops m a0 w0 p listed a w) (hle : m ≤ ops.size) (hn : listed.toList.count true = ops.size) : ∀ i, i < m → listed.getD i true = true := fun i hi => by
  have hl : i < listed.size := by rw [h.lsize]; omega
  have := count_all (l := listed.toList) (by rw [Array.length_toList, h.lsize]; omega) i (by simpa using hl)
  simp only [Array.getD_eq_getD_getElem?, Array.getElem?_eq_getElem hl, Option.getD_some]
  simpa using this
theorem countM {ops : Array Oper} {m : Nat} : (listedM ops m).toList.count true = m := by simp [listedM, List.count_replicate]
theorem wpAny_sched {P : Program} {ops : Array Oper} {m : Nat} {a0 : Act} {w0 : World} {p : Plan} {Q : Exit → Act → World → Prop} (L : Laws p) (hc : Chk ops m a0.tmps.size) (hcl : cloB ops m = true) (hg : ∀ k, k < m → Good P ops m a0 w0 p k)
    (hfin : ∀ a V, SInv ops m a0 w0 p (listedM ops m) a V → wpAny P .any ops Q (ops.size - m) (listedM ops m) a V) :
    ∀ (fuel : Nat) (listed : Array Bool) (a : Act) (w : World), SInv ops m a0 w0 p listed a w → listed.toList.count true + fuel = ops.size → wpAny P .any ops Q fuel listed a w := by
  intro fuel
  induction fuel with
  | zero =>
    intro listed a w h hn
    have e := listed_eq h hc.le (zero_all h hc.le (by omega))
    subst e
    have := hfin a w h
    rw [countM] at hn
    rw [show ops.size - m = 0 by omega] at this
    exact this
  | succ fuel ih =>
    intro listed a w h hn
    by_cases hall : ∀ i, i < m → listed.getD i true = true
    · have e := listed_eq h hc.le hall
      subst e
      have := hfin a w h
      rw [countM] at hn
      rw [show ops.size - m = fuel + 1 by omega] at this
      exact this
    · obtain ⟨h1, h2⟩ := ready_in h hc hcl hall
      refine ⟨fun hr => absurd hr h1, fun i hi => ?_⟩
      obtain ⟨him, hun, hdeps⟩ := h2 i hi
      exact sched_op (plainMode P) trivial L hc hg h him hun hdeps fun a' V h' => ih _ _ _ h' (by rw [count_set hun]; omega)
theorem sinv_start {ops : Array Oper} {m : Nat} {a0 : Act} {w0 w1 : World} {p : Plan} (HC : Chk ops m a0.tmps.size) (hb : p.Fr w0 w1) : SInv ops m a0 w0 p (Array.replicate ops.size false) a0 w1 := by
  have hf : ∀ i, i < ops.size → (Array.replicate ops.size false).getD i true = false := fun i hi => by simp [Array.getD_eq_getD_getElem?, Array.getElem?_replicate, hi]
  have hno : ∀ i, i < m → (Array.replicate ops.size false).getD i true = true → False := fun i hi hl => by
    rw [hf i (Nat.lt_of_lt_of_le hi HC.le)] at hl; cases hl
  exact ⟨rfl, rfl, by simp, fun t _ => rfl, fun i hi hl => (hno i hi hl).elim, fun i hi hl => (hno i hi hl).elim, fun i j hi hj _ _ _ hl => (hno i hi hl).elim, hb, fun i _ hi => hf i hi, fun i hi hl => (hno i hi hl).elim⟩
def finL (x : Nat → Value) : Nat → List Tmp → Array Value → Array Value
  | _, [], A => A
  | k, d :: r, A => finL x (k + 1) r (A.setIfInBounds d (x k))
def chkD (ops : Array Oper) : Nat → List Tmp → Bool
  | _, [] => true
  | k, d :: r => dstOf ops k == some d && chkD ops (k + 1) r
theorem finL_eq {ops : Array Oper} {B : Array Value} {x : Nat → Value} : ∀ (D : List Tmp) (k : Nat) (A : Array Value), chkD ops k D = true → B.size = A.size →
    (∀ i d, D[i]? = some d → d < A.size → B.getD d undef = x (k + i)) → (∀ t, (∀ i, i < D.length → dstOf ops (k + i) ≠ some t) → B.getD t undef = A.getD t undef) → finL x k D A = B
  | [], k, A, _, hs, _, hf => by
    unfold finL
    refine (Array.ext hs fun i h1 h2 => ?_).symm
    have := hf i (fun _ h => absurd h (Nat.not_lt_zero _))
    simpa [Array.getD_eq_getD_getElem?, h1, h2] using this
  | d :: r, k, A, hd, hs, hv, hf => by
    unfold chkD at hd
    rw [Bool.and_eq_true] at hd
    have hdk : dstOf ops k = some d := by simpa using hd.1
    unfold finL
    refine finL_eq r (k + 1) _ hd.2 (by simp [hs]) (fun i e hi hlt => ?_) (fun t ht => ?_)
    · have := hv (i + 1) e (by simpa using hi) (by simpa using hlt)
      rw [this]; congr 1; omega
    · by_cases hlt : d < A.size
      · rw [tget_set hlt]
        split
        · rename_i e; subst e
          exact hv 0 t rfl hlt
        · rename_i e
          refine hf t fun i hi hit => ?_
          cases i with
          | zero => rw [Nat.add_zero, hdk] at hit; injection hit with hit; exact e hit.symm
          | succ i => exact ht i (by simpa using hi) (by rw [← hit]; congr 1; omega)
      · have hle : A.size ≤ d := Nat.le_of_not_lt hlt
        rw [Array.setIfInBounds_eq_of_size_le hle]
        by_cases e : t = d
        · subst e
          simp [Array.getD_eq_getD_getElem?, Array.getElem?_eq_none (show B.size ≤ t from hs ▸ hle), Array.getElem?_eq_none hle]
        · refine hf t fun i hi hit => ?_
          cases i with
          | zero => rw [Nat.add_zero, hdk] at hit; injection hit with hit; exact e hit.symm
          | succ i => exact ht i (by simpa using hi) (by rw [← hit]; congr 1; omega)
structure SFin (ops : Array Oper) (m : Nat) (p : Plan) (x : Nat → Value) (w0 V : World) : Prop where
  rel : ∀ i, i < m → p.R i (mask ops i x) (x i) V
  new : ∀ i, i < m → p.fresh i = true → ∃ g, x i = .pointer (some ⟨g, 0, none⟩) ∧ w0.heap.size ≤ g ∧ g < V.heap.size
  apart : ∀ i j, i < m → j < m → p.fresh i = true → p.fresh j = true → i ≠ j → x i ≠ x j
  frame : p.Fr w0 V
theorem sinv_end {ops : Array Oper} {D : List Tmp} {a0 a : Act} {w0 V : World} {p : Plan} (hd : chkD ops 0 D = true) (HC : Chk ops D.length a0.tmps.size) (h : SInv ops D.length a0 w0 p (listedM ops D.length) a V) : SFin ops D.length p (at_ ops a) w0 V ∧ finL (at_ ops a) 0 D a0.tmps = a.tmps := by
  refine ⟨⟨fun i hi => h.rel i hi (listedM_at i hi), fun i hi hf => h.new i hi (listedM_at i hi) hf, fun i j hi hj fi fj hne => h.apart i j hi hj fi fj hne (listedM_at i hi) (listedM_at j hj), h.frame⟩, ?_⟩
  have hD : ∀ (D : List Tmp) (k i : Nat) (d : Tmp), chkD ops k D = true → D[i]? = some d → dstOf ops (k + i) = some d := by
    intro D
    induction D with
    | nil => intro k i d _ h; simp at h
    | cons e r ih =>
      intro k i d hk hi
      unfold chkD at hk
      rw [Bool.and_eq_true] at hk
      cases i with
      | zero => simp at hi; subst hi; simpa using hk.1
      | succ i => have := ih (k + 1) i d hk.2 (by simpa using hi); rwa [show k + 1 + i = k + (i + 1) by omega] at this
  refine finL_eq D 0 _ hd h.size (fun i d hi hlt => ?_) (fun t ht => ?_)
  · have := hD D 0 i d hd hi
    unfold at_ tm
    rw [this]
  · refine h.far t fun i hi hit => ?_
    have := ht i hi
    rw [Nat.zero_add] at this
    exact absurd hit this
theorem wp_sch {P : Program} {ops : Array Oper} {a0 : Act} {w0 : World} {Q : Exit → Act → World → Prop} {id : Nat} {draw : Bool} (p : Plan) (D : List Tmp) (L : Laws p) (hm : P.follows .mixedOrders = true) (hc : chk ops D.length a0.tmps.size = true) (hd : chkD ops 0 D = true) (hq : (!draw || (cloB ops D.length && seqd ops D.length)) = true)
    (hg : ∀ k, k < D.length → Good P ops D.length a0 w0 p k) (tl : List Oper) (ht : ops.toList.drop D.length = tl)
    (hfin : ∀ (x : Nat → Value) (V : World), SFin ops D.length p x w0 V → wpList P ops Q tl ⟨finL x 0 D a0.tmps, a0.defers⟩ V) :
    (Code.region id ops draw).wp P Q a0 w0 := by
  have HC := chk_spec hc
  have fin : ∀ a V, SInv ops D.length a0 w0 p (listedM ops D.length) a V → wpList P ops Q (ops.toList.drop D.length) a V := fun a V h => by
    obtain ⟨h1, h2⟩ := sinv_end hd HC h
    have := hfin _ V h1
    rw [h2, ← h.defers] at this
    rw [ht]; exact this
  cases draw with
  | true =>
    have hq2 : cloB ops D.length = true ∧ seqd ops D.length = true := by simpa using hq
    refine wp_region_any hm (wpAny_sched L HC hq2.1 hg (fun a V h => ?_) ops.size _ a0 w0.drew (sinv_start HC (L.drew _)) (by simp [List.count_replicate]))
    have := wpAny_tail (P := P) (Q := Q) hq2.2 (ops.size - D.length) 0 a V (by omega) HC.le (fin a V h)
    rw [Nat.add_zero, ← listedM_K] at this
    exact this
  | false =>
    refine wp_region ?_
    have key : ∀ (f k : Nat) (a : Act) (w : World), k + f = D.length → SInv ops D.length a0 w0 p (listedK ops.size k) a w → wpOps P ops Q (List.range' k (ops.size - k)) a w := by
      intro f
      induction f with
      | zero =>
        intro k a w hk h
        rw [Nat.add_zero] at hk
        subst hk
        have := fin a w h
        have e : wpOps P ops Q (List.range' D.length (ops.size - D.length)) = wpList P ops Q (ops.toList.drop D.length) := by
          have e1 := wpOps_eq_wpList (P := P) (Q := Q) (ops := ops) (ops.toList.drop D.length) D.length (fun j => by simp)
          have e2 : (ops.toList.drop D.length).length = ops.size - D.length := by simp
          rw [e2] at e1; exact e1
        rw [e]; exact this
      | succ f ih =>
        intro k a w hk h
        have hkm : k < D.length := by omega
        have hks : k < ops.size := Nat.lt_of_lt_of_le hkm HC.le
        rw [show ops.size - k = (ops.size - (k + 1)) + 1 by omega, List.range'_succ, wpOps_cons]
        refine sched_op (plainMode P) trivial L HC hg h hkm ?_ (fun j hj => ?_) (fun a' V h' => ?_)
        · simp [listedK, Array.getD_eq_getD_getElem?, List.getElem?_append_right, List.getElem?_replicate, show 0 < ops.size - k by omega]
        · have := HC.small k hkm j hj
          simp [listedK, Array.getD_eq_getD_getElem?, List.getElem?_append_left, this]
        · rw [listedK_set hks] at h'
          exact ih (k + 1) a' V (by omega) h'
    rw [List.range_eq_range']
    have h0 : listedK ops.size 0 = Array.replicate ops.size false := by simp [listedK]
    exact key D.length 0 a0 w0 (by omega) (by rw [h0]; exact sinv_start HC (L.refl _))
/-! ## The same within a round of a range over a function. -/
end Go.Proofs.YtcojkmcnigppbaaGreatDoor.Sch
end
section
namespace Go.Proofs.YtcojkmcnigppbaaGreatDoor
open Go Go.Proofs Go.RowKit
def Blk (w : World) (g : Nat) (t : TypeId) (cs : Array Value) : Prop := w.heap[g]? = some (.cells cs t (0, 0))
section
variable {w w' : World} {g : Nat} {t : TypeId} {cs : Array Value}
theorem Blk.lt (h : Blk w g t cs) : g < w.heap.size := by
  rcases Nat.lt_or_ge g w.heap.size with hlt | hge
  · exact hlt
  · unfold Blk at h; rw [Array.getElem?_eq_none hge] at h; cases h
theorem Blk.cell (h : Blk w g t cs) (i : Nat) : w.cell? ⟨g, i, none⟩ = cs[i]? := cell_of_row w g i cs t (0, 0) h
theorem Blk.frozen (h : Blk w g t cs) (i : Nat) : w.frozen? ⟨g, i, none⟩ = false := by
  unfold Blk at h
  simp [World.frozen?, h]
theorem Blk.new (w : World) (t : TypeId) (cs : Array Value) : Blk (w.alloc (.cells cs t)) w.heap.size t cs := heap_alloc_new w _
theorem Blk.drew (h : Blk w g t cs) : Blk w.drew g t cs := h
theorem Blk.drewN (h : Blk w g t cs) (n : Nat) : Blk (w.drewN n) g t cs := h
theorem Blk.alloc (h : Blk w g t cs) (o : Obj) : Blk (w.alloc o) g t cs := (Below.heap_alloc w o g h.lt).trans h
theorem Blk.set_ (h : Blk w g t cs) (i : Nat) (u : Value) : Blk (w.setCell ⟨g, i, none⟩ u) g t (cs.setIfInBounds i u) := by
  unfold Blk at h ⊢
  simp [World.setCell, Array.getElem?_modify, h]
theorem Blk.far (h : Blk w g t cs) {p : Addr} (hp : g ≠ p.block) (u : Value) : Blk (w.setCell p u) g t cs := (Below.heap_setCell w p u g hp).trans h
theorem Blk.below {B : Nat} (h : Blk w g t cs) (hb : Below B w w') (hg : g < B) : Blk w' g t cs := (hb.block g hg).trans h
theorem Blk.grown {row : Option Nat} (h : Blk w g t cs) (hb : w.grownBy w' row) (hg : some g ≠ row) : Blk w' g t cs := (hb.block g h.lt hg).trans h
end
theorem Blk.old {w w' : World} {g t : Nat} {cs : Array Value} (h : Blk w g t cs) (hb : Below w.heap.size w w') : Blk w' g t cs := h.below hb h.lt
theorem Blk.row {w : World} {g t : Nat} {c : Array Value} (h : Blk w g t c) (c' : Array Value) : Blk (w.setRow g c') g t c' := setRow_heap w g c c' t (0, 0) h
section
variable {P : Program} {ops : Array Oper}
def passes (want : Bool) : Value → Bool
  | .bool b => b == want
  | _ => false
theorem wanted_of {a : Act} {o : Oper} {j d : Nat} {want : Bool} {u : Value} (hg : o.guard = some (j, want)) (hd : Sch.dstOf ops j = some d) (h : a.tmps.getD d undef = u) : Region.wanted o (yielded ops a.tmps) = passes want u := by
  unfold Region.wanted
  rw [hg]
  have e : yielded ops a.tmps j = match (some d).bind (a.tmps[·]?) with | some (.bool b) => some b | _ => none := by
    unfold yielded
    unfold Sch.dstOf at hd
    rw [hd]
    rfl
  simp only [e, Option.bind_some]
  rw [Array.getD_eq_getD_getElem?] at h
  cases hx : a.tmps[d]? with
  | none => rw [hx] at h; subst h; simp [passes, undef]
  | some x =>
    rw [hx] at h; simp only [Option.getD_some] at h; subst h
    cases x <;> simp [passes]
end
/-! The contracts of single operations. -/
section
variable {P : Program} {o : Oper} {a : Act} {V : World} {K : Act → World → Prop} {Q : Exit → Act → World → Prop}
theorem op_quiet {v : Value} (h : (execOp a.eval o).run P V = .ok (.value v) V) (hK : ∀ V', Below V.heap.size V V' → K (a.put o.dst v) V') : o.wp P a V K Q := by
  unfold Oper.wp
  rw [h, Oper.upon_value]
  exact hK V (Below.refl _ _)
theorem op_call {v : Value} {f : FuncId} {c : Call} (args : Array Value) (ho : o.op = .call c) (hc : c.callee = .value (.func f)) (ha : c.args.map a.eval = args)
    (hk : Calls P f args V fun e w' => e = .returned v ∧ Below V.heap.size V w') (hrun : (callFunc f args).run P V = .ok (.enter f args) V) (hK : ∀ V', Below V.heap.size V V' → K (a.put o.dst v) V') : o.wp P a V K Q := by
  have h : (execOp a.eval o).run P V = .ok (.enter f args) V := by
    unfold execOp
    simp only [ho, resolve, hc, Act.eval, Deferred.ofValue, ha, Sem.run_bind, Sem.run_pure, Result.andThen_ok, invoke]
    simp [go_sem, hrun]
  unfold Oper.wp
  rw [h, Oper.upon_enter]
  refine hk.mono ?_
  rintro e w' ⟨rfl, hb⟩
  exact hK w' hb
end
def callOf (o : Oper) : Call := match o.op with | .call c => c | _ => { callee := .builtin .len, args := #[], argTypes := #[] }
section
variable {P : Program} {o : Oper} {a : Act} {V : World} {K : Act → World → Prop} {Q : Exit → Act → World → Prop} {ev : Operand → Value}
theorem map1 {x : Operand} {v : Value} (h : ev x = v) : (#[x] : Array Operand).map ev = #[v] := by simp [h]
theorem map2 {x y : Operand} {v u : Value} (h : ev x = v) (h2 : ev y = u) : (#[x, y] : Array Operand).map ev = #[v, u] := by simp [h, h2]
theorem op_callK {v : Value} {f : FuncId} (xs : Array Operand) (args : Array Value) (ho : o.op = .call (callOf o)) (hc : (callOf o).callee = .value (.func f)) (hx : (callOf o).args = xs) (ha : xs.map a.eval = args)
    (hk : Calls P f args V fun e w' => e = .returned v ∧ Below V.heap.size V w') (hrun : (callFunc f args).run P V = .ok (.enter f args) V) (hK : ∀ V', Below V.heap.size V V' → K (a.put o.dst v) V') : o.wp P a V K Q :=
  op_call args ho hc (by rw [hx]; exact ha) hk hrun hK
theorem quiet_move {v : Value} (x : Operand) (hx : ev x = v) (ho : o.op = .move x ∨ o.op = .assign x) : (execOp ev o).run P V = .ok (.value v) V := by
  unfold execOp
  rcases ho with ho | ho <;> simp only [ho, hx, Sem.run_pure]
theorem tail_nil {ops : Array Oper} (h : Q .normal a V) : wpList P ops Q [] a V := h
theorem quiet_pickT {v : Value} (c x y : Operand) (hc : ev c = .bool true) (hx : ev x = v) (ho : o.op = .pick c x y) : (execOp ev o).run P V = .ok (.value v) V := by
  unfold execOp
  simp only [ho, hc, asBool, Sem.run_bind, Sem.run_pure, Result.andThen_ok, hx, if_true]
theorem quiet_pickF {v : Value} (c x y : Operand) (hc : ev c = .bool false) (hy : ev y = v) (ho : o.op = .pick c x y) : (execOp ev o).run P V = .ok (.value v) V := by
  unfold execOp
  simp only [ho, hc, asBool, Sem.run_bind, Sem.run_pure, Result.andThen_ok, hy]
  rfl
theorem quiet_not {b : Bool} (t : TypeId) (x : Operand) (hx : ev x = .bool b) (ho : o.op = .unOp .not t x) : (execOp ev o).run P V = .ok (.value (.bool (!b))) V := by
  unfold execOp
  simp only [ho, hx]
  simp [go_sem]
theorem quiet_extract {t : Array Value} {v : Value} (x : Operand) (k : Nat) (hx : ev x = .tuple t) (hv : t[k]? = some v) (ho : o.op = .extract x k) : (execOp ev o).run P V = .ok (.value v) V := by
  unfold execOp
  simp only [ho, hx, Instr.extract, Sem.run_bind, hv, Sem.run_pure, Result.andThen_ok]
end
end Go.Proofs.YtcojkmcnigppbaaGreatDoor
namespace Go.Proofs.YtcojkmcnigppbaaGreatDoor.Sch
open Go Go.Proofs Go.RowKit
inductive Rk where
  | is (p : Value → World → Prop) (hk : ∀ v V V', p v V → Below V.heap.size V V' → p v V')
  | fresh (T : TypeId) (z : Array Value)
def Rk.rel : Rk → Value → World → Prop
  | .is p _ => p
  | .fresh T z => fun v V => ∃ g, v = .pointer (some ⟨g, 0, none⟩) ∧ Blk V g T z
def Rk.new : Rk → Bool
  | .is _ _ => false
  | .fresh _ _ => true
def Rk.val (u : Value) : Rk := .is (fun v _ => v = u) (fun _ _ _ h _ => h)
theorem Rk.keep (r : Rk) {v : Value} {V V' : World} (h : r.rel v V) (hb : Below V.heap.size V V') : r.rel v V' := by
  cases r with
  | is p hk => exact hk v V V' h hb
  | fresh T z => obtain ⟨g, e, hB⟩ := h; exact ⟨g, e, hB.old hb⟩
def relOf (PL : List Rk) (i : Nat) (v : Value) (V : World) : Prop := match PL[i]? with | some r => r.rel v V | none => False
def planR (PL : List Rk) : Plan := { Fr := fun u v => Below u.heap.size u v, R := fun i _ v V => relOf PL i v V, fresh := fun i => match PL[i]? with | some r => r.new | none => false }
theorem relOf_at {PL : List Rk} {i : Nat} {r : Rk} (h : PL[i]? = some r) {v : Value} {V : World} : relOf PL i v V ↔ r.rel v V := by unfold relOf; rw [h]
theorem planR_laws (PL : List Rk) : Laws (planR PL) where
  refl _ := Below.refl _ _
  trans h1 h2 := Below.trans h1 (Below.mono h2 h1.size)
  drew _ := (Below.refl _ _).drew
  size h := h.size
  keep {i x v V V'} h hb := by
    show relOf PL i v V'
    have h : relOf PL i v V := h
    unfold relOf at h ⊢
    cases hr : PL[i]? with
    | none => rw [hr] at h; exact h
    | some r => rw [hr] at h; exact r.keep h hb
def GoodsR (P : Program) (ops : Array Oper) (m : Nat) (a0 : Act) (w0 : World) (PL : List Rk) : Nat → List Rk → Prop
  | _, [] => True
  | k, _ :: r => Good P ops m a0 w0 (planR PL) k ∧ GoodsR P ops m a0 w0 PL (k + 1) r
section
variable {P : Program} {ops : Array Oper} {m : Nat} {a0 : Act} {w0 : World} {PL : List Rk} {k : Nat} {r : List Rk}
theorem goodsR_at : ∀ (l : List Rk) (k : Nat), GoodsR P ops m a0 w0 PL k l → ∀ i, i < l.length → Good P ops m a0 w0 (planR PL) (k + i)
  | [], _, _, i, h => absurd h (Nat.not_lt_zero _)
  | q :: r, k, hg, 0, h => hg.1
  | q :: r, k, hg, i + 1, h => by
    have := goodsR_at r (k + 1) hg.2 i (by simpa using h)
    rwa [show k + 1 + i = k + (i + 1) by omega] at this
theorem gr_nil : GoodsR P ops m a0 w0 PL k [] := trivial
structure Here (ops : Array Oper) (m : Nat) (a0 : Act) (w0 : World) (PL : List Rk) (k : Nat) (a : Act) (V : World) : Prop where
  still : ∀ t, still ops m t = true → tm a t = tm a0 t
  frame : Below w0.heap.size w0 V
  got : ∀ j ∈ pre ops k, relOf PL j (at_ ops a j) V
theorem Here.old {a : Act} {V : World} (h : Here ops m a0 w0 PL k a V) (t : Tmp) {v : Value} (h1 : Sch.still ops m t = true) (h2 : tm a0 t = v) : a.eval (.tmp t) = v := (h.still t h1).trans h2
theorem Here.rel {a : Act} {V : World} (h : Here ops m a0 w0 PL k a V) (j : Nat) (t : Tmp) {q : Rk} (h1 : (pre ops k).contains j = true) (h2 : dstOf ops j = some t) (h3 : PL[j]? = some q) : q.rel (a.eval (.tmp t)) V := by
  have := h.got j (by simpa using h1)
  rw [relOf_at h3] at this
  have e : at_ ops a j = a.eval (.tmp t) := by unfold at_; rw [h2]; rfl
  rwa [e] at this
theorem gr_is {p : Value → World → Prop} {hk : ∀ v V V', p v V → Below V.heap.size V V' → p v V'} (hPL : PL[k]? = some (.is p hk)) (hgd : (opA ops k).guard = none)
    (h : ∀ (a : Act) (V : World), Here ops m a0 w0 PL k a V → ∀ (K : Act → World → Prop) (Q : Exit → Act → World → Prop),
      (∀ v V', Below V.heap.size V V' → p v V' → K (a.put (opA ops k).dst v) V') → (opA ops k).wp P a V K Q) (hr : GoodsR P ops m a0 w0 PL (k + 1) r) : GoodsR P ops m a0 w0 PL k (.is p hk :: r) :=
  ⟨fun a V h1 h2 h3 => .inl ⟨by unfold Region.wanted; rw [hgd], fun K Q hK => h a V ⟨h1, h2, fun j hj => h3 j hj⟩ K Q fun v V' hb hp => hK v V' hb ((relOf_at hPL).2 hp) (fun hf => by
    exfalso
    have e : (planR PL).fresh k = false := by show (match PL[k]? with | some r => r.new | none => false) = false; rw [hPL]; rfl
    rw [e] at hf; cases hf)⟩, hr⟩
theorem gr_val {u : Value} (hPL : PL[k]? = some (.val u)) (hgd : (opA ops k).guard = none)
    (h : ∀ (a : Act) (V : World), Here ops m a0 w0 PL k a V → ∀ (K : Act → World → Prop) (Q : Exit → Act → World → Prop),
      (∀ V', Below V.heap.size V V' → K (a.put (opA ops k).dst u) V') → (opA ops k).wp P a V K Q) (hr : GoodsR P ops m a0 w0 PL (k + 1) r) : GoodsR P ops m a0 w0 PL k (.val u :: r) :=
  gr_is hPL hgd (fun a V H K Q hK => h a V H K Q fun V' hb => hK u V' hb rfl) hr
theorem gr_fresh {T : TypeId} {z : Array Value} (hPL : PL[k]? = some (.fresh T z)) (h1 : (ops[k]?).map (fun o => (o.op, o.guard)) = some (.alloc T, none)) (h2 : ∀ W, (zeroValue T).run P W = .ok (.agg z) W) (hr : GoodsR P ops m a0 w0 PL (k + 1) r) :
    GoodsR P ops m a0 w0 PL k (.fresh T z :: r) := by
  refine ⟨fun a V _ _ _ => .inl ?_, hr⟩
  cases ho : ops[k]? with
  | none => rw [ho] at h1; simp at h1
  | some o =>
    rw [ho] at h1
    simp only [Option.map_some, Option.some.injEq, Prod.mk.injEq] at h1
    rw [opA_of ho]
    refine ⟨by unfold Region.wanted; rw [h1.2], fun K Q hK => ?_⟩
    have hrun : (execOp a.eval o).run P V = .ok (.value (.pointer (some ⟨V.heap.size, 0, none⟩))) (V.alloc (.cells z T)) := by
      unfold execOp
      simp only [h1.1, Instr.alloc, Sem.run_bind, h2, Result.andThen_ok, Sem.run_pure]
      rfl
    unfold Oper.wp
    rw [hrun, Oper.upon_value]
    exact hK _ _ ((Below.refl _ _).alloc (Nat.le_refl _) _) ((relOf_at hPL).2 ⟨_, rfl, Blk.new V T z⟩) (fun _ => ⟨_, rfl, Nat.le_refl _, by simp⟩)
structure FinR (PL : List Rk) (x : Nat → Value) (w0 V : World) : Prop where
  rel : ∀ i (r : Rk), PL[i]? = some r → r.rel (x i) V
  new : ∀ i T z, PL[i]? = some (.fresh T z) → ∃ g, x i = .pointer (some ⟨g, 0, none⟩) ∧ w0.heap.size ≤ g ∧ Blk V g T z
  apart : ∀ i j T z T' z', PL[i]? = some (.fresh T z) → PL[j]? = some (.fresh T' z') → i ≠ j → x i ≠ x j
  frame : Below w0.heap.size w0 V
theorem wp_R {Q : Exit → Act → World → Prop} {id : Nat} {draw : Bool} (D : List Tmp) (PL : List Rk) (hl : PL.length = D.length) (hm : P.follows .mixedOrders = true) (hc : chk ops D.length a0.tmps.size = true) (hd : chkD ops 0 D = true) (hq : (!draw || (cloB ops D.length && seqd ops D.length)) = true)
    (hg : GoodsR P ops D.length a0 w0 PL 0 PL) (tl : List Oper) (ht : ops.toList.drop D.length = tl)
    (hfin : ∀ (x : Nat → Value) (V : World), FinR PL x w0 V → wpList P ops Q tl ⟨finL x 0 D a0.tmps, a0.defers⟩ V) : (Code.region id ops draw).wp P Q a0 w0 := by
  refine wp_sch (planR PL) D (planR_laws PL) hm hc hd hq (fun k hk => ?_) tl ht fun x V hF => hfin x V ⟨fun i r hr => ?_, fun i T z hr => ?_, fun i j T z T' z' hi hj hne => ?_, hF.frame⟩
  · have := goodsR_at PL 0 hg k (by omega)
    rwa [Nat.zero_add] at this
  · have hi : i < D.length := by rw [← hl]; exact (List.getElem?_eq_some_iff.1 hr).1
    exact (relOf_at hr).1 (hF.rel i hi)
  · have hi : i < D.length := by rw [← hl]; exact (List.getElem?_eq_some_iff.1 hr).1
    obtain ⟨g, e, h1, h2⟩ := hF.new i hi (by show (match PL[i]? with | some r => r.new | none => false) = true; rw [hr]; rfl)
    obtain ⟨g', e', hB⟩ := (relOf_at hr).1 (hF.rel i hi)
    rw [e] at e'
    injection e' with e'
    injection e' with e'
    injection e' with e'
    subst e'
    exact ⟨g, e, h1, hB⟩
  · have ni : i < D.length := by rw [← hl]; exact (List.getElem?_eq_some_iff.1 hi).1
    have nj : j < D.length := by rw [← hl]; exact (List.getElem?_eq_some_iff.1 hj).1
    exact hF.apart i j ni nj (by show (match PL[i]? with | some r => r.new | none => false) = true; rw [hi]; rfl) (by show (match PL[j]? with | some r => r.new | none => false) = true; rw [hj]; rfl) hne
end
section
variable {P : Program} {o : Oper} {a : Act} {V : World} {K : Act → World → Prop} {Q : Exit → Act → World → Prop}
theorem op_callR {f : FuncId} {p : Value → World → Prop} (xs : Array Operand) (args : Array Value) (ho : o.op = .call (callOf o)) (hc : (callOf o).callee = .value (.func f)) (hx : (callOf o).args = xs) (ha : xs.map a.eval = args)
    (hk : Calls P f args V fun e w' => ∃ v, e = .returned v ∧ p v w' ∧ Below V.heap.size V w') (hrun : (callFunc f args).run P V = .ok (.enter f args) V) (hK : ∀ v V', Below V.heap.size V V' → p v V' → K (a.put o.dst v) V') : o.wp P a V K Q := by
  have h : (execOp a.eval o).run P V = .ok (.enter f args) V := by
    unfold execOp
    rw [ho]
    simp only [resolve, hc, hx, Act.eval, Deferred.ofValue, ha, Sem.run_bind, Sem.run_pure, Result.andThen_ok, invoke]
    simp [go_sem, hrun]
  unfold Oper.wp
  rw [h, Oper.upon_enter]
  refine hk.mono ?_
  rintro e w' ⟨v, rfl, hp, hb⟩
  exact hK v w' hb hp
end
end Go.Proofs.YtcojkmcnigppbaaGreatDoor.Sch
namespace Go.Proofs.YtcojkmcnigppbaaGreatDoor.Sch
open Go Go.Proofs Go.RowKit
section
variable {P : Program} {ops : Array Oper} {m : Nat} {a0 : Act} {w0 : World} {PL : List Rk} {k : Nat} {r : List Rk}
theorem gr_on {p : Value → World → Prop} {hk : ∀ v V V', p v V → Below V.heap.size V V' → p v V'} {j d : Nat} {want : Bool} {u : Value} (hPL : PL[k]? = some (.is p hk)) (hgd : (opA ops k).guard = some (j, want)) (hd : dstOf ops j = some d)
    (hv : ∀ (a : Act) (V : World), Here ops m a0 w0 PL k a V → a.eval (.tmp d) = u) (hp : passes want u = true)
    (h : ∀ (a : Act) (V : World), Here ops m a0 w0 PL k a V → ∀ (K : Act → World → Prop) (Q : Exit → Act → World → Prop),
      (∀ v V', Below V.heap.size V V' → p v V' → K (a.put (opA ops k).dst v) V') → (opA ops k).wp P a V K Q) (hr : GoodsR P ops m a0 w0 PL (k + 1) r) : GoodsR P ops m a0 w0 PL k (.is p hk :: r) :=
  ⟨fun a V h1 h2 h3 => .inl ⟨by
      rw [wanted_of hgd hd (hv a V ⟨h1, h2, fun j hj => h3 j hj⟩)]; exact hp, fun K Q hK => h a V ⟨h1, h2, fun j hj => h3 j hj⟩ K Q fun v V' hb hp => hK v V' hb ((relOf_at hPL).2 hp) (fun hf => by
    exfalso
    have e : (planR PL).fresh k = false := by show (match PL[k]? with | some r => r.new | none => false) = false; rw [hPL]; rfl
    rw [e] at hf; cases hf)⟩, hr⟩
theorem gr_onV {w : Value} {j d : Nat} {want : Bool} {u : Value} (hPL : PL[k]? = some (.val w)) (hgd : (opA ops k).guard = some (j, want)) (hd : dstOf ops j = some d)
    (hv : ∀ (a : Act) (V : World), Here ops m a0 w0 PL k a V → a.eval (.tmp d) = u) (hp : passes want u = true)
    (h : ∀ (a : Act) (V : World), Here ops m a0 w0 PL k a V → ∀ (K : Act → World → Prop) (Q : Exit → Act → World → Prop),
      (∀ V', Below V.heap.size V V' → K (a.put (opA ops k).dst w) V') → (opA ops k).wp P a V K Q) (hr : GoodsR P ops m a0 w0 PL (k + 1) r) : GoodsR P ops m a0 w0 PL k (.val w :: r) :=
  gr_on hPL hgd hd hv hp (fun a V H K Q hK => h a V H K Q fun V' hb => hK w V' hb rfl) hr
end
end Go.Proofs.YtcojkmcnigppbaaGreatDoor.Sch
end
section
set_option maxRecDepth 100000
namespace Go.Proofs.YtcojkmcnigppbaaGreatDoor.Sch
open Go Go.Proofs Go.RowKit
section
variable {P : Program} {ops : Array Oper} {m : Nat} {a0 : Act} {w0 : World} {PL : List Rk} {k : Nat} {r : List Rk}
theorem gr_offV {j d : Nat} {want : Bool} {u : Value} (hPL : PL[k]? = some (.val undef)) (hgd : (opA ops k).guard = some (j, want)) (hd : dstOf ops j = some d)
    (hv : ∀ (a : Act) (V : World), Here ops m a0 w0 PL k a V → a.eval (.tmp d) = u) (hp : passes want u = false) (hr : GoodsR P ops m a0 w0 PL (k + 1) r) : GoodsR P ops m a0 w0 PL k (.val undef :: r) :=
  ⟨fun a V h1 h2 h3 => .inr ⟨by rw [wanted_of hgd hd (hv a V ⟨h1, h2, fun j hj => h3 j hj⟩)]; exact hp, (relOf_at hPL).2 rfl, by
    show (match PL[k]? with | some r => r.new | none => false) = false; rw [hPL]; rfl⟩, hr⟩
end
end Go.Proofs.YtcojkmcnigppbaaGreatDoor.Sch
namespace Go.Proofs.YtcojkmcnigppbaaGreatDoor
open Go Go.Proofs Go.RowKit
section
variable {P : Program} {o : Oper} {ev : Operand → Value} {V : World}
theorem quiet_nilCheck (x : Operand) (ad : Addr) (hx : ev x = .pointer (some ad)) (ho : o.op = .nilCheck x) : (execOp ev o).run P V = .ok (.value (.pointer (some ad))) V := by
  unfold execOp
  simp only [ho, hx]
  go_simp
theorem run_loadVar_cell {v : Value} (T : TypeId) (ad : Addr) {d : TypeDesc} (hu : P.underlying T = some d) (hd : (match d with | .struct _ | .array _ _ => true | _ => false) = false) (hc : V.cell? ad = some v) : (loadVar T ad).run P V = .ok v V := by
  have hagg : (isAgg T).run P V = .ok false V := by
    unfold isAgg
    rw [Sem.run_bind, run_underlying hu V]
    cases d <;> simp_all [Result.andThen]
  simp [loadVar, Sem.run_bind, hagg, Result.andThen, hc]
theorem quiet_cell {v : Value} (T : TypeId) (x : Operand) (ad : Addr) (hx : ev x = .pointer (some ad)) {d : TypeDesc} (hu : P.underlying T = some d) (hd : (match d with | .struct _ | .array _ _ => true | _ => false) = false) (hc : V.cell? ad = some v) (ho : o.op = .load T x) : (execOp ev o).run P V = .ok (.value v) V := by
  unfold execOp
  simp only [ho, hx, Instr.loadAt, Instr.sureAddr, Sem.run_bind, Sem.run_pure, Result.andThen_ok, run_loadVar_cell T ad hu hd hc]
theorem quiet_len (x : Operand) (A : Option Addr) (n c : Nat) (T e : TypeId) (hx : ev x = .slice A n c) (hu : P.underlying T = some (.slice e)) (ho : o.op = .call { callee := .builtin .len, args := #[x], argTypes := #[T] }) : (execOp ev o).run P V = .ok (.value (.int .i64 (n : Int))) V := by
  unfold execOp
  simp only [ho, resolve, invoke, builtin, Sem.run_bind, Sem.run_pure, Result.andThen_ok, List.map_toArray, List.map_cons, List.map_nil, hx]
  simp [Builtin.len_, run_underlying hu, Result.andThen, goInt]
theorem quiet_lss (x y : Operand) (p q : Int) (T K : TypeId) (hx : ev x = .int .i64 p) (hy : ev y = .int .i64 q) (hu : P.underlying T = some (.int .i64)) (ho : o.op = .binOp .lss T x y K) : (execOp ev o).run P V = .ok (.value (.bool (decide (p < q)))) V := by
  unfold execOp
  simp only [ho, hx, hy]
  go_simp
theorem quiet_lssB (x y : Operand) (p q : Int) (T K : TypeId) (b : Bool) (hb : decide (p < q) = b) (hx : ev x = .int .i64 p) (hy : ev y = .int .i64 q) (hu : P.underlying T = some (.int .i64)) (ho : o.op = .binOp .lss T x y K) : (execOp ev o).run P V = .ok (.value (.bool b)) V := by
  rw [← hb]; exact quiet_lss x y p q T K hx hy hu ho
theorem quiet_gtrB (x y : Operand) (p q : Int) (T K : TypeId) (b : Bool) (hb : decide (q < p) = b) (hx : ev x = .int .i64 p) (hy : ev y = .int .i64 q) (hu : P.underlying T = some (.int .i64)) (ho : o.op = .binOp .gtr T x y K) : (execOp ev o).run P V = .ok (.value (.bool b)) V := by
  rw [← hb]
  unfold execOp
  simp only [ho, hx, hy]
  go_simp
theorem quiet_subI (x y : Operand) (p q : Int) (T K : TypeId) (hr : -9223372036854775808 ≤ p - q ∧ p - q ≤ 9223372036854775807) (hx : ev x = .int .i64 p) (hy : ev y = .int .i64 q) (hu : P.underlying T = some (.int .i64)) (ho : o.op = .binOp .sub T x y K) : (execOp ev o).run P V = .ok (.value (.int .i64 (p - q))) V := by
  have hw : IntKind.i64.wrap (p - q) = p - q := IntWalk.i64_in _ (by omega)
  unfold execOp
  simp only [ho, hx, hy]
  go_simp
theorem quiet_addN (x y : Operand) (p q s : Nat) (T K : TypeId) (hs : s = p + q) (hr : s ≤ 1000000000) (hx : ev x = .int .i64 (p : Nat)) (hy : ev y = .int .i64 (q : Nat)) (hu : P.underlying T = some (.int .i64)) (ho : o.op = .binOp .add T x y K) : (execOp ev o).run P V = .ok (.value (.int .i64 (s : Nat))) V := by
  have hw : IntKind.i64.wrap ((p : Int) + (q : Int)) = (s : Int) := by rw [IntWalk.i64_in _ (by omega), hs]; rfl
  unfold execOp
  simp only [ho, hx, hy]
  go_simp
theorem quiet_geqB (x y : Operand) (p q : Int) (k : IntKind) (T K : TypeId) (b : Bool) (hb : decide (q ≤ p) = b) (hx : ev x = .int k p) (hy : ev y = .int k q) (hu : P.underlying T = some (.int k)) (ho : o.op = .binOp .geq T x y K) : (execOp ev o).run P V = .ok (.value (.bool b)) V := by
  rw [← hb]
  unfold execOp
  simp only [ho, hx, hy]
  go_simp
theorem quiet_index (x y : Operand) (ad : Addr) (n c i : Nat) (T e : TypeId) (hx : ev x = .slice (some ad) n c) (hy : ev y = .int .i64 (i : Int)) (hi : i < n) (hu : P.underlying T = some (.slice e)) (hs : (P.info? e).map (·.size) = some 1) (ho : o.op = .indexAddr T x y) : (execOp ev o).run P V = .ok (.value (.pointer (some (ad.add i)))) V := by
  obtain ⟨inf, hinf, hs2⟩ : ∃ q, P.info? e = some q ∧ q.size = 1 := by
    cases hq : P.info? e with
    | none => rw [hq] at hs; cases hs
    | some q => rw [hq] at hs; exact ⟨q, rfl, by simpa using hs⟩
  unfold execOp
  simp only [ho, hx, hy]
  have h2 : (i : Int) < (n : Int) := by omega
  simp [Instr.indexAt, asIntOf, run_underlying hu, Result.andThen, sizeOf, typeInfo, hinf, hs2, h2, hi]
end
section
variable {P : Program} {o : Oper} {a : Act} {V : World} {K : Act → World → Prop} {Q : Exit → Act → World → Prop}
theorem op_callC {v : Value} {f : FuncId} {caps : Array Value} (t : Tmp) (xs : Array Operand) (args : Array Value) (ho : o.op = .call (callOf o)) (hc : (callOf o).callee = .value (.tmp t)) (hx : (callOf o).args = xs) (hv : a.eval (.tmp t) = .func (.func f) #[] caps) (ha : xs.map a.eval = args)
    (hk : Calls P f (args ++ caps) V fun e w' => e = .returned v ∧ Below V.heap.size V w') (hrun : (callFunc f (args ++ caps)).run P V = .ok (.enter f (args ++ caps)) V) (hK : ∀ V', Below V.heap.size V V' → K (a.put o.dst v) V') : o.wp P a V K Q := by
  have h : (execOp a.eval o).run P V = .ok (.enter f (args ++ caps)) V := by
    unfold execOp
    rw [ho]
    simp only [resolve, hc, hx, hv, Deferred.ofValue, ha, Sem.run_bind, Sem.run_pure, Result.andThen_ok, invoke]
    simp [go_sem, hrun]
  unfold Oper.wp
  rw [h, Oper.upon_enter]
  refine hk.mono ?_
  rintro e w' ⟨rfl, hb⟩
  exact hK w' hb
end
theorem map3N {ev : Operand → Value} {x y z : Operand} {v u t : Value} (h : ev x = v) (h2 : ev y = u) (h3 : ev z = t) : (#[x, y, z] : Array Operand).map ev = #[v, u, t] := by simp [h, h2, h3]
end Go.Proofs.YtcojkmcnigppbaaGreatDoor
end
section
namespace Oct
def hexDig (n : Nat) : UInt8 := if n < 10 then (48 + n).toUInt8 else (87 + n).toUInt8
def hexOf (l : List UInt8) : List UInt8 := l.flatMap fun b => [hexDig (b.toNat / 16), hexDig (b.toNat % 16)]
theorem hexOf_snoc (l : List UInt8) (b : UInt8) : hexOf (l ++ [b]) = hexOf l ++ [hexDig (b.toNat / 16), hexDig (b.toNat % 16)] := by simp [hexOf]
theorem hexOf_length (l : List UInt8) : (hexOf l).length = 2 * l.length := by
  induction l with
  | nil => rfl
  | cons b l ih => simp [hexOf] at ih ⊢; omega
theorem hexOf_take (l : List UInt8) (k : Nat) (h : k < l.length) : hexOf (l.take (k + 1)) = hexOf (l.take k) ++ [hexDig (l[k].toNat / 16), hexDig (l[k].toNat % 16)] := by
  rw [List.take_succ_eq_append_getElem h, hexOf_snoc]
def hexV (c : UInt8) : Int := if 48 ≤ c.toNat ∧ c.toNat ≤ 57 then c.toNat - 48 else if 97 ≤ c.toNat ∧ c.toNat ≤ 102 then c.toNat - 87 else if 65 ≤ c.toNat ∧ c.toNat ≤ 70 then c.toNat - 55 else -1
theorem hexV_bound (c : UInt8) : -1 ≤ hexV c ∧ hexV c ≤ 15 := by unfold hexV; constructor <;> (repeat' split) <;> omega
def unhex : List UInt8 → Option (List UInt8)
  | [] => some []
  | [_] => none
  | a :: b :: r => if hexV a < 0 ∨ hexV b < 0 then none else (unhex r).map (((16 * hexV a + hexV b).toNat.toUInt8) :: ·)
theorem unhex_odd : ∀ (k : Nat) (l : List UInt8), l.length = 2 * k + 1 → unhex l = none := by
  intro k
  induction k with
  | zero => intro l h; match l, h with
    | [a], _ => rfl
  | succ k ih => intro l h; match l, h with
    | a :: b :: r, h =>
      have := ih r (by simp at h; omega)
      simp [unhex, this]
theorem unhex_length : ∀ (k : Nat) (l r : List UInt8), l.length = 2 * k → unhex l = some r → r.length = k := by
  intro k
  induction k with
  | zero => intro l r h hr; match l, h with
    | [], _ => simp [unhex] at hr; subst hr; rfl
  | succ k ih => intro l r h hr; match l, h with
    | a :: b :: q, h =>
      rw [unhex] at hr
      split at hr
      · cases hr
      · cases hq : unhex q with
        | none => rw [hq] at hr; cases hr
        | some z =>
          rw [hq] at hr
          simp at hr
          subst hr
          simp [ih q z (by simp at h; omega) hq]
theorem unhex_step (l : List UInt8) (k : Nat) (h : k + 1 < l.length) (h0 : 0 ≤ hexV l[k]) (h1 : 0 ≤ hexV l[k + 1]) (out : List UInt8) (H : unhex l = (unhex (l.drop k)).map (out ++ ·)) :
    unhex l = (unhex (l.drop (k + 2))).map ((out ++ [(16 * hexV l[k] + hexV l[k + 1]).toNat.toUInt8]) ++ ·) := by
  rw [H, List.drop_eq_getElem_cons (by omega), List.drop_eq_getElem_cons (by omega), unhex, if_neg (by omega)]
  cases unhex (l.drop (k + 1 + 1)) <;> simp
theorem unhex_stop (l : List UInt8) (k : Nat) (h : k + 1 < l.length) (hv : hexV l[k] < 0 ∨ hexV l[k + 1] < 0) (out : List UInt8) (H : unhex l = (unhex (l.drop k)).map (out ++ ·)) : unhex l = none := by
  rw [H, List.drop_eq_getElem_cons (by omega), List.drop_eq_getElem_cons (by omega), unhex, if_pos hv]
  rfl
/-! Base64 -/
def b64Sign (n : Nat) : UInt8 := if n < 26 then (65 + n).toUInt8 else if n < 52 then (71 + n).toUInt8 else if n < 62 then (n - 4).toUInt8 else if n = 62 then 43 else 47
def bits24 (r : List UInt8) : Nat := (r.getD 0 0).toNat * 65536 + (r.getD 1 0).toNat * 256 + (r.getD 2 0).toNat
def sgn (v i : Nat) : UInt8 := b64Sign (v / 2 ^ (18 - 6 * i) % 64)
def chunk (r : List UInt8) : List UInt8 := (List.range (min 3 r.length + 1)).map (sgn (bits24 r)) ++ List.replicate (3 - min 3 r.length) 61
def b64 : List UInt8 → List UInt8
  | [] => []
  | [a] => chunk [a]
  | [a, b] => chunk [a, b]
  | a :: b :: c :: r => chunk [a, b, c] ++ b64 r
theorem b64_step (r : List UInt8) (h : r ≠ []) : b64 r = chunk r ++ b64 (r.drop 3) := by
  match r, h with
  | [a], _ => simp [b64]
  | [a, b], _ => simp [b64]
  | a :: b :: c :: r, _ =>
    simp [b64, chunk, bits24, show min 3 (r.length + 1 + 1 + 1) = 3 from by omega]
theorem chunk_length (r : List UInt8) : (chunk r).length = 4 := by simp [chunk]; omega
theorem b64_length : ∀ (r : List UInt8), (b64 r).length ≤ 4 * r.length
  | [] => by simp [b64]
  | [a] => by rw [b64, chunk_length]; simp
  | [a, b] => by rw [b64, chunk_length]; simp
  | a :: b :: c :: r => by
    have := b64_length r
    rw [b64, List.length_append, chunk_length]
    simp; omega
theorem bits24_lt (r : List UInt8) : bits24 r < 16777216 := by
  have h0 := (r.getD 0 0).toNat_lt
  have h1 := (r.getD 1 0).toNat_lt
  have h2 := (r.getD 2 0).toNat_lt
  unfold bits24; omega
/-! There and back. -/
theorem hexV_dig : ∀ n : Nat, n < 16 → hexV (hexDig n) = n := by decide
theorem unhex_hex (l : List UInt8) : unhex (hexOf l) = some l := by
  induction l with
  | nil => rfl
  | cons b l ih =>
    have hb := b.toNat_lt
    have h1 := hexV_dig (b.toNat / 16) (by omega)
    have h2 := hexV_dig (b.toNat % 16) (by omega)
    have e : hexOf (b :: l) = hexDig (b.toNat / 16) :: hexDig (b.toNat % 16) :: hexOf l := by simp [hexOf]
    rw [e, unhex, if_neg (by rw [h1, h2]; omega), ih, h1, h2]
    have e2 : (16 * ((b.toNat / 16 : Nat) : Int) + ((b.toNat % 16 : Nat) : Int)).toNat = b.toNat := by omega
    rw [e2]
    simp
end Oct
end
section
namespace Oct
open Go
def bitAt (l : List UInt8) (i : Nat) : Nat := (l.getD (i / 8) 0).toNat / 2 ^ (7 - i % 8) % 2
def acc (l : List UInt8) (i : Nat) : Nat → Nat
  | 0 => 0
  | k + 1 => 2 * acc l i k + bitAt l (i + k)
theorem bitAt_lt (l : List UInt8) (i : Nat) : bitAt l i < 2 := Nat.mod_lt _ (by omega)
theorem acc_lt (l : List UInt8) (i : Nat) : ∀ k, acc l i k < 2 ^ k
  | 0 => by simp [acc]
  | k + 1 => by
    have h1 := acc_lt l i k
    have h2 := bitAt_lt l (i + k)
    rw [acc, Nat.pow_succ]
    omega
theorem getD_toNat (l : List UInt8) (i : Nat) : (l.getD i 0).toNat < 256 := (l.getD i 0).toNat_lt
set_option maxHeartbeats 2000000 in
theorem acc_six (l : List UInt8) (q i : Nat) (hi : i < 4) : acc l (6 * (4 * q + i)) 6 = bits24 (l.drop (3 * q)) / 2 ^ (18 - 6 * i) % 64 := by
  have h0 := getD_toNat l (3 * q)
  have h1 := getD_toNat l (3 * q + 1)
  have h2 := getD_toNat l (3 * q + 2)
  have e : bits24 (l.drop (3 * q)) = (l.getD (3 * q) 0).toNat * 65536 + (l.getD (3 * q + 1) 0).toNat * 256 + (l.getD (3 * q + 2) 0).toNat := by
    simp [bits24, List.getD, List.getElem?_drop]
  rw [e]
  have hb : ∀ t, t < 24 → bitAt l (24 * q + t) = (l.getD (3 * q + t / 8) 0).toNat / 2 ^ (7 - t % 8) % 2 := by
    intro t _
    unfold bitAt
    rw [show (24 * q + t) / 8 = 3 * q + t / 8 from by omega, show (24 * q + t) % 8 = t % 8 from by omega]
  have h : i = 0 ∨ i = 1 ∨ i = 2 ∨ i = 3 := by omega
  rcases h with rfl | rfl | rfl | rfl
  · have b0 : bitAt l (6 * (4 * q + 0) + 0) = (l.getD (3 * q) 0).toNat / 128 % 2 := by
      rw [show 6 * (4 * q + 0) + 0 = 24 * q + 0 from by omega]
      exact hb 0 (by omega)
    have b1 : bitAt l (6 * (4 * q + 0) + 1) = (l.getD (3 * q) 0).toNat / 64 % 2 := by
      rw [show 6 * (4 * q + 0) + 1 = 24 * q + 1 from by omega]
      exact hb 1 (by omega)
    have b2 : bitAt l (6 * (4 * q + 0) + 2) = (l.getD (3 * q) 0).toNat / 32 % 2 := by
      rw [show 6 * (4 * q + 0) + 2 = 24 * q + 2 from by omega]
      exact hb 2 (by omega)
    have b3 : bitAt l (6 * (4 * q + 0) + 3) = (l.getD (3 * q) 0).toNat / 16 % 2 := by
      rw [show 6 * (4 * q + 0) + 3 = 24 * q + 3 from by omega]
      exact hb 3 (by omega)
    have b4 : bitAt l (6 * (4 * q + 0) + 4) = (l.getD (3 * q) 0).toNat / 8 % 2 := by
      rw [show 6 * (4 * q + 0) + 4 = 24 * q + 4 from by omega]
      exact hb 4 (by omega)
    have b5 : bitAt l (6 * (4 * q + 0) + 5) = (l.getD (3 * q) 0).toNat / 4 % 2 := by
      rw [show 6 * (4 * q + 0) + 5 = 24 * q + 5 from by omega]
      exact hb 5 (by omega)
    simp only [acc, b0, b1, b2, b3, b4, b5]
    generalize (l.getD (3 * q) 0).toNat = x0 at *
    generalize (l.getD (3 * q + 1) 0).toNat = x1 at *
    generalize (l.getD (3 * q + 2) 0).toNat = x2 at *
    clear hb e b0 b1 b2 b3 b4 b5
    omega
  · have b0 : bitAt l (6 * (4 * q + 1) + 0) = (l.getD (3 * q) 0).toNat / 2 % 2 := by
      rw [show 6 * (4 * q + 1) + 0 = 24 * q + 6 from by omega]
      exact hb 6 (by omega)
    have b1 : bitAt l (6 * (4 * q + 1) + 1) = (l.getD (3 * q) 0).toNat / 1 % 2 := by
      rw [show 6 * (4 * q + 1) + 1 = 24 * q + 7 from by omega]
      exact hb 7 (by omega)
    have b2 : bitAt l (6 * (4 * q + 1) + 2) = (l.getD (3 * q + 1) 0).toNat / 128 % 2 := by
      rw [show 6 * (4 * q + 1) + 2 = 24 * q + 8 from by omega]
      exact hb 8 (by omega)
    have b3 : bitAt l (6 * (4 * q + 1) + 3) = (l.getD (3 * q + 1) 0).toNat / 64 % 2 := by
      rw [show 6 * (4 * q + 1) + 3 = 24 * q + 9 from by omega]
      exact hb 9 (by omega)
    have b4 : bitAt l (6 * (4 * q + 1) + 4) = (l.getD (3 * q + 1) 0).toNat / 32 % 2 := by
      rw [show 6 * (4 * q + 1) + 4 = 24 * q + 10 from by omega]
      exact hb 10 (by omega)
    have b5 : bitAt l (6 * (4 * q + 1) + 5) = (l.getD (3 * q + 1) 0).toNat / 16 % 2 := by
      rw [show 6 * (4 * q + 1) + 5 = 24 * q + 11 from by omega]
      exact hb 11 (by omega)
    simp only [acc, b0, b1, b2, b3, b4, b5]
    generalize (l.getD (3 * q) 0).toNat = x0 at *
    generalize (l.getD (3 * q + 1) 0).toNat = x1 at *
    generalize (l.getD (3 * q + 2) 0).toNat = x2 at *
    clear hb e b0 b1 b2 b3 b4 b5
    omega
  · have b0 : bitAt l (6 * (4 * q + 2) + 0) = (l.getD (3 * q + 1) 0).toNat / 8 % 2 := by
      rw [show 6 * (4 * q + 2) + 0 = 24 * q + 12 from by omega]
      exact hb 12 (by omega)
    have b1 : bitAt l (6 * (4 * q + 2) + 1) = (l.getD (3 * q + 1) 0).toNat / 4 % 2 := by
      rw [show 6 * (4 * q + 2) + 1 = 24 * q + 13 from by omega]
      exact hb 13 (by omega)
    have b2 : bitAt l (6 * (4 * q + 2) + 2) = (l.getD (3 * q + 1) 0).toNat / 2 % 2 := by
      rw [show 6 * (4 * q + 2) + 2 = 24 * q + 14 from by omega]
      exact hb 14 (by omega)
    have b3 : bitAt l (6 * (4 * q + 2) + 3) = (l.getD (3 * q + 1) 0).toNat / 1 % 2 := by
      rw [show 6 * (4 * q + 2) + 3 = 24 * q + 15 from by omega]
      exact hb 15 (by omega)
    have b4 : bitAt l (6 * (4 * q + 2) + 4) = (l.getD (3 * q + 2) 0).toNat / 128 % 2 := by
      rw [show 6 * (4 * q + 2) + 4 = 24 * q + 16 from by omega]
      exact hb 16 (by omega)
    have b5 : bitAt l (6 * (4 * q + 2) + 5) = (l.getD (3 * q + 2) 0).toNat / 64 % 2 := by
      rw [show 6 * (4 * q + 2) + 5 = 24 * q + 17 from by omega]
      exact hb 17 (by omega)
    simp only [acc, b0, b1, b2, b3, b4, b5]
    generalize (l.getD (3 * q) 0).toNat = x0 at *
    generalize (l.getD (3 * q + 1) 0).toNat = x1 at *
    generalize (l.getD (3 * q + 2) 0).toNat = x2 at *
    clear hb e b0 b1 b2 b3 b4 b5
    omega
  · have b0 : bitAt l (6 * (4 * q + 3) + 0) = (l.getD (3 * q + 2) 0).toNat / 32 % 2 := by
      rw [show 6 * (4 * q + 3) + 0 = 24 * q + 18 from by omega]
      exact hb 18 (by omega)
    have b1 : bitAt l (6 * (4 * q + 3) + 1) = (l.getD (3 * q + 2) 0).toNat / 16 % 2 := by
      rw [show 6 * (4 * q + 3) + 1 = 24 * q + 19 from by omega]
      exact hb 19 (by omega)
    have b2 : bitAt l (6 * (4 * q + 3) + 2) = (l.getD (3 * q + 2) 0).toNat / 8 % 2 := by
      rw [show 6 * (4 * q + 3) + 2 = 24 * q + 20 from by omega]
      exact hb 20 (by omega)
    have b3 : bitAt l (6 * (4 * q + 3) + 3) = (l.getD (3 * q + 2) 0).toNat / 4 % 2 := by
      rw [show 6 * (4 * q + 3) + 3 = 24 * q + 21 from by omega]
      exact hb 21 (by omega)
    have b4 : bitAt l (6 * (4 * q + 3) + 4) = (l.getD (3 * q + 2) 0).toNat / 2 % 2 := by
      rw [show 6 * (4 * q + 3) + 4 = 24 * q + 22 from by omega]
      exact hb 22 (by omega)
    have b5 : bitAt l (6 * (4 * q + 3) + 5) = (l.getD (3 * q + 2) 0).toNat / 1 % 2 := by
      rw [show 6 * (4 * q + 3) + 5 = 24 * q + 23 from by omega]
      exact hb 23 (by omega)
    simp only [acc, b0, b1, b2, b3, b4, b5]
    generalize (l.getD (3 * q) 0).toNat = x0 at *
    generalize (l.getD (3 * q + 1) 0).toNat = x1 at *
    generalize (l.getD (3 * q + 2) 0).toNat = x2 at *
    clear hb e b0 b1 b2 b3 b4 b5
    omega
theorem acc_shift (l : List UInt8) (k : Nat) : ∀ m i, acc (l.drop (3 * k)) i m = acc l (24 * k + i) m
  | 0, _ => rfl
  | m + 1, i => by
    rw [acc, acc, acc_shift l k m i]
    congr 1
    unfold bitAt
    rw [show (24 * k + i + m) / 8 = 3 * k + (i + m) / 8 from by omega, show (24 * k + i + m) % 8 = (i + m) % 8 from by omega]
    simp [List.getD, List.getElem?_drop]
def grp (l : List UInt8) (j : Nat) : UInt8 := b64Sign (acc l (6 * j) 6)
theorem grp_sgn (l : List UInt8) (i : Nat) (hi : i < 4) : grp l i = sgn (bits24 l) i := by
  have := acc_six l 0 i hi
  simp only [Nat.mul_zero, Nat.zero_add, List.drop_zero] at this
  unfold grp sgn
  rw [this]
theorem grp_next (a b c : UInt8) (r : List UInt8) (j : Nat) : grp (a :: b :: c :: r) (j + 4) = grp r j := by
  have := acc_shift (a :: b :: c :: r) 1 6 (6 * j)
  unfold grp
  rw [show 6 * (j + 4) = 24 * 1 + 6 * j from by omega, ← this]
  rfl
theorem b64_groups : ∀ (l : List UInt8), b64 l = (List.range ((4 * l.length + 2) / 3)).map (grp l) ++ List.replicate ((4 - (4 * l.length + 2) / 3 % 4) % 4) 61
  | [] => by rfl
  | [a] => by
    rw [b64, chunk]
    simp only [List.length_cons, List.length_nil, Nat.zero_add, show min 3 1 = 1 from rfl, show (4 * 1 + 2) / 3 = 2 from rfl, show (4 - 2 % 4) % 4 = 2 from rfl, show 3 - 1 = 2 from rfl, show 1 + 1 = 2 from rfl]
    congr 1
    exact List.map_congr_left fun i hi => (grp_sgn [a] i (by have := List.mem_range.1 hi; omega)).symm
  | [a, b] => by
    rw [b64, chunk]
    simp only [List.length_cons, List.length_nil, Nat.zero_add, show 1 + 1 = 2 from rfl, show min 3 2 = 2 from rfl, show (4 * 2 + 2) / 3 = 3 from rfl, show (4 - 3 % 4) % 4 = 1 from rfl, show 3 - 2 = 1 from rfl, show 2 + 1 = 3 from rfl]
    congr 1
    exact List.map_congr_left fun i hi => (grp_sgn [a, b] i (by have := List.mem_range.1 hi; omega)).symm
  | a :: b :: c :: r => by
    have ih := b64_groups r
    have e1 : (4 * (a :: b :: c :: r).length + 2) / 3 = 4 + (4 * r.length + 2) / 3 := by simp only [List.length_cons]; omega
    rw [b64_step _ (by simp), e1, List.range_add, List.map_append, List.append_assoc]
    have e2 : (4 - (4 + (4 * r.length + 2) / 3) % 4) % 4 = (4 - (4 * r.length + 2) / 3 % 4) % 4 := by omega
    rw [e2]
    have e3 : chunk (a :: b :: c :: r) = (List.range 4).map (grp (a :: b :: c :: r)) := by
      rw [chunk, show min 3 (a :: b :: c :: r).length = 3 from by simp only [List.length_cons]; omega]
      show (List.range 4).map _ ++ [] = _
      rw [List.append_nil]
      exact List.map_congr_left fun i hi => (grp_sgn _ i (by have := List.mem_range.1 hi; omega)).symm
    rw [e3]
    congr 1
    show b64 r = _
    rw [ih]
    congr 1
    rw [List.map_map]
    refine List.map_congr_left fun j _ => ?_
    show grp r j = grp (a :: b :: c :: r) (4 + j)
    rw [Nat.add_comm 4 j, grp_next]
/-! Read back, as the program does: bits left over, how many of them, the bytes so far. -/
def val64 (c : UInt8) : Int := Lib.indexByte [65, 66, 67, 68, 69, 70, 71, 72, 73, 74, 75, 76, 77, 78, 79, 80, 81, 82, 83, 84, 85, 86, 87, 88, 89, 90, 97, 98, 99, 100, 101, 102, 103, 104, 105, 106, 107, 108, 109, 110, 111, 112, 113, 114, 115, 116, 117, 118, 119, 120, 121, 122, 48, 49, 50, 51, 52, 53, 54, 55, 56, 57, 43, 47] c
theorem val64_sign : ∀ n : Nat, n < 64 → val64 (b64Sign n) = n := by decide +kernel
theorem val64_lt : ∀ n : Nat, n < 256 → -1 ≤ val64 n.toUInt8 ∧ val64 n.toUInt8 < 64 := by decide +kernel
theorem sign_val64 : ∀ n : Nat, n < 256 → 0 ≤ val64 n.toUInt8 → b64Sign (val64 n.toUInt8).toNat = n.toUInt8 := by decide +kernel
theorem val64_bound (c : UInt8) : -1 ≤ val64 c ∧ val64 c < 64 := by simpa using val64_lt c.toNat c.toNat_lt
theorem sign_of_val64 (c : UInt8) (h : 0 ≤ val64 c) : b64Sign (val64 c).toNat = c := by
  have := sign_val64 c.toNat c.toNat_lt (by simpa using h)
  simpa using this
structure U where
  bits : Nat
  count : Nat
  out : List UInt8
def ustep (s : U) (d : Nat) : U :=
  if s.count + 6 ≥ 8 then ⟨(s.bits * 64 + d) % 2 ^ (s.count - 2), s.count - 2, s.out ++ [((s.bits * 64 + d) / 2 ^ (s.count - 2)).toUInt8]⟩
  else ⟨s.bits * 64 + d, s.count + 6, s.out⟩
def urun : List UInt8 → U → Option U
  | [], s => some s
  | c :: r, s => if val64 c < 0 then none else urun r (ustep s (val64 c).toNat)
def ub64 (s : List UInt8) : Option (List UInt8) :=
  if s.length % 4 ≠ 0 ∨ s.length - (Lib.trimRightB s 61).length > 2 then none
  else match urun (Lib.trimRightB s 61) ⟨0, 0, []⟩ with
    | none => none
    | some u => if u.bits ≠ 0 then none else some u.out
end Oct
end
section
namespace Oct
open Go
def sgs : List UInt8 → List UInt8
  | [] => []
  | [a] => [sgn (bits24 [a]) 0, sgn (bits24 [a]) 1]
  | [a, b] => [sgn (bits24 [a, b]) 0, sgn (bits24 [a, b]) 1, sgn (bits24 [a, b]) 2]
  | a :: b :: c :: r => sgn (bits24 [a, b, c]) 0 :: sgn (bits24 [a, b, c]) 1 :: sgn (bits24 [a, b, c]) 2 :: sgn (bits24 [a, b, c]) 3 :: sgs r
def pad (n : Nat) : Nat := (3 - n % 3) % 3
theorem b64_sgs : ∀ (y : List UInt8), b64 y = sgs y ++ List.replicate (pad y.length) 61
  | [] => rfl
  | [a] => rfl
  | [a, b] => rfl
  | a :: b :: c :: r => by
    have ih := b64_sgs r
    have hp : pad (a :: b :: c :: r).length = pad r.length := by simp only [pad, List.length_cons]; omega
    rw [b64, sgs, hp, ih]
    rfl
theorem sgs_length : ∀ (y : List UInt8), (sgs y).length + pad y.length = 4 * ((y.length + 2) / 3)
  | [] => rfl
  | [a] => by simp [sgs, pad]
  | [a, b] => by simp [sgs, pad]
  | a :: b :: c :: r => by
    have ih := sgs_length r
    have hp : pad (a :: b :: c :: r).length = pad r.length := by simp only [pad, List.length_cons]; omega
    rw [hp]
    simp only [sgs, List.length_cons]
    omega
theorem sign_ne : ∀ n : Nat, n < 64 → b64Sign n ≠ 61 := by decide
theorem sgn_ne (v i : Nat) : sgn v i ≠ 61 := sign_ne _ (Nat.mod_lt _ (by omega))
theorem sgs_ne : ∀ (y : List UInt8) (c : UInt8), c ∈ sgs y → c ≠ 61
  | [], c, h => by simp [sgs] at h
  | [a], c, h => by
    simp only [sgs, List.mem_cons, List.mem_nil_iff, or_false] at h
    rcases h with rfl | rfl <;> exact sgn_ne _ _
  | [a, b], c, h => by
    simp only [sgs, List.mem_cons, List.mem_nil_iff, or_false] at h
    rcases h with rfl | rfl | rfl <;> exact sgn_ne _ _
  | a :: b :: d :: r, c, h => by
    simp only [sgs, List.mem_cons] at h
    rcases h with rfl | rfl | rfl | rfl | h
    · exact sgn_ne _ _
    · exact sgn_ne _ _
    · exact sgn_ne _ _
    · exact sgn_ne _ _
    · exact sgs_ne r c h
theorem trim_pad (l : List UInt8) (p : Nat) (h : ∀ c ∈ l, c ≠ 61) : Lib.trimRightB (l ++ List.replicate p 61) 61 = l := by
  unfold Lib.trimRightB
  rw [List.reverse_append, List.reverse_replicate, List.dropWhile_append_of_pos (by intro c hc; simp [List.eq_of_mem_replicate hc])]
  have : (l.reverse.dropWhile (· == 61)) = l.reverse := by
    cases hr : l.reverse with
    | nil => rfl
    | cons c r =>
      have hc : c ∈ l := by rw [← List.mem_reverse, hr]; simp
      rw [List.dropWhile_cons_of_neg (by simpa using h c hc)]
  rw [this, List.reverse_reverse]
theorem mem_tw (p : UInt8 → Bool) : ∀ (l : List UInt8) (b : UInt8), b ∈ l.takeWhile p → p b = true
  | [], b, h => by simp at h
  | c :: r, b, h => by
    rw [List.takeWhile_cons] at h
    split at h
    · rename_i hc
      rcases List.mem_cons.1 h with rfl | h
      · exact hc
      · exact mem_tw p r b h
    · cases h
theorem trim_split (s : List UInt8) : s = Lib.trimRightB s 61 ++ List.replicate (s.length - (Lib.trimRightB s 61).length) 61 := by
  have h := List.takeWhile_append_dropWhile (p := fun x : UInt8 => x == 61) (l := s.reverse)
  have ht : ∀ l : List UInt8, l.takeWhile (fun x => x == 61) = List.replicate (l.takeWhile (fun x => x == 61)).length 61 := by
    intro l
    rw [List.eq_replicate_iff]
    refine ⟨rfl, fun b hb => ?_⟩
    have := mem_tw (fun x : UInt8 => x == 61) l b hb
    simpa using this
  have h2 := congrArg List.reverse h
  rw [List.reverse_append, List.reverse_reverse] at h2
  have h3 : (s.reverse.takeWhile (fun x => x == 61)).reverse = List.replicate (s.length - (Lib.trimRightB s 61).length) 61 := by
    have hl := congrArg List.length h2
    rw [List.length_append, List.length_reverse] at hl
    rw [ht s.reverse, List.reverse_replicate]
    congr 1
    unfold Lib.trimRightB
    simp only [List.length_reverse] at hl ⊢
    omega
  rw [h3] at h2
  exact h2.symm
theorem urun_sign (n : Nat) (hn : n < 64) (r : List UInt8) (s : U) : urun (b64Sign n :: r) s = urun r (ustep s n) := by
  rw [urun, val64_sign n hn, if_neg (by omega)]
  rfl
theorem step0 (b : Nat) (out : List UInt8) (d : Nat) : ustep ⟨b, 0, out⟩ d = ⟨b * 64 + d, 6, out⟩ := by simp [ustep]
theorem step6 (b : Nat) (out : List UInt8) (d : Nat) : ustep ⟨b, 6, out⟩ d = ⟨(b * 64 + d) % 16, 4, out ++ [((b * 64 + d) / 16).toUInt8]⟩ := by simp [ustep]
theorem step4 (b : Nat) (out : List UInt8) (d : Nat) : ustep ⟨b, 4, out⟩ d = ⟨(b * 64 + d) % 4, 2, out ++ [((b * 64 + d) / 4).toUInt8]⟩ := by simp [ustep]
theorem step2 (b : Nat) (out : List UInt8) (d : Nat) : ustep ⟨b, 2, out⟩ d = ⟨0, 0, out ++ [(b * 64 + d).toUInt8]⟩ := by simp [ustep]; omega
theorem byte_of (x : UInt8) (n : Nat) (h : n = x.toNat) : n.toUInt8 = x := by rw [h]; simp
theorem U_eq {b b' c : Nat} {o o' : List UInt8} (h1 : b = b') (h2 : o = o') : some (U.mk b c o) = some (U.mk b' c o') := by rw [h1, h2]
theorem urun_sgs : ∀ (y out : List UInt8), ∃ c, urun (sgs y) ⟨0, 0, out⟩ = some ⟨0, c, out ++ y⟩
  | [], out => ⟨0, by simp [sgs, urun]⟩
  | [a], out => by
    have ha := a.toNat_lt
    have hv : bits24 [a] = a.toNat * 65536 := by simp [bits24]
    refine ⟨4, ?_⟩
    simp only [sgs, sgn, hv]
    rw [urun_sign _ (Nat.mod_lt _ (by omega)), urun_sign _ (Nat.mod_lt _ (by omega)), step0, step6, urun]
    simp only [Nat.mul_zero, Nat.sub_zero, Nat.mul_one]
    exact U_eq (by omega) (by rw [byte_of a _ (by omega)])
  | [a, b], out => by
    have ha := a.toNat_lt
    have hb := b.toNat_lt
    have hv : bits24 [a, b] = a.toNat * 65536 + b.toNat * 256 := by simp [bits24]
    refine ⟨2, ?_⟩
    simp only [sgs, sgn, hv]
    rw [urun_sign _ (Nat.mod_lt _ (by omega)), urun_sign _ (Nat.mod_lt _ (by omega)), urun_sign _ (Nat.mod_lt _ (by omega)), step0, step6, step4, urun]
    simp only [Nat.mul_zero, Nat.sub_zero, Nat.mul_one]
    exact U_eq (by omega) (by rw [byte_of a _ (by omega), byte_of b _ (by omega)]; simp)
  | a :: b :: c :: r, out => by
    have ha := a.toNat_lt
    have hb := b.toNat_lt
    have hc := c.toNat_lt
    have hv : bits24 [a, b, c] = a.toNat * 65536 + b.toNat * 256 + c.toNat := by simp [bits24]
    obtain ⟨k, ih⟩ := urun_sgs r (out ++ [a, b, c])
    refine ⟨k, ?_⟩
    simp only [sgs, sgn, hv]
    rw [urun_sign _ (Nat.mod_lt _ (by omega)), urun_sign _ (Nat.mod_lt _ (by omega)), urun_sign _ (Nat.mod_lt _ (by omega)), urun_sign _ (Nat.mod_lt _ (by omega)), step0, step6, step4, step2]
    simp only [Nat.mul_zero, Nat.sub_zero, Nat.mul_one]
    rw [byte_of a _ (by omega), byte_of b _ (by omega), byte_of c _ (by omega)]
    have e : out ++ [a] ++ [b] ++ [c] = out ++ [a, b, c] := by simp
    rw [e, ih]
    simp
theorem ub64_b64 (y : List UInt8) : ub64 (b64 y) = some y := by
  obtain ⟨c, hc⟩ := urun_sgs y []
  have hl := sgs_length y
  have ht := trim_pad (sgs y) (pad y.length) (sgs_ne y)
  have hp : pad y.length ≤ 2 := by unfold pad; omega
  unfold ub64
  rw [b64_sgs, ht, if_neg (by rw [List.length_append, List.length_replicate]; omega), hc]
  simp
theorem urun_cons {c : UInt8} {r : List UInt8} {s u : U} (h : urun (c :: r) s = some u) : ∃ d, d < 64 ∧ b64Sign d = c ∧ urun r (ustep s d) = some u := by
  rw [urun] at h
  split at h
  · cases h
  · have hb := val64_bound c
    exact ⟨(val64 c).toNat, by omega, sign_of_val64 c (by omega), h⟩
theorem nat_byte (n : Nat) (h : n < 256) : n.toUInt8.toNat = n := by simp; omega
theorem urun_back : ∀ (ds out : List UInt8) (u : U), urun ds ⟨0, 0, out⟩ = some u → u.bits = 0 → ds.length % 4 ≠ 1 → ∃ y, u.out = out ++ y ∧ sgs y = ds
  | [], out, u, h, _, _ => by
    simp [urun] at h
    subst h
    exact ⟨[], by simp, rfl⟩
  | [c1], out, u, h, _, hl => by simp at hl
  | [c1, c2], out, u, h, hb, _ => by
    obtain ⟨d1, b1, e1, h1⟩ := urun_cons h
    obtain ⟨d2, b2, e2, h2⟩ := urun_cons h1
    subst e1 e2
    rw [step0, step6, urun, Option.some.injEq] at h2
    subst h2
    simp only [Nat.zero_mul, Nat.zero_add] at hb
    refine ⟨[((0 * 64 + d1) * 64 + d2) / 16 |>.toUInt8], rfl, ?_⟩
    have ht := nat_byte (((0 * 64 + d1) * 64 + d2) / 16) (by omega)
    have hv : bits24 [(((0 * 64 + d1) * 64 + d2) / 16).toUInt8] = ((0 * 64 + d1) * 64 + d2) / 16 * 65536 := by
      simp only [bits24, List.getD_cons_zero, List.getD_cons_succ, List.getD_nil, ht]; simp
    simp only [sgs, sgn, hv]
    simp only [Nat.mul_zero, Nat.sub_zero, Nat.mul_one]
    rw [show ((0 * 64 + d1) * 64 + d2) / 16 * 65536 / 2 ^ 18 % 64 = d1 from by omega, show ((0 * 64 + d1) * 64 + d2) / 16 * 65536 / 2 ^ (18 - 6) % 64 = d2 from by omega]
  | [c1, c2, c3], out, u, h, hb, _ => by
    obtain ⟨d1, b1, e1, h1⟩ := urun_cons h
    obtain ⟨d2, b2, e2, h2⟩ := urun_cons h1
    obtain ⟨d3, b3, e3, h3⟩ := urun_cons h2
    subst e1 e2 e3
    rw [step0, step6, step4, urun, Option.some.injEq] at h3
    subst h3
    obtain ⟨x, hx⟩ : ∃ x, x = ((0 * 64 + d1) * 64 + d2) / 16 := ⟨_, rfl⟩
    obtain ⟨y, hy⟩ : ∃ y, y = (((0 * 64 + d1) * 64 + d2) % 16 * 64 + d3) / 4 := ⟨_, rfl⟩
    have hb' : (((0 * 64 + d1) * 64 + d2) % 16 * 64 + d3) % 4 = 0 := hb
    rw [← hx, ← hy]
    refine ⟨[x.toUInt8, y.toUInt8], by simp, ?_⟩
    have hv : bits24 [x.toUInt8, y.toUInt8] = x * 65536 + y * 256 := by
      simp only [bits24, List.getD_cons_zero, List.getD_cons_succ, List.getD_nil, nat_byte x (by omega), nat_byte y (by omega)]; simp
    simp only [sgs, sgn, hv]
    simp only [Nat.mul_zero, Nat.sub_zero, Nat.mul_one]
    rw [show (x * 65536 + y * 256) / 2 ^ 18 % 64 = d1 from by omega, show (x * 65536 + y * 256) / 2 ^ (18 - 6) % 64 = d2 from by omega, show (x * 65536 + y * 256) / 2 ^ (18 - 6 * 2) % 64 = d3 from by omega]
  | c1 :: c2 :: c3 :: c4 :: r, out, u, h, hb, hl => by
    obtain ⟨d1, b1, e1, h1⟩ := urun_cons h
    obtain ⟨d2, b2, e2, h2⟩ := urun_cons h1
    obtain ⟨d3, b3, e3, h3⟩ := urun_cons h2
    obtain ⟨d4, b4, e4, h4⟩ := urun_cons h3
    subst e1 e2 e3 e4
    rw [step0, step6, step4, step2] at h4
    obtain ⟨x, hx⟩ : ∃ x, x = ((0 * 64 + d1) * 64 + d2) / 16 := ⟨_, rfl⟩
    obtain ⟨y, hy⟩ : ∃ y, y = (((0 * 64 + d1) * 64 + d2) % 16 * 64 + d3) / 4 := ⟨_, rfl⟩
    obtain ⟨z, hz⟩ : ∃ z, z = (((0 * 64 + d1) * 64 + d2) % 16 * 64 + d3) % 4 * 64 + d4 := ⟨_, rfl⟩
    rw [← hx, ← hy, ← hz] at h4
    obtain ⟨w, hw1, hw2⟩ := urun_back r _ u h4 hb (by simp only [List.length_cons] at hl; omega)
    refine ⟨x.toUInt8 :: y.toUInt8 :: z.toUInt8 :: w, by rw [hw1]; simp, ?_⟩
    have hv : bits24 [x.toUInt8, y.toUInt8, z.toUInt8] = x * 65536 + y * 256 + z := by
      simp only [bits24, List.getD_cons_zero, List.getD_cons_succ, List.getD_nil, nat_byte x (by omega), nat_byte y (by omega), nat_byte z (by omega)]
    simp only [sgs, sgn, hv, hw2]
    simp only [Nat.mul_zero, Nat.sub_zero, Nat.mul_one]
    rw [show (x * 65536 + y * 256 + z) / 2 ^ 18 % 64 = d1 from by omega, show (x * 65536 + y * 256 + z) / 2 ^ (18 - 6) % 64 = d2 from by omega, show (x * 65536 + y * 256 + z) / 2 ^ (18 - 6 * 2) % 64 = d3 from by omega, show (x * 65536 + y * 256 + z) / 2 ^ (18 - 6 * 3) % 64 = d4 from by omega]
theorem b64_ub64 (s y : List UInt8) (h : ub64 s = some y) : b64 y = s := by
  unfold ub64 at h
  split at h
  · cases h
  · rename_i hlen
    split at h
    · cases h
    · rename_i u hu
      split at h
      · cases h
      · rename_i hb
        simp only [Option.some.injEq] at h
        have hs := trim_split s
        have hsl : (Lib.trimRightB s 61).length ≤ s.length := by
          have := congrArg List.length hs
          rw [List.length_append] at this
          omega
        obtain ⟨w, hw1, hw2⟩ := urun_back _ _ u hu (by omega) (by omega)
        rw [List.nil_append] at hw1
        have hy : w = y := by rw [← hw1]; exact h
        subst hy
        have hl := sgs_length w
        rw [hw2] at hl
        have hp : pad w.length ≤ 2 := by unfold pad; omega
        have hpe : pad w.length = s.length - (Lib.trimRightB s 61).length := by omega
        rw [b64_sgs, hw2, hpe]
        exact hs.symm
end Oct
end
section
namespace Sx
open Go Oct
def isBlank (c : UInt8) : Bool := c == 32 || (decide (9 ≤ c.toNat) && decide (c.toNat ≤ 13))
def skip (s : List UInt8) : List UInt8 := s.dropWhile isBlank
def isLetter (c : UInt8) : Bool := (decide (97 ≤ c.toNat) && decide (c.toNat ≤ 122)) || (decide (65 ≤ c.toNat) && decide (c.toNat ≤ 90))
def isTok (c : UInt8) : Bool := isLetter c || isDig c || c == 46 || c == 47 || c == 95 || c == 58 || c == 42 || c == 43 || c == 61 || c == 45
def isHexS (c : UInt8) : Bool := decide (0 ≤ hexV c)
def isB64S (c : UInt8) : Bool := isLetter c || isDig c || c == 43 || c == 47 || c == 61
def aSome (may : UInt8 → Bool) (stop : UInt8) : List UInt8 → Res (List UInt8)
  | [] => .err 2 []
  | c :: r => if c = stop then .ok [] (c :: r) else if isBlank c then aSome may stop r else if may c = false then .err 3 (c :: r) else
    match aSome may stop r with
    | .ok l q => .ok (c :: l) q
    | .err e q => .err e q
def aMean (mean : List UInt8 → Option (List UInt8)) (x : Res (List UInt8)) : Res (List UInt8) :=
  match x with
  | .err e q => .err e q
  | .ok l q => match mean l with
    | none => .err 3 q
    | some b => .ok b (q.drop 1)
def isOct (m : Nat) (c : UInt8) : Bool := decide (48 ≤ c.toNat) && decide (c.toNat < 48 + m)
def aOctal (r : List UInt8) : Res UInt8 :=
  match r with
  | [] => .err 2 []
  | a :: r => if isOct 4 a = false then .err 3 (a :: r) else
    match r with
    | [] => .err 2 []
    | b :: r => if isOct 8 b = false then .err 3 (b :: r) else
      match r with
      | [] => .err 2 []
      | c :: r => if isOct 8 c = false then .err 3 (c :: r) else .ok (64 * (a.toNat - 48) + 8 * (b.toNat - 48) + (c.toNat - 48)).toUInt8 r
def aHexa (r : List UInt8) : Res UInt8 :=
  match r with
  | [] => .err 2 []
  | a :: r => if isHexS a = false then .err 3 (a :: r) else
    match r with
    | [] => .err 2 []
    | b :: r => if isHexS b = false then .err 3 (b :: r) else .ok (16 * hexV a + hexV b).toNat.toUInt8 r
def named (c : UInt8) : Option UInt8 :=
  if c = 98 then some 8 else if c = 116 then some 9 else if c = 118 then some 11 else if c = 110 then some 10 else if c = 102 then some 12 else if c = 114 then some 13 else
  if c = 34 then some 34 else if c = 39 then some 39 else if c = 92 then some 92 else none
def aEsc (s : List UInt8) : Res UInt8 :=
  match s with
  | [] => .err 2 []
  | c :: r => match named c with
    | some b => .ok b r
    | none => if c = 120 then aHexa r else aOctal (c :: r)
def aQuoted : Nat → List UInt8 → Res (List UInt8)
  | 0, s => .err 0 s
  | _ + 1, [] => .err 2 []
  | f + 1, c :: r =>
    if c = 34 then .ok [] r
    else if c = 92 then
      match aEsc r with
      | .err e q => .err e q
      | .ok b q => match aQuoted f q with
        | .err e q => .err e q
        | .ok l q => .ok (b :: l) q
    else match aQuoted f r with
      | .err e q => .err e q
      | .ok l q => .ok (c :: l) q
def aPlain (s : List UInt8) : Res (List UInt8) :=
  match s with
  | [] => .err 2 []
  | c :: r =>
    if isDig c then pBytes (c :: r)
    else if isTok c then .ok ((c :: r).takeWhile isTok) ((c :: r).dropWhile isTok)
    else if c = 34 then aQuoted (r.length + 1) r
    else if c = 35 then aMean unhex (aSome isHexS 35 r)
    else if c = 124 then aMean ub64 (aSome isB64S 124 r)
    else .err 3 (c :: r)
def aHint (s : List UInt8) : Res (List UInt8 × List UInt8) :=
  match aPlain (skip s) with
  | .err e q => .err e q
  | .ok hi q => match skip q with
    | [] => .err 2 []
    | c :: q => if c ≠ 93 then .err 3 (c :: q) else
      match aPlain (skip q) with
      | .err e q => .err e q
      | .ok da q => .ok (hi, da) q
def aBegins (c : UInt8) : Bool := c == 40 || c == 91 || c == 34 || c == 35 || c == 124 || isTok c
mutual
def aVal : Nat → List UInt8 → Nat → Nat → Res (SX × Nat)
  | 0, s, _, _ => .err 0 s
  | f + 1, s, nd, ar =>
    match skip s with
    | [] => .err 2 []
    | c :: r =>
      if aBegins c = false then .err 3 (c :: r)
      else if 512 ≤ nd ∨ (c = 40 ∧ 16 ≤ ar) then .err 4 (c :: r)
      else if c = 40 then
        match aKids f r (nd + 1) (ar + 1) with
        | .err e r' => .err e r'
        | .ok (ks, nd') r' => .ok (.mk true false [] [] ks, nd') r'
      else if c = 91 then
        match aHint r with
        | .err e r' => .err e r'
        | .ok (hi, da) r' => .ok (.mk false true hi da [], nd + 1) r'
      else
        match aPlain (c :: r) with
        | .err e r' => .err e r'
        | .ok da r' => .ok (.mk false false [] da [], nd + 1) r'
def aKids : Nat → List UInt8 → Nat → Nat → Res (List SX × Nat)
  | 0, s, _, _ => .err 0 s
  | f + 1, s, nd, ar =>
    match skip s with
    | [] => .err 2 []
    | c :: r =>
      if c = 41 then .ok ([], nd) r
      else
        match aVal f (c :: r) nd ar with
        | .err e r' => .err e r'
        | .ok (t, nd') r' =>
          match aKids f r' nd' ar with
          | .err e r'' => .err e r''
          | .ok (ts, nd'') r'' => .ok (t :: ts, nd'') r''
end
def aEnd (n : Nat) (t : SX) (r : List UInt8) : SX × Nat × Nat :=
  match skip r with
  | c :: q => (zeroS, n - (c :: q).length, 5)
  | [] => if may t then (t, 0, 0) else (zeroS, n, 4)
def aRead (s : List UInt8) : SX × Nat × Nat :=
  if 16384 < s.length then (zeroS, 16384, 4)
  else match aVal (2 * s.length + 1) s 0 0 with
    | .err e r => (zeroS, s.length - r.length, e)
    | .ok (t, _) r => aEnd s.length t r
def aUnpack (s : List UInt8) : SX × Nat × Nat :=
  if 16384 < s.length then (zeroS, 16384, 4)
  else match skip s with
    | [] => (zeroS, s.length, 2)
    | c :: r => if c ≠ 123 then (zeroS, s.length - (c :: r).length, 3) else
      match aSome isB64S 125 r with
      | .err e q => (zeroS, s.length - q.length, e)
      | .ok l q => match ub64 l with
        | none => (zeroS, s.length - q.length, 3)
        | some b => match pGet b with
          | (t, _, 0) => aEnd s.length t (q.drop 1)
          | (_, _, e) => (zeroS, s.length - q.length, e)
/-! What is left behind: a tail of what was there. -/
def Tail (q s : List UInt8) : Prop := ∃ p, s = p ++ q
theorem Tail.refl (s : List UInt8) : Tail s s := ⟨[], rfl⟩
theorem Tail.nil (s : List UInt8) : Tail [] s := ⟨s, by simp⟩
theorem Tail.trans {a b c : List UInt8} (h : Tail a b) (k : Tail b c) : Tail a c := by
  obtain ⟨p, rfl⟩ := h
  obtain ⟨q, rfl⟩ := k
  exact ⟨q ++ p, by simp⟩
theorem Tail.cons (c : UInt8) (s : List UInt8) : Tail s (c :: s) := ⟨[c], rfl⟩
theorem Tail.of_cons {c : UInt8} {q s : List UInt8} (h : Tail q s) : Tail q (c :: s) := h.trans (Tail.cons c s)
theorem Tail.drop (s : List UInt8) (k : Nat) : Tail (s.drop k) s := ⟨s.take k, (List.take_append_drop k s).symm⟩
theorem Tail.le {q s : List UInt8} (h : Tail q s) : q.length ≤ s.length := by
  obtain ⟨p, rfl⟩ := h
  simp
theorem Tail.at_ {q s : List UInt8} (h : Tail q s) : s.drop (s.length - q.length) = q := by
  obtain ⟨p, rfl⟩ := h
  simp
theorem Tail.skip (s : List UInt8) : Tail (skip s) s := ⟨s.takeWhile isBlank, (List.takeWhile_append_dropWhile).symm⟩
theorem Tail.tok (s : List UInt8) : Tail (s.dropWhile isTok) s := ⟨s.takeWhile isTok, (List.takeWhile_append_dropWhile).symm⟩
def Fine {α : Type} (s : List UInt8) (x : Res α) : Prop :=
  match x with
  | .err e q => 2 ≤ e ∧ e ≤ 4 ∧ Tail q s
  | .ok _ q => Tail q s
theorem Fine.up {α : Type} {s s' : List UInt8} {x : Res α} (h : Fine s x) (k : Tail s s') : Fine s' x := by
  cases x with
  | err e q => exact ⟨h.1, h.2.1, h.2.2.trans k⟩
  | ok a q => exact Tail.trans h k
theorem aSome_fine (may : UInt8 → Bool) (stop : UInt8) (s : List UInt8) : Fine s (aSome may stop s) := by
  induction s with
  | nil => exact ⟨by omega, by omega, Tail.refl _⟩
  | cons c r ih =>
    rw [aSome]
    split
    · exact Tail.refl _
    · split
      · exact ih.up (Tail.cons _ _)
      · split
        · exact ⟨by omega, by omega, Tail.refl _⟩
        · have ih := ih.up (Tail.cons c r)
          split
          · rename_i l q h
            rw [h] at ih
            exact ih
          · rename_i e q h
            rw [h] at ih
            exact ih
theorem aMean_fine (mean : List UInt8 → Option (List UInt8)) {s : List UInt8} {x : Res (List UInt8)} (h : Fine s x) : Fine s (aMean mean x) := by
  unfold aMean
  cases x with
  | err e q => exact h
  | ok l q =>
    simp only
    split
    · exact ⟨by omega, by omega, h⟩
    · exact (Tail.drop q 1).trans h
theorem aOctal_fine (s : List UInt8) : Fine s (aOctal s) := by
  match s with
  | [] => exact ⟨by omega, by omega, Tail.refl _⟩
  | a :: r =>
    simp only [aOctal]
    split
    · exact ⟨by omega, by omega, Tail.refl _⟩
    · match r with
      | [] => exact ⟨by omega, by omega, Tail.nil _⟩
      | b :: r =>
        simp only
        split
        · exact ⟨by omega, by omega, Tail.cons _ _⟩
        · match r with
          | [] => exact ⟨by omega, by omega, Tail.nil _⟩
          | c :: r =>
            simp only
            split
            · exact ⟨by omega, by omega, (Tail.cons _ _).of_cons⟩
            · exact ((Tail.cons _ _).of_cons).of_cons
theorem aHexa_fine (s : List UInt8) : Fine s (aHexa s) := by
  match s with
  | [] => exact ⟨by omega, by omega, Tail.refl _⟩
  | a :: r =>
    simp only [aHexa]
    split
    · exact ⟨by omega, by omega, Tail.refl _⟩
    · match r with
      | [] => exact ⟨by omega, by omega, Tail.nil _⟩
      | b :: r =>
        simp only
        split
        · exact ⟨by omega, by omega, Tail.cons _ _⟩
        · exact (Tail.cons _ _).of_cons
theorem aEsc_fine (s : List UInt8) : Fine s (aEsc s) := by
  match s with
  | [] => exact ⟨by omega, by omega, Tail.refl _⟩
  | c :: r =>
    simp only [aEsc]
    split
    · exact Tail.cons _ _
    · split
      · exact (aHexa_fine r).up (Tail.cons _ _)
      · exact aOctal_fine (c :: r)
theorem aQuoted_fine : ∀ (f : Nat) (s : List UInt8), s.length < f → Fine s (aQuoted f s)
  | 0, s, h => by omega
  | f + 1, [], _ => ⟨by omega, by omega, Tail.refl _⟩
  | f + 1, c :: r, h => by
    rw [aQuoted]
    split
    · exact Tail.cons _ _
    · split
      · have he := aEsc_fine r
        split
        · rename_i e q h1
          rw [h1] at he
          exact Fine.up (x := (.err e q : Res (List UInt8))) he (Tail.cons _ _)
        · rename_i b q h1
          rw [h1] at he
          have hl := Tail.le (show Tail q r from he)
          have ih := aQuoted_fine f q (by simp at h; omega)
          split
          · rename_i e q' h2
            rw [h2] at ih
            exact Fine.up (x := (.err e q' : Res (List UInt8))) ih (Tail.of_cons he)
          · rename_i l q' h2
            rw [h2] at ih
            exact Tail.trans ih (Tail.of_cons he)
      · have ih := aQuoted_fine f r (by simp at h; omega)
        split
        · rename_i e q' h2
          rw [h2] at ih
          exact Fine.up (x := (.err e q' : Res (List UInt8))) ih (Tail.cons _ _)
        · rename_i l q' h2
          rw [h2] at ih
          exact Tail.trans ih (Tail.cons _ _)
theorem pBytes_fine (s : List UInt8) : Fine s (pBytes s) := by
  cases h : pBytes s with
  | ok b r => exact ⟨text b, (pBytes_sound h).1⟩
  | err e q =>
    unfold pBytes at h
    cases hl : pLen s with
    | err e' q' =>
      rw [hl] at h
      injection h with h1 h2
      subst h1 h2
      obtain ⟨rfl, hk⟩ := pLen_err hl
      exact ⟨by omega, by omega, Tail.refl _⟩
    | ok n r =>
      rw [hl] at h
      have ht : Tail r s := ⟨_, (pLen_sound hl).1⟩
      cases r with
      | nil => injection h with h1 h2; subst h1 h2; exact ⟨by omega, by omega, Tail.nil _⟩
      | cons c r =>
        simp only at h
        split at h
        · injection h with h1 h2; subst h1 h2; exact ⟨by omega, by omega, ht⟩
        · split at h
          · injection h with h1 h2; subst h1 h2; exact ⟨by omega, by omega, Tail.nil _⟩
          · cases h
theorem aPlain_fine (s : List UInt8) : Fine s (aPlain s) := by
  match s with
  | [] => exact ⟨by omega, by omega, Tail.refl _⟩
  | c :: r =>
    simp only [aPlain]
    split
    · exact pBytes_fine _
    · split
      · exact Tail.tok _
      · split
        · exact (aQuoted_fine _ r (by omega)).up (Tail.cons _ _)
        · split
          · exact (aMean_fine _ (aSome_fine _ _ r)).up (Tail.cons _ _)
          · split
            · exact (aMean_fine _ (aSome_fine _ _ r)).up (Tail.cons _ _)
            · exact ⟨by omega, by omega, Tail.refl _⟩
theorem aHint_fine (s : List UInt8) : Fine s (aHint s) := by
  unfold aHint
  have h1 := (aPlain_fine (skip s)).up (Tail.skip s)
  split
  · rename_i e q he
    rw [he] at h1
    exact h1
  · rename_i hi q he
    rw [he] at h1
    have h2 : Tail (skip q) s := (Tail.skip q).trans h1
    split
    · exact ⟨by omega, by omega, Tail.nil _⟩
    · rename_i c q' hq
      rw [hq] at h2
      split
      · exact ⟨by omega, by omega, h2⟩
      · have h3 := (aPlain_fine (skip q')).up ((Tail.skip q').trans ((Tail.cons c q').trans h2))
        split
        · rename_i e q2 he
          rw [he] at h3
          exact h3
        · rename_i da q2 he
          rw [he] at h3
          exact h3
end Sx
end
section
namespace Sx
open Go Oct
theorem aPlain_lt {s b q : List UInt8} (h : aPlain s = .ok b q) : q.length < s.length := by
  match s with
  | [] => cases h
  | c :: r =>
    simp only [aPlain] at h
    split at h
    · have := (pBytes_sound h).1
      obtain ⟨d, x, hd, _⟩ := text_head b
      rw [this, hd]
      simp
      omega
    · split at h
      · rename_i ht
        injection h with h1 h2
        rw [← h2, List.dropWhile_cons, if_pos ht]
        have := (Tail.tok r).le
        simp
        omega
      · split at h
        · have hf := aQuoted_fine (r.length + 1) r (by omega)
          rw [h] at hf
          have := Tail.le (show Tail q r from hf)
          simp
          omega
        · split at h
          · have hf := aMean_fine unhex (aSome_fine isHexS 35 r)
            rw [h] at hf
            have := Tail.le (show Tail q r from hf)
            simp
            omega
          · split at h
            · have hf := aMean_fine ub64 (aSome_fine isB64S 124 r)
              rw [h] at hf
              have := Tail.le (show Tail q r from hf)
              simp
              omega
            · cases h
def Good (s : List UInt8) (nd : Nat) (x : Res (SX × Nat)) : Prop :=
  match x with
  | .err e q => 2 ≤ e ∧ e ≤ 4 ∧ Tail q s
  | .ok (t, nd') q => Tail q s ∧ q.length < s.length ∧ nd' = nd + nodes t ∧ nd' ≤ 512
def GoodL (s : List UInt8) (nd : Nat) (x : Res (List SX × Nat)) : Prop :=
  match x with
  | .err e q => 2 ≤ e ∧ e ≤ 4 ∧ Tail q s
  | .ok (ts, nd') q => Tail q s ∧ q.length < s.length ∧ nd' = nd + nodesL ts ∧ nd' ≤ 512
theorem aVal_good (f : Nat) : (∀ s nd ar, 2 * s.length + 1 ≤ f → nd ≤ 512 → Good s nd (aVal f s nd ar)) ∧ (∀ s nd ar, 2 * s.length + 2 ≤ f → nd ≤ 512 → GoodL s nd (aKids f s nd ar)) := by
  induction f with
  | zero => exact ⟨fun s nd ar h => by omega, fun s nd ar h => by omega⟩
  | succ f ih =>
    constructor
    · intro s nd ar hf hnd
      rw [aVal]
      have hsk := Tail.skip s
      split
      · exact ⟨by omega, by omega, Tail.nil _⟩
      · rename_i c r hc
        rw [hc] at hsk
        have hl := hsk.le
        have hrs : Tail r s := (Tail.cons c r).trans hsk
        simp only [List.length_cons] at hl
        split
        · exact ⟨by omega, by omega, hsk⟩
        · split
          · exact ⟨by omega, by omega, hsk⟩
          · rename_i hlim
            have hlt : nd < 512 := by omega
            split
            · have h := ih.2 r (nd + 1) (ar + 1) (by omega) (by omega)
              split
              · rename_i e q he
                rw [he] at h
                exact ⟨h.1, h.2.1, h.2.2.trans hrs⟩
              · rename_i ts nd' q he
                rw [he] at h
                obtain ⟨h1, h2, h3, h4⟩ := h
                exact ⟨h1.trans hrs, by omega, by rw [nodes]; omega, h4⟩
            · split
              · have h := aHint_fine r
                split
                · rename_i e q he
                  rw [he] at h
                  exact ⟨h.1, h.2.1, h.2.2.trans hrs⟩
                · rename_i hi da q he
                  rw [he] at h
                  have h' : Tail q r := h
                  have hle := h'.le
                  exact ⟨h'.trans hrs, by omega, by rw [nodes, nodesL], by omega⟩
              · have h := aPlain_fine (c :: r)
                split
                · rename_i e q he
                  rw [he] at h
                  exact ⟨h.1, h.2.1, h.2.2.trans hsk⟩
                · rename_i da q he
                  rw [he] at h
                  have hlq := aPlain_lt he
                  simp only [List.length_cons] at hlq
                  exact ⟨Tail.trans h hsk, by omega, by rw [nodes, nodesL], by omega⟩
    · intro s nd ar hf hnd
      rw [aKids]
      have hsk := Tail.skip s
      split
      · exact ⟨by omega, by omega, Tail.nil _⟩
      · rename_i c r hc
        rw [hc] at hsk
        have hl := hsk.le
        have hrs : Tail r s := (Tail.cons c r).trans hsk
        simp only [List.length_cons] at hl
        split
        · exact ⟨hrs, by omega, by rw [nodesL]; omega, hnd⟩
        · have h := ih.1 (c :: r) nd ar (by simp only [List.length_cons]; omega) hnd
          split
          · rename_i e q he
            rw [he] at h
            exact ⟨h.1, h.2.1, h.2.2.trans hsk⟩
          · rename_i t nd' q he
            rw [he] at h
            obtain ⟨h1, h2, h3, h4⟩ := h
            simp only [List.length_cons] at h2
            have h' := ih.2 q nd' ar (by omega) h4
            split
            · rename_i e q' he'
              rw [he'] at h'
              exact ⟨h'.1, h'.2.1, h'.2.2.trans (h1.trans hsk)⟩
            · rename_i ts nd'' q' he'
              rw [he'] at h'
              obtain ⟨k1, k2, k3, k4⟩ := h'
              exact ⟨k1.trans (h1.trans hsk), by omega, by rw [nodesL]; omega, k4⟩
end Sx
end
section
namespace Sx
open Go Oct
/-! What is written, by a way to write bytes, and what stands between values. -/
mutual
def gForm (pl : List UInt8 → List UInt8) (sep : List UInt8) : SX → List UInt8
  | .mk l h hi da ks => if l then 40 :: (gKids pl sep true ks ++ [41]) else if h then 91 :: (pl hi ++ 93 :: pl da) else pl da
def gKids (pl : List UInt8 → List UInt8) (sep : List UInt8) (first : Bool) : List SX → List UInt8
  | [] => []
  | k :: r => (if first then [] else sep) ++ (gForm pl sep k ++ gKids pl sep false r)
end
mutual
theorem form_g : ∀ t : SX, form t = gForm text [] t
  | .mk l h hi da ks => by
    rw [form, gForm, formL_g true ks]
    cases l <;> cases h <;> simp
theorem formL_g : ∀ (first : Bool) (ks : List SX), formL ks = gKids text [] first ks
  | first, [] => by rw [formL, gKids]
  | first, k :: r => by
    rw [formL, gKids, form_g k, formL_g false r]
    cases first <;> simp
end
structure Pl (pl : List UInt8 → List UInt8) (sep : List UInt8) (S : List UInt8 → Prop) : Prop where
  plain : ∀ b r, b.length ≤ 4096 → S r → aPlain (pl b ++ r) = .ok b r
  head : ∀ b, ∃ c q, pl b = c :: q ∧ isBlank c = false ∧ c ≠ 41 ∧ c ≠ 40 ∧ c ≠ 91 ∧ aBegins c = true
  s93 : ∀ r, S (93 :: r)
  s41 : ∀ r, S (41 :: r)
  ssep : ∀ q, S (sep ++ q)
  blank : ∀ c ∈ sep, isBlank c = true
theorem skip_bl {bl : List UInt8} {c : UInt8} {q : List UInt8} (hb : ∀ x ∈ bl, isBlank x = true) (hc : isBlank c = false) : skip (bl ++ c :: q) = c :: q := by
  unfold skip
  induction bl with
  | nil => simp [hc]
  | cons a r ih =>
    rw [List.cons_append, List.dropWhile_cons, if_pos (hb a (by simp))]
    exact ih fun x hx => hb x (by simp [hx])
theorem skip_nil {bl : List UInt8} (hb : ∀ x ∈ bl, isBlank x = true) : skip bl = [] := by
  unfold skip
  induction bl with
  | nil => rfl
  | cons a r ih =>
    rw [List.dropWhile_cons, if_pos (hb a (by simp))]
    exact ih fun x hx => hb x (by simp [hx])
section
variable {pl : List UInt8 → List UInt8} {sep : List UInt8} {S : List UInt8 → Prop}
theorem g_head (h : Pl pl sep S) (t : SX) : ∃ c q, gForm pl sep t = c :: q ∧ isBlank c = false ∧ c ≠ 41 := by
  obtain ⟨l, hh, hi, da, ks⟩ := t
  rw [gForm]
  cases l
  · cases hh
    · obtain ⟨c, q, h1, h2, h3, _⟩ := h.head da
      exact ⟨c, q, by simpa using h1, h2, h3⟩
    · exact ⟨91, _, rfl, by decide, by decide⟩
  · exact ⟨40, _, rfl, by decide, by decide⟩
theorem gfull (h : Pl pl sep S) (t : SX) : ∀ (bl r : List UInt8) (nd ar f : Nat), (∀ x ∈ bl, isBlank x = true) → Ok t nd ar → S r → 2 * (bl ++ (gForm pl sep t ++ r)).length + 1 ≤ f →
    aVal f (bl ++ (gForm pl sep t ++ r)) nd ar = .ok (t, nd + nodes t) r := by
  induction t using SX.ind with
  | H l hh hi da ks ih =>
    intro bl r nd ar f hbl hok hS hf
    obtain ⟨h1, h2, h3, h4⟩ := hok
    have hp := nodes_pos (.mk l hh hi da ks)
    rw [clean, Bool.and_eq_true] at h1
    obtain ⟨hw, hcl⟩ := h1
    obtain ⟨f, rfl⟩ : ∃ g, f = g + 1 := ⟨f - 1, by omega⟩
    cases l with
    | true =>
      have hkids : ∀ (us : List SX), (∀ u ∈ us, u ∈ ks) → ∀ (first : Bool) (nd ar g : Nat), OkL us nd ar → 2 * (gKids pl sep first us ++ 41 :: r).length + 2 ≤ g → aKids g (gKids pl sep first us ++ 41 :: r) nd ar = .ok (us, nd + nodesL us) r := by
        intro us
        induction us with
        | nil =>
          intro _ first nd ar g _ hg
          obtain ⟨g, rfl⟩ : ∃ g', g = g' + 1 := ⟨g - 1, by omega⟩
          rw [gKids, List.nil_append, aKids, show skip (41 :: r) = 41 :: r from skip_bl (bl := []) (by simp) (by decide)]
          simp [nodesL]
        | cons u us ihu =>
          intro hsub first nd ar g hok hg
          obtain ⟨g, rfl⟩ : ∃ g', g = g' + 1 := ⟨g - 1, by omega⟩
          obtain ⟨o1, o2⟩ := hok.cons
          obtain ⟨c, q, hc, hcb, hc41⟩ := g_head h u
          have hSr : S (gKids pl sep false us ++ 41 :: r) := by
            cases us with
            | nil => rw [gKids, List.nil_append]; exact h.s41 r
            | cons k us => rw [gKids]; simp only [List.append_assoc]; exact h.ssep _
          have hpre : ∀ x ∈ (if first then [] else sep : List UInt8), isBlank x = true := by
            cases first
            · exact h.blank
            · intro x hx; cases hx
          rw [gKids] at hg
          simp only [List.append_assoc, List.length_append] at hg
          have hv := ih u (hsub u (by simp)) [] (gKids pl sep false us ++ 41 :: r) nd ar g (by simp) o1 hSr (by simp only [List.nil_append, List.length_append]; omega)
          have hlen : 0 < (gForm pl sep u).length := by rw [hc]; simp
          have hk := ihu (fun x hx => hsub x (by simp [hx])) false (nd + nodes u) ar g o2 (by simp only [List.length_append]; omega)
          rw [gKids]
          simp only [List.append_assoc]
          rw [List.nil_append] at hv
          rw [hc, List.cons_append] at hv ⊢
          rw [aKids, skip_bl hpre hcb]
          simp only
          rw [if_neg hc41, hv]
          simp only
          rw [hk]
          simp only [nodesL]
          rw [Nat.add_assoc]
      have hz : hh = false ∧ hi = [] ∧ da = [] := by
        simp [well] at hw
        exact ⟨hw.1.1, hw.1.2, hw.2⟩
      obtain ⟨rfl, rfl, rfl⟩ := hz
      have e : gForm pl sep (.mk true false [] [] ks) ++ r = 40 :: (gKids pl sep true ks ++ 41 :: r) := by rw [gForm]; simp
      rw [e] at hf ⊢
      have hks := hkids ks (fun u hu => hu) true (nd + 1) (ar + 1) f ⟨hcl, by rw [nodes] at h2; omega, by rw [show deep (.mk true false [] [] ks) = deepL ks + 1 by (rw [deep]; rfl)] at h3; omega, by rw [form] at h4; simp at h4; omega⟩ (by simp only [List.length_append, List.length_cons] at hf ⊢; omega)
      rw [aVal, skip_bl hbl (by decide)]
      have ed : deep (.mk true false [] [] ks) = deepL ks + 1 := by rw [deep]; rfl
      have hb : aBegins 40 = true := rfl
      simp only [hb]
      rw [if_neg (by simp), if_neg (by omega), if_pos trivial, hks]
      simp only [nodes]
      rw [Nat.add_assoc]
    | false =>
      have hkn : ks = [] := by
        have : ks.isEmpty = true := by simp [well] at hw; simpa using hw.1
        simpa using this
      subst hkn
      have en : nodes (.mk false hh hi da []) = 1 := by rw [nodes]; rfl
      cases hh with
      | true =>
        have e0 : form (.mk false true hi da []) = 91 :: (text hi ++ 93 :: text da) := by rw [form]; simp
        have hl1 : hi.length ≤ 4096 := text_len_le (by rw [e0] at h4; simp at h4; omega)
        have hl2 : da.length ≤ 4096 := text_len_le (by rw [e0] at h4; simp at h4; omega)
        have e : gForm pl sep (.mk false true hi da []) ++ r = 91 :: (pl hi ++ 93 :: (pl da ++ r)) := by rw [gForm]; simp
        rw [e, aVal, skip_bl hbl (by decide), en]
        have hb : aBegins 91 = true := rfl
        simp only [hb]
        rw [if_neg (by simp), if_neg (by rw [en] at h2; simp; omega), if_neg (by decide), if_pos trivial]
        have hH : aHint (pl hi ++ 93 :: (pl da ++ r)) = .ok (hi, da) r := by
          obtain ⟨c1, q1, hc1, hb1, _⟩ := h.head hi
          obtain ⟨c2, q2, hc2, hb2, _⟩ := h.head da
          have p1 := h.plain hi (93 :: (pl da ++ r)) hl1 (h.s93 _)
          have p2 := h.plain da r hl2 hS
          unfold aHint
          rw [show skip (pl hi ++ 93 :: (pl da ++ r)) = pl hi ++ 93 :: (pl da ++ r) by rw [hc1, List.cons_append]; exact skip_bl (bl := []) (by simp) hb1, p1]
          simp only
          rw [show skip (93 :: (pl da ++ r)) = 93 :: (pl da ++ r) from skip_bl (bl := []) (by simp) (by decide)]
          simp only
          rw [if_neg (by simp), show skip (pl da ++ r) = pl da ++ r by rw [hc2, List.cons_append]; exact skip_bl (bl := []) (by simp) hb2, p2]
        rw [hH]
      | false =>
        have hhi : hi = [] := by simp [well] at hw; exact hw
        subst hhi
        have e0 : form (.mk false false [] da []) = text da := by rw [form]; rfl
        have hl2 : da.length ≤ 4096 := text_len_le (by rw [e0] at h4; exact h4)
        obtain ⟨c, q, hc, hcb, _, n1, n2, n3⟩ := h.head da
        have hb := h.plain da r hl2 hS
        have e : gForm pl sep (.mk false false [] da []) = pl da := by rw [gForm]; rfl
        rw [e, en]
        rw [hc, List.cons_append] at hb ⊢
        rw [aVal, skip_bl hbl hcb]
        simp only [n3]
        rw [if_neg (by simp), if_neg (by rw [en] at h2; simp [n1]; omega), if_neg n1, if_neg n2, hb]
theorem aRead_g (h : Pl pl sep S) {t : SX} (ht : may t = true) {b1 b2 : List UInt8} (h1 : ∀ x ∈ b1, isBlank x = true) (h2 : ∀ x ∈ b2, isBlank x = true) (hS : S b2)
    (hl : (b1 ++ (gForm pl sep t ++ b2)).length ≤ 16384) : aRead (b1 ++ (gForm pl sep t ++ b2)) = (t, 0, 0) := by
  unfold aRead
  rw [if_neg (by omega), gfull h t b1 b2 0 0 _ h1 (may_ok ht) hS (Nat.le_refl _)]
  simp only
  unfold aEnd
  rw [skip_nil h2]
  simp only
  rw [if_pos ht]
end
/-! Canonical forms. -/
theorem dig_plain {c : UInt8} (h : isDig c = true) : isBlank c = false ∧ c ≠ 41 ∧ c ≠ 40 ∧ c ≠ 91 ∧ aBegins c = true := by
  have hn : ∀ n : Nat, n < 256 → isDig n.toUInt8 = true → isBlank n.toUInt8 = false ∧ n.toUInt8 ≠ 41 ∧ n.toUInt8 ≠ 40 ∧ n.toUInt8 ≠ 91 ∧ aBegins n.toUInt8 = true := by decide +kernel
  have := hn c.toNat c.toNat_lt
  simp only [Nat.toUInt8_eq, UInt8.ofNat_toNat] at this
  exact this h
theorem pl_text : Pl text [] (fun _ => True) where
  plain b r hb _ := by
    obtain ⟨c, q, hc, hd⟩ := text_head b
    have := pBytes_full b r hb
    rw [hc, List.cons_append] at this ⊢
    rw [aPlain, if_pos hd]
    exact this
  head b := by
    obtain ⟨c, q, hc, hd⟩ := text_head b
    obtain ⟨h1, h2, h3, h4, h5⟩ := dig_plain hd
    exact ⟨c, q, hc, h1, h2, h3, h4, h5⟩
  s93 _ := trivial
  s41 _ := trivial
  ssep _ := trivial
  blank := by simp
theorem aRead_form {t : SX} (ht : may t = true) : aRead (form t) = (t, 0, 0) := by
  have hl := (may_ok ht).2.2.2
  have := aRead_g pl_text ht (b1 := []) (b2 := []) (by simp) (by simp) trivial (by rw [← form_g]; simp; omega)
  rw [← form_g] at this
  simpa using this
/-! How long. -/
theorem text_le (b : List UInt8) : (text b).length ≤ 2 * b.length + 2 := by
  have h : ∀ n : Nat, (Lib.decDigits n).length ≤ n + 1 := fun n => by
    have : n < 10 ^ (n + 1) := Nat.lt_of_lt_of_le (Nat.lt_pow_self (by omega : 1 < 10)) (Nat.pow_le_pow_right (by omega) (by omega))
    exact dec_length n n this
  have := h b.length
  simp only [text, List.length_append, List.length_cons]
  omega
end Sx
end
section
namespace Sx
open Go Oct
def isPr (c : UInt8) : Bool := decide (32 ≤ c.toNat) && decide (c.toNat ≤ 126)
def isToken (b : List UInt8) : Bool := match b with
  | [] => false
  | c :: _ => !isDig c && b.all isTok
def escB (c : UInt8) : List UInt8 := if c = 34 ∨ c = 92 then [92, c] else [c]
def esc (b : List UInt8) : List UInt8 := b.flatMap escB
def aBytes (b : List UInt8) : List UInt8 :=
  if isToken b then b
  else if b.all isPr then 34 :: (esc b ++ [34])
  else if b.length ≤ 16 then 35 :: (hexOf b ++ [35])
  else 124 :: (b64 b ++ [124])
def aPrint (t : SX) : List UInt8 := gForm aBytes [32] t
def NT (r : List UInt8) : Prop := r = [] ∨ ∃ c q, r = c :: q ∧ isTok c = false
theorem tok_plain {c : UInt8} (h : isTok c = true) : isBlank c = false ∧ c ≠ 41 ∧ c ≠ 40 ∧ c ≠ 91 ∧ aBegins c = true := by
  have hn : ∀ n : Nat, n < 256 → isTok n.toUInt8 = true → isBlank n.toUInt8 = false ∧ n.toUInt8 ≠ 41 ∧ n.toUInt8 ≠ 40 ∧ n.toUInt8 ≠ 91 ∧ aBegins n.toUInt8 = true := by decide +kernel
  have := hn c.toNat c.toNat_lt
  simp only [Nat.toUInt8_eq, UInt8.ofNat_toNat] at this
  exact this h
theorem blank_not_tok {c : UInt8} (h : isBlank c = true) : isTok c = false := by
  have hn : ∀ n : Nat, n < 256 → isBlank n.toUInt8 = true → isTok n.toUInt8 = false := by decide +kernel
  have := hn c.toNat c.toNat_lt
  simp only [Nat.toUInt8_eq, UInt8.ofNat_toNat] at this
  exact this h
theorem NT.blanks {b : List UInt8} (h : ∀ x ∈ b, isBlank x = true) : NT b := by
  cases b with
  | nil => exact .inl rfl
  | cons c q => exact .inr ⟨c, q, rfl, blank_not_tok (h c (by simp))⟩
theorem tw_tok {b r : List UInt8} (h : ∀ c ∈ b, isTok c = true) (hr : NT r) : (b ++ r).takeWhile isTok = b ∧ (b ++ r).dropWhile isTok = r := by
  induction b with
  | nil =>
    rcases hr with rfl | ⟨c, q, rfl, hc⟩
    · exact ⟨rfl, rfl⟩
    · simp [hc]
  | cons a b ih =>
    obtain ⟨i1, i2⟩ := ih fun c hc => h c (by simp [hc])
    have ha := h a (by simp)
    rw [List.cons_append, List.takeWhile_cons, List.dropWhile_cons, if_pos ha, if_pos ha, i1, i2]
    exact ⟨rfl, rfl⟩
theorem aSome_all (may : UInt8 → Bool) (stop : UInt8) (r : List UInt8) : ∀ l : List UInt8, (∀ c ∈ l, c ≠ stop ∧ isBlank c = false ∧ may c = true) → aSome may stop (l ++ stop :: r) = .ok l (stop :: r)
  | [], _ => by rw [List.nil_append, aSome, if_pos rfl]
  | c :: l, h => by
    obtain ⟨h1, h2, h3⟩ := h c (by simp)
    rw [List.cons_append, aSome, if_neg h1, h2, if_neg (by simp), h3, if_neg (by simp), aSome_all may stop r l fun x hx => h x (by simp [hx])]
theorem hex_sign : ∀ n : Nat, n < 16 → hexDig n ≠ 35 ∧ isBlank (hexDig n) = false ∧ isHexS (hexDig n) = true := by decide
theorem hex_signs (l : List UInt8) : ∀ c ∈ hexOf l, c ≠ 35 ∧ isBlank c = false ∧ isHexS c = true := by
  intro c hc
  rw [hexOf, List.mem_flatMap] at hc
  obtain ⟨b, _, hb⟩ := hc
  have hl := b.toNat_lt
  simp only [List.mem_cons, List.not_mem_nil, or_false] at hb
  rcases hb with rfl | rfl
  · exact hex_sign _ (by omega)
  · exact hex_sign _ (Nat.mod_lt _ (by omega))
theorem b64_sign : ∀ n : Nat, n < 64 → b64Sign n ≠ 124 ∧ b64Sign n ≠ 125 ∧ isBlank (b64Sign n) = false ∧ isB64S (b64Sign n) = true := by decide
theorem b64_signs (l : List UInt8) : ∀ c ∈ b64 l, c ≠ 124 ∧ c ≠ 125 ∧ isBlank c = false ∧ isB64S c = true := by
  intro c hc
  rw [b64_groups, List.mem_append] at hc
  rcases hc with h | h
  · rw [List.mem_map] at h
    obtain ⟨j, _, rfl⟩ := h
    exact b64_sign _ (acc_lt l (6 * j) 6)
  · rw [List.mem_replicate] at h
    rw [h.2]
    decide
theorem named_self {c : UInt8} (h : c = 34 ∨ c = 92) : named c = some c := by rcases h with rfl | rfl <;> rfl
theorem aQuoted_esc (r : List UInt8) : ∀ (b : List UInt8) (f : Nat), (esc b ++ 34 :: r).length < f → aQuoted f (esc b ++ 34 :: r) = .ok b r
  | [], f, h => by
    obtain ⟨f, rfl⟩ : ∃ g, f = g + 1 := ⟨f - 1, by omega⟩
    show aQuoted (f + 1) (34 :: r) = _
    rw [aQuoted, if_pos rfl]
  | c :: b, f, h => by
    obtain ⟨f, rfl⟩ : ∃ g, f = g + 1 := ⟨f - 1, by omega⟩
    have e : esc (c :: b) = escB c ++ esc b := by simp [esc]
    rw [e] at h ⊢
    unfold escB at h ⊢
    split
    · rename_i hc
      rw [if_pos hc] at h
      have ih := aQuoted_esc r b f (by simp only [List.append_assoc, List.length_append, List.length_cons, List.length_nil] at h ⊢; omega)
      simp only [List.cons_append, List.nil_append, List.append_assoc]
      rw [aQuoted, if_neg (by decide), if_pos rfl, aEsc]
      simp only [named_self hc]
      rw [ih]
    · rename_i hc
      rw [if_neg hc] at h
      have ih := aQuoted_esc r b f (by simp only [List.append_assoc, List.length_append, List.length_cons, List.length_nil] at h ⊢; omega)
      simp only [List.cons_append, List.nil_append]
      rw [aQuoted, if_neg (fun e => hc (.inl e)), if_neg (fun e => hc (.inr e)), ih]
theorem pl_bytes : Pl aBytes [32] NT where
  plain b r hb hr := by
    unfold aBytes
    split
    · rename_i ht
      cases b with
      | nil => cases ht
      | cons c q =>
        have ht2 : isDig c = false ∧ (c :: q).all isTok = true := by simpa [isToken] using ht
        have ha : ∀ x ∈ c :: q, isTok x = true := by simpa using ht2.2
        obtain ⟨w1, w2⟩ := tw_tok ha hr
        rw [List.cons_append] at w1 w2 ⊢
        rw [aPlain, if_neg (by rw [ht2.1]; simp), if_pos (ha c (by simp)), w1, w2]
    · split
      · rw [List.cons_append, aPlain, if_neg (by decide), if_neg (by decide), if_pos rfl, List.append_assoc]
        exact aQuoted_esc r b ((esc b ++ 34 :: r).length + 1) (Nat.lt_succ_self _)
      · split
        · rw [List.cons_append, aPlain, if_neg (by decide), if_neg (by decide), if_neg (by decide), if_pos rfl, List.append_assoc, List.cons_append, List.nil_append,
            aSome_all isHexS 35 r (hexOf b) (hex_signs b)]
          simp only [aMean, unhex_hex]
          rfl
        · rw [List.cons_append, aPlain, if_neg (by decide), if_neg (by decide), if_neg (by decide), if_neg (by decide), if_pos rfl, List.append_assoc, List.cons_append, List.nil_append,
            aSome_all isB64S 124 r (b64 b) (fun c hc => ⟨(b64_signs b c hc).1, (b64_signs b c hc).2.2⟩)]
          simp only [aMean, ub64_b64]
          rfl
  head b := by
    unfold aBytes
    split
    · rename_i ht
      cases b with
      | nil => cases ht
      | cons c q =>
        have ht2 : isDig c = false ∧ (c :: q).all isTok = true := by simpa [isToken] using ht
        have ha : ∀ x ∈ c :: q, isTok x = true := by simpa using ht2.2
        obtain ⟨h1, h2, h3, h4, h5⟩ := tok_plain (ha c (by simp))
        exact ⟨c, q, rfl, h1, h2, h3, h4, h5⟩
    · split
      · exact ⟨34, _, rfl, by decide, by decide, by decide, by decide, by decide⟩
      · split
        · exact ⟨35, _, rfl, by decide, by decide, by decide, by decide, by decide⟩
        · exact ⟨124, _, rfl, by decide, by decide, by decide, by decide, by decide⟩
  s93 r := .inr ⟨93, r, rfl, by decide⟩
  s41 r := .inr ⟨41, r, rfl, by decide⟩
  ssep q := .inr ⟨32, q, rfl, by decide⟩
  blank := by
    intro c hc
    rw [List.mem_singleton.1 hc]
    decide
theorem aRead_print {t : SX} (ht : may t = true) {b1 b2 : List UInt8} (h1 : ∀ x ∈ b1, isBlank x = true) (h2 : ∀ x ∈ b2, isBlank x = true) (hl : (b1 ++ (aPrint t ++ b2)).length ≤ 16384) :
    aRead (b1 ++ (aPrint t ++ b2)) = (t, 0, 0) := aRead_g pl_bytes ht h1 h2 (NT.blanks h2) hl
def aPack (t : SX) : List UInt8 := 123 :: (b64 (form t) ++ [125])
theorem aUnpack_pack {t : SX} (ht : may t = true) {b1 b2 : List UInt8} (h1 : ∀ x ∈ b1, isBlank x = true) (h2 : ∀ x ∈ b2, isBlank x = true) (hl : (b1 ++ (aPack t ++ b2)).length ≤ 16384) :
    aUnpack (b1 ++ (aPack t ++ b2)) = (t, 0, 0) := by
  unfold aUnpack
  rw [if_neg (by omega)]
  have e : aPack t ++ b2 = 123 :: (b64 (form t) ++ 125 :: b2) := by simp [aPack]
  rw [e, skip_bl h1 (by decide)]
  simp only
  rw [if_neg (by simp), aSome_all isB64S 125 b2 (b64 (form t)) (fun c hc => ⟨(b64_signs _ c hc).2.1, (b64_signs _ c hc).2.2⟩)]
  simp only [ub64_b64]
  rw [pGet_full ht]
  simp only
  unfold aEnd
  show (match skip b2 with | c :: q => _ | [] => _) = _
  rw [skip_nil h2]
  simp only
  rw [if_pos ht]
theorem pack_length {t : SX} (ht : may t = true) : (aPack t).length ≤ 5470 := by
  have hl := (may_ok ht).2.2.2
  have h : ((b64 (form t)).length) = (sgs (form t)).length + pad (form t).length := by rw [b64_sgs, List.length_append, List.length_replicate]
  have h2 := sgs_length (form t)
  simp only [aPack, List.length_cons, List.length_append, List.length_nil]
  omega
end Sx
end
section
namespace Go.Proofs.YtcojkmcnigppbaaGreatDoor.Nt
open Go Go.Proofs Go.RowKit Sx Oct
def RdAt (w : World) (r : Nat) (A : Option Addr) (n c : Nat) (p nd : Int) : Prop := w.heap[r]? = some (Obj.cells #[.slice A n c, .int .i64 p, .int .i64 nd] 98 (0, 0))
theorem RdAt.all {w : World} {r : Nat} {A : Option Addr} {n c : Nat} {p nd : Int} (h : RdAt w r A n c p nd) :
    w.cell? ⟨r, 0, none⟩ = some (.slice A n c) ∧ w.cell? ⟨r, 1, none⟩ = some (.int .i64 p) ∧ w.cell? ⟨r, 2, none⟩ = some (.int .i64 nd) ∧ w.frozen? ⟨r, 1, none⟩ = false ∧ w.frozen? ⟨r, 2, none⟩ = false := by
  refine ⟨?_, ?_, ?_, ?_, ?_⟩
  · rw [Lib.cell_of_heap h]; rfl
  · rw [Lib.cell_of_heap h]; rfl
  · rw [Lib.cell_of_heap h]; rfl
  · unfold RdAt at h; simp [World.frozen?, h]
  · unfold RdAt at h; simp [World.frozen?, h]
theorem RdAt.lt {w : World} {r : Nat} {A : Option Addr} {n c : Nat} {p nd : Int} (h : RdAt w r A n c p nd) : r < w.heap.size := by
  rcases Nat.lt_or_ge r w.heap.size with h' | h'
  · exact h'
  · unfold RdAt at h; rw [Array.getElem?_eq_none h'] at h; cases h
theorem RdAt.old {w w' : World} {r : Nat} {A : Option Addr} {n c : Nat} {p nd : Int} (h : RdAt w r A n c p nd) (hb : Below w.heap.size w w') : RdAt w' r A n c p nd := below_at hb h
theorem RdAt.set1 {w : World} {r : Nat} {A : Option Addr} {n c : Nat} {p nd : Int} (h : RdAt w r A n c p nd) (q : Int) : RdAt (w.setCell ⟨r, 1, none⟩ (.int .i64 q)) r A n c q nd := Joins.block_setCell h _
theorem RdAt.set2 {w : World} {r : Nat} {A : Option Addr} {n c : Nat} {p nd : Int} (h : RdAt w r A n c p nd) (q : Int) : RdAt (w.setCell ⟨r, 2, none⟩ (.int .i64 q)) r A n c p q := Joins.block_setCell h _
def kindT : Nat → TypeId
  | 2 => 84
  | 3 => 85
  | 4 => 86
  | _ => 87
def Thrown (k : Nat) (p : Nat) (e : Ending) : Prop := e = .panicked [{ v := .iface (kindT k) (.int .i64 (p : Nat)), recovered := false }]
set_option maxHeartbeats 1000000 in
set_option maxRecDepth 100000 in
theorem next_end (r : Nat) (A : Option Addr) (n c : Nat) (p : Nat) (nd : Int) (w : World) (h : RdAt w r A n c p nd) (hp : n ≤ p) (hn : n ≤ 20000) (hp2 : p ≤ 20000) :
    Calls Tryz.prog 85 #[.pointer (some ⟨r, 0, none⟩)] w fun e w' => Thrown 2 n e ∧ Below w.heap.size w w' := by
  obtain ⟨c0, c1, c2, f1, f2⟩ := h.all
  go_enter Tryz.func85, Tryz.ntmps85
  go_wp2_with fail
  go_quiet (fail)
  go_wp2_with fail
  exact ⟨rfl, rfl, below_drewN _ _⟩
set_option maxHeartbeats 1000000 in
set_option maxRecDepth 100000 in
theorem next_at (r : Nat) (A : Option Addr) (n c : Nat) (p : Nat) (nd : Int) (b : List UInt8) (B : Nat) (w : World) (h : RdAt w r A n c p nd) (hr : Reads w B 1 A n (Lib.byteCells b)) (hp : p < n) (hn : n ≤ 20000) (x : UInt8) (s : List UInt8) (hs : b.drop p = x :: s) :
    Calls Tryz.prog 85 #[.pointer (some ⟨r, 0, none⟩)] w fun e w' => e = .returned (.int .u8 x.toNat) ∧ Below w.heap.size w w' := by
  obtain ⟨c0, c1, c2, f1, f2⟩ := h.all
  obtain ⟨ad, u, rfl, _, hu, hc⟩ := hr.at_ hp
  have hu' : u = .int .u8 x.toNat := by
    have hb : b[p]? = some x := by
      have := congrArg List.head? hs
      rw [List.head?_drop] at this
      simpa using this
    simp [Lib.byteCells, List.getElem?_map, hb] at hu
    exact hu.symm
  subst hu'
  have hpi : (p : Int) < n := by omega
  have hxl := x.toNat_lt
  clear hu hs hr h
  go_enter Tryz.func85, Tryz.ntmps85
  go_wp2_with fail
  go_quiet (fail)
  go_wp2_with fail
  have c0' : (w.drewN nq).cell? ⟨r, 0, none⟩ = _ := c0
  have c1' : (w.drewN nq).cell? ⟨r, 1, none⟩ = _ := c1
  have hc' : (w.drewN nq).cell? (ad.add p) = _ := hc
  have hb := below_drewN w nq
  clear c0 c1 c2 f1 f2 hc
  generalize w.drewN nq = w1 at *
  go_quiet (fail)
  go_wp2_with fail
  go_ret
  exact ⟨rfl, hb.trans ((below_drewN _ _).mono hb.size)⟩
end Go.Proofs.YtcojkmcnigppbaaGreatDoor.Nt
end
section
namespace Go.Proofs.YtcojkmcnigppbaaGreatDoor
open Go Go.Proofs
theorem race_disable (w : World) : (callFunc 169 #[]).run Tryz.prog w = .ok (.value (.tuple #[])) w := run_call_mark0 Tryz.func169 (by kernel_rfl) (by kernel_rfl) (by kernel_rfl) .disable (by kernel_rfl) w
theorem race_enable (w : World) : (callFunc 171 #[]).run Tryz.prog w = .ok (.value (.tuple #[])) w := run_call_mark0 Tryz.func171 (by kernel_rfl) (by kernel_rfl) (by kernel_rfl) .enable (by kernel_rfl) w
theorem race_acquire (a : Addr) (w : World) : (callFunc 172 #[.pointer (some a)]).run Tryz.prog w = .ok (.value (.tuple #[])) w := run_call_marked Tryz.func172 (by kernel_rfl) (by kernel_rfl) (by kernel_rfl) .acquire (by kernel_rfl) a w
theorem race_merge (a : Addr) (w : World) : (callFunc 174 #[.pointer (some a)]).run Tryz.prog w = .ok (.value (.tuple #[])) w := run_call_marked Tryz.func174 (by kernel_rfl) (by kernel_rfl) (by kernel_rfl) .releaseMerge (by kernel_rfl) a w
theorem store_deferred (a : Addr) (x : Value) (u : FrameMode) (w : World) (hc : w.cell? a = some x) (hz : w.frozen? a = false) :
    CallsD Tryz.prog 149 #[.pointer (some a), .bool true] u w fun e u' w' => u' = u ∧ (e = .returned (.tuple #[]) ∧ w' = w.drew.setCell a (.int .u32 1)) := by
  have hc' : w.drew.cell? a = some x := by go_simp
  have hz' : w.drew.frozen? a = false := by go_simp
  have hst := run_call_store (P := Tryz.prog) Tryz.func161 (by kernel_rfl) (by kernel_rfl) (by kernel_rfl) (by kernel_rfl) (k := .u32) (y := 1) hc' hz'
  go_enter_d Tryz.func149, Tryz.ntmps149
  go_wp2
  go_region_calls
  all_goals (go_end0; exact ⟨rfl, rfl⟩)
set_option maxRecDepth 100000 in
theorem unlock_deferred (a : Addr) (u : FrameMode) (w : World) (hc : w.cell? a = some (.int .i32 1)) (hz : w.frozen? a = false) :
    CallsD Tryz.prog 148 #[.pointer (some a)] u w fun e u' w' => u' = u ∧ (e = .returned (.tuple #[]) ∧ w' = w.setCell a (.int .i32 0)) := by
  have hd := race_disable
  have he := race_enable
  have hr := race_merge
  have hadd := run_call_add (P := Tryz.prog) Tryz.func175 (by kernel_rfl) (by kernel_rfl) (by kernel_rfl) .i32 (by kernel_rfl) (y := -1) (s := 0) hc hz (by simp [go_sem]; rfl)
  have hcv := run_convert_to_unsafe (P := Tryz.prog) (src := 214) (dst := 129) Tryz.underlying214 Tryz.underlying129 (by kernel_rfl) hc
  go_enter_d Tryz.func148, Tryz.ntmps148
  go_wp2
  go_end0
  go_wp2
  go_end0
  exact ⟨rfl, rfl⟩
set_option maxRecDepth 100000 in
theorem lock_free (a : Addr) (w : World) (hc : w.cell? a = some (.int .i32 0)) (hz : w.frozen? a = false) :
    Calls Tryz.prog 147 #[.pointer (some a)] w fun e w' => e = .returned (.tuple #[]) ∧ w' = w.setCell a (.int .i32 1) := by
  have hd := race_disable
  have he := race_enable
  have ha := race_acquire
  have hcas := run_call_cas_hit (P := Tryz.prog) Tryz.func170 (by kernel_rfl) (by kernel_rfl) (by kernel_rfl) .i32 (by kernel_rfl) (y := 1) hc hz
  have hc' : (w.setCell a (.int .i32 1)).cell? a = some (.int .i32 1) := World.cell?_setCell_same w a _ hc
  have hcv := run_convert_to_unsafe (P := Tryz.prog) (src := 214) (dst := 129) Tryz.underlying214 Tryz.underlying129 (by kernel_rfl) hc'
  go_enter Tryz.func147, Tryz.ntmps147
  go_wp2
  first | go_end0 | (simp only [Exit.inBlock, Exit.then]; refine bodyPost_ret (results_none rfl _ _ _) rfl ?_) | refine bodyPost_ret (results_none rfl _ _ _) rfl ?_
  go_wp2
  go_end0
  exact ⟨rfl, rfl⟩
set_option maxRecDepth 100000 in
theorem bool_load (a : Addr) (x : Int) (w : World) (h : w.cell? a = some (.int .u32 x)) :
    Calls Tryz.prog 136 #[.pointer (some a)] w fun e w' => e = .returned (.bool (x != 0)) ∧ w' = w := by
  have hl := run_call_load (P := Tryz.prog) Tryz.func146 (by kernel_rfl) (by kernel_rfl) (by kernel_rfl) .u32 (by kernel_rfl) h
  go_enter Tryz.func136, Tryz.ntmps136
  go_wp2
  go_ret
  exact ⟨rfl, rfl⟩
set_option maxRecDepth 100000 in
set_option maxHeartbeats 1600000 in
theorem slow_any (b off : Nat) (R : Value) (PostW : World → Prop) (w : World) (h0 : w.cell? ⟨b, off, none⟩ = some (.int .u32 0)) (h1 : w.cell? ⟨b, off + 1, none⟩ = some (.int .i32 0)) (f0 : w.frozen? ⟨b, off, none⟩ = false) (f1 : w.frozen? ⟨b, off + 1, none⟩ = false)
    (hf : Calls Tryz.prog 123 #[R] (w.setCell ⟨b, off + 1, none⟩ (.int .i32 1)) fun e w' => e = .returned (.tuple #[]) ∧ w'.cell? ⟨b, off, none⟩ = some (.int .u32 0) ∧ w'.frozen? ⟨b, off, none⟩ = false ∧ w'.cell? ⟨b, off + 1, none⟩ = some (.int .i32 1) ∧ w'.frozen? ⟨b, off + 1, none⟩ = false ∧ PostW w') :
    Calls Tryz.prog 137 #[.pointer (some ⟨b, off, none⟩), .func (.func 123) #[R] #[]] w fun e w' => e = .returned (.tuple #[]) ∧ ∃ W, PostW W ∧
      w' = (W.drew.setCell ⟨b, off, none⟩ (.int .u32 1)).setCell ⟨b, off + 1, none⟩ (.int .i32 0) := by
  have hl := bool_load ⟨b, off, none⟩ 0 (w.setCell ⟨b, off + 1, none⟩ (.int .i32 1)) ((World.cell?_setCell_other _ ⟨b, off + 1, none⟩ ⟨b, off, none⟩ _ (by simp)).trans h0)
  have hnot : ∀ (x : Bool) (w : World), (Op.unary .not (.bool x)).run Tryz.prog w = .ok (.bool (!x)) w := fun _ _ => rfl
  have HF := hid hf
  have HL := hid hl
  clear hf hl
  go_enter_defers Tryz.func137, Tryz.ntmps137
  go_wp2_with (go_at_call 147; refine (lock_free ⟨b, off + 1, none⟩ _ (by go_simp) (by go_simp)).mono ?_; rintro e w' ⟨rfl, rfl⟩)
  refine HL.out.mono ?_
  rintro e w' ⟨rfl, rfl⟩
  go_wp2_with fail
  refine HF.out.mono ?_
  rintro e w2 ⟨rfl, c0, z0, c1, z1, hp⟩
  go_wp2_with fail
  refine leaves_cons (f := 149) (args := #[.pointer (some ⟨b, off, none⟩), .bool true]) (by simp) (by simp [go_sem]) ?_
  refine (store_deferred ⟨b, off, none⟩ (.int .u32 0) .returning _ c0 z0).mono ?_
  rintro e u' w'' ⟨rfl, rfl, rfl⟩
  refine leaves_cons (f := 148) (args := #[.pointer (some ⟨b, off + 1, none⟩)]) (by simp [settle]) (by simp [go_sem]) ?_
  refine (unlock_deferred ⟨b, off + 1, none⟩ _ _ ?_ (by simp [z1])).mono ?_
  · refine (World.cell?_setCell_other _ ⟨b, off, none⟩ ⟨b, off + 1, none⟩ _ (by simp)).trans ?_
    rw [World.cell?_drew]
    exact c1
  rintro e u' w'' ⟨rfl, rfl, rfl⟩
  simp [Leaves, settle, results, Tryz.results137]
  exact ⟨w2, hp, rfl⟩
set_option maxRecDepth 100000 in
set_option maxHeartbeats 1600000 in
theorem do_first (b off : Nat) (R : Value) (PostW : World → Prop) (w : World) (h0 : w.cell? ⟨b, off, none⟩ = some (.int .u32 0)) (h1 : w.cell? ⟨b, off + 1, none⟩ = some (.int .i32 0)) (f0 : w.frozen? ⟨b, off, none⟩ = false) (f1 : w.frozen? ⟨b, off + 1, none⟩ = false)
    (hf : Calls Tryz.prog 123 #[R] (w.setCell ⟨b, off + 1, none⟩ (.int .i32 1)) fun e w' => e = .returned (.tuple #[]) ∧ w'.cell? ⟨b, off, none⟩ = some (.int .u32 0) ∧ w'.frozen? ⟨b, off, none⟩ = false ∧ w'.cell? ⟨b, off + 1, none⟩ = some (.int .i32 1) ∧ w'.frozen? ⟨b, off + 1, none⟩ = false ∧ PostW w') :
    Calls Tryz.prog 122 #[.pointer (some ⟨b, off, none⟩), .func (.func 123) #[R] #[]] w fun e w' => e = .returned (.tuple #[]) ∧ ∃ W, PostW W ∧
      w' = (W.drew.setCell ⟨b, off, none⟩ (.int .u32 1)).setCell ⟨b, off + 1, none⟩ (.int .i32 0) := by
  have HL := hid (bool_load ⟨b, off, none⟩ 0 w h0)
  have HS := hid (slow_any b off R PostW w h0 h1 f0 f1 hf)
  have hnot : ∀ (x : Bool) (w : World), (Op.unary .not (.bool x)).run Tryz.prog w = .ok (.bool (!x)) w := fun _ _ => rfl
  clear hf
  go_enter Tryz.func122, Tryz.ntmps122
  go_wp2_with fail
  refine HL.out.mono ?_
  rintro e w' ⟨rfl, rfl⟩
  go_wp2_with fail
  refine HS.out.mono ?_
  rintro e w2 ⟨rfl, hp⟩
  go_wp2_with fail
  go_end0
  exact ⟨rfl, hp⟩
end Go.Proofs.YtcojkmcnigppbaaGreatDoor
end
section
namespace Go.Proofs.YtcojkmcnigppbaaGreatDoor
open Go Go.Proofs Go.RowKit
theorem mk02 (W : World) : (Instr.makeSlice 69 (.int .i64 0) (.int .i64 2)).run Tryz.prog W = .ok (.slice (some ⟨W.heap.size, 0, none⟩) 0 2) (W.alloc (.cells #[.string ⟨#[]⟩, .string ⟨#[]⟩] 9)) := by
  kernel_rfl
theorem zbs (W : World) : (zeroValue 183).run Tryz.prog W = .ok (.agg (Array.replicate 257 (.slice none 0 0))) W := by kernel_rfl
theorem blt (A : Option Addr) (n c : Nat) : Tryz.prog.built 183 [(1, .slice A n c)] = some ((Array.replicate 256 (.slice none 0 0)).push (.slice A n c)) := by kernel_rfl
theorem ibs : (Tryz.prog.info? 183).map (·.size) = some 257 := by kernel_rfl
theorem wpList_build_toR {P : Program} {ops : Array Oper} {rest : List Oper} {o : Oper} {a : Act} {w : World} {Q : Exit → Act → World → Prop} (hg : o.guard = none) (t : TypeId) (parts : Array (Nat × Operand)) (ho : o.op = .build t parts)
    (vals : List (Nat × Value)) (hv : (parts.map fun (i, x) => (i, a.eval x)).toList = vals) (cells : Array Value) (hb : P.built t vals = some cells) (h : wpList P ops Q rest (a.put o.dst (.agg cells)) w) : wpList P ops Q (o :: rest) a w :=
  wpList_build hg t parts ho (by rw [hv, hb]; rfl) (by rw [hv, hb]; exact h)
theorem info_str : ∃ i, Tryz.prog.info? 9 = some i ∧ i.zero = some (.string ⟨#[]⟩) ∧ i.size = 1 ∧ i.bytes = 16 := by
  have h : (Tryz.prog.info? 9).map (fun i => (i.zero, i.size, i.bytes)) = some (some (.string ⟨#[]⟩), 1, 16) := by kernel_rfl
  obtain ⟨i, hi, he⟩ := Option.map_eq_some_iff.mp h
  injection he with h1 h2
  injection h2 with h2 h3
  exact ⟨i, hi, h1, h2, h3⟩
def tab0 (v : Value) : Array Value := (Array.replicate 256 (.slice none 0 0)).push v
theorem tab0_at (v : Value) (k : Nat) (h : k < 256) : (tab0 v)[k]? = some (.slice none 0 0) := by
  unfold tab0
  rw [Array.getElem?_push_lt (by simpa using h)]
  simp [h]
theorem tab0_end (v : Value) : (tab0 v)[256]? = some v := by
  unfold tab0
  have := Array.getElem?_push_size (xs := Array.replicate 256 (Value.slice none 0 0)) (x := v)
  rwa [Array.size_replicate] at this
theorem tab0_size (v : Value) : (tab0 v).size = 257 := by unfold tab0; simp
theorem tab0_one (A : Option Addr) (n c : Nat) : (tab0 (.slice A n c)).all (·.oneCell') = true := by
  unfold tab0
  rw [Array.all_eq_true_iff_forall_mem]
  intro x hx
  rw [Array.mem_push, Array.mem_replicate] at hx
  rcases hx with ⟨_, rfl⟩ | rfl <;> rfl
section
variable {P : Program}
theorem run_storeVar_cell (w : World) (g k : Nat) (t ty : TypeId) (cs : Array Value) (v : Value) (hg : w.heap[g]? = some (.cells cs t (0, 0))) (hk : k < cs.size) (hi : (P.info? ty).map (·.size) = some 1)
    (h1 : v.oneCell' = true) : (storeVar ty ⟨g, k, none⟩ v).run P w = .ok () (w.setCell ⟨g, k, none⟩ v) := by
  have h2 : w.cell? ⟨g, k, none⟩ = some cs[k] := (Lib.cell_of_heap hg k).trans (Array.getElem?_eq_getElem hk)
  have := run_storeCells_cells (P := P) g k [v] 0 w (fun j hj => by simp at hj; subst hj; show (w.cell? ⟨g, k, none⟩).isSome = true; rw [h2]; rfl) (fun j hj => frozen_of_row w g _ cs t hg) (fun x hx => by simp at hx; subst hx; exact h1)
  have hc : v.cells = #[v] := by cases v <;> first | rfl | cases h1
  cases hq : P.info? ty with
  | none => simp [hq] at hi
  | some i =>
    have hs : i.size = 1 := by simpa [hq] using hi
    simp only [Nat.add_zero, World.setCells] at this
    simp [storeVar, sizeOf, typeInfo, hq, hc, hs, this]
theorem grown_setR (w : World) (g k : Nat) (v : Value) : w.grownBy (w.setCell ⟨g, k, none⟩ v) (some g) :=
  ⟨rfl, rfl, rfl, by simp [World.setCell], fun b _ hb => heap_setCell_other w _ b v (fun e => hb (by rw [e]))⟩
theorem wpList_cell_to {ops : Array Oper} {rest : List Oper} {o : Oper} {a : Act} {w : World} {Q : Exit → Act → World → Prop} (hgd : o.guard = none) (ty : TypeId) (x y : Operand) (ho : o.op = .store ty x y) (hd : o.dst = none)
    (g k : Nat) (v : Value) (hx : a.eval x = .pointer (some ⟨g, k, none⟩)) (hy : a.eval y = v) (h1 : v.oneCell' = true) (hi : (P.info? ty).map (·.size) = some 1)
    (t : TypeId) (cs : Array Value) (hg : w.heap[g]? = some (.cells cs t (0, 0))) (hk : k < cs.size)
    (h : ∀ w', w'.heap[g]? = some (.cells (cs.setIfInBounds k v) t (0, 0)) → w.grownBy w' (some g) → wpList P ops Q rest a w') : wpList P ops Q (o :: rest) a w :=
  wpList_plain hgd fun _ hK => by
    unfold Oper.wp execOp
    simp only [ho, hx, hy, Instr.storeAt, Instr.sureAddr, Sem.run_bind, Sem.run_pure, Result.andThen_ok, run_storeVar_cell w g k t ty cs _ hg hk hi h1]
    exact hK _ _ (by rw [hd]; exact h _ (heap_setCell_same w g k cs t v hg) (grown_setR w g k v))
theorem wpList_text_to {ops : Array Oper} {rest : List Oper} {o : Oper} {a : Act} {w : World} {Q : Exit → Act → World → Prop} (hgd : o.guard = none) (src dst e : TypeId) (x : Operand) (ho : o.op = .convert src dst x)
    {u : TypeDesc} (hs : P.underlying src = some u) (hd : P.underlying dst = some (.slice e)) (he : P.underlying e = some (.int .u8)) (s : ByteArray) (hx : a.eval x = .string s)
    (h : ∀ c w', (∀ j, j < s.size → w'.cell? ⟨w.heap.size, j, none⟩ = some (.int .u8 (s.data.toList.getD j 0).toNat)) → w.grownBy w' none → w'.heap.size = w.heap.size + 1 → wpList P ops Q rest (a.put o.dst (.slice (some ⟨w.heap.size, 0, none⟩) s.size c)) w') : wpList P ops Q (o :: rest) a w :=
  wpList_plain hgd fun _ hK => by
    unfold Oper.wp execOp
    simp only [ho, hx, Sem.run_bind, Lib.run_convert_string_bytes w src dst e s hs hd he, Sem.run_pure, Result.andThen_ok]
    exact hK _ _ (h _ _ (fun j hj => Lib.bytesWorld_cell w e s j hj) ⟨rfl, rfl, rfl, by rw [Lib.bytesWorld_size]; omega, fun k hk _ => Lib.bytesWorld_at_old w e s k hk⟩ (Lib.bytesWorld_size w e s))
end
theorem own_kept {W W' : World} {B : Nat} {e : TypeId} {size n : Nat} {v : Value} {xs : List Value} {row : Option Nat} (h : W.ownsRow B e size v n xs) (hg : W.grownBy W' row) (hne : ∀ g, v.ownBlock = some g → some g ≠ row) : W'.ownsRow B e size v n xs := by
  refine ⟨h.1, ?_⟩
  rcases h.2 with h1 | ⟨g, cap, cur, rfl, h2, h3, h4⟩
  · exact .inl h1
  · refine .inr ⟨g, cap, cur, rfl, h2, (hg.block g ?_ (hne g rfl)).trans h3, h4⟩
    rcases Nat.lt_or_ge g W.heap.size with hlt | hge
    · exact hlt
    · rw [Array.getElem?_eq_none hge] at h3; cases h3
theorem lt_of_heap {W : World} {g : Nat} {o : Obj} (h : W.heap[g]? = some o) : g < W.heap.size := by
  rcases Nat.lt_or_ge g W.heap.size with hlt | hge
  · exact hlt
  · rw [Array.getElem?_eq_none hge] at h; cases h
theorem wpList_add_to {ops : Array Oper} {rest : List Oper} {o : Oper} {a : Act} {w : World} {Q : Exit → Act → World → Prop} (hgd : o.guard = none) (s x : Operand) (ho : o.op = .call { callee := .builtin .append, args := #[s, x], argTypes := #[69, 69] })
    (B : Nat) (v : Value) (L : List ByteArray) (hs : a.eval s = v) (hown : w.ownsRow B 9 1 v L.length (L.map .string)) (ad : Addr) (t : ByteArray) (hx : a.eval x = .slice (some ad) 1 1) (hc : w.cell? (ad.add 0) = some (.string t)) (hL : L.length ≤ 1000) (hB : B ≤ w.heap.size)
    (h : ∀ g c w', v.ownBlock = some g ∨ w.heap.size ≤ g → w'.ownsRow B 9 1 (.slice (some ⟨g, 0, none⟩) (L ++ [t]).length c) (L ++ [t]).length ((L ++ [t]).map .string) → w.grownBy w' v.ownBlock → wpList Tryz.prog ops Q rest (a.put o.dst (.slice (some ⟨g, 0, none⟩) (L ++ [t]).length c)) w') : wpList Tryz.prog ops Q (o :: rest) a w := by
  obtain ⟨i0, hi, hz0, hz1, hz2⟩ := info_str
  refine wpList_append_any w hgd s x 69 ho B 9 i0 (.string ⟨#[]⟩) 1 16 Tryz.underlying69 hi hz0 hz1 hz2 rfl (by decide) v L.length (L.map .string) hs hown (ad.block + 1) (some ad) 1 1 [.string t] hx ⟨rfl, fun _ => ⟨ad, rfl, by omega, fun j u hj => by
    match j, hj with
    | 0, hj => simp at hj; subst hj; exact hc⟩⟩ (fun u hu => by simp at hu; subst hu; rfl) (by unfold maxLen; omega) (by omega) hB ?_
  intro v' w' ho' hg hor
  have e : L.map Value.string ++ [Value.string t] = (L ++ [t]).map Value.string := by simp
  have e2 : L.length + 1 = (L ++ [t]).length := by simp
  rw [e, e2] at ho'
  obtain ⟨g, c, rfl, _, hlt⟩ := ho'.form (by simp)
  refine h g c w' ?_ ho' hg
  rcases hor with hor | hor
  · exact .inl hor.symm
  · have hor : g = w.heap.size := by simpa [Value.ownBlock] using hor
    exact .inr (by omega)
def TabOk (B T : Nat) (W : World) : Prop := ∃ cs g c a3 d3 a9 d9, (B ≤ T ∧ B ≤ g ∧ B ≤ a3 ∧ B ≤ a9) ∧ W.heap[T]? = some (.cells cs 183 (0, 0)) ∧ cs.size = 257 ∧ (∀ k, k < 256 → k ≠ 34 → k ≠ 92 → cs[k]? = some (.slice none 0 0)) ∧
  cs[256]? = some (.slice (some ⟨g, 0, none⟩) 2 c) ∧ cs[34]? = some (.slice (some ⟨a3, 0, none⟩) 2 d3) ∧ cs[92]? = some (.slice (some ⟨a9, 0, none⟩) 2 d9) ∧
  W.cell? ⟨g, 0, none⟩ = some (.string ⟨#[92]⟩) ∧ W.cell? ⟨g, 1, none⟩ = some (.string ⟨#[34]⟩) ∧
  W.cell? ⟨a3, 0, none⟩ = some (.int .u8 92) ∧ W.cell? ⟨a3, 1, none⟩ = some (.int .u8 34) ∧ W.cell? ⟨a9, 0, none⟩ = some (.int .u8 92) ∧ W.cell? ⟨a9, 1, none⟩ = some (.int .u8 92)
set_option maxRecDepth 100000 in
set_option maxHeartbeats 4000000 in
theorem build_any (Rb ga : Nat) (c : Nat) (w : World) (h4 : w.cell? ⟨Rb, 4, none⟩ = some (.slice (some ⟨ga, 0, none⟩) 4 c)) (s0 : w.cell? ⟨ga, 0, none⟩ = some (.string ⟨#[34]⟩)) (s1 : w.cell? ⟨ga, 1, none⟩ = some (.string ⟨#[92, 34]⟩)) (s2 : w.cell? ⟨ga, 2, none⟩ = some (.string ⟨#[92]⟩)) (s3 : w.cell? ⟨ga, 3, none⟩ = some (.string ⟨#[92, 92]⟩)) :
    Calls Tryz.prog 138 #[.pointer (some ⟨Rb, 0, none⟩)] w fun e w' => ∃ T, e = .returned (.iface 184 (.pointer (some ⟨T, 0, none⟩))) ∧ TabOk w.heap.size T w' ∧ Below w.heap.size w w' ∧ w.heap.size ≤ T := by
  have hel : Tryz.prog.elem 69 = 9 := by kernel_rfl
  obtain ⟨zb, hzb⟩ : ∃ z : Array Value, Hid (z = Array.replicate 257 (.slice none 0 0)) := ⟨_, hid rfl⟩
  have hz0 : ∀ W, (zeroValue 183).run Tryz.prog W = .ok (.agg zb) W := by rw [hzb.out]; exact zbs
  obtain ⟨tb, htb⟩ : ∃ z : Array Value, Hid (z = tab0 (.slice (some ⟨w.heap.size, 0, none⟩) 0 2)) := ⟨_, hid rfl⟩
  have hbt : Hid (Tryz.prog.built 183 [(1, .slice (some ⟨w.heap.size, 0, none⟩) 0 2)] = some tb) := by rw [htb.out]; exact hid (blt _ _ _)
  have ot : Hid ((Tryz.prog.info? 183).map (·.size) = some tb.size ∧ tb.all (·.oneCell') = true ∧ zb.size = tb.size) := by rw [htb.out, hzb.out]; exact hid ⟨by rw [tab0_size]; exact ibs, tab0_one _ _ _, by rw [tab0_size]; simp⟩
  have hmk := mk02
  have hsz : (w.alloc (.cells #[.string ⟨#[]⟩, .string ⟨#[]⟩] 9)).heap.size = w.heap.size + 1 := by simp
  go_enter Tryz.func138, Tryz.ntmps138
  go_wp2_with fail
  refine wp_loop_rounds 3 ?_
  rw [rounds_succ]
  go_wp2_with fail
  rw [rounds_succ]
  go_wp2_with fail
  rw [rounds_succ]
  go_wp2_with (first | (refine wpList_build_toR rfl 183 #[(1, .tmp 94)] rfl [(1, .slice (some ⟨w.heap.size, 0, none⟩) 0 2)] (by simp [Act.eval]) tb hbt.out ?_) | (refine wpList_store_row rfl 183 (.tmp 11) (.tmp 95) rfl (w.heap.size + 1) tb rfl rfl 183 zb (by rw [← hsz]; exact heap_alloc_new _ _) ot.out.1 ot.out.2.2 ot.out.2.1 ?_))
  have hW : ∃ W2 : World, W2 = (((w.alloc (.cells #[.string ⟨#[]⟩, .string ⟨#[]⟩] 9)).alloc (.cells zb 183)).setRow (w.heap.size + 1) tb) := ⟨_, rfl⟩
  obtain ⟨W2, hW2⟩ := hW
  have hB : Below w.heap.size w W2 := by
    rw [hW2]
    refine ⟨rfl, rfl, rfl, by simp; omega, fun k hk => ?_⟩
    rw [setRow_other _ _ _ _ (by omega)]
    exact (((Below.refl w.heap.size w).alloc (Nat.le_refl _) _).alloc (by simp) _).block k hk
  have hG0 : W2.heap[w.heap.size]? = some (.cells #[.string ⟨#[]⟩, .string ⟨#[]⟩] 9 (0, 0)) := by
    rw [hW2, setRow_other _ _ _ _ (by omega)]
    exact (Below.heap_alloc _ _ _ (by simp)).trans (heap_alloc_new w _)
  have hG1 : W2.heap[w.heap.size + 1]? = some (.cells tb 183 (0, 0)) := by
    rw [hW2]
    refine setRow_heap _ _ zb tb _ (0, 0) ?_
    rw [← hsz]; exact heap_alloc_new _ _
  have hS2 : W2.heap.size = w.heap.size + 2 := by rw [hW2]; simp
  rw [← hW2]
  clear hW2
  have e4 := (hB.cell (p := ⟨Rb, 4, none⟩) (World.block_lt_of_cell? _ _ h4)).trans h4
  have e0 := (hB.cell (p := ⟨ga, 0, none⟩) (World.block_lt_of_cell? _ _ s0)).trans s0
  have e1 := (hB.cell (p := ⟨ga, 1, none⟩) (World.block_lt_of_cell? _ _ s1)).trans s1
  have e2 := (hB.cell (p := ⟨ga, 2, none⟩) (World.block_lt_of_cell? _ _ s2)).trans s2
  have e3 := (hB.cell (p := ⟨ga, 3, none⟩) (World.block_lt_of_cell? _ _ s3)).trans s3
  have t92 : W2.cell? ⟨w.heap.size + 1, 92, none⟩ = some (.slice none 0 0) := (Lib.cell_of_heap hG1 92).trans (by rw [htb.out]; exact tab0_at _ 92 (by omega))
  have t256 : W2.cell? ⟨w.heap.size + 1, 256, none⟩ = some (.slice (some ⟨w.heap.size, 0, none⟩) 0 2) := (Lib.cell_of_heap hG1 256).trans (by rw [htb.out]; exact tab0_end _)
  have ix92 : ∀ h, ((⟨#[92]⟩ : ByteArray)[0]'h).toNat = 92 := fun _ => rfl
  have ix34 : ∀ h, ((⟨#[34]⟩ : ByteArray)[0]'h).toNat = 34 := fun _ => rfl
  have hnil : ∀ W, (binOp .eql 22 (.slice none 0 0) (.slice none 0 0)).run Tryz.prog W = .ok (.bool true) W := fun W => by kernel_rfl
  have HB := hid hB
  have HG0 := hid hG0
  have HG1 := hid hG1
  have hO : Hid (W2.ownsRow w.heap.size 9 1 (.slice (some ⟨w.heap.size, 0, none⟩) 0 2) 0 []) := hid ⟨rfl, .inr ⟨_, 2, _, rfl, Nat.le_refl _, hG0, by omega, by unfold maxLen; omega, rfl, rfl⟩⟩
  have htsz : tb.size = 257 := by rw [htb.out, tab0_size]
  have hHtsz := hid htsz
  have s0' := hid s0
  have s1' := hid s1
  clear hB hG0 hG1 hmk h4 s0 s1 s2 s3 hsz htsz
  have hcv : (convert 22 9 (.slice (some ⟨w.heap.size + 2, 0, none⟩) 1 1)).run Tryz.prog (W2.alloc (.cells #[.int .u8 92] 5)) = .ok (.string ⟨#[92]⟩) (W2.alloc (.cells #[.int .u8 92] 5)) := by
    have := run_back (c := 1) (reads_one W2 92 (0, 0))
    rw [hS2] at this; exact this
  have HT1 := HG1
  have HB1 := HB
  refine wp_loop_rounds 3 ?_
  rw [rounds_succ]
  have hbz1 := HB1.out.size
  go_wp2_with (at_builtin; refine wpList_add_to rfl (.tmp 119) (.tmp 123) rfl w.heap.size _ [] rfl ((hO.out.alloc _).alloc _) ⟨w.heap.size + 3, 0, none⟩ ⟨#[92]⟩ rfl ?cc1 (by decide) (by simp; omega) ?_)
  case cc1 =>
    show World.cell? _ ⟨w.heap.size + 3, 0, none⟩ = _
    have e : w.heap.size + 3 = (W2.alloc (.cells #[.int .u8 92] 5)).heap.size := by simp [hS2]
    rw [e]
    exact (Lib.cell_of_heap (heap_alloc_new _ _) 0)
  intro g1 c1 W11 hgo1 ho1 hgr1
  have hlt1 := lt_of_heap HT1.out
  have hgn1 : g1 ≠ w.heap.size + 1 := by
    rcases hgo1 with h | h
    · have h : some w.heap.size = some _ := h; injection h with h; omega
    · first | omega | (simp at h; omega)
  have HT11 : Hid (W11.heap[w.heap.size + 1]? = some (.cells tb 183 (0, 0))) := hid ((hgr1.block (w.heap.size + 1) (by simp; omega) (fun h => by have h := h.symm; have h : some w.heap.size = some _ := h; injection h with h; omega)).trans (((((Below.refl W2.heap.size W2).alloc (Nat.le_refl _) _).alloc (by simp) _).block (w.heap.size + 1) hlt1).trans HT1.out))
  have HB11 : Hid (Below w.heap.size w W11) := hid (Below.grown ((HB1.out.alloc hbz1 _).alloc (by simp; omega) _) hgr1 (by simp; omega) (fun k hk => (hO.out.lt k hk).1))
  have hbz11 := HB11.out.size
  have HK11 : Hid (∀ b, b < W2.heap.size → b ≠ w.heap.size → W11.heap[b]? = W2.heap[b]?) := hid fun b hb hn => (hgr1.block b (by simp; omega) (fun h => by have h := h.symm; have h : some (w.heap.size) = some _ := h; injection h with h; exact hn h.symm)).trans ((((Below.refl W2.heap.size W2).alloc (Nat.le_refl _) _).alloc (by simp) _).block b hb)
  have hsz11 : W2.heap.size ≤ W11.heap.size := by have := hgr1.size; simp at this; omega
  have Hho1 := hid ho1
  clear ho1 hgr1 hgo1
  go_wp2_with (refine wpList_cell_to rfl 69 (.tmp 125) (.tmp 124) rfl rfl (w.heap.size + 1) 256 (.slice (some ⟨g1, 0, none⟩) 1 c1) rfl rfl rfl (by kernel_rfl) 183 tb HT11.out (by first | (rw [hHtsz.out]; omega) | (simp; rw [hHtsz.out]; omega)) ?_)
  intro W12 HT12 hgr12
  go_wp2_with (refine wpList_text_to rfl 9 22 5 (.tmp 127) rfl Tryz.underlying9 Tryz.underlying22 Tryz.underlying5 ⟨#[92, 92]⟩ rfl ?_)
  intro d1 W13 hby1 hgr13 hsz13
  go_wp2_with (refine wpList_cell_to rfl 22 (.tmp 130) (.tmp 128) rfl rfl (w.heap.size + 1) 92 (.slice (some ⟨W12.heap.size, 0, none⟩) 2 d1) rfl rfl rfl (by kernel_rfl) 183 (tb.setIfInBounds 256 (.slice (some ⟨g1, 0, none⟩) 1 c1)) ((hgr13.block _ (lt_of_heap HT12) (by simp)).trans HT12) (by first | (rw [hHtsz.out]; omega) | (simp; rw [hHtsz.out]; omega)) ?_)
  intro W14 HT14 hgr14
  have own14 : Hid (W14.ownsRow w.heap.size 9 1 (.slice (some ⟨g1, 0, none⟩) 1 c1) 1 (([] ++ [(⟨#[92]⟩ : ByteArray)]).map .string)) := hid (own_kept (own_kept (own_kept Hho1.out hgr12 (fun g h => by simp [Value.ownBlock] at h; subst h; simpa using hgn1)) hgr13 (fun g h => by simp)) hgr14 (fun g h => by simp [Value.ownBlock] at h; subst h; simpa using hgn1))
  have HB14 : Hid (Below w.heap.size w W14) := hid (Below.grown (Below.grown (Below.grown HB11.out hgr12 HB11.out.size (fun k hk => by injection hk with hk; omega)) hgr13 (Nat.le_trans HB11.out.size hgr12.size) (fun k hk => by cases hk)) hgr14 (Nat.le_trans (Nat.le_trans HB11.out.size hgr12.size) hgr13.size) (fun k hk => by injection hk with hk; omega))
  have hbx1 : w.heap.size + 1 < W12.heap.size := lt_of_heap HT12
  have hbx14 := hgr14.size
  have HC1 : Hid (W14.cell? ⟨W12.heap.size, 0, none⟩ = some (.int .u8 92) ∧ W14.cell? ⟨W12.heap.size, 1, none⟩ = some (.int .u8 92)) := hid ⟨(hgr14.cell_far _ (by show W12.heap.size < _; omega) (by simp; omega)).trans (hby1 0 (by decide)), (hgr14.cell_far _ (by show W12.heap.size < _; omega) (by simp; omega)).trans (hby1 1 (by decide))⟩
  have hga1 : g1 < W12.heap.size := by have := (Hho1.out.lt g1 rfl).2; have := hgr12.size; omega
  have HK1 : Hid (∀ b, b < W2.heap.size → b ≠ w.heap.size + 1 → b ≠ w.heap.size → W14.heap[b]? = W2.heap[b]?) := hid fun b hb h1 h2 => by
    have x2 := hgr12.size
    have x3 := hgr13.size
    exact (hgr14.block b (by omega) (by simpa using h1)).trans ((hgr13.block b (by omega) (by simp)).trans ((hgr12.block b (by omega) (by simpa using h1)).trans (HK11.out b hb h2)))
  have HT15 := hid HT14
  clear hgr12 hgr13 hby1 HT12 hgr14 HT14
  have e0' := (HB14.out.cell (p := ⟨ga, 0, none⟩) (World.block_lt_of_cell? _ _ s0'.out)).trans s0'.out
  have e1' := (HB14.out.cell (p := ⟨ga, 1, none⟩) (World.block_lt_of_cell? _ _ s1'.out)).trans s1'.out
  have t34 : W14.cell? ⟨w.heap.size + 1, 34, none⟩ = some (.slice none 0 0) := (Lib.cell_of_heap HT15.out 34).trans (by rw [Array.getElem?_setIfInBounds_ne (by decide), Array.getElem?_setIfInBounds_ne (by decide), htb.out]; exact tab0_at _ 34 (by omega))
  have t256' : W14.cell? ⟨w.heap.size + 1, 256, none⟩ = some (.slice (some ⟨g1, 0, none⟩) 1 c1) := (Lib.cell_of_heap HT15.out 256).trans (by rw [Array.getElem?_setIfInBounds_ne (by decide), Array.getElem?_setIfInBounds_self_of_lt (by rw [hHtsz.out]; omega)])
  have hcv2 : (convert 22 9 (.slice (some ⟨W14.heap.size, 0, none⟩) 1 1)).run Tryz.prog (W14.alloc (.cells #[.int .u8 34] 5)) = .ok (.string ⟨#[34]⟩) (W14.alloc (.cells #[.int .u8 34] 5)) := run_back (c := 1) (reads_one W14 34 (0, 0))
  have HT2 := HT15
  have HB2 := HB14
  clear hcv
  go_wp2_with fail
  rw [rounds_succ]
  have hbz2 := HB2.out.size
  go_wp2_with (at_builtin; refine wpList_add_to rfl (.tmp 119) (.tmp 123) rfl w.heap.size _ [(⟨#[92]⟩ : ByteArray)] rfl ((own14.out.alloc _).alloc _) ⟨W14.heap.size + 1, 0, none⟩ ⟨#[34]⟩ rfl ?cc2 (by decide) (by simp; omega) ?_)
  case cc2 =>
    show World.cell? _ ⟨W14.heap.size + 1, 0, none⟩ = _
    have e : W14.heap.size + 1 = (W14.alloc (.cells #[.int .u8 34] 5)).heap.size := by simp
    rw [e]
    exact (Lib.cell_of_heap (heap_alloc_new _ _) 0)
  intro g2 c2 W21 hgo2 ho2 hgr2
  have hlt2 := lt_of_heap HT2.out
  have hgn2 : g2 ≠ w.heap.size + 1 := by
    rcases hgo2 with h | h
    · have h : some g1 = some _ := h; injection h with h; omega
    · first | omega | (simp at h; omega)
  have HT21 : Hid (W21.heap[w.heap.size + 1]? = some (.cells ((tb.setIfInBounds 256 (.slice (some ⟨g1, 0, none⟩) 1 c1)).setIfInBounds 92 (.slice (some ⟨W12.heap.size, 0, none⟩) 2 d1)) 183 (0, 0))) := hid ((hgr2.block (w.heap.size + 1) (by simp; omega) (fun h => by have h := h.symm; have h : some g1 = some _ := h; injection h with h; omega)).trans (((((Below.refl W14.heap.size W14).alloc (Nat.le_refl _) _).alloc (by simp) _).block (w.heap.size + 1) hlt2).trans HT2.out))
  have HB21 : Hid (Below w.heap.size w W21) := hid (Below.grown ((HB2.out.alloc hbz2 _).alloc (by simp; omega) _) hgr2 (by simp; omega) (fun k hk => (own14.out.lt k hk).1))
  have hbz21 := HB21.out.size
  have HK21 : Hid (∀ b, b < W14.heap.size → b ≠ g1 → W21.heap[b]? = W14.heap[b]?) := hid fun b hb hn => (hgr2.block b (by simp; omega) (fun h => by have h := h.symm; have h : some (g1) = some _ := h; injection h with h; exact hn h.symm)).trans ((((Below.refl W14.heap.size W14).alloc (Nat.le_refl _) _).alloc (by simp) _).block b hb)
  have hsz21 : W14.heap.size ≤ W21.heap.size := by have := hgr2.size; simp at this; omega
  have Hho2 := hid ho2
  clear ho2 hgr2 hgo2
  go_wp2_with (refine wpList_cell_to rfl 69 (.tmp 125) (.tmp 124) rfl rfl (w.heap.size + 1) 256 (.slice (some ⟨g2, 0, none⟩) 2 c2) rfl rfl rfl (by kernel_rfl) 183 ((tb.setIfInBounds 256 (.slice (some ⟨g1, 0, none⟩) 1 c1)).setIfInBounds 92 (.slice (some ⟨W12.heap.size, 0, none⟩) 2 d1)) HT21.out (by first | (rw [hHtsz.out]; omega) | (simp; rw [hHtsz.out]; omega)) ?_)
  intro W22 HT22 hgr22
  go_wp2_with (refine wpList_text_to rfl 9 22 5 (.tmp 127) rfl Tryz.underlying9 Tryz.underlying22 Tryz.underlying5 ⟨#[92, 34]⟩ rfl ?_)
  intro d2 W23 hby2 hgr23 hsz23
  go_wp2_with (refine wpList_cell_to rfl 22 (.tmp 130) (.tmp 128) rfl rfl (w.heap.size + 1) 34 (.slice (some ⟨W22.heap.size, 0, none⟩) 2 d2) rfl rfl rfl (by kernel_rfl) 183 (((tb.setIfInBounds 256 (.slice (some ⟨g1, 0, none⟩) 1 c1)).setIfInBounds 92 (.slice (some ⟨W12.heap.size, 0, none⟩) 2 d1)).setIfInBounds 256 (.slice (some ⟨g2, 0, none⟩) 2 c2)) ((hgr23.block _ (lt_of_heap HT22) (by simp)).trans HT22) (by first | (rw [hHtsz.out]; omega) | (simp; rw [hHtsz.out]; omega)) ?_)
  intro W24 HT24 hgr24
  have own24 : Hid (W24.ownsRow w.heap.size 9 1 (.slice (some ⟨g2, 0, none⟩) 2 c2) 2 (([(⟨#[92]⟩ : ByteArray)] ++ [(⟨#[34]⟩ : ByteArray)]).map .string)) := hid (own_kept (own_kept (own_kept Hho2.out hgr22 (fun g h => by simp [Value.ownBlock] at h; subst h; simpa using hgn2)) hgr23 (fun g h => by simp)) hgr24 (fun g h => by simp [Value.ownBlock] at h; subst h; simpa using hgn2))
  have HB24 : Hid (Below w.heap.size w W24) := hid (Below.grown (Below.grown (Below.grown HB21.out hgr22 HB21.out.size (fun k hk => by injection hk with hk; omega)) hgr23 (Nat.le_trans HB21.out.size hgr22.size) (fun k hk => by cases hk)) hgr24 (Nat.le_trans (Nat.le_trans HB21.out.size hgr22.size) hgr23.size) (fun k hk => by injection hk with hk; omega))
  have hbx2 : w.heap.size + 1 < W22.heap.size := lt_of_heap HT22
  have hbx24 := hgr24.size
  have HC2 : Hid (W24.cell? ⟨W22.heap.size, 0, none⟩ = some (.int .u8 92) ∧ W24.cell? ⟨W22.heap.size, 1, none⟩ = some (.int .u8 34)) := hid ⟨(hgr24.cell_far _ (by show W22.heap.size < _; omega) (by simp; omega)).trans (hby2 0 (by decide)), (hgr24.cell_far _ (by show W22.heap.size < _; omega) (by simp; omega)).trans (hby2 1 (by decide))⟩
  have hga2 : g2 < W22.heap.size := by have := (Hho2.out.lt g2 rfl).2; have := hgr22.size; omega
  have HK2 : Hid (∀ b, b < W14.heap.size → b ≠ w.heap.size + 1 → b ≠ g1 → W24.heap[b]? = W14.heap[b]?) := hid fun b hb h1 h2 => by
    have x2 := hgr22.size
    have x3 := hgr23.size
    exact (hgr24.block b (by omega) (by simpa using h1)).trans ((hgr23.block b (by omega) (by simp)).trans ((hgr22.block b (by omega) (by simpa using h1)).trans (HK21.out b hb h2)))
  have HT25 := hid HT24
  clear hgr22 hgr23 hby2 HT22 hgr24 HT24
  go_wp2_with fail
  rw [rounds_succ]
  go_wp2_with fail
  go_ret
  refine ⟨w.heap.size + 1, rfl, ⟨_, g2, c2, W22.heap.size, d2, W12.heap.size, d1, ⟨by omega, (own24.out.lt g2 rfl).1, by omega, by omega⟩, HT25.out, ?_, ?_, ?_, ?_, ?_, ?_⟩, HB24.out, by omega⟩
  · simp; exact hHtsz.out
  · intro k hk h1 h2
    rw [Array.getElem?_setIfInBounds_ne (by omega), Array.getElem?_setIfInBounds_ne (by omega), Array.getElem?_setIfInBounds_ne (by omega), Array.getElem?_setIfInBounds_ne (by omega), htb.out]
    exact tab0_at _ k hk
  · rw [Array.getElem?_setIfInBounds_ne (by decide), Array.getElem?_setIfInBounds_self_of_lt (by simp; rw [hHtsz.out]; omega)]
  · rw [Array.getElem?_setIfInBounds_self_of_lt (by simp; rw [hHtsz.out]; omega)]
  · rw [Array.getElem?_setIfInBounds_ne (by decide), Array.getElem?_setIfInBounds_ne (by decide), Array.getElem?_setIfInBounds_self_of_lt (by simp; rw [hHtsz.out]; omega)]
  · have ho := own24.out.cells (g := g2) rfl
    have hk := HK2.out W12.heap.size (by omega) (by omega) (by omega)
    exact ⟨ho 0 _ rfl, ho 1 _ rfl, HC2.out.1, HC2.out.2, (World.cell?_of_block hk).trans HC1.out.1, (World.cell?_of_block hk).trans HC1.out.2⟩
theorem cell_other {W W' : World} {p : Addr} {v : Value} {row : Option Nat} (h : W.cell? p = some v) (hg : W.grownBy W' row) (hn : some p.block ≠ row) : W'.cell? p = some v :=
  (hg.cell_far p (World.block_lt_of_cell? _ _ h) hn).trans h
theorem TabOk.below {B T : Nat} {W W' : World} (h : TabOk B T W) (hb : Below W.heap.size W W') : TabOk B T W' := by
  obtain ⟨cs, g, c, a3, d3, a9, d9, hB, h1, h2, h3, h4, h5, h6, c1, c2, c3, c4, c5, c6⟩ := h
  have k {p : Addr} {v : Value} (hp : W.cell? p = some v) : W'.cell? p = some v := (hb.cell (World.block_lt_of_cell? _ _ hp)).trans hp
  exact ⟨cs, g, c, a3, d3, a9, d9, hB, (hb.block T (lt_of_heap h1)).trans h1, h2, h3, h4, h5, h6, k c1, k c2, k c3, k c4, k c5, k c6⟩
theorem TabOk.grown {B T r : Nat} {W W' : World} (h : TabOk B T W) (hg : W.grownBy W' (some r)) (hr : r < B) : TabOk B T W' := by
  obtain ⟨cs, g, c, a3, d3, a9, d9, hB, h1, h2, h3, h4, h5, h6, c1, c2, c3, c4, c5, c6⟩ := h
  have k {p : Addr} {v : Value} (hp : W.cell? p = some v) (hn : B ≤ p.block) : W'.cell? p = some v := cell_other hp hg (fun e => by injection e with e; omega)
  exact ⟨cs, g, c, a3, d3, a9, d9, hB, (hg.block T (lt_of_heap h1) (fun e => by injection e with e; omega)).trans h1, h2, h3, h4, h5, h6, k c1 hB.2.1, k c2 hB.2.1, k c3 hB.2.2.1, k c4 hB.2.2.1, k c5 hB.2.2.2, k c6 hB.2.2.2⟩
end Go.Proofs.YtcojkmcnigppbaaGreatDoor
end
section
namespace Go.Proofs.YtcojkmcnigppbaaGreatDoor
open Go Go.Proofs Go.RowKit
set_option maxRecDepth 100000 in
set_option maxHeartbeats 1600000 in
theorem buildOnce_any (Rb ga c : Nat) (x0 x1 x2 x3 : Value) (w : World) (hR : w.heap[Rb]? = some (.cells #[x0, x1, x2, x3, .slice (some ⟨ga, 0, none⟩) 4 c] 160 (0, 0))) (s0 : w.cell? ⟨ga, 0, none⟩ = some (.string ⟨#[34]⟩)) (s1 : w.cell? ⟨ga, 1, none⟩ = some (.string ⟨#[92, 34]⟩)) (s2 : w.cell? ⟨ga, 2, none⟩ = some (.string ⟨#[92]⟩)) (s3 : w.cell? ⟨ga, 3, none⟩ = some (.string ⟨#[92, 92]⟩)) :
    Calls Tryz.prog 123 #[.pointer (some ⟨Rb, 0, none⟩)] w fun e w' => e = .returned (.tuple #[]) ∧ ∃ T, w'.heap[Rb]? = some (.cells #[x0, x1, x2, .iface 184 (.pointer (some ⟨T, 0, none⟩)), .slice none 0 0] 160 (0, 0)) ∧ TabOk w.heap.size T w' ∧ w.grownBy w' (some Rb) := by
  have hb := build_any Rb ga c w (Lib.cell_of_heap hR 4) s0 s1 s2 s3
  have hRlt := lt_of_heap hR
  have HR := hid hR
  clear hR s0 s1 s2 s3
  go_enter Tryz.func123, Tryz.ntmps123
  go_wp2_with (go_at_call 138; refine hb.mono ?_)
  rintro e w1 ⟨T, rfl, hT, hB, hTw⟩
  have HR1 := (hB.block Rb hRlt).trans HR.out
  have hBs := hB.size
  go_wp2_with (refine wpList_cell_to rfl 158 (.tmp 6) (.tmp 4) rfl rfl Rb 3 (.iface 184 (.pointer (some ⟨T, 0, none⟩))) rfl rfl rfl (by kernel_rfl) 160 _ HR1 (by simp) ?_)
  intro w2 HR2 hg2
  go_wp2_with (refine wpList_cell_to rfl 69 (.tmp 9) (.const (.slice none 0 0)) rfl rfl Rb 4 (.slice none 0 0) rfl rfl rfl (by kernel_rfl) 160 _ HR2 (by simp) ?_)
  intro w3 HR3 hg3
  go_wp2_with fail
  go_end0
  refine ⟨rfl, T, HR3, ?_, ?_⟩
  · exact (hT.grown hg2 (by omega)).grown hg3 (by omega)
  · exact ⟨hg3.os.trans (hg2.os.trans hB.os), hg3.tape.trans (hg2.tape.trans hB.tape), hg3.output.trans (hg2.output.trans hB.output), Nat.le_trans hBs (Nat.le_trans hg2.size hg3.size), fun k hk hn => (hg3.block k (by have := hg2.size; omega) hn).trans ((hg2.block k (by omega) hn).trans (hB.block k hk))⟩
end Go.Proofs.YtcojkmcnigppbaaGreatDoor
end
section
namespace Go.Proofs.YtcojkmcnigppbaaGreatDoor
open Go Go.Proofs Go.RowKit
set_option maxHeartbeats 1000000 in
set_option maxRecDepth 100000 in
theorem count_one (s : ByteArray) (c : UInt8) (w : World) :
    Calls Tryz.prog 222 #[.string s, .string ⟨#[c]⟩] w fun e w' => e = .returned (.int .i64 (s.data.toList.count c : Nat)) ∧ w' = w := by
  go_enter Tryz.func222, Tryz.ntmps222
  go_wp2
  rw [run_callFunc_extern Tryz.func224 (by kernel_rfl) (by kernel_rfl) (by kernel_rfl) (e := Extern.BytealgCount.count) (by kernel_rfl), Lib.run_countString]
  simp only [Result.andThen]
  rw [Oper.upon_value]
  go_wp2
  go_ret
  exact ⟨rfl, rfl⟩
end Go.Proofs.YtcojkmcnigppbaaGreatDoor
end
section
namespace Go.Proofs.YtcojkmcnigppbaaGreatDoor
open Go Go.Proofs Go.RowKit
def escB (b : UInt8) : List UInt8 := if b = 34 ∨ b = 92 then [92, b] else [b]
def escL (l : List UInt8) : List UInt8 := l.flatMap escB
def cntL (l : List UInt8) : Nat := l.count 92 + l.count 34
theorem escL_length (l : List UInt8) : (escL l).length = l.length + cntL l := by
  induction l with
  | nil => rfl
  | cons b l ih =>
    have h : escL (b :: l) = escB b ++ escL l := rfl
    rw [h, List.length_append, ih]
    simp only [cntL, List.count_cons, List.length_cons]
    by_cases h34 : b = 34
    · subst h34; simp [escB]; omega
    · by_cases h92 : b = 92
      · subst h92; simp [escB]; omega
      · simp [escB, h34, h92]; omega
theorem escL_none (l : List UInt8) (h : cntL l = 0) : escL l = l := by
  induction l with
  | nil => rfl
  | cons b l ih =>
    have e : escL (b :: l) = escB b ++ escL l := rfl
    simp only [cntL, List.count_cons] at h
    have h34 : ¬ b = 34 := fun e => by subst e; simp at h
    have h92 : ¬ b = 92 := fun e => by subst e; simp at h
    rw [e, ih (by simp only [cntL]; omega)]
    simp [escB, h34, h92]
theorem cntL_le (l : List UInt8) : cntL l ≤ l.length := by
  induction l with
  | nil => simp [cntL]
  | cons b l ih =>
    simp only [cntL, List.count_cons, List.length_cons] at ih ⊢
    by_cases h34 : b = 34
    · subst h34; simp; omega
    · by_cases h92 : b = 92
      · subst h92; simp; omega
      · simp [h34, h92]; omega
theorem cntL_take (l : List UInt8) (k : Nat) (h : k < l.length) : cntL (l.take (k + 1)) = cntL (l.take k) + if l[k] = 34 ∨ l[k] = 92 then 1 else 0 := by
  rw [List.take_succ_eq_append_getElem h]
  simp only [cntL, List.count_append, List.count_singleton]
  by_cases h34 : l[k] = 34
  · simp [h34]; try omega
  · by_cases h92 : l[k] = 92
    · simp [h92]; omega
    · simp [h34, h92]
theorem escL_take (l : List UInt8) (k : Nat) (h : k < l.length) : escL (l.take (k + 1)) = escL (l.take k) ++ escB l[k] := by
  unfold escL
  rw [List.take_succ_eq_append_getElem h, List.flatMap_append]
  simp
def putV (a3 d3 a9 d9 : Nat) (b : UInt8) : Value := if b = 34 then .slice (some ⟨a3, 0, none⟩) 2 d3 else if b = 92 then .slice (some ⟨a9, 0, none⟩) 2 d9 else .slice none 0 0
def bufC (l : List UInt8) (n : Nat) : Array Value := (Lib.byteCells (l ++ List.replicate (n - l.length) 0)).toArray
theorem escL_take_le (l : List UInt8) (k : Nat) : (escL (l.take k)).length ≤ (escL l).length := by
  have h : escL l = escL (l.take k) ++ escL (l.drop k) := by
    unfold escL
    rw [← List.flatMap_append, List.take_append_drop]
  rw [h, List.length_append]; omega
theorem bufC_zero (n : Nat) : madeCells #[.int .u8 0] n = bufC [] n := by
  rw [← Array.toArray_toList (xs := madeCells #[.int .u8 0] n), toList_madeCells_one]
  simp [bufC, Lib.byteCells]
theorem bufC_two (l : List UInt8) (n : Nat) (x y : UInt8) (h : l.length + 2 ≤ n) : ((bufC l n).toList.take l.length ++ [Value.int .u8 x.toNat, .int .u8 y.toNat] ++ (bufC l n).toList.drop (l.length + 2)).toArray = bufC (l ++ [x, y]) n := by
  obtain ⟨m, rfl⟩ : ∃ m, n = l.length + 2 + m := ⟨n - (l.length + 2), by omega⟩
  have e1 : l.length + 2 + m - l.length = m + 1 + 1 := by omega
  have e2 : l.length + 2 + m - (l ++ [x, y]).length = m := by simp
  unfold bufC
  rw [e1, e2]
  simp only [Lib.byteCells, List.map_append, List.replicate_succ, List.map_cons, List.map_nil]
  congr 1
  have hl : l.length = (l.map fun b : UInt8 => Value.int .u8 (b.toNat : Int)).length := by simp
  rw [List.take_left' hl.symm, hl, List.drop_append, List.drop_eq_nil_of_le (by omega)]
  simp
theorem bufC_one (l : List UInt8) (n : Nat) (x : UInt8) (h : l.length + 1 ≤ n) : (bufC l n).setIfInBounds l.length (.int .u8 x.toNat) = bufC (l ++ [x]) n := by
  obtain ⟨m, rfl⟩ : ∃ m, n = l.length + 1 + m := ⟨n - (l.length + 1), by omega⟩
  have e1 : l.length + 1 + m - l.length = m + 1 := by omega
  have e2 : l.length + 1 + m - (l ++ [x]).length = m := by simp
  unfold bufC
  rw [e1, e2]
  simp only [Lib.byteCells, List.map_append, List.replicate_succ, List.map_cons, List.map_nil]
  rw [List.setIfInBounds_toArray]
  congr 1
  rw [List.set_append_right _ _ (by simp)]
  simp
theorem bufC_full (l : List UInt8) : bufC l l.length = (Lib.byteCells l).toArray := by simp [bufC]
theorem bufC_size (l : List UInt8) (n : Nat) (h : l.length ≤ n) : (bufC l n).size = n := by simp [bufC, Lib.byteCells_length]; omega
theorem step_copy_row {P : Program} {ops : Array Oper} {o : Oper} {a : Act} {w : World} {K : Act → World → Prop} {Q : Exit → Act → World → Prop} {E : Prop} (hgd : o.guard = none) (d s : Operand) (dT sT : TypeId)
    (ho : o.op = .call { callee := .builtin .copy, args := #[d, s], argTypes := #[dT, sT] }) (elem : TypeId) (hu : P.underlying dT = some (.slice elem)) (hsz : (P.info? elem).map (·.size) = some 1)
    (g off dLen dCap : Nat) (ad : Addr) (sLen sCap : Nat) (hd : a.eval d = .slice (some ⟨g, off, none⟩) dLen dCap) (hs : a.eval s = .slice (some ad) sLen sCap)
    (cur new : Array Value) (t : TypeId) (hg : w.heap[g]? = some (.cells cur t (0, 0))) (cs : List Value) (hn : cs.length = Nat.min sLen dLen) (hsrc : ∀ j v, cs[j]? = some v → w.cell? (ad.add j) = some v)
    (hfit : off + cs.length ≤ cur.size) (h1 : ∀ v ∈ cs, v.oneCell' = true) (hnew : (cur.toList.take off ++ cs ++ cur.toList.drop (off + cs.length)).toArray = new)
    (h : K (a.put o.dst (goInt cs.length)) (w.setRow g new)) :
    if Region.wanted o (yielded ops a.tmps) = true then Oper.wp P o a w K Q else E := by
  have hw : Region.wanted o (yielded ops a.tmps) = true := by simp [Region.wanted, hgd]
  rw [if_pos hw]
  have hrun := run_copy_row (P := P) w dT sT o.type elem g off dLen dCap ad sLen sCap cur t cs hu hsz hg hn hsrc hfit h1
  rw [hnew] at hrun
  unfold Oper.wp
  simp [execOp, ho, resolve, invoke, builtin, hd, hs, hrun, Result.andThen]
  exact h
set_option maxRecDepth 100000 in
set_option maxHeartbeats 4000000 in
theorem replace_any (B T : Nat) (s : ByteArray) (hs : s.size ≤ 1000000) (w : World) (hT : TabOk B T w) :
    Calls Tryz.prog 220 #[.pointer (some ⟨T, 0, none⟩), .string s] w fun e w' => e = .returned (.string ⟨(escL s.data.toList).toArray⟩) ∧ Below w.heap.size w w' := by
  obtain ⟨cs, g, c, a3, d3, a9, d9, hB, h1, h2, h3, h4, h5, h6, c1, c2, c3, c4, c5, c6⟩ := hT
  have hsl : s.data.toList.length = s.size := by simp
  have t256 : w.cell? ⟨T, 256, none⟩ = some (.slice (some ⟨g, 0, none⟩) 2 c) := (Lib.cell_of_heap h1 256).trans h4
  have tq : Hid (∀ b : UInt8, w.cell? ⟨T, b.toNat, none⟩ = some (putV a3 d3 a9 d9 b)) := hid fun b => (Lib.cell_of_heap h1 b.toNat).trans (by
    have hb := b.toNat_lt
    unfold putV
    by_cases h34 : b = 34
    · subst h34; simpa using h5
    · by_cases h92 : b = 92
      · subst h92; simpa using h6
      · have e1 : b.toNat ≠ 34 := fun e => h34 (UInt8.toNat_inj.1 e)
        have e2 : b.toNat ≠ 92 := fun e => h92 (UInt8.toNat_inj.1 e)
        rw [h3 b.toNat (by omega) e1 e2, if_neg h34, if_neg h92])
  have q34 : w.cell? ⟨T, 34, none⟩ = some (.slice (some ⟨a3, 0, none⟩) 2 d3) := (Lib.cell_of_heap h1 34).trans h5
  have q92 : w.cell? ⟨T, 92, none⟩ = some (.slice (some ⟨a9, 0, none⟩) 2 d9) := (Lib.cell_of_heap h1 92).trans h6
  have H1 := hid h1
  have H3 := hid (⟨c3, c4, c5, c6⟩ : _ ∧ _ ∧ _ ∧ _)
  have HSL := hid hsl
  clear h1 h3 h4 h5 h6 c3 c4 c5 c6 hsl h2
  have ix92 : ∀ h, ((⟨#[92]⟩ : ByteArray)[0]'h).toNat = 92 := fun _ => rfl
  have ix34 : ∀ h, ((⟨#[34]⟩ : ByteArray)[0]'h).toNat = 34 := fun _ => rfl
  obtain ⟨N, hN⟩ : ∃ N, Hid (cntL s.data.toList = N) := ⟨_, hid rfl⟩
  go_enter Tryz.func220, Tryz.ntmps220
  go_upto_if 26 with fail
  go_cut [5, 6] from 8 to 80 (fun v5 v6 wx => v5 = .int .i64 ((s.size + N : Nat) : Int) ∧ v6 = .bool (decide (0 < N)) ∧ Below w.heap.size w wx)
  case first =>
    by_cases h16 : 16 ≤ s.size
    · obtain ⟨n92, hn92⟩ : ∃ n, s.data.toList.count 92 = n := ⟨_, rfl⟩
      obtain ⟨n34, hn34⟩ : ∃ n, s.data.toList.count 34 = n := ⟨_, rfl⟩
      have hc : cntL s.data.toList = n92 + n34 := by unfold cntL; rw [hn92, hn34]
      have hle := cntL_le s.data.toList
      have hsl := HSL.out
      rw [hsl, hc] at hle
      have C92 : Hid (∀ w, Calls Tryz.prog 222 #[.string s, .string ⟨#[92]⟩] w fun e w' => e = .returned (.int .i64 (n92 : Nat)) ∧ w' = w) := hid fun w => hn92 ▸ count_one s 92 w
      have C34 : Hid (∀ w, Calls Tryz.prog 222 #[.string s, .string ⟨#[34]⟩] w fun e w' => e = .returned (.int .i64 (n34 : Nat)) ∧ w' = w) := hid fun w => hn34 ▸ count_one s 34 w
      have hNN : N = n92 + n34 := hN.out.symm.trans hc
      clear hc hn92 hn34 hsl
      have h16' : (16 : Int) ≤ (s.size : Int) := by omega
      go_wp2_with fail
      refine wp_loop_rounds 3 ?_
      rw [rounds_succ]
      by_cases h92 : n92 = 0
      · subst h92
        go_wp2_with (go_at_call 222; refine (C92.out _).mono ?_; rintro e w' ⟨rfl, rfl⟩)
        rw [rounds_succ]
        by_cases h34 : n34 = 0
        · subst h34
          go_wp2_with (go_at_call 222; refine (C34.out _).mono ?_; rintro e w' ⟨rfl, rfl⟩)
          rw [rounds_succ]
          go_wp2_with fail
          go_meet
          exact ⟨by congr 1; omega, by rw [decide_eq_false (by omega)], Below.refl _ _⟩
        · have h34' : ¬ (n34 : Int) = 0 := by omega
          go_wp2_with (go_at_call 222; refine (C34.out _).mono ?_; rintro e w' ⟨rfl, rfl⟩)
          go_quiet (fail)
          go_wp2_with fail
          rw [rounds_succ]
          go_wp2_with fail
          go_meet
          exact ⟨by congr 1; omega, by rw [decide_eq_true (by omega)], ⟨rfl, rfl, rfl, Nat.le_refl _, fun _ _ => rfl⟩⟩
      · have h92' : ¬ (n92 : Int) = 0 := by omega
        go_wp2_with (go_at_call 222; refine (C92.out _).mono ?_; rintro e w' ⟨rfl, rfl⟩)
        go_quiet (fail)
        go_wp2_with fail
        rw [rounds_succ]
        by_cases h34 : n34 = 0
        · subst h34
          go_wp2_with (go_at_call 222; refine (C34.out _).mono ?_; rintro e w' ⟨rfl, rfl⟩)
          rw [rounds_succ]
          go_wp2_with fail
          go_meet
          exact ⟨by congr 1; omega, by rw [decide_eq_true (by omega)], ⟨rfl, rfl, rfl, Nat.le_refl _, fun _ _ => rfl⟩⟩
        · have h34' : ¬ (n34 : Int) = 0 := by omega
          go_wp2_with (go_at_call 222; refine (C34.out _).mono ?_; rintro e w' ⟨rfl, rfl⟩)
          go_quiet (fail)
          go_wp2_with fail
          rw [rounds_succ]
          go_wp2_with fail
          go_meet
          exact ⟨by congr 1; omega, by rw [decide_eq_true (by omega)], ⟨rfl, rfl, rfl, Nat.le_refl _, fun _ _ => rfl⟩⟩
    · have h16' : ¬ (16 : Int) ≤ (s.size : Int) := by omega
      have hnn : ∀ W, (binOp .neq 22 (.slice none 0 0) (.slice none 0 0)).run Tryz.prog W = .ok (.bool false) W := fun W => by kernel_rfl
      have hn3 : ∀ W, (binOp .neq 22 (.slice (some ⟨a3, 0, none⟩) 2 d3) (.slice none 0 0)).run Tryz.prog W = .ok (.bool true) W := fun W => by kernel_rfl
      have hn9 : ∀ W, (binOp .neq 22 (.slice (some ⟨a9, 0, none⟩) 2 d9) (.slice none 0 0)).run Tryz.prog W = .ok (.bool true) W := fun W => by kernel_rfl
      go_wp2_with fail
      go_loopw [5, 6, 10, 11] (fun v5 v6 v10 v11 wr => ∃ k n : Nat, k ≤ s.size ∧ v10 = .int .i64 k ∧ v5 = .int .i64 ((s.size + n : Nat) : Int) ∧ v6 = .bool (decide (0 < n)) ∧ n ≤ k ∧ wr = w ∧ Hid (n = cntL (s.data.toList.take k))) (fun _ _ v10 _ _ => s.size - (intOf v10).toNat)
      case atStart => exact ⟨0, 0, Nat.zero_le _, rfl, rfl, rfl, Nat.le_refl _, rfl, hid rfl⟩
      case round =>
        obtain ⟨k, n, hk, rfl, rfl, rfl, hnk, rfl, hn⟩ := hrel
        by_cases hlt : k < s.size
        · have hlt' : (k : Int) < s.size := by omega
          have hkl : k < s.data.toList.length := by rw [HSL.out]; exact hlt
          have hct := cntL_take s.data.toList k hkl
          rw [← hn.out] at hct
          obtain ⟨x, hsx⟩ : ∃ x, s[k]'hlt = x := ⟨_, rfl⟩
          have hsx' : s.data.toList[k] = x := by rw [← hsx]; simp [ByteArray.getElem_eq_getElem_data]
          rw [hsx'] at hct
          have HCT := hid hct
          have hq := tq.out x
          have hx1 := x.toNat_lt
          have hx2 : (x.toNat : Int) < 256 := by omega
          clear hct hsx' hkl
          by_cases h34 : x = 34
          · subst h34
            have HC := HCT.out
            rw [if_pos (by decide)] at HC
            have HCC := hid HC
            clear HC hq HCT
            go_wp2_with fail
            exact ⟨⟨k + 1, n + 1, by omega, by first | rfl | (congr 1; omega), by first | rfl | (congr 1; omega), by rw [decide_eq_true (by omega)], by omega, trivial, hid HCC.out.symm⟩, by simp [intOf]; omega⟩
          · by_cases h92 : x = 92
            · subst h92
              have HC := HCT.out
              rw [if_pos (by decide)] at HC
              have HCC := hid HC
              clear HC hq HCT
              go_wp2_with fail
              exact ⟨⟨k + 1, n + 1, by omega, by first | rfl | (congr 1; omega), by first | rfl | (congr 1; omega), by rw [decide_eq_true (by omega)], by omega, trivial, hid HCC.out.symm⟩, by simp [intOf]; omega⟩
            · have HC := HCT.out
              rw [if_neg (by rintro (h | h) <;> contradiction)] at HC
              have HCC := hid HC
              have hq' : wr.cell? ⟨T, x.toNat, none⟩ = some (.slice none 0 0) := by rw [hq, putV, if_neg h34, if_neg h92]
              clear HC hq HCT h34 h92
              go_wp2_with fail
              exact ⟨⟨k + 1, n, by omega, by first | rfl | (congr 1; omega), by first | rfl | (congr 1; omega), rfl, by omega, trivial, hid HCC.out.symm⟩, by simp [intOf]; omega⟩
        · have hlt' : ¬ (k : Int) < s.size := by omega
          have hnN : n = N := by
            have h := hn.out
            rw [List.take_of_length_le (by rw [HSL.out]; omega), hN.out] at h
            exact h
          subst hnN
          go_wp2_with fail
          go_meet
          exact ⟨by first | rfl | (congr 1; omega), rfl, Below.refl _ _⟩
  case rest =>
    obtain ⟨rfl, rfl, hbc⟩ := hcut
    have HBC := hid hbc
    clear hbc
    by_cases h0 : N = 0
    · subst h0
      go_wp2_with fail
      go_ret
      exact ⟨by rw [escL_none _ hN.out]; rfl, HBC.out⟩
    · have h0' : decide (0 < N) = true := by simp; omega
      rw [h0']
      have hle := cntL_le s.data.toList
      rw [hN.out, HSL.out] at hle
      have hmk : (Instr.makeSlice 22 (.int .i64 ((s.size : Int) + (N : Int))) (.int .i64 ((s.size : Int) + (N : Int)))).run Tryz.prog wc = .ok (.slice (some ⟨wc.heap.size, 0, none⟩) (s.size + N) (s.size + N)) (wc.alloc (.cells (bufC [] (s.size + N)) 5)) := by
        have := run_make_row' (P := Tryz.prog) 22 5 (.int .u8 0) 1 Tryz.underlying22 infoByte rfl .i64 .i64 (s.size + N) (by omega) (by omega) wc
        rw [bufC_zero] at this
        exact this
      have hb0 : Hid (Below wc.heap.size wc (wc.alloc (.cells (bufC [] (s.size + N)) 5))) := hid ((Below.refl _ _).alloc (Nat.le_refl _) _)
      have hg0 : Hid ((wc.alloc (.cells (bufC [] (s.size + N)) 5)).heap[wc.heap.size]? = some (.cells (bufC [] (s.size + N)) 5 (0, 0))) := hid (heap_alloc_new _ _)
      have hTl := hid (lt_of_heap H1.out)
      have hws := hid HBC.out.size
      go_wp2_with fail
      generalize (wc.alloc (.cells (bufC [] (s.size + N)) 5)) = W0 at *
      have hnn : ∀ W, (binOp .neq 22 (.slice none 0 0) (.slice none 0 0)).run Tryz.prog W = .ok (.bool false) W := fun W => by kernel_rfl
      have hn3 : ∀ W, (binOp .neq 22 (.slice (some ⟨a3, 0, none⟩) 2 d3) (.slice none 0 0)).run Tryz.prog W = .ok (.bool true) W := fun W => by kernel_rfl
      have hn9 : ∀ W, (binOp .neq 22 (.slice (some ⟨a9, 0, none⟩) 2 d9) (.slice none 0 0)).run Tryz.prog W = .ok (.bool true) W := fun W => by kernel_rfl
      go_loopw [13, 14, 15] (fun v13 v14 v15 wr => ∃ k n : Nat, k ≤ s.size ∧ v14 = .int .i64 k ∧ v13 = .int .i64 (n : Int) ∧ n ≤ s.size + N ∧ Hid (n = (escL (s.data.toList.take k)).length) ∧ Hid (wr.heap[wc.heap.size]? = some (.cells (bufC (escL (s.data.toList.take k)) (s.size + N)) 5 (0, 0))) ∧ Hid (Below wc.heap.size wc wr)) (fun _ v14 _ _ => s.size - (intOf v14).toNat)
      case atStart => exact ⟨0, 0, Nat.zero_le _, rfl, rfl, by omega, hid rfl, hid hg0.out, hid hb0.out⟩
      case round =>
        obtain ⟨k, n, hk, rfl, rfl, hnk, hn, hbuf, hbw⟩ := hrel
        clear hg0 hb0 hmk
        by_cases hlt : k < s.size
        · have hlt' : (k : Int) < s.size := by omega
          obtain ⟨x, hsx⟩ : ∃ x, s[k]'hlt = x := ⟨_, rfl⟩
          have hx1 := x.toNat_lt
          have hx2 : (x.toNat : Int) < 256 := by omega
          by_cases h34 : x = 34
          · subst h34
            have q34' := (hbw.out.cell (p := ⟨T, 34, none⟩) (show T < _ by have := hTl.out; have := hws.out; omega)).trans ((HBC.out.cell (p := ⟨T, 34, none⟩) hTl.out).trans q34)
            have hfit : n + 2 ≤ s.size + N := by
              have h1 := escL_take_le s.data.toList (k + 1)
              have e2 := HSL.out
              have e3 := hN.out
              have e4 := hn.out
              have hkl : k < s.data.toList.length := by omega
              rw [escL_take _ k hkl, List.length_append, escL_length s.data.toList] at h1
              have e : s.data.toList[k] = 34 := by rw [← hsx]; simp [ByteArray.getElem_eq_getElem_data]
              rw [e] at h1
              have e5 : (escB 34).length = 2 := rfl
              omega
            have hq1 : (n : Int) ≤ (s.size : Int) + N := by omega
            have hq2 : ¬ (s.size + N = n) := by omega
            have hq3 : IntKind.i64.wrap ((n : Int) + 2) = (n : Int) + 2 := IntWalk.i64_in _ (by omega)
            have HC : Hid (∀ (j : Nat) (v : Value), [Value.int .u8 92, Value.int .u8 34][j]? = some v → wr.cell? ((⟨a3, 0, none⟩ : Addr).add j) = some v) := hid fun j v hj => by
              have e0 : w.cell? ⟨a3, 0, none⟩ = some (.int .u8 92) := H3.out.1
              have e1 : w.cell? ⟨a3, 1, none⟩ = some (.int .u8 34) := H3.out.2.1
              have hl := World.block_lt_of_cell? _ _ e0
              have keep (p : Addr) (hp : p.block = a3) : wr.cell? p = w.cell? p := (hbw.out.cell (p := p) (by rw [hp]; have := hws.out; exact Nat.lt_of_lt_of_le hl this)).trans (HBC.out.cell (p := p) (by rw [hp]; exact hl))
              match j, hj with
              | 0, hj => simp at hj; subst hj; exact (keep ⟨a3, 0, none⟩ rfl).trans e0
              | 1, hj => simp at hj; subst hj; exact (keep ⟨a3, 1, none⟩ rfl).trans e1
            have HF := hid hfit
            clear hfit
            go_wp2_with fail
            go_region_law (refine step_copy_row rfl (.tmp 105) (.tmp 111) 22 22 rfl 5 Tryz.underlying22 (by kernel_rfl) wc.heap.size n (s.size + N - n) (s.size + N - n) ⟨a3, 0, none⟩ 2 d3 rfl rfl (bufC (escL (s.data.toList.take k)) (s.size + N)) (bufC (escL (s.data.toList.take k) ++ [92, 34]) (s.size + N)) 5 hbuf.out [.int .u8 92, .int .u8 34] (Nat.min_eq_left (show 2 ≤ s.size + N - n by have := HF.out; omega)).symm HC.out (by rw [bufC_size _ _ (by have := HF.out; have := hn.out; omega)]; exact HF.out) (fun v hv => by simp at hv; rcases hv with rfl | rfl <;> rfl) (by have e := hn.out; subst e; exact bufC_two _ _ 92 34 HF.out) ?_)
            have hbuf' : Hid ((wr.drew.setRow wc.heap.size (bufC (escL (s.data.toList.take k) ++ [92, 34]) (s.size + N))).heap[wc.heap.size]? = some (.cells (bufC (escL (s.data.toList.take k) ++ [92, 34]) (s.size + N)) 5 (0, 0))) := hid (setRow_heap _ _ (bufC (escL (s.data.toList.take k)) (s.size + N)) _ _ (0, 0) hbuf.out)
            have hbw' : Hid (Below wc.heap.size wc (wr.drew.setRow wc.heap.size (bufC (escL (s.data.toList.take k) ++ [92, 34]) (s.size + N)))) := hid ⟨hbw.out.os, hbw.out.tape, hbw.out.output, by simp; exact hbw.out.size, fun b hb => (setRow_other _ _ _ _ (by omega)).trans (hbw.out.block b hb)⟩
            clear HC
            go_wp2_with fail
            go_roundw
            case measure => simp [intOf]; omega
            case rel =>
              have hkl : k < s.data.toList.length := by rw [HSL.out]; exact hlt
              have hx : s.data.toList[k] = 34 := by rw [← hsx]; simp [ByteArray.getElem_eq_getElem_data]
              have ht : escL (s.data.toList.take (k + 1)) = escL (s.data.toList.take k) ++ [92, 34] := by rw [escL_take _ k hkl, hx]; rfl
              (repeat apply Exists.intro)
              exact ⟨⟨k + 1, n + 2, by omega, by first | rfl | (congr 1; omega), by first | rfl | (congr 1; omega), by have := HF.out; omega, hid (by rw [ht, List.length_append, ← hn.out]; rfl), hid (by rw [ht]; exact hbuf'.out), hbw'⟩, rfl⟩
          · by_cases h92 : x = 92
            · subst h92
              have q92' := (hbw.out.cell (p := ⟨T, 92, none⟩) (show T < _ by have := hTl.out; have := hws.out; omega)).trans ((HBC.out.cell (p := ⟨T, 92, none⟩) hTl.out).trans q92)
              have hfit : n + 2 ≤ s.size + N := by
                have h1 := escL_take_le s.data.toList (k + 1)
                have e2 := HSL.out
                have e3 := hN.out
                have e4 := hn.out
                have hkl : k < s.data.toList.length := by omega
                rw [escL_take _ k hkl, List.length_append, escL_length s.data.toList] at h1
                have e : s.data.toList[k] = 92 := by rw [← hsx]; simp [ByteArray.getElem_eq_getElem_data]
                rw [e] at h1
                have e5 : (escB 92).length = 2 := rfl
                omega
              have hq1 : (n : Int) ≤ (s.size : Int) + N := by omega
              have hq2 : ¬ (s.size + N = n) := by omega
              have hq3 : IntKind.i64.wrap ((n : Int) + 2) = (n : Int) + 2 := IntWalk.i64_in _ (by omega)
              have HC : Hid (∀ (j : Nat) (v : Value), [Value.int .u8 92, Value.int .u8 92][j]? = some v → wr.cell? ((⟨a9, 0, none⟩ : Addr).add j) = some v) := hid fun j v hj => by
                have e0 : w.cell? ⟨a9, 0, none⟩ = some (.int .u8 92) := H3.out.2.2.1
                have e1 : w.cell? ⟨a9, 1, none⟩ = some (.int .u8 92) := H3.out.2.2.2
                have hl := World.block_lt_of_cell? _ _ e0
                have keep (p : Addr) (hp : p.block = a9) : wr.cell? p = w.cell? p := (hbw.out.cell (p := p) (by rw [hp]; have := hws.out; exact Nat.lt_of_lt_of_le hl this)).trans (HBC.out.cell (p := p) (by rw [hp]; exact hl))
                match j, hj with
                | 0, hj => simp at hj; subst hj; exact (keep ⟨a9, 0, none⟩ rfl).trans e0
                | 1, hj => simp at hj; subst hj; exact (keep ⟨a9, 1, none⟩ rfl).trans e1
              have HF := hid hfit
              clear hfit
              go_wp2_with fail
              go_region_law (refine step_copy_row rfl (.tmp 105) (.tmp 111) 22 22 rfl 5 Tryz.underlying22 (by kernel_rfl) wc.heap.size n (s.size + N - n) (s.size + N - n) ⟨a9, 0, none⟩ 2 d9 rfl rfl (bufC (escL (s.data.toList.take k)) (s.size + N)) (bufC (escL (s.data.toList.take k) ++ [92, 92]) (s.size + N)) 5 hbuf.out [.int .u8 92, .int .u8 92] (Nat.min_eq_left (show 2 ≤ s.size + N - n by have := HF.out; omega)).symm HC.out (by rw [bufC_size _ _ (by have := HF.out; have := hn.out; omega)]; exact HF.out) (fun v hv => by simp at hv; rcases hv with rfl | rfl <;> rfl) (by have e := hn.out; subst e; exact bufC_two _ _ 92 92 HF.out) ?_)
              have hbuf' : Hid ((wr.drew.setRow wc.heap.size (bufC (escL (s.data.toList.take k) ++ [92, 92]) (s.size + N))).heap[wc.heap.size]? = some (.cells (bufC (escL (s.data.toList.take k) ++ [92, 92]) (s.size + N)) 5 (0, 0))) := hid (setRow_heap _ _ (bufC (escL (s.data.toList.take k)) (s.size + N)) _ _ (0, 0) hbuf.out)
              have hbw' : Hid (Below wc.heap.size wc (wr.drew.setRow wc.heap.size (bufC (escL (s.data.toList.take k) ++ [92, 92]) (s.size + N)))) := hid ⟨hbw.out.os, hbw.out.tape, hbw.out.output, by simp; exact hbw.out.size, fun b hb => (setRow_other _ _ _ _ (by omega)).trans (hbw.out.block b hb)⟩
              clear HC
              go_wp2_with fail
              go_roundw
              case measure => simp [intOf]; omega
              case rel =>
                have hkl : k < s.data.toList.length := by rw [HSL.out]; exact hlt
                have hx : s.data.toList[k] = 92 := by rw [← hsx]; simp [ByteArray.getElem_eq_getElem_data]
                have ht : escL (s.data.toList.take (k + 1)) = escL (s.data.toList.take k) ++ [92, 92] := by rw [escL_take _ k hkl, hx]; rfl
                (repeat apply Exists.intro)
                exact ⟨⟨k + 1, n + 2, by omega, by first | rfl | (congr 1; omega), by first | rfl | (congr 1; omega), by have := HF.out; omega, hid (by rw [ht, List.length_append, ← hn.out]; rfl), hid (by rw [ht]; exact hbuf'.out), hbw'⟩, rfl⟩
            · skip
              have hq' : w.cell? ⟨T, x.toNat, none⟩ = some (.slice none 0 0) := by rw [tq.out x, putV, if_neg h34, if_neg h92]
              have hq := (hbw.out.cell (p := ⟨T, x.toNat, none⟩) (show T < _ by have := hTl.out; have := hws.out; omega)).trans ((HBC.out.cell (p := ⟨T, x.toNat, none⟩) hTl.out).trans hq')
              have hfit : n + 1 ≤ s.size + N := by
                have h1 := escL_take_le s.data.toList (k + 1)
                have e2 := HSL.out
                have e3 := hN.out
                have e4 := hn.out
                have hkl : k < s.data.toList.length := by omega
                rw [escL_take _ k hkl, List.length_append, escL_length s.data.toList] at h1
                have e : s.data.toList[k] = x := by rw [← hsx]; simp [ByteArray.getElem_eq_getElem_data]
                rw [e] at h1
                have e5 : (escB x).length = 1 := by simp [escB, h34, h92]
                omega
              have hfit' : (n : Int) < (s.size : Int) + N := by omega
              have hq3 : IntKind.i64.wrap ((n : Int) + 1) = (n : Int) + 1 := IntWalk.i64_in _ (by omega)
              have HF := hid hfit
              have HE : Hid (escB x = [x]) := hid (by simp [escB, h34, h92])
              clear hfit hq' h34 h92
              go_wp2_with (refine wpList_cell_to rfl 5 (.tmp 117) (.tmp 116) rfl rfl wc.heap.size n (.int .u8 x.toNat) rfl rfl rfl (by kernel_rfl) 5 (bufC (escL (s.data.toList.take k)) (s.size + N)) hbuf.out (by rw [bufC_size _ _ (by have := HF.out; have := hn.out; omega)]; exact HF.out) ?_)
              intro W2 hW2 hg2
              have hbuf' : Hid (W2.heap[wc.heap.size]? = some (.cells (bufC (escL (s.data.toList.take k) ++ [x]) (s.size + N)) 5 (0, 0))) := hid (by have e := hn.out; subst e; rw [bufC_one _ _ x HF.out] at hW2; exact hW2)
              have hbw' : Hid (Below wc.heap.size wc W2) := hid (Below.grown hbw.out hg2 hbw.out.size (fun k hk => by injection hk with hk; omega))
              clear hW2 hg2
              go_wp2_with fail
              go_roundw
              case measure => simp [intOf]; omega
              case rel =>
                have hkl : k < s.data.toList.length := by rw [HSL.out]; exact hlt
                have hx : s.data.toList[k] = x := by rw [← hsx]; simp [ByteArray.getElem_eq_getElem_data]
                have ht : escL (s.data.toList.take (k + 1)) = escL (s.data.toList.take k) ++ [x] := by rw [escL_take _ k hkl, hx, HE.out]
                exact ⟨k + 1, n + 1, by omega, by first | rfl | (congr 1; omega), by first | rfl | (congr 1; omega), by have := HF.out; omega, hid (by rw [ht, List.length_append, ← hn.out]; rfl), hid (by rw [ht]; exact hbuf'.out), hbw'⟩
        · have hkk : k = s.size := by omega
          subst hkk
          have hlt' : ¬ (s.size : Int) < s.size := by omega
          have htk : s.data.toList.take s.size = s.data.toList := List.take_of_length_le (by rw [HSL.out]; omega)
          have hb := hbuf.out
          rw [htk] at hb
          have hel := escL_length s.data.toList
          rw [hN.out, HSL.out] at hel
          have hback : (convert 22 9 (.slice (some ⟨wc.heap.size, 0, none⟩) (s.size + N) (s.size + N))).run Tryz.prog wr = .ok (.string ⟨(escL s.data.toList).toArray⟩) wr := by
            refine run_back (B := wc.heap.size + 1) ⟨by rw [Lib.byteCells_length]; omega, fun _ => ⟨_, rfl, by simp, fun j u hj => ?_⟩⟩
            rw [← hel, bufC_full] at hb
            rw [Addr.add_lit, Nat.zero_add]
            exact (Lib.cell_of_heap hb j).trans (by simpa using hj)
          have HB := hid hb
          clear hb htk
          go_wp2_with fail
          go_ret
          exact ⟨rfl, HBC.out.trans (hbw.out.mono HBC.out.size)⟩
end Go.Proofs.YtcojkmcnigppbaaGreatDoor
end
section
namespace Go.Proofs.YtcojkmcnigppbaaGreatDoor
open Go Go.Proofs Go.RowKit
set_option maxRecDepth 100000 in
set_option maxHeartbeats 1600000 in
theorem newReplacer_any (ad : Addr) (cA : Nat) (w : World) (s0 : w.cell? (ad.add 0) = some (.string ⟨#[34]⟩)) (s1 : w.cell? (ad.add 1) = some (.string ⟨#[92, 34]⟩)) (s2 : w.cell? (ad.add 2) = some (.string ⟨#[92]⟩)) (s3 : w.cell? (ad.add 3) = some (.string ⟨#[92, 92]⟩)) :
    Calls Tryz.prog 104 #[.slice (some ad) 4 cA] w fun e w' => ∃ R g c x2, e = .returned (.pointer (some ⟨R, 0, none⟩)) ∧ w'.heap[R]? = some (.cells #[.int .u32 0, .int .i32 0, x2, .nilIface, .slice (some ⟨g, 0, none⟩) 4 c] 160 (0, 0)) ∧
      w'.cell? ⟨g, 0, none⟩ = some (.string ⟨#[34]⟩) ∧ w'.cell? ⟨g, 1, none⟩ = some (.string ⟨#[92, 34]⟩) ∧ w'.cell? ⟨g, 2, none⟩ = some (.string ⟨#[92]⟩) ∧ w'.cell? ⟨g, 3, none⟩ = some (.string ⟨#[92, 92]⟩) ∧ g ≠ R ∧ w.heap.size ≤ R ∧ Below w.heap.size w w' := by
  obtain ⟨i0, hi, hz0, hz1, hz2⟩ := info_str
  have hr : Hid (Reads w (ad.block + 1) 1 (some ad) 4 [.string ⟨#[34]⟩, .string ⟨#[92, 34]⟩, .string ⟨#[92]⟩, .string ⟨#[92, 92]⟩]) := hid ⟨rfl, fun _ => ⟨ad, rfl, by omega, fun j u hj => by
    match j, hj with
    | 0, hj => simp at hj; subst hj; exact s0
    | 1, hj => simp at hj; subst hj; exact s1
    | 2, hj => simp at hj; subst hj; exact s2
    | 3, hj => simp at hj; subst hj; exact s3⟩⟩
  clear s0 s1 s2 s3
  go_enter Tryz.func104, Tryz.ntmps104
  go_wp2_with (at_builtin; refine wpList_append_any _ rfl (.const (.slice none 0 0)) (.tmp 8) 69 rfl w.heap.size 9 i0 (.string ⟨#[]⟩) 1 16 Tryz.underlying69 hi hz0 hz1 hz2 rfl (by decide) (.slice none 0 0) 0 [] rfl ⟨rfl, .inl ⟨rfl, rfl⟩⟩ _ (some ad) 4 cA _ rfl hr.out (fun u hu => by simp at hu; rcases hu with rfl | rfl | rfl | rfl <;> rfl) (by unfold maxLen; omega) (by omega) (Nat.le_refl _) ?_)
  intro v1 w1 ho hg hor
  obtain ⟨g, c, rfl, hgB, hlt⟩ := ho.form (by omega)
  have hcell := ho.cells (g := g) rfl
  have k0 := hcell 0 _ rfl
  have k1 := hcell 1 _ rfl
  have k2 := hcell 2 _ rfl
  have k3 := hcell 3 _ rfl
  have hB : Hid (Below w.heap.size w w1) := hid ⟨hg.os, hg.tape, hg.output, hg.size, fun k hk => hg.block k hk (by simp [Value.ownBlock])⟩
  clear hcell ho hg hor
  go_wp2_with fail
  go_ret
  have hb1 := (Below.refl w1.heap.size w1).alloc (Nat.le_refl _) (.cells #[.int .u32 0, .int .i32 0, .int .u32 0, .nilIface, .slice (some ⟨g, 0, none⟩) 4 c] 160)
  have hle := hB.out.size
  exact ⟨w1.heap.size, g, c, .int .u32 0, rfl, heap_alloc_new _ _, (hb1.cell (p := ⟨g, 0, none⟩) hlt).trans k0, (hb1.cell (p := ⟨g, 1, none⟩) hlt).trans k1, (hb1.cell (p := ⟨g, 2, none⟩) hlt).trans k2, (hb1.cell (p := ⟨g, 3, none⟩) hlt).trans k3, by omega, hle, hB.out.trans (hb1.mono hle)⟩
set_option maxRecDepth 100000 in
set_option maxHeartbeats 1600000 in
theorem replacer_any (R g c : Nat) (x2 : Value) (s : ByteArray) (hs : s.size ≤ 1000000) (w : World) (hR : w.heap[R]? = some (.cells #[.int .u32 0, .int .i32 0, x2, .nilIface, .slice (some ⟨g, 0, none⟩) 4 c] 160 (0, 0))) (hgR : g ≠ R)
    (s0 : w.cell? ⟨g, 0, none⟩ = some (.string ⟨#[34]⟩)) (s1 : w.cell? ⟨g, 1, none⟩ = some (.string ⟨#[92, 34]⟩)) (s2 : w.cell? ⟨g, 2, none⟩ = some (.string ⟨#[92]⟩)) (s3 : w.cell? ⟨g, 3, none⟩ = some (.string ⟨#[92, 92]⟩)) :
    Calls Tryz.prog 105 #[.pointer (some ⟨R, 0, none⟩), .string s] w fun e w' => e = .returned (.string ⟨(escL s.data.toList).toArray⟩) ∧ Below R w w' := by
  have hRl := lt_of_heap hR
  have hR1 := heap_setCell_same w R 1 _ _ (.int .i32 1) hR
  have far (p : Addr) (hp : p.block = g) : (w.setCell ⟨R, 1, none⟩ (.int .i32 1)).cell? p = w.cell? p := World.cell?_setCell_other _ ⟨R, 1, none⟩ p _ (fun e => hgR (by rw [← hp, ← e]))
  have hbo := buildOnce_any R g c (.int .u32 0) (.int .i32 1) x2 .nilIface (w.setCell ⟨R, 1, none⟩ (.int .i32 1)) hR1 ((far ⟨g, 0, none⟩ rfl).trans s0) ((far ⟨g, 1, none⟩ rfl).trans s1) ((far ⟨g, 2, none⟩ rfl).trans s2) ((far ⟨g, 3, none⟩ rfl).trans s3)
  have hdo := do_first R 0 (.pointer (some ⟨R, 0, none⟩)) (fun W => ∃ T, W.heap[R]? = some (.cells #[.int .u32 0, .int .i32 1, x2, .iface 184 (.pointer (some ⟨T, 0, none⟩)), .slice none 0 0] 160 (0, 0)) ∧ TabOk (w.setCell ⟨R, 1, none⟩ (.int .i32 1)).heap.size T W ∧ (w.setCell ⟨R, 1, none⟩ (.int .i32 1)).grownBy W (some R)) w
    (Lib.cell_of_heap hR 0) (Lib.cell_of_heap hR 1) (frozen_of_row w R 0 _ _ hR) (frozen_of_row w R 1 _ _ hR)
    (hbo.mono fun e w' ⟨he, T, h1, h2, h3⟩ => ⟨he, Lib.cell_of_heap h1 0, frozen_of_row w' R 0 _ _ h1, Lib.cell_of_heap h1 1, frozen_of_row w' R 1 _ _ h1, T, h1, h2, h3⟩)
  have HD := hid hdo
  clear hdo hbo far hR1 hR s0 s1 s2 s3
  go_enter Tryz.func105, Tryz.ntmps105
  go_wp2_with (go_at_call 122; refine HD.out.mono ?_)
  rintro e w' ⟨rfl, W, ⟨T, h1, h2, h3⟩, rfl⟩
  have hw1 : (w.setCell ⟨R, 1, none⟩ (.int .i32 1)).heap.size = w.heap.size := by simp [World.setCell]
  rw [hw1] at h2
  have g1 := grown_setR W.drew R 0 (.int .u32 1)
  have g2 := grown_setR (W.drew.setCell ⟨R, 0, none⟩ (.int .u32 1)) R 1 (.int .i32 0)
  have t1 := heap_setCell_same W.drew R 0 _ _ (.int .u32 1) h1
  have t2 := heap_setCell_same (W.drew.setCell ⟨R, 0, none⟩ (.int .u32 1)) R 1 _ _ (.int .i32 0) t1
  have ht := ((show TabOk w.heap.size T W.drew from h2).grown g1 hRl).grown g2 hRl
  have hb : Hid (Below R w ((W.drew.setCell ⟨R, 0, none⟩ (.int .u32 1)).setCell ⟨R, 0 + 1, none⟩ (.int .i32 0))) := hid (by
    have hk : ∀ k : Nat, some R = some k → R ≤ k := fun k hk => by injection hk with hk; omega
    have hs1 : R ≤ (w.setCell ⟨R, 1, none⟩ (.int .i32 1)).heap.size := by rw [hw1]; omega
    have hs2 : R ≤ W.heap.size := Nat.le_trans hs1 h3.size
    have b1 := Below.grown (Below.refl R w) (grown_setR w R 1 (.int .i32 1)) (by omega) hk
    have b2 := (Below.grown b1 h3 hs1 hk).drew
    have b3 := Below.grown b2 g1 hs2 hk
    exact Below.grown b3 g2 (Nat.le_trans hs2 g1.size) hk)
  generalize ((W.drew.setCell ⟨R, 0, none⟩ (.int .u32 1)).setCell ⟨R, 0 + 1, none⟩ (.int .i32 0)) = W2 at *
  have HT := hid ht
  have t3 : W2.cell? ⟨R, 3, none⟩ = some (.iface 184 (.pointer (some ⟨T, 0, none⟩))) := Lib.cell_of_heap t2 3
  clear g1 g2 t1 t2 ht h1 h2 h3
  have hmt : ∀ W, (method 363 184 (.pointer (some ⟨T, 0, none⟩)) "Replace").run Tryz.prog W = .ok (220, .pointer (some ⟨T, 0, none⟩)) W := fun W => by kernel_rfl
  have HR := hid (replace_any w.heap.size T s hs W2 HT.out)
  go_wp2_with (go_at_call 220; refine HR.out.mono ?_)
  rintro e w' ⟨rfl, hb2⟩
  go_wp2_with fail
  go_ret
  exact ⟨rfl, hb.out.trans (hb2.mono (Nat.le_trans (by omega) hb.out.size))⟩
theorem quote_eq (l : List UInt8) : ((⟨#[34]⟩ : ByteArray) ++ ⟨l.toArray⟩ ++ ⟨#[34]⟩) = ⟨([34] ++ l ++ [34]).toArray⟩ := by
  apply ByteArray.ext
  simp
set_option maxRecDepth 100000 in
set_option maxHeartbeats 1600000 in
theorem quote_any (s : ByteArray) (hs : s.size ≤ 1000000) (w : World) :
    Calls Tryz.prog 75 #[.string s] w fun e w' => e = .returned (.string ⟨([34] ++ escL s.data.toList ++ [34]).toArray⟩) ∧ Below w.heap.size w w' := by
  have hb1 := (Below.refl w.heap.size w).alloc (Nat.le_refl _) (.cells #[.string ⟨#[34]⟩, .string ⟨#[92, 34]⟩, .string ⟨#[92]⟩, .string ⟨#[92, 92]⟩] 9)
  have hn := heap_alloc_new w (.cells #[.string ⟨#[34]⟩, .string ⟨#[92, 34]⟩, .string ⟨#[92]⟩, .string ⟨#[92, 92]⟩] 9)
  have hN := hid (newReplacer_any ⟨w.heap.size, 0, none⟩ 4 _ (Lib.cell_of_heap hn 0) (Lib.cell_of_heap hn 1) (Lib.cell_of_heap hn 2) (Lib.cell_of_heap hn 3))
  have HB := hid hb1
  clear hb1 hn
  go_enter Tryz.func75, Tryz.ntmps75
  go_wp2_with (go_at_call 104; refine hN.out.mono ?_)
  rintro e w1 ⟨R, g, c, x2, rfl, h1, k0, k1, k2, k3, hgR, hR, hb⟩
  have hR2 : w.heap.size ≤ R := Nat.le_trans HB.out.size hR
  have H1 := hid (replacer_any R g c x2 s hs w1 h1 hgR k0 k1 k2 k3)
  have HB1 := hid (HB.out.trans (hb.mono HB.out.size))
  clear h1 k0 k1 k2 k3 hb
  go_wp2_with (go_at_call 105; refine H1.out.mono ?_)
  rintro e w2 ⟨rfl, hb2⟩
  have HB2 := hid (HB1.out.trans (hb2.mono hR2))
  have hle := cntL_le s.data.toList
  have hel := escL_length s.data.toList
  have hsl : s.data.toList.length = s.size := by simp
  have hq1 : ¬ 9223372036854775807 < 1 + (escL s.data.toList).length := by omega
  have hq2 : ¬ 9223372036854775807 < 1 + (escL s.data.toList).length + 1 := by omega
  clear hb2 hle hel hsl
  go_wp2_with fail
  go_ret
  exact ⟨congrArg (fun x => Ending.returned (.string x)) (quote_eq (escL s.data.toList)), HB2.out⟩
end Go.Proofs.YtcojkmcnigppbaaGreatDoor
end
section
namespace Go.Proofs.YtcojkmcnigppbaaGreatDoor
open Go Go.Proofs Go.RowKit
set_option maxHeartbeats 1000000 in
set_option maxRecDepth 100000 in
theorem indexByte_lite (s : ByteArray) (x : UInt8) (w : World) :
    Calls Tryz.prog 110 #[.string s, .int .u8 x.toNat] w fun e w' => e = .returned (.int .i64 (Lib.indexByte s.data.toList x)) ∧ w' = w := by
  go_enter Tryz.func110, Tryz.ntmps110
  go_wp2
  rw [run_callFunc_extern Tryz.func130 (by kernel_rfl) (by kernel_rfl) (by kernel_rfl) (e := Extern.BytealgIndexByte.indexByte) (by kernel_rfl), Lib.run_indexByteString]
  simp only [Result.andThen]
  rw [Oper.upon_value]
  go_wp2
  go_ret
  exact ⟨by simp, rfl⟩
set_option maxHeartbeats 1000000 in
set_option maxRecDepth 100000 in
theorem indexByte_any (s : ByteArray) (x : UInt8) (w : World) :
    Calls Tryz.prog 88 #[.string s, .int .u8 x.toNat] w fun e w' => e = .returned (.int .i64 (Lib.indexByte s.data.toList x)) ∧ w' = w := by
  go_enter Tryz.func88, Tryz.ntmps88
  go_wp2_with (go_at_call 110; refine (indexByte_lite s x w).mono ?_; rintro e w' ⟨rfl, rfl⟩)
  go_ret
  exact ⟨rfl, rfl⟩
def oneB (s : ByteArray) (x : UInt8) : Bool := decide (x ∈ s.data.toList)
theorem found_eq (l : List UInt8) (x : UInt8) : decide (0 ≤ Lib.indexByte l x) = decide (x ∈ l) := by
  induction l with
  | nil => simp [Lib.indexByte]
  | cons b l ih =>
    have hge := Lib.indexByte_ge l x
    unfold Lib.indexByte
    by_cases hb : b = x
    · subst hb; simp
    · have hb' : ¬ x = b := fun e => hb e.symm
      have e1 : (b == x) = false := by simpa using hb
      rw [e1]
      have ih' : (0 ≤ Lib.indexByte l x) ↔ x ∈ l := by simpa using ih
      by_cases hm : Lib.indexByte l x = -1
      · have : ¬ x ∈ l := fun h => by have := ih'.2 h; omega
        simp [hm, this, hb']
      · have e2 : (Lib.indexByte l x == -1) = false := by simpa using hm
        have : x ∈ l := ih'.1 (by omega)
        simp [this, hm]
        omega
set_option maxHeartbeats 1000000 in
set_option maxRecDepth 100000 in
theorem oneOf_any (s : ByteArray) (w : World) :
    Calls Tryz.prog 55 #[.string s] w fun e w' => e = .returned (.func (.func 87) #[] #[.pointer (some ⟨w.heap.size, 0, none⟩)]) ∧ w' = w.alloc (.cells #[.string s] 9) := by
  go_enter Tryz.func55, Tryz.ntmps55
  go_wp2
  go_ret
  exact ⟨rfl, rfl⟩
set_option maxHeartbeats 1000000 in
set_option maxRecDepth 100000 in
theorem oneOf1_any (s : ByteArray) (b : Nat) (x : UInt8) (w : World) (hb : w.cell? ⟨b, 0, none⟩ = some (.string s)) :
    Calls Tryz.prog 87 #[.int .u8 x.toNat, .pointer (some ⟨b, 0, none⟩)] w fun e w' => e = .returned (.bool (oneB s x)) ∧ w' = w := by
  go_enter Tryz.func87, Tryz.ntmps87
  go_wp2_with (go_at_call 88; refine (indexByte_any s x w).mono ?_; rintro e w' ⟨rfl, rfl⟩)
  go_ret
  refine ⟨?_, rfl⟩
  show Ending.returned (.bool (decide (0 ≤ Lib.indexByte s.data.toList x))) = _
  rw [found_eq]
  rfl
def printB (x : UInt8) : Bool := decide (32 ≤ x.toNat) && decide (x.toNat ≤ 126)
set_option maxHeartbeats 1000000 in
set_option maxRecDepth 100000 in
theorem printable_any (x : UInt8) (w : World) :
    Calls Tryz.prog 74 #[.int .u8 x.toNat] w fun e w' => e = .returned (.bool (printB x)) ∧ w' = w := by
  have hx := x.toNat_lt
  go_enter Tryz.func74, Tryz.ntmps74
  by_cases h1 : (32 : Int) ≤ x.toNat
  · by_cases h2 : (x.toNat : Int) ≤ 126
    · go_wp2_with fail
      go_ret
      refine ⟨?_, rfl⟩
      unfold printB
      rw [decide_eq_true (show 32 ≤ x.toNat by omega), decide_eq_true (show x.toNat ≤ 126 by omega)]; rfl
    · go_wp2_with fail
      go_ret
      refine ⟨?_, rfl⟩
      unfold printB
      rw [decide_eq_true (show 32 ≤ x.toNat by omega), decide_eq_false (show ¬ x.toNat ≤ 126 by omega)]; rfl
  · go_wp2_with fail
    go_ret
    refine ⟨?_, rfl⟩
    unfold printB
    rw [decide_eq_false (show ¬ 32 ≤ x.toNat by omega)]; rfl
set_option maxHeartbeats 1000000 in
set_option maxRecDepth 100000 in
theorem every_print (A : Option Addr) (n c : Nat) (l : List UInt8) (w : World) (hr : Reads w w.heap.size 1 A n (Lib.byteCells l)) (hn : n ≤ 1099511627776) :
    Calls Tryz.prog 73 #[.slice A n c, .func (.func 74) #[] #[]] w fun e w' => e = .returned (.bool (l.all printB)) ∧ w' = w := by
  have hl : l.length = n := by have := hr.1; simpa [Lib.byteCells_length] using this
  have H := hid hl; clear hl
  go_enter Tryz.func73, Tryz.ntmps73
  go_wp2_with fail
  go_loopw [6, 9] (fun _ i wr => ∃ k : Nat, k ≤ n ∧ i = .int .i64 k ∧ wr = w ∧ Hid ((l.take k).all printB = true)) (fun _ i _ => n - (intOf i).toNat)
  case atStart => exact ⟨0, Nat.zero_le _, rfl, rfl, hid rfl⟩
  case round =>
    obtain ⟨k, hk, rfl, rfl, ha⟩ := hrel
    by_cases hlt : k < n
    · have hlt' : (k : Int) < n := by omega
      obtain ⟨ad, u, rfl, hab, hu, hc⟩ := hr.at_ hlt
      have hkl : k < l.length := by rw [H.out]; exact hlt
      obtain ⟨x, hx⟩ : ∃ x : UInt8, x = l[k] := ⟨_, rfl⟩
      have hu' : u = .int .u8 x.toNat := by
        simp [Lib.byteCells, List.getElem?_map, List.getElem?_eq_getElem hkl] at hu
        rw [hx]; exact hu.symm
      subst hu'
      have ht : (l.take (k + 1)).all printB = ((l.take k).all printB && printB x) := by rw [List.take_succ_eq_append_getElem hkl, List.all_append, hx]; simp
      have HT := hid ht
      have hd : l.all printB = ((l.take k).all printB && (printB x && (l.drop (k + 1)).all printB)) := by
        rw [hx, ← List.all_cons, ← List.drop_eq_getElem_cons hkl, ← List.all_append, List.take_append_drop]
      have HD := hid hd
      clear hx hu hkl ht hd
      have HP := hid (printable_any x wr)
      cases hp : printB x with
      | true =>
        rw [hp] at HP
        go_wp2_with (go_at_call 74; refine HP.out.mono ?_; rintro e w' ⟨rfl, rfl⟩)
        exact ⟨⟨k + 1, by omega, by first | rfl | (congr 1; omega), trivial, hid (by rw [HT.out, ha.out, hp]; rfl)⟩, by simp [intOf]; omega⟩
      | false =>
        rw [hp] at HP
        go_wp2_with (go_at_call 74; refine HP.out.mono ?_; rintro e w' ⟨rfl, rfl⟩)
        go_ret
        exact ⟨by rw [HD.out, hp]; simp, rfl⟩
    · have hlt' : ¬ (k : Int) < n := by omega
      go_wp2_with fail
      go_ret
      have h := ha.out
      rw [List.take_of_length_le (by rw [H.out]; omega)] at h
      exact ⟨by rw [h]; rfl, rfl⟩
set_option maxHeartbeats 1000000 in
set_option maxRecDepth 100000 in
theorem every_one (s : ByteArray) (b : Nat) (A : Option Addr) (n c : Nat) (l : List UInt8) (w : World) (hr : Reads w w.heap.size 1 A n (Lib.byteCells l)) (hn : n ≤ 1099511627776) (hb : w.cell? ⟨b, 0, none⟩ = some (.string s)) :
    Calls Tryz.prog 73 #[.slice A n c, .func (.func 87) #[] #[.pointer (some ⟨b, 0, none⟩)]] w fun e w' => e = .returned (.bool (l.all (oneB s))) ∧ w' = w := by
  have hl : l.length = n := by have := hr.1; simpa [Lib.byteCells_length] using this
  have H := hid hl; clear hl
  go_enter Tryz.func73, Tryz.ntmps73
  go_wp2_with fail
  go_loopw [6, 9] (fun _ i wr => ∃ k : Nat, k ≤ n ∧ i = .int .i64 k ∧ wr = w ∧ Hid ((l.take k).all (oneB s) = true)) (fun _ i _ => n - (intOf i).toNat)
  case atStart => exact ⟨0, Nat.zero_le _, rfl, rfl, hid rfl⟩
  case round =>
    obtain ⟨k, hk, rfl, rfl, ha⟩ := hrel
    by_cases hlt : k < n
    · have hlt' : (k : Int) < n := by omega
      obtain ⟨ad, u, rfl, hab, hu, hc⟩ := hr.at_ hlt
      have hkl : k < l.length := by rw [H.out]; exact hlt
      obtain ⟨x, hx⟩ : ∃ x : UInt8, x = l[k] := ⟨_, rfl⟩
      have hu' : u = .int .u8 x.toNat := by
        simp [Lib.byteCells, List.getElem?_map, List.getElem?_eq_getElem hkl] at hu
        rw [hx]; exact hu.symm
      subst hu'
      have ht : (l.take (k + 1)).all (oneB s) = ((l.take k).all (oneB s) && oneB s x) := by rw [List.take_succ_eq_append_getElem hkl, List.all_append, hx]; simp
      have HT := hid ht
      have hd : l.all (oneB s) = ((l.take k).all (oneB s) && (oneB s x && (l.drop (k + 1)).all (oneB s))) := by
        rw [hx, ← List.all_cons, ← List.drop_eq_getElem_cons hkl, ← List.all_append, List.take_append_drop]
      have HD := hid hd
      clear hx hu hkl ht hd
      have HP := hid (oneOf1_any s b x wr hb)
      cases hp : oneB s x with
      | true =>
        rw [hp] at HP
        go_wp2_with (go_at_call 87; refine HP.out.mono ?_; rintro e w' ⟨rfl, rfl⟩)
        exact ⟨⟨k + 1, by omega, by first | rfl | (congr 1; omega), trivial, hid (by rw [HT.out, ha.out, hp]; rfl)⟩, by simp [intOf]; omega⟩
      | false =>
        rw [hp] at HP
        go_wp2_with (go_at_call 87; refine HP.out.mono ?_; rintro e w' ⟨rfl, rfl⟩)
        go_ret
        exact ⟨by rw [HD.out, hp]; simp, rfl⟩
    · have hlt' : ¬ (k : Int) < n := by omega
      go_wp2_with fail
      go_ret
      have h := ha.out
      rw [List.take_of_length_le (by rw [H.out]; omega)] at h
      exact ⟨by rw [h]; rfl, rfl⟩
end Go.Proofs.YtcojkmcnigppbaaGreatDoor
end
section
set_option maxRecDepth 100000
namespace Go.Proofs.YtcojkmcnigppbaaGreatDoor.Nt
open Go Go.Proofs Go.RowKit Sx Oct
open Sch (wp_R gr_val gr_is gr_fresh gr_nil gr_on gr_onV gr_offV op_callR Rk)
theorem namedN (n : Nat) : ∃ m : Nat, Hid (m = n) := ⟨n, hid rfl⟩
theorem fr0 (g : Nat) (W : World) : (Instr.fieldAt 98 (.pointer (some ⟨g, 0, none⟩)) 0).run Tryz.prog W = .ok (.pointer (some ⟨g, 0, none⟩)) W := by go_simp
theorem fr1 (g : Nat) (W : World) : (Instr.fieldAt 98 (.pointer (some ⟨g, 0, none⟩)) 1).run Tryz.prog W = .ok (.pointer (some ⟨g, 1, none⟩)) W := by go_simp
theorem quiet_field {P : Program} {o : Oper} {ev : Operand → Value} {w : World} (s : TypeId) (x : Operand) (f : Nat) (v u : Value) (hx : ev x = v) (hr : ∀ W, (Instr.fieldAt s v f).run P W = .ok u W) (ho : o.op = .fieldAddr s x f) : (execOp ev o).run P w = .ok (.value u) w := by
  unfold execOp
  simp only [ho, hx, Sem.run_bind, hr, Sem.run_pure, Result.andThen_ok]
theorem quiet_sliceLH {o : Oper} {ev : Operand → Value} {V : World} (x l h : Operand) (A : Option Addr) (n c p q : Nat) (hx : ev x = .slice A n c) (hl : ev l = .int .i64 (p : Nat)) (hh : ev h = .int .i64 (q : Nat)) (hpq : p ≤ q) (hqc : q ≤ c) (ho : o.op = .slice 22 x (some l) (some h) none) :
    (execOp ev o).run Tryz.prog V = .ok (.value (.slice (if c = p then A else A.map (·.add p)) (q - p) (c - p))) V := by
  have hel : Tryz.prog.elem 22 = 5 := by kernel_rfl
  have hu : Tryz.prog.underlying 22 = some (.slice (Tryz.prog.elem 22)) := by rw [hel]; exact Tryz.underlying22
  have := run_slice_lh (P := Tryz.prog) V 22 A n c hu .i64 .i64 (p : Int) (q : Int) (by omega) (by omega) (by omega)
  unfold execOp
  simp only [ho, hx, hl, hh, Option.map_none, Option.map_some, Sem.run_bind, run_sliceAt_slice V 22 _ _ _ _ hu, this, hel, Tryz.sizeOf5, Result.andThen_ok, Sem.run_pure]
  simp [sliced]
theorem tw_step {f : UInt8 → Bool} {l q : List UInt8} {x : UInt8} (h : l = x :: q) (hx : f x = true) : l.takeWhile f = x :: q.takeWhile f ∧ l.dropWhile f = q.dropWhile f := by
  subst h; simp [List.takeWhile, List.dropWhile, hx]
theorem tw_stop {f : UInt8 → Bool} {l q : List UInt8} {x : UInt8} (h : l = x :: q) (hx : f x = false) : l.takeWhile f = [] ∧ l.dropWhile f = l := by
  subst h; simp [List.takeWhile, List.dropWhile, hx]
def RunEnd (w : World) (r : Nat) (A : Option Addr) (n c : Nat) (nd : Int) (f : UInt8 → Bool) (q : List UInt8) (e : Ending) (w' : World) : Prop :=
  ∃ A' c', e = .returned (.slice A' (q.takeWhile f).length c') ∧ (q.takeWhile f).length ≤ c' ∧ RIn w' (fun k => w.heap.size ≤ k) 1 A' (q.takeWhile f).length (Lib.byteCells (q.takeWhile f)) ∧ RdAt w' r A n c (n - (q.dropWhile f).length : Nat) nd ∧ w.grownBy w' (some r)
set_option maxHeartbeats 8000000 in
theorem run_any (s : ByteArray) (bk r : Nat) (A : Option Addr) (n c p : Nat) (nd : Int) (b : List UInt8) (B : Nat) (w : World) (h : RdAt w r A n c p nd) (hr : Reads w B 1 A n (Lib.byteCells b)) (hB : B ≤ r) (hbk : w.cell? ⟨bk, 0, none⟩ = some (.string s)) (hbr : bk ≠ r) (hp : p ≤ n) (hn : n ≤ 20000) (hc : n ≤ c) (q : List UInt8) (hs : b.drop p = q) :
    Calls Tryz.prog 79 #[.pointer (some ⟨r, 0, none⟩), .func (.func 87) #[] #[.pointer (some ⟨bk, 0, none⟩)]] w (RunEnd w r A n c nd (oneB s) q) := by
  have hl : b.length = n := by have := hr.1; simpa [Lib.byteCells_length] using this
  have hql : q.length = n - p := by rw [← hs, List.length_drop, hl]
  obtain ⟨c0, c1, c2, f1, f2⟩ := h.all
  have HR := hid hr
  have HBK := hid hbk
  have HL := hid hl
  have HQL := hid hql
  have HS := hid hs
  have hbl := World.block_lt_of_cell? _ _ hbk
  have H0 := hid h
  clear hr hbk hl hs h
  go_enter Tryz.func79, Tryz.ntmps79
  go_wp2_with fail
  clear c0 c1 c2 f1 f2
  go_loopg [] (n - p) (fun gg wr => ∃ k : Nat, gg + k = n - p ∧ RdAt wr r A n c (p + k : Nat) nd ∧ w.grownBy wr (some r) ∧ Hid (q.takeWhile (oneB s) = q.take k ++ (q.drop k).takeWhile (oneB s) ∧ q.dropWhile (oneB s) = (q.drop k).dropWhile (oneB s)))
  case atStart => exact ⟨0, rfl, by rw [Nat.add_zero]; exact H0.out, World.grownBy.refl w _, hid (by simp)⟩
  case round =>
    obtain ⟨k, hgk, hR, hg, hT⟩ := hrel
    clear H0
    have hrd := reads_grown HR.out hg hB
    have HRD := hid hrd
    have HRR := hid hR
    have HGG := hid hg
    obtain ⟨pk, hpk⟩ := namedN (p + k)
    rw [← hpk.out] at HRR
    by_cases hlt : pk < n
    · have hkl : k < q.length := by rw [HQL.out]; have := hpk.out; omega
      obtain ⟨x, hx⟩ : ∃ x, Hid (x = q[k]) := ⟨_, hid rfl⟩
      have hdk : Hid (q.drop k = x :: q.drop (k + 1)) := by rw [hx.out]; exact hid (List.drop_eq_getElem_cons hkl)
      obtain ⟨ad, u, hA, had, hu, hcell⟩ := hrd.at_ hlt
      subst hA
      have hu' : u = .int .u8 x.toNat := by
        have hb : b[pk]? = some x := by
          have := congrArg List.head? (show b.drop (p + k) = x :: q.drop (k + 1) by rw [← List.drop_drop, HS.out, hdk.out])
          rw [List.head?_drop] at this
          rw [hpk.out]; simpa using this
        simp [Lib.byteCells, List.getElem?_map, hb] at hu
        exact hu.symm
      subst hu'
      have HCE := hid hcell
      have had2 : Hid (ad.block < wr.heap.size) := hid (by have := hR.lt; omega)
      have hbw : Hid (wr.cell? ⟨bk, 0, none⟩ = some (.string s)) := hid ((World.cell?_of_block (hg.block bk hbl (fun e => hbr (by injection e)))).trans HBK.out)
      have hbl2 : Hid (bk < wr.heap.size) := hid (Nat.lt_of_lt_of_le hbl hg.size)
      have CC : Hid (∀ V, Below wr.heap.size wr V → Calls Tryz.prog 87 #[.int .u8 x.toNat, .pointer (some ⟨bk, 0, none⟩)] V fun e w' => e = .returned (.bool (oneB s x)) ∧ Below V.heap.size V w') := hid fun V hV =>
        (oneOf1_any s bk x V ((hV.cell hbl2.out).trans hbw.out)).mono fun e w' ⟨h1, h2⟩ => ⟨h1, by rw [h2]; exact Below.refl _ _⟩
      have hlt' : Hid (decide ((pk : Int) < (n : Int)) = true) := hid (by simp; omega)
      clear hrd hu hcell had hR hg
      cases hmx : oneB s x with
      | true =>
        rw [hmx] at CC
        have hT2 : Hid (q.takeWhile (oneB s) = q.take (k + 1) ++ (q.drop (k + 1)).takeWhile (oneB s) ∧ q.dropWhile (oneB s) = (q.drop (k + 1)).dropWhile (oneB s)) := hid (by
          obtain ⟨t1, t2⟩ := tw_step hdk.out hmx
          refine ⟨?_, by rw [hT.out.2, t2]⟩
          rw [hT.out.1, t1, List.take_succ_eq_append_getElem hkl, ← hx.out]; simp)
        go_upto_region 2 with fail
        (try simp only [Act.put, zA, zB, zC])
        refine wp_R [10, 11, 12, 13, 14, 15, 16, 17, 18, 19, 20, 21, 22, 23, 24, 25, 26, 27, 28, 29, 30, 31, 32, 33] [Rk.val (.pointer (some ⟨r, 0, none⟩)), Rk.val (.pointer (some ⟨r, 0, none⟩)), Rk.val (.pointer (some ⟨r, 1, none⟩)), Rk.val (.int .i64 (pk : Nat)), Rk.val (.pointer (some ⟨r, 0, none⟩)), Rk.val (.pointer (some ⟨r, 0, none⟩)), Rk.val (.pointer (some ⟨r, 0, none⟩)), Rk.val (.slice (some ad) n c), Rk.val (.int .i64 (n : Nat)), Rk.val (.bool true), Rk.val (.bool true), Rk.val (.func (.func 87) #[] #[.pointer (some ⟨bk, 0, none⟩)]), Rk.val (.pointer (some ⟨r, 0, none⟩)), Rk.val (.pointer (some ⟨r, 0, none⟩)), Rk.val (.pointer (some ⟨r, 0, none⟩)), Rk.val (.slice (some ad) n c), Rk.val (.pointer (some ⟨r, 0, none⟩)), Rk.val (.pointer (some ⟨r, 0, none⟩)), Rk.val (.pointer (some ⟨r, 1, none⟩)), Rk.val (.int .i64 (pk : Nat)), Rk.val (.pointer (some (ad.add pk))), Rk.val (.int .u8 (x.toNat : Nat)), Rk.val (.bool true), Rk.val (.bool true)] rfl (by kernel_rfl) (by kernel_rfl) (by kernel_rfl) (by kernel_rfl) ?hg1 _ (by rfl) ?hf1
        case hg1 =>
          refine gr_val rfl (by kernel_rfl) (fun a V H K Q hK => op_quiet (quiet_move (.tmp 0) (H.old 0 (by kernel_rfl) (by kernel_rfl)) (.inl (by kernel_rfl))) hK) ?_
          refine gr_val rfl (by kernel_rfl) (fun a V H K Q hK => op_quiet (quiet_nilCheck (.tmp 10) _ (H.rel 0 10 (by kernel_rfl) (by kernel_rfl) rfl) (by kernel_rfl)) hK) ?_
          refine gr_val rfl (by kernel_rfl) (fun a V H K Q hK => op_quiet (quiet_field _ (.tmp 11) 1 _ _ (H.rel 1 11 (by kernel_rfl) (by kernel_rfl) rfl) (fr1 _) rfl) hK) ?_
          refine gr_val rfl (by kernel_rfl) (fun a V H K Q hK => op_quiet (quiet_cell 3 (.tmp 12) _ (H.rel 2 12 (by kernel_rfl) (by kernel_rfl) rfl) Tryz.underlying3 rfl ((HRR.out.old H.frame).all.2.1) (by kernel_rfl)) hK) ?_
          refine gr_val rfl (by kernel_rfl) (fun a V H K Q hK => op_quiet (quiet_move (.tmp 0) (H.old 0 (by kernel_rfl) (by kernel_rfl)) (.inl (by kernel_rfl))) hK) ?_
          refine gr_val rfl (by kernel_rfl) (fun a V H K Q hK => op_quiet (quiet_nilCheck (.tmp 14) _ (H.rel 4 14 (by kernel_rfl) (by kernel_rfl) rfl) (by kernel_rfl)) hK) ?_
          refine gr_val rfl (by kernel_rfl) (fun a V H K Q hK => op_quiet (quiet_field _ (.tmp 15) 0 _ _ (H.rel 5 15 (by kernel_rfl) (by kernel_rfl) rfl) (fr0 _) rfl) hK) ?_
          refine gr_val rfl (by kernel_rfl) (fun a V H K Q hK => op_quiet (quiet_cell 22 (.tmp 16) _ (H.rel 6 16 (by kernel_rfl) (by kernel_rfl) rfl) Tryz.underlying22 rfl ((HRR.out.old H.frame).all.1) (by kernel_rfl)) hK) ?_
          refine gr_val rfl (by kernel_rfl) (fun a V H K Q hK => op_quiet (quiet_len (.tmp 17) (some ad) n c 22 5 (H.rel 7 17 (by kernel_rfl) (by kernel_rfl) rfl) Tryz.underlying22 (by kernel_rfl)) hK) ?_
          refine gr_val rfl (by kernel_rfl) (fun a V H K Q hK => op_quiet (quiet_lssB (.tmp 13) (.tmp 18) (pk : Int) (n : Int) 3 3 true hlt'.out (H.rel 3 13 (by kernel_rfl) (by kernel_rfl) rfl) (H.rel 8 18 (by kernel_rfl) (by kernel_rfl) rfl) Tryz.underlying3 (by kernel_rfl)) hK) ?_
          refine gr_val rfl (by kernel_rfl) (fun a V H K Q hK => op_quiet (quiet_move (.tmp 19) (H.rel 9 19 (by kernel_rfl) (by kernel_rfl) rfl) (.inl (by kernel_rfl))) hK) ?_
          refine gr_onV (j := 10) (d := 20) (want := true) (u := .bool true) rfl (by kernel_rfl) (by kernel_rfl) (fun a V H => (H.rel 10 20 (by kernel_rfl) (by kernel_rfl) rfl)) (by kernel_rfl) (fun a V H K Q hK => op_quiet (quiet_move (.tmp 1) (H.old 1 (by kernel_rfl) (by kernel_rfl)) (.inl (by kernel_rfl))) hK) ?_
          refine gr_onV (j := 10) (d := 20) (want := true) (u := .bool true) rfl (by kernel_rfl) (by kernel_rfl) (fun a V H => (H.rel 10 20 (by kernel_rfl) (by kernel_rfl) rfl)) (by kernel_rfl) (fun a V H K Q hK => op_quiet (quiet_move (.tmp 0) (H.old 0 (by kernel_rfl) (by kernel_rfl)) (.inl (by kernel_rfl))) hK) ?_
          refine gr_onV (j := 10) (d := 20) (want := true) (u := .bool true) rfl (by kernel_rfl) (by kernel_rfl) (fun a V H => (H.rel 10 20 (by kernel_rfl) (by kernel_rfl) rfl)) (by kernel_rfl) (fun a V H K Q hK => op_quiet (quiet_nilCheck (.tmp 22) _ (H.rel 12 22 (by kernel_rfl) (by kernel_rfl) rfl) (by kernel_rfl)) hK) ?_
          refine gr_onV (j := 10) (d := 20) (want := true) (u := .bool true) rfl (by kernel_rfl) (by kernel_rfl) (fun a V H => (H.rel 10 20 (by kernel_rfl) (by kernel_rfl) rfl)) (by kernel_rfl) (fun a V H K Q hK => op_quiet (quiet_field _ (.tmp 23) 0 _ _ (H.rel 13 23 (by kernel_rfl) (by kernel_rfl) rfl) (fr0 _) rfl) hK) ?_
          refine gr_onV (j := 10) (d := 20) (want := true) (u := .bool true) rfl (by kernel_rfl) (by kernel_rfl) (fun a V H => (H.rel 10 20 (by kernel_rfl) (by kernel_rfl) rfl)) (by kernel_rfl) (fun a V H K Q hK => op_quiet (quiet_cell 22 (.tmp 24) _ (H.rel 14 24 (by kernel_rfl) (by kernel_rfl) rfl) Tryz.underlying22 rfl ((HRR.out.old H.frame).all.1) (by kernel_rfl)) hK) ?_
          refine gr_onV (j := 10) (d := 20) (want := true) (u := .bool true) rfl (by kernel_rfl) (by kernel_rfl) (fun a V H => (H.rel 10 20 (by kernel_rfl) (by kernel_rfl) rfl)) (by kernel_rfl) (fun a V H K Q hK => op_quiet (quiet_move (.tmp 0) (H.old 0 (by kernel_rfl) (by kernel_rfl)) (.inl (by kernel_rfl))) hK) ?_
          refine gr_onV (j := 10) (d := 20) (want := true) (u := .bool true) rfl (by kernel_rfl) (by kernel_rfl) (fun a V H => (H.rel 10 20 (by kernel_rfl) (by kernel_rfl) rfl)) (by kernel_rfl) (fun a V H K Q hK => op_quiet (quiet_nilCheck (.tmp 26) _ (H.rel 16 26 (by kernel_rfl) (by kernel_rfl) rfl) (by kernel_rfl)) hK) ?_
          refine gr_onV (j := 10) (d := 20) (want := true) (u := .bool true) rfl (by kernel_rfl) (by kernel_rfl) (fun a V H => (H.rel 10 20 (by kernel_rfl) (by kernel_rfl) rfl)) (by kernel_rfl) (fun a V H K Q hK => op_quiet (quiet_field _ (.tmp 27) 1 _ _ (H.rel 17 27 (by kernel_rfl) (by kernel_rfl) rfl) (fr1 _) rfl) hK) ?_
          refine gr_onV (j := 10) (d := 20) (want := true) (u := .bool true) rfl (by kernel_rfl) (by kernel_rfl) (fun a V H => (H.rel 10 20 (by kernel_rfl) (by kernel_rfl) rfl)) (by kernel_rfl) (fun a V H K Q hK => op_quiet (quiet_cell 3 (.tmp 28) _ (H.rel 18 28 (by kernel_rfl) (by kernel_rfl) rfl) Tryz.underlying3 rfl ((HRR.out.old H.frame).all.2.1) (by kernel_rfl)) hK) ?_
          refine gr_onV (j := 10) (d := 20) (want := true) (u := .bool true) rfl (by kernel_rfl) (by kernel_rfl) (fun a V H => (H.rel 10 20 (by kernel_rfl) (by kernel_rfl) rfl)) (by kernel_rfl) (fun a V H K Q hK => op_quiet (quiet_index (.tmp 25) (.tmp 29) ad n c pk 22 5 (H.rel 15 25 (by kernel_rfl) (by kernel_rfl) rfl) (H.rel 19 29 (by kernel_rfl) (by kernel_rfl) rfl) hlt Tryz.underlying22 (by kernel_rfl) (by kernel_rfl)) hK) ?_
          refine gr_onV (j := 10) (d := 20) (want := true) (u := .bool true) rfl (by kernel_rfl) (by kernel_rfl) (fun a V H => (H.rel 10 20 (by kernel_rfl) (by kernel_rfl) rfl)) (by kernel_rfl) (fun a V H K Q hK => op_quiet (quiet_cell 5 (.tmp 30) _ (H.rel 20 30 (by kernel_rfl) (by kernel_rfl) rfl) Tryz.underlying5 rfl ((H.frame.cell (by rw [block_of_add]; exact had2.out)).trans HCE.out) (by kernel_rfl)) hK) ?_
          refine gr_onV (j := 10) (d := 20) (want := true) (u := .bool true) rfl (by kernel_rfl) (by kernel_rfl) (fun a V H => (H.rel 10 20 (by kernel_rfl) (by kernel_rfl) rfl)) (by kernel_rfl) (fun a V H K Q hK => op_callC 21 #[.tmp 31] #[.int .u8 x.toNat] (by kernel_rfl) (by kernel_rfl) (by kernel_rfl) (H.rel 11 21 (by kernel_rfl) (by kernel_rfl) rfl) (map1 (H.rel 21 31 (by kernel_rfl) (by kernel_rfl) rfl)) (CC.out V H.frame) (by kernel_rfl) hK) ?_
          refine gr_val rfl (by kernel_rfl) (fun a V H K Q hK => op_quiet (quiet_pickT (.tmp 20) (.tmp 32) (.const (.bool false)) (H.rel 10 20 (by kernel_rfl) (by kernel_rfl) rfl) (H.rel 22 32 (by kernel_rfl) (by kernel_rfl) rfl) (by kernel_rfl)) hK) ?_
          exact gr_nil
        case hf1 =>
        intro x_ V hF
        have e0 : x_ 0 = .pointer (some ⟨r, 0, none⟩) := hF.rel 0 _ rfl
        have e1 : x_ 1 = .pointer (some ⟨r, 0, none⟩) := hF.rel 1 _ rfl
        have e2 : x_ 2 = .pointer (some ⟨r, 1, none⟩) := hF.rel 2 _ rfl
        have e3 : x_ 3 = .int .i64 (pk : Nat) := hF.rel 3 _ rfl
        have e4 : x_ 4 = .pointer (some ⟨r, 0, none⟩) := hF.rel 4 _ rfl
        have e5 : x_ 5 = .pointer (some ⟨r, 0, none⟩) := hF.rel 5 _ rfl
        have e6 : x_ 6 = .pointer (some ⟨r, 0, none⟩) := hF.rel 6 _ rfl
        have e7 : x_ 7 = .slice (some ad) n c := hF.rel 7 _ rfl
        have e8 : x_ 8 = .int .i64 (n : Nat) := hF.rel 8 _ rfl
        have e9 : x_ 9 = .bool true := hF.rel 9 _ rfl
        have e10 : x_ 10 = .bool true := hF.rel 10 _ rfl
        have e11 : x_ 11 = .func (.func 87) #[] #[.pointer (some ⟨bk, 0, none⟩)] := hF.rel 11 _ rfl
        have e12 : x_ 12 = .pointer (some ⟨r, 0, none⟩) := hF.rel 12 _ rfl
        have e13 : x_ 13 = .pointer (some ⟨r, 0, none⟩) := hF.rel 13 _ rfl
        have e14 : x_ 14 = .pointer (some ⟨r, 0, none⟩) := hF.rel 14 _ rfl
        have e15 : x_ 15 = .slice (some ad) n c := hF.rel 15 _ rfl
        have e16 : x_ 16 = .pointer (some ⟨r, 0, none⟩) := hF.rel 16 _ rfl
        have e17 : x_ 17 = .pointer (some ⟨r, 0, none⟩) := hF.rel 17 _ rfl
        have e18 : x_ 18 = .pointer (some ⟨r, 1, none⟩) := hF.rel 18 _ rfl
        have e19 : x_ 19 = .int .i64 (pk : Nat) := hF.rel 19 _ rfl
        have e20 : x_ 20 = .pointer (some (ad.add pk)) := hF.rel 20 _ rfl
        have e21 : x_ 21 = .int .u8 (x.toNat : Nat) := hF.rel 21 _ rfl
        have e22 : x_ 22 = .bool true := hF.rel 22 _ rfl
        have e23 : x_ 23 = .bool true := hF.rel 23 _ rfl
        have hbf := hF.frame
        clear hF
        simp only [Sch.finL, zA, zB, zC, e0, e1, e2, e3, e4, e5, e6, e7, e8, e9, e10, e11, e12, e13, e14, e15, e16, e17, e18, e19, e20, e21, e22, e23]
        clear e0 e1 e2 e3 e4 e5 e6 e7 e8 e9 e10 e11 e12 e13 e14 e15 e16 e17 e18 e19 e20 e21 e22 e23
        refine tail_nil ?_
        have HRV := hid (HRR.out.old hbf)
        have HGV := hid (HGG.out.trans (grown_below hbf (some r)))
        clear hbf
        generalize V = W1 at *
        obtain ⟨d0, d1, d2, z1, z2⟩ := HRV.out.all
        have hwp : IntKind.i64.wrap ((pk : Int) + 1) = ((pk + 1 : Nat) : Int) := by rw [IntWalk.i64_in _ (by omega)]; rfl
        have HRS := hid (HRV.out.set1 ((pk + 1 : Nat) : Int))
        have HGS := hid (HGV.out.trans (grown_set W1 r 1 (.int .i64 ((pk + 1 : Nat) : Int))))
        go_wp2_with fail
        go_roundg (gk - 1)
        case measure => omega
        case rel => exact ⟨k + 1, by omega, by rw [show p + (k + 1) = pk + 1 by rw [hpk.out]; omega]; exact HRS.out, HGS.out, hT2⟩
      | false =>
        rw [hmx] at CC
        have hT2 : Hid (q.takeWhile (oneB s) = q.take k ∧ q.dropWhile (oneB s) = q.drop k) := hid (by
          obtain ⟨t1, t2⟩ := tw_stop hdk.out hmx
          exact ⟨by rw [hT.out.1, t1, List.append_nil], by rw [hT.out.2, t2]⟩)
        go_upto_region 2 with fail
        (try simp only [Act.put, zA, zB, zC])
        refine wp_R [10, 11, 12, 13, 14, 15, 16, 17, 18, 19, 20, 21, 22, 23, 24, 25, 26, 27, 28, 29, 30, 31, 32, 33] [Rk.val (.pointer (some ⟨r, 0, none⟩)), Rk.val (.pointer (some ⟨r, 0, none⟩)), Rk.val (.pointer (some ⟨r, 1, none⟩)), Rk.val (.int .i64 (pk : Nat)), Rk.val (.pointer (some ⟨r, 0, none⟩)), Rk.val (.pointer (some ⟨r, 0, none⟩)), Rk.val (.pointer (some ⟨r, 0, none⟩)), Rk.val (.slice (some ad) n c), Rk.val (.int .i64 (n : Nat)), Rk.val (.bool true), Rk.val (.bool true), Rk.val (.func (.func 87) #[] #[.pointer (some ⟨bk, 0, none⟩)]), Rk.val (.pointer (some ⟨r, 0, none⟩)), Rk.val (.pointer (some ⟨r, 0, none⟩)), Rk.val (.pointer (some ⟨r, 0, none⟩)), Rk.val (.slice (some ad) n c), Rk.val (.pointer (some ⟨r, 0, none⟩)), Rk.val (.pointer (some ⟨r, 0, none⟩)), Rk.val (.pointer (some ⟨r, 1, none⟩)), Rk.val (.int .i64 (pk : Nat)), Rk.val (.pointer (some (ad.add pk))), Rk.val (.int .u8 (x.toNat : Nat)), Rk.val (.bool false), Rk.val (.bool false)] rfl (by kernel_rfl) (by kernel_rfl) (by kernel_rfl) (by kernel_rfl) ?hg2 _ (by rfl) ?hf2
        case hg2 =>
          refine gr_val rfl (by kernel_rfl) (fun a V H K Q hK => op_quiet (quiet_move (.tmp 0) (H.old 0 (by kernel_rfl) (by kernel_rfl)) (.inl (by kernel_rfl))) hK) ?_
          refine gr_val rfl (by kernel_rfl) (fun a V H K Q hK => op_quiet (quiet_nilCheck (.tmp 10) _ (H.rel 0 10 (by kernel_rfl) (by kernel_rfl) rfl) (by kernel_rfl)) hK) ?_
          refine gr_val rfl (by kernel_rfl) (fun a V H K Q hK => op_quiet (quiet_field _ (.tmp 11) 1 _ _ (H.rel 1 11 (by kernel_rfl) (by kernel_rfl) rfl) (fr1 _) rfl) hK) ?_
          refine gr_val rfl (by kernel_rfl) (fun a V H K Q hK => op_quiet (quiet_cell 3 (.tmp 12) _ (H.rel 2 12 (by kernel_rfl) (by kernel_rfl) rfl) Tryz.underlying3 rfl ((HRR.out.old H.frame).all.2.1) (by kernel_rfl)) hK) ?_
          refine gr_val rfl (by kernel_rfl) (fun a V H K Q hK => op_quiet (quiet_move (.tmp 0) (H.old 0 (by kernel_rfl) (by kernel_rfl)) (.inl (by kernel_rfl))) hK) ?_
          refine gr_val rfl (by kernel_rfl) (fun a V H K Q hK => op_quiet (quiet_nilCheck (.tmp 14) _ (H.rel 4 14 (by kernel_rfl) (by kernel_rfl) rfl) (by kernel_rfl)) hK) ?_
          refine gr_val rfl (by kernel_rfl) (fun a V H K Q hK => op_quiet (quiet_field _ (.tmp 15) 0 _ _ (H.rel 5 15 (by kernel_rfl) (by kernel_rfl) rfl) (fr0 _) rfl) hK) ?_
          refine gr_val rfl (by kernel_rfl) (fun a V H K Q hK => op_quiet (quiet_cell 22 (.tmp 16) _ (H.rel 6 16 (by kernel_rfl) (by kernel_rfl) rfl) Tryz.underlying22 rfl ((HRR.out.old H.frame).all.1) (by kernel_rfl)) hK) ?_
          refine gr_val rfl (by kernel_rfl) (fun a V H K Q hK => op_quiet (quiet_len (.tmp 17) (some ad) n c 22 5 (H.rel 7 17 (by kernel_rfl) (by kernel_rfl) rfl) Tryz.underlying22 (by kernel_rfl)) hK) ?_
          refine gr_val rfl (by kernel_rfl) (fun a V H K Q hK => op_quiet (quiet_lssB (.tmp 13) (.tmp 18) (pk : Int) (n : Int) 3 3 true hlt'.out (H.rel 3 13 (by kernel_rfl) (by kernel_rfl) rfl) (H.rel 8 18 (by kernel_rfl) (by kernel_rfl) rfl) Tryz.underlying3 (by kernel_rfl)) hK) ?_
          refine gr_val rfl (by kernel_rfl) (fun a V H K Q hK => op_quiet (quiet_move (.tmp 19) (H.rel 9 19 (by kernel_rfl) (by kernel_rfl) rfl) (.inl (by kernel_rfl))) hK) ?_
          refine gr_onV (j := 10) (d := 20) (want := true) (u := .bool true) rfl (by kernel_rfl) (by kernel_rfl) (fun a V H => (H.rel 10 20 (by kernel_rfl) (by kernel_rfl) rfl)) (by kernel_rfl) (fun a V H K Q hK => op_quiet (quiet_move (.tmp 1) (H.old 1 (by kernel_rfl) (by kernel_rfl)) (.inl (by kernel_rfl))) hK) ?_
          refine gr_onV (j := 10) (d := 20) (want := true) (u := .bool true) rfl (by kernel_rfl) (by kernel_rfl) (fun a V H => (H.rel 10 20 (by kernel_rfl) (by kernel_rfl) rfl)) (by kernel_rfl) (fun a V H K Q hK => op_quiet (quiet_move (.tmp 0) (H.old 0 (by kernel_rfl) (by kernel_rfl)) (.inl (by kernel_rfl))) hK) ?_
          refine gr_onV (j := 10) (d := 20) (want := true) (u := .bool true) rfl (by kernel_rfl) (by kernel_rfl) (fun a V H => (H.rel 10 20 (by kernel_rfl) (by kernel_rfl) rfl)) (by kernel_rfl) (fun a V H K Q hK => op_quiet (quiet_nilCheck (.tmp 22) _ (H.rel 12 22 (by kernel_rfl) (by kernel_rfl) rfl) (by kernel_rfl)) hK) ?_
          refine gr_onV (j := 10) (d := 20) (want := true) (u := .bool true) rfl (by kernel_rfl) (by kernel_rfl) (fun a V H => (H.rel 10 20 (by kernel_rfl) (by kernel_rfl) rfl)) (by kernel_rfl) (fun a V H K Q hK => op_quiet (quiet_field _ (.tmp 23) 0 _ _ (H.rel 13 23 (by kernel_rfl) (by kernel_rfl) rfl) (fr0 _) rfl) hK) ?_
          refine gr_onV (j := 10) (d := 20) (want := true) (u := .bool true) rfl (by kernel_rfl) (by kernel_rfl) (fun a V H => (H.rel 10 20 (by kernel_rfl) (by kernel_rfl) rfl)) (by kernel_rfl) (fun a V H K Q hK => op_quiet (quiet_cell 22 (.tmp 24) _ (H.rel 14 24 (by kernel_rfl) (by kernel_rfl) rfl) Tryz.underlying22 rfl ((HRR.out.old H.frame).all.1) (by kernel_rfl)) hK) ?_
          refine gr_onV (j := 10) (d := 20) (want := true) (u := .bool true) rfl (by kernel_rfl) (by kernel_rfl) (fun a V H => (H.rel 10 20 (by kernel_rfl) (by kernel_rfl) rfl)) (by kernel_rfl) (fun a V H K Q hK => op_quiet (quiet_move (.tmp 0) (H.old 0 (by kernel_rfl) (by kernel_rfl)) (.inl (by kernel_rfl))) hK) ?_
          refine gr_onV (j := 10) (d := 20) (want := true) (u := .bool true) rfl (by kernel_rfl) (by kernel_rfl) (fun a V H => (H.rel 10 20 (by kernel_rfl) (by kernel_rfl) rfl)) (by kernel_rfl) (fun a V H K Q hK => op_quiet (quiet_nilCheck (.tmp 26) _ (H.rel 16 26 (by kernel_rfl) (by kernel_rfl) rfl) (by kernel_rfl)) hK) ?_
          refine gr_onV (j := 10) (d := 20) (want := true) (u := .bool true) rfl (by kernel_rfl) (by kernel_rfl) (fun a V H => (H.rel 10 20 (by kernel_rfl) (by kernel_rfl) rfl)) (by kernel_rfl) (fun a V H K Q hK => op_quiet (quiet_field _ (.tmp 27) 1 _ _ (H.rel 17 27 (by kernel_rfl) (by kernel_rfl) rfl) (fr1 _) rfl) hK) ?_
          refine gr_onV (j := 10) (d := 20) (want := true) (u := .bool true) rfl (by kernel_rfl) (by kernel_rfl) (fun a V H => (H.rel 10 20 (by kernel_rfl) (by kernel_rfl) rfl)) (by kernel_rfl) (fun a V H K Q hK => op_quiet (quiet_cell 3 (.tmp 28) _ (H.rel 18 28 (by kernel_rfl) (by kernel_rfl) rfl) Tryz.underlying3 rfl ((HRR.out.old H.frame).all.2.1) (by kernel_rfl)) hK) ?_
          refine gr_onV (j := 10) (d := 20) (want := true) (u := .bool true) rfl (by kernel_rfl) (by kernel_rfl) (fun a V H => (H.rel 10 20 (by kernel_rfl) (by kernel_rfl) rfl)) (by kernel_rfl) (fun a V H K Q hK => op_quiet (quiet_index (.tmp 25) (.tmp 29) ad n c pk 22 5 (H.rel 15 25 (by kernel_rfl) (by kernel_rfl) rfl) (H.rel 19 29 (by kernel_rfl) (by kernel_rfl) rfl) hlt Tryz.underlying22 (by kernel_rfl) (by kernel_rfl)) hK) ?_
          refine gr_onV (j := 10) (d := 20) (want := true) (u := .bool true) rfl (by kernel_rfl) (by kernel_rfl) (fun a V H => (H.rel 10 20 (by kernel_rfl) (by kernel_rfl) rfl)) (by kernel_rfl) (fun a V H K Q hK => op_quiet (quiet_cell 5 (.tmp 30) _ (H.rel 20 30 (by kernel_rfl) (by kernel_rfl) rfl) Tryz.underlying5 rfl ((H.frame.cell (by rw [block_of_add]; exact had2.out)).trans HCE.out) (by kernel_rfl)) hK) ?_
          refine gr_onV (j := 10) (d := 20) (want := true) (u := .bool true) rfl (by kernel_rfl) (by kernel_rfl) (fun a V H => (H.rel 10 20 (by kernel_rfl) (by kernel_rfl) rfl)) (by kernel_rfl) (fun a V H K Q hK => op_callC 21 #[.tmp 31] #[.int .u8 x.toNat] (by kernel_rfl) (by kernel_rfl) (by kernel_rfl) (H.rel 11 21 (by kernel_rfl) (by kernel_rfl) rfl) (map1 (H.rel 21 31 (by kernel_rfl) (by kernel_rfl) rfl)) (CC.out V H.frame) (by kernel_rfl) hK) ?_
          refine gr_val rfl (by kernel_rfl) (fun a V H K Q hK => op_quiet (quiet_pickT (.tmp 20) (.tmp 32) (.const (.bool false)) (H.rel 10 20 (by kernel_rfl) (by kernel_rfl) rfl) (H.rel 22 32 (by kernel_rfl) (by kernel_rfl) rfl) (by kernel_rfl)) hK) ?_
          exact gr_nil
        case hf2 =>
        intro x_ V hF
        have e0 : x_ 0 = .pointer (some ⟨r, 0, none⟩) := hF.rel 0 _ rfl
        have e1 : x_ 1 = .pointer (some ⟨r, 0, none⟩) := hF.rel 1 _ rfl
        have e2 : x_ 2 = .pointer (some ⟨r, 1, none⟩) := hF.rel 2 _ rfl
        have e3 : x_ 3 = .int .i64 (pk : Nat) := hF.rel 3 _ rfl
        have e4 : x_ 4 = .pointer (some ⟨r, 0, none⟩) := hF.rel 4 _ rfl
        have e5 : x_ 5 = .pointer (some ⟨r, 0, none⟩) := hF.rel 5 _ rfl
        have e6 : x_ 6 = .pointer (some ⟨r, 0, none⟩) := hF.rel 6 _ rfl
        have e7 : x_ 7 = .slice (some ad) n c := hF.rel 7 _ rfl
        have e8 : x_ 8 = .int .i64 (n : Nat) := hF.rel 8 _ rfl
        have e9 : x_ 9 = .bool true := hF.rel 9 _ rfl
        have e10 : x_ 10 = .bool true := hF.rel 10 _ rfl
        have e11 : x_ 11 = .func (.func 87) #[] #[.pointer (some ⟨bk, 0, none⟩)] := hF.rel 11 _ rfl
        have e12 : x_ 12 = .pointer (some ⟨r, 0, none⟩) := hF.rel 12 _ rfl
        have e13 : x_ 13 = .pointer (some ⟨r, 0, none⟩) := hF.rel 13 _ rfl
        have e14 : x_ 14 = .pointer (some ⟨r, 0, none⟩) := hF.rel 14 _ rfl
        have e15 : x_ 15 = .slice (some ad) n c := hF.rel 15 _ rfl
        have e16 : x_ 16 = .pointer (some ⟨r, 0, none⟩) := hF.rel 16 _ rfl
        have e17 : x_ 17 = .pointer (some ⟨r, 0, none⟩) := hF.rel 17 _ rfl
        have e18 : x_ 18 = .pointer (some ⟨r, 1, none⟩) := hF.rel 18 _ rfl
        have e19 : x_ 19 = .int .i64 (pk : Nat) := hF.rel 19 _ rfl
        have e20 : x_ 20 = .pointer (some (ad.add pk)) := hF.rel 20 _ rfl
        have e21 : x_ 21 = .int .u8 (x.toNat : Nat) := hF.rel 21 _ rfl
        have e22 : x_ 22 = .bool false := hF.rel 22 _ rfl
        have e23 : x_ 23 = .bool false := hF.rel 23 _ rfl
        have hbf := hF.frame
        clear hF
        simp only [Sch.finL, zA, zB, zC, e0, e1, e2, e3, e4, e5, e6, e7, e8, e9, e10, e11, e12, e13, e14, e15, e16, e17, e18, e19, e20, e21, e22, e23]
        clear e0 e1 e2 e3 e4 e5 e6 e7 e8 e9 e10 e11 e12 e13 e14 e15 e16 e17 e18 e19 e20 e21 e22 e23
        refine tail_nil ?_
        have HRV := hid (HRR.out.old hbf)
        have HGV := hid (HGG.out.trans (grown_below hbf (some r)))
        clear hbf
        generalize V = W1 at *
        go_upto_region 4 with fail
        (try simp only [Act.put, zA, zB, zC])
        have hkq : k ≤ q.length := by rw [HQL.out]; have := hpk.out; omega
        have htl : Hid ((q.takeWhile (oneB s)).length = pk - p) := hid (by rw [hT2.out.1, List.length_take, hpk.out]; omega)
        have hdl : Hid ((n - (q.dropWhile (oneB s)).length : Nat) = pk) := hid (by rw [hT2.out.2, List.length_drop, HQL.out, hpk.out]; have := hpk.out; omega)
        have hsub := sub_reads (m := pk - p) (reads_grown HR.out HGV.out hB) HS.out (by omega) hc
        have htk : q.take (pk - p) = q.takeWhile (oneB s) := by rw [hT2.out.1, hpk.out, show p + k - p = k by omega]
        rw [htk] at hsub
        have HSUB := hid hsub
        have CL : Hid (∀ V, Below W1.heap.size W1 V → Calls Tryz.prog 108 #[.slice (if c = p then (some ad) else (some ad).map (·.add p)) (pk - p) (c - p)] V fun e w' => ∃ v, e = .returned v ∧ (∃ A' c', v = .slice A' (pk - p) c' ∧ pk - p ≤ c' ∧ RIn w' (fun k => w.heap.size ≤ k) 1 A' (pk - p) (Lib.byteCells (q.takeWhile (oneB s)))) ∧ Below V.heap.size V w') := hid fun V hV => by
          have hz : w.heap.size ≤ V.heap.size := Nat.le_trans HGV.out.size hV.size
          refine (bytesClone_any _ (pk - p) (c - p) (q.takeWhile (oneB s)) _ V (HSUB.out.old (by omega) hV) (by omega)).mono ?_
          rintro e w' ⟨A', c', h1, h2, h3, h4⟩
          rw [htl.out] at h1 h2 h3
          exact ⟨_, h1, ⟨A', c', rfl, h2, h3.more (fun _ hk => Nat.le_trans hz hk)⟩, h4⟩
        clear hsub htk
        refine wp_R [41, 42, 43, 44, 45, 46, 47, 48, 49, 50, 51] [Rk.val (.pointer (some ⟨r, 0, none⟩)), Rk.val (.pointer (some ⟨r, 0, none⟩)), Rk.val (.pointer (some ⟨r, 0, none⟩)), Rk.val (.slice (some ad) n c), Rk.val (.int .i64 (p : Nat)), Rk.val (.pointer (some ⟨r, 0, none⟩)), Rk.val (.pointer (some ⟨r, 0, none⟩)), Rk.val (.pointer (some ⟨r, 1, none⟩)), Rk.val (.int .i64 (pk : Nat)), Rk.val (.slice (if c = p then (some ad) else ((some ad)).map (·.add p)) (pk - p) (c - p)), Rk.is (fun v V => ∃ A' c', v = .slice A' (pk - p) c' ∧ pk - p ≤ c' ∧ RIn V (fun k => w.heap.size ≤ k) 1 A' (pk - p) (Lib.byteCells (q.takeWhile (oneB s)))) (fun _ _ _ ⟨A', c', e, h1, h2⟩ hb => ⟨A', c', e, h1, h2.old (by omega) hb⟩)] rfl (by kernel_rfl) (by kernel_rfl) (by kernel_rfl) (by kernel_rfl) ?hg3 _ (by rfl) ?hf3
        case hg3 =>
          refine gr_val rfl (by kernel_rfl) (fun a V H K Q hK => op_quiet (quiet_move (.tmp 0) (H.old 0 (by kernel_rfl) (by kernel_rfl)) (.inl (by kernel_rfl))) hK) ?_
          refine gr_val rfl (by kernel_rfl) (fun a V H K Q hK => op_quiet (quiet_nilCheck (.tmp 41) _ (H.rel 0 41 (by kernel_rfl) (by kernel_rfl) rfl) (by kernel_rfl)) hK) ?_
          refine gr_val rfl (by kernel_rfl) (fun a V H K Q hK => op_quiet (quiet_field _ (.tmp 42) 0 _ _ (H.rel 1 42 (by kernel_rfl) (by kernel_rfl) rfl) (fr0 _) rfl) hK) ?_
          refine gr_val rfl (by kernel_rfl) (fun a V H K Q hK => op_quiet (quiet_cell 22 (.tmp 43) _ (H.rel 2 43 (by kernel_rfl) (by kernel_rfl) rfl) Tryz.underlying22 rfl ((HRV.out.old H.frame).all.1) (by kernel_rfl)) hK) ?_
          refine gr_val rfl (by kernel_rfl) (fun a V H K Q hK => op_quiet (quiet_move (.tmp 5) (H.old 5 (by kernel_rfl) (by kernel_rfl)) (.inl (by kernel_rfl))) hK) ?_
          refine gr_val rfl (by kernel_rfl) (fun a V H K Q hK => op_quiet (quiet_move (.tmp 0) (H.old 0 (by kernel_rfl) (by kernel_rfl)) (.inl (by kernel_rfl))) hK) ?_
          refine gr_val rfl (by kernel_rfl) (fun a V H K Q hK => op_quiet (quiet_nilCheck (.tmp 46) _ (H.rel 5 46 (by kernel_rfl) (by kernel_rfl) rfl) (by kernel_rfl)) hK) ?_
          refine gr_val rfl (by kernel_rfl) (fun a V H K Q hK => op_quiet (quiet_field _ (.tmp 47) 1 _ _ (H.rel 6 47 (by kernel_rfl) (by kernel_rfl) rfl) (fr1 _) rfl) hK) ?_
          refine gr_val rfl (by kernel_rfl) (fun a V H K Q hK => op_quiet (quiet_cell 3 (.tmp 48) _ (H.rel 7 48 (by kernel_rfl) (by kernel_rfl) rfl) Tryz.underlying3 rfl ((HRV.out.old H.frame).all.2.1) (by kernel_rfl)) hK) ?_
          refine gr_val rfl (by kernel_rfl) (fun a V H K Q hK => op_quiet (quiet_sliceLH (.tmp 44) (.tmp 45) (.tmp 49) (some ad) n c p pk (H.rel 3 44 (by kernel_rfl) (by kernel_rfl) rfl) (H.rel 4 45 (by kernel_rfl) (by kernel_rfl) rfl) (H.rel 8 49 (by kernel_rfl) (by kernel_rfl) rfl) (by have := hpk.out; omega) (by omega) (by kernel_rfl)) hK) ?_
          refine gr_is rfl (by kernel_rfl) (fun a V H K Q hK => op_callR #[.tmp 50] #[_] (by kernel_rfl) (by kernel_rfl) (by kernel_rfl) (map1 (H.rel 9 50 (by kernel_rfl) (by kernel_rfl) rfl)) (CL.out V H.frame) (by kernel_rfl) hK) ?_
          exact gr_nil
        case hf3 =>
        intro x_ V hF
        have e0 : x_ 0 = .pointer (some ⟨r, 0, none⟩) := hF.rel 0 _ rfl
        have e1 : x_ 1 = .pointer (some ⟨r, 0, none⟩) := hF.rel 1 _ rfl
        have e2 : x_ 2 = .pointer (some ⟨r, 0, none⟩) := hF.rel 2 _ rfl
        have e3 : x_ 3 = .slice (some ad) n c := hF.rel 3 _ rfl
        have e4 : x_ 4 = .int .i64 (p : Nat) := hF.rel 4 _ rfl
        have e5 : x_ 5 = .pointer (some ⟨r, 0, none⟩) := hF.rel 5 _ rfl
        have e6 : x_ 6 = .pointer (some ⟨r, 0, none⟩) := hF.rel 6 _ rfl
        have e7 : x_ 7 = .pointer (some ⟨r, 1, none⟩) := hF.rel 7 _ rfl
        have e8 : x_ 8 = .int .i64 (pk : Nat) := hF.rel 8 _ rfl
        have e9 : x_ 9 = .slice (if c = p then (some ad) else ((some ad)).map (·.add p)) (pk - p) (c - p) := hF.rel 9 _ rfl
        obtain ⟨A9, c9, e10, h91, h92⟩ : ∃ A' c', x_ 10 = .slice A' (pk - p) c' ∧ pk - p ≤ c' ∧ RIn V (fun k => w.heap.size ≤ k) 1 A' (pk - p) (Lib.byteCells (q.takeWhile (oneB s))) := hF.rel 10 _ rfl
        have hbf := hF.frame
        clear hF
        simp only [Sch.finL, zA, zB, zC, e0, e1, e2, e3, e4, e5, e6, e7, e8, e9, e10]
        clear e0 e1 e2 e3 e4 e5 e6 e7 e8 e9 e10
        have HRX := hid (HRV.out.old hbf)
        have HGX := hid (HGV.out.trans (grown_below hbf (some r)))
        have H92 := hid h92
        clear hbf h92
        generalize (if c = p then ((some ad)) else ((some ad)).map (·.add p)) = A5 at *
        go_wp2_with fail
        go_ret
        refine ⟨A9, c9, ?_, by rw [htl.out]; exact h91, by rw [htl.out]; exact H92.out, by rw [hdl.out]; exact HRX.out, HGX.out⟩
        rw [htl.out]
        rfl
    · have hkn : k = q.length := by rw [HQL.out]; have := hpk.out; omega
      have hT2 : Hid (q.takeWhile (oneB s) = q.take k ∧ q.dropWhile (oneB s) = q.drop k) := hid (by
        have e : q.drop k = [] := List.drop_eq_nil_of_le (by omega)
        exact ⟨by rw [hT.out.1, e]; simp, by rw [hT.out.2, e]; rfl⟩)
      have hlt' : Hid (decide ((pk : Int) < (n : Int)) = false) := hid (by simp; omega)
      have hpn : pk ≤ n := by have := hpk.out; omega
      clear hrd hR hg
      go_upto_region 2 with fail
      (try simp only [Act.put, zA, zB, zC])
      refine wp_R [10, 11, 12, 13, 14, 15, 16, 17, 18, 19, 20, 21, 22, 23, 24, 25, 26, 27, 28, 29, 30, 31, 32, 33] [Rk.val (.pointer (some ⟨r, 0, none⟩)), Rk.val (.pointer (some ⟨r, 0, none⟩)), Rk.val (.pointer (some ⟨r, 1, none⟩)), Rk.val (.int .i64 (pk : Nat)), Rk.val (.pointer (some ⟨r, 0, none⟩)), Rk.val (.pointer (some ⟨r, 0, none⟩)), Rk.val (.pointer (some ⟨r, 0, none⟩)), Rk.val (.slice A n c), Rk.val (.int .i64 (n : Nat)), Rk.val (.bool false), Rk.val (.bool false), Rk.val undef, Rk.val undef, Rk.val undef, Rk.val undef, Rk.val undef, Rk.val undef, Rk.val undef, Rk.val undef, Rk.val undef, Rk.val undef, Rk.val undef, Rk.val undef, Rk.val (.bool false)] rfl (by kernel_rfl) (by kernel_rfl) (by kernel_rfl) (by kernel_rfl) ?hg4 _ (by rfl) ?hf4
      case hg4 =>
        refine gr_val rfl (by kernel_rfl) (fun a V H K Q hK => op_quiet (quiet_move (.tmp 0) (H.old 0 (by kernel_rfl) (by kernel_rfl)) (.inl (by kernel_rfl))) hK) ?_
        refine gr_val rfl (by kernel_rfl) (fun a V H K Q hK => op_quiet (quiet_nilCheck (.tmp 10) _ (H.rel 0 10 (by kernel_rfl) (by kernel_rfl) rfl) (by kernel_rfl)) hK) ?_
        refine gr_val rfl (by kernel_rfl) (fun a V H K Q hK => op_quiet (quiet_field _ (.tmp 11) 1 _ _ (H.rel 1 11 (by kernel_rfl) (by kernel_rfl) rfl) (fr1 _) rfl) hK) ?_
        refine gr_val rfl (by kernel_rfl) (fun a V H K Q hK => op_quiet (quiet_cell 3 (.tmp 12) _ (H.rel 2 12 (by kernel_rfl) (by kernel_rfl) rfl) Tryz.underlying3 rfl ((HRR.out.old H.frame).all.2.1) (by kernel_rfl)) hK) ?_
        refine gr_val rfl (by kernel_rfl) (fun a V H K Q hK => op_quiet (quiet_move (.tmp 0) (H.old 0 (by kernel_rfl) (by kernel_rfl)) (.inl (by kernel_rfl))) hK) ?_
        refine gr_val rfl (by kernel_rfl) (fun a V H K Q hK => op_quiet (quiet_nilCheck (.tmp 14) _ (H.rel 4 14 (by kernel_rfl) (by kernel_rfl) rfl) (by kernel_rfl)) hK) ?_
        refine gr_val rfl (by kernel_rfl) (fun a V H K Q hK => op_quiet (quiet_field _ (.tmp 15) 0 _ _ (H.rel 5 15 (by kernel_rfl) (by kernel_rfl) rfl) (fr0 _) rfl) hK) ?_
        refine gr_val rfl (by kernel_rfl) (fun a V H K Q hK => op_quiet (quiet_cell 22 (.tmp 16) _ (H.rel 6 16 (by kernel_rfl) (by kernel_rfl) rfl) Tryz.underlying22 rfl ((HRR.out.old H.frame).all.1) (by kernel_rfl)) hK) ?_
        refine gr_val rfl (by kernel_rfl) (fun a V H K Q hK => op_quiet (quiet_len (.tmp 17) A n c 22 5 (H.rel 7 17 (by kernel_rfl) (by kernel_rfl) rfl) Tryz.underlying22 (by kernel_rfl)) hK) ?_
        refine gr_val rfl (by kernel_rfl) (fun a V H K Q hK => op_quiet (quiet_lssB (.tmp 13) (.tmp 18) (pk : Int) (n : Int) 3 3 false hlt'.out (H.rel 3 13 (by kernel_rfl) (by kernel_rfl) rfl) (H.rel 8 18 (by kernel_rfl) (by kernel_rfl) rfl) Tryz.underlying3 (by kernel_rfl)) hK) ?_
        refine gr_val rfl (by kernel_rfl) (fun a V H K Q hK => op_quiet (quiet_move (.tmp 19) (H.rel 9 19 (by kernel_rfl) (by kernel_rfl) rfl) (.inl (by kernel_rfl))) hK) ?_
        refine gr_offV (j := 10) (d := 20) (want := true) (u := .bool false) rfl (by kernel_rfl) (by kernel_rfl) (fun a V H => (H.rel 10 20 (by kernel_rfl) (by kernel_rfl) rfl)) (by kernel_rfl) ?_
        refine gr_offV (j := 10) (d := 20) (want := true) (u := .bool false) rfl (by kernel_rfl) (by kernel_rfl) (fun a V H => (H.rel 10 20 (by kernel_rfl) (by kernel_rfl) rfl)) (by kernel_rfl) ?_
        refine gr_offV (j := 10) (d := 20) (want := true) (u := .bool false) rfl (by kernel_rfl) (by kernel_rfl) (fun a V H => (H.rel 10 20 (by kernel_rfl) (by kernel_rfl) rfl)) (by kernel_rfl) ?_
        refine gr_offV (j := 10) (d := 20) (want := true) (u := .bool false) rfl (by kernel_rfl) (by kernel_rfl) (fun a V H => (H.rel 10 20 (by kernel_rfl) (by kernel_rfl) rfl)) (by kernel_rfl) ?_
        refine gr_offV (j := 10) (d := 20) (want := true) (u := .bool false) rfl (by kernel_rfl) (by kernel_rfl) (fun a V H => (H.rel 10 20 (by kernel_rfl) (by kernel_rfl) rfl)) (by kernel_rfl) ?_
        refine gr_offV (j := 10) (d := 20) (want := true) (u := .bool false) rfl (by kernel_rfl) (by kernel_rfl) (fun a V H => (H.rel 10 20 (by kernel_rfl) (by kernel_rfl) rfl)) (by kernel_rfl) ?_
        refine gr_offV (j := 10) (d := 20) (want := true) (u := .bool false) rfl (by kernel_rfl) (by kernel_rfl) (fun a V H => (H.rel 10 20 (by kernel_rfl) (by kernel_rfl) rfl)) (by kernel_rfl) ?_
        refine gr_offV (j := 10) (d := 20) (want := true) (u := .bool false) rfl (by kernel_rfl) (by kernel_rfl) (fun a V H => (H.rel 10 20 (by kernel_rfl) (by kernel_rfl) rfl)) (by kernel_rfl) ?_
        refine gr_offV (j := 10) (d := 20) (want := true) (u := .bool false) rfl (by kernel_rfl) (by kernel_rfl) (fun a V H => (H.rel 10 20 (by kernel_rfl) (by kernel_rfl) rfl)) (by kernel_rfl) ?_
        refine gr_offV (j := 10) (d := 20) (want := true) (u := .bool false) rfl (by kernel_rfl) (by kernel_rfl) (fun a V H => (H.rel 10 20 (by kernel_rfl) (by kernel_rfl) rfl)) (by kernel_rfl) ?_
        refine gr_offV (j := 10) (d := 20) (want := true) (u := .bool false) rfl (by kernel_rfl) (by kernel_rfl) (fun a V H => (H.rel 10 20 (by kernel_rfl) (by kernel_rfl) rfl)) (by kernel_rfl) ?_
        refine gr_offV (j := 10) (d := 20) (want := true) (u := .bool false) rfl (by kernel_rfl) (by kernel_rfl) (fun a V H => (H.rel 10 20 (by kernel_rfl) (by kernel_rfl) rfl)) (by kernel_rfl) ?_
        refine gr_val rfl (by kernel_rfl) (fun a V H K Q hK => op_quiet (quiet_pickF (.tmp 20) (.tmp 32) (.const (.bool false)) (H.rel 10 20 (by kernel_rfl) (by kernel_rfl) rfl) rfl (by kernel_rfl)) hK) ?_
        exact gr_nil
      case hf4 =>
      intro x_ V hF
      have e0 : x_ 0 = .pointer (some ⟨r, 0, none⟩) := hF.rel 0 _ rfl
      have e1 : x_ 1 = .pointer (some ⟨r, 0, none⟩) := hF.rel 1 _ rfl
      have e2 : x_ 2 = .pointer (some ⟨r, 1, none⟩) := hF.rel 2 _ rfl
      have e3 : x_ 3 = .int .i64 (pk : Nat) := hF.rel 3 _ rfl
      have e4 : x_ 4 = .pointer (some ⟨r, 0, none⟩) := hF.rel 4 _ rfl
      have e5 : x_ 5 = .pointer (some ⟨r, 0, none⟩) := hF.rel 5 _ rfl
      have e6 : x_ 6 = .pointer (some ⟨r, 0, none⟩) := hF.rel 6 _ rfl
      have e7 : x_ 7 = .slice A n c := hF.rel 7 _ rfl
      have e8 : x_ 8 = .int .i64 (n : Nat) := hF.rel 8 _ rfl
      have e9 : x_ 9 = .bool false := hF.rel 9 _ rfl
      have e10 : x_ 10 = .bool false := hF.rel 10 _ rfl
      have e11 : x_ 11 = undef := hF.rel 11 _ rfl
      have e12 : x_ 12 = undef := hF.rel 12 _ rfl
      have e13 : x_ 13 = undef := hF.rel 13 _ rfl
      have e14 : x_ 14 = undef := hF.rel 14 _ rfl
      have e15 : x_ 15 = undef := hF.rel 15 _ rfl
      have e16 : x_ 16 = undef := hF.rel 16 _ rfl
      have e17 : x_ 17 = undef := hF.rel 17 _ rfl
      have e18 : x_ 18 = undef := hF.rel 18 _ rfl
      have e19 : x_ 19 = undef := hF.rel 19 _ rfl
      have e20 : x_ 20 = undef := hF.rel 20 _ rfl
      have e21 : x_ 21 = undef := hF.rel 21 _ rfl
      have e22 : x_ 22 = undef := hF.rel 22 _ rfl
      have e23 : x_ 23 = .bool false := hF.rel 23 _ rfl
      have hbf := hF.frame
      clear hF
      simp only [Sch.finL, zA, zB, zC, e0, e1, e2, e3, e4, e5, e6, e7, e8, e9, e10, e11, e12, e13, e14, e15, e16, e17, e18, e19, e20, e21, e22, e23]
      clear e0 e1 e2 e3 e4 e5 e6 e7 e8 e9 e10 e11 e12 e13 e14 e15 e16 e17 e18 e19 e20 e21 e22 e23
      refine tail_nil ?_
      have HRV := hid (HRR.out.old hbf)
      have HGV := hid (HGG.out.trans (grown_below hbf (some r)))
      clear hbf
      generalize V = W1 at *
      go_upto_region 4 with fail
      (try simp only [Act.put, zA, zB, zC])
      have hkq : k ≤ q.length := by rw [HQL.out]; have := hpk.out; omega
      have htl : Hid ((q.takeWhile (oneB s)).length = pk - p) := hid (by rw [hT2.out.1, List.length_take, hpk.out]; omega)
      have hdl : Hid ((n - (q.dropWhile (oneB s)).length : Nat) = pk) := hid (by rw [hT2.out.2, List.length_drop, HQL.out, hpk.out]; have := hpk.out; omega)
      have hsub := sub_reads (m := pk - p) (reads_grown HR.out HGV.out hB) HS.out (by omega) hc
      have htk : q.take (pk - p) = q.takeWhile (oneB s) := by rw [hT2.out.1, hpk.out, show p + k - p = k by omega]
      rw [htk] at hsub
      have HSUB := hid hsub
      have CL : Hid (∀ V, Below W1.heap.size W1 V → Calls Tryz.prog 108 #[.slice (if c = p then A else A.map (·.add p)) (pk - p) (c - p)] V fun e w' => ∃ v, e = .returned v ∧ (∃ A' c', v = .slice A' (pk - p) c' ∧ pk - p ≤ c' ∧ RIn w' (fun k => w.heap.size ≤ k) 1 A' (pk - p) (Lib.byteCells (q.takeWhile (oneB s)))) ∧ Below V.heap.size V w') := hid fun V hV => by
        have hz : w.heap.size ≤ V.heap.size := Nat.le_trans HGV.out.size hV.size
        refine (bytesClone_any _ (pk - p) (c - p) (q.takeWhile (oneB s)) _ V (HSUB.out.old (by omega) hV) (by omega)).mono ?_
        rintro e w' ⟨A', c', h1, h2, h3, h4⟩
        rw [htl.out] at h1 h2 h3
        exact ⟨_, h1, ⟨A', c', rfl, h2, h3.more (fun _ hk => Nat.le_trans hz hk)⟩, h4⟩
      clear hsub htk
      refine wp_R [41, 42, 43, 44, 45, 46, 47, 48, 49, 50, 51] [Rk.val (.pointer (some ⟨r, 0, none⟩)), Rk.val (.pointer (some ⟨r, 0, none⟩)), Rk.val (.pointer (some ⟨r, 0, none⟩)), Rk.val (.slice A n c), Rk.val (.int .i64 (p : Nat)), Rk.val (.pointer (some ⟨r, 0, none⟩)), Rk.val (.pointer (some ⟨r, 0, none⟩)), Rk.val (.pointer (some ⟨r, 1, none⟩)), Rk.val (.int .i64 (pk : Nat)), Rk.val (.slice (if c = p then A else (A).map (·.add p)) (pk - p) (c - p)), Rk.is (fun v V => ∃ A' c', v = .slice A' (pk - p) c' ∧ pk - p ≤ c' ∧ RIn V (fun k => w.heap.size ≤ k) 1 A' (pk - p) (Lib.byteCells (q.takeWhile (oneB s)))) (fun _ _ _ ⟨A', c', e, h1, h2⟩ hb => ⟨A', c', e, h1, h2.old (by omega) hb⟩)] rfl (by kernel_rfl) (by kernel_rfl) (by kernel_rfl) (by kernel_rfl) ?hg5 _ (by rfl) ?hf5
      case hg5 =>
        refine gr_val rfl (by kernel_rfl) (fun a V H K Q hK => op_quiet (quiet_move (.tmp 0) (H.old 0 (by kernel_rfl) (by kernel_rfl)) (.inl (by kernel_rfl))) hK) ?_
        refine gr_val rfl (by kernel_rfl) (fun a V H K Q hK => op_quiet (quiet_nilCheck (.tmp 41) _ (H.rel 0 41 (by kernel_rfl) (by kernel_rfl) rfl) (by kernel_rfl)) hK) ?_
        refine gr_val rfl (by kernel_rfl) (fun a V H K Q hK => op_quiet (quiet_field _ (.tmp 42) 0 _ _ (H.rel 1 42 (by kernel_rfl) (by kernel_rfl) rfl) (fr0 _) rfl) hK) ?_
        refine gr_val rfl (by kernel_rfl) (fun a V H K Q hK => op_quiet (quiet_cell 22 (.tmp 43) _ (H.rel 2 43 (by kernel_rfl) (by kernel_rfl) rfl) Tryz.underlying22 rfl ((HRV.out.old H.frame).all.1) (by kernel_rfl)) hK) ?_
        refine gr_val rfl (by kernel_rfl) (fun a V H K Q hK => op_quiet (quiet_move (.tmp 5) (H.old 5 (by kernel_rfl) (by kernel_rfl)) (.inl (by kernel_rfl))) hK) ?_
        refine gr_val rfl (by kernel_rfl) (fun a V H K Q hK => op_quiet (quiet_move (.tmp 0) (H.old 0 (by kernel_rfl) (by kernel_rfl)) (.inl (by kernel_rfl))) hK) ?_
        refine gr_val rfl (by kernel_rfl) (fun a V H K Q hK => op_quiet (quiet_nilCheck (.tmp 46) _ (H.rel 5 46 (by kernel_rfl) (by kernel_rfl) rfl) (by kernel_rfl)) hK) ?_
        refine gr_val rfl (by kernel_rfl) (fun a V H K Q hK => op_quiet (quiet_field _ (.tmp 47) 1 _ _ (H.rel 6 47 (by kernel_rfl) (by kernel_rfl) rfl) (fr1 _) rfl) hK) ?_
        refine gr_val rfl (by kernel_rfl) (fun a V H K Q hK => op_quiet (quiet_cell 3 (.tmp 48) _ (H.rel 7 48 (by kernel_rfl) (by kernel_rfl) rfl) Tryz.underlying3 rfl ((HRV.out.old H.frame).all.2.1) (by kernel_rfl)) hK) ?_
        refine gr_val rfl (by kernel_rfl) (fun a V H K Q hK => op_quiet (quiet_sliceLH (.tmp 44) (.tmp 45) (.tmp 49) A n c p pk (H.rel 3 44 (by kernel_rfl) (by kernel_rfl) rfl) (H.rel 4 45 (by kernel_rfl) (by kernel_rfl) rfl) (H.rel 8 49 (by kernel_rfl) (by kernel_rfl) rfl) (by have := hpk.out; omega) (by omega) (by kernel_rfl)) hK) ?_
        refine gr_is rfl (by kernel_rfl) (fun a V H K Q hK => op_callR #[.tmp 50] #[_] (by kernel_rfl) (by kernel_rfl) (by kernel_rfl) (map1 (H.rel 9 50 (by kernel_rfl) (by kernel_rfl) rfl)) (CL.out V H.frame) (by kernel_rfl) hK) ?_
        exact gr_nil
      case hf5 =>
      intro x_ V hF
      have e0 : x_ 0 = .pointer (some ⟨r, 0, none⟩) := hF.rel 0 _ rfl
      have e1 : x_ 1 = .pointer (some ⟨r, 0, none⟩) := hF.rel 1 _ rfl
      have e2 : x_ 2 = .pointer (some ⟨r, 0, none⟩) := hF.rel 2 _ rfl
      have e3 : x_ 3 = .slice A n c := hF.rel 3 _ rfl
      have e4 : x_ 4 = .int .i64 (p : Nat) := hF.rel 4 _ rfl
      have e5 : x_ 5 = .pointer (some ⟨r, 0, none⟩) := hF.rel 5 _ rfl
      have e6 : x_ 6 = .pointer (some ⟨r, 0, none⟩) := hF.rel 6 _ rfl
      have e7 : x_ 7 = .pointer (some ⟨r, 1, none⟩) := hF.rel 7 _ rfl
      have e8 : x_ 8 = .int .i64 (pk : Nat) := hF.rel 8 _ rfl
      have e9 : x_ 9 = .slice (if c = p then A else (A).map (·.add p)) (pk - p) (c - p) := hF.rel 9 _ rfl
      obtain ⟨A9, c9, e10, h91, h92⟩ : ∃ A' c', x_ 10 = .slice A' (pk - p) c' ∧ pk - p ≤ c' ∧ RIn V (fun k => w.heap.size ≤ k) 1 A' (pk - p) (Lib.byteCells (q.takeWhile (oneB s))) := hF.rel 10 _ rfl
      have hbf := hF.frame
      clear hF
      simp only [Sch.finL, zA, zB, zC, e0, e1, e2, e3, e4, e5, e6, e7, e8, e9, e10]
      clear e0 e1 e2 e3 e4 e5 e6 e7 e8 e9 e10
      have HRX := hid (HRV.out.old hbf)
      have HGX := hid (HGV.out.trans (grown_below hbf (some r)))
      have H92 := hid h92
      clear hbf h92
      generalize (if c = p then (A) else (A).map (·.add p)) = A5 at *
      go_wp2_with fail
      go_ret
      refine ⟨A9, c9, ?_, by rw [htl.out]; exact h91, by rw [htl.out]; exact H92.out, by rw [hdl.out]; exact HRX.out, HGX.out⟩
      rw [htl.out]
      rfl
end Go.Proofs.YtcojkmcnigppbaaGreatDoor.Nt
end
section
set_option maxRecDepth 100000
namespace Go.Proofs.YtcojkmcnigppbaaGreatDoor.Nt
open Go Go.Proofs Go.RowKit Sx Oct
abbrev blS : ByteArray := ⟨#[32, 9, 10, 11, 12, 13]⟩
abbrev tokS : ByteArray := { data := ([65, 66, 67, 68, 69, 70, 71, 72, 73, 74, 75, 76, 77, 78, 79, 80, 81, 82, 83, 84, 85, 86, 87, 88, 89, 90, 97, 98, 99, 100, 101, 102, 103, 104, 105].append [106, 107, 108, 109, 110, 111, 112, 113, 114, 115, 116, 117, 118, 119, 120, 121, 122, 48, 49, 50, 51, 52, 53, 54, 55, 56, 57, 46, 47, 95, 58, 42, 43, 61, 45]).toArray }
abbrev digS : ByteArray := ⟨#[48, 49, 50, 51, 52, 53, 54, 55, 56, 57]⟩
abbrev hexS : ByteArray := ⟨#[48, 49, 50, 51, 52, 53, 54, 55, 56, 57, 65, 66, 67, 68, 69, 70, 97, 98, 99, 100, 101, 102]⟩
theorem all_bytes {f g : UInt8 → Bool} (h : ∀ x : Fin 256, f (UInt8.ofNat x.val) = g (UInt8.ofNat x.val)) : f = g := by
  funext c
  have := h ⟨c.toNat, c.toNat_lt⟩
  simpa using this
theorem blank_sign : oneB blS = isBlank := all_bytes (by decide +kernel)
theorem tok_sign : oneB tokS = isTok := all_bytes (by decide +kernel)
theorem dig_sign : oneB digS = isDig := all_bytes (by decide +kernel)
theorem hexS_sign : oneB hexS = isHexS := all_bytes (by decide +kernel)
theorem one_run (s : ByteArray) (r : Nat) (A : Option Addr) (n c p : Nat) (nd : Int) (b : List UInt8) (B : Nat) (w : World) (h : RdAt w r A n c p nd) (hr : Reads w B 1 A n (Lib.byteCells b)) (hB : B ≤ r) (hp : p ≤ n) (hn : n ≤ 20000) (hc : n ≤ c) (q : List UInt8) (hs : b.drop p = q) :
    Calls Tryz.prog 79 #[.pointer (some ⟨r, 0, none⟩), .func (.func 87) #[] #[.pointer (some ⟨w.heap.size, 0, none⟩)]] (w.alloc (.cells #[.string s] 9)) (RunEnd w r A n c nd (oneB s) q) := by
  have hb := below_new w (.cells #[.string s] 9)
  have hk : (w.alloc (.cells #[.string s] 9)).cell? ⟨w.heap.size, 0, none⟩ = some (.string s) := by
    rw [Lib.cell_of_heap (heap_alloc_new w _)]; rfl
  refine (run_any s w.heap.size r A n c p nd b B _ (h.old hb) (reads_grown hr (grown_below hb (some r)) hB) hB hk (by have := h.lt; omega) hp hn hc q hs).mono ?_
  rintro e w' ⟨A', c', h1, h2, h3, h4, h5⟩
  exact ⟨A', c', h1, h2, h3.more (fun k hk => Nat.le_trans hb.size hk), h4, (grown_below hb (some r)).trans h5⟩
def PartEnd (w : World) (r : Nat) (A : Option Addr) (n c : Nat) (nd : Int) (q : List UInt8) (e : Ending) (w' : World) : Prop :=
  match skip q with
  | [] => Thrown 2 n e ∧ w.grownBy w' (some r)
  | x :: q' => e = .returned (.int .u8 x.toNat) ∧ RdAt w' r A n c (n - (x :: q').length : Nat) nd ∧ w.grownBy w' (some r)
set_option maxHeartbeats 2000000 in
theorem part_any (r : Nat) (A : Option Addr) (n c p : Nat) (nd : Int) (b : List UInt8) (B : Nat) (w : World) (h : RdAt w r A n c p nd) (hr : Reads w B 1 A n (Lib.byteCells b)) (hB : B ≤ r) (hp : p ≤ n) (hn : n ≤ 20000) (hc : n ≤ c) (q : List UInt8) (hs : b.drop p = q) :
    Calls Tryz.prog 80 #[.pointer (some ⟨r, 0, none⟩)] w (PartEnd w r A n c nd q) := by
  have hl : b.length = n := by have := hr.1; simpa [Lib.byteCells_length] using this
  have C1 := hid (oneOf_any blS w)
  have C2 := hid (one_run blS r A n c p nd b B w h hr hB hp hn hc q hs)
  rw [blank_sign] at C2
  have HR := hid hr
  have hd : b.drop (n - (skip q).length) = skip q := by
    obtain ⟨t, ht⟩ := Tail.skip q
    have e : b = (b.take p ++ t) ++ skip q := by rw [List.append_assoc, ← ht, ← hs, List.take_append_drop]
    have hlen := congrArg List.length e
    rw [List.length_append] at hlen
    conv => lhs; rw [e]
    rw [List.drop_append_of_le_length (by rw [← hl]; omega), List.drop_of_length_le (by rw [← hl]; omega), List.nil_append]
  have hsl : (skip q).length ≤ n := by
    have h1 := (Tail.skip q).le
    have h2 : q.length = n - p := by rw [← hs, List.length_drop, hl]
    omega
  unfold PartEnd
  cases hsk : skip q with
  | nil =>
    simp only
    have hdw : q.dropWhile isBlank = [] := hsk
    have CN : Hid (∀ W, RdAt W r A n c (n - (q.dropWhile isBlank).length : Nat) nd → Calls Tryz.prog 85 #[.pointer (some ⟨r, 0, none⟩)] W fun e w' => Thrown 2 n e ∧ Below W.heap.size W w') := hid fun W hW => next_end r A n c _ nd W hW (by rw [hdw]; simp) hn (by omega)
    clear h hr hs hd hl hdw hsk
    go_enter Tryz.func80, Tryz.ntmps80
    go_wp2_with (first
      | ((with_reducible refine C1.out.mono ?_); rintro e w1 ⟨rfl, rfl⟩)
      | ((with_reducible refine C2.out.mono ?_); rintro e w2 ⟨A', c', rfl, _, _, hR2, hg2⟩)
      | ((with_reducible refine (CN.out w2 hR2).mono ?_); rintro e w3 ⟨rfl, hb3⟩))
    exact ⟨rfl, rfl, hg2.trans (grown_below hb3 _)⟩
  | cons x q' =>
    simp only
    have hdw : q.dropWhile isBlank = x :: q' := hsk
    have CN : Hid (∀ W, RdAt W r A n c (n - (q.dropWhile isBlank).length : Nat) nd → w.grownBy W (some r) → Calls Tryz.prog 85 #[.pointer (some ⟨r, 0, none⟩)] W fun e w' => e = .returned (.int .u8 x.toNat) ∧ Below W.heap.size W w') := hid fun W hW hg =>
      next_at r A n c _ nd b B W hW (reads_grown HR.out hg hB) (by rw [hdw]; rw [hsk] at hsl; simp only [List.length_cons] at hsl ⊢; omega) hn x q' (by have := hd; rw [hsk] at this; rw [hdw]; exact this)
    have HSK := hid hdw
    clear h hr hs hd hl hsk hdw
    go_enter Tryz.func80, Tryz.ntmps80
    go_wp2_with (first
      | ((with_reducible refine C1.out.mono ?_); rintro e w1 ⟨rfl, rfl⟩)
      | ((with_reducible refine C2.out.mono ?_); rintro e w2 ⟨A', c', rfl, _, _, hR2, hg2⟩)
      | ((with_reducible refine (CN.out w2 hR2 hg2).mono ?_); rintro e w3 ⟨rfl, hb3⟩))
    go_ret
    refine ⟨rfl, ?_, hg2.trans (grown_below hb3 _)⟩
    have := hR2.old hb3
    rw [HSK.out] at this; exact this
def ExpEnd (k : UInt8) (w : World) (r : Nat) (A : Option Addr) (n c : Nat) (nd : Int) (q : List UInt8) (e : Ending) (w' : World) : Prop :=
  match skip q with
  | [] => Thrown 2 n e ∧ w.grownBy w' (some r)
  | x :: q' => if x = k then e = .returned (.tuple #[]) ∧ RdAt w' r A n c (n - q'.length : Nat) nd ∧ w.grownBy w' (some r) else Thrown 3 (n - (x :: q').length) e ∧ w.grownBy w' (some r)
set_option maxHeartbeats 2000000 in
theorem expect_any (k : UInt8) (r : Nat) (A : Option Addr) (n c p : Nat) (nd : Int) (b : List UInt8) (B : Nat) (w : World) (h : RdAt w r A n c p nd) (hr : Reads w B 1 A n (Lib.byteCells b)) (hB : B ≤ r) (hp : p ≤ n) (hn : n ≤ 20000) (hc : n ≤ c) (q : List UInt8) (hs : b.drop p = q) :
    Calls Tryz.prog 53 #[.pointer (some ⟨r, 0, none⟩), .int .u8 k.toNat] w (ExpEnd k w r A n c nd q) := by
  have hl : b.length = n := by have := hr.1; simpa [Lib.byteCells_length] using this
  have C := part_any r A n c p nd b B w h hr hB hp hn hc q hs
  have hsl : (skip q).length ≤ n := by
    have h1 := (Tail.skip q).le
    have h2 : q.length = n - p := by rw [← hs, List.length_drop, hl]
    omega
  unfold PartEnd at C
  unfold ExpEnd
  cases hsk : skip q with
  | nil =>
    rw [hsk] at C
    simp only at C ⊢
    have C := hid C
    clear h hr hs hl hsl
    go_enter Tryz.func53, Tryz.ntmps53
    go_wp2_with ((with_reducible refine C.out.mono ?_); rintro e w2 ⟨rfl, hg2⟩)
    exact ⟨rfl, rfl, hg2⟩
  | cons x q' =>
    rw [hsk] at C hsl
    simp only at C ⊢
    have C := hid C
    have hlen : (x :: q').length = q'.length + 1 := rfl
    obtain ⟨pp, hpp⟩ := namedN (n - (x :: q').length)
    rw [← hpp.out] at C ⊢
    have hpn : pp + 1 = n - q'.length := by rw [hpp.out]; omega
    have hp2 : pp ≤ 20000 := by omega
    clear h hr hs hl hsl
    by_cases hx : x = k
    · simp only [if_pos hx]
      subst hx
      have hne : ((x.toNat : Int) != x.toNat) = false := by simp
      have hwp : IntKind.i64.wrap ((pp : Int) + 1) = ((pp + 1 : Nat) : Int) := by rw [IntWalk.i64_in _ (by omega)]; rfl
      go_enter Tryz.func53, Tryz.ntmps53
      go_wp2_with ((with_reducible refine C.out.mono ?_); rintro e w2 ⟨rfl, hR2, hg2⟩; obtain ⟨c0, c1, c2, f1, f2⟩ := hR2.all)
      go_end0
      exact ⟨rfl, by rw [← hpn]; exact hR2.set1 _, hg2.trans (grown_set _ _ _ _)⟩
    · simp only [if_neg hx]
      have hne : ((x.toNat : Int) != k.toNat) = true := by rw [bne_iff_ne]; exact fun e => hx (UInt8.toNat_inj.1 (by omega))
      go_enter Tryz.func53, Tryz.ntmps53
      go_wp2_with ((with_reducible refine C.out.mono ?_); rintro e w2 ⟨rfl, hR2, hg2⟩; obtain ⟨c0, c1, c2, f1, f2⟩ := hR2.all)
      exact ⟨rfl, rfl, hg2⟩
end Go.Proofs.YtcojkmcnigppbaaGreatDoor.Nt
end
