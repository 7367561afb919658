/-
  Several texts in one: Sch3, TgRng, TgGetA, TgOk, Clone, TgAwake, TgLawM, RowBytes, OpenSx, OpenTg. Conditions: those that each theorem states.
-/
import Derived.Test.YtinlonpcakkfhaaGreatDoorM2
import Derived.OpenShut
import Derived.ProofKit
import Derived.Deep.Slices
import Derived.Deep.Fields
import Derived.ChangeSame
set_option linter.unusedVariables false
set_option linter.unusedSimpArgs false
open Go.Lib (hid)
open Go.Proofs.YtinlonpcakkfhaaGreatDoor (zA zB zC zD zE zF)

section
set_option maxRecDepth 100000
namespace Go.Proofs.YtinlonpcakkfhaaGreatDoor.Sch
open Go Go.Proofs Go.RowKit
structure FrG (g : Nat) (u v : World) : Prop where
  os : v.os = u.os
  tape : v.tape = u.tape
  output : v.output = u.output
  size : u.heap.size ≤ v.heap.size
  block : ∀ k, k < u.heap.size → k ≠ g → v.heap[k]? = u.heap[k]?
theorem FrG.refl (g : Nat) (w : World) : FrG g w w := ⟨rfl, rfl, rfl, Nat.le_refl _, fun _ _ _ => rfl⟩
theorem FrG.step {g : Nat} {u v v' : World} (h : FrG g u v) (hb : Below v.heap.size v v') : FrG g u v' :=
  ⟨hb.os.trans h.os, hb.tape.trans h.tape, hb.output.trans h.output, Nat.le_trans h.size hb.size, fun k hk hne => (hb.block k (Nat.lt_of_lt_of_le hk h.size)).trans (h.block k hk hne)⟩
theorem FrG.row {g : Nat} {u v : World} (h : FrG g u v) (c : Array Value) : FrG g u (v.setRow g c) :=
  ⟨h.os, h.tape, h.output, by simp; exact h.size, fun k hk hne => (setRow_other v g k c hne).trans (h.block k hk hne)⟩
theorem FrG.drew {g : Nat} (w : World) : FrG g w w.drew := ⟨rfl, rfl, rfl, Nat.le_refl _, fun _ _ _ => rfl⟩
theorem FrG.below {g B : Nat} {u v : World} (h : FrG g u v) (hB : B ≤ g) (hs : g < u.heap.size) : Below B u v := ⟨h.os, h.tape, h.output, h.size, fun k hk => h.block k (by omega) (by omega)⟩
theorem FrG.cell {g : Nat} {u v : World} (h : FrG g u v) {p : Addr} (hp : p.block < u.heap.size) (hne : p.block ≠ g) : v.cell? p = u.cell? p := World.cell?_of_block (h.block _ hp hne)
theorem FrG.blk {g k : Nat} {u v : World} {T : TypeId} {c : Array Value} (h : FrG g u v) (hb : Blk u k T c) (hne : k ≠ g) : Blk v k T c := (h.block k hb.lt hne).trans hb
structure Rk3 (g : Nat) where
  p : Value → World → Prop
  hk : ∀ v V V', p v V → Below V.heap.size V V' → p v V'
  hr : ∀ v V c, p v V → p v (V.setRow g c)
def Rk3.val (g : Nat) (u : Value) : Rk3 g := ⟨fun v _ => v = u, fun _ _ _ h _ => h, fun _ _ _ h => h⟩
def rel3 {g : Nat} (PL : List (Option (Rk3 g))) (i : Nat) (v : Value) (V : World) : Prop := match PL[i]? with | some (some r) => r.p v V | _ => True
theorem rel3_at {g : Nat} {PL : List (Option (Rk3 g))} {i : Nat} {r : Rk3 g} (h : PL[i]? = some (some r)) {v : Value} {V : World} : rel3 PL i v V ↔ r.p v V := by unfold rel3; rw [h]
theorem rel3_keep {g : Nat} {PL : List (Option (Rk3 g))} {i : Nat} {v : Value} {V V' : World} (h : rel3 PL i v V) (hb : Below V.heap.size V V') : rel3 PL i v V' := by
  unfold rel3 at h ⊢
  split
  · rename_i r hr; rw [hr] at h; exact r.hk _ _ _ h hb
  · trivial
theorem rel3_row {g : Nat} {PL : List (Option (Rk3 g))} {i : Nat} {v : Value} {V : World} (c : Array Value) (h : rel3 PL i v V) : rel3 PL i v (V.setRow g c) := by
  unfold rel3 at h ⊢
  split
  · rename_i r hr; rw [hr] at h; exact r.hr _ _ _ h
  · trivial
def chk3 (ops : Array Oper) (m s j size : Nat) : Bool :=
  decide (m ≤ ops.size) && decide (s < m) && (dstOf ops s == none) && (onsOf ops s).contains j &&
  ((List.range m).all fun i => (match ops[i]? with | some o => (match o.dst with | some d => decide (d < size) | none => i == s) | none => false) &&
    ((onsOf ops i).all fun j => decide (j < i)) && ((List.range m).all fun j => j == i || i == s || dstOf ops i != dstOf ops j))
structure Chk3 (ops : Array Oper) (m s j size : Nat) : Prop where
  le : m ≤ ops.size
  lt : s < m
  none_ : dstOf ops s = none
  on : j ∈ onsOf ops s
  op : ∀ i, i < m → i ≠ s → ∃ o d, ops[i]? = some o ∧ o.dst = some d ∧ d < size
  here : ∀ i, i < m → ∃ o, ops[i]? = some o
  small : ∀ i, i < m → ∀ j ∈ onsOf ops i, j < i
  ne : ∀ i j, i < m → j < m → i ≠ j → i ≠ s → dstOf ops i ≠ dstOf ops j
theorem chk3_spec {ops : Array Oper} {m s j size : Nat} (h : chk3 ops m s j size = true) : Chk3 ops m s j size := by
  unfold chk3 at h
  simp only [Bool.and_eq_true, decide_eq_true_eq, List.all_eq_true, List.mem_range, Bool.or_eq_true, beq_iff_eq] at h
  obtain ⟨⟨⟨⟨h1, h2⟩, h3⟩, h4⟩, h5⟩ := h
  refine ⟨h1, h2, h3, by simpa using h4, fun i hi hne => ?_, fun i hi => ?_, fun i hi j hj => (h5 i hi).1.2 j hj, fun i j hi hj hne hs e => ?_⟩
  · have h6 := (h5 i hi).1.1
    cases ho : ops[i]? with
    | none => rw [ho] at h6; simp at h6
    | some o =>
      rw [ho] at h6
      cases hd : o.dst with
      | none => simp [hd] at h6; exact absurd h6 hne
      | some d =>
        simp only [hd, decide_eq_true_eq] at h6
        exact ⟨o, d, rfl, hd, h6⟩
  · have h6 := (h5 i hi).1.1
    cases ho : ops[i]? with
    | none => rw [ho] at h6; simp at h6
    | some o => exact ⟨o, rfl⟩
  · rcases (h5 i hi).2 j hj with (h6 | h6) | h6
    · exact hne h6.symm
    · exact hs h6
    · rw [e] at h6; simp at h6
structure SInv3 (ops : Array Oper) (m s j g : Nat) (T : TypeId) (z : Array Value) (PL : List (Option (Rk3 g))) (a0 : Act) (w0 : World) (listed : Array Bool) (a : Act) (w : World) : Prop where
  defers : a.defers = a0.defers
  size : a.tmps.size = a0.tmps.size
  lsize : listed.size = ops.size
  far : ∀ t, (∀ i, i < m → dstOf ops i = some t → listed.getD i true = false) → tm a t = tm a0 t
  rel : ∀ i, i < m → i ≠ s → listed.getD i true = true → rel3 PL i (at_ ops a i) w
  frame : FrG g w0 w
  old : listed.getD s true = false → Blk w g T z
  new : listed.getD s true = true → ∃ c, at_ ops a j = .agg c ∧ Blk w g T c
  late : ∀ i, m ≤ i → i < ops.size → listed.getD i true = false
  down : ∀ i, i < m → listed.getD i true = true → ∀ j ∈ onsOf ops i, listed.getD j false = true
section
variable {P : Program} {ops : Array Oper} {m s j g : Nat} {T : TypeId} {z : Array Value} {PL : List (Option (Rk3 g))} {a0 : Act} {w0 : World}
theorem SInv3.downAll {listed : Array Bool} {a : Act} {w : World} (h : SInv3 ops m s j g T z PL a0 w0 listed a w) : ∀ k, listed.getD k false = true → ∀ j ∈ onsOf ops k, listed.getD j false = true := fun k hk => by
  have hks := getD_lt hk
  by_cases hkm : k < m
  · exact h.down k hkm (by rw [getD_tf hks]; exact hk)
  · have := h.late k (by omega) (by rw [← h.lsize]; exact hks)
    rw [getD_tf hks, hk] at this; cases this
theorem SInv3.pre {listed : Array Bool} {a : Act} {w : World} (h : SInv3 ops m s j g T z PL a0 w0 listed a w) {i : Nat} (hdeps : ∀ j ∈ onsOf ops i, listed.getD j false = true) : ∀ j ∈ pre ops i, j < m ∧ listed.getD j true = true := fun j hj => by
  have hl := clo_listed h.downAll 8 _ hdeps j hj
  have hs := getD_lt hl
  refine ⟨?_, by rw [getD_tf hs]; exact hl⟩
  rcases Nat.lt_or_ge j m with h1 | h1
  · exact h1
  · have := h.late j h1 (by rw [← h.lsize]; exact hs)
    rw [getD_tf hs, hl] at this; cases this
structure Here3 (ops : Array Oper) (m s g : Nat) (PL : List (Option (Rk3 g))) (a0 : Act) (w0 : World) (k : Nat) (a : Act) (V : World) : Prop where
  still : ∀ t, still ops m t = true → tm a t = tm a0 t
  frame : FrG g w0 V
  got : ∀ j ∈ pre ops k, j ≠ s → rel3 PL j (at_ ops a j) V
def Good3 (P : Program) (ops : Array Oper) (m s g : Nat) (PL : List (Option (Rk3 g))) (a0 : Act) (w0 : World) (k : Nat) : Prop :=
  ∀ (a : Act) (V : World), Here3 ops m s g PL a0 w0 k a V →
    (Region.wanted (opA ops k) (yielded ops a.tmps) = true ∧ ∀ (K : Act → World → Prop) (Q : Exit → Act → World → Prop),
      (∀ v V', Below V.heap.size V V' → rel3 PL k v V' → K (a.put (opA ops k).dst v) V') → (opA ops k).wp P a V K Q) ∨
    (Region.wanted (opA ops k) (yielded ops a.tmps) = false ∧ rel3 PL k undef V)
theorem SInv3.next {listed : Array Bool} {a : Act} {w V : World} (h : SInv3 ops m s j g T z PL a0 w0 listed a w) (hc : Chk3 ops m s j a0.tmps.size) (hg : g < w0.heap.size) {i : Nat} (him : i < m) (his : i ≠ s) (hun : listed.getD i true = false) {o : Oper} (ho : ops[i]? = some o)
    (hdeps : ∀ j ∈ onsOf ops i, listed.getD j false = true) {d : Tmp} (hd : o.dst = some d) (hds : d < a0.tmps.size) (hb : Below w.heap.size w V) (u : Value)
    (hu : rel3 PL i u V) : SInv3 ops m s j g T z PL a0 w0 (listed.setIfInBounds i true) (a.put o.dst u) V := by
  have hil := getD_lt' hun
  have hdi : dstOf ops i = some d := by unfold dstOf; rw [ho]; exact hd
  have hget : ∀ t, tm (a.put o.dst u) t = if t = d then u else tm a t := fun t => by unfold tm; rw [put_tmps hd]; exact tget_set (by rw [h.size]; exact hds)
  have hati : at_ ops (a.put o.dst u) i = u := by unfold at_; rw [hdi]; simp only [hget, if_true]
  have hato : ∀ j, j < m → j ≠ i → at_ ops (a.put o.dst u) j = at_ ops a j := fun j hj hne => by
    unfold at_
    cases hdj : dstOf ops j with
    | none => rfl
    | some e =>
      have : e ≠ d := fun e2 => hc.ne i j him hj (fun e => hne e.symm) his (by rw [hdj, hdi, e2])
      simp only [hget, if_neg this]
  have hold : ∀ j, (listed.setIfInBounds i true).getD j true = true → j ≠ i → listed.getD j true = true := fun j hj hne => by rw [getD_set_eq hil, if_neg hne] at hj; exact hj
  have hgw : g < w.heap.size := Nat.lt_of_lt_of_le hg h.frame.size
  refine ⟨?_, ?_, ?_, ?_, ?_, ?_, ?_, ?_, ?_, ?_⟩
  · rw [put_defs]; exact h.defers
  · rw [put_tmps hd]; simp [h.size]
  · simp [h.lsize]
  · intro t ht
    have htd : t ≠ d := fun e => by
      have := ht i him (by rw [hdi, e])
      rw [getD_set_eq hil, if_pos rfl] at this; cases this
    rw [hget, if_neg htd]
    refine h.far t fun j hj hjt => ?_
    have := ht j hj hjt
    rw [getD_set_eq hil] at this
    split at this
    · cases this
    · exact this
  · intro j hj hjs hl
    by_cases e : j = i
    · subst e; rw [hati]; exact hu
    · rw [hato j hj e]
      exact rel3_keep (h.rel j hj hjs (hold j hl e)) hb
  · exact h.frame.step hb
  · intro hl
    rw [getD_set_eq hil, if_neg (fun e => his e.symm)] at hl
    exact (h.old hl).old hb
  · intro hl
    have hl2 := hold s hl (fun e => his e.symm)
    obtain ⟨c, e1, e2⟩ := h.new hl2
    have hjl := h.down s hc.lt hl2 j hc.on
    have hjm : j < s := hc.small s hc.lt j hc.on
    have hne : j ≠ i := fun e => by subst e; rw [getD_tf hil] at hun; rw [hun] at hjl; cases hjl
    exact ⟨c, by rw [hato j (Nat.lt_trans hjm hc.lt) hne]; exact e1, e2.old hb⟩
  · intro j hj hj2
    rw [getD_set_eq hil, if_neg (by omega)]
    exact h.late j hj hj2
  · intro j hj hl k hk
    by_cases e : j = i
    · subst e; exact getD_set_true (hdeps k hk)
    · exact getD_set_true (h.down j hj (hold j hl e) k hk)
theorem SInv3.store {listed : Array Bool} {a : Act} {w : World} (h : SInv3 ops m s j g T z PL a0 w0 listed a w) (hc : Chk3 ops m s j a0.tmps.size) (hun : listed.getD s true = false)
    (hdeps : ∀ j ∈ onsOf ops s, listed.getD j false = true) (c : Array Value) (hj : at_ ops a j = .agg c) : SInv3 ops m s j g T z PL a0 w0 (listed.setIfInBounds s true) a (w.setRow g c) := by
  have hil := getD_lt' hun
  have hold : ∀ j, (listed.setIfInBounds s true).getD j true = true → j ≠ s → listed.getD j true = true := fun j hj hne => by rw [getD_set_eq hil, if_neg hne] at hj; exact hj
  refine ⟨h.defers, h.size, by simp [h.lsize], ?_, ?_, h.frame.row c, ?_, ?_, ?_, ?_⟩
  · intro t ht
    refine h.far t fun i hi hit => ?_
    have := ht i hi hit
    rw [getD_set_eq hil] at this
    split at this
    · cases this
    · exact this
  · intro i hi his hl
    exact rel3_row c (h.rel i hi his (hold i hl his))
  · intro hl
    rw [getD_set_eq hil, if_pos rfl] at hl; cases hl
  · intro _
    exact ⟨c, hj, (h.old hun).row c⟩
  · intro i hi hi2
    rw [getD_set_eq hil, if_neg (by have := hc.lt; omega)]
    exact h.late i hi hi2
  · intro i hi hl k hk
    by_cases e : i = s
    · subst e; exact getD_set_true (hdeps k hk)
    · exact getD_set_true (h.down i hi (hold i hl e) k hk)
structure St3 (P : Program) (ops : Array Oper) (m s j g : Nat) (T : TypeId) (z : Array Value) (PL : List (Option (Rk3 g))) (a0 : Act) : Prop where
  op : ∃ p tj, (ops[s]?).map (fun o => (o.op, o.guard)) = some (.store T (.tmp p) (.tmp tj), none) ∧ still ops m p = true ∧ tm a0 p = .pointer (some ⟨g, 0, none⟩) ∧ dstOf ops j = some tj
  built : ∀ v V, rel3 PL j v V → ∃ c, v = .agg c ∧ (P.info? T).map (·.size) = some c.size ∧ z.size = c.size ∧ c.all (·.oneCell') = true
theorem sched_op3 {Q : Exit → Act → World → Prop} (hc : Chk3 ops m s j a0.tmps.size) (hgs : g < w0.heap.size) (hS : St3 P ops m s j g T z PL a0) (hg : ∀ k, k < m → k ≠ s → Good3 P ops m s g PL a0 w0 k)
    {listed : Array Bool} {a : Act} {w : World} (h : SInv3 ops m s j g T z PL a0 w0 listed a w) {i : Nat} (him : i < m) (hun : listed.getD i true = false) (hdeps : ∀ j ∈ onsOf ops i, listed.getD j false = true) {K : Act → World → Prop}
    (hK : ∀ a' V, SInv3 ops m s j g T z PL a0 w0 (listed.setIfInBounds i true) a' V → K a' V) : wpOp P ops Q i K a w := by
  have hst : ∀ t, still ops m t = true → tm a t = tm a0 t := fun t ht => h.far t fun j hj hjt => by
    unfold still at ht
    have := List.all_eq_true.1 ht j (List.mem_range.2 hj)
    rw [hjt] at this
    simp at this
  by_cases his : i = s
  · subst his
    obtain ⟨p, tj, h1, h2, h3, h4⟩ := hS.op
    cases ho : ops[i]? with
    | none => rw [ho] at h1; simp at h1
    | some o =>
      rw [ho] at h1
      simp only [Option.map_some, Option.some.injEq, Prod.mk.injEq] at h1
      have hdo : o.dst = none := by have := hc.none_; unfold dstOf at this; rw [ho] at this; exact this
      have hjl := hdeps j hc.on
      have hjs : j < i := hc.small i hc.lt j hc.on
      have hjm : j < m := Nat.lt_trans hjs hc.lt
      have hrel := h.rel j hjm (by omega) (by rw [getD_tf (getD_lt hjl)]; exact hjl)
      obtain ⟨c, e1, e2, e3, e4⟩ := hS.built _ _ hrel
      have hw : Region.wanted o (yielded ops a.tmps) = true := by simp [Region.wanted, h1.2]
      unfold wpOp
      simp only [ho]
      rw [if_pos hw]
      refine .inl ?_
      refine wp_store_row T (.tmp p) (.tmp tj) h1.1 g c ((hst p h2).trans h3) ?_ T z (h.old hun) e2 e3 e4 ?_
      · have : at_ ops a j = a.eval (.tmp tj) := by unfold at_; rw [h4]; rfl
        rw [← this]; exact e1
      · rw [hdo]
        exact hK _ _ (h.store hc hun hdeps c e1)
  · obtain ⟨o, d, ho, hd, hds⟩ := hc.op i him his
    have good := hg i him his a w ⟨hst, h.frame, fun j hj hjs => h.rel j (h.pre hdeps j hj).1 hjs (h.pre hdeps j hj).2⟩
    rw [opA_of ho] at good
    unfold wpOp
    simp only [ho]
    rcases good with ⟨hw, good⟩ | ⟨hw, h1⟩
    · rw [if_pos hw]
      exact .inl (good _ _ fun v V' hb hr => hK _ _ (h.next hc hgs him his hun ho hdeps hd hds hb v hr))
    · rw [if_neg (by rw [hw]; decide)]
      exact hK _ _ (h.next hc hgs him his hun ho hdeps hd hds (Below.refl _ _) undef h1)
theorem listed_eq3 {listed : Array Bool} {a : Act} {w : World} (h : SInv3 ops m s j g T z PL a0 w0 listed a w) (hle : m ≤ ops.size) (hall : ∀ i, i < m → listed.getD i true = true) : listed = listedM ops m := by
  refine Array.ext (by rw [h.lsize, listedM_size hle]) fun i h1 h2 => ?_
  by_cases hi : i < m
  · have e1 := hall i hi
    have e2 := listedM_at (ops := ops) i hi
    simp only [Array.getD_eq_getD_getElem?, Array.getElem?_eq_getElem h1, Option.getD_some] at e1
    simp only [Array.getD_eq_getD_getElem?, Array.getElem?_eq_getElem h2, Option.getD_some] at e2
    rw [e1, e2]
  · have e1 := h.late i (by omega) (by rw [← h.lsize]; exact h1)
    simp only [Array.getD_eq_getD_getElem?, Array.getElem?_eq_getElem h1, Option.getD_some] at e1
    rw [e1]
    simp [listedM, List.getElem_append_right, Nat.not_lt.1 hi]
theorem ready_in3 {listed : Array Bool} {a : Act} {w : World} (h : SInv3 ops m s j g T z PL a0 w0 listed a w) (hc : Chk3 ops m s j a0.tmps.size) (hcl : cloB ops m = true) (hall : ¬ ∀ i, i < m → listed.getD i true = true) :
    Region.ready .any ops listed ≠ [] ∧ ∀ i ∈ Region.ready .any ops listed, i < m ∧ listed.getD i true = false ∧ ∀ j ∈ onsOf ops i, listed.getD j false = true := by
  constructor
  · intro hr
    apply hall
    intro i
    induction i using Nat.strongRecOn with
    | ind i ihi =>
      intro him
      cases hl : listed.getD i true with
      | true => rfl
      | false =>
        obtain ⟨o, ho⟩ := hc.here i him
        have : i ∈ Region.ready .any ops listed := mem_ready.2 ⟨hl, o, ho, fun e he hb => by
          have hj : e.on ∈ onsOf ops i := by
            unfold onsOf; rw [ho]
            simp only [List.mem_map, List.mem_filter]
            exact ⟨e, ⟨by simpa using he, hb⟩, rfl⟩
          have hlt := hc.small i him _ hj
          have := ihi _ hlt (by omega)
          rwa [getD_tf (by rw [h.lsize]; have := hc.le; omega)] at this⟩
        rw [hr] at this; cases this
  · intro i hi
    obtain ⟨hun, o, ho, hdep⟩ := mem_ready.1 hi
    have hdeps := onsOf_of ho hdep
    have hos : i < ops.size := by rw [← h.lsize]; exact getD_lt' hun
    by_cases him : i < m
    · exact ⟨him, hun, hdeps⟩
    · exfalso
      apply hall
      intro j hj
      have := clo_listed h.downAll 12 _ hdeps j (clo_spec hcl i (by omega) hos j hj)
      rw [getD_tf (getD_lt this)]; exact this
theorem zero_all3 {listed : Array Bool} (hls : listed.size = ops.size) (hle : m ≤ ops.size) (hn : listed.toList.count true = ops.size) : ∀ i, i < m → listed.getD i true = true := fun i hi => by
  have hl : i < listed.size := by rw [hls]; omega
  have := count_all (l := listed.toList) (by rw [Array.length_toList, hls]; omega) i (by simpa using hl)
  simp only [Array.getD_eq_getD_getElem?, Array.getElem?_eq_getElem hl, Option.getD_some]
  simpa using this
theorem wpAny_sched3 {Q : Exit → Act → World → Prop} (hc : Chk3 ops m s j a0.tmps.size) (hgs : g < w0.heap.size) (hS : St3 P ops m s j g T z PL a0) (hcl : cloB ops m = true) (hg : ∀ k, k < m → k ≠ s → Good3 P ops m s g PL a0 w0 k)
    (hfin : ∀ a V, SInv3 ops m s j g T z PL a0 w0 (listedM ops m) a V → wpAny P .any ops Q (ops.size - m) (listedM ops m) a V) :
    ∀ (fuel : Nat) (listed : Array Bool) (a : Act) (w : World), SInv3 ops m s j g T z PL a0 w0 listed a w → listed.toList.count true + fuel = ops.size → wpAny P .any ops Q fuel listed a w := by
  intro fuel
  induction fuel with
  | zero =>
    intro listed a w h hn
    have e := listed_eq3 h hc.le (zero_all3 h.lsize hc.le (by omega))
    subst e
    have := hfin a w h
    rw [countM] at hn
    rw [show ops.size - m = 0 by omega] at this
    exact this
  | succ fuel ih =>
    intro listed a w h hn
    by_cases hall : ∀ i, i < m → listed.getD i true = true
    · have e := listed_eq3 h hc.le hall
      subst e
      have := hfin a w h
      rw [countM] at hn
      rw [show ops.size - m = fuel + 1 by omega] at this
      exact this
    · obtain ⟨h1, h2⟩ := ready_in3 h hc hcl hall
      refine ⟨fun hr => absurd hr h1, fun i hi => ?_⟩
      obtain ⟨him, hun, hdeps⟩ := h2 i hi
      exact sched_op3 hc hgs hS hg h him hun hdeps fun a' V h' => ih _ _ _ h' (by rw [count_set hun]; omega)
theorem sinv_start3 {w1 : World} (HC : Chk3 ops m s j a0.tmps.size) (hb : FrG g w0 w1) (hz : Blk w1 g T z) : SInv3 ops m s j g T z PL a0 w0 (Array.replicate ops.size false) a0 w1 := by
  have hf : ∀ i, i < ops.size → (Array.replicate ops.size false).getD i true = false := fun i hi => by simp [Array.getD_eq_getD_getElem?, Array.getElem?_replicate, hi]
  have hno : ∀ i, i < m → (Array.replicate ops.size false).getD i true = true → False := fun i hi hl => by
    rw [hf i (Nat.lt_of_lt_of_le hi HC.le)] at hl; cases hl
  exact ⟨rfl, rfl, by simp, fun t _ => rfl, fun i hi _ hl => (hno i hi hl).elim, hb, fun _ => hz, fun hl => (hno s HC.lt hl).elim, fun i _ hi => hf i hi, fun i hi hl => (hno i hi hl).elim⟩
end
def finO (x : Nat → Value) : Nat → List (Option Tmp) → Array Value → Array Value
  | _, [], A => A
  | k, some d :: r, A => finO x (k + 1) r (A.setIfInBounds d (x k))
  | k, none :: r, A => finO x (k + 1) r A
def chkO (ops : Array Oper) : Nat → List (Option Tmp) → Bool
  | _, [] => true
  | k, d :: r => dstOf ops k == d && chkO ops (k + 1) r
theorem finO_eq {ops : Array Oper} {B : Array Value} {x : Nat → Value} : ∀ (D : List (Option Tmp)) (k : Nat) (A : Array Value), chkO ops k D = true → B.size = A.size →
    (∀ i d, D[i]? = some (some d) → d < A.size → B.getD d undef = x (k + i)) → (∀ t, (∀ i, i < D.length → dstOf ops (k + i) ≠ some t) → B.getD t undef = A.getD t undef) → finO x k D A = B
  | [], k, A, _, hs, _, hf => by
    unfold finO
    refine (Array.ext hs fun i h1 h2 => ?_).symm
    have := hf i (fun _ h => absurd h (Nat.not_lt_zero _))
    simpa [Array.getD_eq_getD_getElem?, h1, h2] using this
  | some d :: r, k, A, hd, hs, hv, hf => by
    unfold chkO at hd
    rw [Bool.and_eq_true] at hd
    have hdk : dstOf ops k = some d := by simpa using hd.1
    unfold finO
    refine finO_eq r (k + 1) _ hd.2 (by simp [hs]) (fun i e hi hlt => ?_) (fun t ht => ?_)
    · have := hv (i + 1) e (by simpa using hi) (by simpa using hlt)
      rw [this]; congr 1; omega
    · by_cases hlt : d < A.size
      · rw [tget_set hlt]
        split
        · rename_i e; subst e
          exact hv 0 t rfl hlt
        · rename_i e
          refine hf t fun i hi hit => ?_
          cases i with
          | zero => rw [Nat.add_zero, hdk] at hit; injection hit with hit; exact e hit.symm
          | succ i => exact ht i (by simpa using hi) (by rw [← hit]; congr 1; omega)
      · have hle : A.size ≤ d := Nat.le_of_not_lt hlt
        rw [Array.setIfInBounds_eq_of_size_le hle]
        by_cases e : t = d
        · subst e
          simp [Array.getD_eq_getD_getElem?, Array.getElem?_eq_none (show B.size ≤ t from hs ▸ hle), Array.getElem?_eq_none hle]
        · refine hf t fun i hi hit => ?_
          cases i with
          | zero => rw [Nat.add_zero, hdk] at hit; injection hit with hit; exact e hit.symm
          | succ i => exact ht i (by simpa using hi) (by rw [← hit]; congr 1; omega)
  | none :: r, k, A, hd, hs, hv, hf => by
    unfold chkO at hd
    rw [Bool.and_eq_true] at hd
    have hdk : dstOf ops k = none := by simpa using hd.1
    unfold finO
    refine finO_eq r (k + 1) _ hd.2 hs (fun i e hi hlt => ?_) (fun t ht => ?_)
    · have := hv (i + 1) e (by simpa using hi) hlt
      rw [this]; congr 1; omega
    · refine hf t fun i hi hit => ?_
      cases i with
      | zero => rw [Nat.add_zero, hdk] at hit; cases hit
      | succ i => exact ht i (by simpa using hi) (by rw [← hit]; congr 1; omega)
structure FinR3 {g : Nat} (PL : List (Option (Rk3 g))) (j : Nat) (T : TypeId) (x : Nat → Value) (w0 V : World) : Prop where
  rel : ∀ i (r : Rk3 g), PL[i]? = some (some r) → r.p (x i) V
  box : ∃ c, x j = .agg c ∧ Blk V g T c
  frame : FrG g w0 V
def Goods3 (P : Program) (ops : Array Oper) (m s g : Nat) (PL : List (Option (Rk3 g))) (a0 : Act) (w0 : World) : Nat → List (Option (Rk3 g)) → Prop
  | _, [] => True
  | k, _ :: r => (k ≠ s → Good3 P ops m s g PL a0 w0 k) ∧ Goods3 P ops m s g PL a0 w0 (k + 1) r
section
variable {P : Program} {ops : Array Oper} {m s j g : Nat} {T : TypeId} {z : Array Value} {PL : List (Option (Rk3 g))} {a0 : Act} {w0 : World} {k : Nat} {r : List (Option (Rk3 g))}
theorem goods3_at : ∀ (l : List (Option (Rk3 g))) (k : Nat), Goods3 P ops m s g PL a0 w0 k l → ∀ i, i < l.length → k + i ≠ s → Good3 P ops m s g PL a0 w0 (k + i)
  | [], _, _, i, h => absurd h (Nat.not_lt_zero _)
  | q :: r, k, hg, 0, h => hg.1
  | q :: r, k, hg, i + 1, h => by
    have := goods3_at r (k + 1) hg.2 i (by simpa using h)
    rwa [show k + 1 + i = k + (i + 1) by omega] at this
theorem g3_nil : Goods3 P ops m s g PL a0 w0 k [] := trivial
theorem g3_st (hk : k = s) (hr : Goods3 P ops m s g PL a0 w0 (k + 1) r) : Goods3 P ops m s g PL a0 w0 k (none :: r) := ⟨fun h => absurd hk h, hr⟩
theorem Here3.old {a : Act} {V : World} (h : Here3 ops m s g PL a0 w0 k a V) (t : Tmp) {v : Value} (h1 : Sch.still ops m t = true) (h2 : tm a0 t = v) : a.eval (.tmp t) = v := (h.still t h1).trans h2
theorem Here3.rel {a : Act} {V : World} (h : Here3 ops m s g PL a0 w0 k a V) (j : Nat) (t : Tmp) {q : Rk3 g} (h1 : ((pre ops k).contains j && j != s) = true) (h2 : dstOf ops j = some t) (h3 : PL[j]? = some (some q)) : q.p (a.eval (.tmp t)) V := by
  rw [Bool.and_eq_true] at h1
  have := h.got j (by simpa using h1.1) (by simpa using h1.2)
  rw [rel3_at h3] at this
  have e : at_ ops a j = a.eval (.tmp t) := by unfold at_; rw [h2]; rfl
  rwa [e] at this
theorem g3_is {q : Rk3 g} (hPL : PL[k]? = some (some q)) (hgd : (opA ops k).guard = none)
    (h : ∀ (a : Act) (V : World), Here3 ops m s g PL a0 w0 k a V → ∀ (K : Act → World → Prop) (Q : Exit → Act → World → Prop),
      (∀ v V', Below V.heap.size V V' → q.p v V' → K (a.put (opA ops k).dst v) V') → (opA ops k).wp P a V K Q) (hr : Goods3 P ops m s g PL a0 w0 (k + 1) r) : Goods3 P ops m s g PL a0 w0 k (some q :: r) :=
  ⟨fun _ a V H => .inl ⟨by unfold Region.wanted; rw [hgd], fun K Q hK => h a V H K Q fun v V' hb hp => hK v V' hb ((rel3_at hPL).2 hp)⟩, hr⟩
theorem g3_val {u : Value} (hPL : PL[k]? = some (some (Rk3.val g u))) (hgd : (opA ops k).guard = none)
    (h : ∀ (a : Act) (V : World), Here3 ops m s g PL a0 w0 k a V → ∀ (K : Act → World → Prop) (Q : Exit → Act → World → Prop),
      (∀ V', Below V.heap.size V V' → K (a.put (opA ops k).dst u) V') → (opA ops k).wp P a V K Q) (hr : Goods3 P ops m s g PL a0 w0 (k + 1) r) : Goods3 P ops m s g PL a0 w0 k (some (Rk3.val g u) :: r) :=
  g3_is hPL hgd (fun a V H K Q hK => h a V H K Q fun V' hb => hK u V' hb rfl) hr
theorem g3_on {q : Rk3 g} {i d : Nat} {want : Bool} {u : Value} (hPL : PL[k]? = some (some q)) (hgd : (opA ops k).guard = some (i, want)) (hd : dstOf ops i = some d)
    (hv : ∀ (a : Act) (V : World), Here3 ops m s g PL a0 w0 k a V → a.eval (.tmp d) = u) (hp : passes want u = true)
    (h : ∀ (a : Act) (V : World), Here3 ops m s g PL a0 w0 k a V → ∀ (K : Act → World → Prop) (Q : Exit → Act → World → Prop),
      (∀ v V', Below V.heap.size V V' → q.p v V' → K (a.put (opA ops k).dst v) V') → (opA ops k).wp P a V K Q) (hr : Goods3 P ops m s g PL a0 w0 (k + 1) r) : Goods3 P ops m s g PL a0 w0 k (some q :: r) :=
  ⟨fun _ a V H => .inl ⟨by rw [wanted_of hgd hd (hv a V H)]; exact hp, fun K Q hK => h a V H K Q fun v V' hb hp => hK v V' hb ((rel3_at hPL).2 hp)⟩, hr⟩
theorem g3_onV {u1 : Value} {i d : Nat} {want : Bool} {u : Value} (hPL : PL[k]? = some (some (Rk3.val g u1))) (hgd : (opA ops k).guard = some (i, want)) (hd : dstOf ops i = some d)
    (hv : ∀ (a : Act) (V : World), Here3 ops m s g PL a0 w0 k a V → a.eval (.tmp d) = u) (hp : passes want u = true)
    (h : ∀ (a : Act) (V : World), Here3 ops m s g PL a0 w0 k a V → ∀ (K : Act → World → Prop) (Q : Exit → Act → World → Prop),
      (∀ V', Below V.heap.size V V' → K (a.put (opA ops k).dst u1) V') → (opA ops k).wp P a V K Q) (hr : Goods3 P ops m s g PL a0 w0 (k + 1) r) : Goods3 P ops m s g PL a0 w0 k (some (Rk3.val g u1) :: r) :=
  g3_on hPL hgd hd hv hp (fun a V H K Q hK => h a V H K Q fun V' hb => hK u1 V' hb rfl) hr
theorem g3_off {i d : Nat} {want : Bool} {u : Value} (hPL : PL[k]? = some (some (Rk3.val g undef))) (hgd : (opA ops k).guard = some (i, want)) (hd : dstOf ops i = some d)
    (hv : ∀ (a : Act) (V : World), Here3 ops m s g PL a0 w0 k a V → a.eval (.tmp d) = u) (hp : passes want u = false) (hr : Goods3 P ops m s g PL a0 w0 (k + 1) r) : Goods3 P ops m s g PL a0 w0 k (some (Rk3.val g undef) :: r) :=
  ⟨fun _ a V H => .inr ⟨by rw [wanted_of hgd hd (hv a V H)]; exact hp, (rel3_at hPL).2 rfl⟩, hr⟩
theorem wp_S {Q : Exit → Act → World → Prop} {id : Nat} {draw : Bool} (g : Nat) (T : TypeId) (z : Array Value) (s j : Nat) (D : List (Option Tmp)) (PL : List (Option (Rk3 g))) (hl : PL.length = D.length) (hm : P.follows .mixedOrders = true)
    (hc : chk3 ops D.length s j a0.tmps.size = true) (hd : chkO ops 0 D = true) (hq : (!draw || (cloB ops D.length && seqd ops D.length)) = true) (hz : Blk w0 g T z) (hS : St3 P ops D.length s j g T z PL a0)
    (hg : Goods3 P ops D.length s g PL a0 w0 0 PL) (tl : List Oper) (ht : ops.toList.drop D.length = tl) (hsN : PL[s]? = some none)
    (hfin : ∀ (x : Nat → Value) (V : World), FinR3 PL j T x w0 V → wpList P ops Q tl ⟨finO x 0 D a0.tmps, a0.defers⟩ V) : (Code.region id ops draw).wp P Q a0 w0 := by
  have HC := chk3_spec hc
  have hgs := hz.lt
  have good : ∀ k, k < D.length → k ≠ s → Good3 P ops D.length s g PL a0 w0 k := fun k hk hks => by
    have := goods3_at PL 0 hg k (by omega) (by rw [Nat.zero_add]; exact hks)
    rwa [Nat.zero_add] at this
  have hD : ∀ (D : List (Option Tmp)) (k i : Nat) (d : Option Tmp), chkO ops k D = true → D[i]? = some d → dstOf ops (k + i) = d := by
    intro D
    induction D with
    | nil => intro k i d _ h; simp at h
    | cons e r ih =>
      intro k i d hk hi
      unfold chkO at hk
      rw [Bool.and_eq_true] at hk
      cases i with
      | zero => simp at hi; subst hi; simpa using hk.1
      | succ i => have := ih (k + 1) i d hk.2 (by simpa using hi); rwa [show k + 1 + i = k + (i + 1) by omega] at this
  have fin : ∀ a V, SInv3 ops D.length s j g T z PL a0 w0 (listedM ops D.length) a V → wpList P ops Q (ops.toList.drop D.length) a V := fun a V h => by
    have e : finO (at_ ops a) 0 D a0.tmps = a.tmps := by
      refine finO_eq D 0 _ hd h.size (fun i d hi hlt => ?_) (fun t ht => ?_)
      · have := hD D 0 i (some d) hd hi
        unfold at_ tm
        rw [this]
      · refine h.far t fun i hi hit => ?_
        have := ht i hi
        rw [Nat.zero_add] at this
        exact absurd hit this
    have := hfin (at_ ops a) V ⟨fun i r hr => ?_, h.new (listedM_at s HC.lt), h.frame⟩
    · rw [e, ← h.defers] at this
      rw [ht]; exact this
    · have hi : i < D.length := by rw [← hl]; exact (List.getElem?_eq_some_iff.1 hr).1
      have his : i ≠ s := fun e => by subst e; rw [hsN] at hr; cases hr
      exact (rel3_at hr).1 (h.rel i hi his (listedM_at i hi))
  cases draw with
  | true =>
    have hq2 : cloB ops D.length = true ∧ seqd ops D.length = true := by simpa using hq
    refine wp_region_any hm (wpAny_sched3 HC hgs hS hq2.1 good (fun a V h => ?_) ops.size _ a0 w0.drew (sinv_start3 HC (FrG.drew _) hz.drew) (by simp [List.count_replicate]))
    have := wpAny_tail (P := P) (Q := Q) hq2.2 (ops.size - D.length) 0 a V (by omega) HC.le (fin a V h)
    rw [Nat.add_zero, ← listedM_K] at this
    exact this
  | false =>
    refine wp_region ?_
    have key : ∀ (f k : Nat) (a : Act) (w : World), k + f = D.length → SInv3 ops D.length s j g T z PL a0 w0 (listedK ops.size k) a w → wpOps P ops Q (List.range' k (ops.size - k)) a w := by
      intro f
      induction f with
      | zero =>
        intro k a w hk h
        rw [Nat.add_zero] at hk
        subst hk
        have := fin a w h
        have e : wpOps P ops Q (List.range' D.length (ops.size - D.length)) = wpList P ops Q (ops.toList.drop D.length) := by
          have e1 := wpOps_eq_wpList (P := P) (Q := Q) (ops := ops) (ops.toList.drop D.length) D.length (fun j => by simp)
          have e2 : (ops.toList.drop D.length).length = ops.size - D.length := by simp
          rw [e2] at e1; exact e1
        rw [e]; exact this
      | succ f ih =>
        intro k a w hk h
        have hkm : k < D.length := by omega
        have hks : k < ops.size := Nat.lt_of_lt_of_le hkm HC.le
        rw [show ops.size - k = (ops.size - (k + 1)) + 1 by omega, List.range'_succ, wpOps_cons]
        refine sched_op3 HC hgs hS good h hkm ?_ (fun j hj => ?_) (fun a' V h' => ?_)
        · simp [listedK, Array.getD_eq_getD_getElem?, List.getElem?_append_right, List.getElem?_replicate, show 0 < ops.size - k by omega]
        · have := HC.small k hkm j hj
          simp [listedK, Array.getD_eq_getD_getElem?, List.getElem?_append_left, this]
        · rw [listedK_set hks] at h'
          exact ih (k + 1) a' V (by omega) h'
    rw [List.range_eq_range']
    have h0 : listedK ops.size 0 = Array.replicate ops.size false := by simp [listedK]
    exact key D.length 0 a0 w0 (by omega) (by rw [h0]; exact sinv_start3 HC (FrG.refl _ _) hz)
end
end Go.Proofs.YtinlonpcakkfhaaGreatDoor.Sch
end
section
set_option maxRecDepth 100000
namespace Tag12
open Ord11 Sx
theorem orderV_at {v : SX} {q : Nat} (h1 : 1 ≤ q) (h5 : q ≤ 5) (hn : ∀ j, 1 ≤ j → j < q → isA v (nameW j) = false) (hy : isA v (nameW q) = true) : orderV v = some q := by
  unfold orderV
  have : q = 1 ∨ q = 2 ∨ q = 3 ∨ q = 4 ∨ q = 5 := by omega
  rcases this with rfl | rfl | rfl | rfl | rfl
  · rw [hy]; rfl
  · rw [hn 1 (by omega) (by omega), hy]; rfl
  · rw [hn 1 (by omega) (by omega), hn 2 (by omega) (by omega), hy]; rfl
  · rw [hn 1 (by omega) (by omega), hn 2 (by omega) (by omega), hn 3 (by omega) (by omega), hy]; rfl
  · rw [hn 1 (by omega) (by omega), hn 2 (by omega) (by omega), hn 3 (by omega) (by omega), hn 4 (by omega) (by omega), hy]; rfl
theorem orderV_no {v : SX} (hn : ∀ j, 1 ≤ j → j < 6 → isA v (nameW j) = false) : orderV v = none := by
  unfold orderV
  rw [hn 1 (by omega) (by omega), hn 2 (by omega) (by omega), hn 3 (by omega) (by omega), hn 4 (by omega) (by omega), hn 5 (by omega) (by omega)]; rfl
def rangedO (C : Cmp) (o : Nat) (r : List SX) : Option TG := match endV r 103 with
  | none => none
  | some (lo, q) => match endV q 108 with
    | none => none
    | some (hi, q2) => if q2.isEmpty && mayR C ⟨o, lo, hi⟩ then some (.mk 6 [] ⟨o, lo, hi⟩ []) else none
theorem rangedV_at {C : Cmp} {v : SX} {o : Nat} {r : List SX} (h : orderV v = some o) : rangedV C (v :: r) = rangedO C o r := by
  rw [rangedV_cons, h]; rfl
theorem rangedV_no {C : Cmp} {v : SX} {r : List SX} (h : orderV v = none) : rangedV C (v :: r) = none := by
  rw [rangedV_cons, h]
theorem rangedO_parts {C : Cmp} {o : Nat} {r q1 q2 : List SX} {x x2 : Bd} (h1 : ∀ y, endV r 103 = some y → y = (x, q1)) (h2 : ∀ y, endV q1 108 = some y → y = (x2, q2)) :
    rangedO C o r = if ((endV r 103).isSome && (endV q1 108).isSome && q2.isEmpty && mayR C ⟨o, x, x2⟩) = true then some (.mk 6 [] ⟨o, x, x2⟩ []) else none := by
  unfold rangedO
  cases e1 : endV r 103 with
  | none => rfl
  | some y =>
    obtain rfl := h1 y e1
    cases e2 : endV q1 108 with
    | none => simp [e2]
    | some z =>
      obtain rfl := h2 z e2
      simp [e2]
theorem endV_cons' (v : SX) (r : List SX) (w : UInt8) : endV (v :: r) w = if (isA v [w] || isA v [w, 101]) = true then (match r with | .mk false false _ d _ :: q => some (⟨true, isA v [w], d⟩, q) | _ => none) else some (zeroB, v :: r) := rfl
def dlen : SX → Nat | .mk _ _ _ d _ => d.length
theorem endV_fine {l q : List SX} {w : UInt8} {x : Bd} {N : Nat} (h : endV l w = some (x, q)) (hl : ∀ v ∈ l, dlen v ≤ N) : x.at_.length ≤ N ∧ ∀ v ∈ q, dlen v ≤ N := by
  cases l with
  | nil =>
    cases h
    exact ⟨Nat.zero_le _, fun v hv => by cases hv⟩
  | cons v r =>
    rw [endV_cons'] at h
    split at h
    · split at h
      · injection h with h
        injection h with h1 h2
        subst h1 h2
        exact ⟨hl _ (List.mem_cons_of_mem _ (List.mem_cons_self ..)), fun u hu => hl u (by simp [hu])⟩
      · cases h
    · injection h with h
      injection h with h1 h2
      subst h1 h2
      exact ⟨Nat.zero_le _, hl⟩
end Tag12
namespace Go.Proofs.YtinlonpcakkfhaaGreatDoor
open Go Go.Proofs Go.RowKit Sx _root_.Ord11 Go.Proofs.YtinlonpcakkfhaaGreatDoor.Ord11 _root_.Tag12 Sch
theorem rin_reads {w : World} {S : Nat → Prop} {A : Option Addr} {n : Nat} {xs : List Value} {B : Nat} (h : RIn w S 1 A n xs) (hS : ∀ b, S b → b < B) : Reads w B 1 A n xs := by
  refine ⟨h.1, fun hn => ?_⟩
  obtain ⟨ad, e, hb, hc⟩ := h.2 hn
  exact ⟨ad, e, hS _ hb, hc⟩
section
variable {P : Program} {o : Oper} {ev : Operand → Value} {w : World}
theorem quiet_eqlI (x y : Operand) (p q : Int) (b : Bool) (T K : TypeId) (hu : P.underlying T = some (.int .i64)) (hb : (p == q) = b) (hx : ev x = .int .i64 p) (hy : ev y = .int .i64 q) (ho : o.op = .binOp .eql T x y K) : (execOp ev o).run P w = .ok (.value (.bool b)) w := by
  subst hb
  unfold execOp
  simp only [ho, hx, hy]
  simp [go_sem, hu, Result.andThen]
theorem run_loadVar_adr (w : World) (ad : Addr) (t : TypeId) (cs : Array Value) (d : TypeDesc) (hc : ∀ j v, cs[j]? = some v → w.cell? (ad.add j) = some v) (hu : P.underlying t = some d) (hd : isRowB d = true) (hi : (P.info? t).map (·.size) = some cs.size) :
    (loadVar t ad).run P w = .ok (.agg cs) w := by
  have hl : (loadCells ad cs.toList.length).run P w = .ok cs.toList.toArray w :=
    run_loadCells_list (P := P) w ad cs.toList (fun j v hv => hc j v (by simpa using hv))
  cases hq : P.info? t with
  | none => simp [hq] at hi
  | some i =>
    have hs : i.size = cs.size := by simpa [hq] using hi
    have hagg : (isAgg t).run P w = .ok true w := by
      unfold isAgg
      rw [Sem.run_bind, run_underlying hu w]
      cases d <;> simp_all [Result.andThen, isRowB]
    simp only [Array.length_toList, Array.toArray_toList] at hl
    simp [loadVar, Sem.run_bind, hagg, sizeOf, typeInfo, hq, hs, hl, Result.andThen]
theorem quiet_aggA (t : TypeId) (x : Operand) (ad : Addr) (hx : ev x = .pointer (some ad)) (cs : Array Value) {d : TypeDesc} (hc : ∀ j v, cs[j]? = some v → w.cell? (ad.add j) = some v) (hu : P.underlying t = some d) (hd : isRowB d = true) (hi : (P.info? t).map (·.size) = some cs.size) (ho : o.op = .load t x) :
    (execOp ev o).run P w = .ok (.value (.agg cs)) w := by
  unfold execOp
  simp only [ho, hx, Instr.loadAt, Instr.sureAddr, Sem.run_bind, Sem.run_pure, Result.andThen_ok, run_loadVar_adr w ad t cs d hc hu hd hi]
end
theorem five_at {w : World} {ad : Addr} {v0 v1 v2 v3 v4 : Value} (d0 : w.cell? ad = some v0) (d1 : w.cell? ⟨ad.block, ad.off + 1, none⟩ = some v1) (d2 : w.cell? ⟨ad.block, ad.off + 2, none⟩ = some v2) (d3 : w.cell? ⟨ad.block, ad.off + 3, none⟩ = some v3) (d4 : w.cell? ⟨ad.block, ad.off + 4, none⟩ = some v4) :
    ∀ j v, (#[v0, v1, v2, v3, v4] : Array Value)[j]? = some v → w.cell? (ad.add j) = some v := by
  intro j v h
  have hj : j < 5 := by
    have := (Array.getElem?_eq_some_iff.1 h).1
    simpa using this
  have : j = 0 ∨ j = 1 ∨ j = 2 ∨ j = 3 ∨ j = 4 := by omega
  rcases this with rfl | rfl | rfl | rfl | rfl <;> (simp at h; subst h; assumption)
theorem tin_zero {w : World} {S : Nat → Prop} : TIn w S (.mk 0 [] zeroR []) [.int .u8 0, .slice none 0 0, .slice none 0 0, .int .u8 0, .bool false, .bool false, .slice none 0 0, .bool false, .bool false, .slice none 0 0] :=
  .mk (xs := []) ⟨by omega, by decide⟩ RIn.none_ ⟨Nat.le_refl _, by omega⟩ RIn.none_ ⟨Nat.le_refl _, by omega⟩ RIn.none_ ⟨Nat.le_refl _, by omega⟩ RIn.none_ ⟨Nat.le_refl _, by omega⟩ rfl (fun i t h => by simp at h)
theorem RowS.size_ {w : World} {S : Nat → Prop} {ks : List SX} {A : Option Addr} {n c : Nat} (h : RowS w S ks A n c) : RowS w (fun b => S b ∧ b < w.heap.size) ks A n c := by
  obtain ⟨xs, h1, h2, h3, h4, h5⟩ := h
  exact ⟨xs, h1, h2, h3, h4.size_ (by omega), fun i t hi => (h5 i t hi).size_⟩
theorem tin_range {w : World} {S S0 : Nat → Prop} {q : Nat} {x x2 : Bd} {B D : Option Addr} {m j k1 k2 : Nat} (hq : q < 256) (r1 : RIn w S 1 B m (Lib.byteCells x.at_)) (b : m ≤ j ∧ m ≤ 140737488355328) (r2 : RIn w S 1 D k1 (Lib.byteCells x2.at_)) (c : k1 ≤ k2 ∧ k1 ≤ 140737488355328) (hS : ∀ b, S b → S0 b) :
    TIn w S0 (.mk 6 [] ⟨q, x, x2⟩ []) [.int .u8 6, .slice none 0 0, .slice none 0 0, .int .u8 q, .bool x.is, .bool x.op, .slice B m j, .bool x2.is, .bool x2.op, .slice D k1 k2] :=
  .mk (xs := []) ⟨by omega, hq⟩ RIn.none_ ⟨Nat.le_refl _, by omega⟩ (r1.more hS) b (r2.more hS) c RIn.none_ ⟨Nat.le_refl _, by omega⟩ rfl (fun i t h => by simp at h)
theorem blk_set10 {w : World} {g : Nat} {T : TypeId} {a0 b0 a1 b1 a2 b2 a3 b3 a4 b4 a5 b5 a6 b6 a7 b7 a8 b8 a9 b9 : Value} (h : Blk w g T #[a0, a1, a2, a3, a4, a5, a6, a7, a8, a9]) : Blk (((((((((((((((((((((w).setCell ⟨g, 0, none⟩ b0)).setCell ⟨g, 1, none⟩ b1)).setCell ⟨g, 2, none⟩ b2)).setCell ⟨g, 3, none⟩ b3)).setCell ⟨g, 4, none⟩ b4)).setCell ⟨g, 5, none⟩ b5)).setCell ⟨g, 6, none⟩ b6)).setCell ⟨g, 7, none⟩ b7)).setCell ⟨g, 8, none⟩ b8)).setCell ⟨g, 9, none⟩ b9)) g T #[b0, b1, b2, b3, b4, b5, b6, b7, b8, b9] := by
  have h : Blk ((w).setCell ⟨g, 0, none⟩ b0) g T #[b0, a1, a2, a3, a4, a5, a6, a7, a8, a9] := h.set_ 0 b0
  have h : Blk ((((w).setCell ⟨g, 0, none⟩ b0)).setCell ⟨g, 1, none⟩ b1) g T #[b0, b1, a2, a3, a4, a5, a6, a7, a8, a9] := h.set_ 1 b1
  have h : Blk ((((((w).setCell ⟨g, 0, none⟩ b0)).setCell ⟨g, 1, none⟩ b1)).setCell ⟨g, 2, none⟩ b2) g T #[b0, b1, b2, a3, a4, a5, a6, a7, a8, a9] := h.set_ 2 b2
  have h : Blk ((((((((w).setCell ⟨g, 0, none⟩ b0)).setCell ⟨g, 1, none⟩ b1)).setCell ⟨g, 2, none⟩ b2)).setCell ⟨g, 3, none⟩ b3) g T #[b0, b1, b2, b3, a4, a5, a6, a7, a8, a9] := h.set_ 3 b3
  have h : Blk ((((((((((w).setCell ⟨g, 0, none⟩ b0)).setCell ⟨g, 1, none⟩ b1)).setCell ⟨g, 2, none⟩ b2)).setCell ⟨g, 3, none⟩ b3)).setCell ⟨g, 4, none⟩ b4) g T #[b0, b1, b2, b3, b4, a5, a6, a7, a8, a9] := h.set_ 4 b4
  have h : Blk ((((((((((((w).setCell ⟨g, 0, none⟩ b0)).setCell ⟨g, 1, none⟩ b1)).setCell ⟨g, 2, none⟩ b2)).setCell ⟨g, 3, none⟩ b3)).setCell ⟨g, 4, none⟩ b4)).setCell ⟨g, 5, none⟩ b5) g T #[b0, b1, b2, b3, b4, b5, a6, a7, a8, a9] := h.set_ 5 b5
  have h : Blk ((((((((((((((w).setCell ⟨g, 0, none⟩ b0)).setCell ⟨g, 1, none⟩ b1)).setCell ⟨g, 2, none⟩ b2)).setCell ⟨g, 3, none⟩ b3)).setCell ⟨g, 4, none⟩ b4)).setCell ⟨g, 5, none⟩ b5)).setCell ⟨g, 6, none⟩ b6) g T #[b0, b1, b2, b3, b4, b5, b6, a7, a8, a9] := h.set_ 6 b6
  have h : Blk ((((((((((((((((w).setCell ⟨g, 0, none⟩ b0)).setCell ⟨g, 1, none⟩ b1)).setCell ⟨g, 2, none⟩ b2)).setCell ⟨g, 3, none⟩ b3)).setCell ⟨g, 4, none⟩ b4)).setCell ⟨g, 5, none⟩ b5)).setCell ⟨g, 6, none⟩ b6)).setCell ⟨g, 7, none⟩ b7) g T #[b0, b1, b2, b3, b4, b5, b6, b7, a8, a9] := h.set_ 7 b7
  have h : Blk ((((((((((((((((((w).setCell ⟨g, 0, none⟩ b0)).setCell ⟨g, 1, none⟩ b1)).setCell ⟨g, 2, none⟩ b2)).setCell ⟨g, 3, none⟩ b3)).setCell ⟨g, 4, none⟩ b4)).setCell ⟨g, 5, none⟩ b5)).setCell ⟨g, 6, none⟩ b6)).setCell ⟨g, 7, none⟩ b7)).setCell ⟨g, 8, none⟩ b8) g T #[b0, b1, b2, b3, b4, b5, b6, b7, b8, a9] := h.set_ 8 b8
  have h : Blk ((((((((((((((((((((w).setCell ⟨g, 0, none⟩ b0)).setCell ⟨g, 1, none⟩ b1)).setCell ⟨g, 2, none⟩ b2)).setCell ⟨g, 3, none⟩ b3)).setCell ⟨g, 4, none⟩ b4)).setCell ⟨g, 5, none⟩ b5)).setCell ⟨g, 6, none⟩ b6)).setCell ⟨g, 7, none⟩ b7)).setCell ⟨g, 8, none⟩ b8)).setCell ⟨g, 9, none⟩ b9) g T #[b0, b1, b2, b3, b4, b5, b6, b7, b8, b9] := h.set_ 9 b9
  exact h
theorem infoTag : (Tryz.prog.info? 29).map (·.size) = some 10 := by kernel_rfl
set_option maxHeartbeats 16000000 in
theorem refRanged12_any (l : List SX) (w : World) (S0 : Nat → Prop) (A : Option Addr) (n c : Nat) (hs0 : RowS w S0 l A n c) (hd : ∀ v ∈ l, dlen v ≤ 1099511627776) :
    Calls Tryz.prog 65 #[.slice A n c] w fun e w' => ∃ v, e = .returned v ∧ TagA (rangedV ordC l) S0 v w' ∧ Below w.heap.size w w' := by
  obtain ⟨S, hS⟩ : ∃ S : Nat → Prop, S = fun b => S0 b ∧ b < w.heap.size := ⟨_, rfl⟩
  have hs : RowS w S l A n c := by rw [hS]; exact hs0.size_
  have HSS : Hid (∀ b, S b → S0 b ∧ b < w.heap.size) := fun b hb => by rw [hS] at hb; exact hb
  clear hS hs0
  obtain ⟨hl, hc, hm⟩ := hs.len
  obtain ⟨ra, hra⟩ : ∃ e, e = rangedV ordC l := ⟨_, rfl⟩
  rw [← hra]
  have HE := hid hra
  clear hra
  obtain ⟨w0, hw0⟩ : ∃ w0, w0 = (w.alloc (.cells #[.int .u8 0, .slice none 0 0, .slice none 0 0, .int .u8 0, .bool false, .bool false, .slice none 0 0, .bool false, .bool false, .slice none 0 0] 29)) := ⟨_, rfl⟩
  have HB0 : Hid (Below w.heap.size w w0) := by
    show Below _ _ _
    rw [hw0]
    exact below_new _ _
  have KZ : Hid (∀ W, Below w0.heap.size w0 W → Blk W w.heap.size 29 #[.int .u8 0, .slice none 0 0, .slice none 0 0, .int .u8 0, .bool false, .bool false, .slice none 0 0, .bool false, .bool false, .slice none 0 0]) := by
    intro W hW
    refine Blk.old (w := w0) ?_ hW
    rw [hw0]
    exact Blk.new w 29 #[.int .u8 0, .slice none 0 0, .slice none 0 0, .int .u8 0, .bool false, .bool false, .slice none 0 0, .bool false, .bool false, .slice none 0 0]
  have HR : Below w0.heap.size w0 w0 := Below.refl _ _
  have HS := hid hs
  have HD := hid hd
  have hone : Hid ((#[.int .u8 0, .slice none 0 0, .slice none 0 0, .int .u8 0, .bool false, .bool false, .slice none 0 0, .bool false, .bool false, .slice none 0 0] : Array Value).all (·.oneCell') = true) := by show _ = _; simp [Value.oneCell']
  clear hs hd
  go_enter Tryz.func65, Tryz.ntmps65
  go_upto_region 1 with fail
  rw [← hw0]
  clear hw0
  by_cases h0 : n = 0
  · have h0B : ((n : Int) == 0) = true := by rw [beq_iff_eq]; omega
    have hl0 : l = [] := List.eq_nil_of_length_eq_zero (by omega)
    subst hl0 h0
    obtain rfl : ra = none := HE.out
    go_wp2_with (refine wpList_store_row rfl 29 (.tmp 2) (.tmp 14) rfl w.heap.size _ rfl rfl 29 #[.int .u8 0, .slice none 0 0, .slice none 0 0, .int .u8 0, .bool false, .bool false, .slice none 0 0, .bool false, .bool false, .slice none 0 0] (KZ.out _ HR) infoTag rfl hone.out ?_)
    exact bodyPost_ret (results_st_tmp Tryz.results65 _ _ w.heap.size 29 _ _ _ rfl rfl ((KZ.out _ HR).row _) Tryz.underlying29 rfl infoTag) rfl ⟨_, rfl, ⟨_, _, _, _, _, _, _, _, _, _, _, rfl, tin_zero, by simp⟩, below_row (next_below HB0.out HR) (Nat.le_refl _) _⟩
  · have h0B : ((n : Int) == 0) = false := by rw [beq_eq_false_iff_ne]; omega
    obtain ⟨ad, v0, v1, v2, v3, v4, t, rfl, hS0, ht0, -, hin, d0, d1, d2, d3, d4⟩ := HS.out.at_ (k := 0) (by omega)
    rw [Nat.zero_mul, show ad.add 0 = ad from if_pos rfl] at d0 d1 d2 d3 d4
    obtain ⟨r, rfl⟩ : ∃ r, l = t :: r := by
      cases l with
      | nil => simp at ht0
      | cons y r => exact ⟨r, by simpa using ht0⟩
    have KI : Hid (∀ W s, Below w0.heap.size w0 W → Calls Tryz.prog 64 #[.agg #[v0, v1, v2, v3, v4], .string (bT s)] W fun e w' => e = .returned (.bool (isA t s)) ∧ Below W.heap.size W w') := fun W s hW => refIs_any t s W S _ (hin.old (next_below HB0.out hW))
    have KC : Hid (∀ W, Below w0.heap.size w0 W → ∀ j v, (#[v0, v1, v2, v3, v4] : Array Value)[j]? = some v → W.cell? (ad.add j) = some v) := by
      intro W hW
      have h := fun p u (h : w.cell? p = some u) => ((next_below HB0.out hW).cell (World.block_lt_of_cell? _ _ h)).trans h
      exact five_at (h _ _ d0) (h _ _ d1) (h _ _ d2) (h _ _ d3) (h _ _ d4)
    clear hS0 hin ht0 d0 d1 d2 d3 d4
    go_wp2_with fail
    go_loopw [4] (fun v wr => ∃ q : Nat, 1 ≤ q ∧ q ≤ 6 ∧ v = .int .u8 q ∧ Hid (∀ j, 1 ≤ j → j < q → isA t (nameW j) = false) ∧ Below w0.heap.size w0 wr) (fun v _ => 6 - (intOf v).toNat)
    case atStart => exact ⟨1, by omega, by omega, rfl, fun j h1 h2 => absurd h2 (by omega), HR⟩
    case round =>
      obtain ⟨q, hq1, hq6, rfl, hno, hbel⟩ := hrel
      by_cases hlt : q ≤ 5
      · obtain ⟨b, hb⟩ : ∃ b, b = isA t (nameW q) := ⟨_, rfl⟩
        have HBb := hid hb
        have KN : Hid (∀ W, Calls Tryz.prog 33 #[.int .u8 q] W fun e w' => e = .returned (.string (bT (nameW q))) ∧ Below W.heap.size W w') := fun W => refName_any q (by omega) W
        have KIb : Hid (∀ W, Below w0.heap.size w0 W → Calls Tryz.prog 64 #[.agg #[v0, v1, v2, v3, v4], .string (bT (nameW q))] W fun e w' => e = .returned (.bool b) ∧ Below W.heap.size W w') := fun W hW => by rw [hb]; exact KI.out W _ hW
        clear hb
        have hqB : decide ((q : Int) ≤ 5) = true := decide_eq_true (by omega)
        go_upto_region 6 with fail
        try simp only [Act.put]
        refine wp_R [19, 20, 21, 22, 23, 24, 25] [Rk.val (.slice (some ad) n c), Rk.val (.pointer (some (ad.add (0 * 5)))), Rk.val (.agg #[v0, v1, v2, v3, v4]), Rk.val (.int .u8 q), Rk.val (.string (bT (nameW q))), Rk.val (.bool b), Rk.val (.bool (!b))] rfl (by kernel_rfl) (by kernel_rfl) (by kernel_rfl) (by kernel_rfl) ?hg _ (by rfl) ?hf
        case hg =>
          refine gr_val rfl (by kernel_rfl) (fun a V H K Q hK => op_quiet (quiet_move (.tmp 0) (H.old 0 (by kernel_rfl) (by kernel_rfl)) (.inl (by kernel_rfl))) hK) ?_
          refine gr_val rfl (by kernel_rfl) (fun a V H K Q hK => op_quiet (quiet_indexN (.tmp 19) (.const (.int .i64 0)) ad n c 0 5 32 34 (H.rel 0 19 (by kernel_rfl) (by kernel_rfl) rfl) (show a.eval (.const (.int .i64 0)) = .int .i64 ((0 : Nat) : Int) from rfl) (by omega) Tryz.underlying32 (by kernel_rfl) (by kernel_rfl)) hK) ?_
          refine gr_val rfl (by kernel_rfl) (fun a V H K Q hK => op_quiet (quiet_aggA 34 (.tmp 20) (ad.add (0 * 5)) (H.rel 1 20 (by kernel_rfl) (by kernel_rfl) rfl) #[v0, v1, v2, v3, v4] (KC.out _ (next_below hbel H.frame)) Tryz.underlying34 rfl (by kernel_rfl) (by kernel_rfl)) hK) ?_
          refine gr_val rfl (by kernel_rfl) (fun a V H K Q hK => op_quiet (quiet_move (.tmp 4) (H.old 4 (by kernel_rfl) (by kernel_rfl)) (.inl (by kernel_rfl))) hK) ?_
          refine gr_val rfl (by kernel_rfl) (fun a V H K Q hK => op_callK _ #[.int .u8 q] (by kernel_rfl) (by kernel_rfl) (by kernel_rfl) (map1 (H.rel 3 22 (by kernel_rfl) (by kernel_rfl) rfl)) (KN.out V) (by kernel_rfl) hK) ?_
          refine gr_val rfl (by kernel_rfl) (fun a V H K Q hK => op_callK _ #[.agg #[v0, v1, v2, v3, v4], .string (bT (nameW q))] (by kernel_rfl) (by kernel_rfl) (by kernel_rfl) (map2 (H.rel 2 21 (by kernel_rfl) (by kernel_rfl) rfl) (H.rel 4 23 (by kernel_rfl) (by kernel_rfl) rfl)) (KIb.out V (next_below hbel H.frame)) (by kernel_rfl) hK) ?_
          refine gr_val rfl (by kernel_rfl) (fun a V H K Q hK => op_quiet (quiet_not 4 (.tmp 24) (H.rel 5 24 (by kernel_rfl) (by kernel_rfl) rfl) (by kernel_rfl)) hK) ?_
          exact gr_nil
        case hf =>
          intro x V hF
          have ev0 : x 0 = .slice (some ad) n c := hF.rel 0 _ rfl
          have ev1 : x 1 = .pointer (some (ad.add (0 * 5))) := hF.rel 1 _ rfl
          have ev2 : x 2 = .agg #[v0, v1, v2, v3, v4] := hF.rel 2 _ rfl
          have ev3 : x 3 = .int .u8 q := hF.rel 3 _ rfl
          have ev4 : x 4 = .string (bT (nameW q)) := hF.rel 4 _ rfl
          have ev5 : x 5 = .bool b := hF.rel 5 _ rfl
          have ev6 : x 6 = .bool (!b) := hF.rel 6 _ rfl
          have hbf := hF.frame
          clear hF
          simp only [Sch.finL, zA, zB, zC, ev0, ev1, ev2, ev3, ev4, ev5, ev6]
          clear ev0 ev1 ev2 ev3 ev4 ev5 ev6
          have hb6 := next_below hbel hbf
          clear hbf hbel
          refine tail_nil ?_
          cases b with
          | false =>
            simp only [Bool.not_false]
            go_wp2_with fail
            go_roundw
            case rel => exact ⟨q + 1, by omega, by omega, by go_num, (show ∀ j, 1 ≤ j → j < q + 1 → isA t (nameW j) = false from fun j h1 h2 => by
              rcases (show j < q ∨ j = q by omega) with h | rfl
              · exact hno.out j h1 h
              · exact HBb.out.symm), hb6⟩
            case measure => simp [intOf]; omega
          | true =>
            simp only [Bool.not_true]
            have HE2 : Hid (ra = rangedO ordC q r) := HE.out.trans (rangedV_at (orderV_at hq1 hlt hno.out HBb.out.symm))
            obtain ⟨A1, hA1⟩ : ∃ A1, A1 = (if c = 1 then some ad else some (⟨ad.block, ad.off + 5, none⟩ : Addr)) := ⟨_, rfl⟩
            have HR1 : Hid (RowS w S r A1 (n - 1) (c - 1)) := by
              rw [hA1]
              exact HS.out.drop (k := 1) (by omega)
            have KE1 : Hid (∀ W, Below w0.heap.size w0 W → Calls Tryz.prog 84 #[.slice A1 (n - 1) (c - 1), .string ⟨#[103]⟩] W fun e w' => ∃ v, e = .returned v ∧ EndA (endV r 103) S v w' ∧ Below W.heap.size W w') := fun W hW => refEnd12_any r 103 W S _ _ _ (HR1.out.old (next_below HB0.out hW))
            rw [hA1] at KE1
            go_upto_region 7 with fail
            go_upto_region 8 with (go_at_call 84; (refine (KE1.out _ hb6).mono ?_); rintro e w1 ⟨v, rfl, ⟨x, q1, B, m, j, B2, m2, j2, rfl, hy, r1, b1, b2, rs⟩, hb⟩)
            generalize (if c = 1 then some ad else some (⟨ad.block, ad.off + 5, none⟩ : Addr)) = A5
            have hW1 : Below w0.heap.size w0 (w1.alloc (.cells #[.bool x.is, .bool x.op, .slice B m j] 25)) := next_below (next_below hb6 hb) (below_new _ _)
            have hz1 := hW1.size
            have BL : Blk (w1.alloc (.cells #[.bool x.is, .bool x.op, .slice B m j] 25)) w1.heap.size 25 #[.bool x.is, .bool x.op, .slice B m j] := Blk.new _ _ _
            have r1' := r1.old (by omega) (below_new w1 (.cells #[.bool x.is, .bool x.op, .slice B m j] 25))
            have rs' := rs.old (below_new w1 (.cells #[.bool x.is, .bool x.op, .slice B m j] 25))
            have KE2 : Hid (Calls Tryz.prog 84 #[.slice B2 m2 j2, .string ⟨#[108]⟩] (w1.alloc (.cells #[.bool x.is, .bool x.op, .slice B m j] 25)) fun e w' => ∃ v, e = .returned v ∧ EndA (endV q1 108) S v w' ∧ Below (w1.alloc (.cells #[.bool x.is, .bool x.op, .slice B m j] 25)).heap.size (w1.alloc (.cells #[.bool x.is, .bool x.op, .slice B m j] 25)) w') := refEnd12_any q1 108 _ S _ _ _ rs'
            clear r1 rs KE1 hb6 hb
            generalize hgl : w1.heap.size = gl at BL ⊢
            generalize w1.alloc (.cells #[.bool x.is, .bool x.op, .slice B m j] 25) = W1 at *
            go_upto_region 9 with (go_at_call 84; (refine (KE2.out).mono ?_); rintro e w2 ⟨v, rfl, ⟨x2, q2, D, k1, k2, D2, m3, j3, rfl, hy2, r2, c1, c2, rs2⟩, hb⟩)
            have hW2 : Below w0.heap.size w0 (w2.alloc (.cells #[.bool x2.is, .bool x2.op, .slice D k1 k2] 25)) := next_below (next_below hW1 hb) (below_new _ _)
            have BH : Blk (w2.alloc (.cells #[.bool x2.is, .bool x2.op, .slice D k1 k2] 25)) w2.heap.size 25 #[.bool x2.is, .bool x2.op, .slice D k1 k2] := Blk.new _ _ _
            have hb2 := hb.trans ((below_new w2 (.cells #[.bool x2.is, .bool x2.op, .slice D k1 k2] 25)).mono hb.size)
            have BL2 := BL.old hb2
            have HR1x := hid (r1'.old (by omega) hb2)
            have HR2x := hid (r2.old (by omega) (below_new w2 (.cells #[.bool x2.is, .bool x2.op, .slice D k1 k2] 25)))
            have hlen : q2.length = m3 := rs2.len.1
            clear BL r1' r2 rs' rs2 KE2 hb hb2 hW1 hz1
            generalize hgh : w2.heap.size = gh at BH ⊢
            generalize w2.alloc (.cells #[.bool x2.is, .bool x2.op, .slice D k1 k2] 25) = W2 at *
            have l0 := BL2.cell 0
            have l1 := BL2.cell 1
            have l2 := BL2.cell 2
            have g0 := BH.cell 0
            have g1 := BH.cell 1
            have g2 := BH.cell 2
            go_upto_region 10 with fail
            have hW3 : Below w0.heap.size w0 (W2.alloc (.cells #[.int .u8 q, .bool x.is, .bool x.op, .slice B m j, .bool x2.is, .bool x2.op, .slice D k1 k2] 27)) := next_below hW2 (below_new _ _)
            have BR : Blk (W2.alloc (.cells #[.int .u8 q, .bool x.is, .bool x.op, .slice B m j, .bool x2.is, .bool x2.op, .slice D k1 k2] 27)) W2.heap.size 27 #[.int .u8 q, .bool x.is, .bool x.op, .slice B m j, .bool x2.is, .bool x2.op, .slice D k1 k2] := Blk.new _ _ _
            have HR1y := hid (HR1x.out.old (by omega) (below_new W2 (.cells #[.int .u8 q, .bool x.is, .bool x.op, .slice B m j, .bool x2.is, .bool x2.op, .slice D k1 k2] 27)))
            have HR2y := hid (HR2x.out.old (by omega) (below_new W2 (.cells #[.int .u8 q, .bool x.is, .bool x.op, .slice B m j, .bool x2.is, .bool x2.op, .slice D k1 k2] 27)))
            have HX := hid (rangedO_parts (C := ordC) (o := q) hy hy2)
            rw [← HE2.out] at HX
            have HY1 := hid hy
            have HY2 := hid hy2
            clear hW2 BL2 BH l0 l1 l2 g0 g1 g2 hgl hgh HR1x HR2x hy hy2 HE2 HE
            generalize hgr : W2.heap.size = gr at BR ⊢
            generalize W2.alloc (.cells #[.int .u8 q, .bool x.is, .bool x.op, .slice B m j, .bool x2.is, .bool x2.op, .slice D k1 k2] 27) = W3 at *
            have BZ := KZ.out _ hW3
            obtain ⟨o1, ho1⟩ : ∃ b, b = (endV r 103).isSome := ⟨_, rfl⟩
            obtain ⟨o2, ho2⟩ : ∃ b, b = (endV q1 108).isSome := ⟨_, rfl⟩
            obtain ⟨e3, he3⟩ : ∃ b, b = q2.isEmpty := ⟨_, rfl⟩
            obtain ⟨mr, hmr⟩ : ∃ b, b = mayR ordC ⟨q, x, x2⟩ := ⟨_, rfl⟩
            rw [← ho1, ← ho2, ← he3, ← hmr] at HX
            rw [← ho1, ← ho2]
            have HE3 : Hid (((m3 : Int) == 0) = e3) := by
              show _ = _
              rw [he3, int_zero, ← hlen]; cases q2 <;> simp
            have KM : Hid ((o1 && o2) = true → ∀ V, FrG w.heap.size W3 V → Calls Tryz.prog 57 #[.agg #[.int .u8 q, .bool x.is, .bool x.op, .slice B m j, .bool x2.is, .bool x2.op, .slice D k1 k2]] V fun e w' => e = .returned (.bool mr) ∧ Below V.heap.size V w') := by
              show _ → _
              intro h12 V hV
              rw [hmr]
              rw [ho1, ho2] at h12
              obtain ⟨i1, i2⟩ := Bool.and_eq_true_iff.1 h12
              obtain ⟨y1, hy1⟩ := Option.isSome_iff_exists.1 i1
              obtain ⟨y2, hy2'⟩ := Option.isSome_iff_exists.1 i2
              have f1 := hy1.trans (congrArg some (HY1.out y1 hy1))
              have f2 := hy2'.trans (congrArg some (HY2.out y2 hy2'))
              obtain ⟨n1, d1⟩ := endV_fine f1 (N := 1099511627776) fun v hv => HD.out v (by simp [hv])
              obtain ⟨n2, -⟩ := endV_fine f2 d1
              have m1 : x.at_.length = m := by have := HR1y.out.1; simpa [Lib.byteCells_length] using this
              have m2 : x2.at_.length = k1 := by have := HR2y.out.1; simpa [Lib.byteCells_length] using this
              have hk : ∀ p : Addr, S p.block → V.cell? p = W3.cell? p := fun p hp => hV.cell (Nat.lt_trans (HSS.out _ hp).2 BZ.lt) (by have := (HSS.out _ hp).2; omega)
              have hz : ∀ b, S b → b < V.heap.size := fun b hb => Nat.lt_of_lt_of_le (Nat.lt_trans (HSS.out _ hb).2 BZ.lt) hV.size
              exact refMay11 ⟨q, x, x2⟩ (show q < 256 by omega) V ⟨rin_reads (HR1y.out.keep hk) hz, by omega, by omega⟩ ⟨rin_reads (HR2y.out.keep hk) hz, by omega, by omega⟩
            clear ho1 ho2 he3 hmr hlen
            obtain ⟨X, hX⟩ : ∃ X, X = (o1 && o2 && e3 && mr) := ⟨_, rfl⟩
            rw [← hX] at HX
            have HX2 : Hid (X = (o1 && o2 && e3 && mr)) := hX
            have HNE : Hid (gr ≠ w.heap.size) := by
              show _ ≠ _
              rintro rfl
              unfold Blk at BZ BR
              rw [BZ] at BR
              injection BR with h
              injection h with h _
              simp at h
            clear hX
            have hend : ∀ V, FrG w.heap.size W3 V → Blk V w.heap.size 29 #[.int .u8 6, .slice none 0 0, .slice none 0 0, .int .u8 q, .bool x.is, .bool x.op, .slice B m j, .bool x2.is, .bool x2.op, .slice D k1 k2] → TagA ra S0 (.tuple #[.agg #[.int .u8 6, .slice none 0 0, .slice none 0 0, .int .u8 q, .bool x.is, .bool x.op, .slice B m j, .bool x2.is, .bool x2.op, .slice D k1 k2], .bool X]) V ∧ Below w.heap.size w V := by
              intro V hV hB
              have hk : ∀ p : Addr, S p.block → V.cell? p = W3.cell? p := fun p hp => hV.cell (Nat.lt_trans (HSS.out _ hp).2 BZ.lt) (by have := (HSS.out _ hp).2; omega)
              have hr : ra.isSome = X := by rw [HX.out]; cases X <;> rfl
              refine ⟨⟨.mk 6 [] ⟨q, x, x2⟩ [], _, _, _, _, _, _, _, _, _, _, by rw [hr], tin_range (by omega) (HR1y.out.keep hk) ⟨by omega, by omega⟩ (HR2y.out.keep hk) ⟨by omega, by omega⟩ (fun b hb => (HSS.out b hb).1), ?_⟩, ?_⟩
              · intro y hy
                rw [HX.out] at hy
                cases X with
                | true => simpa using hy.symm
                | false => cases hy
              · exact (next_below HB0.out hW3).trans (hV.below (Nat.le_refl _) BZ.lt)
            have HEND := hid hend
            clear hend HX HY1 HY2 HR1y HR2y
            have hx3 : X = (o1 && o2 && e3 && mr) := HX2.out
            clear HX2
            cases o1
            rotate_left 1
            cases o2
            rotate_left 1
            cases e3
            rotate_left 1
            · have KM2 := hid (KM.out rfl)
              obtain rfl : mr = X := by rw [hx3]; simp
              clear hx3
              try simp only [Act.put]
              refine wp_S w.heap.size 29 #[.int .u8 0, .slice none 0 0, .slice none 0 0, .int .u8 0, .bool false, .bool false, .slice none 0 0, .bool false, .bool false, .slice none 0 0] 15 1 [some 43, some 44, some 45, some 46, some 47, some 48, some 49, some 50, some 51, some 52, some 53, some 54, some 55, some 56, some 57, none] [some (Rk3.val _ (.agg #[.int .u8 q, .bool x.is, .bool x.op, .slice B m j, .bool x2.is, .bool x2.op, .slice D k1 k2])), some (Rk3.val _ (.agg #[.int .u8 6, .slice none 0 0, .slice none 0 0, .int .u8 q, .bool x.is, .bool x.op, .slice B m j, .bool x2.is, .bool x2.op, .slice D k1 k2])), some (Rk3.val _ (.bool true)), some (Rk3.val _ (.bool true)), some (Rk3.val _ (.bool true)), some (Rk3.val _ (.bool true)), some (Rk3.val _ (.bool true)), some (Rk3.val _ (.slice D2 m3 j3)), some (Rk3.val _ (.int .i64 (m3 : Int))), some (Rk3.val _ (.bool true)), some (Rk3.val _ (.bool true)), some (Rk3.val _ (.bool true)), some (Rk3.val _ (.agg #[.int .u8 q, .bool x.is, .bool x.op, .slice B m j, .bool x2.is, .bool x2.op, .slice D k1 k2])), some (Rk3.val _ (.bool mr)), some (Rk3.val _ (.bool mr)), none] rfl (by kernel_rfl) (by kernel_rfl) (by kernel_rfl) (by kernel_rfl) BZ ?hsq0 ?hgq0 _ (by rfl) rfl ?hfq0
              case hsq0 => exact ⟨⟨2, 44, by kernel_rfl, by kernel_rfl, rfl, by kernel_rfl⟩, fun v V h => ⟨#[.int .u8 6, .slice none 0 0, .slice none 0 0, .int .u8 q, .bool x.is, .bool x.op, .slice B m j, .bool x2.is, .bool x2.op, .slice D k1 k2], h, infoTag, rfl, by simp [Value.oneCell']⟩⟩
              case hgq0 =>
                refine g3_val rfl (by kernel_rfl) (fun a V H K Q hK => op_quiet (quiet_load_row 27 (.tmp 10) gr (H.old 10 (by kernel_rfl) (by kernel_rfl)) 27 #[.int .u8 q, .bool x.is, .bool x.op, .slice B m j, .bool x2.is, .bool x2.op, .slice D k1 k2] _ (H.frame.blk BR HNE.out) Tryz.underlying27 rfl (by kernel_rfl) (by kernel_rfl)) hK) ?_
                refine g3_val rfl (by kernel_rfl) (fun a V H K Q hK => op_quiet (quiet_bld 29 _ _ (bld2 (a := 0) (b := 3) (show a.eval (.const (.int .u8 6)) = .int .u8 6 from rfl) (H.rel 0 43 (by kernel_rfl) (by kernel_rfl) rfl)) #[.int .u8 6, .slice none 0 0, .slice none 0 0, .int .u8 q, .bool x.is, .bool x.op, .slice B m j, .bool x2.is, .bool x2.op, .slice D k1 k2] (by kernel_rfl) (by kernel_rfl)) hK) ?_
                refine g3_val rfl (by kernel_rfl) (fun a V H K Q hK => op_quiet (quiet_move (.tmp 7) (H.old 7 (by kernel_rfl) (by kernel_rfl)) (.inl (by kernel_rfl))) hK) ?_
                refine g3_val rfl (by kernel_rfl) (fun a V H K Q hK => op_quiet (quiet_move (.tmp 45) (H.rel 2 45 (by kernel_rfl) (by kernel_rfl) rfl) (.inl (by kernel_rfl))) hK) ?_
                refine g3_onV (i := 3) (d := 46) (want := true) (u := .bool true) rfl (by kernel_rfl) (by kernel_rfl) (fun a V H => (H.rel 3 46 (by kernel_rfl) (by kernel_rfl) rfl)) (by kernel_rfl) (fun a V H K Q hK => op_quiet (quiet_move (.tmp 9) (H.old 9 (by kernel_rfl) (by kernel_rfl)) (.inl (by kernel_rfl))) hK) ?_
                refine g3_val rfl (by kernel_rfl) (fun a V H K Q hK => op_quiet (quiet_pickT (.tmp 46) (.tmp 47) (.const (.bool false)) (H.rel 3 46 (by kernel_rfl) (by kernel_rfl) rfl) (H.rel 4 47 (by kernel_rfl) (by kernel_rfl) rfl) (by kernel_rfl)) hK) ?_
                refine g3_val rfl (by kernel_rfl) (fun a V H K Q hK => op_quiet (quiet_move (.tmp 48) (H.rel 5 48 (by kernel_rfl) (by kernel_rfl) rfl) (.inl (by kernel_rfl))) hK) ?_
                refine g3_onV (i := 6) (d := 49) (want := true) (u := .bool true) rfl (by kernel_rfl) (by kernel_rfl) (fun a V H => (H.rel 6 49 (by kernel_rfl) (by kernel_rfl) rfl)) (by kernel_rfl) (fun a V H K Q hK => op_quiet (quiet_move (.tmp 6) (H.old 6 (by kernel_rfl) (by kernel_rfl)) (.inl (by kernel_rfl))) hK) ?_
                refine g3_onV (i := 6) (d := 49) (want := true) (u := .bool true) rfl (by kernel_rfl) (by kernel_rfl) (fun a V H => (H.rel 6 49 (by kernel_rfl) (by kernel_rfl) rfl)) (by kernel_rfl) (fun a V H K Q hK => op_quiet (quiet_len (.tmp 50) D2 m3 j3 32 34 (H.rel 7 50 (by kernel_rfl) (by kernel_rfl) rfl) Tryz.underlying32 (by kernel_rfl)) hK) ?_
                refine g3_onV (i := 6) (d := 49) (want := true) (u := .bool true) rfl (by kernel_rfl) (by kernel_rfl) (fun a V H => (H.rel 6 49 (by kernel_rfl) (by kernel_rfl) rfl)) (by kernel_rfl) (fun a V H K Q hK => op_quiet (quiet_eqlI (.tmp 51) (.const (.int .i64 0)) (m3 : Int) 0 true 3 3 Tryz.underlying3 HE3.out (H.rel 8 51 (by kernel_rfl) (by kernel_rfl) rfl) (show a.eval (.const (.int .i64 0)) = .int .i64 0 from rfl) (by kernel_rfl)) hK) ?_
                refine g3_val rfl (by kernel_rfl) (fun a V H K Q hK => op_quiet (quiet_pickT (.tmp 49) (.tmp 52) (.const (.bool false)) (H.rel 6 49 (by kernel_rfl) (by kernel_rfl) rfl) (H.rel 9 52 (by kernel_rfl) (by kernel_rfl) rfl) (by kernel_rfl)) hK) ?_
                refine g3_val rfl (by kernel_rfl) (fun a V H K Q hK => op_quiet (quiet_move (.tmp 53) (H.rel 10 53 (by kernel_rfl) (by kernel_rfl) rfl) (.inl (by kernel_rfl))) hK) ?_
                refine g3_onV (i := 11) (d := 54) (want := true) (u := .bool true) rfl (by kernel_rfl) (by kernel_rfl) (fun a V H => (H.rel 11 54 (by kernel_rfl) (by kernel_rfl) rfl)) (by kernel_rfl) (fun a V H K Q hK => op_quiet (quiet_load_row 27 (.tmp 10) gr (H.old 10 (by kernel_rfl) (by kernel_rfl)) 27 #[.int .u8 q, .bool x.is, .bool x.op, .slice B m j, .bool x2.is, .bool x2.op, .slice D k1 k2] _ (H.frame.blk BR HNE.out) Tryz.underlying27 rfl (by kernel_rfl) (by kernel_rfl)) hK) ?_
                refine g3_onV (i := 11) (d := 54) (want := true) (u := .bool true) rfl (by kernel_rfl) (by kernel_rfl) (fun a V H => (H.rel 11 54 (by kernel_rfl) (by kernel_rfl) rfl)) (by kernel_rfl) (fun a V H K Q hK => op_callK #[.tmp 55] #[.agg #[.int .u8 q, .bool x.is, .bool x.op, .slice B m j, .bool x2.is, .bool x2.op, .slice D k1 k2]] (by kernel_rfl) (by kernel_rfl) (by kernel_rfl) (map1 (H.rel 12 55 (by kernel_rfl) (by kernel_rfl) rfl)) (KM2.out V H.frame) (by kernel_rfl) hK) ?_
                refine g3_val rfl (by kernel_rfl) (fun a V H K Q hK => op_quiet (quiet_pickT (.tmp 54) (.tmp 56) (.const (.bool false)) (H.rel 11 54 (by kernel_rfl) (by kernel_rfl) rfl) (H.rel 13 56 (by kernel_rfl) (by kernel_rfl) rfl) (by kernel_rfl)) hK) ?_
                refine g3_st rfl ?_
                exact g3_nil
              case hfq0 =>
                intro xx V hF
                have ev0 : xx 0 = .agg #[.int .u8 q, .bool x.is, .bool x.op, .slice B m j, .bool x2.is, .bool x2.op, .slice D k1 k2] := hF.rel 0 _ rfl
                have ev1 : xx 1 = .agg #[.int .u8 6, .slice none 0 0, .slice none 0 0, .int .u8 q, .bool x.is, .bool x.op, .slice B m j, .bool x2.is, .bool x2.op, .slice D k1 k2] := hF.rel 1 _ rfl
                have ev2 : xx 2 = .bool true := hF.rel 2 _ rfl
                have ev3 : xx 3 = .bool true := hF.rel 3 _ rfl
                have ev4 : xx 4 = .bool true := hF.rel 4 _ rfl
                have ev5 : xx 5 = .bool true := hF.rel 5 _ rfl
                have ev6 : xx 6 = .bool true := hF.rel 6 _ rfl
                have ev7 : xx 7 = .slice D2 m3 j3 := hF.rel 7 _ rfl
                have ev8 : xx 8 = .int .i64 (m3 : Int) := hF.rel 8 _ rfl
                have ev9 : xx 9 = .bool true := hF.rel 9 _ rfl
                have ev10 : xx 10 = .bool true := hF.rel 10 _ rfl
                have ev11 : xx 11 = .bool true := hF.rel 11 _ rfl
                have ev12 : xx 12 = .agg #[.int .u8 q, .bool x.is, .bool x.op, .slice B m j, .bool x2.is, .bool x2.op, .slice D k1 k2] := hF.rel 12 _ rfl
                have ev13 : xx 13 = .bool mr := hF.rel 13 _ rfl
                have ev14 : xx 14 = .bool mr := hF.rel 14 _ rfl
                have hbox := hF.box
                have hfr := hF.frame
                clear hF
                simp only [Sch.finO, zA, zB, zC, ev0, ev1, ev2, ev3, ev4, ev5, ev6, ev7, ev8, ev9, ev10, ev11, ev12, ev13, ev14]
                obtain ⟨cc, ec, hbx⟩ := hbox
                rw [ev1] at ec
                injection ec with ec
                subst ec
                clear ev0 ev1 ev2 ev3 ev4 ev5 ev6 ev7 ev8 ev9 ev10 ev11 ev12 ev13 ev14
                obtain ⟨hta, hbl⟩ := HEND.out V hfr hbx
                go_wp2_with fail
                exact bodyPost_ret (results_st_tmp Tryz.results65 _ _ w.heap.size 29 _ _ _ rfl rfl hbx Tryz.underlying29 rfl infoTag) rfl ⟨_, rfl, hta, hbl⟩
            · obtain rfl : X = false := by rw [hx3]; simp
              clear hx3
              try simp only [Act.put]
              refine wp_S w.heap.size 29 #[.int .u8 0, .slice none 0 0, .slice none 0 0, .int .u8 0, .bool false, .bool false, .slice none 0 0, .bool false, .bool false, .slice none 0 0] 15 1 [some 43, some 44, some 45, some 46, some 47, some 48, some 49, some 50, some 51, some 52, some 53, some 54, some 55, some 56, some 57, none] [some (Rk3.val _ (.agg #[.int .u8 q, .bool x.is, .bool x.op, .slice B m j, .bool x2.is, .bool x2.op, .slice D k1 k2])), some (Rk3.val _ (.agg #[.int .u8 6, .slice none 0 0, .slice none 0 0, .int .u8 q, .bool x.is, .bool x.op, .slice B m j, .bool x2.is, .bool x2.op, .slice D k1 k2])), some (Rk3.val _ (.bool false)), some (Rk3.val _ (.bool false)), some (Rk3.val _ undef), some (Rk3.val _ (.bool false)), some (Rk3.val _ (.bool false)), some (Rk3.val _ undef), some (Rk3.val _ undef), some (Rk3.val _ undef), some (Rk3.val _ (.bool false)), some (Rk3.val _ (.bool false)), some (Rk3.val _ undef), some (Rk3.val _ undef), some (Rk3.val _ (.bool false)), none] rfl (by kernel_rfl) (by kernel_rfl) (by kernel_rfl) (by kernel_rfl) BZ ?hsq1 ?hgq1 _ (by rfl) rfl ?hfq1
              case hsq1 => exact ⟨⟨2, 44, by kernel_rfl, by kernel_rfl, rfl, by kernel_rfl⟩, fun v V h => ⟨#[.int .u8 6, .slice none 0 0, .slice none 0 0, .int .u8 q, .bool x.is, .bool x.op, .slice B m j, .bool x2.is, .bool x2.op, .slice D k1 k2], h, infoTag, rfl, by simp [Value.oneCell']⟩⟩
              case hgq1 =>
                refine g3_val rfl (by kernel_rfl) (fun a V H K Q hK => op_quiet (quiet_load_row 27 (.tmp 10) gr (H.old 10 (by kernel_rfl) (by kernel_rfl)) 27 #[.int .u8 q, .bool x.is, .bool x.op, .slice B m j, .bool x2.is, .bool x2.op, .slice D k1 k2] _ (H.frame.blk BR HNE.out) Tryz.underlying27 rfl (by kernel_rfl) (by kernel_rfl)) hK) ?_
                refine g3_val rfl (by kernel_rfl) (fun a V H K Q hK => op_quiet (quiet_bld 29 _ _ (bld2 (a := 0) (b := 3) (show a.eval (.const (.int .u8 6)) = .int .u8 6 from rfl) (H.rel 0 43 (by kernel_rfl) (by kernel_rfl) rfl)) #[.int .u8 6, .slice none 0 0, .slice none 0 0, .int .u8 q, .bool x.is, .bool x.op, .slice B m j, .bool x2.is, .bool x2.op, .slice D k1 k2] (by kernel_rfl) (by kernel_rfl)) hK) ?_
                refine g3_val rfl (by kernel_rfl) (fun a V H K Q hK => op_quiet (quiet_move (.tmp 7) (H.old 7 (by kernel_rfl) (by kernel_rfl)) (.inl (by kernel_rfl))) hK) ?_
                refine g3_val rfl (by kernel_rfl) (fun a V H K Q hK => op_quiet (quiet_move (.tmp 45) (H.rel 2 45 (by kernel_rfl) (by kernel_rfl) rfl) (.inl (by kernel_rfl))) hK) ?_
                refine g3_off (i := 3) (d := 46) (want := true) (u := .bool false) rfl (by kernel_rfl) (by kernel_rfl) (fun a V H => (H.rel 3 46 (by kernel_rfl) (by kernel_rfl) rfl)) (by kernel_rfl) ?_
                refine g3_val rfl (by kernel_rfl) (fun a V H K Q hK => op_quiet (quiet_pickF (.tmp 46) (.tmp 47) (.const (.bool false)) (H.rel 3 46 (by kernel_rfl) (by kernel_rfl) rfl) (show a.eval (.const (.bool false)) = .bool false from rfl) (by kernel_rfl)) hK) ?_
                refine g3_val rfl (by kernel_rfl) (fun a V H K Q hK => op_quiet (quiet_move (.tmp 48) (H.rel 5 48 (by kernel_rfl) (by kernel_rfl) rfl) (.inl (by kernel_rfl))) hK) ?_
                refine g3_off (i := 6) (d := 49) (want := true) (u := .bool false) rfl (by kernel_rfl) (by kernel_rfl) (fun a V H => (H.rel 6 49 (by kernel_rfl) (by kernel_rfl) rfl)) (by kernel_rfl) ?_
                refine g3_off (i := 6) (d := 49) (want := true) (u := .bool false) rfl (by kernel_rfl) (by kernel_rfl) (fun a V H => (H.rel 6 49 (by kernel_rfl) (by kernel_rfl) rfl)) (by kernel_rfl) ?_
                refine g3_off (i := 6) (d := 49) (want := true) (u := .bool false) rfl (by kernel_rfl) (by kernel_rfl) (fun a V H => (H.rel 6 49 (by kernel_rfl) (by kernel_rfl) rfl)) (by kernel_rfl) ?_
                refine g3_val rfl (by kernel_rfl) (fun a V H K Q hK => op_quiet (quiet_pickF (.tmp 49) (.tmp 52) (.const (.bool false)) (H.rel 6 49 (by kernel_rfl) (by kernel_rfl) rfl) (show a.eval (.const (.bool false)) = .bool false from rfl) (by kernel_rfl)) hK) ?_
                refine g3_val rfl (by kernel_rfl) (fun a V H K Q hK => op_quiet (quiet_move (.tmp 53) (H.rel 10 53 (by kernel_rfl) (by kernel_rfl) rfl) (.inl (by kernel_rfl))) hK) ?_
                refine g3_off (i := 11) (d := 54) (want := true) (u := .bool false) rfl (by kernel_rfl) (by kernel_rfl) (fun a V H => (H.rel 11 54 (by kernel_rfl) (by kernel_rfl) rfl)) (by kernel_rfl) ?_
                refine g3_off (i := 11) (d := 54) (want := true) (u := .bool false) rfl (by kernel_rfl) (by kernel_rfl) (fun a V H => (H.rel 11 54 (by kernel_rfl) (by kernel_rfl) rfl)) (by kernel_rfl) ?_
                refine g3_val rfl (by kernel_rfl) (fun a V H K Q hK => op_quiet (quiet_pickF (.tmp 54) (.tmp 56) (.const (.bool false)) (H.rel 11 54 (by kernel_rfl) (by kernel_rfl) rfl) (show a.eval (.const (.bool false)) = .bool false from rfl) (by kernel_rfl)) hK) ?_
                refine g3_st rfl ?_
                exact g3_nil
              case hfq1 =>
                intro xx V hF
                have ev0 : xx 0 = .agg #[.int .u8 q, .bool x.is, .bool x.op, .slice B m j, .bool x2.is, .bool x2.op, .slice D k1 k2] := hF.rel 0 _ rfl
                have ev1 : xx 1 = .agg #[.int .u8 6, .slice none 0 0, .slice none 0 0, .int .u8 q, .bool x.is, .bool x.op, .slice B m j, .bool x2.is, .bool x2.op, .slice D k1 k2] := hF.rel 1 _ rfl
                have ev2 : xx 2 = .bool false := hF.rel 2 _ rfl
                have ev3 : xx 3 = .bool false := hF.rel 3 _ rfl
                have ev4 : xx 4 = undef := hF.rel 4 _ rfl
                have ev5 : xx 5 = .bool false := hF.rel 5 _ rfl
                have ev6 : xx 6 = .bool false := hF.rel 6 _ rfl
                have ev7 : xx 7 = undef := hF.rel 7 _ rfl
                have ev8 : xx 8 = undef := hF.rel 8 _ rfl
                have ev9 : xx 9 = undef := hF.rel 9 _ rfl
                have ev10 : xx 10 = .bool false := hF.rel 10 _ rfl
                have ev11 : xx 11 = .bool false := hF.rel 11 _ rfl
                have ev12 : xx 12 = undef := hF.rel 12 _ rfl
                have ev13 : xx 13 = undef := hF.rel 13 _ rfl
                have ev14 : xx 14 = .bool false := hF.rel 14 _ rfl
                have hbox := hF.box
                have hfr := hF.frame
                clear hF
                simp only [Sch.finO, zA, zB, zC, ev0, ev1, ev2, ev3, ev4, ev5, ev6, ev7, ev8, ev9, ev10, ev11, ev12, ev13, ev14]
                obtain ⟨cc, ec, hbx⟩ := hbox
                rw [ev1] at ec
                injection ec with ec
                subst ec
                clear ev0 ev1 ev2 ev3 ev4 ev5 ev6 ev7 ev8 ev9 ev10 ev11 ev12 ev13 ev14
                obtain ⟨hta, hbl⟩ := HEND.out V hfr hbx
                go_wp2_with fail
                exact bodyPost_ret (results_st_tmp Tryz.results65 _ _ w.heap.size 29 _ _ _ rfl rfl hbx Tryz.underlying29 rfl infoTag) rfl ⟨_, rfl, hta, hbl⟩
            · obtain rfl : X = false := by rw [hx3]; simp
              clear hx3
              try simp only [Act.put]
              refine wp_S w.heap.size 29 #[.int .u8 0, .slice none 0 0, .slice none 0 0, .int .u8 0, .bool false, .bool false, .slice none 0 0, .bool false, .bool false, .slice none 0 0] 15 1 [some 43, some 44, some 45, some 46, some 47, some 48, some 49, some 50, some 51, some 52, some 53, some 54, some 55, some 56, some 57, none] [some (Rk3.val _ (.agg #[.int .u8 q, .bool x.is, .bool x.op, .slice B m j, .bool x2.is, .bool x2.op, .slice D k1 k2])), some (Rk3.val _ (.agg #[.int .u8 6, .slice none 0 0, .slice none 0 0, .int .u8 q, .bool x.is, .bool x.op, .slice B m j, .bool x2.is, .bool x2.op, .slice D k1 k2])), some (Rk3.val _ (.bool true)), some (Rk3.val _ (.bool true)), some (Rk3.val _ (.bool false)), some (Rk3.val _ (.bool false)), some (Rk3.val _ (.bool false)), some (Rk3.val _ undef), some (Rk3.val _ undef), some (Rk3.val _ undef), some (Rk3.val _ (.bool false)), some (Rk3.val _ (.bool false)), some (Rk3.val _ undef), some (Rk3.val _ undef), some (Rk3.val _ (.bool false)), none] rfl (by kernel_rfl) (by kernel_rfl) (by kernel_rfl) (by kernel_rfl) BZ ?hsq2 ?hgq2 _ (by rfl) rfl ?hfq2
              case hsq2 => exact ⟨⟨2, 44, by kernel_rfl, by kernel_rfl, rfl, by kernel_rfl⟩, fun v V h => ⟨#[.int .u8 6, .slice none 0 0, .slice none 0 0, .int .u8 q, .bool x.is, .bool x.op, .slice B m j, .bool x2.is, .bool x2.op, .slice D k1 k2], h, infoTag, rfl, by simp [Value.oneCell']⟩⟩
              case hgq2 =>
                refine g3_val rfl (by kernel_rfl) (fun a V H K Q hK => op_quiet (quiet_load_row 27 (.tmp 10) gr (H.old 10 (by kernel_rfl) (by kernel_rfl)) 27 #[.int .u8 q, .bool x.is, .bool x.op, .slice B m j, .bool x2.is, .bool x2.op, .slice D k1 k2] _ (H.frame.blk BR HNE.out) Tryz.underlying27 rfl (by kernel_rfl) (by kernel_rfl)) hK) ?_
                refine g3_val rfl (by kernel_rfl) (fun a V H K Q hK => op_quiet (quiet_bld 29 _ _ (bld2 (a := 0) (b := 3) (show a.eval (.const (.int .u8 6)) = .int .u8 6 from rfl) (H.rel 0 43 (by kernel_rfl) (by kernel_rfl) rfl)) #[.int .u8 6, .slice none 0 0, .slice none 0 0, .int .u8 q, .bool x.is, .bool x.op, .slice B m j, .bool x2.is, .bool x2.op, .slice D k1 k2] (by kernel_rfl) (by kernel_rfl)) hK) ?_
                refine g3_val rfl (by kernel_rfl) (fun a V H K Q hK => op_quiet (quiet_move (.tmp 7) (H.old 7 (by kernel_rfl) (by kernel_rfl)) (.inl (by kernel_rfl))) hK) ?_
                refine g3_val rfl (by kernel_rfl) (fun a V H K Q hK => op_quiet (quiet_move (.tmp 45) (H.rel 2 45 (by kernel_rfl) (by kernel_rfl) rfl) (.inl (by kernel_rfl))) hK) ?_
                refine g3_onV (i := 3) (d := 46) (want := true) (u := .bool true) rfl (by kernel_rfl) (by kernel_rfl) (fun a V H => (H.rel 3 46 (by kernel_rfl) (by kernel_rfl) rfl)) (by kernel_rfl) (fun a V H K Q hK => op_quiet (quiet_move (.tmp 9) (H.old 9 (by kernel_rfl) (by kernel_rfl)) (.inl (by kernel_rfl))) hK) ?_
                refine g3_val rfl (by kernel_rfl) (fun a V H K Q hK => op_quiet (quiet_pickT (.tmp 46) (.tmp 47) (.const (.bool false)) (H.rel 3 46 (by kernel_rfl) (by kernel_rfl) rfl) (H.rel 4 47 (by kernel_rfl) (by kernel_rfl) rfl) (by kernel_rfl)) hK) ?_
                refine g3_val rfl (by kernel_rfl) (fun a V H K Q hK => op_quiet (quiet_move (.tmp 48) (H.rel 5 48 (by kernel_rfl) (by kernel_rfl) rfl) (.inl (by kernel_rfl))) hK) ?_
                refine g3_off (i := 6) (d := 49) (want := true) (u := .bool false) rfl (by kernel_rfl) (by kernel_rfl) (fun a V H => (H.rel 6 49 (by kernel_rfl) (by kernel_rfl) rfl)) (by kernel_rfl) ?_
                refine g3_off (i := 6) (d := 49) (want := true) (u := .bool false) rfl (by kernel_rfl) (by kernel_rfl) (fun a V H => (H.rel 6 49 (by kernel_rfl) (by kernel_rfl) rfl)) (by kernel_rfl) ?_
                refine g3_off (i := 6) (d := 49) (want := true) (u := .bool false) rfl (by kernel_rfl) (by kernel_rfl) (fun a V H => (H.rel 6 49 (by kernel_rfl) (by kernel_rfl) rfl)) (by kernel_rfl) ?_
                refine g3_val rfl (by kernel_rfl) (fun a V H K Q hK => op_quiet (quiet_pickF (.tmp 49) (.tmp 52) (.const (.bool false)) (H.rel 6 49 (by kernel_rfl) (by kernel_rfl) rfl) (show a.eval (.const (.bool false)) = .bool false from rfl) (by kernel_rfl)) hK) ?_
                refine g3_val rfl (by kernel_rfl) (fun a V H K Q hK => op_quiet (quiet_move (.tmp 53) (H.rel 10 53 (by kernel_rfl) (by kernel_rfl) rfl) (.inl (by kernel_rfl))) hK) ?_
                refine g3_off (i := 11) (d := 54) (want := true) (u := .bool false) rfl (by kernel_rfl) (by kernel_rfl) (fun a V H => (H.rel 11 54 (by kernel_rfl) (by kernel_rfl) rfl)) (by kernel_rfl) ?_
                refine g3_off (i := 11) (d := 54) (want := true) (u := .bool false) rfl (by kernel_rfl) (by kernel_rfl) (fun a V H => (H.rel 11 54 (by kernel_rfl) (by kernel_rfl) rfl)) (by kernel_rfl) ?_
                refine g3_val rfl (by kernel_rfl) (fun a V H K Q hK => op_quiet (quiet_pickF (.tmp 54) (.tmp 56) (.const (.bool false)) (H.rel 11 54 (by kernel_rfl) (by kernel_rfl) rfl) (show a.eval (.const (.bool false)) = .bool false from rfl) (by kernel_rfl)) hK) ?_
                refine g3_st rfl ?_
                exact g3_nil
              case hfq2 =>
                intro xx V hF
                have ev0 : xx 0 = .agg #[.int .u8 q, .bool x.is, .bool x.op, .slice B m j, .bool x2.is, .bool x2.op, .slice D k1 k2] := hF.rel 0 _ rfl
                have ev1 : xx 1 = .agg #[.int .u8 6, .slice none 0 0, .slice none 0 0, .int .u8 q, .bool x.is, .bool x.op, .slice B m j, .bool x2.is, .bool x2.op, .slice D k1 k2] := hF.rel 1 _ rfl
                have ev2 : xx 2 = .bool true := hF.rel 2 _ rfl
                have ev3 : xx 3 = .bool true := hF.rel 3 _ rfl
                have ev4 : xx 4 = .bool false := hF.rel 4 _ rfl
                have ev5 : xx 5 = .bool false := hF.rel 5 _ rfl
                have ev6 : xx 6 = .bool false := hF.rel 6 _ rfl
                have ev7 : xx 7 = undef := hF.rel 7 _ rfl
                have ev8 : xx 8 = undef := hF.rel 8 _ rfl
                have ev9 : xx 9 = undef := hF.rel 9 _ rfl
                have ev10 : xx 10 = .bool false := hF.rel 10 _ rfl
                have ev11 : xx 11 = .bool false := hF.rel 11 _ rfl
                have ev12 : xx 12 = undef := hF.rel 12 _ rfl
                have ev13 : xx 13 = undef := hF.rel 13 _ rfl
                have ev14 : xx 14 = .bool false := hF.rel 14 _ rfl
                have hbox := hF.box
                have hfr := hF.frame
                clear hF
                simp only [Sch.finO, zA, zB, zC, ev0, ev1, ev2, ev3, ev4, ev5, ev6, ev7, ev8, ev9, ev10, ev11, ev12, ev13, ev14]
                obtain ⟨cc, ec, hbx⟩ := hbox
                rw [ev1] at ec
                injection ec with ec
                subst ec
                clear ev0 ev1 ev2 ev3 ev4 ev5 ev6 ev7 ev8 ev9 ev10 ev11 ev12 ev13 ev14
                obtain ⟨hta, hbl⟩ := HEND.out V hfr hbx
                go_wp2_with fail
                exact bodyPost_ret (results_st_tmp Tryz.results65 _ _ w.heap.size 29 _ _ _ rfl rfl hbx Tryz.underlying29 rfl infoTag) rfl ⟨_, rfl, hta, hbl⟩
            · obtain rfl : X = false := by rw [hx3]; simp
              clear hx3
              try simp only [Act.put]
              refine wp_S w.heap.size 29 #[.int .u8 0, .slice none 0 0, .slice none 0 0, .int .u8 0, .bool false, .bool false, .slice none 0 0, .bool false, .bool false, .slice none 0 0] 15 1 [some 43, some 44, some 45, some 46, some 47, some 48, some 49, some 50, some 51, some 52, some 53, some 54, some 55, some 56, some 57, none] [some (Rk3.val _ (.agg #[.int .u8 q, .bool x.is, .bool x.op, .slice B m j, .bool x2.is, .bool x2.op, .slice D k1 k2])), some (Rk3.val _ (.agg #[.int .u8 6, .slice none 0 0, .slice none 0 0, .int .u8 q, .bool x.is, .bool x.op, .slice B m j, .bool x2.is, .bool x2.op, .slice D k1 k2])), some (Rk3.val _ (.bool true)), some (Rk3.val _ (.bool true)), some (Rk3.val _ (.bool true)), some (Rk3.val _ (.bool true)), some (Rk3.val _ (.bool true)), some (Rk3.val _ (.slice D2 m3 j3)), some (Rk3.val _ (.int .i64 (m3 : Int))), some (Rk3.val _ (.bool false)), some (Rk3.val _ (.bool false)), some (Rk3.val _ (.bool false)), some (Rk3.val _ undef), some (Rk3.val _ undef), some (Rk3.val _ (.bool false)), none] rfl (by kernel_rfl) (by kernel_rfl) (by kernel_rfl) (by kernel_rfl) BZ ?hsq3 ?hgq3 _ (by rfl) rfl ?hfq3
              case hsq3 => exact ⟨⟨2, 44, by kernel_rfl, by kernel_rfl, rfl, by kernel_rfl⟩, fun v V h => ⟨#[.int .u8 6, .slice none 0 0, .slice none 0 0, .int .u8 q, .bool x.is, .bool x.op, .slice B m j, .bool x2.is, .bool x2.op, .slice D k1 k2], h, infoTag, rfl, by simp [Value.oneCell']⟩⟩
              case hgq3 =>
                refine g3_val rfl (by kernel_rfl) (fun a V H K Q hK => op_quiet (quiet_load_row 27 (.tmp 10) gr (H.old 10 (by kernel_rfl) (by kernel_rfl)) 27 #[.int .u8 q, .bool x.is, .bool x.op, .slice B m j, .bool x2.is, .bool x2.op, .slice D k1 k2] _ (H.frame.blk BR HNE.out) Tryz.underlying27 rfl (by kernel_rfl) (by kernel_rfl)) hK) ?_
                refine g3_val rfl (by kernel_rfl) (fun a V H K Q hK => op_quiet (quiet_bld 29 _ _ (bld2 (a := 0) (b := 3) (show a.eval (.const (.int .u8 6)) = .int .u8 6 from rfl) (H.rel 0 43 (by kernel_rfl) (by kernel_rfl) rfl)) #[.int .u8 6, .slice none 0 0, .slice none 0 0, .int .u8 q, .bool x.is, .bool x.op, .slice B m j, .bool x2.is, .bool x2.op, .slice D k1 k2] (by kernel_rfl) (by kernel_rfl)) hK) ?_
                refine g3_val rfl (by kernel_rfl) (fun a V H K Q hK => op_quiet (quiet_move (.tmp 7) (H.old 7 (by kernel_rfl) (by kernel_rfl)) (.inl (by kernel_rfl))) hK) ?_
                refine g3_val rfl (by kernel_rfl) (fun a V H K Q hK => op_quiet (quiet_move (.tmp 45) (H.rel 2 45 (by kernel_rfl) (by kernel_rfl) rfl) (.inl (by kernel_rfl))) hK) ?_
                refine g3_onV (i := 3) (d := 46) (want := true) (u := .bool true) rfl (by kernel_rfl) (by kernel_rfl) (fun a V H => (H.rel 3 46 (by kernel_rfl) (by kernel_rfl) rfl)) (by kernel_rfl) (fun a V H K Q hK => op_quiet (quiet_move (.tmp 9) (H.old 9 (by kernel_rfl) (by kernel_rfl)) (.inl (by kernel_rfl))) hK) ?_
                refine g3_val rfl (by kernel_rfl) (fun a V H K Q hK => op_quiet (quiet_pickT (.tmp 46) (.tmp 47) (.const (.bool false)) (H.rel 3 46 (by kernel_rfl) (by kernel_rfl) rfl) (H.rel 4 47 (by kernel_rfl) (by kernel_rfl) rfl) (by kernel_rfl)) hK) ?_
                refine g3_val rfl (by kernel_rfl) (fun a V H K Q hK => op_quiet (quiet_move (.tmp 48) (H.rel 5 48 (by kernel_rfl) (by kernel_rfl) rfl) (.inl (by kernel_rfl))) hK) ?_
                refine g3_onV (i := 6) (d := 49) (want := true) (u := .bool true) rfl (by kernel_rfl) (by kernel_rfl) (fun a V H => (H.rel 6 49 (by kernel_rfl) (by kernel_rfl) rfl)) (by kernel_rfl) (fun a V H K Q hK => op_quiet (quiet_move (.tmp 6) (H.old 6 (by kernel_rfl) (by kernel_rfl)) (.inl (by kernel_rfl))) hK) ?_
                refine g3_onV (i := 6) (d := 49) (want := true) (u := .bool true) rfl (by kernel_rfl) (by kernel_rfl) (fun a V H => (H.rel 6 49 (by kernel_rfl) (by kernel_rfl) rfl)) (by kernel_rfl) (fun a V H K Q hK => op_quiet (quiet_len (.tmp 50) D2 m3 j3 32 34 (H.rel 7 50 (by kernel_rfl) (by kernel_rfl) rfl) Tryz.underlying32 (by kernel_rfl)) hK) ?_
                refine g3_onV (i := 6) (d := 49) (want := true) (u := .bool true) rfl (by kernel_rfl) (by kernel_rfl) (fun a V H => (H.rel 6 49 (by kernel_rfl) (by kernel_rfl) rfl)) (by kernel_rfl) (fun a V H K Q hK => op_quiet (quiet_eqlI (.tmp 51) (.const (.int .i64 0)) (m3 : Int) 0 false 3 3 Tryz.underlying3 HE3.out (H.rel 8 51 (by kernel_rfl) (by kernel_rfl) rfl) (show a.eval (.const (.int .i64 0)) = .int .i64 0 from rfl) (by kernel_rfl)) hK) ?_
                refine g3_val rfl (by kernel_rfl) (fun a V H K Q hK => op_quiet (quiet_pickT (.tmp 49) (.tmp 52) (.const (.bool false)) (H.rel 6 49 (by kernel_rfl) (by kernel_rfl) rfl) (H.rel 9 52 (by kernel_rfl) (by kernel_rfl) rfl) (by kernel_rfl)) hK) ?_
                refine g3_val rfl (by kernel_rfl) (fun a V H K Q hK => op_quiet (quiet_move (.tmp 53) (H.rel 10 53 (by kernel_rfl) (by kernel_rfl) rfl) (.inl (by kernel_rfl))) hK) ?_
                refine g3_off (i := 11) (d := 54) (want := true) (u := .bool false) rfl (by kernel_rfl) (by kernel_rfl) (fun a V H => (H.rel 11 54 (by kernel_rfl) (by kernel_rfl) rfl)) (by kernel_rfl) ?_
                refine g3_off (i := 11) (d := 54) (want := true) (u := .bool false) rfl (by kernel_rfl) (by kernel_rfl) (fun a V H => (H.rel 11 54 (by kernel_rfl) (by kernel_rfl) rfl)) (by kernel_rfl) ?_
                refine g3_val rfl (by kernel_rfl) (fun a V H K Q hK => op_quiet (quiet_pickF (.tmp 54) (.tmp 56) (.const (.bool false)) (H.rel 11 54 (by kernel_rfl) (by kernel_rfl) rfl) (show a.eval (.const (.bool false)) = .bool false from rfl) (by kernel_rfl)) hK) ?_
                refine g3_st rfl ?_
                exact g3_nil
              case hfq3 =>
                intro xx V hF
                have ev0 : xx 0 = .agg #[.int .u8 q, .bool x.is, .bool x.op, .slice B m j, .bool x2.is, .bool x2.op, .slice D k1 k2] := hF.rel 0 _ rfl
                have ev1 : xx 1 = .agg #[.int .u8 6, .slice none 0 0, .slice none 0 0, .int .u8 q, .bool x.is, .bool x.op, .slice B m j, .bool x2.is, .bool x2.op, .slice D k1 k2] := hF.rel 1 _ rfl
                have ev2 : xx 2 = .bool true := hF.rel 2 _ rfl
                have ev3 : xx 3 = .bool true := hF.rel 3 _ rfl
                have ev4 : xx 4 = .bool true := hF.rel 4 _ rfl
                have ev5 : xx 5 = .bool true := hF.rel 5 _ rfl
                have ev6 : xx 6 = .bool true := hF.rel 6 _ rfl
                have ev7 : xx 7 = .slice D2 m3 j3 := hF.rel 7 _ rfl
                have ev8 : xx 8 = .int .i64 (m3 : Int) := hF.rel 8 _ rfl
                have ev9 : xx 9 = .bool false := hF.rel 9 _ rfl
                have ev10 : xx 10 = .bool false := hF.rel 10 _ rfl
                have ev11 : xx 11 = .bool false := hF.rel 11 _ rfl
                have ev12 : xx 12 = undef := hF.rel 12 _ rfl
                have ev13 : xx 13 = undef := hF.rel 13 _ rfl
                have ev14 : xx 14 = .bool false := hF.rel 14 _ rfl
                have hbox := hF.box
                have hfr := hF.frame
                clear hF
                simp only [Sch.finO, zA, zB, zC, ev0, ev1, ev2, ev3, ev4, ev5, ev6, ev7, ev8, ev9, ev10, ev11, ev12, ev13, ev14]
                obtain ⟨cc, ec, hbx⟩ := hbox
                rw [ev1] at ec
                injection ec with ec
                subst ec
                clear ev0 ev1 ev2 ev3 ev4 ev5 ev6 ev7 ev8 ev9 ev10 ev11 ev12 ev13 ev14
                obtain ⟨hta, hbl⟩ := HEND.out V hfr hbx
                go_wp2_with fail
                exact bodyPost_ret (results_st_tmp Tryz.results65 _ _ w.heap.size 29 _ _ _ rfl rfl hbx Tryz.underlying29 rfl infoTag) rfl ⟨_, rfl, hta, hbl⟩
      · obtain rfl : q = 6 := by omega
        obtain rfl : ra = none := HE.out.trans (rangedV_no (orderV_no hno.out))
        have hqB : decide ((6 : Int) ≤ 5) = false := by decide
        go_wp2_with (refine wpList_store_row rfl 29 (.tmp 2) (.tmp 58) rfl w.heap.size _ rfl rfl 29 #[.int .u8 0, .slice none 0 0, .slice none 0 0, .int .u8 0, .bool false, .bool false, .slice none 0 0, .bool false, .bool false, .slice none 0 0] (KZ.out _ hbel) infoTag rfl hone.out ?_)
        exact bodyPost_ret (results_st_tmp Tryz.results65 _ _ w.heap.size 29 _ _ _ rfl rfl ((KZ.out _ hbel).row _) Tryz.underlying29 rfl infoTag) rfl ⟨_, rfl, ⟨_, _, _, _, _, _, _, _, _, _, _, rfl, tin_zero, by simp⟩, below_row (next_below HB0.out hbel) (Nat.le_refl _) _⟩
end Go.Proofs.YtinlonpcakkfhaaGreatDoor
end
section
set_option maxRecDepth 100000
namespace Go.Proofs.YtinlonpcakkfhaaGreatDoor
open Go Go.Proofs Go.RowKit Sx _root_.Ord11 Go.Proofs.YtinlonpcakkfhaaGreatDoor.Ord11 _root_.Tag12 Sch
theorem below_set10g {B : Nat} {w V : World} {g : Nat} {b0 b1 b2 b3 b4 b5 b6 b7 b8 b9 : Value} (h : Below B V w) (hg : B ≤ g) : Below B V ((((((((((((((((((((w).setCell ⟨g, 0, none⟩ b0)).setCell ⟨g, 1, none⟩ b1)).setCell ⟨g, 2, none⟩ b2)).setCell ⟨g, 3, none⟩ b3)).setCell ⟨g, 4, none⟩ b4)).setCell ⟨g, 5, none⟩ b5)).setCell ⟨g, 6, none⟩ b6)).setCell ⟨g, 7, none⟩ b7)).setCell ⟨g, 8, none⟩ b8)).setCell ⟨g, 9, none⟩ b9) := by
  have h : Below B V ((w).setCell ⟨g, 0, none⟩ b0) := h.setCell hg _
  have h : Below B V ((((w).setCell ⟨g, 0, none⟩ b0)).setCell ⟨g, 1, none⟩ b1) := h.setCell hg _
  have h : Below B V ((((((w).setCell ⟨g, 0, none⟩ b0)).setCell ⟨g, 1, none⟩ b1)).setCell ⟨g, 2, none⟩ b2) := h.setCell hg _
  have h : Below B V ((((((((w).setCell ⟨g, 0, none⟩ b0)).setCell ⟨g, 1, none⟩ b1)).setCell ⟨g, 2, none⟩ b2)).setCell ⟨g, 3, none⟩ b3) := h.setCell hg _
  have h : Below B V ((((((((((w).setCell ⟨g, 0, none⟩ b0)).setCell ⟨g, 1, none⟩ b1)).setCell ⟨g, 2, none⟩ b2)).setCell ⟨g, 3, none⟩ b3)).setCell ⟨g, 4, none⟩ b4) := h.setCell hg _
  have h : Below B V ((((((((((((w).setCell ⟨g, 0, none⟩ b0)).setCell ⟨g, 1, none⟩ b1)).setCell ⟨g, 2, none⟩ b2)).setCell ⟨g, 3, none⟩ b3)).setCell ⟨g, 4, none⟩ b4)).setCell ⟨g, 5, none⟩ b5) := h.setCell hg _
  have h : Below B V ((((((((((((((w).setCell ⟨g, 0, none⟩ b0)).setCell ⟨g, 1, none⟩ b1)).setCell ⟨g, 2, none⟩ b2)).setCell ⟨g, 3, none⟩ b3)).setCell ⟨g, 4, none⟩ b4)).setCell ⟨g, 5, none⟩ b5)).setCell ⟨g, 6, none⟩ b6) := h.setCell hg _
  have h : Below B V ((((((((((((((((w).setCell ⟨g, 0, none⟩ b0)).setCell ⟨g, 1, none⟩ b1)).setCell ⟨g, 2, none⟩ b2)).setCell ⟨g, 3, none⟩ b3)).setCell ⟨g, 4, none⟩ b4)).setCell ⟨g, 5, none⟩ b5)).setCell ⟨g, 6, none⟩ b6)).setCell ⟨g, 7, none⟩ b7) := h.setCell hg _
  have h : Below B V ((((((((((((((((((w).setCell ⟨g, 0, none⟩ b0)).setCell ⟨g, 1, none⟩ b1)).setCell ⟨g, 2, none⟩ b2)).setCell ⟨g, 3, none⟩ b3)).setCell ⟨g, 4, none⟩ b4)).setCell ⟨g, 5, none⟩ b5)).setCell ⟨g, 6, none⟩ b6)).setCell ⟨g, 7, none⟩ b7)).setCell ⟨g, 8, none⟩ b8) := h.setCell hg _
  have h : Below B V ((((((((((((((((((((w).setCell ⟨g, 0, none⟩ b0)).setCell ⟨g, 1, none⟩ b1)).setCell ⟨g, 2, none⟩ b2)).setCell ⟨g, 3, none⟩ b3)).setCell ⟨g, 4, none⟩ b4)).setCell ⟨g, 5, none⟩ b5)).setCell ⟨g, 6, none⟩ b6)).setCell ⟨g, 7, none⟩ b7)).setCell ⟨g, 8, none⟩ b8)).setCell ⟨g, 9, none⟩ b9) := h.setCell hg _
  exact h
theorem tin_two {w : World} {S : Nat → Prop} {k : Nat} {d : List UInt8} {A : Option Addr} {n c : Nat} (hk : k < 256) (r : RIn w S 1 A n (Lib.byteCells d)) (b : n ≤ c ∧ n ≤ 140737488355328) :
    TIn w S (.mk k d zeroR []) [.int .u8 k, .slice A n c, .slice none 0 0, .int .u8 0, .bool false, .bool false, .slice none 0 0, .bool false, .bool false, .slice none 0 0] :=
  .mk (xs := []) ⟨hk, by decide⟩ r b RIn.none_ ⟨Nat.le_refl _, by omega⟩ RIn.none_ ⟨Nat.le_refl _, by omega⟩ RIn.none_ ⟨Nat.le_refl _, by omega⟩ rfl (fun i t h => by simp at h)
theorem getT_plain {h : Bool} {hi da : List UInt8} {ks : List SX} (hb : headIs (.mk true h hi da ks) star = false) : getT ordC (.mk true h hi da ks) = (getsT ordC ks).map (fun ts => .mk 3 [] zeroR ts) := by
  cases ks with
  | nil => rw [getT, getsT]; rfl
  | cons v r =>
    have hv : isA v star = false := hb
    rw [getT_cons, hv, getsT]
    cases getT ordC v <;> cases getsT ordC r <;> rfl
theorem nodes_kids {l h : Bool} {hi da : List UInt8} {ks : List SX} {N : Nat} (hn : nodes (.mk l h hi da ks) ≤ N) : nodesL ks ≤ N ∧ ks.length ≤ N := by
  rw [nodes] at hn
  have : ∀ ks : List SX, ks.length ≤ nodesL ks := by
    intro ks
    induction ks with
    | nil => simp
    | cons a r ih =>
      obtain ⟨_, _, _, _, _⟩ := a
      rw [nodesL, nodes, List.length_cons]; omega
  have := this ks
  omega
theorem dlen_form {t : SX} (hc : clean t = true) : dlen t ≤ (form t).length := by
  obtain ⟨l, h, hi, da, ks⟩ := t
  obtain ⟨_, hl, _⟩ := clean_parts hc
  cases l with
  | true =>
    obtain ⟨_, _, rfl⟩ := hl rfl
    exact Nat.zero_le _
  | false =>
    show da.length ≤ _
    rw [form]
    simp only [Bool.false_eq_true, if_false, List.length_append, List.length_cons, text]
    omega
theorem form_kids {l h : Bool} {hi da : List UInt8} {ks : List SX} (hc : clean (.mk l h hi da ks) = true) : (formL ks).length ≤ (form (.mk l h hi da ks)).length := by
  obtain ⟨_, _, ha⟩ := clean_parts hc
  cases l with
  | true => rw [form]; simp; omega
  | false =>
    obtain ⟨rfl, _⟩ := ha rfl
    rw [formL]; exact Nat.zero_le _
theorem at_five {V : World} {ad : Addr} {i : Nat} {v0 v1 v2 v3 v4 : Value} (d0 : V.cell? (ad.add (i * 5)) = some v0) (d1 : V.cell? ⟨(ad.add (i * 5)).block, (ad.add (i * 5)).off + 1, none⟩ = some v1) (d2 : V.cell? ⟨(ad.add (i * 5)).block, (ad.add (i * 5)).off + 2, none⟩ = some v2) (d3 : V.cell? ⟨(ad.add (i * 5)).block, (ad.add (i * 5)).off + 3, none⟩ = some v3) (d4 : V.cell? ⟨(ad.add (i * 5)).block, (ad.add (i * 5)).off + 4, none⟩ = some v4) :
    ∀ j v, (#[v0, v1, v2, v3, v4] : Array Value)[j]? = some v → V.cell? ((ad.add (i * 5)).add j) = some v := five_at d0 d1 d2 d3 d4
theorem fAp0 (ap : Addr) : ∀ W, (Instr.fieldAt 34 (.pointer (some ap)) 0).run Tryz.prog W = .ok (.pointer (some ap)) W := fun W => by kernel_rfl
theorem fAp1 (ap : Addr) : ∀ W, (Instr.fieldAt 34 (.pointer (some ap)) 1).run Tryz.prog W = .ok (.pointer (some ⟨ap.block, ap.off + 1, none⟩)) W := fun W => by kernel_rfl
theorem fAp3 (ap : Addr) : ∀ W, (Instr.fieldAt 34 (.pointer (some ap)) 3).run Tryz.prog W = .ok (.pointer (some ⟨ap.block, ap.off + 3, none⟩)) W := fun W => by kernel_rfl
theorem prefT_one (l h : Bool) (hi da : List UInt8) (ks : List SX) : prefT [.mk l h hi da ks] = if (!l && !h) = true then some (.mk 5 da zeroR []) else none := by
  cases l <;> cases h <;> rfl
set_option maxHeartbeats 32000000 in
theorem refGet12_any (t : SX) : ∀ (w : World) (S : Nat → Prop) (cs : List Value), SIn w S t cs → (∀ b, S b → b < w.heap.size) → nodes t ≤ 1099511627776 → clean t = true → (form t).length ≤ 1099511627776 →
    Calls Tryz.prog 37 #[.agg cs.toArray] w fun e w' => ∃ v, e = .returned v ∧ TagA (getT ordC t) (fun b => S b ∨ w.heap.size ≤ b) v w' ∧ Below w.heap.size w w' := by
  induction t using SX.ind with
  | H l h hi da ks ih =>
    intro w S cs hs hS hn hcl hf
    obtain ⟨_, _, _, _, _, A1, n1, c1, A2, n2, c2, A3, n3, c3, e, rfl⟩ := hs.form_
    cases e
    obtain ⟨-, -, r1, r2, -, g2, gk, -, -, b3, b4, -, -⟩ := hs.inv
    obtain ⟨ra, hra⟩ : ∃ a, a = getT ordC (.mk l h hi da ks) := ⟨_, rfl⟩
    rw [← hra]
    have HE := hid hra
    obtain ⟨w0, hw0⟩ : ∃ w0, w0 = ((w.alloc (.cells #[.bool l, .bool h, .slice A1 n1 c1, .slice A2 n2 c2, .slice A3 n3 c3] 34)).alloc (.cells #[.int .u8 0, .slice none 0 0, .slice none 0 0, .int .u8 0, .bool false, .bool false, .slice none 0 0, .bool false, .bool false, .slice none 0 0] 29)) := ⟨_, rfl⟩
    have HZ0 : Hid (w0.heap.size = w.heap.size + 2) := by show _ = _; rw [hw0]; simp
    have HB0 : Hid (Below w.heap.size w w0) := by
      show Below _ _ _
      rw [hw0]
      exact (below_new _ _).trans ((below_new _ _).mono (by simp))
    have BX : Blk w0 w.heap.size 34 #[.bool l, .bool h, .slice A1 n1 c1, .slice A2 n2 c2, .slice A3 n3 c3] := by
      rw [hw0]
      exact (Blk.new w 34 #[.bool l, .bool h, .slice A1 n1 c1, .slice A2 n2 c2, .slice A3 n3 c3]).alloc _
    have BZ : Blk w0 (w.heap.size + 1) 29 #[.int .u8 0, .slice none 0 0, .slice none 0 0, .int .u8 0, .bool false, .bool false, .slice none 0 0, .bool false, .bool false, .slice none 0 0] := by
      rw [hw0]
      have h := Blk.new (w.alloc (.cells #[.bool l, .bool h, .slice A1 n1 c1, .slice A2 n2 c2, .slice A3 n3 c3] 34)) 29 #[.int .u8 0, .slice none 0 0, .slice none 0 0, .int .u8 0, .bool false, .bool false, .slice none 0 0, .bool false, .bool false, .slice none 0 0]
      simpa using h
    have HR : Below w0.heap.size w0 w0 := Below.refl _ _
    have HS := hid hs
    have IH := hid ih
    have R2 := hid r2
    have HSB := hid hS
    have HKL := hid gk
    -- what a kid keeps
    have HKB : Hid (∀ x ∈ ks, nodes x ≤ 1099511627776 ∧ clean x = true ∧ (form x).length ≤ 1099511627776 ∧ dlen x ≤ 1099511627776) := by
      intro x hx
      have q1 := nodes_kids hn
      have q2 := mem_le hx
      have q3 := (clean_parts hcl).1
      have q4 := form_kids hcl
      have q5 := dlen_form (q2.1 q3)
      exact ⟨by omega, q2.1 q3, by omega, by omega⟩
    have HNK : Hid (ks.length ≤ 1099511627776) := (nodes_kids hn).2
    clear hra hs ih r1 r2 hn hcl hf gk
    go_enter Tryz.func37, Tryz.ntmps37
    go_upto_region 1 with fail
    rw [← hw0]
    clear hw0
    have x0 := BX.cell 0
    have x1 := BX.cell 1
    have x2 := BX.cell 2
    have x3 := BX.cell 3
    have x4 := BX.cell 4
    have z0 := BZ.cell 0
    have zf0 := BZ.frozen 0
    have z1 := BZ.cell 1
    have zf1 := BZ.frozen 1
    have z2 := BZ.cell 2
    have zf2 := BZ.frozen 2
    have z3 := BZ.cell 3
    have zf3 := BZ.frozen 3
    have z4 := BZ.cell 4
    have zf4 := BZ.frozen 4
    have z5 := BZ.cell 5
    have zf5 := BZ.frozen 5
    have z6 := BZ.cell 6
    have zf6 := BZ.frozen 6
    have z7 := BZ.cell 7
    have zf7 := BZ.frozen 7
    have z8 := BZ.cell 8
    have zf8 := BZ.frozen 8
    have z9 := BZ.cell 9
    have zf9 := BZ.frozen 9
    cases l with
    | false =>
      cases h with
      | false =>
        obtain rfl : ra = some (.mk 2 da zeroR []) := by rw [HE.out, getT]; rfl
        go_upto_region 2 with fail
        go_region
        have hT : Below w.heap.size w ((((((((((((w0).setCell ⟨w.heap.size + 1, 0, none⟩ (.int .u8 2)).setCell ⟨w.heap.size + 1, 1, none⟩ (.slice A2 n2 c2)).setCell ⟨w.heap.size + 1, 2, none⟩ (.slice none 0 0)).setCell ⟨w.heap.size + 1, 3, none⟩ (.int .u8 0)).setCell ⟨w.heap.size + 1, 4, none⟩ (.bool false)).setCell ⟨w.heap.size + 1, 5, none⟩ (.bool false)).setCell ⟨w.heap.size + 1, 6, none⟩ (.slice none 0 0)).setCell ⟨w.heap.size + 1, 7, none⟩ (.bool false)).setCell ⟨w.heap.size + 1, 8, none⟩ (.bool false)).setCell ⟨w.heap.size + 1, 9, none⟩ (.slice none 0 0)).drew) := (below_set10g (next_below HB0.out HR) (by omega)).drew
        have hK : Blk ((((((((((((w0).setCell ⟨w.heap.size + 1, 0, none⟩ (.int .u8 2)).setCell ⟨w.heap.size + 1, 1, none⟩ (.slice A2 n2 c2)).setCell ⟨w.heap.size + 1, 2, none⟩ (.slice none 0 0)).setCell ⟨w.heap.size + 1, 3, none⟩ (.int .u8 0)).setCell ⟨w.heap.size + 1, 4, none⟩ (.bool false)).setCell ⟨w.heap.size + 1, 5, none⟩ (.bool false)).setCell ⟨w.heap.size + 1, 6, none⟩ (.slice none 0 0)).setCell ⟨w.heap.size + 1, 7, none⟩ (.bool false)).setCell ⟨w.heap.size + 1, 8, none⟩ (.bool false)).setCell ⟨w.heap.size + 1, 9, none⟩ (.slice none 0 0)).drew) (w.heap.size + 1) 29 #[.int .u8 2, .slice A2 n2 c2, .slice none 0 0, .int .u8 0, .bool false, .bool false, .slice none 0 0, .bool false, .bool false, .slice none 0 0] := (blk_set10 BZ).drew
        generalize (((((((((((w0).setCell ⟨w.heap.size + 1, 0, none⟩ (.int .u8 2)).setCell ⟨w.heap.size + 1, 1, none⟩ (.slice A2 n2 c2)).setCell ⟨w.heap.size + 1, 2, none⟩ (.slice none 0 0)).setCell ⟨w.heap.size + 1, 3, none⟩ (.int .u8 0)).setCell ⟨w.heap.size + 1, 4, none⟩ (.bool false)).setCell ⟨w.heap.size + 1, 5, none⟩ (.bool false)).setCell ⟨w.heap.size + 1, 6, none⟩ (.slice none 0 0)).setCell ⟨w.heap.size + 1, 7, none⟩ (.bool false)).setCell ⟨w.heap.size + 1, 8, none⟩ (.bool false)).setCell ⟨w.heap.size + 1, 9, none⟩ (.slice none 0 0)).drew = w9 at *
        go_wp2_with fail
        exact bodyPost_ret (results_st_tmp Tryz.results37 _ _ (w.heap.size + 1) 29 _ _ _ rfl rfl hK Tryz.underlying29 rfl infoTag) rfl ⟨_, rfl, ⟨.mk 2 da zeroR [], _, _, _, _, _, _, _, _, _, _, rfl, tin_two (by omega) ((R2.out.old (by omega) hT).more fun b hb => .inl hb) ⟨by omega, by omega⟩, by simp⟩, hT⟩
      | true =>
        obtain rfl : ra = none := by rw [HE.out, getT]; rfl
        go_upto_region 2 with fail
        go_region
        have hT : Below w.heap.size w ((((((((((((w0).setCell ⟨w.heap.size + 1, 0, none⟩ (.int .u8 2)).setCell ⟨w.heap.size + 1, 1, none⟩ (.slice A2 n2 c2)).setCell ⟨w.heap.size + 1, 2, none⟩ (.slice none 0 0)).setCell ⟨w.heap.size + 1, 3, none⟩ (.int .u8 0)).setCell ⟨w.heap.size + 1, 4, none⟩ (.bool false)).setCell ⟨w.heap.size + 1, 5, none⟩ (.bool false)).setCell ⟨w.heap.size + 1, 6, none⟩ (.slice none 0 0)).setCell ⟨w.heap.size + 1, 7, none⟩ (.bool false)).setCell ⟨w.heap.size + 1, 8, none⟩ (.bool false)).setCell ⟨w.heap.size + 1, 9, none⟩ (.slice none 0 0)).drew) := (below_set10g (next_below HB0.out HR) (by omega)).drew
        have hK : Blk ((((((((((((w0).setCell ⟨w.heap.size + 1, 0, none⟩ (.int .u8 2)).setCell ⟨w.heap.size + 1, 1, none⟩ (.slice A2 n2 c2)).setCell ⟨w.heap.size + 1, 2, none⟩ (.slice none 0 0)).setCell ⟨w.heap.size + 1, 3, none⟩ (.int .u8 0)).setCell ⟨w.heap.size + 1, 4, none⟩ (.bool false)).setCell ⟨w.heap.size + 1, 5, none⟩ (.bool false)).setCell ⟨w.heap.size + 1, 6, none⟩ (.slice none 0 0)).setCell ⟨w.heap.size + 1, 7, none⟩ (.bool false)).setCell ⟨w.heap.size + 1, 8, none⟩ (.bool false)).setCell ⟨w.heap.size + 1, 9, none⟩ (.slice none 0 0)).drew) (w.heap.size + 1) 29 #[.int .u8 2, .slice A2 n2 c2, .slice none 0 0, .int .u8 0, .bool false, .bool false, .slice none 0 0, .bool false, .bool false, .slice none 0 0] := (blk_set10 BZ).drew
        generalize (((((((((((w0).setCell ⟨w.heap.size + 1, 0, none⟩ (.int .u8 2)).setCell ⟨w.heap.size + 1, 1, none⟩ (.slice A2 n2 c2)).setCell ⟨w.heap.size + 1, 2, none⟩ (.slice none 0 0)).setCell ⟨w.heap.size + 1, 3, none⟩ (.int .u8 0)).setCell ⟨w.heap.size + 1, 4, none⟩ (.bool false)).setCell ⟨w.heap.size + 1, 5, none⟩ (.bool false)).setCell ⟨w.heap.size + 1, 6, none⟩ (.slice none 0 0)).setCell ⟨w.heap.size + 1, 7, none⟩ (.bool false)).setCell ⟨w.heap.size + 1, 8, none⟩ (.bool false)).setCell ⟨w.heap.size + 1, 9, none⟩ (.slice none 0 0)).drew = w9 at *
        go_wp2_with fail
        exact bodyPost_ret (results_st_tmp Tryz.results37 _ _ (w.heap.size + 1) 29 _ _ _ rfl rfl hK Tryz.underlying29 rfl infoTag) rfl ⟨_, rfl, ⟨.mk 2 da zeroR [], _, _, _, _, _, _, _, _, _, _, rfl, tin_two (by omega) ((R2.out.old (by omega) hT).more fun b hb => .inl hb) ⟨by omega, by omega⟩, by simp⟩, hT⟩
    | true =>
      obtain ⟨b, hb⟩ : ∃ b, b = headIs (.mk true h hi da ks) star := ⟨_, rfl⟩
      have HBb := hid hb
      have KH : Hid (Calls Tryz.prog 62 #[.agg #[.bool true, .bool h, .slice A1 n1 c1, .slice A2 n2 c2, .slice A3 n3 c3], .string ⟨#[42]⟩] w0 fun e w' => e = .returned (.bool b) ∧ Below w0.heap.size w0 w') := by
        rw [hb]; exact refHead_any _ star w0 S _ (HS.out.old HB0.out)
      have KX : Hid (∀ V, Below w0.heap.size w0 V → Blk V w.heap.size 34 #[.bool true, .bool h, .slice A1 n1 c1, .slice A2 n2 c2, .slice A3 n3 c3] ∧ Blk V (w.heap.size + 1) 29 #[.int .u8 0, .slice none 0 0, .slice none 0 0, .int .u8 0, .bool false, .bool false, .slice none 0 0, .bool false, .bool false, .slice none 0 0]) := fun V hV => ⟨BX.old hV, BZ.old hV⟩
      have KT : Hid (∀ (l : List SX) (A : Option Addr) (n c : Nat), (∀ x ∈ l, x ∈ ks) → l.length ≤ 1099511627776 → ∀ V, Below w0.heap.size w0 V → RowS V S l A n c → Calls Tryz.prog 63 #[.slice A n c] V fun e w' => ∃ v, e = .returned v ∧ TagsA (getsT ordC l) S V.heap.size v w' ∧ Below V.heap.size V w') := by
        intro l A n c hl hll V hV hrow
        have hV2 := next_below HB0.out hV
        have hlen : n ≤ 1099511627776 := by
          have h1 := hrow.len.1
          have h2 := hrow.len.2.2
          omega
        exact refTags12_any l V S A n c hrow hlen (fun b hb => Nat.lt_of_lt_of_le (HSB.out b hb) hV2.size) (fun t ht W cs hW hin => IH.out t (hl t ht) W S cs hin (fun b hb => Nat.lt_of_lt_of_le (HSB.out b hb) (Nat.le_trans hV2.size hW)) (HKB.out t (hl t ht)).1 (HKB.out t (hl t ht)).2.1 (HKB.out t (hl t ht)).2.2.1)
      clear hb
      cases b with
      | false =>
        have HRA : Hid (ra = (getsT ordC ks).map (fun ts => .mk 3 [] zeroR ts)) := by show _ = _; rw [HE.out]; exact getT_plain HBb.out.symm
        go_upto_region 4 with (go_at_call 62; refine (KH.out).mono ?_; rintro e w1 ⟨rfl, hb1⟩)
        clear x0 x1 x2 x3 x4 z0 zf0 z1 zf1 z2 zf2 z3 zf3 z4 zf4 z5 zf5 z6 zf6 z7 zf7 z8 zf8 z9 zf9 KH
        obtain ⟨BX1, BZ1⟩ := KX.out _ hb1
        have x4 := BX1.cell 4
        have hbw := next_below HB0.out hb1
        have KT2 := hid (KT.out ks A3 n3 c3 (fun x h => h) HNK.out w1 hb1 (HS.out.old hbw).rowS)
        go_upto_region 5 with (go_at_call 63; refine (KT2.out).mono ?_; rintro e w2 ⟨vx, rfl, ⟨ts, sl, rfl, hto, hln, hy⟩, hb2⟩; obtain ⟨A9, n9, c9, rfl, htin⟩ := hto.tin (S0 := fun b => S b ∨ w1.heap.size ≤ b) (k := 3) (by omega) hln (fun b hb => hb))
        have hb02 := next_below hb1 hb2
        obtain ⟨-, BZ2⟩ := KX.out _ hb02
        have hone : Hid ((#[.int .u8 3, .slice none 0 0, .slice A9 n9 c9, .int .u8 0, .bool false, .bool false, .slice none 0 0, .bool false, .bool false, .slice none 0 0] : Array Value).all (·.oneCell') = true) := by show _ = _; simp [Value.oneCell']
        have hsome : ra.isSome = (getsT ordC ks).isSome := by rw [HRA.out]; cases getsT ordC ks <;> rfl
        rw [← hsome]
        have hyy : ∀ y, ra = some y → y = .mk 3 [] zeroR ts := by
          intro y h
          rw [HRA.out] at h
          cases hg : getsT ordC ks with
          | none => rw [hg] at h; cases h
          | some q => rw [hg] at h; injection h with h; rw [← h, hy q hg]
        have HYY := hid hyy
        have HTI := hid htin
        have HL1 : Hid (w.heap.size + 2 ≤ w1.heap.size) := by show _ ≤ _; rw [← HZ0.out]; exact Below.size hb1
        clear hyy hy hsome htin
        go_wp2_with (refine wpList_store_row rfl 29 (.tmp 2) (.tmp 28) rfl (w.heap.size + 1) _ rfl rfl 29 #[.int .u8 0, .slice none 0 0, .slice none 0 0, .int .u8 0, .bool false, .bool false, .slice none 0 0, .bool false, .bool false, .slice none 0 0] BZ2 infoTag rfl hone.out ?_)
        exact bodyPost_ret (results_st_tmp Tryz.results37 _ _ (w.heap.size + 1) 29 _ _ _ rfl rfl (BZ2.row _) Tryz.underlying29 rfl infoTag) rfl ⟨_, rfl, ⟨_, _, _, _, _, _, _, _, _, _, _, rfl, (HTI.out.keep fun p hp => row_cell (hp.elim (fun h => by have := HSB.out _ h; omega) (fun h => by have := HL1.out; omega))).more (fun b hb => hb.elim .inl fun h => .inr (by have := HL1.out; omega)), HYY.out⟩, below_row (next_below HB0.out hb02) (by omega) _⟩
      | true =>
        obtain ⟨t0, r, rfl⟩ : ∃ t0 r, ks = t0 :: r := by
          cases ks with
          | nil => have := HBb.out; simp [headIs] at this
          | cons y q => exact ⟨y, q, rfl⟩
        have HT0 : Hid (isA t0 star = true) := by show _ = _; have := HBb.out; simpa [headIs] using this.symm
        go_upto_region 6 with (go_at_call 62; refine (KH.out).mono ?_; rintro e w1 ⟨rfl, hb1⟩)
        clear x0 x1 x2 x3 x4 z0 zf0 z1 zf1 z2 zf2 z3 zf3 z4 zf4 z5 zf5 z6 zf6 z7 zf7 z8 zf8 z9 zf9 KH HBb
        obtain ⟨BX1, BZ1⟩ := KX.out _ hb1
        have x4 := BX1.cell 4
        have hn3 : r.length + 1 = n3 := by have := HKL.out; simpa using this
        obtain ⟨ad3, -, -, -, -, -, -, rfl, -⟩ := HS.out.rowS.at_ (k := 0) (by omega)
        have hc3 : n3 ≤ c3 := HS.out.rowS.len.2.1
        have HR1 : Hid (RowS w S r (if c3 = 1 then some ad3 else some (⟨ad3.block, ad3.off + 5, none⟩ : Addr)) (n3 - 1) (c3 - 1)) := HS.out.rowS.drop (k := 1) (by omega)
        go_upto_region 7 with fail
        generalize (if c3 = 1 then some ad3 else some (⟨ad3.block, ad3.off + 5, none⟩ : Addr)) = A5 at HR1 ⊢
        obtain ⟨m, hm⟩ : ∃ m, m = n3 - 1 := ⟨_, rfl⟩
        obtain ⟨cm, hcm⟩ : ∃ m, m = c3 - 1 := ⟨_, rfl⟩
        have HML : Hid (r.length = m) := by show _ = _; omega
        rw [← hm, ← hcm] at HR1 ⊢
        have HM3 : Hid (m ≤ 1099511627776) := by show _ ≤ _; have := HNK.out; simp at this; omega
        clear x4 BX1 hm hcm hc3 hn3
        by_cases h0 : m = 0
        · have h0B : ((m : Int) == 0) = true := by rw [beq_iff_eq]; omega
          have hr0 : r = [] := List.eq_nil_of_length_eq_zero (by have := HML.out; omega)
          obtain rfl : ra = some (.mk 1 [] zeroR []) := by rw [HE.out, hr0, getT_cons, if_pos HT0.out]
          have H0 := hid h0
          clear h0
          go_wp2_with (refine wpList_store_row rfl 29 (.tmp 2) (.tmp 36) rfl (w.heap.size + 1) _ rfl rfl 29 #[.int .u8 0, .slice none 0 0, .slice none 0 0, .int .u8 0, .bool false, .bool false, .slice none 0 0, .bool false, .bool false, .slice none 0 0] BZ1 infoTag rfl (by simp [Value.oneCell']) ?_)
          exact bodyPost_ret (results_st_tmp Tryz.results37 _ _ (w.heap.size + 1) 29 _ _ _ rfl rfl (BZ1.row _) Tryz.underlying29 rfl infoTag) rfl ⟨_, rfl, ⟨.mk 1 [] zeroR [], _, _, _, _, _, _, _, _, _, _, rfl, tin_two (by omega) RIn.none_ ⟨by omega, by omega⟩, by simp⟩, below_row (next_below HB0.out hb1) (by omega) _⟩
        · have h0B : ((m : Int) == 0) = false := by rw [beq_eq_false_iff_ne]; omega
          obtain ⟨ad, v0, v1, v2, v3, v4, x, rfl, hSa, hx0, -, hin, d0, d1, d2, d3, d4⟩ := HR1.out.at_ (k := 0) (by omega)
          obtain ⟨q, rfl⟩ : ∃ q, r = x :: q := by
            cases r with
            | nil => simp at hx0
            | cons y q => exact ⟨q, by simpa using hx0⟩
          obtain ⟨s1, hs1⟩ : ∃ s, s = isA x setW := ⟨_, rfl⟩
          obtain ⟨s2, hs2⟩ : ∃ s, s = isA x prefW := ⟨_, rfl⟩
          obtain ⟨s3, hs3⟩ : ∃ s, s = isA x rangW := ⟨_, rfl⟩
          have HRA0 : Hid (ra = if s1 = true then (getsT ordC q).map fun ks => .mk 4 [] zeroR ks else if (s2 && decide (q.length = 1)) = true then prefT q else if s3 = true then rangedV ordC q else none) := by
            show _ = _
            rw [HE.out, getT_star _ _ _ _ _ _ HT0.out, hs1, hs2, hs3]
          have KI1 : Hid (∀ W, Below w0.heap.size w0 W → Calls Tryz.prog 64 #[.agg #[v0, v1, v2, v3, v4], .string ⟨#[115, 101, 116]⟩] W fun e w' => e = .returned (.bool s1) ∧ Below W.heap.size W w') := fun W hW => by rw [hs1]; exact refIs_any x setW W S _ (hin.old (next_below HB0.out hW))
          have KI2 : Hid (∀ W, Below w0.heap.size w0 W → Calls Tryz.prog 64 #[.agg #[v0, v1, v2, v3, v4], .string ⟨#[112, 114, 101, 102, 105, 120]⟩] W fun e w' => e = .returned (.bool s2) ∧ Below W.heap.size W w') := fun W hW => by rw [hs2]; exact refIs_any x prefW W S _ (hin.old (next_below HB0.out hW))
          have KI3 : Hid (∀ W, Below w0.heap.size w0 W → Calls Tryz.prog 64 #[.agg #[v0, v1, v2, v3, v4], .string ⟨#[114, 97, 110, 103, 101]⟩] W fun e w' => e = .returned (.bool s3) ∧ Below W.heap.size W w') := fun W hW => by rw [hs3]; exact refIs_any x rangW W S _ (hin.old (next_below HB0.out hW))
          have KC : Hid (∀ W, Below w0.heap.size w0 W → ∀ j v, (#[v0, v1, v2, v3, v4] : Array Value)[j]? = some v → W.cell? ((ad.add (0 * 5)).add j) = some v) := by
            intro W hW
            have h := fun p u (h : w.cell? p = some u) => ((next_below HB0.out hW).cell (World.block_lt_of_cell? _ _ h)).trans h
            exact at_five (h _ _ d0) (h _ _ d1) (h _ _ d2) (h _ _ d3) (h _ _ d4)
          have HQL : Hid (q.length + 1 = m) := by show _ = _; have := HML.out; simpa using this
          have HRQ : Hid (RowS w S q (if cm = 1 then some ad else some (⟨ad.block, ad.off + 5, none⟩ : Addr)) (m - 1) (cm - 1)) := HR1.out.drop (k := 1) (by omega)
          have H0 := hid h0
          have HPM : Hid (0 < m) := Nat.pos_of_ne_zero h0
          have hmc : m ≤ cm := HR1.out.len.2.1
          clear hs1 hs2 hs3 hin hSa hx0 d0 d1 d2 d3 d4 HE
          go_upto_region 9 with fail
          try simp only [Act.put]
          refine wp_R [37, 38, 39, 40] [Rk.val (.slice (some ad) m cm), Rk.val (.pointer (some (ad.add (0 * 5)))), Rk.val (.agg #[v0, v1, v2, v3, v4]), Rk.val (.bool s1)] rfl (by kernel_rfl) (by kernel_rfl) (by kernel_rfl) (by kernel_rfl) ?hg _ (by rfl) ?hf
          case hg =>
            refine gr_val rfl (by kernel_rfl) (fun a V H K Q hK => op_quiet (quiet_move (.tmp 6) (H.old 6 (by kernel_rfl) (by kernel_rfl)) (.inl (by kernel_rfl))) hK) ?_
            refine gr_val rfl (by kernel_rfl) (fun a V H K Q hK => op_quiet (quiet_indexN (.tmp 37) (.const (.int .i64 0)) ad m cm 0 5 32 34 (H.rel 0 37 (by kernel_rfl) (by kernel_rfl) rfl) (show a.eval (.const (.int .i64 0)) = .int .i64 ((0 : Nat) : Int) from rfl) HPM.out Tryz.underlying32 (by kernel_rfl) (by kernel_rfl)) hK) ?_
            refine gr_val rfl (by kernel_rfl) (fun a V H K Q hK => op_quiet (quiet_aggA 34 (.tmp 38) (ad.add (0 * 5)) (H.rel 1 38 (by kernel_rfl) (by kernel_rfl) rfl) #[v0, v1, v2, v3, v4] (KC.out _ (next_below hb1 H.frame)) Tryz.underlying34 rfl (by kernel_rfl) (by kernel_rfl)) hK) ?_
            refine gr_val rfl (by kernel_rfl) (fun a V H K Q hK => op_callK _ #[.agg #[v0, v1, v2, v3, v4], .string ⟨#[115, 101, 116]⟩] (by kernel_rfl) (by kernel_rfl) (by kernel_rfl) (map2 (H.rel 2 39 (by kernel_rfl) (by kernel_rfl) rfl) (show a.eval (.const (.string ⟨#[115, 101, 116]⟩)) = .string ⟨#[115, 101, 116]⟩ from rfl)) (KI1.out V (next_below hb1 H.frame)) (by kernel_rfl) hK) ?_
            exact gr_nil
          case hf =>
            intro xx V hF
            have ev0 : xx 0 = .slice (some ad) m cm := hF.rel 0 _ rfl
            have ev1 : xx 1 = .pointer (some (ad.add (0 * 5))) := hF.rel 1 _ rfl
            have ev2 : xx 2 = .agg #[v0, v1, v2, v3, v4] := hF.rel 2 _ rfl
            have ev3 : xx 3 = .bool s1 := hF.rel 3 _ rfl
            have hbf := hF.frame
            clear hF
            simp only [Sch.finL, zA, zB, zC, ev0, ev1, ev2, ev3]
            clear ev0 ev1 ev2 ev3
            have hb3 := next_below hb1 hbf
            clear hbf hb1 BZ1
            refine tail_nil ?_
            cases s1 with
            | true =>
              have HRA : Hid (ra = (getsT ordC q).map (fun ts => .mk 4 [] zeroR ts)) := by show _ = _; rw [HRA0.out, if_pos rfl]
              have KT2 := hid (KT.out q _ _ _ (fun y h => by simp [h]) (by have := HQL.out; have := HM3.out; omega) V hb3 (HRQ.out.old (next_below HB0.out hb3)))
              go_upto_region 11 with (go_at_call 63; go_loud (refine (KT2.out).mono ?_); rintro e w2 ⟨vx, rfl, ⟨ts, sl, rfl, hto, hln, hy⟩, hb2⟩; obtain ⟨A9, n9, c9, rfl, htin⟩ := hto.tin (S0 := fun b => S b ∨ V.heap.size ≤ b) (k := 4) (by omega) hln (fun b hb => hb))
              generalize (if cm = 1 then some ad else some (⟨ad.block, ad.off + 5, none⟩ : Addr)) = A6
              have hb02 := next_below hb3 hb2
              obtain ⟨-, BZ2⟩ := KX.out _ hb02
              have hone : Hid ((#[.int .u8 4, .slice none 0 0, .slice A9 n9 c9, .int .u8 0, .bool false, .bool false, .slice none 0 0, .bool false, .bool false, .slice none 0 0] : Array Value).all (·.oneCell') = true) := by show _ = _; simp [Value.oneCell']
              have hsome : ra.isSome = (getsT ordC q).isSome := by rw [HRA.out]; cases getsT ordC q <;> rfl
              rw [← hsome]
              have hyy : ∀ y, ra = some y → y = .mk 4 [] zeroR ts := by
                intro y h
                rw [HRA.out] at h
                cases hg : getsT ordC q with
                | none => rw [hg] at h; cases h
                | some q => rw [hg] at h; injection h with h; rw [← h, hy q hg]
              have HYY := hid hyy
              have HTI := hid htin
              have HL1 : Hid (w.heap.size + 2 ≤ V.heap.size) := by show _ ≤ _; rw [← HZ0.out]; exact Below.size hb3
              clear hyy hy hsome htin
              go_wp2_with (refine wpList_store_row rfl 29 (.tmp 2) (.tmp 48) rfl (w.heap.size + 1) _ rfl rfl 29 #[.int .u8 0, .slice none 0 0, .slice none 0 0, .int .u8 0, .bool false, .bool false, .slice none 0 0, .bool false, .bool false, .slice none 0 0] BZ2 infoTag rfl hone.out ?_)
              exact bodyPost_ret (results_st_tmp Tryz.results37 _ _ (w.heap.size + 1) 29 _ _ _ rfl rfl (BZ2.row _) Tryz.underlying29 rfl infoTag) rfl ⟨_, rfl, ⟨_, _, _, _, _, _, _, _, _, _, _, rfl, (HTI.out.keep fun p hp => row_cell (hp.elim (fun h => by have := HSB.out _ h; omega) (fun h => by have := HL1.out; omega))).more (fun b hb => hb.elim .inl fun h => .inr (by have := HL1.out; omega)), HYY.out⟩, below_row (next_below HB0.out hb02) (by omega) _⟩
            | false =>
              have HRA1 : Hid (ra = if (s2 && decide (q.length = 1)) = true then prefT q else if s3 = true then rangedV ordC q else none) := by show _ = _; rw [HRA0.out, if_neg (by simp)]
              clear HRA0
              obtain ⟨e2, he2⟩ : ∃ e, e = decide (q.length = 1) := ⟨_, rfl⟩
              have HE2 : Hid (((m : Int) == 2) = e2) := by
                show _ = _
                have h1 := HQL.out
                rw [he2]
                by_cases h2 : q.length = 1
                · rw [decide_eq_true h2, beq_iff_eq]; omega
                · rw [decide_eq_false h2, beq_eq_false_iff_ne]; omega
              rw [← he2] at HRA1
              have HQ1 := hid he2
              clear he2
              go_upto_region 12 with fail
              cases s2
              rotate_left 1
              cases e2
              rotate_left 1
              · try simp only [Act.put]
                refine wp_R [50, 51, 52, 53, 54, 55, 56, 57, 58] [Rk.val (.slice (some ad) m cm), Rk.val (.pointer (some (ad.add (0 * 5)))), Rk.val (.agg #[v0, v1, v2, v3, v4]), Rk.val (.bool true), Rk.val (.bool true), Rk.val (.slice (some ad) m cm), Rk.val (.int .i64 (m : Int)), Rk.val (.bool true), Rk.val (.bool true)] rfl (by kernel_rfl) (by kernel_rfl) (by kernel_rfl) (by kernel_rfl) ?hg _ (by rfl) ?hf
                case hg =>
                  refine gr_val rfl (by kernel_rfl) (fun a V H K Q hK => op_quiet (quiet_move (.tmp 6) (H.old 6 (by kernel_rfl) (by kernel_rfl)) (.inl (by kernel_rfl))) hK) ?_
                  refine gr_val rfl (by kernel_rfl) (fun a V H K Q hK => op_quiet (quiet_indexN (.tmp 50) (.const (.int .i64 0)) ad m cm 0 5 32 34 (H.rel 0 50 (by kernel_rfl) (by kernel_rfl) rfl) (show a.eval (.const (.int .i64 0)) = .int .i64 ((0 : Nat) : Int) from rfl) HPM.out Tryz.underlying32 (by kernel_rfl) (by kernel_rfl)) hK) ?_
                  refine gr_val rfl (by kernel_rfl) (fun a V H K Q hK => op_quiet (quiet_aggA 34 (.tmp 51) (ad.add (0 * 5)) (H.rel 1 51 (by kernel_rfl) (by kernel_rfl) rfl) #[v0, v1, v2, v3, v4] (KC.out _ (next_below hb3 H.frame)) Tryz.underlying34 rfl (by kernel_rfl) (by kernel_rfl)) hK) ?_
                  refine gr_val rfl (by kernel_rfl) (fun a V H K Q hK => op_callK _ #[.agg #[v0, v1, v2, v3, v4], .string ⟨#[112, 114, 101, 102, 105, 120]⟩] (by kernel_rfl) (by kernel_rfl) (by kernel_rfl) (map2 (H.rel 2 52 (by kernel_rfl) (by kernel_rfl) rfl) (show a.eval (.const (.string ⟨#[112, 114, 101, 102, 105, 120]⟩)) = .string ⟨#[112, 114, 101, 102, 105, 120]⟩ from rfl)) (KI2.out V (next_below hb3 H.frame)) (by kernel_rfl) hK) ?_
                  refine gr_val rfl (by kernel_rfl) (fun a V H K Q hK => op_quiet (quiet_move (.tmp 53) (H.rel 3 53 (by kernel_rfl) (by kernel_rfl) rfl) (.inl (by kernel_rfl))) hK) ?_
                  refine gr_onV (j := 4) (d := 54) (want := true) (u := .bool true) rfl (by kernel_rfl) (by kernel_rfl) (fun a V H => (H.rel 4 54 (by kernel_rfl) (by kernel_rfl) rfl)) (by kernel_rfl) (fun a V H K Q hK => op_quiet (quiet_move (.tmp 6) (H.old 6 (by kernel_rfl) (by kernel_rfl)) (.inl (by kernel_rfl))) hK) ?_
                  refine gr_onV (j := 4) (d := 54) (want := true) (u := .bool true) rfl (by kernel_rfl) (by kernel_rfl) (fun a V H => (H.rel 4 54 (by kernel_rfl) (by kernel_rfl) rfl)) (by kernel_rfl) (fun a V H K Q hK => op_quiet (quiet_len (.tmp 55) (some ad) m cm 32 34 (H.rel 5 55 (by kernel_rfl) (by kernel_rfl) rfl) Tryz.underlying32 (by kernel_rfl)) hK) ?_
                  refine gr_onV (j := 4) (d := 54) (want := true) (u := .bool true) rfl (by kernel_rfl) (by kernel_rfl) (fun a V H => (H.rel 4 54 (by kernel_rfl) (by kernel_rfl) rfl)) (by kernel_rfl) (fun a V H K Q hK => op_quiet (quiet_eqlI (.tmp 56) (.const (.int .i64 2)) (m : Int) 2 true 3 3 Tryz.underlying3 HE2.out (H.rel 6 56 (by kernel_rfl) (by kernel_rfl) rfl) (show a.eval (.const (.int .i64 2)) = .int .i64 2 from rfl) (by kernel_rfl)) hK) ?_
                  refine gr_val rfl (by kernel_rfl) (fun a V H K Q hK => op_quiet (quiet_pickT (.tmp 54) (.tmp 57) (.const (.bool false)) (H.rel 4 54 (by kernel_rfl) (by kernel_rfl) rfl) (H.rel 7 57 (by kernel_rfl) (by kernel_rfl) rfl) (by kernel_rfl)) hK) ?_
                  exact gr_nil
                case hf =>
                  intro xz V7 hF
                  have ev0 : xz 0 = .slice (some ad) m cm := hF.rel 0 _ rfl
                  have ev1 : xz 1 = .pointer (some (ad.add (0 * 5))) := hF.rel 1 _ rfl
                  have ev2 : xz 2 = .agg #[v0, v1, v2, v3, v4] := hF.rel 2 _ rfl
                  have ev3 : xz 3 = .bool true := hF.rel 3 _ rfl
                  have ev4 : xz 4 = .bool true := hF.rel 4 _ rfl
                  have ev5 : xz 5 = .slice (some ad) m cm := hF.rel 5 _ rfl
                  have ev6 : xz 6 = .int .i64 (m : Int) := hF.rel 6 _ rfl
                  have ev7 : xz 7 = .bool true := hF.rel 7 _ rfl
                  have ev8 : xz 8 = .bool true := hF.rel 8 _ rfl
                  have hbf := hF.frame
                  clear hF
                  simp only [Sch.finL, zA, zB, zC, ev0, ev1, ev2, ev3, ev4, ev5, ev6, ev7, ev8]
                  clear ev0 ev1 ev2 ev3 ev4 ev5 ev6 ev7 ev8
                  have hb4 := next_below hb3 hbf
                  clear hbf hb3
                  refine tail_nil ?_
                  obtain ⟨y, rfl⟩ : ∃ y, q = [y] := by
                    have h1 : q.length = 1 := of_decide_eq_true HQ1.out.symm
                    match q, h1 with
                    | [y], _ => exact ⟨y, rfl⟩
                  have HRA2 : Hid (ra = prefT [y]) := by show _ = _; rw [HRA1.out]; simp
                  clear HRA1
                  have hm2 : m = 2 := by have := HQL.out; simpa using this.symm
                  obtain ⟨ad', u0, u1, u2, u3, u4, y', had, hSy, hy0, -, hiny, d0, d1, d2, d3, d4⟩ := HR1.out.at_ (k := 1) (by omega)
                  injection had with had
                  subst had
                  obtain rfl : y = y' := by simpa using hy0
                  obtain ⟨yl, yh, yhi, yd, yk, B1, m1, f1, B2, m2, f2, B3, m3, f3, rfl, hcs⟩ := hiny.form_
                  simp only [List.cons.injEq, and_true] at hcs
                  obtain ⟨rfl, rfl, rfl, rfl, rfl⟩ := hcs
                  obtain ⟨-, -, -, ry, -, -, -, -, -, yb, yc, -, -⟩ := hiny.inv
                  have HRY := hid ry
                  have HP1 : Hid (1 < m) := by show _ < _; omega
                  have hltb : (ad.add (1 * 5)).block < w.heap.size := by rw [block_of_add]; exact HSB.out _ hSy
                  have KD : Hid (∀ W, FrG (w.heap.size + 1) V7 W → W.cell? (ad.add (1 * 5)) = some (.bool yl) ∧ W.cell? ⟨(ad.add (1 * 5)).block, (ad.add (1 * 5)).off + 1, none⟩ = some (.bool yh) ∧ W.cell? ⟨(ad.add (1 * 5)).block, (ad.add (1 * 5)).off + 3, none⟩ = some (.slice B2 m2 f2)) := by
                    intro W hW
                    have h := fun p u (h : w.cell? p = some u) => (hW.cell (p := p) (Nat.lt_of_lt_of_le (World.block_lt_of_cell? _ _ h) (next_below HB0.out hb4).size) (by have := World.block_lt_of_cell? _ _ h; omega)).trans (((next_below HB0.out hb4).cell (World.block_lt_of_cell? _ _ h)).trans h)
                    exact ⟨h _ _ d0, h _ _ d1, h _ _ d3⟩
                  obtain ⟨-, BZ4⟩ := KX.out _ hb4
                  have hbw4 := next_below HB0.out hb4
                  clear d0 d1 d2 d3 d4 hiny ry hSy hy0 hltb hm2 HR1
                  generalize hap : ad.add (1 * 5) = ap at *
                  go_upto_region 13 with fail
                  cases yl <;> cases yh
                  · try simp only [Act.put]
                    refine wp_S (w.heap.size + 1) 29 #[.int .u8 0, .slice none 0 0, .slice none 0 0, .int .u8 0, .bool false, .bool false, .slice none 0 0, .bool false, .bool false, .slice none 0 0] 17 4 [some 59, some 60, some 61, some 62, some 63, some 64, some 65, some 66, some 67, some 68, some 69, some 70, some 71, some 72, some 73, some 74, some 75, none] [some (Rk3.val _ (.slice (some ad) m cm)), some (Rk3.val _ (.pointer (some ap))), some (Rk3.val _ (.pointer (some ⟨ap.block, ap.off + 3, none⟩))), some (Rk3.val _ (.slice B2 m2 f2)), some (Rk3.val _ (.agg #[.int .u8 5, .slice B2 m2 f2, .slice none 0 0, .int .u8 0, .bool false, .bool false, .slice none 0 0, .bool false, .bool false, .slice none 0 0])), some (Rk3.val _ (.slice (some ad) m cm)), some (Rk3.val _ (.pointer (some ap))), some (Rk3.val _ (.pointer (some ap))), some (Rk3.val _ (.bool false)), some (Rk3.val _ (.bool true)), some (Rk3.val _ (.bool true)), some (Rk3.val _ (.slice (some ad) m cm)), some (Rk3.val _ (.pointer (some ap))), some (Rk3.val _ (.pointer (some ⟨ap.block, ap.off + 1, none⟩))), some (Rk3.val _ (.bool false)), some (Rk3.val _ (.bool true)), some (Rk3.val _ (.bool true)), none] rfl (by kernel_rfl) (by kernel_rfl) (by kernel_rfl) (by kernel_rfl) BZ4 ?hsp00 ?hgp00 _ (by rfl) rfl ?hfp00
                    case hsp00 => exact ⟨⟨2, 63, by kernel_rfl, by kernel_rfl, rfl, by kernel_rfl⟩, fun v V h => ⟨#[.int .u8 5, .slice B2 m2 f2, .slice none 0 0, .int .u8 0, .bool false, .bool false, .slice none 0 0, .bool false, .bool false, .slice none 0 0], h, infoTag, rfl, by simp [Value.oneCell']⟩⟩
                    case hgp00 =>
                      refine g3_val rfl (by kernel_rfl) (fun a V H K Q hK => op_quiet (quiet_move (.tmp 6) (H.old 6 (by kernel_rfl) (by kernel_rfl)) (.inl (by kernel_rfl))) hK) ?_
                      refine g3_val rfl (by kernel_rfl) (fun a V H K Q hK => op_quiet (hap ▸ quiet_indexN (.tmp 59) (.const (.int .i64 1)) ad m cm 1 5 32 34 (H.rel 0 59 (by kernel_rfl) (by kernel_rfl) rfl) (show a.eval (.const (.int .i64 1)) = .int .i64 ((1 : Nat) : Int) from rfl) HP1.out Tryz.underlying32 (by kernel_rfl) (by kernel_rfl)) hK) ?_
                      refine g3_val rfl (by kernel_rfl) (fun a V H K Q hK => op_quiet (quiet_fld _ (.tmp 60) 3 _ _ (H.rel 1 60 (by kernel_rfl) (by kernel_rfl) rfl) (fAp3 ap) (by kernel_rfl)) hK) ?_
                      refine g3_val rfl (by kernel_rfl) (fun a V H K Q hK => op_quiet (quiet_cell _ (.tmp 61) _ (H.rel 2 61 (by kernel_rfl) (by kernel_rfl) rfl) Tryz.underlying22 rfl (KD.out _ H.frame).2.2 (by kernel_rfl)) hK) ?_
                      refine g3_val rfl (by kernel_rfl) (fun a V H K Q hK => op_quiet (quiet_bld 29 _ _ (bld2 (a := 0) (b := 1) (show a.eval (.const (.int .u8 5)) = .int .u8 5 from rfl) (H.rel 3 62 (by kernel_rfl) (by kernel_rfl) rfl)) #[.int .u8 5, .slice B2 m2 f2, .slice none 0 0, .int .u8 0, .bool false, .bool false, .slice none 0 0, .bool false, .bool false, .slice none 0 0] (by kernel_rfl) (by kernel_rfl)) hK) ?_
                      refine g3_val rfl (by kernel_rfl) (fun a V H K Q hK => op_quiet (quiet_move (.tmp 6) (H.old 6 (by kernel_rfl) (by kernel_rfl)) (.inl (by kernel_rfl))) hK) ?_
                      refine g3_val rfl (by kernel_rfl) (fun a V H K Q hK => op_quiet (hap ▸ quiet_indexN (.tmp 64) (.const (.int .i64 1)) ad m cm 1 5 32 34 (H.rel 5 64 (by kernel_rfl) (by kernel_rfl) rfl) (show a.eval (.const (.int .i64 1)) = .int .i64 ((1 : Nat) : Int) from rfl) HP1.out Tryz.underlying32 (by kernel_rfl) (by kernel_rfl)) hK) ?_
                      refine g3_val rfl (by kernel_rfl) (fun a V H K Q hK => op_quiet (quiet_fld _ (.tmp 65) 0 _ _ (H.rel 6 65 (by kernel_rfl) (by kernel_rfl) rfl) (fAp0 ap) (by kernel_rfl)) hK) ?_
                      refine g3_val rfl (by kernel_rfl) (fun a V H K Q hK => op_quiet (quiet_cell _ (.tmp 66) _ (H.rel 7 66 (by kernel_rfl) (by kernel_rfl) rfl) Tryz.underlying4 rfl (KD.out _ H.frame).1 (by kernel_rfl)) hK) ?_
                      refine g3_val rfl (by kernel_rfl) (fun a V H K Q hK => op_quiet (quiet_not 4 (.tmp 67) (H.rel 8 67 (by kernel_rfl) (by kernel_rfl) rfl) (by kernel_rfl)) hK) ?_
                      refine g3_val rfl (by kernel_rfl) (fun a V H K Q hK => op_quiet (quiet_move (.tmp 68) (H.rel 9 68 (by kernel_rfl) (by kernel_rfl) rfl) (.inl (by kernel_rfl))) hK) ?_
                      refine g3_onV (i := 10) (d := 69) (want := true) (u := .bool true) rfl (by kernel_rfl) (by kernel_rfl) (fun a V H => (H.rel 10 69 (by kernel_rfl) (by kernel_rfl) rfl)) (by kernel_rfl) (fun a V H K Q hK => op_quiet (quiet_move (.tmp 6) (H.old 6 (by kernel_rfl) (by kernel_rfl)) (.inl (by kernel_rfl))) hK) ?_
                      refine g3_onV (i := 10) (d := 69) (want := true) (u := .bool true) rfl (by kernel_rfl) (by kernel_rfl) (fun a V H => (H.rel 10 69 (by kernel_rfl) (by kernel_rfl) rfl)) (by kernel_rfl) (fun a V H K Q hK => op_quiet (hap ▸ quiet_indexN (.tmp 70) (.const (.int .i64 1)) ad m cm 1 5 32 34 (H.rel 11 70 (by kernel_rfl) (by kernel_rfl) rfl) (show a.eval (.const (.int .i64 1)) = .int .i64 ((1 : Nat) : Int) from rfl) HP1.out Tryz.underlying32 (by kernel_rfl) (by kernel_rfl)) hK) ?_
                      refine g3_onV (i := 10) (d := 69) (want := true) (u := .bool true) rfl (by kernel_rfl) (by kernel_rfl) (fun a V H => (H.rel 10 69 (by kernel_rfl) (by kernel_rfl) rfl)) (by kernel_rfl) (fun a V H K Q hK => op_quiet (quiet_fld _ (.tmp 71) 1 _ _ (H.rel 12 71 (by kernel_rfl) (by kernel_rfl) rfl) (fAp1 ap) (by kernel_rfl)) hK) ?_
                      refine g3_onV (i := 10) (d := 69) (want := true) (u := .bool true) rfl (by kernel_rfl) (by kernel_rfl) (fun a V H => (H.rel 10 69 (by kernel_rfl) (by kernel_rfl) rfl)) (by kernel_rfl) (fun a V H K Q hK => op_quiet (quiet_cell _ (.tmp 72) _ (H.rel 13 72 (by kernel_rfl) (by kernel_rfl) rfl) Tryz.underlying4 rfl (KD.out _ H.frame).2.1 (by kernel_rfl)) hK) ?_
                      refine g3_onV (i := 10) (d := 69) (want := true) (u := .bool true) rfl (by kernel_rfl) (by kernel_rfl) (fun a V H => (H.rel 10 69 (by kernel_rfl) (by kernel_rfl) rfl)) (by kernel_rfl) (fun a V H K Q hK => op_quiet (quiet_not 4 (.tmp 73) (H.rel 14 73 (by kernel_rfl) (by kernel_rfl) rfl) (by kernel_rfl)) hK) ?_
                      refine g3_val rfl (by kernel_rfl) (fun a V H K Q hK => op_quiet (quiet_pickT (.tmp 69) (.tmp 74) (.const (.bool false)) (H.rel 10 69 (by kernel_rfl) (by kernel_rfl) rfl) (H.rel 15 74 (by kernel_rfl) (by kernel_rfl) rfl) (by kernel_rfl)) hK) ?_
                      refine g3_st rfl ?_
                      exact g3_nil
                    case hfp00 =>
                      intro xx V8 hF
                      have ev0 : xx 0 = .slice (some ad) m cm := hF.rel 0 _ rfl
                      have ev1 : xx 1 = .pointer (some ap) := hF.rel 1 _ rfl
                      have ev2 : xx 2 = .pointer (some ⟨ap.block, ap.off + 3, none⟩) := hF.rel 2 _ rfl
                      have ev3 : xx 3 = .slice B2 m2 f2 := hF.rel 3 _ rfl
                      have ev4 : xx 4 = .agg #[.int .u8 5, .slice B2 m2 f2, .slice none 0 0, .int .u8 0, .bool false, .bool false, .slice none 0 0, .bool false, .bool false, .slice none 0 0] := hF.rel 4 _ rfl
                      have ev5 : xx 5 = .slice (some ad) m cm := hF.rel 5 _ rfl
                      have ev6 : xx 6 = .pointer (some ap) := hF.rel 6 _ rfl
                      have ev7 : xx 7 = .pointer (some ap) := hF.rel 7 _ rfl
                      have ev8 : xx 8 = .bool false := hF.rel 8 _ rfl
                      have ev9 : xx 9 = .bool true := hF.rel 9 _ rfl
                      have ev10 : xx 10 = .bool true := hF.rel 10 _ rfl
                      have ev11 : xx 11 = .slice (some ad) m cm := hF.rel 11 _ rfl
                      have ev12 : xx 12 = .pointer (some ap) := hF.rel 12 _ rfl
                      have ev13 : xx 13 = .pointer (some ⟨ap.block, ap.off + 1, none⟩) := hF.rel 13 _ rfl
                      have ev14 : xx 14 = .bool false := hF.rel 14 _ rfl
                      have ev15 : xx 15 = .bool true := hF.rel 15 _ rfl
                      have ev16 : xx 16 = .bool true := hF.rel 16 _ rfl
                      have hbox := hF.box
                      have hfr := hF.frame
                      clear hF
                      simp only [Sch.finO, zA, zB, zC, ev0, ev1, ev2, ev3, ev4, ev5, ev6, ev7, ev8, ev9, ev10, ev11, ev12, ev13, ev14, ev15, ev16]
                      obtain ⟨cc, ec, hbx⟩ := hbox
                      rw [ev4] at ec
                      injection ec with ec
                      subst ec
                      clear ev0 ev1 ev2 ev3 ev4 ev5 ev6 ev7 ev8 ev9 ev10 ev11 ev12 ev13 ev14 ev15 ev16
                      have hT : Below w.heap.size w V8 := hbw4.trans (hfr.below (by omega) BZ4.lt)
                      have hra : ra.isSome = true := by rw [HRA2.out, prefT_one]; rfl
                      go_wp2_with fail
                      exact bodyPost_ret (results_st_tmp Tryz.results37 _ _ (w.heap.size + 1) 29 _ _ _ rfl rfl hbx Tryz.underlying29 rfl infoTag) rfl ⟨_, rfl, ⟨.mk 5 yd zeroR [], _, _, _, _, _, _, _, _, _, _, by rw [hra]; rfl, tin_two (by omega) ((HRY.out.old (by omega) hT).more fun b hb => .inl hb) ⟨by omega, by omega⟩, by intro z hz; rw [HRA2.out, prefT_one] at hz; simpa using hz.symm⟩, hT⟩
                  · try simp only [Act.put]
                    refine wp_S (w.heap.size + 1) 29 #[.int .u8 0, .slice none 0 0, .slice none 0 0, .int .u8 0, .bool false, .bool false, .slice none 0 0, .bool false, .bool false, .slice none 0 0] 17 4 [some 59, some 60, some 61, some 62, some 63, some 64, some 65, some 66, some 67, some 68, some 69, some 70, some 71, some 72, some 73, some 74, some 75, none] [some (Rk3.val _ (.slice (some ad) m cm)), some (Rk3.val _ (.pointer (some ap))), some (Rk3.val _ (.pointer (some ⟨ap.block, ap.off + 3, none⟩))), some (Rk3.val _ (.slice B2 m2 f2)), some (Rk3.val _ (.agg #[.int .u8 5, .slice B2 m2 f2, .slice none 0 0, .int .u8 0, .bool false, .bool false, .slice none 0 0, .bool false, .bool false, .slice none 0 0])), some (Rk3.val _ (.slice (some ad) m cm)), some (Rk3.val _ (.pointer (some ap))), some (Rk3.val _ (.pointer (some ap))), some (Rk3.val _ (.bool false)), some (Rk3.val _ (.bool true)), some (Rk3.val _ (.bool true)), some (Rk3.val _ (.slice (some ad) m cm)), some (Rk3.val _ (.pointer (some ap))), some (Rk3.val _ (.pointer (some ⟨ap.block, ap.off + 1, none⟩))), some (Rk3.val _ (.bool true)), some (Rk3.val _ (.bool false)), some (Rk3.val _ (.bool false)), none] rfl (by kernel_rfl) (by kernel_rfl) (by kernel_rfl) (by kernel_rfl) BZ4 ?hsp01 ?hgp01 _ (by rfl) rfl ?hfp01
                    case hsp01 => exact ⟨⟨2, 63, by kernel_rfl, by kernel_rfl, rfl, by kernel_rfl⟩, fun v V h => ⟨#[.int .u8 5, .slice B2 m2 f2, .slice none 0 0, .int .u8 0, .bool false, .bool false, .slice none 0 0, .bool false, .bool false, .slice none 0 0], h, infoTag, rfl, by simp [Value.oneCell']⟩⟩
                    case hgp01 =>
                      refine g3_val rfl (by kernel_rfl) (fun a V H K Q hK => op_quiet (quiet_move (.tmp 6) (H.old 6 (by kernel_rfl) (by kernel_rfl)) (.inl (by kernel_rfl))) hK) ?_
                      refine g3_val rfl (by kernel_rfl) (fun a V H K Q hK => op_quiet (hap ▸ quiet_indexN (.tmp 59) (.const (.int .i64 1)) ad m cm 1 5 32 34 (H.rel 0 59 (by kernel_rfl) (by kernel_rfl) rfl) (show a.eval (.const (.int .i64 1)) = .int .i64 ((1 : Nat) : Int) from rfl) HP1.out Tryz.underlying32 (by kernel_rfl) (by kernel_rfl)) hK) ?_
                      refine g3_val rfl (by kernel_rfl) (fun a V H K Q hK => op_quiet (quiet_fld _ (.tmp 60) 3 _ _ (H.rel 1 60 (by kernel_rfl) (by kernel_rfl) rfl) (fAp3 ap) (by kernel_rfl)) hK) ?_
                      refine g3_val rfl (by kernel_rfl) (fun a V H K Q hK => op_quiet (quiet_cell _ (.tmp 61) _ (H.rel 2 61 (by kernel_rfl) (by kernel_rfl) rfl) Tryz.underlying22 rfl (KD.out _ H.frame).2.2 (by kernel_rfl)) hK) ?_
                      refine g3_val rfl (by kernel_rfl) (fun a V H K Q hK => op_quiet (quiet_bld 29 _ _ (bld2 (a := 0) (b := 1) (show a.eval (.const (.int .u8 5)) = .int .u8 5 from rfl) (H.rel 3 62 (by kernel_rfl) (by kernel_rfl) rfl)) #[.int .u8 5, .slice B2 m2 f2, .slice none 0 0, .int .u8 0, .bool false, .bool false, .slice none 0 0, .bool false, .bool false, .slice none 0 0] (by kernel_rfl) (by kernel_rfl)) hK) ?_
                      refine g3_val rfl (by kernel_rfl) (fun a V H K Q hK => op_quiet (quiet_move (.tmp 6) (H.old 6 (by kernel_rfl) (by kernel_rfl)) (.inl (by kernel_rfl))) hK) ?_
                      refine g3_val rfl (by kernel_rfl) (fun a V H K Q hK => op_quiet (hap ▸ quiet_indexN (.tmp 64) (.const (.int .i64 1)) ad m cm 1 5 32 34 (H.rel 5 64 (by kernel_rfl) (by kernel_rfl) rfl) (show a.eval (.const (.int .i64 1)) = .int .i64 ((1 : Nat) : Int) from rfl) HP1.out Tryz.underlying32 (by kernel_rfl) (by kernel_rfl)) hK) ?_
                      refine g3_val rfl (by kernel_rfl) (fun a V H K Q hK => op_quiet (quiet_fld _ (.tmp 65) 0 _ _ (H.rel 6 65 (by kernel_rfl) (by kernel_rfl) rfl) (fAp0 ap) (by kernel_rfl)) hK) ?_
                      refine g3_val rfl (by kernel_rfl) (fun a V H K Q hK => op_quiet (quiet_cell _ (.tmp 66) _ (H.rel 7 66 (by kernel_rfl) (by kernel_rfl) rfl) Tryz.underlying4 rfl (KD.out _ H.frame).1 (by kernel_rfl)) hK) ?_
                      refine g3_val rfl (by kernel_rfl) (fun a V H K Q hK => op_quiet (quiet_not 4 (.tmp 67) (H.rel 8 67 (by kernel_rfl) (by kernel_rfl) rfl) (by kernel_rfl)) hK) ?_
                      refine g3_val rfl (by kernel_rfl) (fun a V H K Q hK => op_quiet (quiet_move (.tmp 68) (H.rel 9 68 (by kernel_rfl) (by kernel_rfl) rfl) (.inl (by kernel_rfl))) hK) ?_
                      refine g3_onV (i := 10) (d := 69) (want := true) (u := .bool true) rfl (by kernel_rfl) (by kernel_rfl) (fun a V H => (H.rel 10 69 (by kernel_rfl) (by kernel_rfl) rfl)) (by kernel_rfl) (fun a V H K Q hK => op_quiet (quiet_move (.tmp 6) (H.old 6 (by kernel_rfl) (by kernel_rfl)) (.inl (by kernel_rfl))) hK) ?_
                      refine g3_onV (i := 10) (d := 69) (want := true) (u := .bool true) rfl (by kernel_rfl) (by kernel_rfl) (fun a V H => (H.rel 10 69 (by kernel_rfl) (by kernel_rfl) rfl)) (by kernel_rfl) (fun a V H K Q hK => op_quiet (hap ▸ quiet_indexN (.tmp 70) (.const (.int .i64 1)) ad m cm 1 5 32 34 (H.rel 11 70 (by kernel_rfl) (by kernel_rfl) rfl) (show a.eval (.const (.int .i64 1)) = .int .i64 ((1 : Nat) : Int) from rfl) HP1.out Tryz.underlying32 (by kernel_rfl) (by kernel_rfl)) hK) ?_
                      refine g3_onV (i := 10) (d := 69) (want := true) (u := .bool true) rfl (by kernel_rfl) (by kernel_rfl) (fun a V H => (H.rel 10 69 (by kernel_rfl) (by kernel_rfl) rfl)) (by kernel_rfl) (fun a V H K Q hK => op_quiet (quiet_fld _ (.tmp 71) 1 _ _ (H.rel 12 71 (by kernel_rfl) (by kernel_rfl) rfl) (fAp1 ap) (by kernel_rfl)) hK) ?_
                      refine g3_onV (i := 10) (d := 69) (want := true) (u := .bool true) rfl (by kernel_rfl) (by kernel_rfl) (fun a V H => (H.rel 10 69 (by kernel_rfl) (by kernel_rfl) rfl)) (by kernel_rfl) (fun a V H K Q hK => op_quiet (quiet_cell _ (.tmp 72) _ (H.rel 13 72 (by kernel_rfl) (by kernel_rfl) rfl) Tryz.underlying4 rfl (KD.out _ H.frame).2.1 (by kernel_rfl)) hK) ?_
                      refine g3_onV (i := 10) (d := 69) (want := true) (u := .bool true) rfl (by kernel_rfl) (by kernel_rfl) (fun a V H => (H.rel 10 69 (by kernel_rfl) (by kernel_rfl) rfl)) (by kernel_rfl) (fun a V H K Q hK => op_quiet (quiet_not 4 (.tmp 73) (H.rel 14 73 (by kernel_rfl) (by kernel_rfl) rfl) (by kernel_rfl)) hK) ?_
                      refine g3_val rfl (by kernel_rfl) (fun a V H K Q hK => op_quiet (quiet_pickT (.tmp 69) (.tmp 74) (.const (.bool false)) (H.rel 10 69 (by kernel_rfl) (by kernel_rfl) rfl) (H.rel 15 74 (by kernel_rfl) (by kernel_rfl) rfl) (by kernel_rfl)) hK) ?_
                      refine g3_st rfl ?_
                      exact g3_nil
                    case hfp01 =>
                      intro xx V8 hF
                      have ev0 : xx 0 = .slice (some ad) m cm := hF.rel 0 _ rfl
                      have ev1 : xx 1 = .pointer (some ap) := hF.rel 1 _ rfl
                      have ev2 : xx 2 = .pointer (some ⟨ap.block, ap.off + 3, none⟩) := hF.rel 2 _ rfl
                      have ev3 : xx 3 = .slice B2 m2 f2 := hF.rel 3 _ rfl
                      have ev4 : xx 4 = .agg #[.int .u8 5, .slice B2 m2 f2, .slice none 0 0, .int .u8 0, .bool false, .bool false, .slice none 0 0, .bool false, .bool false, .slice none 0 0] := hF.rel 4 _ rfl
                      have ev5 : xx 5 = .slice (some ad) m cm := hF.rel 5 _ rfl
                      have ev6 : xx 6 = .pointer (some ap) := hF.rel 6 _ rfl
                      have ev7 : xx 7 = .pointer (some ap) := hF.rel 7 _ rfl
                      have ev8 : xx 8 = .bool false := hF.rel 8 _ rfl
                      have ev9 : xx 9 = .bool true := hF.rel 9 _ rfl
                      have ev10 : xx 10 = .bool true := hF.rel 10 _ rfl
                      have ev11 : xx 11 = .slice (some ad) m cm := hF.rel 11 _ rfl
                      have ev12 : xx 12 = .pointer (some ap) := hF.rel 12 _ rfl
                      have ev13 : xx 13 = .pointer (some ⟨ap.block, ap.off + 1, none⟩) := hF.rel 13 _ rfl
                      have ev14 : xx 14 = .bool true := hF.rel 14 _ rfl
                      have ev15 : xx 15 = .bool false := hF.rel 15 _ rfl
                      have ev16 : xx 16 = .bool false := hF.rel 16 _ rfl
                      have hbox := hF.box
                      have hfr := hF.frame
                      clear hF
                      simp only [Sch.finO, zA, zB, zC, ev0, ev1, ev2, ev3, ev4, ev5, ev6, ev7, ev8, ev9, ev10, ev11, ev12, ev13, ev14, ev15, ev16]
                      obtain ⟨cc, ec, hbx⟩ := hbox
                      rw [ev4] at ec
                      injection ec with ec
                      subst ec
                      clear ev0 ev1 ev2 ev3 ev4 ev5 ev6 ev7 ev8 ev9 ev10 ev11 ev12 ev13 ev14 ev15 ev16
                      have hT : Below w.heap.size w V8 := hbw4.trans (hfr.below (by omega) BZ4.lt)
                      have hra : ra.isSome = false := by rw [HRA2.out, prefT_one]; rfl
                      go_wp2_with fail
                      exact bodyPost_ret (results_st_tmp Tryz.results37 _ _ (w.heap.size + 1) 29 _ _ _ rfl rfl hbx Tryz.underlying29 rfl infoTag) rfl ⟨_, rfl, ⟨.mk 5 yd zeroR [], _, _, _, _, _, _, _, _, _, _, by rw [hra]; rfl, tin_two (by omega) ((HRY.out.old (by omega) hT).more fun b hb => .inl hb) ⟨by omega, by omega⟩, by intro z hz; rw [HRA2.out, prefT_one] at hz; simp at hz⟩, hT⟩
                  · try simp only [Act.put]
                    refine wp_S (w.heap.size + 1) 29 #[.int .u8 0, .slice none 0 0, .slice none 0 0, .int .u8 0, .bool false, .bool false, .slice none 0 0, .bool false, .bool false, .slice none 0 0] 17 4 [some 59, some 60, some 61, some 62, some 63, some 64, some 65, some 66, some 67, some 68, some 69, some 70, some 71, some 72, some 73, some 74, some 75, none] [some (Rk3.val _ (.slice (some ad) m cm)), some (Rk3.val _ (.pointer (some ap))), some (Rk3.val _ (.pointer (some ⟨ap.block, ap.off + 3, none⟩))), some (Rk3.val _ (.slice B2 m2 f2)), some (Rk3.val _ (.agg #[.int .u8 5, .slice B2 m2 f2, .slice none 0 0, .int .u8 0, .bool false, .bool false, .slice none 0 0, .bool false, .bool false, .slice none 0 0])), some (Rk3.val _ (.slice (some ad) m cm)), some (Rk3.val _ (.pointer (some ap))), some (Rk3.val _ (.pointer (some ap))), some (Rk3.val _ (.bool true)), some (Rk3.val _ (.bool false)), some (Rk3.val _ (.bool false)), some (Rk3.val _ undef), some (Rk3.val _ undef), some (Rk3.val _ undef), some (Rk3.val _ undef), some (Rk3.val _ undef), some (Rk3.val _ (.bool false)), none] rfl (by kernel_rfl) (by kernel_rfl) (by kernel_rfl) (by kernel_rfl) BZ4 ?hsp10 ?hgp10 _ (by rfl) rfl ?hfp10
                    case hsp10 => exact ⟨⟨2, 63, by kernel_rfl, by kernel_rfl, rfl, by kernel_rfl⟩, fun v V h => ⟨#[.int .u8 5, .slice B2 m2 f2, .slice none 0 0, .int .u8 0, .bool false, .bool false, .slice none 0 0, .bool false, .bool false, .slice none 0 0], h, infoTag, rfl, by simp [Value.oneCell']⟩⟩
                    case hgp10 =>
                      refine g3_val rfl (by kernel_rfl) (fun a V H K Q hK => op_quiet (quiet_move (.tmp 6) (H.old 6 (by kernel_rfl) (by kernel_rfl)) (.inl (by kernel_rfl))) hK) ?_
                      refine g3_val rfl (by kernel_rfl) (fun a V H K Q hK => op_quiet (hap ▸ quiet_indexN (.tmp 59) (.const (.int .i64 1)) ad m cm 1 5 32 34 (H.rel 0 59 (by kernel_rfl) (by kernel_rfl) rfl) (show a.eval (.const (.int .i64 1)) = .int .i64 ((1 : Nat) : Int) from rfl) HP1.out Tryz.underlying32 (by kernel_rfl) (by kernel_rfl)) hK) ?_
                      refine g3_val rfl (by kernel_rfl) (fun a V H K Q hK => op_quiet (quiet_fld _ (.tmp 60) 3 _ _ (H.rel 1 60 (by kernel_rfl) (by kernel_rfl) rfl) (fAp3 ap) (by kernel_rfl)) hK) ?_
                      refine g3_val rfl (by kernel_rfl) (fun a V H K Q hK => op_quiet (quiet_cell _ (.tmp 61) _ (H.rel 2 61 (by kernel_rfl) (by kernel_rfl) rfl) Tryz.underlying22 rfl (KD.out _ H.frame).2.2 (by kernel_rfl)) hK) ?_
                      refine g3_val rfl (by kernel_rfl) (fun a V H K Q hK => op_quiet (quiet_bld 29 _ _ (bld2 (a := 0) (b := 1) (show a.eval (.const (.int .u8 5)) = .int .u8 5 from rfl) (H.rel 3 62 (by kernel_rfl) (by kernel_rfl) rfl)) #[.int .u8 5, .slice B2 m2 f2, .slice none 0 0, .int .u8 0, .bool false, .bool false, .slice none 0 0, .bool false, .bool false, .slice none 0 0] (by kernel_rfl) (by kernel_rfl)) hK) ?_
                      refine g3_val rfl (by kernel_rfl) (fun a V H K Q hK => op_quiet (quiet_move (.tmp 6) (H.old 6 (by kernel_rfl) (by kernel_rfl)) (.inl (by kernel_rfl))) hK) ?_
                      refine g3_val rfl (by kernel_rfl) (fun a V H K Q hK => op_quiet (hap ▸ quiet_indexN (.tmp 64) (.const (.int .i64 1)) ad m cm 1 5 32 34 (H.rel 5 64 (by kernel_rfl) (by kernel_rfl) rfl) (show a.eval (.const (.int .i64 1)) = .int .i64 ((1 : Nat) : Int) from rfl) HP1.out Tryz.underlying32 (by kernel_rfl) (by kernel_rfl)) hK) ?_
                      refine g3_val rfl (by kernel_rfl) (fun a V H K Q hK => op_quiet (quiet_fld _ (.tmp 65) 0 _ _ (H.rel 6 65 (by kernel_rfl) (by kernel_rfl) rfl) (fAp0 ap) (by kernel_rfl)) hK) ?_
                      refine g3_val rfl (by kernel_rfl) (fun a V H K Q hK => op_quiet (quiet_cell _ (.tmp 66) _ (H.rel 7 66 (by kernel_rfl) (by kernel_rfl) rfl) Tryz.underlying4 rfl (KD.out _ H.frame).1 (by kernel_rfl)) hK) ?_
                      refine g3_val rfl (by kernel_rfl) (fun a V H K Q hK => op_quiet (quiet_not 4 (.tmp 67) (H.rel 8 67 (by kernel_rfl) (by kernel_rfl) rfl) (by kernel_rfl)) hK) ?_
                      refine g3_val rfl (by kernel_rfl) (fun a V H K Q hK => op_quiet (quiet_move (.tmp 68) (H.rel 9 68 (by kernel_rfl) (by kernel_rfl) rfl) (.inl (by kernel_rfl))) hK) ?_
                      refine g3_off (i := 10) (d := 69) (want := true) (u := .bool false) rfl (by kernel_rfl) (by kernel_rfl) (fun a V H => (H.rel 10 69 (by kernel_rfl) (by kernel_rfl) rfl)) (by kernel_rfl) ?_
                      refine g3_off (i := 10) (d := 69) (want := true) (u := .bool false) rfl (by kernel_rfl) (by kernel_rfl) (fun a V H => (H.rel 10 69 (by kernel_rfl) (by kernel_rfl) rfl)) (by kernel_rfl) ?_
                      refine g3_off (i := 10) (d := 69) (want := true) (u := .bool false) rfl (by kernel_rfl) (by kernel_rfl) (fun a V H => (H.rel 10 69 (by kernel_rfl) (by kernel_rfl) rfl)) (by kernel_rfl) ?_
                      refine g3_off (i := 10) (d := 69) (want := true) (u := .bool false) rfl (by kernel_rfl) (by kernel_rfl) (fun a V H => (H.rel 10 69 (by kernel_rfl) (by kernel_rfl) rfl)) (by kernel_rfl) ?_
                      refine g3_off (i := 10) (d := 69) (want := true) (u := .bool false) rfl (by kernel_rfl) (by kernel_rfl) (fun a V H => (H.rel 10 69 (by kernel_rfl) (by kernel_rfl) rfl)) (by kernel_rfl) ?_
                      refine g3_val rfl (by kernel_rfl) (fun a V H K Q hK => op_quiet (quiet_pickF (.tmp 69) (.tmp 74) (.const (.bool false)) (H.rel 10 69 (by kernel_rfl) (by kernel_rfl) rfl) (show a.eval (.const (.bool false)) = .bool false from rfl) (by kernel_rfl)) hK) ?_
                      refine g3_st rfl ?_
                      exact g3_nil
                    case hfp10 =>
                      intro xx V8 hF
                      have ev0 : xx 0 = .slice (some ad) m cm := hF.rel 0 _ rfl
                      have ev1 : xx 1 = .pointer (some ap) := hF.rel 1 _ rfl
                      have ev2 : xx 2 = .pointer (some ⟨ap.block, ap.off + 3, none⟩) := hF.rel 2 _ rfl
                      have ev3 : xx 3 = .slice B2 m2 f2 := hF.rel 3 _ rfl
                      have ev4 : xx 4 = .agg #[.int .u8 5, .slice B2 m2 f2, .slice none 0 0, .int .u8 0, .bool false, .bool false, .slice none 0 0, .bool false, .bool false, .slice none 0 0] := hF.rel 4 _ rfl
                      have ev5 : xx 5 = .slice (some ad) m cm := hF.rel 5 _ rfl
                      have ev6 : xx 6 = .pointer (some ap) := hF.rel 6 _ rfl
                      have ev7 : xx 7 = .pointer (some ap) := hF.rel 7 _ rfl
                      have ev8 : xx 8 = .bool true := hF.rel 8 _ rfl
                      have ev9 : xx 9 = .bool false := hF.rel 9 _ rfl
                      have ev10 : xx 10 = .bool false := hF.rel 10 _ rfl
                      have ev11 : xx 11 = undef := hF.rel 11 _ rfl
                      have ev12 : xx 12 = undef := hF.rel 12 _ rfl
                      have ev13 : xx 13 = undef := hF.rel 13 _ rfl
                      have ev14 : xx 14 = undef := hF.rel 14 _ rfl
                      have ev15 : xx 15 = undef := hF.rel 15 _ rfl
                      have ev16 : xx 16 = .bool false := hF.rel 16 _ rfl
                      have hbox := hF.box
                      have hfr := hF.frame
                      clear hF
                      simp only [Sch.finO, zA, zB, zC, ev0, ev1, ev2, ev3, ev4, ev5, ev6, ev7, ev8, ev9, ev10, ev11, ev12, ev13, ev14, ev15, ev16]
                      obtain ⟨cc, ec, hbx⟩ := hbox
                      rw [ev4] at ec
                      injection ec with ec
                      subst ec
                      clear ev0 ev1 ev2 ev3 ev4 ev5 ev6 ev7 ev8 ev9 ev10 ev11 ev12 ev13 ev14 ev15 ev16
                      have hT : Below w.heap.size w V8 := hbw4.trans (hfr.below (by omega) BZ4.lt)
                      have hra : ra.isSome = false := by rw [HRA2.out, prefT_one]; rfl
                      go_wp2_with fail
                      exact bodyPost_ret (results_st_tmp Tryz.results37 _ _ (w.heap.size + 1) 29 _ _ _ rfl rfl hbx Tryz.underlying29 rfl infoTag) rfl ⟨_, rfl, ⟨.mk 5 yd zeroR [], _, _, _, _, _, _, _, _, _, _, by rw [hra]; rfl, tin_two (by omega) ((HRY.out.old (by omega) hT).more fun b hb => .inl hb) ⟨by omega, by omega⟩, by intro z hz; rw [HRA2.out, prefT_one] at hz; simp at hz⟩, hT⟩
                  · try simp only [Act.put]
                    refine wp_S (w.heap.size + 1) 29 #[.int .u8 0, .slice none 0 0, .slice none 0 0, .int .u8 0, .bool false, .bool false, .slice none 0 0, .bool false, .bool false, .slice none 0 0] 17 4 [some 59, some 60, some 61, some 62, some 63, some 64, some 65, some 66, some 67, some 68, some 69, some 70, some 71, some 72, some 73, some 74, some 75, none] [some (Rk3.val _ (.slice (some ad) m cm)), some (Rk3.val _ (.pointer (some ap))), some (Rk3.val _ (.pointer (some ⟨ap.block, ap.off + 3, none⟩))), some (Rk3.val _ (.slice B2 m2 f2)), some (Rk3.val _ (.agg #[.int .u8 5, .slice B2 m2 f2, .slice none 0 0, .int .u8 0, .bool false, .bool false, .slice none 0 0, .bool false, .bool false, .slice none 0 0])), some (Rk3.val _ (.slice (some ad) m cm)), some (Rk3.val _ (.pointer (some ap))), some (Rk3.val _ (.pointer (some ap))), some (Rk3.val _ (.bool true)), some (Rk3.val _ (.bool false)), some (Rk3.val _ (.bool false)), some (Rk3.val _ undef), some (Rk3.val _ undef), some (Rk3.val _ undef), some (Rk3.val _ undef), some (Rk3.val _ undef), some (Rk3.val _ (.bool false)), none] rfl (by kernel_rfl) (by kernel_rfl) (by kernel_rfl) (by kernel_rfl) BZ4 ?hsp11 ?hgp11 _ (by rfl) rfl ?hfp11
                    case hsp11 => exact ⟨⟨2, 63, by kernel_rfl, by kernel_rfl, rfl, by kernel_rfl⟩, fun v V h => ⟨#[.int .u8 5, .slice B2 m2 f2, .slice none 0 0, .int .u8 0, .bool false, .bool false, .slice none 0 0, .bool false, .bool false, .slice none 0 0], h, infoTag, rfl, by simp [Value.oneCell']⟩⟩
                    case hgp11 =>
                      refine g3_val rfl (by kernel_rfl) (fun a V H K Q hK => op_quiet (quiet_move (.tmp 6) (H.old 6 (by kernel_rfl) (by kernel_rfl)) (.inl (by kernel_rfl))) hK) ?_
                      refine g3_val rfl (by kernel_rfl) (fun a V H K Q hK => op_quiet (hap ▸ quiet_indexN (.tmp 59) (.const (.int .i64 1)) ad m cm 1 5 32 34 (H.rel 0 59 (by kernel_rfl) (by kernel_rfl) rfl) (show a.eval (.const (.int .i64 1)) = .int .i64 ((1 : Nat) : Int) from rfl) HP1.out Tryz.underlying32 (by kernel_rfl) (by kernel_rfl)) hK) ?_
                      refine g3_val rfl (by kernel_rfl) (fun a V H K Q hK => op_quiet (quiet_fld _ (.tmp 60) 3 _ _ (H.rel 1 60 (by kernel_rfl) (by kernel_rfl) rfl) (fAp3 ap) (by kernel_rfl)) hK) ?_
                      refine g3_val rfl (by kernel_rfl) (fun a V H K Q hK => op_quiet (quiet_cell _ (.tmp 61) _ (H.rel 2 61 (by kernel_rfl) (by kernel_rfl) rfl) Tryz.underlying22 rfl (KD.out _ H.frame).2.2 (by kernel_rfl)) hK) ?_
                      refine g3_val rfl (by kernel_rfl) (fun a V H K Q hK => op_quiet (quiet_bld 29 _ _ (bld2 (a := 0) (b := 1) (show a.eval (.const (.int .u8 5)) = .int .u8 5 from rfl) (H.rel 3 62 (by kernel_rfl) (by kernel_rfl) rfl)) #[.int .u8 5, .slice B2 m2 f2, .slice none 0 0, .int .u8 0, .bool false, .bool false, .slice none 0 0, .bool false, .bool false, .slice none 0 0] (by kernel_rfl) (by kernel_rfl)) hK) ?_
                      refine g3_val rfl (by kernel_rfl) (fun a V H K Q hK => op_quiet (quiet_move (.tmp 6) (H.old 6 (by kernel_rfl) (by kernel_rfl)) (.inl (by kernel_rfl))) hK) ?_
                      refine g3_val rfl (by kernel_rfl) (fun a V H K Q hK => op_quiet (hap ▸ quiet_indexN (.tmp 64) (.const (.int .i64 1)) ad m cm 1 5 32 34 (H.rel 5 64 (by kernel_rfl) (by kernel_rfl) rfl) (show a.eval (.const (.int .i64 1)) = .int .i64 ((1 : Nat) : Int) from rfl) HP1.out Tryz.underlying32 (by kernel_rfl) (by kernel_rfl)) hK) ?_
                      refine g3_val rfl (by kernel_rfl) (fun a V H K Q hK => op_quiet (quiet_fld _ (.tmp 65) 0 _ _ (H.rel 6 65 (by kernel_rfl) (by kernel_rfl) rfl) (fAp0 ap) (by kernel_rfl)) hK) ?_
                      refine g3_val rfl (by kernel_rfl) (fun a V H K Q hK => op_quiet (quiet_cell _ (.tmp 66) _ (H.rel 7 66 (by kernel_rfl) (by kernel_rfl) rfl) Tryz.underlying4 rfl (KD.out _ H.frame).1 (by kernel_rfl)) hK) ?_
                      refine g3_val rfl (by kernel_rfl) (fun a V H K Q hK => op_quiet (quiet_not 4 (.tmp 67) (H.rel 8 67 (by kernel_rfl) (by kernel_rfl) rfl) (by kernel_rfl)) hK) ?_
                      refine g3_val rfl (by kernel_rfl) (fun a V H K Q hK => op_quiet (quiet_move (.tmp 68) (H.rel 9 68 (by kernel_rfl) (by kernel_rfl) rfl) (.inl (by kernel_rfl))) hK) ?_
                      refine g3_off (i := 10) (d := 69) (want := true) (u := .bool false) rfl (by kernel_rfl) (by kernel_rfl) (fun a V H => (H.rel 10 69 (by kernel_rfl) (by kernel_rfl) rfl)) (by kernel_rfl) ?_
                      refine g3_off (i := 10) (d := 69) (want := true) (u := .bool false) rfl (by kernel_rfl) (by kernel_rfl) (fun a V H => (H.rel 10 69 (by kernel_rfl) (by kernel_rfl) rfl)) (by kernel_rfl) ?_
                      refine g3_off (i := 10) (d := 69) (want := true) (u := .bool false) rfl (by kernel_rfl) (by kernel_rfl) (fun a V H => (H.rel 10 69 (by kernel_rfl) (by kernel_rfl) rfl)) (by kernel_rfl) ?_
                      refine g3_off (i := 10) (d := 69) (want := true) (u := .bool false) rfl (by kernel_rfl) (by kernel_rfl) (fun a V H => (H.rel 10 69 (by kernel_rfl) (by kernel_rfl) rfl)) (by kernel_rfl) ?_
                      refine g3_off (i := 10) (d := 69) (want := true) (u := .bool false) rfl (by kernel_rfl) (by kernel_rfl) (fun a V H => (H.rel 10 69 (by kernel_rfl) (by kernel_rfl) rfl)) (by kernel_rfl) ?_
                      refine g3_val rfl (by kernel_rfl) (fun a V H K Q hK => op_quiet (quiet_pickF (.tmp 69) (.tmp 74) (.const (.bool false)) (H.rel 10 69 (by kernel_rfl) (by kernel_rfl) rfl) (show a.eval (.const (.bool false)) = .bool false from rfl) (by kernel_rfl)) hK) ?_
                      refine g3_st rfl ?_
                      exact g3_nil
                    case hfp11 =>
                      intro xx V8 hF
                      have ev0 : xx 0 = .slice (some ad) m cm := hF.rel 0 _ rfl
                      have ev1 : xx 1 = .pointer (some ap) := hF.rel 1 _ rfl
                      have ev2 : xx 2 = .pointer (some ⟨ap.block, ap.off + 3, none⟩) := hF.rel 2 _ rfl
                      have ev3 : xx 3 = .slice B2 m2 f2 := hF.rel 3 _ rfl
                      have ev4 : xx 4 = .agg #[.int .u8 5, .slice B2 m2 f2, .slice none 0 0, .int .u8 0, .bool false, .bool false, .slice none 0 0, .bool false, .bool false, .slice none 0 0] := hF.rel 4 _ rfl
                      have ev5 : xx 5 = .slice (some ad) m cm := hF.rel 5 _ rfl
                      have ev6 : xx 6 = .pointer (some ap) := hF.rel 6 _ rfl
                      have ev7 : xx 7 = .pointer (some ap) := hF.rel 7 _ rfl
                      have ev8 : xx 8 = .bool true := hF.rel 8 _ rfl
                      have ev9 : xx 9 = .bool false := hF.rel 9 _ rfl
                      have ev10 : xx 10 = .bool false := hF.rel 10 _ rfl
                      have ev11 : xx 11 = undef := hF.rel 11 _ rfl
                      have ev12 : xx 12 = undef := hF.rel 12 _ rfl
                      have ev13 : xx 13 = undef := hF.rel 13 _ rfl
                      have ev14 : xx 14 = undef := hF.rel 14 _ rfl
                      have ev15 : xx 15 = undef := hF.rel 15 _ rfl
                      have ev16 : xx 16 = .bool false := hF.rel 16 _ rfl
                      have hbox := hF.box
                      have hfr := hF.frame
                      clear hF
                      simp only [Sch.finO, zA, zB, zC, ev0, ev1, ev2, ev3, ev4, ev5, ev6, ev7, ev8, ev9, ev10, ev11, ev12, ev13, ev14, ev15, ev16]
                      obtain ⟨cc, ec, hbx⟩ := hbox
                      rw [ev4] at ec
                      injection ec with ec
                      subst ec
                      clear ev0 ev1 ev2 ev3 ev4 ev5 ev6 ev7 ev8 ev9 ev10 ev11 ev12 ev13 ev14 ev15 ev16
                      have hT : Below w.heap.size w V8 := hbw4.trans (hfr.below (by omega) BZ4.lt)
                      have hra : ra.isSome = false := by rw [HRA2.out, prefT_one]; rfl
                      go_wp2_with fail
                      exact bodyPost_ret (results_st_tmp Tryz.results37 _ _ (w.heap.size + 1) 29 _ _ _ rfl rfl hbx Tryz.underlying29 rfl infoTag) rfl ⟨_, rfl, ⟨.mk 5 yd zeroR [], _, _, _, _, _, _, _, _, _, _, by rw [hra]; rfl, tin_two (by omega) ((HRY.out.old (by omega) hT).more fun b hb => .inl hb) ⟨by omega, by omega⟩, by intro z hz; rw [HRA2.out, prefT_one] at hz; simp at hz⟩, hT⟩
              · try simp only [Act.put]
                refine wp_R [50, 51, 52, 53, 54, 55, 56, 57, 58] [Rk.val (.slice (some ad) m cm), Rk.val (.pointer (some (ad.add (0 * 5)))), Rk.val (.agg #[v0, v1, v2, v3, v4]), Rk.val (.bool false), Rk.val (.bool false), Rk.val undef, Rk.val undef, Rk.val undef, Rk.val (.bool false)] rfl (by kernel_rfl) (by kernel_rfl) (by kernel_rfl) (by kernel_rfl) ?hg _ (by rfl) ?hf
                case hg =>
                  refine gr_val rfl (by kernel_rfl) (fun a V H K Q hK => op_quiet (quiet_move (.tmp 6) (H.old 6 (by kernel_rfl) (by kernel_rfl)) (.inl (by kernel_rfl))) hK) ?_
                  refine gr_val rfl (by kernel_rfl) (fun a V H K Q hK => op_quiet (quiet_indexN (.tmp 50) (.const (.int .i64 0)) ad m cm 0 5 32 34 (H.rel 0 50 (by kernel_rfl) (by kernel_rfl) rfl) (show a.eval (.const (.int .i64 0)) = .int .i64 ((0 : Nat) : Int) from rfl) HPM.out Tryz.underlying32 (by kernel_rfl) (by kernel_rfl)) hK) ?_
                  refine gr_val rfl (by kernel_rfl) (fun a V H K Q hK => op_quiet (quiet_aggA 34 (.tmp 51) (ad.add (0 * 5)) (H.rel 1 51 (by kernel_rfl) (by kernel_rfl) rfl) #[v0, v1, v2, v3, v4] (KC.out _ (next_below hb3 H.frame)) Tryz.underlying34 rfl (by kernel_rfl) (by kernel_rfl)) hK) ?_
                  refine gr_val rfl (by kernel_rfl) (fun a V H K Q hK => op_callK _ #[.agg #[v0, v1, v2, v3, v4], .string ⟨#[112, 114, 101, 102, 105, 120]⟩] (by kernel_rfl) (by kernel_rfl) (by kernel_rfl) (map2 (H.rel 2 52 (by kernel_rfl) (by kernel_rfl) rfl) (show a.eval (.const (.string ⟨#[112, 114, 101, 102, 105, 120]⟩)) = .string ⟨#[112, 114, 101, 102, 105, 120]⟩ from rfl)) (KI2.out V (next_below hb3 H.frame)) (by kernel_rfl) hK) ?_
                  refine gr_val rfl (by kernel_rfl) (fun a V H K Q hK => op_quiet (quiet_move (.tmp 53) (H.rel 3 53 (by kernel_rfl) (by kernel_rfl) rfl) (.inl (by kernel_rfl))) hK) ?_
                  refine gr_offV (j := 4) (d := 54) (want := true) (u := .bool false) rfl (by kernel_rfl) (by kernel_rfl) (fun a V H => (H.rel 4 54 (by kernel_rfl) (by kernel_rfl) rfl)) (by kernel_rfl) ?_
                  refine gr_offV (j := 4) (d := 54) (want := true) (u := .bool false) rfl (by kernel_rfl) (by kernel_rfl) (fun a V H => (H.rel 4 54 (by kernel_rfl) (by kernel_rfl) rfl)) (by kernel_rfl) ?_
                  refine gr_offV (j := 4) (d := 54) (want := true) (u := .bool false) rfl (by kernel_rfl) (by kernel_rfl) (fun a V H => (H.rel 4 54 (by kernel_rfl) (by kernel_rfl) rfl)) (by kernel_rfl) ?_
                  refine gr_val rfl (by kernel_rfl) (fun a V H K Q hK => op_quiet (quiet_pickF (.tmp 54) (.tmp 57) (.const (.bool false)) (H.rel 4 54 (by kernel_rfl) (by kernel_rfl) rfl) (show a.eval (.const (.bool false)) = .bool false from rfl) (by kernel_rfl)) hK) ?_
                  exact gr_nil
                case hf =>
                  intro xz V7 hF
                  have ev0 : xz 0 = .slice (some ad) m cm := hF.rel 0 _ rfl
                  have ev1 : xz 1 = .pointer (some (ad.add (0 * 5))) := hF.rel 1 _ rfl
                  have ev2 : xz 2 = .agg #[v0, v1, v2, v3, v4] := hF.rel 2 _ rfl
                  have ev3 : xz 3 = .bool false := hF.rel 3 _ rfl
                  have ev4 : xz 4 = .bool false := hF.rel 4 _ rfl
                  have ev5 : xz 5 = undef := hF.rel 5 _ rfl
                  have ev6 : xz 6 = undef := hF.rel 6 _ rfl
                  have ev7 : xz 7 = undef := hF.rel 7 _ rfl
                  have ev8 : xz 8 = .bool false := hF.rel 8 _ rfl
                  have hbf := hF.frame
                  clear hF
                  simp only [Sch.finL, zA, zB, zC, ev0, ev1, ev2, ev3, ev4, ev5, ev6, ev7, ev8]
                  clear ev0 ev1 ev2 ev3 ev4 ev5 ev6 ev7 ev8
                  have hb4 := next_below hb3 hbf
                  clear hbf hb3
                  refine tail_nil ?_
                  have HRA2 : Hid (ra = if s3 = true then rangedV ordC q else none) := by show _ = _; rw [HRA1.out]; simp
                  clear HRA1
                  go_upto_region 14 with fail
                  try simp only [Act.put]
                  refine wp_R [76, 77, 78, 79] [Rk.val (.slice (some ad) m cm), Rk.val (.pointer (some (ad.add (0 * 5)))), Rk.val (.agg #[v0, v1, v2, v3, v4]), Rk.val (.bool s3)] rfl (by kernel_rfl) (by kernel_rfl) (by kernel_rfl) (by kernel_rfl) ?hg _ (by rfl) ?hf
                  case hg =>
                    refine gr_val rfl (by kernel_rfl) (fun a V H K Q hK => op_quiet (quiet_move (.tmp 6) (H.old 6 (by kernel_rfl) (by kernel_rfl)) (.inl (by kernel_rfl))) hK) ?_
                    refine gr_val rfl (by kernel_rfl) (fun a V H K Q hK => op_quiet (quiet_indexN (.tmp 76) (.const (.int .i64 0)) ad m cm 0 5 32 34 (H.rel 0 76 (by kernel_rfl) (by kernel_rfl) rfl) (show a.eval (.const (.int .i64 0)) = .int .i64 ((0 : Nat) : Int) from rfl) HPM.out Tryz.underlying32 (by kernel_rfl) (by kernel_rfl)) hK) ?_
                    refine gr_val rfl (by kernel_rfl) (fun a V H K Q hK => op_quiet (quiet_aggA 34 (.tmp 77) (ad.add (0 * 5)) (H.rel 1 77 (by kernel_rfl) (by kernel_rfl) rfl) #[v0, v1, v2, v3, v4] (KC.out _ (next_below hb4 H.frame)) Tryz.underlying34 rfl (by kernel_rfl) (by kernel_rfl)) hK) ?_
                    refine gr_val rfl (by kernel_rfl) (fun a V H K Q hK => op_callK _ #[.agg #[v0, v1, v2, v3, v4], .string ⟨#[114, 97, 110, 103, 101]⟩] (by kernel_rfl) (by kernel_rfl) (by kernel_rfl) (map2 (H.rel 2 78 (by kernel_rfl) (by kernel_rfl) rfl) (show a.eval (.const (.string ⟨#[114, 97, 110, 103, 101]⟩)) = .string ⟨#[114, 97, 110, 103, 101]⟩ from rfl)) (KI3.out V (next_below hb4 H.frame)) (by kernel_rfl) hK) ?_
                    exact gr_nil
                  case hf =>
                    intro xy V9 hF
                    have ev0 : xy 0 = .slice (some ad) m cm := hF.rel 0 _ rfl
                    have ev1 : xy 1 = .pointer (some (ad.add (0 * 5))) := hF.rel 1 _ rfl
                    have ev2 : xy 2 = .agg #[v0, v1, v2, v3, v4] := hF.rel 2 _ rfl
                    have ev3 : xy 3 = .bool s3 := hF.rel 3 _ rfl
                    have hbf := hF.frame
                    clear hF
                    simp only [Sch.finL, zA, zB, zC, ev0, ev1, ev2, ev3]
                    clear ev0 ev1 ev2 ev3
                    have hb5 := next_below hb4 hbf
                    clear hbf hb4
                    refine tail_nil ?_
                    obtain ⟨-, BZ5⟩ := KX.out _ hb5
                    have hbw5 := next_below HB0.out hb5
                    cases s3 with
                    | false =>
                      obtain rfl : ra = none := by rw [HRA2.out]; rfl
                      go_wp2_with (refine wpList_store_row rfl 29 (.tmp 2) (.tmp 85) rfl (w.heap.size + 1) _ rfl rfl 29 #[.int .u8 0, .slice none 0 0, .slice none 0 0, .int .u8 0, .bool false, .bool false, .slice none 0 0, .bool false, .bool false, .slice none 0 0] BZ5 infoTag rfl (by simp [Value.oneCell']) ?_)
                      exact bodyPost_ret (results_st_tmp Tryz.results37 _ _ (w.heap.size + 1) 29 _ _ _ rfl rfl (BZ5.row _) Tryz.underlying29 rfl infoTag) rfl ⟨_, rfl, ⟨_, _, _, _, _, _, _, _, _, _, _, rfl, tin_zero, by simp⟩, below_row hbw5 (by omega) _⟩
                    | true =>
                      have HRA3 : Hid (ra = rangedV ordC q) := by show _ = _; rw [HRA2.out, if_pos rfl]
                      have KR := hid (refRanged12_any q V9 S _ _ _ (HRQ.out.old hbw5) (fun y hy => (HKB.out y (by simp [hy])).2.2.2))
                      rw [← HRA3.out] at KR
                      have KBZ : Hid (∀ W, Below V9.heap.size V9 W → Blk W (w.heap.size + 1) 29 #[.int .u8 0, .slice none 0 0, .slice none 0 0, .int .u8 0, .bool false, .bool false, .slice none 0 0, .bool false, .bool false, .slice none 0 0]) := fun W hW => BZ5.old hW
                      have KBW : Hid (∀ W, Below V9.heap.size V9 W → Below w.heap.size w W) := fun W hW => next_below hbw5 hW
                      clear BZ5 hbw5 hb5
                      go_wp2_with first | (go_at_call 65; refine KR.out.mono ?_; rintro e w2 ⟨vx, rfl, hta, hb2⟩; obtain ⟨tt, k, o, i1, p1, i2, p2, B1, m1, d1, B2, m2, d2, B3, m3, d3, B4, m4, d4, rfl, htt, hy⟩ := hta.ten; have HTT := hid htt; have HY := hid hy; have HB2 := hid hb2; clear htt hy hb2 hta) | (refine wpList_store_row rfl 29 (.tmp 2) (.tmp 83) rfl (w.heap.size + 1) _ rfl rfl 29 #[.int .u8 0, .slice none 0 0, .slice none 0 0, .int .u8 0, .bool false, .bool false, .slice none 0 0, .bool false, .bool false, .slice none 0 0] (KBZ.out _ HB2.out) infoTag rfl (by simp [Value.oneCell']) ?_)
                      all_goals exact bodyPost_ret (results_st_tmp Tryz.results37 _ _ (w.heap.size + 1) 29 _ _ _ rfl rfl ((KBZ.out _ HB2.out).row _) Tryz.underlying29 rfl infoTag) rfl ⟨_, rfl, ⟨_, _, _, _, _, _, _, _, _, _, _, rfl, (HTT.out.keep fun p hp => row_cell (by have := HSB.out _ hp; omega)).more (fun b hb => .inl hb), HY.out⟩, below_row (KBW.out _ HB2.out) (by omega) _⟩
              · try simp only [Act.put]
                refine wp_R [50, 51, 52, 53, 54, 55, 56, 57, 58] [Rk.val (.slice (some ad) m cm), Rk.val (.pointer (some (ad.add (0 * 5)))), Rk.val (.agg #[v0, v1, v2, v3, v4]), Rk.val (.bool true), Rk.val (.bool true), Rk.val (.slice (some ad) m cm), Rk.val (.int .i64 (m : Int)), Rk.val (.bool false), Rk.val (.bool false)] rfl (by kernel_rfl) (by kernel_rfl) (by kernel_rfl) (by kernel_rfl) ?hg _ (by rfl) ?hf
                case hg =>
                  refine gr_val rfl (by kernel_rfl) (fun a V H K Q hK => op_quiet (quiet_move (.tmp 6) (H.old 6 (by kernel_rfl) (by kernel_rfl)) (.inl (by kernel_rfl))) hK) ?_
                  refine gr_val rfl (by kernel_rfl) (fun a V H K Q hK => op_quiet (quiet_indexN (.tmp 50) (.const (.int .i64 0)) ad m cm 0 5 32 34 (H.rel 0 50 (by kernel_rfl) (by kernel_rfl) rfl) (show a.eval (.const (.int .i64 0)) = .int .i64 ((0 : Nat) : Int) from rfl) HPM.out Tryz.underlying32 (by kernel_rfl) (by kernel_rfl)) hK) ?_
                  refine gr_val rfl (by kernel_rfl) (fun a V H K Q hK => op_quiet (quiet_aggA 34 (.tmp 51) (ad.add (0 * 5)) (H.rel 1 51 (by kernel_rfl) (by kernel_rfl) rfl) #[v0, v1, v2, v3, v4] (KC.out _ (next_below hb3 H.frame)) Tryz.underlying34 rfl (by kernel_rfl) (by kernel_rfl)) hK) ?_
                  refine gr_val rfl (by kernel_rfl) (fun a V H K Q hK => op_callK _ #[.agg #[v0, v1, v2, v3, v4], .string ⟨#[112, 114, 101, 102, 105, 120]⟩] (by kernel_rfl) (by kernel_rfl) (by kernel_rfl) (map2 (H.rel 2 52 (by kernel_rfl) (by kernel_rfl) rfl) (show a.eval (.const (.string ⟨#[112, 114, 101, 102, 105, 120]⟩)) = .string ⟨#[112, 114, 101, 102, 105, 120]⟩ from rfl)) (KI2.out V (next_below hb3 H.frame)) (by kernel_rfl) hK) ?_
                  refine gr_val rfl (by kernel_rfl) (fun a V H K Q hK => op_quiet (quiet_move (.tmp 53) (H.rel 3 53 (by kernel_rfl) (by kernel_rfl) rfl) (.inl (by kernel_rfl))) hK) ?_
                  refine gr_onV (j := 4) (d := 54) (want := true) (u := .bool true) rfl (by kernel_rfl) (by kernel_rfl) (fun a V H => (H.rel 4 54 (by kernel_rfl) (by kernel_rfl) rfl)) (by kernel_rfl) (fun a V H K Q hK => op_quiet (quiet_move (.tmp 6) (H.old 6 (by kernel_rfl) (by kernel_rfl)) (.inl (by kernel_rfl))) hK) ?_
                  refine gr_onV (j := 4) (d := 54) (want := true) (u := .bool true) rfl (by kernel_rfl) (by kernel_rfl) (fun a V H => (H.rel 4 54 (by kernel_rfl) (by kernel_rfl) rfl)) (by kernel_rfl) (fun a V H K Q hK => op_quiet (quiet_len (.tmp 55) (some ad) m cm 32 34 (H.rel 5 55 (by kernel_rfl) (by kernel_rfl) rfl) Tryz.underlying32 (by kernel_rfl)) hK) ?_
                  refine gr_onV (j := 4) (d := 54) (want := true) (u := .bool true) rfl (by kernel_rfl) (by kernel_rfl) (fun a V H => (H.rel 4 54 (by kernel_rfl) (by kernel_rfl) rfl)) (by kernel_rfl) (fun a V H K Q hK => op_quiet (quiet_eqlI (.tmp 56) (.const (.int .i64 2)) (m : Int) 2 false 3 3 Tryz.underlying3 HE2.out (H.rel 6 56 (by kernel_rfl) (by kernel_rfl) rfl) (show a.eval (.const (.int .i64 2)) = .int .i64 2 from rfl) (by kernel_rfl)) hK) ?_
                  refine gr_val rfl (by kernel_rfl) (fun a V H K Q hK => op_quiet (quiet_pickT (.tmp 54) (.tmp 57) (.const (.bool false)) (H.rel 4 54 (by kernel_rfl) (by kernel_rfl) rfl) (H.rel 7 57 (by kernel_rfl) (by kernel_rfl) rfl) (by kernel_rfl)) hK) ?_
                  exact gr_nil
                case hf =>
                  intro xz V7 hF
                  have ev0 : xz 0 = .slice (some ad) m cm := hF.rel 0 _ rfl
                  have ev1 : xz 1 = .pointer (some (ad.add (0 * 5))) := hF.rel 1 _ rfl
                  have ev2 : xz 2 = .agg #[v0, v1, v2, v3, v4] := hF.rel 2 _ rfl
                  have ev3 : xz 3 = .bool true := hF.rel 3 _ rfl
                  have ev4 : xz 4 = .bool true := hF.rel 4 _ rfl
                  have ev5 : xz 5 = .slice (some ad) m cm := hF.rel 5 _ rfl
                  have ev6 : xz 6 = .int .i64 (m : Int) := hF.rel 6 _ rfl
                  have ev7 : xz 7 = .bool false := hF.rel 7 _ rfl
                  have ev8 : xz 8 = .bool false := hF.rel 8 _ rfl
                  have hbf := hF.frame
                  clear hF
                  simp only [Sch.finL, zA, zB, zC, ev0, ev1, ev2, ev3, ev4, ev5, ev6, ev7, ev8]
                  clear ev0 ev1 ev2 ev3 ev4 ev5 ev6 ev7 ev8
                  have hb4 := next_below hb3 hbf
                  clear hbf hb3
                  refine tail_nil ?_
                  have HRA2 : Hid (ra = if s3 = true then rangedV ordC q else none) := by show _ = _; rw [HRA1.out]; simp
                  clear HRA1
                  go_upto_region 14 with fail
                  try simp only [Act.put]
                  refine wp_R [76, 77, 78, 79] [Rk.val (.slice (some ad) m cm), Rk.val (.pointer (some (ad.add (0 * 5)))), Rk.val (.agg #[v0, v1, v2, v3, v4]), Rk.val (.bool s3)] rfl (by kernel_rfl) (by kernel_rfl) (by kernel_rfl) (by kernel_rfl) ?hg _ (by rfl) ?hf
                  case hg =>
                    refine gr_val rfl (by kernel_rfl) (fun a V H K Q hK => op_quiet (quiet_move (.tmp 6) (H.old 6 (by kernel_rfl) (by kernel_rfl)) (.inl (by kernel_rfl))) hK) ?_
                    refine gr_val rfl (by kernel_rfl) (fun a V H K Q hK => op_quiet (quiet_indexN (.tmp 76) (.const (.int .i64 0)) ad m cm 0 5 32 34 (H.rel 0 76 (by kernel_rfl) (by kernel_rfl) rfl) (show a.eval (.const (.int .i64 0)) = .int .i64 ((0 : Nat) : Int) from rfl) HPM.out Tryz.underlying32 (by kernel_rfl) (by kernel_rfl)) hK) ?_
                    refine gr_val rfl (by kernel_rfl) (fun a V H K Q hK => op_quiet (quiet_aggA 34 (.tmp 77) (ad.add (0 * 5)) (H.rel 1 77 (by kernel_rfl) (by kernel_rfl) rfl) #[v0, v1, v2, v3, v4] (KC.out _ (next_below hb4 H.frame)) Tryz.underlying34 rfl (by kernel_rfl) (by kernel_rfl)) hK) ?_
                    refine gr_val rfl (by kernel_rfl) (fun a V H K Q hK => op_callK _ #[.agg #[v0, v1, v2, v3, v4], .string ⟨#[114, 97, 110, 103, 101]⟩] (by kernel_rfl) (by kernel_rfl) (by kernel_rfl) (map2 (H.rel 2 78 (by kernel_rfl) (by kernel_rfl) rfl) (show a.eval (.const (.string ⟨#[114, 97, 110, 103, 101]⟩)) = .string ⟨#[114, 97, 110, 103, 101]⟩ from rfl)) (KI3.out V (next_below hb4 H.frame)) (by kernel_rfl) hK) ?_
                    exact gr_nil
                  case hf =>
                    intro xy V9 hF
                    have ev0 : xy 0 = .slice (some ad) m cm := hF.rel 0 _ rfl
                    have ev1 : xy 1 = .pointer (some (ad.add (0 * 5))) := hF.rel 1 _ rfl
                    have ev2 : xy 2 = .agg #[v0, v1, v2, v3, v4] := hF.rel 2 _ rfl
                    have ev3 : xy 3 = .bool s3 := hF.rel 3 _ rfl
                    have hbf := hF.frame
                    clear hF
                    simp only [Sch.finL, zA, zB, zC, ev0, ev1, ev2, ev3]
                    clear ev0 ev1 ev2 ev3
                    have hb5 := next_below hb4 hbf
                    clear hbf hb4
                    refine tail_nil ?_
                    obtain ⟨-, BZ5⟩ := KX.out _ hb5
                    have hbw5 := next_below HB0.out hb5
                    cases s3 with
                    | false =>
                      obtain rfl : ra = none := by rw [HRA2.out]; rfl
                      go_wp2_with (refine wpList_store_row rfl 29 (.tmp 2) (.tmp 85) rfl (w.heap.size + 1) _ rfl rfl 29 #[.int .u8 0, .slice none 0 0, .slice none 0 0, .int .u8 0, .bool false, .bool false, .slice none 0 0, .bool false, .bool false, .slice none 0 0] BZ5 infoTag rfl (by simp [Value.oneCell']) ?_)
                      exact bodyPost_ret (results_st_tmp Tryz.results37 _ _ (w.heap.size + 1) 29 _ _ _ rfl rfl (BZ5.row _) Tryz.underlying29 rfl infoTag) rfl ⟨_, rfl, ⟨_, _, _, _, _, _, _, _, _, _, _, rfl, tin_zero, by simp⟩, below_row hbw5 (by omega) _⟩
                    | true =>
                      have HRA3 : Hid (ra = rangedV ordC q) := by show _ = _; rw [HRA2.out, if_pos rfl]
                      have KR := hid (refRanged12_any q V9 S _ _ _ (HRQ.out.old hbw5) (fun y hy => (HKB.out y (by simp [hy])).2.2.2))
                      rw [← HRA3.out] at KR
                      have KBZ : Hid (∀ W, Below V9.heap.size V9 W → Blk W (w.heap.size + 1) 29 #[.int .u8 0, .slice none 0 0, .slice none 0 0, .int .u8 0, .bool false, .bool false, .slice none 0 0, .bool false, .bool false, .slice none 0 0]) := fun W hW => BZ5.old hW
                      have KBW : Hid (∀ W, Below V9.heap.size V9 W → Below w.heap.size w W) := fun W hW => next_below hbw5 hW
                      clear BZ5 hbw5 hb5
                      go_wp2_with first | (go_at_call 65; refine KR.out.mono ?_; rintro e w2 ⟨vx, rfl, hta, hb2⟩; obtain ⟨tt, k, o, i1, p1, i2, p2, B1, m1, d1, B2, m2, d2, B3, m3, d3, B4, m4, d4, rfl, htt, hy⟩ := hta.ten; have HTT := hid htt; have HY := hid hy; have HB2 := hid hb2; clear htt hy hb2 hta) | (refine wpList_store_row rfl 29 (.tmp 2) (.tmp 83) rfl (w.heap.size + 1) _ rfl rfl 29 #[.int .u8 0, .slice none 0 0, .slice none 0 0, .int .u8 0, .bool false, .bool false, .slice none 0 0, .bool false, .bool false, .slice none 0 0] (KBZ.out _ HB2.out) infoTag rfl (by simp [Value.oneCell']) ?_)
                      all_goals exact bodyPost_ret (results_st_tmp Tryz.results37 _ _ (w.heap.size + 1) 29 _ _ _ rfl rfl ((KBZ.out _ HB2.out).row _) Tryz.underlying29 rfl infoTag) rfl ⟨_, rfl, ⟨_, _, _, _, _, _, _, _, _, _, _, rfl, (HTT.out.keep fun p hp => row_cell (by have := HSB.out _ hp; omega)).more (fun b hb => .inl hb), HY.out⟩, below_row (KBW.out _ HB2.out) (by omega) _⟩
end Go.Proofs.YtinlonpcakkfhaaGreatDoor
end
section
set_option maxRecDepth 100000
namespace Go.Proofs.YtinlonpcakkfhaaGreatDoor
open Go Go.Proofs Go.RowKit Sx _root_.Ord11 Go.Proofs.YtinlonpcakkfhaaGreatDoor.Ord11 _root_.Tag12 Sch
def mayT (t : TG) : Bool := rightT ordC t && may (valueT t)
def getA (v : SX) : Option TG := if may v = true then getT ordC v else none
def zeroT : TG := .mk 0 [] zeroR []
def zeroX : SX := .mk false false [] [] []
def putR (t : TG) : SX × Int := if mayT t = true then (valueT t, 0) else (zeroX, 13)
def resT (a : Option TG) : TG × Int := match a with | some t => (t, 0) | none => (zeroT, 13)
def getR (v : SX) : TG × Int := resT (getA v)
def SmallX (v : SX) : Prop := nodes v ≤ 1099511627776 ∧ (form v).length ≤ 1099511627776
def SmallT (t : TG) : Prop := fineT t = true ∧ SmallX (valueT t)
theorem may_small {v : SX} (h : may v = true) : SmallX v ∧ clean v = true := by
  unfold may at h
  simp only [Bool.and_eq_true, decide_eq_true_eq] at h
  exact ⟨⟨by omega, by omega⟩, h.1.1.1⟩
set_option maxHeartbeats 8000000 in
theorem refGetX_any (t : SX) (w : World) (S : Nat → Prop) (cs : List Value) (hs0 : SIn w S t cs) (hm : SmallX t) :
    Calls Tryz.prog 18 #[.agg cs.toArray] w fun e w' => ∃ v, e = .returned v ∧ TagA (getA t) (fun b => S b ∨ w.heap.size ≤ b) v w' ∧ Below w.heap.size w w' := by
  obtain ⟨S0, hS0⟩ : ∃ S0 : Nat → Prop, S0 = fun b => S b ∧ b < w.heap.size := ⟨_, rfl⟩
  have hs : SIn w S0 t cs := by rw [hS0]; exact hs0.size_
  have HSS : Hid (∀ b, S0 b → S b ∧ b < w.heap.size) := fun b hb => by rw [hS0] at hb; exact hb
  clear hS0 hs0
  obtain ⟨l, h, hi, da, ks, A1, n1, c1, A2, n2, c2, A3, n3, c3, et, rfl⟩ := hs.form_
  obtain ⟨ra, hra⟩ : ∃ a, a = getA t := ⟨_, rfl⟩
  rw [← hra]
  have HE : Hid (ra = if may t = true then getT ordC t else none) := hra
  have HS := hid hs
  obtain ⟨w0, hw0⟩ : ∃ w0, w0 = ((w.alloc (.cells #[.bool l, .bool h, .slice A1 n1 c1, .slice A2 n2 c2, .slice A3 n3 c3] 34)).alloc (.cells #[.int .u8 0, .slice none 0 0, .slice none 0 0, .int .u8 0, .bool false, .bool false, .slice none 0 0, .bool false, .bool false, .slice none 0 0] 29)) := ⟨_, rfl⟩
  have HZ0 : Hid (w0.heap.size = w.heap.size + 2) := by show _ = _; rw [hw0]; simp
  have HB0 : Hid (Below w.heap.size w w0) := by
    show Below _ _ _
    rw [hw0]
    exact (below_new _ _).trans ((below_new _ _).mono (by simp))
  have BX : Blk w0 w.heap.size 34 #[.bool l, .bool h, .slice A1 n1 c1, .slice A2 n2 c2, .slice A3 n3 c3] := by
    rw [hw0]
    exact (Blk.new w 34 #[.bool l, .bool h, .slice A1 n1 c1, .slice A2 n2 c2, .slice A3 n3 c3]).alloc _
  have BZ : Blk w0 (w.heap.size + 1) 29 #[.int .u8 0, .slice none 0 0, .slice none 0 0, .int .u8 0, .bool false, .bool false, .slice none 0 0, .bool false, .bool false, .slice none 0 0] := by
    rw [hw0]
    have h := Blk.new (w.alloc (.cells #[.bool l, .bool h, .slice A1 n1 c1, .slice A2 n2 c2, .slice A3 n3 c3] 34)) 29 #[.int .u8 0, .slice none 0 0, .slice none 0 0, .int .u8 0, .bool false, .bool false, .slice none 0 0, .bool false, .bool false, .slice none 0 0]
    simpa using h
  have KX : Hid (∀ V, Below w0.heap.size w0 V → Blk V w.heap.size 34 #[.bool l, .bool h, .slice A1 n1 c1, .slice A2 n2 c2, .slice A3 n3 c3] ∧ Blk V (w.heap.size + 1) 29 #[.int .u8 0, .slice none 0 0, .slice none 0 0, .int .u8 0, .bool false, .bool false, .slice none 0 0, .bool false, .bool false, .slice none 0 0]) := fun V hV => ⟨BX.old hV, BZ.old hV⟩
  have HR : Below w0.heap.size w0 w0 := Below.refl _ _
  obtain ⟨m, hmm⟩ : ∃ m, m = may t := ⟨_, rfl⟩
  have KM : Hid (Calls Tryz.prog 22 #[.agg #[.bool l, .bool h, .slice A1 n1 c1, .slice A2 n2 c2, .slice A3 n3 c3]] w0 fun e w' => e = .returned (.bool m) ∧ Below w0.heap.size w0 w') := by
    rw [hmm]; exact refMay_any t w0 S0 _ (hs.old HB0.out) hm.1 hm.2
  rw [← hmm] at HE
  have HM := hid hmm
  have HSM := hid hm
  clear hra hmm hm hs et
  go_enter Tryz.func18, Tryz.ntmps18
  go_upto_region 1 with fail
  rw [← hw0]
  clear hw0
  have x0 := BX.cell 0
  have x1 := BX.cell 1
  have x2 := BX.cell 2
  have x3 := BX.cell 3
  have x4 := BX.cell 4
  cases m with
  | false =>
    obtain rfl : ra = none := by rw [HE.out]; rfl
    go_upto_region 2 with (go_at_call 22; refine KM.out.mono ?_; rintro e w1 ⟨rfl, hb1⟩)
    obtain ⟨-, BZ1⟩ := KX.out _ hb1
    have hbw := next_below HB0.out hb1
    go_wp2_with (refine wpList_store_row rfl 29 (.tmp 2) (.tmp 9) rfl (w.heap.size + 1) _ rfl rfl 29 #[.int .u8 0, .slice none 0 0, .slice none 0 0, .int .u8 0, .bool false, .bool false, .slice none 0 0, .bool false, .bool false, .slice none 0 0] BZ1 infoTag rfl (by simp [Value.oneCell']) ?_)
    exact bodyPost_ret (results_st_tmp Tryz.results18 _ _ (w.heap.size + 1) 29 _ _ _ rfl rfl ((BZ1.row _)) Tryz.underlying29 rfl infoTag) rfl ⟨_, rfl, ⟨_, _, _, _, _, _, _, _, _, _, _, rfl, tin_zero, by simp⟩, below_row hbw (by omega) _⟩
  | true =>
    have HE2 : Hid (ra = getT ordC t) := by show _ = _; rw [HE.out, if_pos rfl]
    clear HE
    go_upto_region 3 with (go_at_call 22; refine KM.out.mono ?_; rintro e w1 ⟨rfl, hb1⟩)
    obtain ⟨BX1, -⟩ := KX.out _ hb1
    have KG : Hid (Calls Tryz.prog 37 #[.agg #[.bool l, .bool h, .slice A1 n1 c1, .slice A2 n2 c2, .slice A3 n3 c3]] w1 fun e w' => ∃ v, e = .returned v ∧ TagA ra (fun b => S0 b ∨ w1.heap.size ≤ b) v w' ∧ Below w1.heap.size w1 w') := by
      rw [HE2.out]
      exact refGet12_any t w1 S0 _ (HS.out.old (next_below HB0.out hb1)) (fun b hb => Nat.lt_of_lt_of_le (HSS.out b hb).2 (next_below HB0.out hb1).size) HSM.out.1 (may_small HM.out.symm).2 HSM.out.2
    clear x0 x1 x2 x3 x4
    have x0 := BX1.cell 0
    have x1 := BX1.cell 1
    have x2 := BX1.cell 2
    have x3 := BX1.cell 3
    have x4 := BX1.cell 4
    go_upto_region 4 with (go_at_call 37; refine KG.out.mono ?_; rintro e w2 ⟨vx, rfl, hta, hb2⟩; obtain ⟨tt, k, o, i1, p1, i2, p2, B1, m1, d1, B2, m2, d2, B3, m3, d3, B4, m4, d4, rfl, htt, hy⟩ := hta.ten)
    have hb02 := next_below hb1 hb2
    have hbn := below_new w2 (.cells #[.int .u8 k, .slice B1 m1 d1, .slice B2 m2 d2, .int .u8 o, .bool i1, .bool p1, .slice B3 m3 d3, .bool i2, .bool p2, .slice B4 m4 d4] 29)
    have hb3 := next_below hb02 hbn
    obtain ⟨-, BZ1⟩ := KX.out _ hb3
    have BN : Blk (w2.alloc (.cells #[.int .u8 k, .slice B1 m1 d1, .slice B2 m2 d2, .int .u8 o, .bool i1, .bool p1, .slice B3 m3 d3, .bool i2, .bool p2, .slice B4 m4 d4] 29)) w2.heap.size 29 #[.int .u8 k, .slice B1 m1 d1, .slice B2 m2 d2, .int .u8 o, .bool i1, .bool p1, .slice B3 m3 d3, .bool i2, .bool p2, .slice B4 m4 d4] := Blk.new _ _ _
    have HTT := hid (htt.old hbn)
    have hbw := next_below HB0.out hb3
    have HL1 : Hid (w.heap.size + 2 ≤ w1.heap.size) := by show _ ≤ _; rw [← HZ0.out]; exact Below.size hb1
    have HY := hid hy
    clear htt hta hy hb02 hb3 hbn hb2 BX1 x0 x1 x2 x3 x4
    generalize hgn : w2.heap.size = gn at BN ⊢
    generalize w2.alloc (.cells #[.int .u8 k, .slice B1 m1 d1, .slice B2 m2 d2, .int .u8 o, .bool i1, .bool p1, .slice B3 m3 d3, .bool i2, .bool p2, .slice B4 m4 d4] 29) = W3 at *
    have y0 := BN.cell 0
    have y1 := BN.cell 1
    have y2 := BN.cell 2
    have y3 := BN.cell 3
    have y4 := BN.cell 4
    have y5 := BN.cell 5
    have y6 := BN.cell 6
    have y7 := BN.cell 7
    have y8 := BN.cell 8
    have y9 := BN.cell 9
    cases ra with
    | none =>
      have hnB : (none : Option TG).isSome = false := rfl
      rw [hnB]
      go_wp2_with (refine wpList_store_row rfl 29 (.tmp 2) (.tmp 17) rfl (w.heap.size + 1) _ rfl rfl 29 #[.int .u8 0, .slice none 0 0, .slice none 0 0, .int .u8 0, .bool false, .bool false, .slice none 0 0, .bool false, .bool false, .slice none 0 0] BZ1 infoTag rfl (by simp [Value.oneCell']) ?_)
      exact bodyPost_ret (results_st_tmp Tryz.results18 _ _ (w.heap.size + 1) 29 _ _ _ rfl rfl ((BZ1.row _)) Tryz.underlying29 rfl infoTag) rfl ⟨_, rfl, ⟨_, _, _, _, _, _, _, _, _, _, _, rfl, tin_zero, by simp⟩, below_row hbw (by omega) _⟩
    | some t' =>
      have hnB : (some t' : Option TG).isSome = true := rfl
      rw [hnB]
      go_wp2_with (refine wpList_store_row rfl 29 (.tmp 2) (.tmp 18) rfl (w.heap.size + 1) _ rfl rfl 29 #[.int .u8 0, .slice none 0 0, .slice none 0 0, .int .u8 0, .bool false, .bool false, .slice none 0 0, .bool false, .bool false, .slice none 0 0] BZ1 infoTag rfl (by simp [Value.oneCell']) ?_)
      exact bodyPost_ret (results_st_tmp Tryz.results18 _ _ (w.heap.size + 1) 29 _ _ _ rfl rfl ((BZ1.row _)) Tryz.underlying29 rfl infoTag) rfl ⟨_, rfl, ⟨_, _, _, _, _, _, _, _, _, _, _, rfl, (HTT.out.keep fun p hp => row_cell (hp.elim (fun h => by have := (HSS.out _ h).2; omega) (fun h => by have := HL1.out; omega))).more (fun b hb => hb.elim (fun h => .inl (HSS.out b h).1) fun h => .inr (by have := HL1.out; omega)), HY.out⟩, below_row hbw (by omega) _⟩
structure TagOk (Q : World → Prop) : Prop where
  old : ∀ {w w'}, Q w → Below w.heap.size w w' → Q w'
  may : ∀ (t : TG) (w : World) (S : Nat → Prop) (cs : List Value), Q w → TIn w S t cs → SmallT t → Calls Tryz.prog 12 #[.agg cs.toArray] w fun e w' => e = .returned (.bool (mayT t)) ∧ Below w.heap.size w w'
  put : ∀ (t : TG) (w : World) (S : Nat → Prop) (cs : List Value), Q w → TIn w S t cs → SmallT t → Calls Tryz.prog 10 #[.agg cs.toArray] w fun e w' => ∃ v0 v1 v2 v3 v4, e = .returned (.tuple #[.agg #[v0, v1, v2, v3, v4], .int .i64 (putR t).2]) ∧ SIn w' (fun b => S b ∨ w.heap.size ≤ b) (putR t).1 [v0, v1, v2, v3, v4] ∧ Below w.heap.size w w'
  get : ∀ (v : SX) (w : World) (S : Nat → Prop) (cs : List Value), Q w → SIn w S v cs → SmallX v → Calls Tryz.prog 14 #[.agg cs.toArray] w fun e w' => ∃ v0 v1 v2 v3 v4 v5 v6 v7 v8 v9, e = .returned (.tuple #[.agg #[v0, v1, v2, v3, v4, v5, v6, v7, v8, v9], .int .i64 (getR v).2]) ∧ TIn w' (fun b => S b ∨ w.heap.size ≤ b) (getR v).1 [v0, v1, v2, v3, v4, v5, v6, v7, v8, v9] ∧ Below w.heap.size w w'
  same : ∀ (t t' : TG) (w : World) (S S' : Nat → Prop) (cs cs' : List Value), Q w → TIn w S t cs → TIn w S' t' cs' → fineT t = true → fineT t' = true → Calls Tryz.prog 21 #[.agg cs.toArray, .agg cs'.toArray] w fun e w' => e = .returned (.bool (sameT t t')) ∧ Below w.heap.size w w'
  request : ∀ (v : SX) (w : World) (S : Nat → Prop) (cs : List Value), Q w → SIn w S v cs → SmallX v → Calls Tryz.prog 19 #[.agg cs.toArray] w fun e w' => e = .returned (.bool (Sx.may v && Tag12.concrete v)) ∧ Below w.heap.size w w'
end Go.Proofs.YtinlonpcakkfhaaGreatDoor
end
section
namespace Go.Proofs.YtinlonpcakkfhaaGreatDoor
open Go Go.Proofs Go.RowKit Sx
set_option maxHeartbeats 1000000 in
set_option maxRecDepth 100000 in
theorem slicesClone_any (A : Option Addr) (n c : Nat) (xs : List Value) (S : Nat → Prop) (w : World) (hr : RIn w S 5 A n xs) (h1 : ∀ u ∈ xs, u.oneCell' = true) (hn : n * 80 ≤ 140737488355328) :
    Calls Tryz.prog 71 #[.slice A n c] w (KidsNew w n xs) := by
  obtain ⟨i0, hi, hz0, hz1, hz2⟩ := info_parts infoSexp
  rcases A with _ | ad
  · have h0 : n = 0 := by
      rcases Nat.eq_zero_or_pos n with h | h
      · exact h
      · obtain ⟨_, h, _⟩ := hr.2 h; cases h
    subst h0
    have hx : xs = [] := List.eq_nil_of_length_eq_zero (by simpa using hr.1)
    subst hx
    have hnil : ∀ W, (binOp .eql 32 (.slice none 0 c) (.slice none 0 0)).run Tryz.prog W = .ok (.bool true) W := fun W => Lib.run_eql_slice_nil_nil W _ _ Tryz.underlying32
    go_enter Tryz.func71, Tryz.ntmps71
    go_wp2_with fail
    go_ret
    exact ⟨_, rfl, ⟨rfl, .inl ⟨rfl, rfl⟩⟩, Below.refl _ _⟩
  · have hr' := (hr.old (by omega) (below_new w (.cells #[] 34))).reads (by omega)
    have ho := owns_none5 w 0
    have hnil : ∀ W, (binOp .eql 32 (.slice (some ad) n c) (.slice none 0 0)).run Tryz.prog W = .ok (.bool false) W := fun W => by
      exact Lib.run_eql_slice_some_nil W _ _ _ Tryz.underlying32
    have hb := below_new w (.cells #[] 34)
    go_enter Tryz.func71, Tryz.ntmps71
    go_wp2_with (at_builtin; refine wpList_append_any _ rfl (.tmp 5) (.tmp 6) 32 rfl w.heap.size 34 i0 _ 5 80 Tryz.underlying32 hi hz0 hz1 hz2 rfl (by omega) _ 0 [] rfl ho _ (some ad) n c xs rfl hr' h1 (by unfold maxLen; omega) (by omega) (by simp) ?_)
    intro v' w' hown hg _
    have hbb := hb.grown hg (by simp) (fun k hk => by simp [Value.ownBlock] at hk; omega)
    clear ho hb
    go_wp2_with fail
    go_ret
    exact ⟨_, rfl, hown, hbb⟩
def CloneSpec (t : SX) : Prop := ∀ (w : World) (S : Nat → Prop) (cs : List Value), SIn w S t cs →
    Calls Tryz.prog 56 #[.agg cs.toArray] w fun e w' => ∃ v0 v1 v2 v3 v4, e = .returned (.agg #[v0, v1, v2, v3, v4]) ∧ SIn w' (fun b => w.heap.size ≤ b) t [v0, v1, v2, v3, v4] ∧ Below w.heap.size w w'
set_option maxHeartbeats 2000000 in
set_option maxRecDepth 100000 in
theorem cloneAll_any (ks : List SX) (hK : ∀ k ∈ ks, CloneSpec k) (A : Option Addr) (n c : Nat) (xs : List Value) (S : Nat → Prop) (w : World) (hr : RIn w S 5 A n xs) (hk : ks.length = n)
    (hs : Kids w S ks xs) (hn : n * 80 ≤ 140737488355328) :
    Calls Tryz.prog 49 #[.slice A n c] w (KidsOut w ks n) := by
  have HC := hid (slicesClone_any A n c xs S w hr (one_cells hr hk hs) hn)
  have HKS := hid hK
  have HS := hid hs
  have HK := hid hk
  clear hs hK hr hk
  go_enter Tryz.func49, Tryz.ntmps49
  go_wp2_with ((with_reducible refine HC.out.mono ?_); rintro e w1 ⟨v, rfl, hown, hb1⟩; obtain ⟨A1, c1, rfl, hc1⟩ : ∃ A1 c1, v = .slice A1 n c1 ∧ n ≤ c1 := by obtain ⟨A', c', h1, h2, _⟩ := RIn.of_own hown; exact ⟨A', c', h1, h2⟩)
  have hs1 : Hid (∀ i t, ks[i]? = some t → SIn w1 (fun b => S b ∧ b < w.heap.size) t ((xs.drop (i * 5)).take 5)) := fun i t h => (HS.out i t h).size_.kept hb1 (fun b h => h.2)
  go_loopw [9] (fun i wr => ∃ (k : Nat) (ys : List Value), k ≤ n ∧ i = .int .i64 k ∧ wr.ownsRow w.heap.size 34 5 (.slice A1 n c1) n ys ∧ Below w.heap.size w wr ∧
      Hid (∀ i t, ks[i]? = some t → i < k → SIn wr (fun b => w.heap.size ≤ b ∧ some b ≠ A1.map (·.block)) t ((ys.drop (i * 5)).take 5)) ∧
      Hid (∀ i t, ks[i]? = some t → k ≤ i → SIn wr (fun b => S b ∧ b < w.heap.size) t ((ys.drop (i * 5)).take 5))) (fun i _ => n - (intOf i).toNat)
  case atStart => exact ⟨0, xs, Nat.zero_le _, rfl, hown, hb1, fun i t h h0 => absurd h0 (by omega), fun i t h _ => hs1.out i t h⟩
  case round =>
    obtain ⟨k, ys, hkn, rfl, hownr, hbel, H1, H2⟩ := hrel
    clear hown hb1 hs1
    by_cases hlt : k < n
    · have hkl : k < ks.length := by rw [HK.out]; exact hlt
      obtain ⟨t, ht⟩ : ∃ t, t = ks[k] := ⟨_, rfl⟩
      have hks : ks[k]? = some t := by rw [ht]; exact List.getElem?_eq_getElem hkl
      have hM := hid (show t ∈ ks by rw [ht]; exact List.getElem_mem hkl)
      have hin := H2.out k t hks (Nat.le_refl _)
      obtain ⟨_, _, e1, _, hri⟩ := RIn.of_own hownr
      injection e1 with e1a e1b e1c
      subst e1a e1c
      obtain ⟨ad, v0, v1, v2, v3, v4, rfl, hS, hcs, d0, d1, d2, d3, d4⟩ := hri.at5 hlt
      rw [hcs] at hin
      have hsz := hbel.size
      have hks := hid hks
      clear ht hkl
      have HCt := hid ((HKS.out t hM.out) _ _ _ hin)
      go_wp2_with ((with_reducible refine HCt.out.mono ?_); rintro e w2 ⟨x0, x1, x2, x3, x4, rfl, hin2, hb2⟩; obtain ⟨s0, s1, s2, s3, s4, hown5, hg5⟩ := stores5 (own_old hownr hb2) hlt hin2)
      have hsz2 := hb2.size
      have hadlt : ad.block < wr.heap.size := (hownr.lt ad.block rfl).2
      have hadN : w.heap.size ≤ ad.block := (hownr.lt ad.block rfl).1
      have hlen : k * 5 + 4 < ys.length := by have := hownr.1; omega
      refine ⟨⟨k + 1, upd5 ys (k * 5) x0 x1 x2 x3 x4, by omega, by go_num, hown5, ?_, ?_, ?_⟩, by simp [intOf]; omega⟩
      · exact (hbel.trans (hb2.mono hsz)).grown hg5 (by omega) (fun b hb => by injection hb with hb; omega)
      · intro i t' ht' hi
        by_cases hik : i = k
        · subst hik
          rw [hks.out] at ht'
          injection ht' with ht'
          subst ht'
          rw [upd5_at _ _ _ _ _ _ _ hlen]
          exact (hin2.grown hg5 (fun b hb h => by injection h with h; omega)).more fun b hb => ⟨by omega, fun h => by simp at h; omega⟩
        · rw [upd5_off _ _ _ _ _ _ _ _ hik]
          exact ((H1.out i t' ht' (by omega)).old hb2).grown hg5 (fun b hb => hb.2)
      · intro i t' ht' hi
        rw [upd5_off _ _ _ _ _ _ _ _ (by omega)]
        exact ((H2.out i t' ht' (by omega)).old hb2).grown hg5 (fun b hb h => by injection h with h; omega)
    · obtain rfl : k = n := by omega
      obtain ⟨_, _, e1, _, hri⟩ := RIn.of_own hownr
      injection e1 with e1a e1b e1c
      subst e1a e1c
      have hkids : Hid (Kids wr (fun b => w.heap.size ≤ b) ks ys) := fun i t h => (H1.out i t h (by have := (List.getElem?_eq_some_iff.1 h).1; rw [HK.out] at this; exact this)).more fun _ h => h.1
      go_wp2_with fail
      go_ret
      exact ⟨_, _, ys, rfl, hc1, hri, hkids.out, hbel⟩
set_option maxHeartbeats 4000000 in
set_option maxRecDepth 100000 in
theorem clone_any (t : SX) : CloneSpec t := by
  induction t using SX.ind with
  | H l h hi da ks ih =>
    intro w S cs hs
    obtain ⟨_, _, _, _, _, A1, n1, c1, A2, n2, c2, A3, n3, c3, e, rfl⟩ := hs.form_
    cases e
    have hs' := hs.size_
    cases hs' with
    | @mk _ _ _ _ _ _ _ _ _ _ _ _ _ _ xs r1 b1 r2 b2 r3 b3 hk hks =>
    have IH := hid ih
    have HK := hid hk
    have hb0 := (below_new w (.cells #[Value.bool l, Value.bool h, Value.slice A1 n1 c1, Value.slice A2 n2 c2, Value.slice A3 n3 c3] 34)).trans ((below_new (w.alloc (.cells #[Value.bool l, Value.bool h, Value.slice A1 n1 c1, Value.slice A2 n2 c2, Value.slice A3 n3 c3] 34)) (.cells #[.bool false, .bool false, .slice none 0 0, .slice none 0 0, .slice none 0 0] 34)).mono (by simp))
    have X1 : Box ((w.alloc (.cells #[Value.bool l, Value.bool h, Value.slice A1 n1 c1, Value.slice A2 n2 c2, Value.slice A3 n3 c3] 34)).alloc (.cells #[.bool false, .bool false, .slice none 0 0, .slice none 0 0, .slice none 0 0] 34)) w.heap.size (.bool l) (.bool h) (.slice A1 n1 c1) (.slice A2 n2 c2) (.slice A3 n3 c3) :=
      below_at (below_new _ _) (heap_alloc_new w _)
    have X2 : Box ((w.alloc (.cells #[Value.bool l, Value.bool h, Value.slice A1 n1 c1, Value.slice A2 n2 c2, Value.slice A3 n3 c3] 34)).alloc (.cells #[.bool false, .bool false, .slice none 0 0, .slice none 0 0, .slice none 0 0] 34)) (w.heap.size + 1) (.bool false) (.bool false) (.slice none 0 0) (.slice none 0 0) (.slice none 0 0) := by
      have := heap_alloc_new (w.alloc (.cells #[Value.bool l, Value.bool h, Value.slice A1 n1 c1, Value.slice A2 n2 c2, Value.slice A3 n3 c3] 34)) (.cells #[.bool false, .bool false, .slice none 0 0, .slice none 0 0, .slice none 0 0] 34)
      have e : (w.alloc (.cells #[Value.bool l, Value.bool h, Value.slice A1 n1 c1, Value.slice A2 n2 c2, Value.slice A3 n3 c3] 34)).heap.size = w.heap.size + 1 := by simp
      rw [e] at this
      exact this
    have hsz : ((w.alloc (.cells #[Value.bool l, Value.bool h, Value.slice A1 n1 c1, Value.slice A2 n2 c2, Value.slice A3 n3 c3] 34)).alloc (.cells #[.bool false, .bool false, .slice none 0 0, .slice none 0 0, .slice none 0 0] 34)).heap.size = w.heap.size + 2 := by simp
    go_enter Tryz.func56, Tryz.ntmps56
    go_wp2_with fail
    generalize ((w.alloc (.cells #[Value.bool l, Value.bool h, Value.slice A1 n1 c1, Value.slice A2 n2 c2, Value.slice A3 n3 c3] 34)).alloc (.cells #[.bool false, .bool false, .slice none 0 0, .slice none 0 0, .slice none 0 0] 34)) = W at *
    refine (bytesClone_any A1 n1 c1 hi _ W (r1.keep fun p hp => hb0.cell hp.2) b1.2).mono ?_
    rintro e w1 ⟨A1', c1', rfl, hc1', q1, hb1⟩
    have hsz1 := hb1.size
    have X1 := X1.old hb1
    have X2 := X2.old hb1
    have hb0 := hb0.trans (hb1.mono (by omega))
    obtain ⟨⟨-, -, f2, f3, -⟩, fz⟩ := X1.all
    have fz2 := fz 2
    have g1 := X1.set2 (.slice A1' hi.length c1')
    have g2 := X2.far (p := ⟨w.heap.size, 2, none⟩) (by show w.heap.size + 1 ≠ w.heap.size; omega) (.slice A1' hi.length c1')
    have g3 := below_far hb0 (p := ⟨w.heap.size, 2, none⟩) (Nat.le_refl _) (.slice A1' hi.length c1')
    have g4 := (q1.more (S' := fun b => w.heap.size + 2 ≤ b) (fun b hb => by omega)).far (p := ⟨w.heap.size, 2, none⟩) (fun b hb => by show b ≠ w.heap.size; omega) (.slice A1' hi.length c1')
    have g5 : (w1.setCell ⟨w.heap.size, 2, none⟩ (.slice A1' hi.length c1')).heap.size = w1.heap.size := by simp
    clear fz X1 X2 hb0 q1
    go_wp2_with fail
    generalize w1.setCell ⟨w.heap.size, 2, none⟩ (.slice A1' hi.length c1') = W at *
    clear f2 f3 fz2
    refine (bytesClone_any A2 n2 c2 da _ W (r2.keep fun p hp => g3.cell hp.2) b2.2).mono ?_
    rintro e w2 ⟨A2', c2', rfl, hc2', q2, hb2⟩
    have hsz2 := hb2.size
    have X1 := g1.old hb2
    have X2 := g2.old hb2
    have hb0 := g3.trans (hb2.mono (by omega))
    have q1 := g4.old (by omega) hb2
    clear g1 g2 g3 g4
    obtain ⟨⟨-, -, -, f3, f4⟩, fz⟩ := X1.all
    have fz3 := fz 3
    have g1 := X1.set3 (.slice A2' da.length c2')
    have g2 := X2.far (p := ⟨w.heap.size, 3, none⟩) (by show w.heap.size + 1 ≠ w.heap.size; omega) (.slice A2' da.length c2')
    have g3 := below_far hb0 (p := ⟨w.heap.size, 3, none⟩) (Nat.le_refl _) (.slice A2' da.length c2')
    have g4 := q1.far (p := ⟨w.heap.size, 3, none⟩) (fun b hb => by show b ≠ w.heap.size; omega) (.slice A2' da.length c2')
    have g6 := (q2.more (S' := fun b => w.heap.size + 2 ≤ b) (fun b hb => by omega)).far (p := ⟨w.heap.size, 3, none⟩) (fun b hb => by show b ≠ w.heap.size; omega) (.slice A2' da.length c2')
    have g7 : (w2.setCell ⟨w.heap.size, 3, none⟩ (.slice A2' da.length c2')).heap.size = w2.heap.size := by simp
    clear fz X1 X2 hb0 q1 q2
    go_wp2_with fail
    generalize w2.setCell ⟨w.heap.size, 3, none⟩ (.slice A2' da.length c2') = W at *
    clear f3 f4 fz3
    refine (cloneAll_any ks IH.out A3 n3 c3 xs _ W (r3.keep fun p hp => g3.cell hp.2) HK.out (fun i t h => (hks i t h).kept g3 (fun b hb => hb.2)) b3.2).mono ?_
    rintro e w3 ⟨A3', c3', ys, rfl, hc3', q3, qk, hb3⟩
    have hsz3 := hb3.size
    have X1 := g1.old hb3
    have X2 := g2.old hb3
    have hb0 := g3.trans (hb3.mono (by omega))
    have q1 := g4.old (by omega) hb3
    have q2 := g6.old (by omega) hb3
    clear g1 g2 g3 g4 g6
    obtain ⟨⟨f0, f1, f2, f3, f4⟩, fz⟩ := X1.all
    obtain ⟨⟨d0, d1, d2, d3, d4⟩, dz⟩ := X2.all
    have fz4 := fz 4
    have dz0 := dz 0
    have dz1 := dz 1
    have dz2 := dz 2
    have dz3 := dz 3
    have dz4 := dz 4
    clear fz dz X1 X2
    go_wp2_with fail
    have F : ∀ p : Addr, w.heap.size + 2 ≤ p.block → ((((((w3.setCell ⟨w.heap.size, 4, none⟩ (.slice A3' n3 c3')).setCell ⟨w.heap.size + 1, 0, none⟩ (.bool l)).setCell ⟨w.heap.size + 1, 1, none⟩ (.bool h)).setCell ⟨w.heap.size + 1, 2, none⟩ (.slice A1' hi.length c1')).setCell ⟨w.heap.size + 1, 3, none⟩ (.slice A2' da.length c2')).setCell ⟨w.heap.size + 1, 4, none⟩ (.slice A3' n3 c3')).cell? p = w3.cell? p := by
      intro p hp
      have h1 : ∀ i, p ≠ ⟨w.heap.size, i, none⟩ := fun i e => by rw [e] at hp; simp at hp; omega
      have h2 : ∀ i, p ≠ ⟨w.heap.size + 1, i, none⟩ := fun i e => by rw [e] at hp; simp at hp
      rw [World.cell?_setCell_other _ _ _ _ (h2 4).symm, World.cell?_setCell_other _ _ _ _ (h2 3).symm, World.cell?_setCell_other _ _ _ _ (h2 2).symm, World.cell?_setCell_other _ _ _ _ (h2 1).symm, World.cell?_setCell_other _ _ _ _ (h2 0).symm, World.cell?_setCell_other _ _ _ _ (h1 4).symm]
    have hbf := (((((hb0.setCell (p := ⟨w.heap.size, 4, none⟩) (Nat.le_refl _) (.slice A3' n3 c3')).setCell (p := ⟨w.heap.size + 1, 0, none⟩) (Nat.le_succ _) (.bool l)).setCell (p := ⟨w.heap.size + 1, 1, none⟩) (Nat.le_succ _) (.bool h)).setCell (p := ⟨w.heap.size + 1, 2, none⟩) (Nat.le_succ _) (.slice A1' hi.length c1')).setCell (p := ⟨w.heap.size + 1, 3, none⟩) (Nat.le_succ _) (.slice A2' da.length c2')).setCell (p := ⟨w.heap.size + 1, 4, none⟩) (Nat.le_succ _) (.slice A3' n3 c3')
    refine bodyPost_ret (v := .agg #[.bool l, .bool h, .slice A1' hi.length c1', .slice A2' da.length c2', .slice A3' n3 c3']) (by simp [results, Tryz.results56, go_sem, d0, d1, d2, d3, d4]) rfl ⟨_, _, _, _, _, rfl, ?_, hbf⟩
    have hl1 := r1.1
    have hl2 := r2.1
    rw [Lib.byteCells_length] at hl1 hl2
    refine .mk ((q1.keep F).more fun b hb => by omega) ⟨hc1', by omega⟩ ((q2.keep F).more fun b hb => by omega) ⟨hc2', by omega⟩ (((q3.more (S' := fun b => w.heap.size + 2 ≤ b) fun b hb => by omega).keep F).more fun b hb => by omega) ⟨hc3', b3.2⟩ HK.out (fun i t hit => (((qk i t hit).more (S' := fun b => w.heap.size + 2 ≤ b) fun b hb => by omega).keep F).more fun b hb => by omega)
set_option maxHeartbeats 2000000 in
set_option maxRecDepth 100000 in
theorem list_any (ks : List SX) (A : Option Addr) (n c : Nat) (xs : List Value) (S : Nat → Prop) (w : World) (hr : RIn w S 5 A n xs) (hk : ks.length = n)
    (hs : Kids w S ks xs) (hn : n * 80 ≤ 140737488355328) :
    Calls Tryz.prog 25 #[.slice A n c] w fun e w' => ∃ v0 v1 v2 v3 v4, e = .returned (.agg #[v0, v1, v2, v3, v4]) ∧ SIn w' (fun b => w.heap.size ≤ b) (.mk true false [] [] ks) [v0, v1, v2, v3, v4] ∧ Below w.heap.size w w' := by
  have hb0 := below_new w (.cells #[.bool false, .bool false, .slice none 0 0, .slice none 0 0, .slice none 0 0] 34)
  have X2 : Box (w.alloc (.cells #[.bool false, .bool false, .slice none 0 0, .slice none 0 0, .slice none 0 0] 34)) w.heap.size (.bool false) (.bool false) (.slice none 0 0) (.slice none 0 0) (.slice none 0 0) := heap_alloc_new w _
  have hsz : (w.alloc (.cells #[.bool false, .bool false, .slice none 0 0, .slice none 0 0, .slice none 0 0] 34)).heap.size = w.heap.size + 1 := by simp
  have hr' := hr.old (by omega) hb0
  have hs' : Kids (w.alloc (.cells #[.bool false, .bool false, .slice none 0 0, .slice none 0 0, .slice none 0 0] 34)) S ks xs := fun i t h => (hs i t h).old hb0
  go_enter Tryz.func25, Tryz.ntmps25
  go_wp2_with fail
  generalize w.alloc (.cells #[.bool false, .bool false, .slice none 0 0, .slice none 0 0, .slice none 0 0] 34) = W at *
  refine (cloneAll_any ks (fun k _ => clone_any k) A n c xs S W hr' hk hs' hn).mono ?_
  rintro e w3 ⟨A3', c3', ys, rfl, hc3', q3, qk, hb3⟩
  have hsz3 := hb3.size
  have X2 := X2.old hb3
  have hb0 := hb0.trans (hb3.mono (by omega))
  obtain ⟨⟨d0, d1, d2, d3, d4⟩, dz⟩ := X2.all
  have dz0 := dz 0
  have dz1 := dz 1
  have dz2 := dz 2
  have dz3 := dz 3
  have dz4 := dz 4
  clear dz X2
  go_wp2_with fail
  have F := fun p (hp : w.heap.size + 1 ≤ p.block) => put5_far (w := w3) (b := w.heap.size) (x0 := .bool true) (x1 := .bool false) (x2 := .slice none 0 0) (x3 := .slice none 0 0) (x4 := .slice A3' n c3') p (by omega)
  have hbf := put5_below hb0 (Nat.le_refl _) (.bool true) (.bool false) (.slice none 0 0) (.slice none 0 0) (.slice A3' n c3')
  refine bodyPost_ret (v := .agg #[.bool true, .bool false, .slice none 0 0, .slice none 0 0, .slice A3' n c3']) (by simp [results, Tryz.results25, go_sem, d0, d1, d2, d3, d4]) rfl ⟨_, _, _, _, _, rfl, ?_, hbf⟩
  refine .mk RIn.none_ ⟨Nat.le_refl _, by omega⟩ RIn.none_ ⟨Nat.le_refl _, by omega⟩ (((q3.more (S' := fun b => w.heap.size + 1 ≤ b) fun b hb => by omega).keep F).more fun b hb => by omega) ⟨hc3', hn⟩ hk (fun i t hit => (((qk i t hit).more (S' := fun b => w.heap.size + 1 ≤ b) fun b hb => by omega).keep F).more fun b hb => by omega)
set_option maxHeartbeats 2000000 in
set_option maxRecDepth 100000 in
theorem atom_any (s : ByteArray) (w : World) (hn : s.size ≤ 140737488355328) :
    Calls Tryz.prog 26 #[.string s] w fun e w' => ∃ v0 v1 v2 v3 v4, e = .returned (.agg #[v0, v1, v2, v3, v4]) ∧ SIn w' (fun b => w.heap.size ≤ b) (.mk false false [] s.data.toList []) [v0, v1, v2, v3, v4] ∧ Below w.heap.size w w' := by
  have hb0 := below_new w (.cells #[.bool false, .bool false, .slice none 0 0, .slice none 0 0, .slice none 0 0] 34)
  have X2 : Box (w.alloc (.cells #[.bool false, .bool false, .slice none 0 0, .slice none 0 0, .slice none 0 0] 34)) w.heap.size (.bool false) (.bool false) (.slice none 0 0) (.slice none 0 0) (.slice none 0 0) := heap_alloc_new w _
  have hsz : (w.alloc (.cells #[.bool false, .bool false, .slice none 0 0, .slice none 0 0, .slice none 0 0] 34)).heap.size = w.heap.size + 1 := by simp
  have hdl : s.data.toList.length = s.size := by show s.data.toList.length = s.data.size; simp
  go_enter Tryz.func26, Tryz.ntmps26
  go_wp2_with fail
  generalize w.alloc (.cells #[.bool false, .bool false, .slice none 0 0, .slice none 0 0, .slice none 0 0] 34) = W at *
  rw [Lib.run_convert_string_bytes W 9 22 5 _ Tryz.underlying9 Tryz.underlying22 Tryz.underlying5]
  simp only [Result.andThen]
  rw [Oper.upon_value]
  have hB := HoldsBytes.new W s
  have hb3 := bytesWorld_below W s
  have hcap := grownCap_ge W s.size 0 5
  generalize Lib.bytesWorld W 5 s = w3 at *
  generalize grownCap W s.size 0 5 = cap at *
  have hr := hB.reads
  rw [hdl] at hr
  have hsz3 := hb3.size
  have X2 := X2.old hb3
  have hb0 := hb0.trans (hb3.mono (by omega))
  obtain ⟨⟨d0, d1, d2, d3, d4⟩, dz⟩ := X2.all
  have dz0 := dz 0
  have dz1 := dz 1
  have dz2 := dz 2
  have dz3 := dz 3
  have dz4 := dz 4
  clear dz X2 hB
  rw [hsz] at hr
  go_wp2_with fail
  have hbf := put5_below hb0 (Nat.le_refl _) (.bool false) (.bool false) (.slice none 0 0) (.slice (some ⟨w.heap.size + 1, 0, none⟩) s.size cap) (.slice none 0 0)
  have F := fun p (hp : w.heap.size + 1 ≤ p.block) => put5_far (w := w3) (b := w.heap.size) (x0 := .bool false) (x1 := .bool false) (x2 := .slice none 0 0) (x3 := .slice (some ⟨w.heap.size + 1, 0, none⟩) s.size cap) (x4 := .slice none 0 0) p (by omega)
  refine bodyPost_ret (v := .agg #[.bool false, .bool false, .slice none 0 0, .slice (some ⟨w.heap.size + 1, 0, none⟩) s.size cap, .slice none 0 0]) (by simp [results, Tryz.results26, go_sem, d0, d1, d2, d3, d4]) rfl ⟨_, _, _, _, _, rfl, ?_, hbf⟩
  have hri : RIn w3 (fun b => w.heap.size + 1 ≤ b) 1 (some ⟨w.heap.size + 1, 0, none⟩) s.size (Lib.byteCells s.data.toList) := ⟨hr.1, fun hn => by
    obtain ⟨ad, e, _, hc⟩ := hr.2 hn
    injection e with e
    subst e
    exact ⟨_, rfl, by show w.heap.size + 1 ≤ w.heap.size + 1; omega, hc⟩⟩
  exact .mk (xs := []) RIn.none_ ⟨Nat.le_refl _, by omega⟩ ((hri.keep F).more fun b hb => by omega) ⟨hcap, hn⟩ RIn.none_ ⟨Nat.le_refl _, by omega⟩ rfl (fun i t hit => by simp at hit)
end Go.Proofs.YtinlonpcakkfhaaGreatDoor
end
section
set_option maxRecDepth 100000
namespace Go.Proofs.YtinlonpcakkfhaaGreatDoor
open Go Go.Proofs Go.RowKit Sx _root_.Ord11 Go.Proofs.YtinlonpcakkfhaaGreatDoor.Ord11 _root_.Tag12 Sch
def exTag : TG := .mk 3 [] zeroR [.mk 2 [102, 116, 112] zeroR [], .mk 5 [47, 112, 117, 98, 47] zeroR []]
def exTagX : SX := .mk true false [] [] [.mk false false [] [102, 116, 112] [], .mk true false [] [] [.mk false false [] [42] [], .mk false false [] [112, 114, 101, 102, 105, 120] [], .mk false false [] [47, 112, 117, 98, 47] []]]
theorem exTag_value : valueT exTag = exTagX := by
  unfold exTag exTagX
  simp [valueT, valuesT, atom, list, star, prefW]
theorem exTag_right : rightT ordC exTag = true := by
  unfold exTag
  simp [rightT, rightsT, sameR_refl, headStar, star]
theorem exTag_may : may exTagX = true := by
  have h3 : Lib.decDigits 3 = [51] := by rw [Lib.decDigits, dif_pos (by omega)]; rfl
  have h1 : Lib.decDigits 1 = [49] := by rw [Lib.decDigits, dif_pos (by omega)]; rfl
  have h6 : Lib.decDigits 6 = [54] := by rw [Lib.decDigits, dif_pos (by omega)]; rfl
  have h5 : Lib.decDigits 5 = [53] := by rw [Lib.decDigits, dif_pos (by omega)]; rfl
  unfold may
  have hf : (form exTagX).length ≤ 4096 := by simp [exTagX, form, formL, text, h1, h3, h5, h6]
  rw [decide_eq_true hf]
  rfl
theorem exTag_get : getR exTagX = (exTag, 0) := by
  have h := get_value exTag exTag_right
  rw [exTag_value] at h
  unfold getR getA
  rw [exTag_may, if_pos rfl, h]; rfl
theorem kids_two' {w : World} {S : Nat → Prop} {t t' : SX} {v0 v1 v2 v3 v4 u0 u1 u2 u3 u4 : Value} (h : SIn w S t [v0, v1, v2, v3, v4]) (h' : SIn w S t' [u0, u1, u2, u3, u4]) :
    Kids w S [t, t'] [v0, v1, v2, v3, v4, u0, u1, u2, u3, u4] := by
  intro i x hx
  match i, hx with
  | 0, hx => simp at hx; subst hx; exact h
  | 1, hx => simp at hx; subst hx; exact h'
theorem kids_three {w : World} {S : Nat → Prop} {t t' t'' : SX} {b0 b1 b2 b3 b4 c0 c1 c2 c3 c4 d0 d1 d2 d3 d4 : Value} (h : SIn w S t [b0, b1, b2, b3, b4]) (h' : SIn w S t' [c0, c1, c2, c3, c4]) (h'' : SIn w S t'' [d0, d1, d2, d3, d4]) :
    Kids w S [t, t', t''] [b0, b1, b2, b3, b4, c0, c1, c2, c3, c4, d0, d1, d2, d3, d4] := by
  intro i x hx
  match i, hx with
  | 0, hx => simp at hx; subst hx; exact h
  | 1, hx => simp at hx; subst hx; exact h'
  | 2, hx => simp at hx; subst hx; exact h''
theorem exTag_form {w : World} {S : Nat → Prop} {v0 v1 v2 v3 v4 v5 v6 v7 v8 v9 : Value} (h : TIn w S exTag [v0, v1, v2, v3, v4, v5, v6, v7, v8, v9]) : ∃ B1 m1 d1 B2 m2 d2 B3 m3 d3 B4 m4 d4, v0 = .int .u8 3 ∧ v1 = .slice B1 m1 d1 ∧ v2 = .slice B2 m2 d2 ∧ v3 = .int .u8 0 ∧ v4 = .bool false ∧ v5 = .bool false ∧ v6 = .slice B3 m3 d3 ∧ v7 = .bool false ∧ v8 = .bool false ∧ v9 = .slice B4 m4 d4 := by
  obtain ⟨_, _, _, _, B1, m1, d1, B2, m2, d2, B3, m3, d3, B4, m4, d4, et, ec⟩ := h.form_
  unfold exTag at et
  cases et
  simp only [List.cons.injEq, and_true] at ec
  obtain ⟨rfl, rfl, rfl, rfl, rfl, rfl, rfl, rfl, rfl, rfl⟩ := ec
  exact ⟨B1, m1, d1, B2, m2, d2, B3, m3, d3, B4, m4, d4, rfl, rfl, rfl, rfl, rfl, rfl, rfl, rfl, rfl, rfl⟩
set_option maxHeartbeats 8000000 in
theorem awake12_any {Q : World → Prop} (H : TagOk Q) (w : World) (hQ : Q w) : Calls Tryz.prog 9 #[] w fun e w' => e = .returned (.bool true) ∧ Below w.heap.size w w' := by
  have C1 := hid (atom_any ⟨#[102, 116, 112]⟩ w (by decide))
  have C2 := hid (fun W => atom_any ⟨#[42]⟩ W (by decide))
  have C3 := hid (fun W => atom_any ⟨#[112, 114, 101, 102, 105, 120]⟩ W (by decide))
  have C4 := hid (fun W => atom_any ⟨#[47, 112, 117, 98, 47]⟩ W (by decide))
  have HO := hid H
  have HQ := hid hQ
  clear H hQ
  go_enter Tryz.func9, Tryz.ntmps9
  go_wp2_with (first
    | ((with_reducible refine C1.out.mono ?_); rintro e w1 ⟨a0, a1, a2, a3, a4, rfl, hin1, hb1⟩)
    | ((with_reducible refine (C2.out w1).mono ?_); rintro e w2 ⟨b0, b1, b2, b3, b4, rfl, hin2, hb2⟩)
    | ((with_reducible refine (C3.out w2).mono ?_); rintro e w3 ⟨c0, c1, c2, c3, c4, rfl, hin3, hb3⟩)
    | ((with_reducible refine (C4.out w3).mono ?_); rintro e w4 ⟨d0, d1, d2, d3, d4, rfl, hin4, hb4⟩))
  have h4 := hb4
  have h3 := next_below hb3 h4
  have h2 := next_below hb2 h3
  have h1 := next_below hb1 h2
  have hbn := below_new w4 (.cells #[b0, b1, b2, b3, b4, c0, c1, c2, c3, c4, d0, d1, d2, d3, d4] 34)
  have hk := kids_three ((((hin2.old h3)).old hbn).more (S' := fun _ => True) fun _ _ => trivial) (((hin3.old h4).old hbn).more (S' := fun _ => True) fun _ _ => trivial) ((hin4.old hbn).more (S' := fun _ => True) fun _ _ => trivial)
  have hr : RIn (w4.alloc (.cells #[b0, b1, b2, b3, b4, c0, c1, c2, c3, c4, d0, d1, d2, d3, d4] 34)) (fun _ => True) 5 (some ⟨w4.heap.size, 0, none⟩) 3 [b0, b1, b2, b3, b4, c0, c1, c2, c3, c4, d0, d1, d2, d3, d4] :=
    ⟨rfl, fun _ => ⟨_, rfl, trivial, fun j u hu => by
      have e : (⟨w4.heap.size, 0, none⟩ : Addr).add j = ⟨w4.heap.size, j, none⟩ := by unfold Addr.add; split <;> simp_all
      rw [e, Lib.cell_of_heap (heap_alloc_new w4 _)]
      rw [← hu]; simp⟩⟩
  have C5 := hid (list_any [.mk false false [] [42] [], .mk false false [] [112, 114, 101, 102, 105, 120] [], .mk false false [] [47, 112, 117, 98, 47] []] _ 3 3 _ _ _ hr rfl hk (by omega))
  have HB4 := hid (next_below h1 hbn)
  have HA := hid ((hin1.old h2).old hbn)
  clear hin1 hin2 hin3 hin4 hk hr hb1 hb2 hb3 hb4 h1 h2 h3 h4 hbn
  generalize w4.alloc (.cells #[b0, b1, b2, b3, b4, c0, c1, c2, c3, c4, d0, d1, d2, d3, d4] 34) = W at *
  go_wp2_with ((with_reducible refine C5.out.mono ?_); rintro e w5 ⟨x0, x1, x2, x3, x4, rfl, hin5, hb5⟩)
  have hbn := below_new w5 (.cells #[a0, a1, a2, a3, a4, x0, x1, x2, x3, x4] 34)
  have hk := kids_two' (((HA.out.old hb5).old hbn).more (S' := fun _ => True) fun _ _ => trivial) ((hin5.old hbn).more (S' := fun _ => True) fun _ _ => trivial)
  have hr : RIn (w5.alloc (.cells #[a0, a1, a2, a3, a4, x0, x1, x2, x3, x4] 34)) (fun _ => True) 5 (some ⟨w5.heap.size, 0, none⟩) 2 [a0, a1, a2, a3, a4, x0, x1, x2, x3, x4] :=
    ⟨rfl, fun _ => ⟨_, rfl, trivial, fun j u hu => by
      have e : (⟨w5.heap.size, 0, none⟩ : Addr).add j = ⟨w5.heap.size, j, none⟩ := by unfold Addr.add; split <;> simp_all
      rw [e, Lib.cell_of_heap (heap_alloc_new w5 _)]
      rw [← hu]; simp⟩⟩
  have C6 := hid (list_any [.mk false false [] [102, 116, 112] [], .mk true false [] [] [.mk false false [] [42] [], .mk false false [] [112, 114, 101, 102, 105, 120] [], .mk false false [] [47, 112, 117, 98, 47] []]] _ 2 2 _ _ _ hr rfl hk (by omega))
  have HB5 := hid (next_below (next_below HB4.out hb5) hbn)
  clear hin5 hk hr hb5 hbn
  generalize w5.alloc (.cells #[a0, a1, a2, a3, a4, x0, x1, x2, x3, x4] 34) = W6 at *
  go_wp2_with ((with_reducible refine C6.out.mono ?_); rintro e w7 ⟨y0, y1, y2, y3, y4, rfl, hin7, hb7⟩)
  have HB7 := hid (next_below HB5.out hb7)
  have C8 := HO.out.get exTagX w7 _ _ (HO.out.old HQ.out HB7.out) hin7 (may_small exTag_may).1
  rw [exTag_get] at C8
  replace C8 := hid C8
  clear hin7 hb7
  go_upto_region 2 with (refine C8.out.mono ?_; rintro e w8 ⟨v0, v1, v2, v3, v4, v5, v6, v7, v8, v9, rfl, htin, hb8⟩; obtain ⟨B1, m1, d1, B2, m2, d2, B3, m3, d3, B4, m4, d4, rfl, rfl, rfl, rfl, rfl, rfl, rfl, rfl, rfl, rfl⟩ := exTag_form htin)
  unfold exTag at htin
  obtain ⟨-, -, -, ⟨-, gk, -, -⟩, -⟩ := htin.inv
  have gk : 2 = m2 := gk
  subst gk
  obtain ⟨ad, u0, u1, u2, u3, u4, u5, u6, u7, u8, u9, tk, rfl, -, htk, -, hink, e0, e1, -⟩ := htin.kid (k := 1) (by omega)
  have htk : .mk 5 [47, 112, 117, 98, 47] zeroR [] = tk := by simpa using htk
  subst htk
  obtain ⟨_, _, _, _, D1, q1, r1, D2, q2, r2, D3, q3, r3, D4, q4, r4, et, ec⟩ := hink.form_
  simp only [List.cons.injEq, and_true] at ec
  obtain ⟨rfl, rfl, rfl, rfl, rfl, rfl, rfl, rfl, rfl, rfl⟩ := ec
  cases et
  obtain ⟨-, -, ⟨hrd, -, -⟩, ⟨gq, -, -, -⟩, ⟨gc, -⟩⟩ := hink.inv
  have gq : 5 = q1 := gq
  subst gq
  have hbn := below_new w8 (.cells #[.int .u8 3, .slice B1 m1 d1, .slice (some ad) 2 d2, .int .u8 0, .bool false, .bool false, .slice B3 m3 d3, .bool false, .bool false, .slice B4 m4 d4] 29)
  have HB9 := hid (next_below (next_below HB7.out hb8) hbn)
  have BX : Blk (w8.alloc (.cells #[.int .u8 3, .slice B1 m1 d1, .slice (some ad) 2 d2, .int .u8 0, .bool false, .bool false, .slice B3 m3 d3, .bool false, .bool false, .slice B4 m4 d4] 29)) w8.heap.size 29 #[.int .u8 3, .slice B1 m1 d1, .slice (some ad) 2 d2, .int .u8 0, .bool false, .bool false, .slice B3 m3 d3, .bool false, .bool false, .slice B4 m4 d4] := Blk.new _ _ _
  have hrd2 := rin_reads (hrd.size_ (by omega)) (B := w8.heap.size) (fun b hb => hb.2)
  have hconv := run_back (c := r1) (hrd2.below hbn)
  have c0 := (hbn.cell (World.block_lt_of_cell? _ _ e0)).trans e0
  have c1 := (hbn.cell (World.block_lt_of_cell? _ _ e1)).trans e1
  have c0 : _ = some (Value.int .u8 5) := c0
  clear hrd hrd2 hink htin e0 e1 hb8 hbn HQ HO
  generalize hg8 : w8.heap.size = g8 at BX ⊢
  generalize w8.alloc (.cells #[.int .u8 3, .slice B1 m1 d1, .slice (some ad) 2 d2, .int .u8 0, .bool false, .bool false, .slice B3 m3 d3, .bool false, .bool false, .slice B4 m4 d4] 29) = W9 at *
  have x0 := BX.cell 0
  have x2 := BX.cell 2
  have y0 : W9.cell? ⟨ad.block, ad.off + 10, none⟩ = some (.int .u8 5) := c0
  have y1 : W9.cell? ⟨ad.block, ad.off + 10 + 1, none⟩ = some (.slice D1 5 r1) := c1
  clear c0 c1
  go_wp2_with fail
  go_ret
  exact ⟨rfl, HB9.out⟩
end Go.Proofs.YtinlonpcakkfhaaGreatDoor
end
section
set_option maxRecDepth 100000
namespace Go.Proofs.YtinlonpcakkfhaaGreatDoor
open Go Go.Proofs Go.RowKit Sx _root_.Ord11 Go.Proofs.YtinlonpcakkfhaaGreatDoor.Ord11 _root_.Tag12 Sch
theorem TIn.lets {w : World} {S : Nat → Prop} {t : TG} {cs : List Value} (h : TIn w S t cs) : ∃ (k o : Nat) (i1 p1 i2 p2 : Bool) (A1 : Option Addr) (n1 c1 : Nat) (A2 : Option Addr) (n2 c2 : Nat) (A3 : Option Addr) (n3 c3 : Nat) (A4 : Option Addr) (n4 c4 : Nat),
    cs = [.int .u8 k, .slice A1 n1 c1, .slice A2 n2 c2, .int .u8 o, .bool i1, .bool p1, .slice A3 n3 c3, .bool i2, .bool p2, .slice A4 n4 c4] := by
  obtain ⟨_, _, _, _, _, _, _, _, _, _, _, _, _, _, _, _, -, rfl⟩ := h.form_
  exact ⟨_, _, _, _, _, _, _, _, _, _, _, _, _, _, _, _, _, _, rfl⟩
theorem TIn.kind {w : World} {S : Nat → Prop} {t : TG} {k : Nat} {cs : List Value} (h : TIn w S t (.int .u8 k :: cs)) : ∃ d r ks, t = .mk k d r ks := by
  obtain ⟨k', d, r, ks, _, _, _, _, _, _, _, _, _, _, _, _, rfl, e⟩ := h.form_
  injection e with e _
  injection e with _ e
  have : k = k' := by omega
  subst this
  exact ⟨d, r, ks, rfl⟩
theorem SIn.lets {w : World} {S : Nat → Prop} {t : SX} {cs : List Value} (h : SIn w S t cs) : ∃ (l h : Bool) (A1 : Option Addr) (n1 c1 : Nat) (A2 : Option Addr) (n2 c2 : Nat) (A3 : Option Addr) (n3 c3 : Nat), cs = [.bool l, .bool h, .slice A1 n1 c1, .slice A2 n2 c2, .slice A3 n3 c3] := by
  obtain ⟨_, _, _, _, _, _, _, _, _, _, _, _, _, _, -, rfl⟩ := h.form_
  exact ⟨_, _, _, _, _, _, _, _, _, _, _, rfl⟩
theorem bound_len {o : Nat} {x : Bd} {w : UInt8} {N : Nat} (hm : mayB ordC o x = true) (h : (formL (boundV x w)).length ≤ N) : x.at_.length ≤ N := by
  cases hi : x.is with
  | false => rw [mayB_not hm hi]; exact Nat.zero_le _
  | true =>
    unfold boundV at h
    rw [hi, if_pos rfl] at h
    simp only [formL, form, atom, Bool.false_eq_true, if_false, text, List.length_append, List.length_cons] at h
    omega
theorem formL_app (a b : List SX) : (formL (a ++ b)).length = (formL a).length + (formL b).length := by
  induction a with
  | nil => simp [formL]
  | cons x r ih => simp [formL, ih]; omega
theorem kids_values {ks : List TG} {x : TG} (h : x ∈ ks) : valueT x ∈ valuesT ks := by
  induction ks with
  | nil => cases h
  | cons a r ih =>
    rw [valuesT]
    rcases List.mem_cons.1 h with rfl | h
    · exact List.mem_cons_self ..
    · exact List.mem_cons_of_mem _ (ih h)
theorem fineL_of {ks : List TG} (h : ∀ x ∈ ks, fineT x = true) : fineL ks = true := by
  induction ks with
  | nil => rw [fineL]
  | cons a r ih => rw [fineL, h a (by simp), ih fun x hx => h x (by simp [hx])]; rfl
theorem fine_form (t : TG) : rightT ordC t = true → (form (valueT t)).length ≤ 1099511627776 → fineT t = true := by
  induction t using TG.ind with
  | H k d r ks ih =>
    intro hr hf
    rw [rightT, Bool.and_eq_true] at hr
    obtain ⟨h1, h2⟩ := hr
    have hkid : (∀ x ∈ ks, (form (valueT x)).length ≤ 1099511627776) → fineL ks = true := fun h => fineL_of fun x hx => ih x hx (rights_all h2 x hx) (h x hx)
    have hz : ∀ r : Rg, sameR r zeroR = true → r.lo.at_.length ≤ 1099511627776 ∧ r.hi.at_.length ≤ 1099511627776 := fun r h => by rw [zero_same h]; exact ⟨Nat.zero_le _, Nat.zero_le _⟩
    have hsub : ∀ l : List SX, (form (list l)).length ≤ 1099511627776 → (formL l).length ≤ 1099511627776 := fun l h => by
      rw [list, form] at h; simp at h; omega
    have hin : ∀ l : List SX, (formL l).length ≤ 1099511627776 → (∀ x ∈ ks, valueT x ∈ l) → ∀ x ∈ ks, (form (valueT x)).length ≤ 1099511627776 := fun l h hm x hx => by
      have := (mem_le (hm x hx)).2.2.1
      omega
    have hnil : ks.isEmpty = true → fineL ks = true := fun h => by rw [List.isEmpty_iff.1 h, fineL]
    rw [fineT]
    have fin : r.lo.at_.length ≤ 1099511627776 ∧ r.hi.at_.length ≤ 1099511627776 → fineL ks = true → (decide (r.lo.at_.length ≤ 1099511627776) && decide (r.hi.at_.length ≤ 1099511627776) && fineL ks) = true := fun a b => by
      rw [decide_eq_true a.1, decide_eq_true a.2, b]; rfl
    rw [valueT] at hf
    by_cases k1 : k = 1
    · rw [if_pos k1, Bool.and_eq_true, Bool.and_eq_true] at h1
      exact fin (hz r h1.1.1) (hnil h1.2)
    rw [if_neg k1] at h1 hf
    by_cases k2 : k = 2
    · rw [if_pos (.inl k2), Bool.and_eq_true] at h1
      exact fin (hz r h1.1) (hnil h1.2)
    rw [if_neg k2] at hf
    by_cases k5 : k = 5
    · rw [if_pos (.inr k5), Bool.and_eq_true] at h1
      exact fin (hz r h1.1) (hnil h1.2)
    rw [if_neg (fun h => h.elim k2 k5)] at h1
    by_cases k4 : k = 4
    · rw [if_neg (by omega), if_pos k4, Bool.and_eq_true] at h1
      rw [if_pos k4] at hf
      have := hsub _ hf
      exact fin (hz r h1.1) (hkid (hin _ this fun x hx => List.mem_cons_of_mem _ (List.mem_cons_of_mem _ (kids_values hx))))
    rw [if_neg k4, if_neg k5] at hf
    by_cases k3 : k = 3
    · rw [if_pos k3, Bool.and_eq_true, Bool.and_eq_true] at h1
      rw [if_neg (by omega)] at hf
      exact fin (hz r h1.1.1) (hkid (hin _ (hsub _ hf) fun x hx => kids_values hx))
    rw [if_neg k3, if_neg k4] at h1
    by_cases k6 : k = 6
    · rw [if_pos k6, Bool.and_eq_true, Bool.and_eq_true] at h1
      rw [if_pos k6] at hf
      have hl := hsub _ hf
      obtain ⟨_, hlo, hhi⟩ := mayR_parts h1.1.1
      simp only [formL, List.length_append] at hl
      rw [formL_app] at hl
      exact fin ⟨bound_len hlo (w := 103) (by omega), bound_len hhi (w := 108) (by omega)⟩ (hnil h1.2)
    · rw [if_neg k6] at h1; cases h1
theorem get_parts {v : SX} {t : TG} (h : getA v = some t) : may v = true ∧ valueT t = v ∧ rightT ordC t = true ∧ mayT t = true ∧ SmallT t ∧ SmallX v := by
  unfold getA at h
  split at h
  · rename_i hm
    obtain ⟨h1, h2⟩ := may_small hm
    obtain ⟨e1, e2⟩ := value_get v t h2 h
    refine ⟨hm, e1, e2, ?_, ⟨fine_form t e2 (by rw [e1]; exact h1.2), by rw [e1]; exact h1⟩, h1⟩
    unfold mayT
    rw [e1, e2, hm]; rfl
  · cases h
theorem put_parts {t : TG} (h : mayT t = true) : may (valueT t) = true ∧ rightT ordC t = true ∧ getA (valueT t) = some t ∧ SmallX (valueT t) := by
  unfold mayT at h
  rw [Bool.and_eq_true] at h
  refine ⟨h.2, h.1, ?_, (may_small h.2).1⟩
  unfold getA
  rw [if_pos h.2, get_value t h.1]
end Go.Proofs.YtinlonpcakkfhaaGreatDoor
end
section
namespace Go.Proofs.YtinlonpcakkfhaaGreatDoor
open Go Go.Proofs Go.RowKit
def IsRow (k : IntKind) (w : World) (a : Option Addr) (len cap : Nat) (zs : List Int) : Prop :=
  (a = none ∧ len = 0 ∧ cap = 0 ∧ zs = []) ∨
  ∃ x, a = some x ∧ len ≤ cap ∧ cap ≤ maxLen ∧ zs.length = cap ∧ (∀ i, i < zs.length → w.cell? (x.add i) = some (.int k (zs.getD i 0))) ∧ ∀ n ∈ zs, (Lit.int k n).wf = true
def bytesOf (len : Nat) (zs : List Int) : List UInt8 := (zs.take len).map fun z => z.toNat.toUInt8
theorem reads_of_row {w : World} {a : Option Addr} {len cap : Nat} {zs : List Int} (h : IsRow .u8 w a len cap zs) : Reads w w.heap.size 1 a len (Lib.byteCells (bytesOf len zs)) ∧ len ≤ cap ∧ cap ≤ maxLen := by
  rcases h with ⟨rfl, rfl, rfl, rfl⟩ | ⟨x, rfl, hl, hm, hz, hc, hw⟩
  · exact ⟨⟨by simp [bytesOf, Lib.byteCells], fun h => absurd h (by omega)⟩, Nat.le_refl _, by unfold maxLen; omega⟩
  · refine ⟨⟨?_, fun hn => ⟨x, rfl, ?_, ?_⟩⟩, hl, hm⟩
    · simp [bytesOf, Lib.byteCells_length]; omega
    · have := hc 0 (by omega)
      rcases Nat.lt_or_ge x.block w.heap.size with h' | h'
      · exact h'
      · rw [World.cell?] at this
        have e : (x.add 0).block = x.block := block_of_add x 0
        rw [e, Array.getElem?_eq_none h'] at this
        simp at this
    · intro j u hu
      have hj : j < (zs.take len).length := by
        have := (List.getElem?_eq_some_iff.1 hu).1
        simpa [bytesOf, Lib.byteCells] using this
      have hjz : j < zs.length := by simp at hj; omega
      rw [hc j hjz]
      simp only [bytesOf, Lib.byteCells, List.map_map, List.getElem?_map, List.getElem?_eq_getElem hj, Option.map_some, Option.some.injEq, Function.comp_apply] at hu
      rw [← hu, List.getElem_take]
      have hb := hw zs[j] (List.getElem_mem hjz)
      have hb2 := bounds_u8 hb
      have e1 : zs.getD j 0 = zs[j] := by simp [List.getD, List.getElem?_eq_getElem hjz]
      rw [e1]
      congr 2
      simp
      omega
end Go.Proofs.YtinlonpcakkfhaaGreatDoor
end
section
set_option maxRecDepth 100000
namespace Go.Proofs.YtinlonpcakkfhaaGreatDoor
open Go Go.Proofs Go.RowKit Sx
open Go.ChangeShapes Go.WideShapes Go.ChangeAt Go.Deep
section
variable {H : Type} {enc : TypeId × Value → H} {w : World} {held : Bool}
theorem bulk_lits (k : IntKind) (zs : List Int) : Rows.uptoBulkAll (lits (H := H) k zs) = zs.length := by
  induction zs with
  | nil => rfl
  | cons z r ih => show Rows.uptoBulk (.lit (.int k z)) + Rows.uptoBulkAll (lits k r) = _; rw [ih]; simp [Rows.uptoBulk]; omega
theorem open_bytes {fuel : Nat} {cs : List Value} {x : DataW H × List MemPlace} (h : DataW.trod enc Tryz.prog w 0 (fun _ => true) held fuel 22 cs = some x) :
    ∃ A n c l, cs = [.slice A n c] ∧ RIn w (fun _ => True) 1 A n (Lib.byteCells l) ∧ n ≤ c ∧ n + 1 ≤ Rows.uptoBulk x.1 ∧ (∀ R, (∀ y ∈ x.1.weights Tryz.prog 22, y ≤ R) → n ≤ R) := by
  rcases open_ints Tryz.underlying22 Tryz.underlying5 (by kernel_rfl) h with ⟨hcs, hx⟩ | ⟨a, len, cap, zs, hcs, _, hl, hm, hz, hx, hcell, hwz⟩
  · subst hx
    exact ⟨none, 0, 0, [], hcs, RIn.none_, Nat.le_refl _, by simp [Rows.uptoBulk], fun R _ => Nat.zero_le _⟩
  · simp at hz
    have hr := reads_of_row (w := w) (a := some a) (len := len) (cap := cap) (zs := zs) (.inr ⟨a, rfl, hl, hm, hz, hcell, hwz⟩)
    subst hx
    refine ⟨some a, len, cap, bytesOf len zs, hcs, (RIn.of_reads hr.1).more fun _ _ => trivial, hl, ?_, ?_⟩
    · simp only [Rows.uptoBulk, bulk_lits, List.length_take, List.length_drop]
      omega
    · intro R hR
      have h0 := hR (((lits (H := H) .u8 (zs.take len)).length + (lits (H := H) .u8 (zs.drop len)).length) * Tryz.prog.bytesOf 5) (by simp [DataW.weights, Tryz.underlying22])
      have hb : Tryz.prog.bytesOf 5 = 1 := by kernel_rfl
      rw [hb] at h0
      simp [lits] at h0
      omega
theorem structSexp : ∃ fs : Array Field, Tryz.prog.underlying 34 = some (.struct fs) ∧ oneCellFields Tryz.prog fs = true ∧ fs.toList.map (·.type) = [4, 4, 22, 22, 32] :=
  ⟨_, Tryz.underlying34, by kernel_rfl, by kernel_rfl⟩
theorem open_five {fuel : Nat} {cs : List Value} {x : DataW H × List MemPlace} (h : DataW.trod enc Tryz.prog w 0 (fun _ => true) held fuel 34 cs = some x) :
    ∃ (v0 v1 v2 v3 v4 : Value) (y0 y1 y2 y3 y4 : DataW H × List MemPlace) (n : Nat), n < fuel ∧ cs = [v0, v1, v2, v3, v4] ∧ x.1 = .agg [y0.1, y1.1, y2.1, y3.1, y4.1] ∧
      DataW.trod enc Tryz.prog w 0 (fun _ => true) held n 4 [v0] = some y0 ∧ DataW.trod enc Tryz.prog w 0 (fun _ => true) held n 4 [v1] = some y1 ∧ DataW.trod enc Tryz.prog w 0 (fun _ => true) held n 22 [v2] = some y2 ∧
      DataW.trod enc Tryz.prog w 0 (fun _ => true) held n 22 [v3] = some y3 ∧ DataW.trod enc Tryz.prog w 0 (fun _ => true) held n 32 [v4] = some y4 := by
  obtain ⟨fs, hfs, hone, htys⟩ := structSexp
  obtain ⟨xs, n, hn, hx, hl, hlen, hf⟩ := DataW.trod_struct hfs h
  have hc : Tryz.prog.cellsOf 34 = 5 := by kernel_rfl
  rw [hc] at hl
  obtain ⟨fl⟩ := fs
  match fl, htys with
  | [f0, f1, f2, f3, f4], htys =>
    simp only [List.map_cons, List.map_nil, List.cons.injEq, and_true] at htys
    obtain ⟨t0, t1, t2, t3, t4⟩ := htys
    match cs, hl with
    | [c0, c1, c2, c3, c4], _ =>
      match xs, hlen with
      | [y0, y1, y2, y3, y4], _ =>
        obtain ⟨o0, k0⟩ := hone_of hone 0 f0 rfl
        obtain ⟨o1, k1⟩ := hone_of hone 1 f1 rfl
        obtain ⟨o2, k2⟩ := hone_of hone 2 f2 rfl
        obtain ⟨o3, k3⟩ := hone_of hone 3 f3 rfl
        obtain ⟨o4, k4⟩ := hone_of hone 4 f4 rfl
        have g0 := hf 0 f0 rfl
        have g1 := hf 1 f1 rfl
        have g2 := hf 2 f2 rfl
        have g3 := hf 3 f3 rfl
        have g4 := hf 4 f4 rfl
        rw [o0, k0, t0] at g0
        rw [o1, k1, t1] at g1
        rw [o2, k2, t2] at g2
        rw [o3, k3, t3] at g3
        rw [o4, k4, t4] at g4
        refine ⟨c0, c1, c2, c3, c4, y0, y1, y2, y3, y4, n, by omega, rfl, by rw [hx]; rfl, g0, g1, g2, g3, g4⟩
theorem choose_kids {n : Nat} {p : Nat → SX → Prop} (h : ∀ i, i < n → ∃ t, p i t) : ∃ ks : List SX, ks.length = n ∧ ∀ i t, ks[i]? = some t → p i t := by
  induction n with
  | zero => exact ⟨[], rfl, fun i t h => by simp at h⟩
  | succ n ih =>
    obtain ⟨ks, hl, hk⟩ := ih (fun i hi => h i (by omega))
    obtain ⟨t, ht⟩ := h n (by omega)
    refine ⟨ks ++ [t], by simp [hl], fun i u hu => ?_⟩
    rcases Nat.lt_trichotomy i n with hi | hi | hi
    · rw [List.getElem?_append_left (by omega)] at hu; exact hk i u hu
    · subst hi
      rw [List.getElem?_append_right (by omega), hl, Nat.sub_self] at hu
      simp at hu
      subst hu; exact ht
    · rw [List.getElem?_eq_none (by simp; omega)] at hu; cases hu
theorem bulk_kids : ∀ (ks : List SX) (ys : List (DataW H)), ks.length = ys.length → (∀ (i : Nat) (t : SX) (y : DataW H), ks[i]? = some t → ys[i]? = some y → nodes t ≤ Rows.uptoBulk y ∧ (form t).length ≤ 60 * Rows.uptoBulk y) →
    nodesL ks ≤ Rows.uptoBulkAll ys ∧ (formL ks).length ≤ 60 * Rows.uptoBulkAll ys
  | [], [], _, _ => ⟨Nat.le_refl _, Nat.zero_le _⟩
  | k :: ks, y :: ys, hl, h => by
    have h0 := h 0 k y rfl rfl
    have h1 := bulk_kids ks ys (by simpa using hl) (fun i t u ht hu => h (i + 1) t u ht hu)
    rw [nodesL, formL, Rows.uptoBulkAll, List.length_append]
    omega
theorem open_sexp : ∀ (fuel : Nat) (cs : List Value) (x : DataW H × List MemPlace), DataW.trod enc Tryz.prog w 0 (fun _ => true) held fuel 34 cs = some x →
    (∀ y ∈ x.1.weights Tryz.prog 34, y ≤ reachBytes) → ∃ t, SIn w (fun _ => True) t cs ∧ nodes t ≤ Rows.uptoBulk x.1 ∧ (form t).length ≤ 60 * Rows.uptoBulk x.1 := by
  intro fuel
  induction fuel using Nat.strongRecOn with
  | _ fuel ih =>
    intro cs x h hw
    obtain ⟨v0, v1, v2, v3, v4, y0, y1, y2, y3, y4, n, hn, rfl, hx, g0, g1, g2, g3, g4⟩ := open_five h
    obtain ⟨l, e0, _⟩ := DataW.trod_bool Tryz.underlying4 g0
    obtain ⟨hh, e1, _⟩ := DataW.trod_bool Tryz.underlying4 g1
    obtain ⟨A1, n1, c1, hi, e2, r1, b1, u1, q1⟩ := open_bytes g2
    obtain ⟨A2, n2, c2, da, e3, r2, b2, u2, q2⟩ := open_bytes g3
    injection e0 with e0; injection e1 with e1; injection e2 with e2; injection e3 with e3
    subst e0 e1 e2 e3
    have hW : x.1.weights Tryz.prog 34 = y0.1.weights Tryz.prog 4 ++ (y1.1.weights Tryz.prog 4 ++ (y2.1.weights Tryz.prog 22 ++ (y3.1.weights Tryz.prog 22 ++ (y4.1.weights Tryz.prog 32 ++ [])))) := by
      rw [hx]
      obtain ⟨fs, hfs, _, htys⟩ := structSexp
      simp only [DataW.weights, hfs, htys, DataW.weightsEach]
    have w1 := q1 reachBytes (fun y hy => hw y (by rw [hW]; simp [hy]))
    have w2 := q2 reachBytes (fun y hy => hw y (by rw [hW]; simp [hy]))
    have w4 : ∀ y ∈ y4.1.weights Tryz.prog 32, y ≤ reachBytes := fun y hy => hw y (by rw [hW]; simp [hy])
    have hl1 : hi.length = n1 := by simpa [Lib.byteCells_length] using r1.1
    have hl2 : da.length = n2 := by simpa [Lib.byteCells_length] using r2.1
    have hre : reachBytes ≤ 140737488355328 := by unfold reachBytes; omega
    have ho : own l hh hi da ≤ 50 + n1 + n2 := by
      have t1 : (text hi).length ≤ n1 + 20 := by rw [text_length, hl1]; have := Oct.dec_length 18 n1 (by omega); omega
      have t2 : (text da).length ≤ n2 + 20 := by rw [text_length, hl2]; have := Oct.dec_length 18 n2 (by omega); omega
      unfold own
      split
      · omega
      · split <;> omega
    have hform : ∀ ks, (form (.mk l hh hi da ks)).length ≤ own l hh hi da + (formL ks).length := by
      intro ks
      rw [form, own]
      cases l <;> cases hh <;> simp <;> omega
    have hbulk : Rows.uptoBulk x.1 = Rows.uptoBulk y0.1 + (Rows.uptoBulk y1.1 + (Rows.uptoBulk y2.1 + (Rows.uptoBulk y3.1 + (Rows.uptoBulk y4.1 + 0)))) + 1 := by rw [hx]; rfl
    rcases DataW.trod_slice Tryz.underlying32 g4 with ⟨hcs, hy4⟩ | ⟨a, len, cap, elems, rest, m, hm, hcs, hy4, _, hle, hcm, hel, hall, _, _⟩
    · injection hcs with hcs
      subst hcs
      refine ⟨.mk l hh hi da [], .mk (xs := []) r1 ⟨b1, by omega⟩ r2 ⟨b2, by omega⟩ RIn.none_ ⟨Nat.le_refl _, by omega⟩ rfl (fun i t hit => by simp at hit), ?_, ?_⟩
      · rw [nodes, nodesL]; omega
      · have := hform []
        rw [formL] at this
        simp at this
        omega
    · injection hcs with hcs
      subst hcs
      have hc5 : Tryz.prog.cellsOf 34 = 5 := by kernel_rfl
      rw [hc5] at hall
      have hwk : ∀ (i : Nat) (y : DataW H × List MemPlace), elems[i]? = some y → ∀ z ∈ y.1.weights Tryz.prog 34, z ≤ reachBytes := by
        intro i y hy z hz
        apply w4
        rw [hy4]
        simp only [DataW.weights, Tryz.underlying32]
        have : ∀ (es : List (DataW H)) (y : DataW H), y ∈ es → ∀ z ∈ y.weights Tryz.prog 34, z ∈ DataW.weightsAll Tryz.prog 34 es := by
          intro es
          induction es with
          | nil => intro y hy; cases hy
          | cons e r ihr =>
            intro y hy z hz
            rw [DataW.weightsAll]
            rcases List.mem_cons.1 hy with rfl | hy
            · simp [hz]
            · simp [ihr y hy z hz]
        have hmem : y.1 ∈ elems.map (·.1) := List.mem_map.2 ⟨y, List.mem_of_getElem? hy, rfl⟩
        simp [this _ _ hmem z hz]
      have hlen80 : len * 80 ≤ reachBytes := by
        have h0 := w4 ((elems.length + rest.length) * Tryz.prog.bytesOf 34) (by rw [hy4]; simp [DataW.weights, Tryz.underlying32])
        have hb : Tryz.prog.bytesOf 34 = 80 := by kernel_rfl
        rw [hb] at h0
        have : len * 80 ≤ (elems.length + rest.length) * 80 := Nat.mul_le_mul_right _ (by omega)
        omega
      have each : ∀ i, i < len → ∃ cs' y, elems[i]? = some y ∧ w.cells? 0 (a.add (i * 5)) 5 = some cs' ∧ DataW.trod enc Tryz.prog w 0 (fun _ => true) held m 34 cs' = some y := by
        intro i hi
        have h0 := hall i hi
        rw [List.getElem?_eq_getElem (by omega)] at h0
        obtain ⟨cs', h1, h2⟩ := Option.bind_eq_some_iff.1 h0
        exact ⟨cs', _, List.getElem?_eq_getElem (by omega), h1, h2⟩
      obtain ⟨xs, hxs⟩ : ∃ xs : List Value, xs = (List.range (len * 5)).map fun j => (w.cell? (a.add j)).getD (.bool false) := ⟨_, rfl⟩
      have hxl : xs.length = len * 5 := by rw [hxs]; simp
      have hcell : ∀ i r, i < len → r < 5 → ∃ u, w.cell? (a.add (i * 5 + r)) = some u := by
        intro i r hi hr
        obtain ⟨cs', y, _, h1, _⟩ := each i hi
        obtain ⟨_, hcl, hat⟩ := World.cells?_some h1
        have := hat r hr
        rw [add_of_add] at this
        exact ⟨cs'[r]'(by omega), by rw [this]; exact List.getElem?_eq_getElem _⟩
      have hxat : ∀ j u, xs[j]? = some u → w.cell? (a.add j) = some u := by
        intro j u hu
        have hj : j < len * 5 := by rw [← hxl]; exact (List.getElem?_eq_some_iff.1 hu).1
        obtain ⟨v, hv⟩ := hcell (j / 5) (j % 5) (by omega) (by omega)
        rw [show j / 5 * 5 + j % 5 = j by omega] at hv
        rw [hxs] at hu
        simp [hj, hv] at hu
        rw [hv, hu]
      have hchunk : ∀ i cs', i < len → w.cells? 0 (a.add (i * 5)) 5 = some cs' → (xs.drop (i * 5)).take 5 = cs' := by
        intro i cs' hi h1
        obtain ⟨_, hcl, hat⟩ := World.cells?_some h1
        apply List.ext_getElem?
        intro r
        rw [List.getElem?_take]
        split
        · rename_i hr
          rw [List.getElem?_drop]
          have hj : i * 5 + r < xs.length := by rw [hxl]; omega
          have h2 := hxat (i * 5 + r) xs[i * 5 + r] (List.getElem?_eq_getElem hj)
          have h3 := hat r hr
          rw [add_of_add, h2] at h3
          rw [List.getElem?_eq_getElem hj]; exact h3
        · rw [List.getElem?_eq_none (by omega)]
      obtain ⟨ks, hkl, hks⟩ := choose_kids (n := len) (p := fun i t => SIn w (fun _ => True) t ((xs.drop (i * 5)).take 5) ∧ ∀ y, elems[i]? = some y → nodes t ≤ Rows.uptoBulk y.1 ∧ (form t).length ≤ 60 * Rows.uptoBulk y.1) (by
        intro i hi
        obtain ⟨cs', y, he, h1, h2⟩ := each i hi
        obtain ⟨t, ht, h3, h4⟩ := ih m (by omega) cs' y h2 (hwk i y he)
        refine ⟨t, by rw [hchunk i cs' hi h1]; exact ht, fun y' hy' => ?_⟩
        rw [he] at hy'
        injection hy' with hy'
        subst hy'
        exact ⟨h3, h4⟩)
      have hsum := bulk_kids ks (elems.map (·.1)) (by simp; omega) (fun i t y ht hy => by
        rw [List.getElem?_map] at hy
        obtain ⟨y', hy', rfl⟩ := Option.map_eq_some_iff.1 hy
        exact (hks i t ht).2 y' hy')
      have hb4 : Rows.uptoBulkAll (elems.map (·.1)) + 1 ≤ Rows.uptoBulk y4.1 := by rw [hy4, Rows.uptoBulk]; omega
      refine ⟨.mk l hh hi da ks, .mk (xs := xs) r1 ⟨b1, by omega⟩ r2 ⟨b2, by omega⟩ ⟨hxl, fun _ => ⟨a, rfl, trivial, hxat⟩⟩ ⟨hle, by omega⟩ hkl (fun i t hit => (hks i t hit).1), ?_, ?_⟩
      · rw [nodes]; omega
      · have := hform ks
        omega
end
end Go.Proofs.YtinlonpcakkfhaaGreatDoor
end
section
set_option maxRecDepth 100000
namespace Go.Proofs.YtinlonpcakkfhaaGreatDoor
open Go Go.Proofs Go.RowKit Sx _root_.Ord11 Go.Proofs.YtinlonpcakkfhaaGreatDoor.Ord11 _root_.Tag12
open Go.ChangeShapes Go.WideShapes Go.ChangeAt Go.Deep
theorem text_le {d : List UInt8} (h : d.length ≤ 140737488355328) : (text d).length ≤ d.length + 20 := by
  rw [text_length]
  have := Oct.dec_length 18 d.length (by omega)
  omega
theorem name_le (o : Nat) : (nameW o).length ≤ 7 := by
  unfold nameW
  repeat' split
  all_goals decide
theorem bound_le (x : Bd) (w : UInt8) (h : x.at_.length ≤ 140737488355328) : nodesL (boundV x w) ≤ 2 ∧ (formL (boundV x w)).length ≤ 42 + x.at_.length := by
  have h1 := text_le h
  have h2 := text_le (d := if x.op then [w] else [w, 101]) (by split <;> simp)
  have h3 : (if x.op then [w] else [w, 101] : List UInt8).length ≤ 2 := by split <;> simp
  unfold boundV
  split
  · simp only [nodesL, nodes, formL, form, atom, Bool.false_eq_true, if_false, List.length_append, List.length_nil]
    exact ⟨by omega, by omega⟩
  · simp only [nodesL, formL, List.length_nil]
    omega
theorem nodesL_app (a b : List SX) : nodesL (a ++ b) = nodesL a + nodesL b := by
  induction a with
  | nil => simp [nodesL]
  | cons x r ih => simp [nodesL, ih]; omega
theorem value_le (k : Nat) (d : List UInt8) (r : Rg) (ks : List TG) (hd : d.length ≤ 140737488355328) (h1 : r.lo.at_.length ≤ 140737488355328) (h2 : r.hi.at_.length ≤ 140737488355328) :
    nodes (valueT (.mk k d r ks)) ≤ 8 + nodesL (valuesT ks) ∧ (form (valueT (.mk k d r ks))).length ≤ 200 + d.length + r.lo.at_.length + r.hi.at_.length + (formL (valuesT ks)).length := by
  have td := text_le hd
  have b1 := bound_le r.lo 103 h1
  have b2 := bound_le r.hi 108 h2
  have ts : (text star).length ≤ 21 := text_le (d := star) (by decide)
  have tw : (text setW).length ≤ 23 := text_le (d := setW) (by decide)
  have tp : (text prefW).length ≤ 26 := text_le (d := prefW) (by decide)
  have tr : (text rangW).length ≤ 25 := text_le (d := rangW) (by decide)
  have tn : (text (nameW r.o)).length ≤ 27 := by
    have := name_le r.o
    have := text_le (d := nameW r.o) (by omega)
    omega
  rw [valueT]
  repeat' split
  all_goals
    simp only [list, atom, nodes, nodesL, form, formL, Bool.false_eq_true, if_false, if_true, List.length_append, List.length_nil, List.length_cons, nodesL_app, formL_app, List.nil_append]
    omega
theorem choose_tags {n : Nat} {p : Nat → TG → Prop} (h : ∀ i, i < n → ∃ t, p i t) : ∃ ks : List TG, ks.length = n ∧ ∀ i t, ks[i]? = some t → p i t := by
  induction n with
  | zero => exact ⟨[], rfl, fun i t h => by simp at h⟩
  | succ n ih =>
    obtain ⟨ks, hl, hk⟩ := ih (fun i hi => h i (by omega))
    obtain ⟨t, ht⟩ := h n (by omega)
    refine ⟨ks ++ [t], by simp [hl], fun i u hu => ?_⟩
    rcases Nat.lt_trichotomy i n with hi | hi | hi
    · rw [List.getElem?_append_left (by omega)] at hu; exact hk i u hu
    · subst hi
      rw [List.getElem?_append_right (by omega), hl, Nat.sub_self] at hu
      simp at hu
      subst hu; exact ht
    · rw [List.getElem?_eq_none (by simp; omega)] at hu; cases hu
section
variable {H : Type} {enc : TypeId × Value → H} {w : World} {held : Bool}
theorem bulk_tags : ∀ (ks : List TG) (ys : List (DataW H)), ks.length = ys.length → (∀ (i : Nat) (t : TG) (y : DataW H), ks[i]? = some t → ys[i]? = some y → nodes (valueT t) ≤ 10 * Rows.uptoBulk y ∧ (form (valueT t)).length ≤ 210 * Rows.uptoBulk y) →
    nodesL (valuesT ks) ≤ 10 * Rows.uptoBulkAll ys ∧ (formL (valuesT ks)).length ≤ 210 * Rows.uptoBulkAll ys
  | [], [], _, _ => ⟨by simp [valuesT, nodesL], by simp [valuesT, formL]⟩
  | k :: ks, y :: ys, hl, h => by
    have h0 := h 0 k y rfl rfl
    have h1 := bulk_tags ks ys (by simpa using hl) (fun i t u ht hu => h (i + 1) t u ht hu)
    rw [valuesT, nodesL, formL, Rows.uptoBulkAll, List.length_append]
    omega
theorem weights_mem (t : TypeId) : ∀ (es : List (DataW H)) (y : DataW H), y ∈ es → ∀ z ∈ y.weights Tryz.prog t, z ∈ DataW.weightsAll Tryz.prog t es := by
  intro es
  induction es with
  | nil => intro y hy; cases hy
  | cons e r ihr =>
    intro y hy z hz
    rw [DataW.weightsAll]
    rcases List.mem_cons.1 hy with rfl | hy
    · simp [hz]
    · simp [ihr y hy z hz]
theorem structBoundT : ∃ fs : Array Field, Tryz.prog.underlying 25 = some (.struct fs) ∧ fs.toList.map (fun f => (f.type, f.offset, Tryz.prog.cellsOf f.type)) = [(4, 0, 1), (4, 1, 1), (22, 2, 1)] ∧ fs.toList.map (·.type) = [4, 4, 22] :=
  ⟨_, Tryz.underlying25, by kernel_rfl, by kernel_rfl⟩
theorem structRangeT : ∃ fs : Array Field, Tryz.prog.underlying 27 = some (.struct fs) ∧ fs.toList.map (fun f => (f.type, f.offset, Tryz.prog.cellsOf f.type)) = [(5, 0, 1), (25, 1, 3), (25, 4, 3)] ∧ fs.toList.map (·.type) = [5, 25, 25] :=
  ⟨_, Tryz.underlying27, by kernel_rfl, by kernel_rfl⟩
theorem structTag : ∃ fs : Array Field, Tryz.prog.underlying 29 = some (.struct fs) ∧ fs.toList.map (fun f => (f.type, f.offset, Tryz.prog.cellsOf f.type)) = [(5, 0, 1), (22, 1, 1), (23, 2, 1), (27, 3, 7)] ∧ fs.toList.map (·.type) = [5, 22, 23, 27] :=
  ⟨_, Tryz.underlying29, by kernel_rfl, by kernel_rfl⟩
theorem open_boundT {fuel : Nat} {cs : List Value} {x : DataW H × List MemPlace} (h : DataW.trod enc Tryz.prog w 0 (fun _ => true) held fuel 25 cs = some x)
    (hw : ∀ y ∈ x.1.weights Tryz.prog 25, y ≤ reachBytes) :
    ∃ (i p : Bool) (A : Option Addr) (n c : Nat) (l : List UInt8), cs = [.bool i, .bool p, .slice A n c] ∧ RIn w (fun _ => True) 1 A n (Lib.byteCells l) ∧ n ≤ c ∧ n ≤ reachBytes ∧ n + 1 ≤ Rows.uptoBulk x.1 := by
  obtain ⟨fs, hfs, hty, htys⟩ := structBoundT
  obtain ⟨xs, n, hn, hx, hl, hlen, hf⟩ := DataW.trod_struct hfs h
  have hc : Tryz.prog.cellsOf 25 = 3 := by kernel_rfl
  rw [hc] at hl
  obtain ⟨fl⟩ := fs
  match fl, hty with
  | [f0, f1, f2], hty =>
    simp only [List.map_cons, List.map_nil, List.cons.injEq, Prod.mk.injEq, and_true] at hty
    obtain ⟨⟨t0, o0, s0⟩, ⟨t1, o1, s1⟩, t2, o2, s2⟩ := hty
    match cs, hl with
    | [c0, c1, c2], _ =>
      match xs, hlen with
      | [y0, y1, y2], _ =>
        have g0 := hf 0 f0 rfl
        have g1 := hf 1 f1 rfl
        have g2 := hf 2 f2 rfl
        rw [o0, s0, t0] at g0
        rw [o1, s1, t1] at g1
        rw [o2, s2, t2] at g2
        obtain ⟨i, e0, _⟩ := DataW.trod_bool Tryz.underlying4 g0
        obtain ⟨p, e1, _⟩ := DataW.trod_bool Tryz.underlying4 g1
        obtain ⟨A, n', c, l, e2, hr, hk, hu, hq⟩ := open_bytes g2
        simp at e0 e1 e2
        subst e0 e1 e2
        have hx' : x.1 = .agg [y0.1, y1.1, y2.1] := by rw [hx]; rfl
        have hb : Rows.uptoBulk x.1 = Rows.uptoBulk y0.1 + (Rows.uptoBulk y1.1 + (Rows.uptoBulk y2.1 + 0)) + 1 := by rw [hx']; rfl
        refine ⟨i, p, A, n', c, l, rfl, hr, hk, hq reachBytes fun y hy => hw y ?_, by omega⟩
        rw [hx']
        simp only [DataW.weights, hfs, htys, DataW.weightsEach]
        simp [hy]
theorem open_rangeT {fuel : Nat} {cs : List Value} {x : DataW H × List MemPlace} (h : DataW.trod enc Tryz.prog w 0 (fun _ => true) held fuel 27 cs = some x)
    (hw : ∀ y ∈ x.1.weights Tryz.prog 27, y ≤ reachBytes) :
    ∃ (r : Rg) (A1 : Option Addr) (n1 c1 : Nat) (A2 : Option Addr) (n2 c2 : Nat), cs = [.int .u8 r.o, .bool r.lo.is, .bool r.lo.op, .slice A1 n1 c1, .bool r.hi.is, .bool r.hi.op, .slice A2 n2 c2] ∧ r.o < 256 ∧
      RIn w (fun _ => True) 1 A1 n1 (Lib.byteCells r.lo.at_) ∧ (n1 ≤ c1 ∧ n1 ≤ reachBytes) ∧ RIn w (fun _ => True) 1 A2 n2 (Lib.byteCells r.hi.at_) ∧ (n2 ≤ c2 ∧ n2 ≤ reachBytes) ∧ n1 + n2 + 2 ≤ Rows.uptoBulk x.1 := by
  obtain ⟨fs, hfs, hty, htys⟩ := structRangeT
  obtain ⟨xs, n, hn, hx, hl, hlen, hf⟩ := DataW.trod_struct hfs h
  have hc : Tryz.prog.cellsOf 27 = 7 := by kernel_rfl
  rw [hc] at hl
  obtain ⟨fl⟩ := fs
  match fl, hty with
  | [f0, f1, f2], hty =>
    simp only [List.map_cons, List.map_nil, List.cons.injEq, Prod.mk.injEq, and_true] at hty
    obtain ⟨⟨t0, o0, s0⟩, ⟨t1, o1, s1⟩, t2, o2, s2⟩ := hty
    match cs, hl with
    | [c0, c1, c2, c3, c4, c5, c6], _ =>
      match xs, hlen with
      | [y0, y1, y2], _ =>
        have g0 := hf 0 f0 rfl
        have g1 := hf 1 f1 rfl
        have g2 := hf 2 f2 rfl
        rw [o0, s0, t0] at g0
        rw [o1, s1, t1] at g1
        rw [o2, s2, t2] at g2
        have hx' : x.1 = .agg [y0.1, y1.1, y2.1] := by rw [hx]; rfl
        have hb : Rows.uptoBulk x.1 = Rows.uptoBulk y0.1 + (Rows.uptoBulk y1.1 + (Rows.uptoBulk y2.1 + 0)) + 1 := by rw [hx']; rfl
        have hW : x.1.weights Tryz.prog 27 = y0.1.weights Tryz.prog 5 ++ (y1.1.weights Tryz.prog 25 ++ (y2.1.weights Tryz.prog 25 ++ [])) := by
          rw [hx']
          simp only [DataW.weights, hfs, htys, DataW.weightsEach]
        obtain ⟨o, e0, _, hwd⟩ := DataW.trod_int Tryz.underlying5 g0
        obtain ⟨i1, p1, A1, n1, d1, l1, e1, hr1, hk1, hq1, hu1⟩ := open_boundT g1 (fun y hy => hw y (by rw [hW]; simp [hy]))
        obtain ⟨i2, p2, A2, n2, d2, l2, e2, hr2, hk2, hq2, hu2⟩ := open_boundT g2 (fun y hy => hw y (by rw [hW]; simp [hy]))
        simp at e0 e1 e2
        obtain ⟨q1, q2, q3⟩ := e1
        obtain ⟨q4, q5, q6⟩ := e2
        have hb' := bounds_u8 hwd
        obtain ⟨on, rfl⟩ : ∃ on : Nat, o = (on : Int) := ⟨o.toNat, by omega⟩
        subst e0 q1 q2 q3 q4 q5 q6
        exact ⟨⟨on, ⟨i1, p1, l1⟩, ⟨i2, p2, l2⟩⟩, A1, n1, d1, A2, n2, d2, rfl, by show on < 256; omega, hr1, ⟨hk1, hq1⟩, hr2, ⟨hk2, hq2⟩, by omega⟩
def TgWas (w : World) (cs : List Value) (y : DataW H) (t : TG) : Prop := TIn w (fun _ => True) t cs ∧ nodes (valueT t) ≤ 10 * Rows.uptoBulk y ∧ (form (valueT t)).length ≤ 210 * Rows.uptoBulk y
theorem open_kids {fuel : Nat} {cs : List Value} {y4 : DataW H × List MemPlace} (g4 : DataW.trod enc Tryz.prog w 0 (fun _ => true) held fuel 23 cs = some y4)
    (w4 : ∀ y ∈ y4.1.weights Tryz.prog 23, y ≤ reachBytes)
    (ih : ∀ m, m < fuel → ∀ (cs : List Value) (x : DataW H × List MemPlace), DataW.trod enc Tryz.prog w 0 (fun _ => true) held m 29 cs = some x → (∀ y ∈ x.1.weights Tryz.prog 29, y ≤ reachBytes) → ∃ t, TgWas w cs x.1 t) :
    ∃ A n c ks xs, cs = [.slice A n c] ∧ RIn w (fun _ => True) 10 A n xs ∧ n ≤ c ∧ n * 128 ≤ reachBytes ∧ ks.length = n ∧ (∀ i t, ks[i]? = some t → TIn w (fun _ => True) t ((xs.drop (i * 10)).take 10)) ∧
      (∀ t ∈ ks, nodes (valueT t) ≤ 10 * Rows.uptoBulk y4.1 ∧ (form (valueT t)).length ≤ 210 * Rows.uptoBulk y4.1) ∧ nodesL (valuesT ks) + 1 ≤ 10 * Rows.uptoBulk y4.1 ∧ (formL (valuesT ks)).length ≤ 210 * Rows.uptoBulk y4.1 := by
  rcases DataW.trod_slice Tryz.underlying23 g4 with ⟨hcs, hy4⟩ | ⟨a, len, cap, elems, rest, m, hm, hcs, hy4, _, hle, hcm, hel, hall, _, _⟩
  · exact ⟨none, 0, 0, [], [], hcs, RIn.none_, Nat.le_refl _, by unfold reachBytes; omega, rfl, fun i t hit => by simp at hit, fun t ht => by simp at ht, by rw [hy4, valuesT, nodesL]; simp [Rows.uptoBulk], by rw [valuesT, formL]; simp⟩
  · have hc10 : Tryz.prog.cellsOf 29 = 10 := by kernel_rfl
    rw [hc10] at hall
    have hwk : ∀ (i : Nat) (y : DataW H × List MemPlace), elems[i]? = some y → ∀ z ∈ y.1.weights Tryz.prog 29, z ≤ reachBytes := by
      intro i y hy z hz
      apply w4
      rw [hy4]
      simp only [DataW.weights, Tryz.underlying23]
      have hmem : y.1 ∈ elems.map (·.1) := List.mem_map.2 ⟨y, List.mem_of_getElem? hy, rfl⟩
      simp [weights_mem _ _ _ hmem z hz]
    have hlen : len * 128 ≤ reachBytes := by
      have h0 := w4 ((elems.length + rest.length) * Tryz.prog.bytesOf 29) (by rw [hy4]; simp [DataW.weights, Tryz.underlying23])
      have hb : 128 ≤ Tryz.prog.bytesOf 29 := of_decide_eq_true (by kernel_rfl)
      have : len * 128 ≤ (elems.length + rest.length) * Tryz.prog.bytesOf 29 := Nat.mul_le_mul (by omega) hb
      omega
    have each : ∀ i, i < len → ∃ cs' y, elems[i]? = some y ∧ w.cells? 0 (a.add (i * 10)) 10 = some cs' ∧ DataW.trod enc Tryz.prog w 0 (fun _ => true) held m 29 cs' = some y := by
      intro i hi
      have h0 := hall i hi
      rw [List.getElem?_eq_getElem (by omega)] at h0
      obtain ⟨cs', h1, h2⟩ := Option.bind_eq_some_iff.1 h0
      exact ⟨cs', _, List.getElem?_eq_getElem (by omega), h1, h2⟩
    obtain ⟨xs, hxs⟩ : ∃ xs : List Value, xs = (List.range (len * 10)).map fun j => (w.cell? (a.add j)).getD (.bool false) := ⟨_, rfl⟩
    have hxl : xs.length = len * 10 := by rw [hxs]; simp
    have hcell : ∀ i r, i < len → r < 10 → ∃ u, w.cell? (a.add (i * 10 + r)) = some u := by
      intro i r hi hr
      obtain ⟨cs', y, _, h1, _⟩ := each i hi
      obtain ⟨_, hcl, hat⟩ := World.cells?_some h1
      have := hat r hr
      rw [add_of_add] at this
      exact ⟨cs'[r]'(by omega), by rw [this]; exact List.getElem?_eq_getElem _⟩
    have hxat : ∀ j u, xs[j]? = some u → w.cell? (a.add j) = some u := by
      intro j u hu
      have hj : j < len * 10 := by rw [← hxl]; exact (List.getElem?_eq_some_iff.1 hu).1
      obtain ⟨v, hv⟩ := hcell (j / 10) (j % 10) (by omega) (by omega)
      rw [show j / 10 * 10 + j % 10 = j by omega] at hv
      rw [hxs] at hu
      simp [hj, hv] at hu
      rw [hv, hu]
    have hchunk : ∀ i cs', i < len → w.cells? 0 (a.add (i * 10)) 10 = some cs' → (xs.drop (i * 10)).take 10 = cs' := by
      intro i cs' hi h1
      obtain ⟨_, hcl, hat⟩ := World.cells?_some h1
      apply List.ext_getElem?
      intro r
      rw [List.getElem?_take]
      split
      · rename_i hr
        rw [List.getElem?_drop]
        have hj : i * 10 + r < xs.length := by rw [hxl]; omega
        have h2 := hxat (i * 10 + r) xs[i * 10 + r] (List.getElem?_eq_getElem hj)
        have h3 := hat r hr
        rw [add_of_add, h2] at h3
        rw [List.getElem?_eq_getElem hj]; exact h3
      · rw [List.getElem?_eq_none (by omega)]
    obtain ⟨ks, hkl, hks⟩ := choose_tags (n := len) (p := fun i t => ∀ y, elems[i]? = some y → TgWas w ((xs.drop (i * 10)).take 10) y.1 t) (by
      intro i hi
      obtain ⟨cs', y, he, h1, h2⟩ := each i hi
      obtain ⟨t, ht⟩ := ih m (by omega) cs' y h2 (hwk i y he)
      refine ⟨t, fun y' hy' => ?_⟩
      rw [he] at hy'
      injection hy' with hy'
      subst hy'
      rw [hchunk i cs' hi h1]
      exact ht)
    have hel' : ∀ i t, ks[i]? = some t → ∃ y, elems[i]? = some y ∧ TgWas w ((xs.drop (i * 10)).take 10) y.1 t := by
      intro i t hit
      have hi : i < ks.length := (List.getElem?_eq_some_iff.1 hit).1
      obtain ⟨cs', y, he, _, _⟩ := each i (by omega)
      exact ⟨y, he, hks i t hit y he⟩
    have hsum := bulk_tags ks (elems.map (·.1)) (by simp; omega) (fun i t y ht hy => by
      rw [List.getElem?_map] at hy
      obtain ⟨y', hy', rfl⟩ := Option.map_eq_some_iff.1 hy
      exact (hks i t ht y' hy').2)
    have hb4 : Rows.uptoBulkAll (elems.map (·.1)) + 1 ≤ Rows.uptoBulk y4.1 := by rw [hy4, Rows.uptoBulk]; omega
    refine ⟨some a, len, cap, ks, xs, hcs, ⟨hxl, fun _ => ⟨a, rfl, trivial, hxat⟩⟩, hle, hlen, hkl, fun i t hit => ?_, fun t ht => ?_, by omega, by omega⟩
    · obtain ⟨y, _, h⟩ := hel' i t hit
      exact h.1
    · have := mem_le (kids_values ht)
      omega
theorem open_tag : ∀ (fuel : Nat) (cs : List Value) (x : DataW H × List MemPlace), DataW.trod enc Tryz.prog w 0 (fun _ => true) held fuel 29 cs = some x →
    (∀ y ∈ x.1.weights Tryz.prog 29, y ≤ reachBytes) → ∃ t, TgWas w cs x.1 t := by
  intro fuel
  induction fuel using Nat.strongRecOn with
  | _ fuel ih =>
    intro cs x h hw
    obtain ⟨fs, hfs, hty, htys⟩ := structTag
    obtain ⟨xs, n, hn, hx, hl, hlen, hf⟩ := DataW.trod_struct hfs h
    have hc : Tryz.prog.cellsOf 29 = 10 := by kernel_rfl
    rw [hc] at hl
    obtain ⟨fl⟩ := fs
    match fl, hty with
    | [f0, f1, f2, f3], hty =>
      simp only [List.map_cons, List.map_nil, List.cons.injEq, Prod.mk.injEq, and_true] at hty
      obtain ⟨⟨t0, o0, s0⟩, ⟨t1, o1, s1⟩, ⟨t2, o2, s2⟩, t3, o3, s3⟩ := hty
      match cs, hl with
      | [c0, c1, c2, c3, c4, c5, c6, c7, c8, c9], _ =>
        match xs, hlen with
        | [y0, y1, y2, y3], _ =>
          have g0 := hf 0 f0 rfl
          have g1 := hf 1 f1 rfl
          have g2 := hf 2 f2 rfl
          have g3 := hf 3 f3 rfl
          rw [o0, s0, t0] at g0
          rw [o1, s1, t1] at g1
          rw [o2, s2, t2] at g2
          rw [o3, s3, t3] at g3
          have hx' : x.1 = .agg [y0.1, y1.1, y2.1, y3.1] := by rw [hx]; rfl
          have hb : Rows.uptoBulk x.1 = Rows.uptoBulk y0.1 + (Rows.uptoBulk y1.1 + (Rows.uptoBulk y2.1 + (Rows.uptoBulk y3.1 + 0))) + 1 := by rw [hx']; rfl
          have hW : x.1.weights Tryz.prog 29 = y0.1.weights Tryz.prog 5 ++ (y1.1.weights Tryz.prog 22 ++ (y2.1.weights Tryz.prog 23 ++ (y3.1.weights Tryz.prog 27 ++ []))) := by
            rw [hx']
            simp only [DataW.weights, hfs, htys, DataW.weightsEach]
          obtain ⟨k, e0, _, hwd⟩ := DataW.trod_int Tryz.underlying5 g0
          obtain ⟨A1, n1, d1, l1, e1, hr1, hk1, hu1, hq1⟩ := open_bytes g1
          have hq1 := hq1 reachBytes (fun y hy => hw y (by rw [hW]; simp [hy]))
          obtain ⟨A2, n2, d2, ks, xs2, e2, hr2, hk2, hq2, hkl, hks, hke, hnb, hfb⟩ := open_kids g2 (fun y hy => hw y (by rw [hW]; simp [hy])) (fun m hm => ih m (by omega))
          obtain ⟨r, A3, n3, d3, A4, n4, d4, e3, ho, hr3, hk3, hr4, hk4, hu3⟩ := open_rangeT g3 (fun y hy => hw y (by rw [hW]; simp [hy]))
          simp at e0 e1 e2 e3
          obtain ⟨q1, q2, q3, q4, q5, q6, q7⟩ := e3
          have hb' := bounds_u8 hwd
          obtain ⟨kn, rfl⟩ : ∃ kn : Nat, k = (kn : Int) := ⟨k.toNat, by omega⟩
          subst e0 e1 e2 q1 q2 q3 q4 q5 q6 q7
          have hre : reachBytes ≤ 140737488355328 := by unfold reachBytes; omega
          have z1 : l1.length = n1 := by simpa [Lib.byteCells_length] using hr1.1
          have z3 : r.lo.at_.length = n3 := by simpa [Lib.byteCells_length] using hr3.1
          have z4 : r.hi.at_.length = n4 := by simpa [Lib.byteCells_length] using hr4.1
          have hv := value_le kn l1 r ks (by omega) (by omega) (by omega)
          exact ⟨.mk kn l1 r ks, .mk ⟨by omega, ho⟩ hr1 ⟨hk1, by omega⟩ hr3 ⟨hk3.1, by omega⟩ hr4 ⟨hk4.1, by omega⟩ hr2 ⟨hk2, by omega⟩ hkl hks, by omega, by omega⟩
theorem open_tags {fuel : Nat} {cs : List Value} {y4 : DataW H × List MemPlace} (g4 : DataW.trod enc Tryz.prog w 0 (fun _ => true) held fuel 23 cs = some y4)
    (w4 : ∀ y ∈ y4.1.weights Tryz.prog 23, y ≤ reachBytes) :
    ∃ A n c l, cs = [.slice A n c] ∧ TIn w (fun _ => True) (.mk 3 [] zeroR l) [.int .u8 3, .slice none 0 0, .slice A n c, .int .u8 0, .bool false, .bool false, .slice none 0 0, .bool false, .bool false, .slice none 0 0] ∧
      ∀ t ∈ l, nodes (valueT t) ≤ 10 * Rows.uptoBulk y4.1 ∧ (form (valueT t)).length ≤ 210 * Rows.uptoBulk y4.1 := by
  obtain ⟨A, n, c, ks, xs, hcs, hr, hk, hq, hkl, hks, hke, _, _⟩ := open_kids g4 w4 (fun m _ => open_tag m)
  have hre : reachBytes ≤ 140737488355328 := by unfold reachBytes; omega
  exact ⟨A, n, c, ks, hcs, .mk (r := zeroR) ⟨by omega, by decide⟩ RIn.none_ ⟨Nat.le_refl _, by omega⟩ RIn.none_ ⟨Nat.le_refl _, by omega⟩ RIn.none_ ⟨Nat.le_refl _, by omega⟩ hr ⟨hk, by omega⟩ hkl hks, hke⟩
end
end Go.Proofs.YtinlonpcakkfhaaGreatDoor
end
