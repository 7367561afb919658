/-
  Several texts in one: Words, Sx, SxIn, Str, Shelf, Hold, Held, NumMath, Dec, Nodes, Text, Clone0, Deep, RefMay, OrdM, SxA, TagM, TagIn, TgRef1, NumF, NumDiv, NumM, DatM, OrdC, NumRef, NumGet, NumCmp, DatRef, DatGet, DatGet2, OrdRef1. Conditions: those that each theorem states.
-/
import Derived.Below
import Derived.Laws.OwnMore
import Derived.Deep.AppendLies
import Derived.Deep.Draws
import Derived.Maps.AppendAt
import Derived.RegionTactic
import Derived.OwnWalk
import Derived.Lib.UnsafeStr
import Derived.Lib.ItoaNum
import Derived.Lib.Builder
import Derived.Test.YtinlonpcakkfhaaGreatDoorRows
import Derived.Lib.SlBytesConst
import Derived.Lib.ConvBytes
import Derived.Laws.IdiomStrings
import Derived.WalkKit
import Derived.WalkSmall
import Derived.BigQuiet
import Derived.Deep.QuietTactic
import Derived.IntWalk
import Derived.Laws.BitsAllLaws
import Derived.Laws.CopyOwn
import Derived.Lib.Hide
import Derived.Lib.BufferWrite
import Derived.Shelf.Strconv.Itoa0
import Derived.Shelf.Strconv.Itoa1
import Derived.Shelf.LaysM
import Derived.Shelf.Strconv.Itoa2
import Derived.Shelf.Strconv.Itoa3
import Derived.Ground.SlbCloneProg
import Derived.Shelf.Bytes.SlClone
import Derived.Test.YtinlonpcakkfhaaGreatDoorProg
import Derived.Lib.SmallJoins
import Derived.ArgAppend
import Derived.Lib.LazyBuf
import Derived.Deep.Upon
import Derived.Shelf.SlSortFuncK.RowK2
import Derived.Deep.RegionWith
import Derived.Lib.MinMax
import Derived.Laws.FloatArith
import GoSem.Op.String
import Derived.Laws.NewFold
import Derived.Deep.DeepCutAuto
import Derived.Deep.CutBlock
import Derived.Deep.RegionHeld3
set_option linter.unusedVariables false
set_option linter.unusedSimpArgs false
namespace Go.Proofs.YtinlonpcakkfhaaGreatDoor
theorem zA {α : Type} (l : List α) (i : Nat) (a : α) : l.toArray.setIfInBounds i a = (l.set i a).toArray := List.setIfInBounds_toArray l i a
theorem zB {α : Type} (a b : α) (l : List α) : (a :: l).set 0 b = b :: l := List.set_cons_zero
theorem zC {α : Type} (a b : α) (l : List α) (n : Nat) : (a :: l).set (n + 1) b = a :: l.set n b := List.set_cons_succ
theorem zD {α : Type} (l : List α) (i : Nat) : l.toArray[i]? = l[i]? := List.getElem?_toArray
theorem zE {α : Type} (a : α) (l : List α) (i : Nat) : (a :: l)[i + 1]? = l[i]? := List.getElem?_cons_succ
theorem zF {α : Type} (a : α) (l : List α) : (a :: l)[0]? = some a := List.getElem?_cons_zero
end Go.Proofs.YtinlonpcakkfhaaGreatDoor
open Go.Lib (hid)
open Go.Proofs.YtinlonpcakkfhaaGreatDoor (zA zB zC zD zE zF)

section
namespace Go.Proofs.YtinlonpcakkfhaaGreatDoor
open Go Go.Proofs Go.RowKit
theorem block_of_add (a : Addr) (n : Nat) : (a.add n).block = a.block := by unfold Addr.add; split <;> rfl
theorem add_of_add (a : Addr) (i j : Nat) : (a.add i).add j = a.add (i + j) := by
  unfold Addr.add
  by_cases hi : i = 0 <;> by_cases hj : j = 0 <;> simp [hi, hj, Nat.add_assoc]
def Reads (w : World) (B size : Nat) (A : Option Addr) (n : Nat) (xs : List Value) : Prop :=
  xs.length = n * size ∧ (0 < n → ∃ ad, A = some ad ∧ ad.block < B ∧ ∀ j u, xs[j]? = some u → w.cell? (ad.add j) = some u)
section
variable {w w' : World} {B B' size n : Nat} {A : Option Addr} {xs : List Value}
theorem Reads.none_ : Reads w B size A 0 [] := ⟨by simp, fun h => absurd h (by omega)⟩
theorem Reads.at_ {k : Nat} (h : Reads w B 1 A n xs) (hk : k < n) : ∃ ad u, A = some ad ∧ ad.block < B ∧ xs[k]? = some u ∧ w.cell? (ad.add k) = some u := by
  obtain ⟨ad, e, hb, hc⟩ := h.2 (by omega)
  have hl : k < xs.length := by have := h.1; omega
  exact ⟨ad, xs[k], e, hb, List.getElem?_eq_getElem hl, hc k _ (List.getElem?_eq_getElem hl)⟩
theorem Reads.keep (h : Reads w B size A n xs) (hk : ∀ p : Addr, p.block < B → w'.cell? p = w.cell? p) : Reads w' B size A n xs :=
  ⟨h.1, fun hn => by
    obtain ⟨ad, e, hb, hc⟩ := h.2 hn
    exact ⟨ad, e, hb, fun j u hu => (hk _ (by rw [block_of_add]; exact hb)).trans (hc j u hu)⟩⟩
theorem Reads.more (h : Reads w B size A n xs) (hB : B ≤ B') : Reads w B' size A n xs :=
  ⟨h.1, fun hn => by
    obtain ⟨ad, e, hb, hc⟩ := h.2 hn
    exact ⟨ad, e, by omega, hc⟩⟩
theorem Reads.below (h : Reads w B size A n xs) (hb : Below B w w') : Reads w' B size A n xs := h.keep fun _ hp => hb.cell hp
theorem Reads.drew (h : Reads w B size A n xs) : Reads w.drew B size A n xs := h
theorem Reads.drewN (h : Reads w B size A n xs) (k : Nat) : Reads (w.drewN k) B size A n xs := h
theorem Reads.alloc (h : Reads w B size A n xs) (hB : B ≤ w.heap.size) (o : Obj) : Reads (w.alloc o) B size A n xs := h.keep fun p hp => World.cell?_alloc_lt w o p (by omega)
theorem Reads.setCell (h : Reads w B size A n xs) {p : Addr} (hB : B ≤ p.block) (u : Value) : Reads (w.setCell p u) B size A n xs :=
  h.keep fun q hq => World.cell?_setCell_other w p q u (fun e => by subst e; omega)
theorem Reads.grown (h : Reads w B size A n xs) {row : Option Nat} (hg : w.grownBy w' row) (hB : B ≤ w.heap.size) (hr : ∀ g, row = some g → B ≤ g) : Reads w' B size A n xs :=
  h.keep fun p hp => World.cell?_of_block (hg.block p.block (by omega) (fun e => by have := hr _ e.symm; omega))
theorem Reads.cut (h : Reads w B size A n xs) {k cap : Nat} (hk : k ≤ n) (hc : n ≤ cap) :
    Reads w B size (if cap = k then A else A.map (·.add (k * size))) (n - k) (xs.drop (k * size)) := by
  refine ⟨by rw [List.length_drop, h.1, Nat.sub_mul], fun hn => ?_⟩
  obtain ⟨ad, rfl, hb, hcell⟩ := h.2 (by omega)
  rw [if_neg (by omega)]
  refine ⟨ad.add (k * size), rfl, by rw [block_of_add]; exact hb, fun j u hu => ?_⟩
  rw [add_of_add]
  exact hcell _ u (by rw [← hu, List.getElem?_drop])
theorem Reads.of_own {base : Nat} {e : TypeId} {c : Nat} (h : w.ownsRow base e size (.slice A n c) n xs) : Reads w w.heap.size size A n xs := by
  refine ⟨h.1, fun hn => ?_⟩
  obtain ⟨g, cap, hv, _, hlt⟩ := h.form hn
  have hA : A = some ⟨g, 0, none⟩ := by injection hv
  subst hA
  exact ⟨_, rfl, hlt, h.cells (g := g) rfl⟩
end
section
variable {P : Program} (w : World)
theorem run_append_of_nil (base : Nat) (t ty e : TypeId) (i : TypeInfo) (size : Nat) (ht : P.underlying t = some (.slice e)) (hi : P.info? e = some i)
    (v : Value) (n : Nat) (xs : List Value) (hown : w.ownsRow base e size v n xs) (c : Nat) : (Builtin.append_ #[t, t] ty #[v, .slice none 0 c]).run P w = .ok v w := by
  rcases hown.2 with ⟨rfl, rfl⟩ | ⟨g, cap, cur, rfl, _, _, hnc, _⟩
  · simp [Builtin.append_, run_underlying ht, sizeOf, typeInfo, hi, Builtin.lenOf, Builtin.firstCells]
  · simp [Builtin.append_, run_underlying ht, sizeOf, typeInfo, hi, Builtin.lenOf, Builtin.firstCells, hnc, storeCells]
theorem run_append_any (base : Nat) (t ty e : TypeId) (i : TypeInfo) (z : Value) (size bytes : Nat) (ht : P.underlying t = some (.slice e)) (hi : P.info? e = some i) (hz : i.zero = some z)
    (hsize : i.size = size) (hby : i.bytes = bytes) (hzs : z.cells.size = size) (hsz : 0 < size)
    (v : Value) (n : Nat) (xs : List Value) (hown : w.ownsRow base e size v n xs)
    (B : Nat) (A : Option Addr) (m c : Nat) (news : List Value) (hr : Reads w B size A m news) (h1 : ∀ u ∈ news, u.oneCell' = true)
    (h63 : n + m ≤ maxLen) (hbytes : (n + m) * bytes ≤ 140737488355328) (hbase : base ≤ w.heap.size) :
    ∃ v' w', (Builtin.append_ #[t, t] ty #[v, .slice A m c]).run P w = .ok v' w' ∧ w'.ownsRow base e size v' (n + m) (xs ++ news) ∧ w.grownBy w' v.ownBlock ∧
      (v'.ownBlock = v.ownBlock ∨ v'.ownBlock = some w.heap.size) := by
  rcases A with _ | ad
  · have hm : m = 0 := by
      rcases Nat.eq_zero_or_pos m with h0 | h0
      · exact h0
      · obtain ⟨ad, h, _⟩ := hr.2 h0
        cases h
    subst hm
    have hn : news = [] := List.eq_nil_of_length_eq_zero (by simpa using hr.1)
    subst hn
    exact ⟨v, w, run_append_of_nil w base t ty e i size ht hi v n xs hown c, by simpa using hown, World.grownBy.refl w _, .inl rfl⟩
  · have hcells : ∀ j u, news[j]? = some u → w.cell? (ad.add j) = some u := by
      intro j u hu
      rcases Nat.eq_zero_or_pos m with h0 | h0
      · subst h0
        have hn : news = [] := List.eq_nil_of_length_eq_zero (by simpa using hr.1)
        subst hn
        simp at hu
      · obtain ⟨ad', h, _, hc⟩ := hr.2 h0
        injection h with h
        subst h
        exact hc j u hu
    obtain ⟨v', w', hrun, h2, h3, _, h5⟩ := run_append_own_at (P := P) w base t ty e i z size bytes ht hi hz hsize hby hzs hsz v n xs hown ad m c news hr.1 hcells h1 h63 hbytes hbase
    exact ⟨v', w', hrun, h2, h3, h5⟩
theorem wp_append_any {o : Oper} {a : Act} {K : Act → World → Prop} {Q : Exit → Act → World → Prop} (s x : Operand) (t : TypeId)
    (ho : o.op = .call { callee := .builtin .append, args := #[s, x], argTypes := #[t, t] })
    (base : Nat) (e : TypeId) (i : TypeInfo) (z : Value) (size bytes : Nat) (ht : P.underlying t = some (.slice e)) (hi : P.info? e = some i) (hz : i.zero = some z)
    (hsize : i.size = size) (hby : i.bytes = bytes) (hzs : z.cells.size = size) (hsz : 0 < size)
    (v : Value) (n : Nat) (xs : List Value) (hs : a.eval s = v) (hown : w.ownsRow base e size v n xs)
    (B : Nat) (A : Option Addr) (m c : Nat) (news : List Value) (hx : a.eval x = .slice A m c) (hr : Reads w B size A m news) (h1 : ∀ u ∈ news, u.oneCell' = true)
    (h63 : n + m ≤ maxLen) (hbytes : (n + m) * bytes ≤ 140737488355328) (hbase : base ≤ w.heap.size)
    (h : ∀ v' w', w'.ownsRow base e size v' (n + m) (xs ++ news) → w.grownBy w' v.ownBlock → (v'.ownBlock = v.ownBlock ∨ v'.ownBlock = some w.heap.size) → K (a.put o.dst v') w') : o.wp P a w K Q := by
  obtain ⟨v', w', hrun, h2, h3, h4⟩ := run_append_any (P := P) w base t o.type e i z size bytes ht hi hz hsize hby hzs hsz v n xs hown B A m c news hr h1 h63 hbytes hbase
  unfold Oper.wp execOp
  simp only [ho, resolve, invoke, builtin, Sem.run_bind, Sem.run_pure, Result.andThen_ok, List.map_toArray, List.map_cons, List.map_nil, hs, hx, hrun]
  exact h v' w' h2 h3 h4
theorem wpList_append_any {ops : Array Oper} {rest : List Oper} {o : Oper} {a : Act} {Q : Exit → Act → World → Prop} (hgd : o.guard = none) (s x : Operand) (t : TypeId)
    (ho : o.op = .call { callee := .builtin .append, args := #[s, x], argTypes := #[t, t] })
    (base : Nat) (e : TypeId) (i : TypeInfo) (z : Value) (size bytes : Nat) (ht : P.underlying t = some (.slice e)) (hi : P.info? e = some i) (hz : i.zero = some z)
    (hsize : i.size = size) (hby : i.bytes = bytes) (hzs : z.cells.size = size) (hsz : 0 < size)
    (v : Value) (n : Nat) (xs : List Value) (hs : a.eval s = v) (hown : w.ownsRow base e size v n xs)
    (B : Nat) (A : Option Addr) (m c : Nat) (news : List Value) (hx : a.eval x = .slice A m c) (hr : Reads w B size A m news) (h1 : ∀ u ∈ news, u.oneCell' = true)
    (h63 : n + m ≤ maxLen) (hbytes : (n + m) * bytes ≤ 140737488355328) (hbase : base ≤ w.heap.size)
    (h : ∀ v' w', w'.ownsRow base e size v' (n + m) (xs ++ news) → w.grownBy w' v.ownBlock → (v'.ownBlock = v.ownBlock ∨ v'.ownBlock = some w.heap.size) → wpList P ops Q rest (a.put o.dst v') w') : wpList P ops Q (o :: rest) a w :=
  wpList_plain hgd fun _ hK => wp_append_any w s x t ho base e i z size bytes ht hi hz hsize hby hzs hsz v n xs hs hown B A m c news hx hr h1 h63 hbytes hbase fun v' w' h2 h3 h4 => hK _ _ (h v' w' h2 h3 h4)
theorem step_append_any {ops : Array Oper} {o : Oper} {a : Act} {K : Act → World → Prop} {Q : Exit → Act → World → Prop} {E : Prop} (hgd : o.guard = none) (s x : Operand) (t : TypeId)
    (ho : o.op = .call { callee := .builtin .append, args := #[s, x], argTypes := #[t, t] })
    (base : Nat) (e : TypeId) (i : TypeInfo) (z : Value) (size bytes : Nat) (ht : P.underlying t = some (.slice e)) (hi : P.info? e = some i) (hz : i.zero = some z)
    (hsize : i.size = size) (hby : i.bytes = bytes) (hzs : z.cells.size = size) (hsz : 0 < size)
    (v : Value) (n : Nat) (xs : List Value) (hs : a.eval s = v) (hown : w.ownsRow base e size v n xs)
    (B : Nat) (A : Option Addr) (m c : Nat) (news : List Value) (hx : a.eval x = .slice A m c) (hr : Reads w B size A m news) (h1 : ∀ u ∈ news, u.oneCell' = true)
    (h63 : n + m ≤ maxLen) (hbytes : (n + m) * bytes ≤ 140737488355328) (hbase : base ≤ w.heap.size)
    (h : ∀ v' w', w'.ownsRow base e size v' (n + m) (xs ++ news) → w.grownBy w' v.ownBlock → (v'.ownBlock = v.ownBlock ∨ v'.ownBlock = some w.heap.size) → K (a.put o.dst v') w') :
    if Region.wanted o (yielded ops a.tmps) = true then Oper.wp P o a w K Q else E := by
  have hw : Region.wanted o (yielded ops a.tmps) = true := by simp [Region.wanted, hgd]
  rw [if_pos hw]
  exact wp_append_any w s x t ho base e i z size bytes ht hi hz hsize hby hzs hsz v n xs hs hown B A m c news hx hr h1 h63 hbytes hbase h
end
end Go.Proofs.YtinlonpcakkfhaaGreatDoor
end
section
namespace Sx
open Go
inductive SX where
  | mk (l h : Bool) (hi da : List UInt8) (ks : List SX)
theorem SX.ind {P : SX → Prop} (H : ∀ l h hi da ks, (∀ k ∈ ks, P k) → P (.mk l h hi da ks)) (t : SX) : P t :=
  SX.rec (motive_1 := P) (motive_2 := fun ks => ∀ k ∈ ks, P k) (fun l h hi da ks ih => H l h hi da ks ih) (fun _ h => by cases h)
    (fun _ _ h1 h2 k hk => by
    rcases List.mem_cons.1 hk with h | hk
    · rw [h]; exact h1
    · exact h2 k hk) t
def text (b : List UInt8) : List UInt8 := Lib.decDigits b.length ++ 58 :: b
mutual
def nodes : SX → Nat
  | .mk _ _ _ _ ks => 1 + nodesL ks
def nodesL : List SX → Nat
  | [] => 0
  | k :: r => nodes k + nodesL r
end
mutual
def deep : SX → Nat
  | .mk l _ _ _ ks => if l then deepL ks + 1 else 0
def deepL : List SX → Nat
  | [] => 0
  | k :: r => max (deep k) (deepL r)
end
def well (l h : Bool) (hi da : List UInt8) (ks : List SX) : Bool :=
  if l then !h && hi.isEmpty && da.isEmpty else ks.isEmpty && (h || hi.isEmpty)
mutual
def clean : SX → Bool
  | .mk l h hi da ks => well l h hi da ks && cleanL ks
def cleanL : List SX → Bool
  | [] => true
  | k :: r => clean k && cleanL r
end
mutual
def form : SX → List UInt8
  | .mk l h hi da ks => if l then 40 :: (formL ks ++ [41]) else (if h then 91 :: (text hi ++ [93]) else []) ++ text da
def formL : List SX → List UInt8
  | [] => []
  | k :: r => form k ++ formL r
end
mutual
def same : SX → SX → Bool
  | .mk l h hi da ks, .mk l' h' hi' da' ks' => l == l' && h == h' && hi == hi' && da == da' && sameL ks ks'
def sameL : List SX → List SX → Bool
  | [], [] => true
  | k :: r, k' :: r' => same k k' && sameL r r'
  | _, _ => false
end
def may (t : SX) : Bool := clean t && decide (nodes t ≤ 512) && decide (deep t ≤ 16) && decide ((form t).length ≤ 4096)
theorem nodesL_snoc (l : List SX) (k : SX) : nodesL (l ++ [k]) = nodesL l + nodes k := by
  induction l with
  | nil => simp [nodesL]
  | cons a r ih => simp [nodesL, ih]; omega
theorem deepL_snoc (l : List SX) (k : SX) : deepL (l ++ [k]) = max (deepL l) (deep k) := by
  induction l with
  | nil => simp [deepL]
  | cons a r ih => simp [deepL, ih, Nat.max_assoc]
theorem cleanL_snoc (l : List SX) (k : SX) : cleanL (l ++ [k]) = (cleanL l && clean k) := by
  induction l with
  | nil => simp [cleanL]
  | cons a r ih => simp [cleanL, ih, Bool.and_assoc]
theorem formL_snoc (l : List SX) (k : SX) : formL (l ++ [k]) = formL l ++ form k := by
  induction l with
  | nil => simp [formL]
  | cons a r ih => simp [formL, ih]
theorem take_snoc {α : Type} (l : List α) (k : Nat) (x : α) (h : l[k]? = some x) : l.take (k + 1) = l.take k ++ [x] := by
  rw [List.take_add_one, h]; rfl
theorem nodesL_take (l : List SX) (k : Nat) (x : SX) (h : l[k]? = some x) : nodesL (l.take (k + 1)) = nodesL (l.take k) + nodes x := by rw [take_snoc l k x h, nodesL_snoc]
theorem formL_append (a b : List SX) : formL (a ++ b) = formL a ++ formL b := by
  induction a with
  | nil => simp [formL]
  | cons x r ih => simp [formL, ih]
theorem nodesL_append (a b : List SX) : nodesL (a ++ b) = nodesL a + nodesL b := by
  induction a with
  | nil => simp [nodesL]
  | cons x r ih => simp [nodesL, ih]; omega
theorem cleanL_append (a b : List SX) : cleanL (a ++ b) = (cleanL a && cleanL b) := by
  induction a with
  | nil => simp [cleanL]
  | cons x r ih => simp [cleanL, ih, Bool.and_assoc]
theorem deepL_append (a b : List SX) : deepL (a ++ b) = max (deepL a) (deepL b) := by
  induction a with
  | nil => simp [deepL]
  | cons x r ih => simp [deepL, ih, Nat.max_assoc]
mutual
theorem same_iff : ∀ a b : SX, same a b = true ↔ a = b
  | .mk l h hi da ks, .mk l' h' hi' da' ks' => by
    rw [same]
    simp only [Bool.and_eq_true, beq_iff_eq, sameL_iff ks ks']
    constructor
    · rintro ⟨⟨⟨⟨rfl, rfl⟩, rfl⟩, rfl⟩, rfl⟩; rfl
    · intro e; cases e; simp
theorem sameL_iff : ∀ a b : List SX, sameL a b = true ↔ a = b
  | [], [] => by simp [sameL]
  | [], _ :: _ => by simp [sameL]
  | _ :: _, [] => by simp [sameL]
  | k :: r, k' :: r' => by
    rw [sameL]
    simp only [Bool.and_eq_true, same_iff k k', sameL_iff r r']
    constructor
    · rintro ⟨rfl, rfl⟩; rfl
    · intro e; cases e; simp
end
theorem same_refl (a : SX) : same a a = true := (same_iff a a).2 rfl
def own (l h : Bool) (hi da : List UInt8) : Nat := if l then 2 else (if h then 2 + (text hi).length else 0) + (text da).length
theorem form_own (l h : Bool) (hi da : List UInt8) (ks : List SX) (hw : well l h hi da ks = true) : (form (.mk l h hi da ks)).length = own l h hi da + (formL ks).length := by
  rw [form, own]
  cases l
  · have hk : ks = [] := by
      have : ks.isEmpty = true := by simp [well] at hw; simpa using hw.1
      simpa using this
    subst hk
    cases h
    · simp [formL]
    · simp [formL]; omega
  · simp; omega
theorem own_le_form (l h : Bool) (hi da : List UInt8) (ks : List SX) : own l h hi da ≤ (form (.mk l h hi da ks)).length := by
  rw [form, own]
  cases l <;> cases h <;> simp <;> omega
def fits (t : SX) (n b a : Nat) : Bool := clean t && decide (nodes t ≤ n) && decide ((form t).length ≤ b) && decide (a + deep t ≤ 16)
theorem may_fits (t : SX) : may t = fits t 512 4096 0 := by
  unfold may fits
  rw [Nat.zero_add]
  cases clean t <;> cases decide (nodes t ≤ 512) <;> cases decide (deep t ≤ 16) <;> cases decide ((form t).length ≤ 4096) <;> rfl
theorem fits_iff (t : SX) (n b a : Nat) : fits t n b a = true ↔ clean t = true ∧ nodes t ≤ n ∧ (form t).length ≤ b ∧ a + deep t ≤ 16 := by
  unfold fits
  simp only [Bool.and_eq_true, decide_eq_true_eq, and_assoc]
theorem fits_not {t : SX} {n b a : Nat} (h : ¬ (clean t = true ∧ nodes t ≤ n ∧ (form t).length ≤ b ∧ a + deep t ≤ 16)) : fits t n b a = false := by
  rw [Bool.eq_false_iff, Ne, fits_iff]; exact h
theorem mem_le {ks : List SX} {t : SX} (h : t ∈ ks) : (cleanL ks = true → clean t = true) ∧ nodes t ≤ nodesL ks ∧ (form t).length ≤ (formL ks).length ∧ deep t ≤ deepL ks := by
  induction ks with
  | nil => cases h
  | cons a r ih =>
    simp only [cleanL, nodesL, formL, deepL, Bool.and_eq_true, List.length_append]
    rcases List.mem_cons.1 h with rfl | h
    · exact ⟨fun h => h.1, by omega, by omega, by omega⟩
    · obtain ⟨h1, h2, h3, h4⟩ := ih h
      exact ⟨fun h => h1 h.2, by omega, by omega, by omega⟩
theorem fits_kid {l h : Bool} {hi da : List UInt8} {ks : List SX} {n b a k : Nat} {t : SX} (hw : well l h hi da ks = true) (hk : ks[k]? = some t)
    {n' b' : Nat} (hn : n' + 1 + nodesL (ks.take k) = n) (hb : b' + own l h hi da + (formL (ks.take k)).length = b) (hf : fits t n' b' (a + 1) = false) :
    fits (.mk l h hi da ks) n b a = false := by
  apply fits_not
  rintro ⟨h1, h2, h3, h4⟩
  rw [Bool.eq_false_iff, Ne, fits_iff] at hf
  apply hf
  have hm : t ∈ ks := List.mem_of_getElem? hk
  obtain ⟨m1, m2, m3, m4⟩ := mem_le hm
  have eN := nodesL_append (ks.take (k + 1)) (ks.drop (k + 1))
  have eF := formL_append (ks.take (k + 1)) (ks.drop (k + 1))
  rw [List.take_append_drop, take_snoc ks k t hk] at eN eF
  rw [nodesL_snoc] at eN
  rw [formL_snoc] at eF
  have eF := congrArg List.length eF
  simp only [List.length_append] at eF
  rw [form_own _ _ _ _ _ hw] at h3
  rw [nodes] at h2
  rw [clean, Bool.and_eq_true] at h1
  have hl : l = true := by
    cases l
    · have : ks.isEmpty = true := by simp [well] at hw; simpa using hw.1
      have hnil : ks = [] := by simpa using this
      subst hnil
      cases hm
    · rfl
  subst hl
  have e4 : deep (.mk true h hi da ks) = deepL ks + 1 := by rw [deep]; rfl
  exact ⟨m1 h1.2, by omega, by omega, by omega⟩
theorem fits_all {l h : Bool} {hi da : List UInt8} {ks : List SX} {n b a : Nat} (hw : well l h hi da ks = true)
    {n' b' : Nat} (hn : n' + 1 + nodesL ks = n) (hb : b' + own l h hi da + (formL ks).length = b) (hc : cleanL ks = true) (hd : l = true → a < 16) (hdd : ∀ t ∈ ks, a + 1 + deep t ≤ 16) (ha : a ≤ 16) :
    fits (.mk l h hi da ks) n b a = true := by
  rw [fits_iff, form_own _ _ _ _ _ hw, nodes, clean, hw, hc]
  refine ⟨rfl, by omega, by omega, ?_⟩
  rw [deep]
  split
  · rename_i hl
    have h0 := hd hl
    have : ∀ ks : List SX, (∀ t ∈ ks, a + 1 + deep t ≤ 16) → a + 1 + deepL ks ≤ 16 := by
      intro ks
      induction ks with
      | nil => intro _; rw [deepL]; omega
      | cons x r ih =>
        intro h
        have h1 := h x (by simp)
        have h2 := ih (fun t ht => h t (by simp [ht]))
        rw [deepL]; omega
    have := this ks hdd
    omega
  · omega
theorem fits_well {l h : Bool} {hi da : List UInt8} {ks : List SX} {n b a : Nat} (hw : well l h hi da ks = false) : fits (.mk l h hi da ks) n b a = false := by
  apply fits_not
  rintro ⟨h1, _⟩
  rw [clean, hw] at h1
  cases h1
theorem fits_room {l h : Bool} {hi da : List UInt8} {ks : List SX} {n b a : Nat} (hr : ¬ (1 ≤ n ∧ own l h hi da ≤ b)) : fits (.mk l h hi da ks) n b a = false := by
  apply fits_not
  rintro ⟨_, h2, h3, _⟩
  have := own_le_form l h hi da ks
  rw [nodes] at h2
  omega
theorem fits_deep {h : Bool} {hi da : List UInt8} {ks : List SX} {n b a : Nat} (hr : 16 ≤ a) : fits (.mk true h hi da ks) n b a = false := by
  apply fits_not
  rintro ⟨_, _, _, h4⟩
  have e4 : deep (.mk true h hi da ks) = deepL ks + 1 := by rw [deep]; rfl
  omega
end Sx
end
section
namespace Go.Proofs.YtinlonpcakkfhaaGreatDoor
open Go Go.Proofs Go.RowKit Sx
def RIn (w : World) (S : Nat → Prop) (size : Nat) (A : Option Addr) (n : Nat) (xs : List Value) : Prop :=
  xs.length = n * size ∧ (0 < n → ∃ ad, A = some ad ∧ S ad.block ∧ ∀ j u, xs[j]? = some u → w.cell? (ad.add j) = some u)
inductive SIn (w : World) (S : Nat → Prop) : SX → List Value → Prop
  | mk {l h : Bool} {hi da : List UInt8} {ks : List SX} {A1 A2 A3 : Option Addr} {n1 c1 n2 c2 n3 c3 : Nat} {xs : List Value}
    (h1 : RIn w S 1 A1 n1 (Lib.byteCells hi)) (b1 : n1 ≤ c1 ∧ n1 ≤ 140737488355328) (h2 : RIn w S 1 A2 n2 (Lib.byteCells da)) (b2 : n2 ≤ c2 ∧ n2 ≤ 140737488355328)
    (h3 : RIn w S 5 A3 n3 xs) (b3 : n3 ≤ c3 ∧ n3 * 80 ≤ 140737488355328) (hk : ks.length = n3) (hs : ∀ i t, ks[i]? = some t → SIn w S t ((xs.drop (i * 5)).take 5)) :
    SIn w S (.mk l h hi da ks) [.bool l, .bool h, .slice A1 n1 c1, .slice A2 n2 c2, .slice A3 n3 c3]
section
variable {w w' : World} {S S' : Nat → Prop} {size n : Nat} {A : Option Addr} {xs : List Value}
theorem RIn.keep (h : RIn w S size A n xs) (hk : ∀ p : Addr, S p.block → w'.cell? p = w.cell? p) : RIn w' S size A n xs :=
  ⟨h.1, fun hn => by
    obtain ⟨ad, e, hb, hc⟩ := h.2 hn
    exact ⟨ad, e, hb, fun j u hu => (hk _ (by rw [block_of_add]; exact hb)).trans (hc j u hu)⟩⟩
theorem RIn.more (h : RIn w S size A n xs) (hS : ∀ b, S b → S' b) : RIn w S' size A n xs :=
  ⟨h.1, fun hn => by
    obtain ⟨ad, e, hb, hc⟩ := h.2 hn
    exact ⟨ad, e, hS _ hb, hc⟩⟩
theorem RIn.size_ (h : RIn w S size A n xs) (hs : 0 < size) : RIn w (fun b => S b ∧ b < w.heap.size) size A n xs :=
  ⟨h.1, fun hn => by
    obtain ⟨ad, e, hb, hc⟩ := h.2 hn
    have hl : 0 < xs.length := by rw [h.1]; exact Nat.mul_pos hn hs
    have h0 := hc 0 _ (List.getElem?_eq_getElem hl)
    have hlt := World.block_lt_of_cell? _ _ h0
    rw [block_of_add] at hlt
    exact ⟨ad, e, ⟨hb, hlt⟩, hc⟩⟩
theorem RIn.reads (h : RIn w S size A n xs) (hs : 0 < size) : Reads w w.heap.size size A n xs := (h.size_ hs).more fun _ h => h.2
theorem RIn.of_reads {B : Nat} (h : Reads w B size A n xs) : RIn w (· < B) size A n xs := h
theorem RIn.none_ : RIn w S size A 0 [] := ⟨by simp, fun h => absurd h (by omega)⟩
theorem RIn.at5 (h : RIn w S 5 A n xs) {k : Nat} (hk : k < n) : ∃ ad v0 v1 v2 v3 v4, A = some ad ∧ S ad.block ∧ (xs.drop (k * 5)).take 5 = [v0, v1, v2, v3, v4] ∧
    w.cell? (ad.add (k * 5)) = some v0 ∧ w.cell? ⟨(ad.add (k * 5)).block, (ad.add (k * 5)).off + 1, none⟩ = some v1 ∧ w.cell? ⟨(ad.add (k * 5)).block, (ad.add (k * 5)).off + 2, none⟩ = some v2 ∧ w.cell? ⟨(ad.add (k * 5)).block, (ad.add (k * 5)).off + 3, none⟩ = some v3 ∧ w.cell? ⟨(ad.add (k * 5)).block, (ad.add (k * 5)).off + 4, none⟩ = some v4 := by
  obtain ⟨ad, e, hb, hc⟩ := h.2 (by omega)
  have hl := h.1
  have g : ∀ j, j < 5 → k * 5 + j < xs.length := fun j hj => by rw [hl]; omega
  have g0 : k * 5 < xs.length := g 0 (by omega)
  have hc' : ∀ j u, j ≠ 0 → xs[k * 5 + j]? = some u → w.cell? ⟨(ad.add (k * 5)).block, (ad.add (k * 5)).off + j, none⟩ = some u := by
    intro j u hj hu
    have := hc (k * 5 + j) u hu
    rw [← add_of_add, show (ad.add (k * 5)).add j = ⟨(ad.add (k * 5)).block, (ad.add (k * 5)).off + j, none⟩ from if_neg hj] at this
    exact this
  refine ⟨ad, xs[k * 5], xs[k * 5 + 1]'(g 1 (by omega)), xs[k * 5 + 2]'(g 2 (by omega)), xs[k * 5 + 3]'(g 3 (by omega)), xs[k * 5 + 4]'(g 4 (by omega)), e, hb, ?_,
    hc _ _ (List.getElem?_eq_getElem _), hc' 1 _ (by omega) (List.getElem?_eq_getElem _), hc' 2 _ (by omega) (List.getElem?_eq_getElem _), hc' 3 _ (by omega) (List.getElem?_eq_getElem _), hc' 4 _ (by omega) (List.getElem?_eq_getElem _)⟩
  rw [List.drop_eq_getElem_cons g0, List.drop_eq_getElem_cons (g 1 (by omega)), List.drop_eq_getElem_cons (i := k * 5 + 1 + 1) (g 2 (by omega)), List.drop_eq_getElem_cons (i := k * 5 + 1 + 1 + 1) (g 3 (by omega)), List.drop_eq_getElem_cons (i := k * 5 + 1 + 1 + 1 + 1) (g 4 (by omega))]
  rfl
theorem SIn.keep {t : SX} {cs : List Value} (h : SIn w S t cs) (hk : ∀ p : Addr, S p.block → w'.cell? p = w.cell? p) : SIn w' S t cs := by
  induction h with
  | mk h1 b1 h2 b2 h3 b3 hl hs ih => exact .mk (h1.keep hk) b1 (h2.keep hk) b2 (h3.keep hk) b3 hl ih
theorem SIn.more {t : SX} {cs : List Value} (h : SIn w S t cs) (hS : ∀ b, S b → S' b) : SIn w S' t cs := by
  induction h with
  | mk h1 b1 h2 b2 h3 b3 hl hs ih => exact .mk (h1.more hS) b1 (h2.more hS) b2 (h3.more hS) b3 hl ih
theorem SIn.size_ {t : SX} {cs : List Value} (h : SIn w S t cs) : SIn w (fun b => S b ∧ b < w.heap.size) t cs := by
  induction h with
  | mk h1 b1 h2 b2 h3 b3 hl hs ih => exact .mk (h1.size_ (by omega)) b1 (h2.size_ (by omega)) b2 (h3.size_ (by omega)) b3 hl ih
theorem SIn.kept {t : SX} {cs : List Value} {B : Nat} (h : SIn w S t cs) (hb : Below B w w') (hS : ∀ b, S b → b < B) : SIn w' S t cs := h.keep fun p hp => hb.cell (hS _ hp)
theorem SIn.old {t : SX} {cs : List Value} (h : SIn w S t cs) (hb : Below w.heap.size w w') : SIn w' S t cs := (h.size_.keep fun p hp => hb.cell hp.2).more fun _ h => h.1
theorem SIn.grown {t : SX} {cs : List Value} (h : SIn w S t cs) {row : Option Nat} (hg : w.grownBy w' row) (hS : ∀ b, S b → some b ≠ row) : SIn w' S t cs :=
  (h.size_.keep fun p hp => World.cell?_of_block (hg.block p.block hp.2 (hS _ hp.1))).more fun _ h => h.1
theorem RIn.grown (h : RIn w S size A n xs) (hs : 0 < size) {row : Option Nat} (hg : w.grownBy w' row) (hS : ∀ b, S b → some b ≠ row) : RIn w' S size A n xs :=
  ((h.size_ hs).keep fun p hp => World.cell?_of_block (hg.block p.block hp.2 (hS _ hp.1))).more fun _ h => h.1
theorem RIn.old (h : RIn w S size A n xs) (hs : 0 < size) (hb : Below w.heap.size w w') : RIn w' S size A n xs := ((h.size_ hs).keep fun p hp => hb.cell hp.2).more fun _ h => h.1
theorem SIn.inv {l h l' h' : Bool} {hi da : List UInt8} {ks : List SX} {A1 A2 A3 : Option Addr} {n1 c1 n2 c2 n3 c3 : Nat}
    (hs : SIn w S (.mk l h hi da ks) [.bool l', .bool h', .slice A1 n1 c1, .slice A2 n2 c2, .slice A3 n3 c3]) :
    l' = l ∧ h' = h ∧ RIn w S 1 A1 n1 (Lib.byteCells hi) ∧ RIn w S 1 A2 n2 (Lib.byteCells da) ∧ hi.length = n1 ∧ da.length = n2 ∧ ks.length = n3 ∧ n1 ≤ c1 ∧ n1 ≤ 140737488355328 ∧ n2 ≤ c2 ∧ n2 ≤ 140737488355328 ∧ n3 ≤ c3 ∧ n3 * 80 ≤ 140737488355328 := by
  cases hs with
  | mk h1 b1 h2 b2 h3 b3 hk hs =>
    exact ⟨rfl, rfl, h1, h2, by simpa [Lib.byteCells_length] using h1.1, by simpa [Lib.byteCells_length] using h2.1, hk, b1.1, b1.2, b2.1, b2.2, b3.1, b3.2⟩
theorem SIn.kid {l h l' h' : Bool} {hi da : List UInt8} {ks : List SX} {V1 V2 : Value} {A3 : Option Addr} {n3 c3 : Nat}
    (hs : SIn w S (.mk l h hi da ks) [.bool l', .bool h', V1, V2, .slice A3 n3 c3]) {k : Nat} (hlt : k < n3) :
    ∃ ad v0 v1 v2 v3 v4 t, A3 = some ad ∧ S ad.block ∧ ks[k]? = some t ∧ t ∈ ks ∧ SIn w S t [v0, v1, v2, v3, v4] ∧
      w.cell? (ad.add (k * 5)) = some v0 ∧ w.cell? ⟨(ad.add (k * 5)).block, (ad.add (k * 5)).off + 1, none⟩ = some v1 ∧ w.cell? ⟨(ad.add (k * 5)).block, (ad.add (k * 5)).off + 2, none⟩ = some v2 ∧
      w.cell? ⟨(ad.add (k * 5)).block, (ad.add (k * 5)).off + 3, none⟩ = some v3 ∧ w.cell? ⟨(ad.add (k * 5)).block, (ad.add (k * 5)).off + 4, none⟩ = some v4 := by
  cases hs with
  | mk h1 b1 h2 b2 h3 b3 hk hs =>
    obtain ⟨ad, v0, v1, v2, v3, v4, rfl, hS, hcs, d0, d1, d2, d3, d4⟩ := h3.at5 hlt
    have hkl : k < ks.length := by omega
    have := hs k ks[k] (List.getElem?_eq_getElem hkl)
    rw [hcs] at this
    exact ⟨ad, v0, v1, v2, v3, v4, ks[k], rfl, hS, List.getElem?_eq_getElem hkl, List.getElem_mem hkl, this, d0, d1, d2, d3, d4⟩
theorem SIn.form_ {t : SX} {cs : List Value} (hs : SIn w S t cs) : ∃ l h hi da ks A1 n1 c1 A2 n2 c2 A3 n3 c3, t = .mk l h hi da ks ∧ cs = [.bool l, .bool h, .slice A1 n1 c1, .slice A2 n2 c2, .slice A3 n3 c3] := by
  cases hs with
  | mk h1 b1 h2 b2 h3 b3 hk hs => exact ⟨_, _, _, _, _, _, _, _, _, _, _, _, _, _, rfl, rfl⟩
theorem box5 {W wr : World} {v0 v1 v2 v3 v4 : Value} {T : TypeId} (hb : Below (W.heap.size + 1) (W.alloc (.cells #[v0, v1, v2, v3, v4] T)) wr) :
    wr.cell? ⟨W.heap.size, 0, none⟩ = some v0 ∧ wr.cell? ⟨W.heap.size, 1, none⟩ = some v1 ∧ wr.cell? ⟨W.heap.size, 2, none⟩ = some v2 ∧ wr.cell? ⟨W.heap.size, 3, none⟩ = some v3 ∧ wr.cell? ⟨W.heap.size, 4, none⟩ = some v4 := by
  have h := heap_alloc_new W (.cells #[v0, v1, v2, v3, v4] T)
  have c := fun i => hb.cell (p := ⟨W.heap.size, i, none⟩) (by show W.heap.size < W.heap.size + 1; omega)
  refine ⟨(c 0).trans ?_, (c 1).trans ?_, (c 2).trans ?_, (c 3).trans ?_, (c 4).trans ?_⟩ <;> (rw [Lib.cell_of_heap h]; rfl)
end
end Go.Proofs.YtinlonpcakkfhaaGreatDoor
end
section
namespace Go.Proofs.YtinlonpcakkfhaaGreatDoor
open Go Go.Proofs Go.RowKit
theorem infoByte : (Tryz.prog.info? 5).map (fun i => (i.zero, i.size, i.bytes)) = some (some (.int .u8 0), 1, 1) := by kernel_rfl
theorem owns_empty (w : World) : (w.alloc (.cells #[] 5)).ownsRow w.heap.size 5 1 (.slice (some ⟨w.heap.size, 0, none⟩) 0 0) 0 [] :=
  ⟨rfl, .inr ⟨_, 0, #[], rfl, Nat.le_refl _, heap_alloc_new w _, Nat.le_refl _, by unfold maxLen; omega, rfl, rfl⟩⟩
theorem run_back {B n c : Nat} {A : Option Addr} {l : List UInt8} {w : World} (hr : Reads w B 1 A n (Lib.byteCells l)) : (convert 22 9 (.slice A n c)).run Tryz.prog w = .ok (.string ⟨l.toArray⟩) w := by
  have hl : l.length = n := by have := hr.1; simpa [Lib.byteCells_length] using this
  subst hl
  rcases A with _ | ad
  · have h0 : l = [] := by
      rcases Nat.eq_zero_or_pos l.length with h | h
      · exact List.eq_nil_of_length_eq_zero h
      · obtain ⟨ad, h1, _⟩ := hr.2 h
        cases h1
    subst h0
    rw [run_convert_bytes_string w 22 9 5 none _ c Tryz.underlying22 Tryz.underlying5 Tryz.underlying9]
    simp [Conv.bytesToString]
    rfl
  · refine run_convert_bytes_back w 22 9 5 ad c l Tryz.underlying22 Tryz.underlying5 Tryz.underlying9 ?_
    intro j hj
    obtain ⟨ad', h1, _, h3⟩ := hr.2 (by omega)
    injection h1 with h1
    subst h1
    exact h3 j _ (by simp [Lib.byteCells, List.getElem?_eq_getElem hj])
theorem reads_one (w : World) (x : UInt8) (fr : Nat × Nat) : Reads (w.alloc (.cells #[.int .u8 x.toNat] 5 fr)) (w.heap.size + 1) 1 (some ⟨w.heap.size, 0, none⟩) 1 (Lib.byteCells [x]) := by
  refine ⟨rfl, fun _ => ⟨_, rfl, by simp, fun j u hj => ?_⟩⟩
  match j, hj with
  | 0, hj =>
    simp [Lib.byteCells] at hj
    subst hj
    show World.cell? _ ⟨w.heap.size, 0, none⟩ = _
    rw [Lib.cell_of_heap (heap_alloc_new w _)]; rfl
end Go.Proofs.YtinlonpcakkfhaaGreatDoor
end
section
namespace Go.Proofs
open Go.Shelf
def Tryz.laysM171_ren : Go.Shelf.Ren := ⟨fun | 171 => 131 | 243 => 145 | 246 => 155 | 283 => 160 | 284 => 161 | 285 => 162 | 286 => 163 | 129 => 169 | 317 => 168 | 318 => 170 | 319 => 171 | 320 => 172 | 337 => 175 | 338 => 176 | n => n, fun | 3 => 3 | 9 => 9 | 2 => 2 | 4 => 4 | 171 => 155 | 0 => 0 | 53 => 140 | 37 => 22 | 5 => 5 | 173 => 158 | 212 => 167 | 51 => 168 | 20 => 20 | 213 => 169 | 46 => 161 | 232 => 174 | 233 => 175 | n => n, fun | 17 => 5 | 18 => 6 | 19 => 7 | n => n⟩
theorem Tryz.laysM171 : Go.Proofs.LaysM.n171 Tryz.prog Tryz.laysM171_ren := {
  mixed := by kernel_rfl
  f129 := Tryz.func169.trans (congrArg some (by kernel_rfl))
  f171 := Tryz.func131.trans (congrArg some (by kernel_rfl))
  f243 := Tryz.func145.trans (congrArg some (by kernel_rfl))
  f246 := Tryz.func155.trans (congrArg some (by kernel_rfl))
  f283 := Tryz.func160.trans (congrArg some (by kernel_rfl))
  f284 := Tryz.func161.trans (congrArg some (by kernel_rfl))
  f285 := Tryz.func162.trans (congrArg some (by kernel_rfl))
  f286 := Tryz.func163.trans (congrArg some (by kernel_rfl))
  f317 := Tryz.func168.trans (congrArg some (by kernel_rfl))
  f318 := Tryz.func170.trans (congrArg some (by kernel_rfl))
  f319 := Tryz.func171.trans (congrArg some (by kernel_rfl))
  f320 := Tryz.func172.trans (congrArg some (by kernel_rfl))
  f337 := Tryz.func175.trans (congrArg some (by kernel_rfl))
  f338 := Tryz.func176.trans (congrArg some (by kernel_rfl))
  t0 := Tryz.underlying0
  a0 := Tryz.isAgg0
  z0 := Tryz.sizeOf0
  v0 := Tryz.zeroValue0
  t2 := Tryz.underlying2
  a2 := Tryz.isAgg2
  z2 := Tryz.sizeOf2
  v2 := Tryz.zeroValue2
  t3 := Tryz.underlying3
  a3 := Tryz.isAgg3
  z3 := Tryz.sizeOf3
  v3 := Tryz.zeroValue3
  t4 := Tryz.underlying4
  a4 := Tryz.isAgg4
  z4 := Tryz.sizeOf4
  v4 := Tryz.zeroValue4
  t5 := Tryz.underlying5
  a5 := Tryz.isAgg5
  z5 := Tryz.sizeOf5
  v5 := Tryz.zeroValue5
  t9 := Tryz.underlying9
  a9 := Tryz.isAgg9
  z9 := Tryz.sizeOf9
  v9 := Tryz.zeroValue9
  t20 := Tryz.underlying20
  a20 := Tryz.isAgg20
  z20 := Tryz.sizeOf20
  v20 := Tryz.zeroValue20
  t37 := Tryz.underlying22
  a37 := Tryz.isAgg22
  z37 := Tryz.sizeOf22
  v37 := Tryz.zeroValue22
  t46 := Tryz.underlying161
  a46 := Tryz.isAgg161
  z46 := Tryz.sizeOf161
  v46 := Tryz.zeroValue161
  t51 := Tryz.underlying168
  a51 := Tryz.isAgg168
  z51 := Tryz.sizeOf168
  v51 := Tryz.zeroValue168
  t53 := Tryz.underlying140
  a53 := Tryz.isAgg140
  z53 := Tryz.sizeOf140
  v53 := Tryz.zeroValue140
  t171 := Tryz.underlying155
  a171 := Tryz.isAgg155
  z171 := Tryz.sizeOf155
  v171 := Tryz.zeroValue155
  t173 := Tryz.underlying158
  a173 := Tryz.isAgg158
  z173 := Tryz.sizeOf158
  v173 := Tryz.zeroValue158
  t212 := Tryz.underlying167
  a212 := Tryz.isAgg167
  z212 := Tryz.sizeOf167
  v212 := Tryz.zeroValue167
  t213 := Tryz.underlying169
  a213 := Tryz.isAgg169
  z213 := Tryz.sizeOf169
  t232 := Tryz.underlying174
  a232 := Tryz.isAgg174
  z232 := Tryz.sizeOf174
  v232 := Tryz.zeroValue174
  t233 := Tryz.underlying175
  a233 := Tryz.isAgg175
  z233 := Tryz.sizeOf175
  v233 := Tryz.zeroValue175
  g17 := by kernel_rfl
  g18 := by kernel_rfl
  g19 := by kernel_rfl
  i0 := by kernel_rfl
  i2 := by kernel_rfl
  i3 := by kernel_rfl
  i4 := by kernel_rfl
  i5 := by kernel_rfl
  i9 := by kernel_rfl
  i20 := by kernel_rfl
  i37 := by kernel_rfl
  i46 := by kernel_rfl
  i51 := by kernel_rfl
  i53 := by kernel_rfl
  i171 := by kernel_rfl
  i173 := by kernel_rfl
  i212 := by kernel_rfl
  i232 := by kernel_rfl
  i233 := by kernel_rfl
  m17 := by kernel_rfl
  m18 := by kernel_rfl
  m19 := by kernel_rfl }
open Go.RowKit Go.Sort Go.Lib in
theorem Tryz.strconv_Itoa (n : Int) (h0 : -9223372036854775808 ≤ n) (h1 : n ≤ 9223372036854775807) (w : World) (htab : Lib.TabIs Tryz.prog w "internal/strconv.uint64pow10" .u64 Lib.pow10Tab) :
    Calls Tryz.prog 131 #[.int .i64 n] w fun e w' => e = .returned (.string ⟨(Lib.itoa n).toArray⟩) ∧ ∃ k os, w' = grow (w.drewN k) os := Any.strconv_Itoa Tryz.laysM171 n h0 h1 w htab
def Tryz.laysSlK4_ren : Go.Shelf.Ren := ⟨fun | 4 => 79 | n => n, fun | 22 => 22 | 4 => 4 | 5 => 5 | n => n, fun | n => n⟩
theorem Tryz.laysSlK4 : Go.Proofs.SlLaysK.n4 Tryz.prog Tryz.laysSlK4_ren := {
  mixed := by kernel_rfl
  f4 := Tryz.func79.trans (congrArg some (by kernel_rfl))
  t4 := Tryz.underlying4
  a4 := Tryz.isAgg4
  z4 := Tryz.sizeOf4
  v4 := Tryz.zeroValue4
  t22 := Tryz.underlying22
  a22 := Tryz.isAgg22
  z22 := Tryz.sizeOf22
  v22 := Tryz.zeroValue22
  t5 := Tryz.underlying5
  i5 := by kernel_rfl }
open Go.RowKit Go.Lib in
theorem Tryz.bytes_Clone_at (a : Addr) (n c : Nat) (xs : List Int) (w : World) (hx : xs.length = n) (hbig : n ≤ 140737488355328) (hc : ∀ i, i < n → w.cell? (a.add i) = some (.int .u8 (xs.getD i 0))) :
    Calls Tryz.prog 79 #[.slice (some a) n c] w fun e w' => ∃ v', e = .returned v' ∧ w'.ownsRow w.heap.size 5 1 v' n (xs.map (Value.int .u8)) ∧ v' ≠ .slice none 0 0 ∧ Below w.heap.size w w' := Any.bytes_Clone_at Tryz.laysSlK4 a n c xs w hx hbig hc
open Go.RowKit Go.Lib in
theorem Tryz.bytes_Clone_nil (n c : Nat) (w : World) :
    Calls Tryz.prog 79 #[.slice none n c] w fun e w' => e = .returned (.slice none 0 0) ∧ w' = w := Any.bytes_Clone_nil Tryz.laysSlK4 n c w
end Go.Proofs
end
section
namespace Go.Proofs.YtinlonpcakkfhaaGreatDoor
open Go Go.Proofs Go.RowKit
def HoldsBytes (g S : Nat) (L : List UInt8) (w : World) : Prop := ∃ cs : Array Value, cs.size = S ∧ L.length ≤ S ∧ w.heap[g]? = some (.cells cs 5 (S, S + 1)) ∧ ∀ j (h : j < L.length), cs[j]? = some (.int .u8 L[j].toNat)
theorem HoldsBytes.cell {g S : Nat} {L : List UInt8} {w : World} (h : HoldsBytes g S L w) {j : Nat} (hj : j < L.length) : w.cell? ⟨g, j, none⟩ = some (.int .u8 L[j].toNat) := by
  obtain ⟨cs, h1, h2, h3, h4⟩ := h
  rw [Lib.cell_of_heap h3]; exact h4 j hj
theorem HoldsBytes.frozen {g S : Nat} {L : List UInt8} {w : World} (h : HoldsBytes g S L w) {j : Nat} (hj : j < L.length) : w.frozen? ⟨g, j, none⟩ = false := by
  obtain ⟨cs, h1, h2, h3, h4⟩ := h
  simp [World.frozen?, h3]; omega
theorem HoldsBytes.set_ {g S : Nat} {L : List UInt8} {w : World} (h : HoldsBytes g S L w) {j : Nat} (hj : j < L.length) (x : UInt8) : HoldsBytes g S (L.set j x) (w.setCell ⟨g, j, none⟩ (.int .u8 x.toNat)) := by
  obtain ⟨cs, h1, h2, h3, h4⟩ := h
  refine ⟨cs.setIfInBounds j (.int .u8 x.toNat), by simpa using h1, by simpa using h2, Joins.block_setCell h3 _, ?_⟩
  intro i hi
  have hi' : i < L.length := by simpa using hi
  rw [Array.getElem?_setIfInBounds, List.getElem_set]
  by_cases e : j = i
  · subst e
    rw [if_pos rfl, if_pos rfl, if_pos (by omega)]
  · rw [if_neg e, if_neg e]
    exact h4 i hi'
theorem HoldsBytes.reads {g S : Nat} {L : List UInt8} {w : World} (h : HoldsBytes g S L w) : Reads w w.heap.size 1 (some ⟨g, 0, none⟩) L.length (Lib.byteCells L) := by
  obtain ⟨cs, h1, h2, h3, h4⟩ := h
  refine ⟨by rw [Lib.byteCells_length, Nat.mul_one], fun _ => ⟨_, rfl, ?_, ?_⟩⟩
  · rcases Nat.lt_or_ge g w.heap.size with h' | h'
    · exact h'
    · simp [Array.getElem?_eq_none h'] at h3
  · intro j u hu
    have hj : j < L.length := by
      have := (List.getElem?_eq_some_iff.1 hu).1
      simpa [Lib.byteCells_length] using this
    have hu' : u = .int .u8 L[j].toNat := by
      simp [Lib.byteCells, List.getElem?_map, List.getElem?_eq_getElem hj] at hu
      exact hu.symm
    subst hu'
    have e : (⟨g, 0, none⟩ : Addr).add j = ⟨g, j, none⟩ := by unfold Addr.add; split <;> simp_all
    rw [e, Lib.cell_of_heap h3]; exact h4 j hj
theorem HoldsBytes.new (w : World) (s : ByteArray) : HoldsBytes w.heap.size (Lib.bytesCells w 5 s).size s.data.toList (Lib.bytesWorld w 5 s) := by
  have hsz : s.data.toList.length ≤ (Lib.bytesCells w 5 s).size := by simp [Lib.bytesCells]
  refine ⟨_, rfl, hsz, Lib.bytesWorld_at_new w 5 s, ?_⟩
  intro j hj
  have hj' : j < s.size := by simpa using hj
  have := Lib.bytesWorld_cell w 5 s j hj'
  rw [Lib.cell_of_heap (Lib.bytesWorld_at_new w 5 s)] at this
  rw [this]
  simp [List.getD, List.getElem?_eq_getElem hj]
theorem bytesCells_cap (w : World) (s : ByteArray) : grownCap w s.size 0 5 ≤ (Lib.bytesCells w 5 s).size := by
  have h : s.data.size = s.size := rfl
  simp [Lib.bytesCells]; omega
theorem HoldsBytes.below {g S B : Nat} {L : List UInt8} {w w' : World} (h : HoldsBytes g S L w) (hb : Below B w w') (hg : g < B) : HoldsBytes g S L w' := by
  obtain ⟨cs, h1, h2, h3, h4⟩ := h
  exact ⟨cs, h1, h2, (hb.block g hg).trans h3, h4⟩
theorem HoldsBytes.lt {g S : Nat} {L : List UInt8} {w : World} (h : HoldsBytes g S L w) : g < w.heap.size := by
  obtain ⟨cs, h1, h2, h3, h4⟩ := h
  rcases Nat.lt_or_ge g w.heap.size with h' | h'
  · exact h'
  · simp [Array.getElem?_eq_none h'] at h3
theorem bytesWorld_below (w : World) (s : ByteArray) : Below w.heap.size w (Lib.bytesWorld w 5 s) :=
  ⟨by simp [Lib.bytesWorld, World.freeze, World.alloc, World.drew, -World.alloc_eq, -World.drew_eq], by simp [Lib.bytesWorld, World.freeze, World.alloc, World.drew, -World.alloc_eq, -World.drew_eq], by simp [Lib.bytesWorld, World.freeze, World.alloc, World.drew, -World.alloc_eq, -World.drew_eq], by rw [Lib.bytesWorld_size]; omega, fun k hk => Lib.bytesWorld_at_old w 5 s k hk⟩
theorem own_form {w : World} {base size n : Nat} {e : TypeId} {v : Value} {xs : List Value} (h : w.ownsRow base e size v n xs) : ∃ A c, v = .slice A n c := by
  rcases h.2 with ⟨h1, h2⟩ | ⟨g, cap, cur, hv, _⟩
  · exact ⟨none, 0, by rw [h1, h2]⟩
  · exact ⟨_, _, hv⟩
end Go.Proofs.YtinlonpcakkfhaaGreatDoor
end
section
namespace Go.Proofs.YtinlonpcakkfhaaGreatDoor
open Go Go.Proofs Go.RowKit
theorem HoldsBytes.snoc {g S : Nat} {L : List UInt8} {w : World} (h : HoldsBytes g S L w) (hS : L.length < S) (x : UInt8) : HoldsBytes g S (L ++ [x]) (w.setCell ⟨g, L.length, none⟩ (.int .u8 x.toNat)) := by
  obtain ⟨cs, h1, h2, h3, h4⟩ := h
  refine ⟨cs.setIfInBounds L.length (.int .u8 x.toNat), by simpa using h1, by simp; omega, Joins.block_setCell h3 _, ?_⟩
  intro i hi
  have hi' : i ≤ L.length := by simp at hi; omega
  rw [Array.getElem?_setIfInBounds]
  by_cases e : L.length = i
  · subst e
    rw [if_pos rfl, if_pos (by omega)]
    simp
  · rw [if_neg e, List.getElem_append_left (by omega)]
    exact h4 i (by omega)
theorem HoldsBytes.snocs {g S : Nat} : ∀ (M L : List UInt8) (w : World), HoldsBytes g S L w → L.length + M.length ≤ S → HoldsBytes g S (L ++ M) (w.setCells g L.length (Lib.byteCells M))
  | [], L, w, h, _ => by rw [List.append_nil]; exact h
  | x :: M, L, w, h, hS => by
    have h1 := h.snoc (by simp at hS; omega) x
    have h2 := HoldsBytes.snocs M (L ++ [x]) _ h1 (by simp at hS ⊢; omega)
    rw [List.append_assoc, List.length_append] at h2
    exact h2
def Held (B : Nat) (w0 w : World) (v : Value) (L : List UInt8) : Prop :=
  Below B w0 w ∧ B ≤ w.heap.size ∧ ((∃ g S cap, v = .slice (some ⟨g, 0, none⟩) L.length cap ∧ L.length ≤ cap ∧ cap ≤ S ∧ B ≤ g ∧ HoldsBytes g S L w) ∨ w.ownsRow B 5 1 v L.length (Lib.byteCells L))
theorem Held.reads {B : Nat} {w0 w : World} {v : Value} {L : List UInt8} (h : Held B w0 w v L) : ∃ A c, v = .slice A L.length c ∧ L.length ≤ c ∧ Reads w w.heap.size 1 A L.length (Lib.byteCells L) := by
  rcases h.2.2 with ⟨g, S, cap, rfl, hc, hS, hB, hh⟩ | hown
  · exact ⟨_, _, rfl, hc, hh.reads⟩
  · rcases hown.2 with ⟨h1, h2⟩ | ⟨g', cap', cur, hv, _, _, hc', _⟩
    · subst h1
      rw [h2] at hown ⊢
      exact ⟨none, 0, rfl, Nat.le_refl _, by have := Reads.of_own hown; exact this⟩
    · subst hv
      exact ⟨_, _, rfl, hc', Reads.of_own hown⟩
theorem Held.more {B : Nat} {w0 w w' : World} {v : Value} {L : List UInt8} (h : Held B w0 w v L) (hb : Below w.heap.size w w') : Held B w0 w' v L := by
  refine ⟨h.1.trans (hb.mono h.2.1), by have := hb.size; have := h.2.1; omega, ?_⟩
  rcases h.2.2 with ⟨g, S, cap, rfl, hc, hS, hB, hh⟩ | hown
  · exact .inl ⟨g, S, cap, rfl, hc, hS, hB, hh.below hb hh.lt⟩
  · right
    refine ⟨hown.1, ?_⟩
    rcases hown.2 with hn | ⟨g', cap', cur, hv, h1, h2, h3⟩
    · exact .inl hn
    · exact .inr ⟨g', cap', cur, hv, h1, (hb.block g' (by rcases Nat.lt_or_ge g' w.heap.size with h' | h'; exact h'; simp [Array.getElem?_eq_none h'] at h2)).trans h2, h3⟩
def Others (w w' : World) : Prop := ∀ (k : Nat) (cs : Array Value) (T : TypeId) (fr : Nat × Nat), w.heap[k]? = some (Obj.cells cs T fr) → T ≠ 5 → w'.heap[k]? = some (Obj.cells cs T fr)
theorem Others.refl (w : World) : Others w w := fun _ _ _ _ h _ => h
theorem Others.trans {a b c : World} (h : Others a b) (k : Others b c) : Others a c := fun i cs T fr g hT => k i cs T fr (h i cs T fr g hT) hT
theorem Others.grown {w w' : World} {v : Value} {B n : Nat} {xs : List Value} (hown : w.ownsRow B 5 1 v n xs) (hg : w.grownBy w' v.ownBlock) : Others w w' := by
  intro k cs T fr h hT
  have hk : k < w.heap.size := by
    rcases Nat.lt_or_ge k w.heap.size with h' | h'
    · exact h'
    · rw [Array.getElem?_eq_none h'] at h; cases h
  rw [hg.block k hk]
  · exact h
  · intro hkk
    rcases hown.2 with ⟨rfl, _⟩ | ⟨g', cap', cur, rfl, _, h2, _⟩
    · simp [Value.ownBlock] at hkk
    · have : k = g' := by simpa [Value.ownBlock] using hkk
      subst this
      rw [h2] at h
      injection h with h
      injection h with _ h
      exact hT h.symm
theorem run_append_held_nil {P : Program} {w : World} {t ty e : TypeId} {i : TypeInfo} (ht : P.underlying t = some (.slice e)) (hi : P.info? e = some i) (hi1 : i.size = 1) (g n cap c : Nat) (hc : n ≤ cap) :
    (Builtin.append_ #[t, t] ty #[.slice (some ⟨g, 0, none⟩) n cap, .slice none 0 c]).run P w = .ok (.slice (some ⟨g, 0, none⟩) n cap) w := by
  simp [Builtin.append_, run_underlying ht, sizeOf, typeInfo, hi, Builtin.lenOf, Builtin.firstCells, hc, storeCells]
theorem owns_more {w : World} {B B' : Nat} {v : Value} {n : Nat} {xs : List Value} (h : w.ownsRow B 5 1 v n xs) (hB : B' ≤ B) : w.ownsRow B' 5 1 v n xs :=
  ⟨h.1, h.2.elim Or.inl (fun ⟨g, cap, cur, hv, hg, r⟩ => Or.inr ⟨g, cap, cur, hv, Nat.le_trans hB hg, r⟩)⟩
set_option maxHeartbeats 2000000 in
set_option maxRecDepth 100000 in
theorem wpList_append_held (w : World) {ops : Array Oper} {rest : List Oper} {o : Oper} {a : Act} {Q : Exit → Act → World → Prop}
    (hg : o.guard = none) (s x : Operand) (hop : o.op = Op.call { callee := Callee.builtin Builtin.append, args := #[s, x], argTypes := #[22, 22] })
    (B : Nat) (w0 : World) (v : Value) (L : List UInt8) (hH : Held B w0 w v L) (hs : a.eval s = v)
    (B' : Nat) (A : Option Addr) (m c : Nat) (M : List UInt8) (hx : a.eval x = .slice A m c) (hr : Reads w B' 1 A m (Lib.byteCells M)) (hbd : L.length + m ≤ 140737488355328)
    (hK : ∀ v' w', Held B w0 w' v' (L ++ M) → Others w w' → wpList Tryz.prog ops Q rest (a.put o.dst v') w') :
    wpList Tryz.prog ops Q (o :: rest) a w := by
  obtain ⟨i0, hi, hz0, hz1, hz2⟩ := info_parts infoByte
  have hm : M.length = m := by have := hr.1; simpa [Lib.byteCells_length] using this
  have hone : ∀ u ∈ Lib.byteCells M, u.oneCell' = true := fun u hu => by
    simp [Lib.byteCells] at hu
    obtain ⟨b, _, rfl⟩ := hu
    rfl
  have e : Lib.byteCells L ++ Lib.byteCells M = Lib.byteCells (L ++ M) := by simp [Lib.byteCells]
  have hlen : (L ++ M).length = L.length + m := by simp [hm]
  obtain ⟨hbel, hBs, hv⟩ := hH
  rcases hv with ⟨g, S, cap, rfl, hcap, hS, hBg, hB⟩ | hown
  · rcases A with _ | ad
    · have h0 : m = 0 := by
        rcases Nat.eq_zero_or_pos m with h | h
        · exact h
        · obtain ⟨_, h, _⟩ := hr.2 h; cases h
      subst h0
      have hM : M = [] := List.eq_nil_of_length_eq_zero hm
      subst hM
      refine wpList_plain hg fun K hK' => ?_
      have hrun := run_append_held_nil (P := Tryz.prog) (w := w) (t := 22) (ty := o.type) Tryz.underlying22 hi hz1 g L.length cap c hcap
      unfold Oper.wp execOp
      simp only [hop, resolve, invoke, builtin, Sem.run_bind, Sem.run_pure, Result.andThen_ok, List.map_toArray, List.map_cons, List.map_nil, hs, hx, hrun]
      refine hK' _ _ (hK _ _ ⟨hbel, hBs, .inl ⟨g, S, cap, by simp, by simpa using hcap, hS, hBg, by simpa using hB⟩⟩ (Others.refl _))
    · have hnews : ∀ j u, (Lib.byteCells M)[j]? = some u → w.cell? (ad.add j) = some u := by
        intro j u hu
        have hj : j < M.length := by have := (List.getElem?_eq_some_iff.1 hu).1; simpa [Lib.byteCells_length] using this
        obtain ⟨ad', h1, _, h3⟩ := hr.2 (by omega)
        injection h1 with h1
        subst h1
        exact h3 j u hu
      refine wpList_append_arg w hg s x 22 hop 5 i0 (.int .u8 0) 1 1 Tryz.underlying22 hi hz0 hz1 hz2 rfl (by decide) g 0 L.length cap (Lib.byteCells L) hs (by simp [Lib.byteCells_length]) ?_
        ad m c (Lib.byteCells M) hx hr.1 hnews hone ?_ (by unfold maxLen; omega) (by omega) ?_ ?_
      · intro j u hj
        rw [Nat.zero_add]
        have hjl : j < L.length := by
          have := (List.getElem?_eq_some_iff.1 hj).1
          simpa [Lib.byteCells_length] using this
        simp [Lib.byteCells, List.getElem?_map, List.getElem?_eq_getElem hjl] at hj
        rw [hB.cell hjl, hj]
      · intro hroom j hj
        have hj : j < m := by rw [Lib.byteCells_length] at hj; omega
        obtain ⟨cs, h1, h2, h3, h4⟩ := hB
        refine ⟨?_, ?_⟩
        · rw [Lib.cell_of_heap h3]
          simp; omega
        · simp [World.frozen?, h3]; omega
      · intro hroom
        have hh := HoldsBytes.snocs M L w hB (by omega)
        have hlt := hB.lt
        rw [Nat.zero_add, Nat.mul_one]
        refine hK _ _ ⟨Go.below_setCells hBg _ _ _ hbel, by rw [Sort.size_setCells]; exact hBs, .inl ⟨g, S, cap, by rw [hlen], by rw [hlen]; exact hroom, hS, hBg, hh⟩⟩ (fun k cs T fr h hT => ?_)
        have hk : k < w.heap.size := by
          rcases Nat.lt_or_ge k w.heap.size with h' | h'
          · exact h'
          · rw [Array.getElem?_eq_none h'] at h; cases h
        rw [World.heap_setCells_other _ _ _ _ hk]
        · exact h
        · rintro rfl
          obtain ⟨cs', h1, h2, h3, h4⟩ := hB
          rw [h3] at h
          injection h with h
          injection h with _ h
          exact hT h.symm
      · intro hfull v' w' hown hgrow
        rw [e] at hown
        refine hK _ _ ⟨hbel.grown hgrow hBs (fun k hk => by cases hk), by have := hgrow.size; omega, .inr ?_⟩ (fun k cs T fr h hT => ?_)
        · rw [hlen]; exact owns_more hown hBs
        · have hk : k < w.heap.size := by
            rcases Nat.lt_or_ge k w.heap.size with h' | h'
            · exact h'
            · rw [Array.getElem?_eq_none h'] at h; cases h
          rw [hgrow.block k hk (by simp)]; exact h
  · refine wpList_append_any w hg s x 22 hop B 5 i0 (.int .u8 0) 1 1 Tryz.underlying22 hi hz0 hz1 hz2 rfl (by decide) v L.length (Lib.byteCells L) hs hown B' A m c (Lib.byteCells M) hx hr hone (by unfold maxLen; omega) (by omega) hBs ?_
    intro v' w' hown' hgrow _
    rw [e] at hown'
    exact hK _ _ ⟨hbel.grown hgrow hBs (fun k hk => (hown.lt k hk).1), by have := hgrow.size; omega, .inr (by rw [hlen]; exact hown')⟩ (Others.grown hown hgrow)
theorem Held.new {w0 w1 : World} (hb : Below w0.heap.size w0 w1) (s : ByteArray) :
    Held w0.heap.size w0 (Lib.bytesWorld w1 5 s) (.slice (some ⟨w1.heap.size, 0, none⟩) s.size (grownCap w1 s.size 0 5)) s.data.toList := by
  have hsz : s.data.toList.length = s.size := by show s.data.toList.length = s.data.size; simp
  have hB := HoldsBytes.new w1 s
  have hs := hb.size
  refine ⟨hb.trans ((bytesWorld_below w1 s).mono hs), by have := hB.lt; omega, .inl ⟨w1.heap.size, _, _, by rw [hsz], ?_, bytesCells_cap w1 s, hs, hB⟩⟩
  rw [hsz]; exact grownCap_ge w1 _ _ _
end Go.Proofs.YtinlonpcakkfhaaGreatDoor
end
section
namespace Oct
open Go
/-! The digits of a number, read. -/
def val (p : List UInt8) (a : Nat) : Nat := p.foldl (fun v c => 10 * v + (c.toNat - 48)) a
theorem dec_length : ∀ (k u : Nat), u < 10 ^ (k + 1) → (Lib.decDigits u).length ≤ k + 1 := by
  intro k
  induction k with
  | zero =>
    intro u h
    rw [Lib.decDigits, dif_pos (by simpa using h)]
    simp
  | succ k ih =>
    intro u h
    rw [Lib.decDigits]
    split
    · simp
    · rw [List.length_append]
      have := ih (u / 10) (by rw [Nat.pow_succ] at h; omega)
      simp; omega
end Oct
end
section
namespace Go.Proofs.YtinlonpcakkfhaaGreatDoor
open Go Go.Proofs Go.RowKit Oct
theorem cat_mk (x y : List UInt8) : (⟨x.toArray⟩ : ByteArray) ++ (⟨y.toArray⟩ : ByteArray) = ⟨(x ++ y).toArray⟩ := by
  apply ByteArray.ext
  simp
theorem below_drew1 (w : World) : Below w.heap.size w w.drew := (Below.refl _ _).drew
theorem run_one {W : World} {g : Nat} {y : Int} (h : W.cell? ⟨g, 0, none⟩ = some (.int .u8 y)) (h0 : 0 ≤ y) (h1 : y < 256) : (convert 22 9 (.slice (some ⟨g, 0, none⟩) 1 1)).run Tryz.prog W = .ok (.string ⟨#[UInt8.ofNat y.toNat]⟩) W := by
  have e : (((UInt8.ofNat y.toNat).toNat : Nat) : Int) = y := by simp; omega
  have hr : Reads W (g + 1) 1 (some ⟨g, 0, none⟩) 1 (Lib.byteCells [UInt8.ofNat y.toNat]) := by
    refine ⟨rfl, fun _ => ⟨_, rfl, by simp, fun j u hj => ?_⟩⟩
    match j, hj with
    | 0, hj =>
      have hj' : Value.int .u8 ((UInt8.ofNat y.toNat).toNat : Int) = u := by simpa [Lib.byteCells] using hj
      subst hj'
      show W.cell? ⟨g, 0, none⟩ = _
      rw [h, e]
  exact run_back hr
set_option maxHeartbeats 1000000 in
set_option maxRecDepth 100000 in
theorem dec_small (n : Int) (w : World) (h : n < 10) (hl : -9223372036854775808 ≤ n) : Calls Tryz.prog 89 #[.int .i64 n] w fun e w' => e = .returned (.string ⟨(Lib.decDigits n.toNat).toArray⟩) ∧ Below w.heap.size w w' := by
  have hd : Lib.decDigits n.toNat = [UInt8.ofNat ((48 : Int) + max n 0).toNat] := by
    rw [Lib.decDigits, dif_pos (by omega)]
    rw [show ((48 : Int) + max n 0).toNat = 48 + n.toNat from by omega]
  have HD := hid hd
  have h1 : 0 ≤ (48 : Int) + max n 0 := by omega
  have h2 : (48 : Int) + max n 0 < 256 := by omega
  have h3 : 0 ≤ max n 0 := by omega
  have h4 : max n 0 < 10 := by omega
  have hc := run_one (W := w.alloc (.cells #[.int .u8 (48 + max n 0)] 5)) (g := w.heap.size) (y := 48 + max n 0) (by rw [Lib.cell_of_heap (heap_alloc_new w _)]; rfl) h1 h2
  clear hd
  go_enter Tryz.func89, Tryz.ntmps89
  go_wp2
  go_ret
  exact ⟨by rw [HD.out]; rfl, (Below.refl _ _).alloc (Nat.le_refl _) _⟩
set_option maxHeartbeats 2000000 in
set_option maxRecDepth 100000 in
theorem dec_any : ∀ (u : Nat) (w : World), u ≤ 9223372036854775807 → Calls Tryz.prog 89 #[.int .i64 u] w fun e w' => e = .returned (.string ⟨(Lib.decDigits u).toArray⟩) ∧ Below w.heap.size w w' := by
  intro u
  induction u using Nat.strongRecOn with
  | ind u ih =>
    intro w hu
    by_cases h : u < 10
    · exact dec_small u w (by omega) (by omega)
    · obtain ⟨d, hdv⟩ : ∃ d, d = u / 10 := ⟨_, rfl⟩
      obtain ⟨r, hrv⟩ : ∃ r, r = u % 10 := ⟨_, rfl⟩
      have ih' := fun W => ih d (by omega) W (by omega)
      have hd : Lib.decDigits u = Lib.decDigits d ++ [UInt8.ofNat ((48 : Int) + (r : Int)).toNat] := by
        rw [Lib.decDigits, dif_neg h, hdv, hrv]
        congr 3
      have hlen := dec_length 19 d (by omega)
      generalize Lib.decDigits d = D at *
      have e1 : IntKind.i64.wrap ((u : Int) / 10) = (d : Int) := by rw [IntWalk.i64_in _ (by omega)]; omega
      have e2 : (u : Int).tmod 10 = (r : Int) := by rw [Int.tmod_eq_emod_of_nonneg (by omega)]; omega
      have hr10 : r < 10 := by omega
      have e3 : IntKind.u8.wrap (r : Int) = (r : Int) := by rw [IntKind.wrap_u8']; omega
      have e4 : IntKind.u8.wrap (48 + (r : Int)) = 48 + (r : Int) := by rw [IntKind.wrap_u8']; omega
      have k1 : (0 : Int) ≤ 48 + (r : Int) := by omega
      have k2 : (48 : Int) + (r : Int) < 256 := by omega
      have hrun := fun (W : World) (g : Nat) (hc : W.cell? ⟨g, 0, none⟩ = some (.int .u8 (48 + (r : Int)))) => run_one hc k1 k2
      have HD := hid hd
      have IH := hid ih'
      have HDV := hid hdv; have HRV := hid hrv
      have hD : D.length ≤ 20 := hlen
      clear hd ih' ih hdv hrv hlen
      go_enter Tryz.func89, Tryz.ntmps89
      go_wp2_with fail
      have hz : (48 : UInt8) + UInt8.ofNat r = UInt8.ofNat ((48 : Int) + (r : Int)).toNat := by
        rw [show ((48 : Int) + (r : Int)).toNat = 48 + r from by omega]
        simp
      have HZ := hid hz
      clear hz
      go_region_with (go_at_call 89; refine (IH.out _).mono ?_; rintro e w1 ⟨rfl, hb1⟩; have hcl := hb1.cell (p := ⟨w.heap.size, 0, none⟩))
      all_goals
        go_wp2
        go_ret
        refine ⟨?_, ?_⟩
        · rw [HD.out, ← cat_mk]
          exact congrArg (fun z : UInt8 => Ending.returned (.string ((⟨D.toArray⟩ : ByteArray) ++ (⟨#[z]⟩ : ByteArray)))) HZ.out
        · first
            | exact ((below_drew1 w).trans hb1).alloc (hb1.size) _
            | exact (((Below.refl _ _).alloc (Nat.le_refl _) _).drew).trans (hb1.mono (by simp))
            | exact (((Below.refl _ _).drew).alloc (Nat.le_refl _) _).trans (hb1.mono (by simp))
end Go.Proofs.YtinlonpcakkfhaaGreatDoor
end
section
namespace Go.Proofs.YtinlonpcakkfhaaGreatDoor
open Go Go.Proofs Go.RowKit Sx
theorem wrap_add (a b : Int) : wrap64 (wrap64 a + wrap64 b) = wrap64 (a + b) := by
  unfold wrap64; omega
theorem below_new (w : World) (o : Obj) : Below w.heap.size w (w.alloc o) := (Below.refl _ _).alloc (Nat.le_refl _) _
theorem below_box {w wr : World} {o : Obj} (h : Below (w.heap.size + 1) (w.alloc o) wr) : Below w.heap.size w wr := (below_new w o).trans (h.mono (by omega))
theorem ret_i64 {a b : Int} (h : a = b) : Ending.returned (.int .i64 a) = .returned (.int .i64 b) := by rw [h]
theorem val_i64 {a b : Int} (h : a = b) : Value.int .i64 a = .int .i64 b := by rw [h]
set_option maxHeartbeats 1000000 in
set_option maxRecDepth 100000 in
theorem nodes_any (t : SX) : ∀ (w : World) (S : Nat → Prop) (cs : List Value), SIn w S t cs →
    Calls Tryz.prog 36 #[.agg cs.toArray] w fun e w' => e = .returned (.int .i64 (wrap64 (nodes t))) ∧ Below w.heap.size w w' := by
  induction t using SX.ind with
  | H l h hi da ks ih =>
    intro w S cs hs
    obtain ⟨_, _, _, _, _, A1, n1, c1, A2, n2, c2, A3, n3, c3, e, rfl⟩ := hs.form_
    cases e
    obtain ⟨_, _, _, _, _, _, hk, _, _, _, _, b31, b32⟩ := hs.inv
    have HK := hid hk
    have HS := hid hs
    have IH := hid ih
    clear hk hs ih
    go_enter Tryz.func36, Tryz.ntmps36
    go_wp2_with fail
    go_loopw [3, 8] (fun v i wr => ∃ k : Nat, k ≤ n3 ∧ i = .int .i64 k ∧ v = .int .i64 (wrap64 (1 + nodesL (ks.take k))) ∧ Below (w.heap.size + 1) (w.alloc (Obj.cells #[Value.bool l, Value.bool h, Value.slice A1 n1 c1, Value.slice A2 n2 c2, Value.slice A3 n3 c3] 34)) wr) (fun _ i _ => n3 - (intOf i).toNat)
    case atStart => exact ⟨0, Nat.zero_le _, rfl, by simp [nodesL, wrap64], Below.refl _ _⟩
    case round =>
      obtain ⟨k, hkn, rfl, rfl, hbel⟩ := hrel
      have hbw := below_box hbel
      by_cases hlt : k < n3
      · obtain ⟨ad, v0, v1, v2, v3, v4, t, rfl, hS, hks, hm, hin, d0, d1, d2, d3, d4⟩ := (HS.out.old hbw).kid hlt
        obtain ⟨e0, e1, e2, e3, e4⟩ := box5 hbel
        have HT := hid (nodesL_take ks k t hks)
        have HM := hid hm
        have hsz := hbel.size
        have hsz : w.heap.size + 1 ≤ wr.heap.size := by simpa using hsz
        clear hks hm e0 e1 e2 e3
        go_wp2_with ((with_reducible refine (IH.out t HM.out _ S _ hin).mono ?_); rintro e w2 ⟨rfl, hb2⟩)
        go_roundw
        case rel => exact ⟨k + 1, by omega, by go_num, val_i64 (by rw [HT.out, wrap_add]; congr 1; omega), hbel.trans (hb2.mono hsz)⟩
        case measure => simp [intOf]; omega
      · obtain rfl : k = n3 := by omega
        go_wp2_with fail
        go_ret
        exact ⟨ret_i64 (by rw [List.take_of_length_le (by rw [HK.out]; exact Nat.le_refl _), nodes]; rfl), hbw⟩
theorem well_ways (l h : Bool) (hi da : List UInt8) (ks : List SX) :
    (well l h hi da ks = false ∧ l = true ∧ h = true) ∨ (well l h hi da ks = false ∧ l = true ∧ h = false ∧ 0 < hi.length) ∨ (well l h hi da ks = false ∧ l = true ∧ h = false ∧ hi.length = 0 ∧ 0 < da.length) ∨
    (well l h hi da ks = false ∧ l = false ∧ 0 < ks.length) ∨ (well l h hi da ks = false ∧ l = false ∧ ks.length = 0 ∧ h = false ∧ 0 < hi.length) ∨
    (well l h hi da ks = true ∧ l = true ∧ h = false ∧ hi.length = 0 ∧ da.length = 0) ∨ (well l h hi da ks = true ∧ l = false ∧ ks.length = 0 ∧ h = true) ∨ (well l h hi da ks = true ∧ l = false ∧ ks.length = 0 ∧ h = false ∧ hi.length = 0) := by
  cases l <;> cases h <;> cases hi <;> cases da <;> cases ks <;> simp [well]
theorem cleanL_take (l : List SX) (k : Nat) (x : SX) (h : l[k]? = some x) : cleanL (l.take (k + 1)) = (cleanL (l.take k) && clean x) := by rw [take_snoc l k x h, cleanL_snoc]
theorem cleanL_bad (l : List SX) (k : Nat) (x : SX) (h : l[k]? = some x) (hc : clean x = false) : cleanL l = false := by
  have e : l = l.take (k + 1) ++ l.drop (k + 1) := (List.take_append_drop _ _).symm
  rw [e, cleanL_append, cleanL_take l k x h, hc]; simp
set_option maxHeartbeats 1000000 in
set_option maxRecDepth 100000 in
theorem clean_any (t : SX) : ∀ (w : World) (S : Nat → Prop) (cs : List Value), SIn w S t cs →
    Calls Tryz.prog 46 #[.agg cs.toArray] w fun e w' => e = .returned (.bool (clean t)) ∧ Below w.heap.size w w' := by
  induction t using SX.ind with
  | H l h hi da ks ih =>
    intro w S cs hs
    obtain ⟨_, _, _, _, _, A1, n1, c1, A2, n2, c2, A3, n3, c3, e, rfl⟩ := hs.form_
    cases e
    obtain ⟨_, _, _, _, g1, g2, g3, b11, b12, b21, b22, b31, b32⟩ := hs.inv
    have HK := hid g3
    have HS := hid hs
    have IH := hid ih
    have hw := well_ways l h hi da ks
    rw [g1, g2, g3] at hw
    have hc : Hid (clean (.mk l h hi da ks) = (well l h hi da ks && cleanL ks)) := by show _ = _; rw [clean]
    clear g1 g2 g3 hs ih
    rcases hw with ⟨hw, rfl, rfl⟩ | ⟨hw, rfl, rfl, hn⟩ | ⟨hw, rfl, rfl, rfl, hn⟩ | ⟨hw, rfl, hn⟩ | ⟨hw, rfl, rfl, rfl, hn⟩ | hw
    iterate 5
      rw [hw] at hc
      clear hw
      go_enter Tryz.func46, Tryz.ntmps46
      go_wp2_with fail
      go_ret
      exact ⟨by rw [hc.out]; rfl, below_new _ _⟩
    · obtain ⟨hw, hg⟩ : well l h hi da ks = true ∧ ((l = true ∧ h = false ∧ n1 = 0 ∧ n2 = 0) ∨ (l = false ∧ n3 = 0 ∧ h = true) ∨ (l = false ∧ n3 = 0 ∧ h = false ∧ n1 = 0)) := by
        rcases hw with ⟨hw, hg⟩ | ⟨hw, hg⟩ | ⟨hw, hg⟩
        · exact ⟨hw, .inl hg⟩
        · exact ⟨hw, .inr (.inl hg)⟩
        · exact ⟨hw, .inr (.inr hg)⟩
      rw [hw] at hc
      clear hw
      rcases hg with ⟨rfl, rfl, rfl, rfl⟩ | ⟨rfl, rfl, rfl⟩ | ⟨rfl, rfl, rfl, rfl⟩
      · go_enter Tryz.func46, Tryz.ntmps46
        go_wp2_with fail
        go_loopw [47] (fun i wr => ∃ k : Nat, k ≤ n3 ∧ i = .int .i64 k ∧ Hid (cleanL (ks.take k) = true) ∧ Below (w.heap.size + 1) (w.alloc (Obj.cells #[Value.bool true, Value.bool false, Value.slice A1 0 c1, Value.slice A2 0 c2, Value.slice A3 n3 c3] 34)) wr) (fun i _ => n3 - (intOf i).toNat)
        case atStart => exact ⟨0, Nat.zero_le _, rfl, rfl, Below.refl _ _⟩
        case round =>
          obtain ⟨k, hkn, rfl, hcl, hbel⟩ := hrel
          have hbw := below_box hbel
          by_cases hlt : k < n3
          · obtain ⟨ad, v0, v1, v2, v3, v4, t, rfl, hS, hks, hm, hin, d0, d1, d2, d3, d4⟩ := (HS.out.old hbw).kid hlt
            obtain ⟨e0, e1, e2, e3, e4⟩ := box5 hbel
            have HT := hid (cleanL_take ks k t hks)
            have HB := hid (cleanL_bad ks k t hks)
            have HM := hid hm
            have hsz := hbel.size
            have hsz : w.heap.size + 1 ≤ wr.heap.size := by simpa using hsz
            clear hks hm e0 e1 e2 e3
            by_cases hct : clean t = true
            · have hct' := hid hct
              have ihh := IH.out t HM.out
              rw [hct] at ihh
              clear hct
              go_wp2_with ((with_reducible refine (ihh _ S _ hin).mono ?_); rintro e w2 ⟨rfl, hb2⟩)
              go_roundw
              case rel => exact ⟨k + 1, by omega, by go_num, (show _ = _ by rw [HT.out, hcl.out, hct'.out]; rfl), hbel.trans (hb2.mono hsz)⟩
              case measure => simp [intOf]; omega
            · have hct : clean t = false := by simpa using hct
              have hct' := hid hct
              have ihh := IH.out t HM.out
              rw [hct] at ihh
              clear hct
              go_wp2_with ((with_reducible refine (ihh _ S _ hin).mono ?_); rintro e w2 ⟨rfl, hb2⟩)
              go_ret
              exact ⟨by rw [hc.out, HB.out hct'.out]; rfl, hbw.trans (hb2.mono (by omega))⟩
          · obtain rfl : k = n3 := by omega
            have hall : Hid (cleanL ks = true) := by
              have h := hcl.out
              rw [List.take_of_length_le (by rw [HK.out]; exact Nat.le_refl _)] at h
              exact h
            go_wp2_with fail
            go_ret
            exact ⟨by rw [hc.out, hall.out]; rfl, hbw⟩
      all_goals
        have hnil : Hid (ks = []) := List.eq_nil_of_length_eq_zero HK.out
        go_enter Tryz.func46, Tryz.ntmps46
        go_wp2_with fail
        go_loopw [47] (fun i wr => i = .int .i64 0 ∧ wr = w.alloc (Obj.cells _ _)) (fun i _ => 0)
        case atStart => exact ⟨rfl, rfl⟩
        case round =>
          obtain ⟨rfl, rfl⟩ := hrel
          go_wp2_with fail
          go_ret
          exact ⟨by rw [hc.out, hnil.out]; rfl, below_new _ _⟩
end Go.Proofs.YtinlonpcakkfhaaGreatDoor
end
section
namespace Go.Proofs.YtinlonpcakkfhaaGreatDoor
open Go Go.Proofs Go.RowKit Sx
def BytesOut (w : World) (L : List UInt8) (e : Ending) (w' : World) : Prop := ∃ A c, e = .returned (.slice A L.length c) ∧ L.length ≤ c ∧ Reads w' w'.heap.size 1 A L.length (Lib.byteCells L) ∧ Below w.heap.size w w'
theorem dec_le (u : Nat) (h : u ≤ 1099511627776) : (Lib.decDigits u).length ≤ 13 := Oct.dec_length 12 u (by omega)
theorem text_length (b : List UInt8) : (text b).length = (Lib.decDigits b.length).length + 1 + b.length := by simp [text]; omega
set_option maxHeartbeats 1000000 in
set_option maxRecDepth 100000 in
theorem refText_any (A : Option Addr) (n c : Nat) (l : List UInt8) (B : Nat) (w : World) (hr : Reads w B 1 A n (Lib.byteCells l)) (hB : B ≤ w.heap.size) (hn : n ≤ 1099511627776) :
    Calls Tryz.prog 70 #[.slice A n c] w (BytesOut w (text l)) := by
  have hl : l.length = n := by have := hr.1; simpa [Lib.byteCells_length] using this
  have hd := dec_le n hn
  have HT : Hid (Lib.decDigits n ++ [58] ++ l = text l) := by show _ = _; rw [text, hl]; simp
  have HL := hid hl
  have HD := hid (fun W => dec_any n W (by omega))
  clear hl
  generalize Lib.decDigits n = D at *
  have hsz : (⟨D.toArray⟩ : ByteArray).size = D.length := by show D.toArray.size = _; simp
  have HSZ := hid hsz
  have HN := hid (fun (w1 : World) (hb : Below w.heap.size w w1) => Held.new hb ⟨D.toArray⟩)
  clear hsz
  go_enter Tryz.func70, Tryz.ntmps70
  go_wp2_with fail
  refine (HD.out w).mono ?_
  rintro e w1 ⟨rfl, hb1⟩
  go_wp2_with fail
  rw [Lib.run_convert_string_bytes w1 9 22 5 _ Tryz.underlying9 Tryz.underlying22 Tryz.underlying5]
  simp only [Result.andThen]
  rw [Oper.upon_value]
  have hH := HN.out w1 hb1
  have hb2 := hb1.trans ((bytesWorld_below w1 ⟨D.toArray⟩).mono hb1.size)
  rw [HSZ.out] at hH ⊢
  generalize Lib.bytesWorld w1 5 ⟨D.toArray⟩ = w2 at *
  generalize grownCap w1 _ 0 5 = cap at *
  generalize w1.heap.size = g at *
  clear hb1
  have hs2 := hb2.size
  have hb3 := hb2.alloc hs2 (.cells #[.int .u8 58] 5)
  have hH3 := hH.more (below_new w2 (.cells #[.int .u8 58] 5))
  have hone := reads_one w2 58 (0, 0)
  have hdl : D.length ≤ 13 := hd
  go_wp2_with (at_builtin; refine wpList_append_held _ rfl (.tmp 7) (.tmp 8) rfl w.heap.size w _ D hH3 rfl _ _ 1 1 [58] rfl hone (by omega) ?_)
  intro v3 w3 hH4 _
  have hr4 := hr.below (hH4.1.mono hB)
  have hbd : (D ++ [58]).length + n ≤ 140737488355328 := by simp; omega
  clear hH hH3 hone hb2 hb3 hr hB
  go_wp2_with (at_builtin; refine wpList_append_held _ rfl (.tmp 10) (.tmp 11) rfl w.heap.size w v3 (D ++ [58]) hH4 rfl _ A n c l rfl hr4 hbd ?_)
  intro v4 w4 hH5 _
  clear hH4 hr4 hbd
  have hT := HT.out
  rw [List.append_assoc] at hT
  have hT : D ++ 58 :: l = text l := hT
  rw [hT] at hH5
  obtain ⟨A5, c5, rfl, hc5, hr5⟩ := hH5.reads
  have hb5 := hH5.1
  clear hH5 hT
  go_wp2_with fail
  go_ret
  exact ⟨A5, c5, rfl, hc5, hr5, hb5⟩
theorem Held.empty {w0 W : World} (hb : Below w0.heap.size w0 W) {g : Nat} (hg : W.heap.size = g) : Held w0.heap.size w0 (W.alloc (.cells #[] 5)) (.slice (some ⟨g, 0, none⟩) 0 0) [] := by
  subst hg
  exact ⟨hb.alloc hb.size _, by have := hb.size; simp; omega, .inr (owns_more (owns_empty W) hb.size)⟩
theorem reads_byte (w : World) (x : UInt8) {g : Nat} (hg : w.heap.size = g) : Reads (w.alloc (.cells #[.int .u8 x.toNat] 5)) (g + 1) 1 (some ⟨g, 0, none⟩) 1 (Lib.byteCells [x]) := by
  subst hg
  exact reads_one w x (0, 0)
theorem box5b {w : World} {b : Nat} {v0 v1 v2 v3 v4 : Value} {T : TypeId} (h : w.heap[b]? = some (Obj.cells #[v0, v1, v2, v3, v4] T (0, 0))) :
    w.cell? ⟨b, 0, none⟩ = some v0 ∧ w.cell? ⟨b, 1, none⟩ = some v1 ∧ w.cell? ⟨b, 2, none⟩ = some v2 ∧ w.cell? ⟨b, 3, none⟩ = some v3 ∧ w.cell? ⟨b, 4, none⟩ = some v4 := by
  refine ⟨?_, ?_, ?_, ?_, ?_⟩ <;> (rw [Lib.cell_of_heap h]; rfl)
theorem below_at {w w' : World} {b : Nat} {o : Obj} (hb : Below w.heap.size w w') (h : w.heap[b]? = some o) : w'.heap[b]? = some o :=
  (hb.block b (by
    rcases Nat.lt_or_ge b w.heap.size with h' | h'
    · exact h'
    · rw [Array.getElem?_eq_none h'] at h; cases h)).trans h
theorem formL_take (l : List SX) (k : Nat) (x : SX) (h : l[k]? = some x) : formL (l.take (k + 1)) = formL (l.take k) ++ form x := by rw [take_snoc l k x h, formL_snoc]
theorem formL_take_le (l : List SX) (k : Nat) (x : SX) (h : l[k]? = some x) : (formL (l.take k)).length + (form x).length ≤ (formL l).length := by
  have e := formL_append (l.take (k + 1)) (l.drop (k + 1))
  rw [List.take_append_drop, formL_take l k x h] at e
  rw [e]; simp
set_option maxHeartbeats 2000000 in
set_option maxRecDepth 100000 in
theorem form_any (t : SX) : ∀ (w : World) (S : Nat → Prop) (cs : List Value), SIn w S t cs → (form t).length ≤ 1099511627776 →
    Calls Tryz.prog 48 #[.agg cs.toArray] w (BytesOut w (form t)) := by
  induction t using SX.ind with
  | H l h hi da ks ih =>
    intro w S cs hs hd
    obtain ⟨_, _, _, _, _, A1, n1, c1, A2, n2, c2, A3, n3, c3, e, rfl⟩ := hs.form_
    cases e
    obtain ⟨_, _, r1, r2, g1, g2, hk, b11, b12, b21, b22, b31, b32⟩ := hs.inv
    have HK := hid hk
    have HS := hid hs
    have IH := hid ih
    clear hk hs ih
    cases l with
    | true =>
      have HF : Hid (form (.mk true h hi da ks) = 40 :: (formL ks ++ [41])) := by show _ = _; rw [form]; rfl
      have hd' : (formL ks).length + 2 ≤ 1099511627776 := by rw [HF.out] at hd; simpa using hd
      rw [HF.out]
      have hH0 := (Held.empty (below_new w (.cells #[Value.bool true, Value.bool h, Value.slice A1 n1 c1, Value.slice A2 n2 c2, Value.slice A3 n3 c3] 34)) (g := w.heap.size + 1) (by simp)).more (below_new _ (.cells #[.int .u8 40] 5))
      have hx0 := hid (below_at (below_new _ (.cells #[.int .u8 40] 5)) (below_at (below_new _ (.cells #[] 5)) (heap_alloc_new w (.cells #[Value.bool true, Value.bool h, Value.slice A1 n1 c1, Value.slice A2 n2 c2, Value.slice A3 n3 c3] 34))))
      have hone := reads_byte ((w.alloc (.cells #[Value.bool true, Value.bool h, Value.slice A1 n1 c1, Value.slice A2 n2 c2, Value.slice A3 n3 c3] 34)).alloc (.cells #[] 5)) 40 (g := w.heap.size + 1 + 1) (by simp)
      clear hd r1 r2
      go_enter Tryz.func48, Tryz.ntmps48
      go_wp2_with (at_builtin; refine wpList_append_held _ rfl (.tmp 8) (.tmp 9) rfl w.heap.size w _ [] hH0 rfl _ _ 1 1 [40] rfl hone (by simp) ?_)
      intro v1 w1 hH1 hO1
      have hbox := hO1 _ _ _ _ hx0.out (by decide)
      clear hH0 hone hx0 hO1
      have e4 := (box5b hbox).2.2.2.2
      go_wp2_with fail
      go_loopw [3, 14] (fun v i wr => ∃ k : Nat, k ≤ n3 ∧ i = .int .i64 k ∧ Held w.heap.size w wr v (40 :: formL (ks.take k)) ∧ Hid (wr.heap[w.heap.size]? = some (Obj.cells #[Value.bool true, Value.bool h, Value.slice A1 n1 c1, Value.slice A2 n2 c2, Value.slice A3 n3 c3] 34 (0, 0)))) (fun _ i _ => n3 - (intOf i).toNat)
      case atStart => exact ⟨0, Nat.zero_le _, rfl, hH1, hbox⟩
      case round =>
        obtain ⟨k, hkn, rfl, hH, HB⟩ := hrel
        have hbw := hH.1
        clear e4 hbox hH1
        by_cases hlt : k < n3
        · obtain ⟨ad, v0, v1, v2, v3, v4, t, rfl, hS, hks, hm, hin, d0, d1, d2, d3, d4⟩ := (HS.out.old hbw).kid hlt
          have e4 := (box5b HB.out).2.2.2.2
          have HT := hid (formL_take ks k t hks)
          have hdk := formL_take_le ks k t hks
          have HM := hid hm
          clear hks hm
          go_wp2_with (first
            | ((with_reducible refine (IH.out t HM.out _ S _ hin (by omega)).mono ?_); rintro e w2 ⟨Ar, cr, rfl, hcr, hrr, hb2⟩; have HB2 := hid (below_at hb2 HB.out))
            | (at_builtin; refine wpList_append_held _ rfl (.tmp 17) (.tmp 23) rfl w.heap.size w _ (40 :: formL (ks.take k)) (hH.more hb2) rfl _ Ar _ cr (form t) rfl hrr (by simp; omega) ?_))
          intro v5 w5 hH5 hO5
          have HB5 := hid (hO5 _ _ _ _ HB2.out (by decide))
          clear hO5 hrr hb2 hH
          go_wp2_with fail
          go_roundw
          case rel => exact ⟨k + 1, by omega, by go_num, by rw [HT.out]; exact hH5, HB5.out⟩
          case measure => simp [intOf]; omega
        · obtain rfl : k = n3 := by omega
          have hall : Hid (ks.take k = ks) := List.take_of_length_le (by rw [HK.out]; exact Nat.le_refl _)
          rw [hall.out] at hH
          have hH' := hH.more (below_new wr (.cells #[.int .u8 41] 5))
          have hone := reads_byte wr 41 rfl
          go_wp2_with (at_builtin; refine wpList_append_held _ rfl (.tmp 26) (.tmp 27) rfl w.heap.size w _ (40 :: formL ks) hH' rfl _ _ 1 1 [41] rfl hone (by simp; omega) ?_)
          intro v5 w5 hH5 hO5
          obtain ⟨A5, c5, rfl, hc5, hr5⟩ := hH5.reads
          have hb5 := hH5.1
          clear hH5 hO5 hH' hH hone
          go_wp2_with fail
          go_ret
          exact ⟨A5, c5, rfl, hc5, hr5, hb5⟩
    | false =>
      cases h with
      | false =>
        have HF : Hid (form (.mk false false hi da ks) = text da) := by show _ = _; rw [form]; rfl
        rw [HF.out] at hd ⊢
        have hn2 : n2 ≤ 1099511627776 := by have := text_length da; omega
        have hH0 := Held.empty (below_new w (.cells #[Value.bool false, Value.bool false, Value.slice A1 n1 c1, Value.slice A2 n2 c2, Value.slice A3 n3 c3] 34)) (g := w.heap.size + 1) (by simp)
        have hr2 := ((r2.old (by omega) (below_new w (.cells #[Value.bool false, Value.bool false, Value.slice A1 n1 c1, Value.slice A2 n2 c2, Value.slice A3 n3 c3] 34))).old (by omega) (below_new _ (.cells #[] 5))).reads (by omega)
        clear r1 r2
        go_enter Tryz.func48, Tryz.ntmps48
        go_wp2_with (first
          | ((with_reducible refine (refText_any A2 n2 c2 da _ _ hr2 (Nat.le_refl _) hn2).mono ?_); rintro e w2 ⟨Ar, cr, rfl, hcr, hrr, hb2⟩)
          | (at_builtin; refine wpList_append_held _ rfl (.tmp 42) (.tmp 45) rfl w.heap.size w _ [] (hH0.more hb2) rfl _ Ar _ cr (text da) rfl hrr (by simp; omega) ?_))
        intro v5 w5 hH5 hO5
        obtain ⟨A5, c5, rfl, hc5, hr5⟩ := hH5.reads
        have hb5 := hH5.1
        clear hH5 hO5 hrr hb2 hH0
        go_wp2_with fail
        go_ret
        exact ⟨A5, c5, rfl, hc5, hr5, hb5⟩
      | true =>
        have HF : Hid (form (.mk false true hi da ks) = 91 :: (text hi ++ 93 :: text da)) := by show _ = _; rw [form]; simp
        rw [HF.out] at hd ⊢
        have hd' : (text hi).length + (text da).length + 2 ≤ 1099511627776 := by simp at hd; omega
        have hn1 : n1 ≤ 1099511627776 := by have := text_length hi; omega
        have hn2 : n2 ≤ 1099511627776 := by have := text_length da; omega
        have hH0 := (Held.empty (below_new w (.cells #[Value.bool false, Value.bool true, Value.slice A1 n1 c1, Value.slice A2 n2 c2, Value.slice A3 n3 c3] 34)) (g := w.heap.size + 1) (by simp)).more (below_new _ (.cells #[.int .u8 91] 5))
        have hx0 := hid (below_at (below_new _ (.cells #[.int .u8 91] 5)) (below_at (below_new _ (.cells #[] 5)) (heap_alloc_new w (.cells #[Value.bool false, Value.bool true, Value.slice A1 n1 c1, Value.slice A2 n2 c2, Value.slice A3 n3 c3] 34))))
        have hone := reads_byte ((w.alloc (.cells #[Value.bool false, Value.bool true, Value.slice A1 n1 c1, Value.slice A2 n2 c2, Value.slice A3 n3 c3] 34)).alloc (.cells #[] 5)) 91 (g := w.heap.size + 1 + 1) (by simp)
        go_enter Tryz.func48, Tryz.ntmps48
        go_wp2_with (at_builtin; refine wpList_append_held _ rfl (.tmp 31) (.tmp 32) rfl w.heap.size w _ [] hH0 rfl _ _ 1 1 [91] rfl hone (by simp) ?_)
        intro v1 w1 hH1 hO1
        have hB1 := hid (hO1 _ _ _ _ hx0.out (by decide))
        have hr1 := (r1.old (by omega) hH1.1).reads (by omega)
        obtain ⟨e0, e1, e2, e3, e4⟩ := box5b hB1.out
        clear hH0 hone hx0 hO1 hd
        go_wp2_with (first
          | ((with_reducible refine (refText_any A1 n1 c1 hi _ _ hr1 (Nat.le_refl _) hn1).mono ?_); rintro e w2 ⟨Ar, cr, rfl, hcr, hrr, hb2⟩; have HB2 := hid (below_at hb2 hB1.out))
          | (at_builtin; refine wpList_append_held _ rfl (.tmp 34) (.tmp 37) rfl w.heap.size w _ _ (hH1.more hb2) rfl _ Ar _ cr (text hi) rfl hrr (by simp; omega) ?_))
        intro v3 w3 hH3 hO3
        have hB3 := hid (hO3 _ _ _ _ HB2.out (by decide))
        have hH3' := hH3.more (below_new w3 (.cells #[.int .u8 93] 5))
        have hB3' := hid (below_at (below_new w3 (.cells #[.int .u8 93] 5)) hB3.out)
        have hone := reads_byte w3 93 rfl
        clear hH1 hrr hb2 hO3 hr1 e0 e1 e2 e3 e4 hH3
        go_wp2_with (at_builtin; refine wpList_append_held _ rfl (.tmp 39) (.tmp 40) rfl w.heap.size w _ _ hH3' rfl _ _ 1 1 [93] rfl hone (by simp; omega) ?_)
        intro v4 w4 hH4 hO4
        have hB4 := hid (hO4 _ _ _ _ hB3'.out (by decide))
        have hr2 := (r2.old (by omega) hH4.1).reads (by omega)
        obtain ⟨e0, e1, e2, e3, e4⟩ := box5b hB4.out
        clear hH3' hone hO4
        go_wp2_with (first
          | ((with_reducible refine (refText_any A2 n2 c2 da _ _ hr2 (Nat.le_refl _) hn2).mono ?_); rintro e w2 ⟨Ar, cr, rfl, hcr, hrr, hb2⟩)
          | (at_builtin; refine wpList_append_held _ rfl (.tmp 42) (.tmp 45) rfl w.heap.size w _ _ (hH4.more hb2) rfl _ Ar _ cr (text da) rfl hrr (by simp; omega) ?_))
        intro v5 w5 hH5 hO5
        obtain ⟨A5, c5, rfl, hc5, hr5⟩ := hH5.reads
        have hb5 := hH5.1
        clear hH5 hO5 hrr hb2 hH4
        go_wp2_with fail
        go_ret
        exact ⟨A5, c5, rfl, hc5, hr5, hb5⟩
end Go.Proofs.YtinlonpcakkfhaaGreatDoor
end
section
namespace Go.Proofs.YtinlonpcakkfhaaGreatDoor
open Go Go.Proofs Go.RowKit Sx
theorem infoSexp : (Tryz.prog.info? 34).map (fun i => (i.zero, i.size, i.bytes)) = some (some (.agg #[.bool false, .bool false, .slice none 0 0, .slice none 0 0, .slice none 0 0]), 5, 80) := by kernel_rfl
theorem RIn.of_own {w : World} {base : Nat} {e : TypeId} {size n : Nat} {v : Value} {xs : List Value} (h : w.ownsRow base e size v n xs) :
    ∃ A c, v = .slice A n c ∧ n ≤ c ∧ RIn w (fun b => base ≤ b) size A n xs := by
  rcases h.2 with ⟨h1, h2⟩ | ⟨g, cap, cur, hv, hb, hh, hc, _⟩
  · subst h2
    exact ⟨none, 0, h1, Nat.le_refl _, h.1, fun h => absurd h (by omega)⟩
  · subst hv
    exact ⟨_, _, rfl, hc, h.1, fun _ => ⟨_, rfl, hb, h.cells (g := g) rfl⟩⟩
def ints (l : List UInt8) : List Int := l.map fun b => (b.toNat : Int)
theorem ints_cells (l : List UInt8) : (ints l).map (Value.int .u8) = Lib.byteCells l := by simp [ints, Lib.byteCells]
def BytesNew (w : World) (L : List UInt8) (e : Ending) (w' : World) : Prop := ∃ A c, e = .returned (.slice A L.length c) ∧ L.length ≤ c ∧ RIn w' (fun b => w.heap.size ≤ b) 1 A L.length (Lib.byteCells L) ∧ Below w.heap.size w w'
theorem bytesClone_any (A : Option Addr) (n c : Nat) (l : List UInt8) (S : Nat → Prop) (w : World) (hr : RIn w S 1 A n (Lib.byteCells l)) (hn : n ≤ 140737488355328) :
    Calls Tryz.prog 79 #[.slice A n c] w (BytesNew w l) := by
  have hl : l.length = n := by have := hr.1; simpa [Lib.byteCells_length] using this
  subst hl
  rcases A with _ | ad
  · have h0 : l.length = 0 := by
      rcases Nat.eq_zero_or_pos l.length with h | h
      · exact h
      · obtain ⟨_, h, _⟩ := hr.2 h; cases h
    have hn : l = [] := List.eq_nil_of_length_eq_zero h0
    subst hn
    refine (Tryz.bytes_Clone_nil _ c w).mono ?_
    rintro e w' ⟨rfl, rfl⟩
    exact ⟨none, 0, rfl, Nat.le_refl _, RIn.none_, Below.refl _ _⟩
  · refine (Tryz.bytes_Clone_at ad l.length c (ints l) w (by simp [ints]) hn ?_).mono ?_
    · intro i hi
      obtain ⟨ad', h1, _, h3⟩ := hr.2 (by omega)
      injection h1 with h1
      subst h1
      refine h3 i _ ?_
      simp [Lib.byteCells, ints, List.getD, List.getElem?_eq_getElem hi]
    · rintro e w' ⟨v', rfl, hown, _, hb⟩
      rw [ints_cells] at hown
      obtain ⟨A', c', rfl, hc, hri⟩ := RIn.of_own hown
      exact ⟨A', c', rfl, hc, hri, hb⟩
theorem one_cells {w : World} {S : Nat → Prop} {A : Option Addr} {n : Nat} {xs : List Value} {ks : List SX} (h3 : RIn w S 5 A n xs) (hk : ks.length = n)
    (hs : ∀ i t, ks[i]? = some t → SIn w S t ((xs.drop (i * 5)).take 5)) : ∀ u ∈ xs, u.oneCell' = true := by
  intro u hu
  obtain ⟨j, hj, rfl⟩ := List.getElem_of_mem hu
  have hl := h3.1
  have hi : j / 5 < ks.length := by omega
  have h := hs (j / 5) ks[j / 5] (List.getElem?_eq_getElem hi)
  obtain ⟨l, h', hi', da, ks', A1, n1, c1, A2, n2, c2, A3, n3, c3, _, e⟩ := h.form_
  have hg : ((xs.drop (j / 5 * 5)).take 5)[j % 5]? = some xs[j] := by
    rw [List.getElem?_take, if_pos (by omega), List.getElem?_drop, show j / 5 * 5 + j % 5 = j by omega, List.getElem?_eq_getElem hj]
  rw [e] at hg
  have h5 : j % 5 < 5 := by omega
  match hm : j % 5, h5 with
  | 0, _ => rw [hm] at hg; simp at hg; rw [← hg]; rfl
  | 1, _ => rw [hm] at hg; simp at hg; rw [← hg]; rfl
  | 2, _ => rw [hm] at hg; simp at hg; rw [← hg]; rfl
  | 3, _ => rw [hm] at hg; simp at hg; rw [← hg]; rfl
  | 4, _ => rw [hm] at hg; simp at hg; rw [← hg]; rfl
def KidsNew (w : World) (n : Nat) (xs : List Value) (e : Ending) (w' : World) : Prop := ∃ v, e = .returned v ∧ w'.ownsRow w.heap.size 34 5 v n xs ∧ Below w.heap.size w w'
theorem owns_none5 (w : World) (b : Nat) : (w.alloc (.cells #[] 34)).ownsRow w.heap.size 34 5 (.slice (some ⟨w.heap.size, 0, none⟩) 0 0) 0 [] :=
  ⟨rfl, .inr ⟨_, 0, #[], rfl, Nat.le_refl _, heap_alloc_new w _, Nat.le_refl _, by unfold maxLen; omega, rfl, rfl⟩⟩
/-! An element of five cells is stored into a row of the call's own. -/
def set5 (w : World) (a : Addr) (x0 x1 x2 x3 x4 : Value) : World :=
  ((((w.setCell a x0).setCell ⟨a.block, a.off + 1, none⟩ x1).setCell ⟨a.block, a.off + 2, none⟩ x2).setCell ⟨a.block, a.off + 3, none⟩ x3).setCell ⟨a.block, a.off + 4, none⟩ x4
def upd5 (ys : List Value) (p : Nat) (x0 x1 x2 x3 x4 : Value) : List Value := ((((ys.set p x0).set (p + 1) x1).set (p + 2) x2).set (p + 3) x3).set (p + 4) x4
theorem upd5_at (ys : List Value) (p : Nat) (x0 x1 x2 x3 x4 : Value) (h : p + 4 < ys.length) : ((upd5 ys p x0 x1 x2 x3 x4).drop p).take 5 = [x0, x1, x2, x3, x4] := by
  apply List.ext_getElem?
  intro r
  rw [List.getElem?_take, List.getElem?_drop]
  unfold upd5
  simp only [List.getElem?_set, List.length_set]
  match r with
  | 0 => simp; omega
  | 1 => simp; omega
  | 2 => simp; omega
  | 3 => simp; omega
  | 4 => simp; omega
  | r + 5 => rw [if_neg (by omega)]; rfl
theorem upd5_off (ys : List Value) (k i : Nat) (x0 x1 x2 x3 x4 : Value) (h : i ≠ k) : ((upd5 ys (k * 5) x0 x1 x2 x3 x4).drop (i * 5)).take 5 = (ys.drop (i * 5)).take 5 := by
  apply List.ext_getElem?
  intro r
  rw [List.getElem?_take, List.getElem?_take]
  split
  · rw [List.getElem?_drop, List.getElem?_drop]
    unfold upd5
    rw [List.getElem?_set_ne (by omega), List.getElem?_set_ne (by omega), List.getElem?_set_ne (by omega), List.getElem?_set_ne (by omega), List.getElem?_set_ne (by omega)]
  · rfl
theorem store_own {w : World} {base g cap n j : Nat} {e : TypeId} {size : Nat} {ys : List Value} (hown : w.ownsRow base e size (.slice (some ⟨g, 0, none⟩) n cap) n ys) (hj : j < ys.length) (x : Value) (hx : x.oneCell' = true) :
    (store ⟨g, j, none⟩ x).run Tryz.prog w = .ok () (w.setCell ⟨g, j, none⟩ x) := by
  have hc := hown.cells (g := g) rfl j _ (List.getElem?_eq_getElem hj)
  have e : (⟨g, 0, none⟩ : Addr).add j = ⟨g, j, none⟩ := by unfold Addr.add; split <;> simp_all
  rw [e] at hc
  have hf : w.frozen? ⟨g, j, none⟩ = false := by
    rcases hown.2 with ⟨h, _⟩ | ⟨g', cap', cur, h, _, h2, _⟩
    · cases h
    · injection h with h
      injection h with h
      injection h with h
      subst h
      simp [World.frozen?, h2]
  rw [run_store Tryz.prog w _ x _ hx, hc]
  simp [hf]
theorem stores5 {w : World} {base cap n k : Nat} {ad : Addr} {ys : List Value} (hown : w.ownsRow base 34 5 (.slice (some ad) n cap) n ys) (hk : k < n) {w' : World} {S : Nat → Prop} {t : SX} {x0 x1 x2 x3 x4 : Value} (hx : SIn w' S t [x0, x1, x2, x3, x4]) :
    (store (ad.add (k * 5)) x0).run Tryz.prog w = .ok () (w.setCell (ad.add (k * 5)) x0) ∧
    (store ⟨(ad.add (k * 5)).block, (ad.add (k * 5)).off + 1, none⟩ x1).run Tryz.prog (w.setCell (ad.add (k * 5)) x0) = .ok () ((w.setCell (ad.add (k * 5)) x0).setCell ⟨(ad.add (k * 5)).block, (ad.add (k * 5)).off + 1, none⟩ x1) ∧
    (store ⟨(ad.add (k * 5)).block, (ad.add (k * 5)).off + 2, none⟩ x2).run Tryz.prog ((w.setCell (ad.add (k * 5)) x0).setCell ⟨(ad.add (k * 5)).block, (ad.add (k * 5)).off + 1, none⟩ x1) = .ok () (((w.setCell (ad.add (k * 5)) x0).setCell ⟨(ad.add (k * 5)).block, (ad.add (k * 5)).off + 1, none⟩ x1).setCell ⟨(ad.add (k * 5)).block, (ad.add (k * 5)).off + 2, none⟩ x2) ∧
    (store ⟨(ad.add (k * 5)).block, (ad.add (k * 5)).off + 3, none⟩ x3).run Tryz.prog (((w.setCell (ad.add (k * 5)) x0).setCell ⟨(ad.add (k * 5)).block, (ad.add (k * 5)).off + 1, none⟩ x1).setCell ⟨(ad.add (k * 5)).block, (ad.add (k * 5)).off + 2, none⟩ x2) = .ok () ((((w.setCell (ad.add (k * 5)) x0).setCell ⟨(ad.add (k * 5)).block, (ad.add (k * 5)).off + 1, none⟩ x1).setCell ⟨(ad.add (k * 5)).block, (ad.add (k * 5)).off + 2, none⟩ x2).setCell ⟨(ad.add (k * 5)).block, (ad.add (k * 5)).off + 3, none⟩ x3) ∧
    (store ⟨(ad.add (k * 5)).block, (ad.add (k * 5)).off + 4, none⟩ x4).run Tryz.prog ((((w.setCell (ad.add (k * 5)) x0).setCell ⟨(ad.add (k * 5)).block, (ad.add (k * 5)).off + 1, none⟩ x1).setCell ⟨(ad.add (k * 5)).block, (ad.add (k * 5)).off + 2, none⟩ x2).setCell ⟨(ad.add (k * 5)).block, (ad.add (k * 5)).off + 3, none⟩ x3) = .ok () (set5 w (ad.add (k * 5)) x0 x1 x2 x3 x4) ∧
    (set5 w (ad.add (k * 5)) x0 x1 x2 x3 x4).ownsRow base 34 5 (.slice (some ad) n cap) n (upd5 ys (k * 5) x0 x1 x2 x3 x4) ∧ w.grownBy (set5 w (ad.add (k * 5)) x0 x1 x2 x3 x4) (some ad.block) := by
  obtain ⟨g, cap', hv, hb, hlt⟩ := hown.form (by omega)
  injection hv with hv
  injection hv with hv
  subst hv
  have ea : (⟨g, 0, none⟩ : Addr).add (k * 5) = ⟨g, k * 5, none⟩ := by unfold Addr.add; split <;> simp_all
  rw [ea]
  obtain ⟨_, _, _, _, _, A1, n1, c1, A2, n2, c2, A3, n3, c3, _, e⟩ := hx.form_
  injection e with e0 e; injection e with e1 e; injection e with e2 e; injection e with e3 e; injection e with e4 e
  have hl := hown.1
  obtain ⟨o1, g1⟩ := hown.stored (k * 5) x0
  obtain ⟨o2, g2⟩ := o1.stored (k * 5 + 1) x1
  obtain ⟨o3, g3⟩ := o2.stored (k * 5 + 2) x2
  obtain ⟨o4, g4⟩ := o3.stored (k * 5 + 3) x3
  obtain ⟨o5, g5⟩ := o4.stored (k * 5 + 4) x4
  refine ⟨store_own hown (by omega) x0 (by rw [e0]; rfl), store_own o1 (by simp; omega) x1 (by rw [e1]; rfl), store_own o2 (by simp; omega) x2 (by rw [e2]; rfl), store_own o3 (by simp; omega) x3 (by rw [e3]; rfl), store_own o4 (by simp; omega) x4 (by rw [e4]; rfl), o5, ?_⟩
  exact (((g1.trans g2).trans g3).trans g4).trans g5
def Kids (w : World) (S : Nat → Prop) (ks : List SX) (xs : List Value) : Prop := ∀ i t, ks[i]? = some t → SIn w S t ((xs.drop (i * 5)).take 5)
def KidsOut (w : World) (ks : List SX) (n : Nat) (e : Ending) (w' : World) : Prop := ∃ A c ys, e = .returned (.slice A n c) ∧ n ≤ c ∧ RIn w' (fun b => w.heap.size ≤ b) 5 A n ys ∧ Kids w' (fun b => w.heap.size ≤ b) ks ys ∧ Below w.heap.size w w'
theorem own_old {w w' : World} {B : Nat} {e : TypeId} {size : Nat} {v : Value} {n : Nat} {xs : List Value} (h : w.ownsRow B e size v n xs) (hb : Below w.heap.size w w') : w'.ownsRow B e size v n xs := by
  refine ⟨h.1, ?_⟩
  rcases h.2 with h2 | ⟨g, cap, cur, hv, hg, hh, r⟩
  · exact Or.inl h2
  · exact Or.inr ⟨g, cap, cur, hv, hg, by rw [hb.block g (Array.getElem?_eq_some_iff.1 hh).1]; exact hh, r⟩
def Box (w : World) (b : Nat) (v0 v1 v2 v3 v4 : Value) : Prop := w.heap[b]? = some (Obj.cells #[v0, v1, v2, v3, v4] 34 (0, 0))
theorem Box.all {w : World} {b : Nat} {v0 v1 v2 v3 v4 : Value} (h : Box w b v0 v1 v2 v3 v4) :
    (w.cell? ⟨b, 0, none⟩ = some v0 ∧ w.cell? ⟨b, 1, none⟩ = some v1 ∧ w.cell? ⟨b, 2, none⟩ = some v2 ∧ w.cell? ⟨b, 3, none⟩ = some v3 ∧ w.cell? ⟨b, 4, none⟩ = some v4) ∧ ∀ i, w.frozen? ⟨b, i, none⟩ = false :=
  ⟨box5b h, fun i => by unfold Box at h; simp [World.frozen?, h]⟩
theorem Box.old {w w' : World} {b : Nat} {v0 v1 v2 v3 v4 : Value} (h : Box w b v0 v1 v2 v3 v4) (hb : Below w.heap.size w w') : Box w' b v0 v1 v2 v3 v4 := below_at hb h
theorem Box.far {w : World} {b : Nat} {v0 v1 v2 v3 v4 : Value} (h : Box w b v0 v1 v2 v3 v4) {p : Addr} (hp : b ≠ p.block) (x : Value) : Box (w.setCell p x) b v0 v1 v2 v3 v4 := (Below.heap_setCell w p x b hp).trans h
theorem Box.set2 {w : World} {b : Nat} {v0 v1 v2 v3 v4 : Value} (h : Box w b v0 v1 v2 v3 v4) (x : Value) : Box (w.setCell ⟨b, 2, none⟩ x) b v0 v1 x v3 v4 := (Joins.block_setCell h x)
theorem Box.set3 {w : World} {b : Nat} {v0 v1 v2 v3 v4 : Value} (h : Box w b v0 v1 v2 v3 v4) (x : Value) : Box (w.setCell ⟨b, 3, none⟩ x) b v0 v1 v2 x v4 := (Joins.block_setCell h x)
theorem RIn.far {w : World} {S : Nat → Prop} {size n : Nat} {A : Option Addr} {xs : List Value} (h : RIn w S size A n xs) {p : Addr} (hp : ∀ b, S b → b ≠ p.block) (x : Value) : RIn (w.setCell p x) S size A n xs :=
  h.keep fun q hq => World.cell?_setCell_other w p q x (fun e => hp _ hq (by rw [e]))
theorem SIn.far {w : World} {S : Nat → Prop} {t : SX} {cs : List Value} (h : SIn w S t cs) {p : Addr} (hp : ∀ b, S b → b ≠ p.block) (x : Value) : SIn (w.setCell p x) S t cs :=
  h.keep fun q hq => World.cell?_setCell_other w p q x (fun e => hp _ hq (by rw [e]))
theorem below_far {B : Nat} {a w : World} (h : Below B a w) {p : Addr} (hp : B ≤ p.block) (x : Value) : Below B a (w.setCell p x) := h.setCell hp x
def put5 (w : World) (b : Nat) (x0 x1 x2 x3 x4 : Value) : World := ((((w.setCell ⟨b, 0, none⟩ x0).setCell ⟨b, 1, none⟩ x1).setCell ⟨b, 2, none⟩ x2).setCell ⟨b, 3, none⟩ x3).setCell ⟨b, 4, none⟩ x4
theorem put5_far {w : World} {b : Nat} {x0 x1 x2 x3 x4 : Value} (p : Addr) (hp : p.block ≠ b) : (put5 w b x0 x1 x2 x3 x4).cell? p = w.cell? p := by
  have h2 : ∀ i, (⟨b, i, none⟩ : Addr) ≠ p := fun i e => hp (by rw [← e])
  unfold put5
  rw [World.cell?_setCell_other _ _ _ _ (h2 4), World.cell?_setCell_other _ _ _ _ (h2 3), World.cell?_setCell_other _ _ _ _ (h2 2), World.cell?_setCell_other _ _ _ _ (h2 1), World.cell?_setCell_other _ _ _ _ (h2 0)]
theorem put5_below {w w' : World} {b B : Nat} (h : Below B w w') (hb : B ≤ b) (x0 x1 x2 x3 x4 : Value) : Below B w (put5 w' b x0 x1 x2 x3 x4) :=
  ((((h.setCell (p := ⟨b, 0, none⟩) hb x0).setCell (p := ⟨b, 1, none⟩) hb x1).setCell (p := ⟨b, 2, none⟩) hb x2).setCell (p := ⟨b, 3, none⟩) hb x3).setCell (p := ⟨b, 4, none⟩) hb x4
end Go.Proofs.YtinlonpcakkfhaaGreatDoor
end
section
namespace Go.Proofs.YtinlonpcakkfhaaGreatDoor
open Go Go.Proofs Go.RowKit Sx
theorem deepL_take (l : List SX) (k : Nat) (x : SX) (h : l[k]? = some x) : deepL (l.take (k + 1)) = max (deepL (l.take k)) (deep x) := by rw [take_snoc l k x h, deepL_snoc]
theorem deepL_le (l : List SX) (x : SX) (h : x ∈ l) : deep x ≤ deepL l := by
  induction l with
  | nil => cases h
  | cons a r ih =>
    rw [deepL]
    rcases List.mem_cons.1 h with e | h
    · rw [e]; omega
    · have := ih h; omega
theorem deepL_take_le (l : List SX) (k : Nat) : deepL (l.take k) ≤ deepL l := by
  have e := deepL_append (l.take k) (l.drop k)
  rw [List.take_append_drop] at e
  omega
set_option maxHeartbeats 1000000 in
set_option maxRecDepth 100000 in
theorem deep_any (t : SX) : ∀ (w : World) (S : Nat → Prop) (cs : List Value), SIn w S t cs → deep t ≤ 4611686018427387904 →
    Calls Tryz.prog 47 #[.agg cs.toArray] w fun e w' => e = .returned (.int .i64 (deep t)) ∧ Below w.heap.size w w' := by
  induction t using SX.ind with
  | H l h hi da ks ih =>
    intro w S cs hs hd
    obtain ⟨_, _, _, _, _, A1, n1, c1, A2, n2, c2, A3, n3, c3, e, rfl⟩ := hs.form_
    cases e
    obtain ⟨_, _, _, _, _, _, hk, _, _, _, _, b31, b32⟩ := hs.inv
    have HK := hid hk
    have HS := hid hs
    have IH := hid ih
    clear hk hs ih
    cases l with
    | false =>
      go_enter Tryz.func47, Tryz.ntmps47
      go_wp2_with fail
      go_ret
      exact ⟨by rw [deep]; rfl, below_new _ _⟩
    | true =>
    have hd' : deepL ks + 1 ≤ 4611686018427387904 := by rw [deep] at hd; simpa using hd
    have HD : Hid (deep (.mk true h hi da ks) = deepL ks + 1) := by show _ = _; rw [deep]; rfl
    clear hd
    go_enter Tryz.func47, Tryz.ntmps47
    go_wp2_with fail
    go_loopw [3, 11] (fun v i wr => ∃ k : Nat, k ≤ n3 ∧ i = .int .i64 k ∧ v = .int .i64 (deepL (ks.take k)) ∧ Below (w.heap.size + 1) (w.alloc (Obj.cells #[Value.bool true, Value.bool h, Value.slice A1 n1 c1, Value.slice A2 n2 c2, Value.slice A3 n3 c3] 34)) wr) (fun _ i _ => n3 - (intOf i).toNat)
    case atStart => exact ⟨0, Nat.zero_le _, rfl, by simp [deepL], Below.refl _ _⟩
    case round =>
      obtain ⟨k, hkn, rfl, rfl, hbel⟩ := hrel
      have hbw := below_box hbel
      by_cases hlt : k < n3
      · obtain ⟨ad, v0, v1, v2, v3, v4, t, rfl, hS, hks, hm, hin, d0, d1, d2, d3, d4⟩ := (HS.out.old hbw).kid hlt
        obtain ⟨e0, e1, e2, e3, e4⟩ := box5 hbel
        have HT := hid (deepL_take ks k t hks)
        have hdt := deepL_le ks t hm
        have hdk := deepL_take_le ks k
        have HM := hid hm
        have hsz := hbel.size
        have hsz : w.heap.size + 1 ≤ wr.heap.size := by simpa using hsz
        clear hks hm e0 e1 e2 e3
        go_wp2_with ((with_reducible refine (IH.out t HM.out _ S _ hin (by omega)).mono ?_); rintro e w2 ⟨rfl, hb2⟩)
        go_roundw
        case rel => exact ⟨k + 1, by omega, by go_num, val_i64 (by rw [HT.out]; omega), hbel.trans (hb2.mono hsz)⟩
        case measure => simp [intOf]; omega
      · obtain rfl : k = n3 := by omega
        have hall : Hid (ks.take k = ks) := List.take_of_length_le (by rw [HK.out]; exact Nat.le_refl _)
        rw [hall.out]
        go_wp2_with fail
        go_ret
        exact ⟨ret_i64 (by rw [HD.out]; rfl), hbw⟩
def SomeBool (w : World) (e : Ending) (w' : World) : Prop := ∃ b : Bool, e = .returned (.bool b) ∧ Below w.heap.size w w'
set_option maxHeartbeats 2000000 in
set_option maxRecDepth 100000 in
theorem great_any (t : SX) : ∀ (w : World) (S : Nat → Prop) (cs : List Value) (a : Int), SIn w S t cs → 0 ≤ a → a ≤ 61 →
    Calls Tryz.prog 17 #[.agg cs.toArray, .int .i64 a] w (SomeBool w) := by
  induction t using SX.ind with
  | H l h hi da ks ih =>
    intro w S cs a hs ha0 ha1
    obtain ⟨_, _, _, _, _, A1, n1, c1, A2, n2, c2, A3, n3, c3, e, rfl⟩ := hs.form_
    cases e
    obtain ⟨_, _, _, _, _, _, hk, b11, b12, b21, b22, b31, b32⟩ := hs.inv
    have HK := hid hk
    have HS := hid hs
    have IH := hid ih
    clear hk hs ih
    by_cases g1 : 60 < a
    · go_enter Tryz.func17, Tryz.ntmps17
      go_wp2_with fail
      go_ret
      exact ⟨_, rfl, below_new _ _⟩
    by_cases g2 : 700 < n3
    · go_enter Tryz.func17, Tryz.ntmps17
      go_wp2_with fail
      go_ret
      exact ⟨_, rfl, below_new _ _⟩
    by_cases g3 : 5000 < n1
    · go_enter Tryz.func17, Tryz.ntmps17
      go_wp2_with fail
      go_ret
      exact ⟨_, rfl, below_new _ _⟩
    by_cases g4 : 5000 < n2
    · go_enter Tryz.func17, Tryz.ntmps17
      go_wp2_with fail
      go_ret
      exact ⟨_, rfl, below_new _ _⟩
    go_enter Tryz.func17, Tryz.ntmps17
    go_wp2_with fail
    go_loopw [29] (fun i wr => ∃ k : Nat, k ≤ n3 ∧ i = .int .i64 k ∧ Below (w.heap.size + 1) (w.alloc (Obj.cells #[Value.bool l, Value.bool h, Value.slice A1 n1 c1, Value.slice A2 n2 c2, Value.slice A3 n3 c3] 34)) wr) (fun i _ => n3 - (intOf i).toNat)
    case atStart => exact ⟨0, Nat.zero_le _, rfl, Below.refl _ _⟩
    case round =>
      obtain ⟨k, hkn, rfl, hbel⟩ := hrel
      have hbw := below_box hbel
      obtain ⟨e0, e1, e2, e3, e4⟩ := box5 hbel
      have hsz : w.heap.size + 1 ≤ wr.heap.size := by have := hbel.size; simpa using this
      by_cases hlt : k < n3
      · obtain ⟨ad, v0, v1, v2, v3, v4, t, rfl, hS, hks, hm, hin, d0, d1, d2, d3, d4⟩ := (HS.out.old hbw).kid hlt
        have HM := hid hm
        clear hks hm e0 e1 e2 e3
        go_wp2_with ((with_reducible refine (IH.out t HM.out _ S _ (a + 1) hin (by omega) (by omega)).mono ?_); rintro e w2 ⟨b, rfl, hb2⟩; rcases b with _ | _)
        · go_roundw
          case rel => exact ⟨k + 1, by omega, by go_num, hbel.trans (hb2.mono (by omega))⟩
          case measure => simp [intOf]; omega
        · go_ret
          exact ⟨_, rfl, hbw.trans (hb2.mono (by omega))⟩
      · obtain rfl : k = n3 := by omega
        have hin := HS.out.old hbw
        by_cases ha : a = 0
        · subst ha
          go_wp2_with ((with_reducible refine (nodes_any _ _ S _ hin).mono ?_); rintro e w2 ⟨rfl, hb2⟩)
          go_ret
          exact ⟨_, rfl, hbw.trans (hb2.mono (by omega))⟩
        · have ha' : 0 < a := by omega
          have ha2 : (a == 0) = false := by rw [beq_eq_false_iff_ne]; exact ha
          go_wp2_with fail
          go_ret
          exact ⟨_, rfl, hbw⟩
end Go.Proofs.YtinlonpcakkfhaaGreatDoor
end
section
namespace Go.Proofs.YtinlonpcakkfhaaGreatDoor
open Go Go.Proofs Go.RowKit Sx
theorem deep_le_nodes (t : SX) : deep t ≤ nodes t := by
  induction t using SX.ind with
  | H l h hi da ks ih =>
    have : deepL ks ≤ nodesL ks := by
      induction ks with
      | nil => simp [deepL, nodesL]
      | cons a r ihr =>
        have h1 := ih a (by simp)
        have h2 := ihr (fun k hk => ih k (by simp [hk]))
        simp [deepL, nodesL]; omega
    rw [deep, nodes]
    split <;> omega
theorem wrap_id (a : Int) (h : -9223372036854775808 ≤ a ∧ a ≤ 9223372036854775807) : wrap64 a = a := by unfold wrap64; omega
theorem ret_bool {a b : Bool} (h : a = b) : Ending.returned (.bool a) = .returned (.bool b) := by rw [h]
set_option maxHeartbeats 2000000 in
set_option maxRecDepth 100000 in
theorem refMay_any (t : SX) (w : World) (S : Nat → Prop) (cs : List Value) (hs : SIn w S t cs) (hn : nodes t ≤ 1099511627776) (hf : (form t).length ≤ 1099511627776) :
    Calls Tryz.prog 22 #[.agg cs.toArray] w fun e w' => e = .returned (.bool (may t)) ∧ Below w.heap.size w w' := by
  obtain ⟨l, h, hi, da, ks, A1, n1, c1, A2, n2, c2, A3, n3, c3, e, rfl⟩ := hs.form_
  have hdn := deep_le_nodes t
  have hM : Hid (may t = (clean t && decide (nodes t ≤ 512) && decide (deep t ≤ 16) && decide ((form t).length ≤ 4096))) := rfl
  have HW := hid (wrap_id (nodes t) (by omega))
  have hs1 := hs.old (below_new w (.cells #[Value.bool l, Value.bool h, Value.slice A1 n1 c1, Value.slice A2 n2 c2, Value.slice A3 n3 c3] 34))
  have hx := heap_alloc_new w (.cells #[Value.bool l, Value.bool h, Value.slice A1 n1 c1, Value.slice A2 n2 c2, Value.slice A3 n3 c3] 34)
  have hb0 := below_new w (.cells #[Value.bool l, Value.bool h, Value.slice A1 n1 c1, Value.slice A2 n2 c2, Value.slice A3 n3 c3] 34)
  have HX := hid hx
  have C1 := hid (clean_any t _ S _ hs1)
  have C2 := hid (fun W hb => nodes_any t W S _ (hs1.old hb))
  have C3 := hid (fun W hb => deep_any t W S _ (hs1.old hb) (by omega))
  have C4 := hid (fun W hb => form_any t W S _ (hs1.old hb) hf)
  clear hs hx hs1 e
  generalize clean t = c at *
  generalize nodes t = nn at *
  generalize deep t = dd at *
  generalize form t = ff at *
  rw [hM.out]
  clear hM
  cases c with
  | false =>
    go_enter Tryz.func22, Tryz.ntmps22
    go_wp2_with ((with_reducible refine C1.out.mono ?_); rintro e w2 ⟨rfl, hb2⟩)
    go_ret
    exact ⟨rfl, hb0.trans (hb2.mono (by simp))⟩
  | true =>
  by_cases g1 : 512 < nn
  · go_enter Tryz.func22, Tryz.ntmps22
    go_wp2_with (first
      | ((with_reducible refine C1.out.mono ?_); rintro e w2 ⟨rfl, hb2⟩; obtain ⟨e0, e1, e2, e3, e4⟩ := box5b (below_at hb2 HX.out))
      | ((with_reducible refine (C2.out _ hb2).mono ?_); rintro e w3 ⟨rfl, hb3⟩; rw [HW.out]; have hb3 := hb2.trans (hb3.mono hb2.size); clear e0 e1 e2 e3 e4; obtain ⟨e0, e1, e2, e3, e4⟩ := box5b (below_at hb3 HX.out)))
    go_ret
    exact ⟨ret_bool (by simp; omega), hb0.trans (hb3.mono (by simp))⟩
  by_cases g2 : 16 < dd
  · go_enter Tryz.func22, Tryz.ntmps22
    go_wp2_with (first
      | ((with_reducible refine C1.out.mono ?_); rintro e w2 ⟨rfl, hb2⟩; obtain ⟨e0, e1, e2, e3, e4⟩ := box5b (below_at hb2 HX.out))
      | ((with_reducible refine (C2.out _ hb2).mono ?_); rintro e w3 ⟨rfl, hb3⟩; rw [HW.out]; have hb3 := hb2.trans (hb3.mono hb2.size); clear e0 e1 e2 e3 e4; obtain ⟨e0, e1, e2, e3, e4⟩ := box5b (below_at hb3 HX.out))
      | ((with_reducible refine (C3.out _ hb3).mono ?_); rintro e w4 ⟨rfl, hb4⟩; have hb4 := hb3.trans (hb4.mono hb3.size); clear e0 e1 e2 e3 e4; obtain ⟨e0, e1, e2, e3, e4⟩ := box5b (below_at hb4 HX.out)))
    go_ret
    exact ⟨ret_bool (by simp; omega), hb0.trans (hb4.mono (by simp))⟩
  go_enter Tryz.func22, Tryz.ntmps22
  go_wp2_with (first
    | ((with_reducible refine C1.out.mono ?_); rintro e w2 ⟨rfl, hb2⟩; obtain ⟨e0, e1, e2, e3, e4⟩ := box5b (below_at hb2 HX.out))
    | ((with_reducible refine (C2.out _ hb2).mono ?_); rintro e w3 ⟨rfl, hb3⟩; rw [HW.out]; have hb3 := hb2.trans (hb3.mono hb2.size); clear e0 e1 e2 e3 e4; obtain ⟨e0, e1, e2, e3, e4⟩ := box5b (below_at hb3 HX.out))
    | ((with_reducible refine (C3.out _ hb3).mono ?_); rintro e w4 ⟨rfl, hb4⟩; have hb4 := hb3.trans (hb4.mono hb3.size); clear e0 e1 e2 e3 e4; obtain ⟨e0, e1, e2, e3, e4⟩ := box5b (below_at hb4 HX.out))
    | ((with_reducible refine (C4.out _ hb4).mono ?_); rintro e w5 ⟨Ar, cr, rfl, hcr, hrr, hb5⟩; have hb5 := hb4.trans (hb5.mono hb4.size)))
  go_ret
  exact ⟨ret_bool (by rw [decide_eq_true (show nn ≤ 512 by omega), decide_eq_true (show dd ≤ 16 by omega)]; simp only [Bool.true_and]; rw [decide_eq_decide]; omega), hb0.trans (hb5.mono (by simp))⟩
end Go.Proofs.YtinlonpcakkfhaaGreatDoor
end
section
namespace Ord11
structure Bd where
  is : Bool
  op : Bool
  at_ : List UInt8
structure Rg where
  o : Nat
  lo : Bd
  hi : Bd
def zeroB : Bd := ⟨false, false, []⟩
def zeroR : Rg := ⟨0, zeroB, zeroB⟩
abbrev Cmp := Nat → List UInt8 → List UInt8 → Int × Bool
section
variable (C : Cmp)
def isV (o : Nat) (b : List UInt8) : Bool := (C o b b).2
def mayB (o : Nat) (x : Bd) : Bool := (x.is && isV C o x.at_) || (!x.is && !x.op && x.at_.isEmpty)
def mayR (r : Rg) : Bool := decide (1 ≤ r.o) && decide (r.o ≤ 5) && mayB C r.o r.lo && mayB C r.o r.hi
def below (o : Nat) (x : Bd) (b : List UInt8) : Bool := !x.is || decide ((C o b x.at_).1 < 0) || (decide ((C o b x.at_).1 = 0) && !x.op)
def sameB (x y : Bd) : Bool := (x.is == y.is) && (x.op == y.op) && (x.at_ == y.at_)
def sameR (a b : Rg) : Bool := decide (a.o = b.o) && sameB a.lo b.lo && sameB a.hi b.hi
structure Lawful : Prop where
  swap : ∀ o a b, (C o b a).1 = -(C o a b).1
  ok : ∀ o a b, (C o a b).2 = (isV C o a && isV C o b)
  tri : ∀ o a b, (C o a b).1 = -1 ∨ (C o a b).1 = 0 ∨ (C o a b).1 = 1
  trans : ∀ o a b c, isV C o a = true → isV C o b = true → isV C o c = true → (C o a b).1 ≤ 0 → (C o b c).1 ≤ 0 → (C o a c).1 ≤ 0
end
variable {C : Cmp}
theorem Lawful.refl (H : Lawful C) (o : Nat) (a : List UInt8) : (C o a a).1 = 0 := by
  have := H.swap o a a
  omega
theorem mayB_not {o : Nat} {x : Bd} (h : mayB C o x = true) (hi : x.is = false) : x = zeroB := by
  obtain ⟨i, p, l⟩ := x
  unfold mayB at h
  subst hi
  simp at h
  obtain ⟨rfl, h2⟩ := h
  subst h2
  rfl
theorem mayR_parts {r : Rg} (h : mayR C r = true) : (1 ≤ r.o ∧ r.o ≤ 5) ∧ mayB C r.o r.lo = true ∧ mayB C r.o r.hi = true := by
  unfold mayR at h
  simp only [Bool.and_eq_true, decide_eq_true_eq] at h
  exact ⟨h.1.1, h.1.2, h.2⟩
theorem sameB_eq {x y : Bd} (h : sameB x y = true) : x = y := by
  obtain ⟨a, b, c⟩ := x
  obtain ⟨d, e, f⟩ := y
  simp [sameB] at h
  simp [h]
theorem sameR_eq {x y : Rg} (h : sameR x y = true) : x = y := by
  obtain ⟨a, b, c⟩ := x
  obtain ⟨d, e, f⟩ := y
  simp only [sameR, Bool.and_eq_true, decide_eq_true_eq] at h
  obtain ⟨⟨h1, h2⟩, h3⟩ := h
  rw [h1, sameB_eq h2, sameB_eq h3]
theorem sameB_refl (x : Bd) : sameB x x = true := by simp [sameB]
theorem sameR_refl (x : Rg) : sameR x x = true := by simp [sameR, sameB_refl]
end Ord11
end
section
namespace Sx
def atom (l : List UInt8) : SX := .mk false false [] l []
def list (ks : List SX) : SX := .mk true false [] [] ks
def isA (v : SX) (s : List UInt8) : Bool := match v with | .mk l h _ d _ => !l && !h && (d == s)
theorem beq_l (a b : List UInt8) : (a == b) = decide (a = b) := by
  by_cases h : a = b
  · simp [h]
  · simp [h]
theorem isA_atom (d s : List UInt8) : isA (atom d) s = (d == s) := by simp [isA, atom]
theorem isA_list (ks : List SX) (s : List UInt8) : isA (list ks) s = false := by simp [isA, list]
theorem clean_parts {l h : Bool} {hi da : List UInt8} {ks : List SX} (hc : clean (.mk l h hi da ks) = true) : cleanL ks = true ∧ (l = true → h = false ∧ hi = [] ∧ da = []) ∧ (l = false → ks = [] ∧ (h = false → hi = [])) := by
  rw [clean, Bool.and_eq_true] at hc
  obtain ⟨h1, h2⟩ := hc
  unfold well at h1
  refine ⟨h2, fun e => ?_, fun e => ?_⟩
  · subst e
    simp at h1
    exact ⟨h1.1.1, h1.1.2, h1.2⟩
  · subst e
    simp at h1
    exact ⟨h1.1, fun e2 => by subst e2; simpa using h1.2⟩
theorem clean_all {ks : List SX} (h : cleanL ks = true) : ∀ k ∈ ks, clean k = true := by
  induction ks with
  | nil => intro k hk; cases hk
  | cons a r ih =>
    rw [cleanL, Bool.and_eq_true] at h
    intro k hk
    rcases List.mem_cons.1 hk with rfl | hk
    · exact h.1
    · exact ih h.2 k hk
theorem isA_eq {v : SX} {s : List UInt8} (hc : clean v = true) (h : isA v s = true) : v = atom s := by
  obtain ⟨l, hh, hi, da, ks⟩ := v
  simp only [isA, Bool.and_eq_true, Bool.not_eq_true', beq_iff_eq] at h
  obtain ⟨⟨rfl, rfl⟩, rfl⟩ := h
  obtain ⟨_, _, h2⟩ := clean_parts hc
  obtain ⟨rfl, h3⟩ := h2 rfl
  rw [h3 rfl]
  rfl
theorem clean_atom {hi d : List UInt8} {ks : List SX} (hc : clean (.mk false false hi d ks) = true) : SX.mk false false hi d ks = atom d := by
  obtain ⟨_, _, h2⟩ := clean_parts hc
  obtain ⟨rfl, h3⟩ := h2 rfl
  rw [h3 rfl]
  rfl
def headIs (v : SX) (s : List UInt8) : Bool := match v with | .mk l _ _ _ ks => l && (match ks with | [] => false | x :: _ => isA x s)
end Sx
end
section
namespace Tag12
open Ord11 Sx
inductive TG where
  | mk (k : Nat) (d : List UInt8) (r : Rg) (ks : List TG)
theorem TG.ind {P : TG → Prop} (H : ∀ k d r ks, (∀ x ∈ ks, P x) → P (.mk k d r ks)) (t : TG) : P t :=
  TG.rec (motive_1 := P) (motive_2 := fun ks => ∀ k ∈ ks, P k) (fun k d r ks ih => H k d r ks ih) (fun _ h => by cases h)
    (fun _ _ h1 h2 k hk => by
    rcases List.mem_cons.1 hk with h | hk
    · rw [h]; exact h1
    · exact h2 k hk) t
def star : List UInt8 := [42]
def setW : List UInt8 := [115, 101, 116]
def prefW : List UInt8 := [112, 114, 101, 102, 105, 120]
def rangW : List UInt8 := [114, 97, 110, 103, 101]
def nameW (o : Nat) : List UInt8 :=
  if o = 1 then [97, 108, 112, 104, 97] else if o = 2 then [110, 117, 109, 101, 114, 105, 99] else if o = 3 then [116, 105, 109, 101] else if o = 4 then [98, 105, 110, 97, 114, 121] else if o = 5 then [100, 97, 116, 101] else []
def boundV (x : Bd) (w : UInt8) : List SX := if x.is then [atom (if x.op then [w] else [w, 101]), atom x.at_] else []
mutual
def valueT : TG → SX
  | .mk k d r ks =>
    if k = 1 then list [atom star] else if k = 2 then atom d else if k = 4 then list (atom star :: atom setW :: valuesT ks)
    else if k = 5 then list [atom star, atom prefW, atom d] else if k = 6 then list (atom star :: atom rangW :: atom (nameW r.o) :: (boundV r.lo 103 ++ boundV r.hi 108))
    else list (valuesT ks)
def valuesT : List TG → List SX
  | [] => []
  | t :: r => valueT t :: valuesT r
end
def headStar : List TG → Bool
  | .mk k d _ _ :: _ => decide (k = 2) && (d == star)
  | [] => false
section
variable (C : Cmp)
mutual
def rightT : TG → Bool
  | .mk k d r ks =>
    (if k = 1 then sameR r zeroR && d.isEmpty && ks.isEmpty else if k = 2 ∨ k = 5 then sameR r zeroR && ks.isEmpty
    else if k = 3 then sameR r zeroR && d.isEmpty && !headStar ks else if k = 4 then sameR r zeroR && d.isEmpty
    else if k = 6 then mayR C r && d.isEmpty && ks.isEmpty else false) && rightsT ks
def rightsT : List TG → Bool
  | [] => true
  | t :: r => rightT t && rightsT r
end
def endV (l : List SX) (w : UInt8) : Option (Bd × List SX) := match l with
  | [] => some (zeroB, [])
  | v :: r => if isA v [w] || isA v [w, 101] then (match r with
      | .mk false false _ d _ :: q => some (⟨true, isA v [w], d⟩, q)
      | _ => none)
    else some (zeroB, v :: r)
def orderV (v : SX) : Option Nat := if isA v (nameW 1) then some 1 else if isA v (nameW 2) then some 2 else if isA v (nameW 3) then some 3 else if isA v (nameW 4) then some 4 else if isA v (nameW 5) then some 5 else none
def rangedV (l : List SX) : Option TG := match l with
  | [] => none
  | v :: r => match orderV v with
    | none => none
    | some o => match endV r 103 with
      | none => none
      | some (lo, q) => match endV q 108 with
        | none => none
        | some (hi, q2) => if q2.isEmpty && mayR C ⟨o, lo, hi⟩ then some (.mk 6 [] ⟨o, lo, hi⟩ []) else none
def prefT (q : List SX) : Option TG := match q with
  | [.mk false false _ d _] => some (.mk 5 d zeroR [])
  | _ => none
mutual
def getT : SX → Option TG
  | .mk false h _ d _ => if h then none else some (.mk 2 d zeroR [])
  | .mk true _ _ _ [] => some (.mk 3 [] zeroR [])
  | .mk true _ _ _ (v :: r) =>
    if isA v star then (match r with
      | [] => some (.mk 1 [] zeroR [])
      | x :: q => if isA x setW then (getsT q).map fun ks => .mk 4 [] zeroR ks
        else if isA x prefW && decide (q.length = 1) then prefT q
        else if isA x rangW then rangedV C q else none)
    else match getT v, getsT r with
      | some t, some ts => some (.mk 3 [] zeroR (t :: ts))
      | _, _ => none
def getsT : List SX → Option (List TG)
  | [] => some []
  | v :: r => match getT v, getsT r with
    | some t, some ts => some (t :: ts)
    | _, _ => none
end
variable {C}
theorem getT_cons (h : Bool) (hi d : List UInt8) (v : SX) (r : List SX) : getT C (.mk true h hi d (v :: r)) = if isA v star then (match r with
      | [] => some (.mk 1 [] zeroR [])
      | x :: q => if isA x setW then (getsT C q).map fun ks => .mk 4 [] zeroR ks else if isA x prefW && decide (q.length = 1) then prefT q else if isA x rangW then rangedV C q else none)
    else match getT C v, getsT C r with
      | some t, some ts => some (.mk 3 [] zeroR (t :: ts))
      | _, _ => none := by
  rw [getT.eq_def]
theorem getT_star (h : Bool) (hi d : List UInt8) (v x : SX) (q : List SX) (hv : isA v star = true) : getT C (.mk true h hi d (v :: x :: q)) = if isA x setW then (getsT C q).map fun ks => .mk 4 [] zeroR ks else if isA x prefW && decide (q.length = 1) then prefT q else if isA x rangW then rangedV C q else none := by
  rw [getT_cons, if_pos hv]
theorem rangedV_cons (v : SX) (r : List SX) : rangedV C (v :: r) = match orderV v with
    | none => none
    | some o => match endV r 103 with
      | none => none
      | some (lo, q) => match endV q 108 with
        | none => none
        | some (hi, q2) => if q2.isEmpty && mayR C ⟨o, lo, hi⟩ then some (.mk 6 [] ⟨o, lo, hi⟩ []) else none := rfl
theorem zero_same {r : Rg} (h : sameR r zeroR = true) : r = zeroR := sameR_eq h
theorem endV_none {l : List SX} {w : UInt8} (x : Bd) (w2 : UInt8) (hw : w ≠ w2) (he : l = boundV x w2) : endV l w = some (zeroB, l) := by
  subst he
  unfold boundV
  cases x.is with
  | false => rfl
  | true =>
    rw [if_pos rfl]
    unfold endV
    cases x.op with
    | true => simp [isA_atom, Ne.symm hw]
    | false => simp [isA_atom, Ne.symm hw]
theorem endV_bound {x : Bd} {o : Nat} (hx : mayB C o x = true) (w : UInt8) (q : List SX) (hq : x.is = false → endV q w = some (zeroB, q)) : endV (boundV x w ++ q) w = some (x, q) := by
  unfold boundV
  cases hi : x.is with
  | false =>
    rw [mayB_not hx hi]
    simpa using hq hi
  | true =>
    obtain ⟨i, op, a⟩ := x
    simp only at hi
    subst hi
    cases op with
    | true => simp [endV, isA, atom]
    | false => simp [endV, isA, atom]
theorem order_name {o : Nat} (h1 : 1 ≤ o) (h2 : o ≤ 5) : orderV (atom (nameW o)) = some o := by
  have : o = 1 ∨ o = 2 ∨ o = 3 ∨ o = 4 ∨ o = 5 := by omega
  rcases this with rfl | rfl | rfl | rfl | rfl <;> rfl
theorem value_star {t : TG} {ks : List TG} (h : headStar (t :: ks) = false) : isA (valueT t) star = false := by
  obtain ⟨k, d, r, ts⟩ := t
  by_cases h2 : k = 2
  · subst h2
    rw [valueT, if_neg (by omega), if_pos rfl, isA_atom]
    simpa [headStar] using h
  · have : ∃ l, valueT (.mk k d r ts) = list l := by
      rw [valueT]
      split
      · exact ⟨_, rfl⟩
      · split
        · exact ⟨_, rfl⟩
        · split
          · exact ⟨_, rfl⟩
          · split
            · exact ⟨_, rfl⟩
            · exact ⟨_, rfl⟩
    obtain ⟨l, hl⟩ := this
    rw [hl, isA_list]
theorem gets_values (ks : List TG) (h : ∀ k ∈ ks, getT C (valueT k) = some k) : getsT C (valuesT ks) = some ks := by
  induction ks with
  | nil => rw [valuesT, getsT]
  | cons a r ih =>
    rw [valuesT, getsT, h a (by simp), ih fun k hk => h k (by simp [hk])]
theorem rights_all {ks : List TG} (h : rightsT C ks = true) : ∀ k ∈ ks, rightT C k = true := by
  induction ks with
  | nil => intro k hk; cases hk
  | cons a r ih =>
    rw [rightsT] at h
    simp only [Bool.and_eq_true] at h
    intro k hk
    rcases List.mem_cons.1 hk with rfl | hk
    · exact h.1
    · exact ih h.2 k hk
theorem star_atom : isA (atom star) star = true := by simp [isA_atom]
theorem get_list (ks : List TG) (hs : headStar ks = false) (h : ∀ k ∈ ks, getT C (valueT k) = some k) : getT C (list (valuesT ks)) = some (.mk 3 [] zeroR ks) := by
  cases ks with
  | nil => rw [valuesT]; unfold list; rw [getT]
  | cons a r =>
    have h1 := h a (by simp)
    have h2 := gets_values r fun k hk => h k (by simp [hk])
    rw [valuesT]
    unfold list
    rw [getT_cons, if_neg (by rw [value_star hs]; simp), h1, h2]
theorem get_value (t : TG) : rightT C t = true → getT C (valueT t) = some t := by
  induction t using TG.ind with
  | H k d r ks ih =>
    intro h
    rw [rightT, Bool.and_eq_true] at h
    obtain ⟨h, hks⟩ := h
    have ihk : ∀ x ∈ ks, getT C (valueT x) = some x := fun x hx => ih x hx (rights_all hks x hx)
    rw [valueT]
    by_cases k1 : k = 1
    · subst k1
      simp only [if_true, Bool.and_eq_true, List.isEmpty_iff] at h
      obtain ⟨⟨h1, h2⟩, h3⟩ := h
      rw [if_pos rfl, zero_same h1, h2, h3]
      unfold list
      rw [getT_cons, if_pos star_atom]
    · rw [if_neg k1] at h ⊢
      by_cases k2 : k = 2
      · subst k2
        simp only [true_or, if_true, Bool.and_eq_true, List.isEmpty_iff] at h
        rw [if_pos rfl, zero_same h.1, h.2]
        unfold atom
        rw [getT]
        rfl
      · rw [if_neg k2]
        by_cases k4 : k = 4
        · subst k4
          rw [if_neg (by omega), if_neg (by omega), if_pos rfl] at h
          simp only [Bool.and_eq_true, List.isEmpty_iff] at h
          rw [if_pos rfl, zero_same h.1, h.2]
          unfold list
          rw [getT_star _ _ _ _ _ _ star_atom]
          rw [if_pos (by simp [isA_atom]), gets_values ks ihk]
          rfl
        · rw [if_neg k4]
          by_cases k5 : k = 5
          · subst k5
            rw [if_pos (.inr rfl)] at h
            simp only [Bool.and_eq_true, List.isEmpty_iff] at h
            rw [if_pos rfl, zero_same h.1, h.2]
            unfold list
            rw [getT_star _ _ _ _ _ _ star_atom]
            rw [if_neg (by rw [isA_atom]; decide), if_pos (by rw [isA_atom]; rfl)]
            rfl
          · rw [if_neg k5]
            rw [if_neg (by omega)] at h
            by_cases k3 : k = 3
            · subst k3
              rw [if_pos rfl] at h
              simp only [Bool.and_eq_true, List.isEmpty_iff, Bool.not_eq_true'] at h
              obtain ⟨⟨h1, h2⟩, h3⟩ := h
              rw [if_neg (by omega), zero_same h1, h2]
              exact get_list ks h3 ihk
            · rw [if_neg k3, if_neg k4] at h
              by_cases k6 : k = 6
              · subst k6
                rw [if_pos rfl] at h
                simp only [Bool.and_eq_true, List.isEmpty_iff] at h
                obtain ⟨⟨h1, h2⟩, h3⟩ := h
                obtain ⟨⟨o1, o5⟩, hlo, hhi⟩ := mayR_parts h1
                rw [if_pos rfl, h2, h3]
                unfold list
                rw [getT_star _ _ _ _ _ _ star_atom]
                rw [if_neg (by rw [isA_atom]; decide), if_neg (by rw [isA_atom]; simp [show (rangW == prefW) = false by decide]), if_pos (by rw [isA_atom]; decide)]
                rw [rangedV_cons, order_name o1 o5]
                simp only
                rw [endV_bound hlo 103 (boundV r.hi 108) (fun _ => endV_none r.hi 108 (by decide) rfl)]
                simp only
                have e := endV_bound hhi 108 [] (fun _ => rfl)
                rw [List.append_nil] at e
                rw [e]
                simp only
                rw [if_pos (by simp [h1])]
              · rw [if_neg k6] at h; cases h
theorem endV_sound {l q : List SX} {w : UInt8} {x : Bd} (hc : cleanL l = true) (h : endV l w = some (x, q)) : l = boundV x w ++ q ∧ cleanL q = true := by
  unfold endV at h
  cases l with
  | nil =>
    injection h with h
    injection h with h1 h2
    subst h1 h2
    exact ⟨rfl, rfl⟩
  | cons v r =>
    have hc0 := hc
    rw [cleanL, Bool.and_eq_true] at hc
    simp only at h
    split at h
    · rename_i hv
      cases r with
      | nil => cases h
      | cons y r2 =>
        obtain ⟨yl, yh, yhi, yd, yk⟩ := y
        have hc2 := hc.2
        rw [cleanL, Bool.and_eq_true] at hc2
        cases yl with
        | true => cases h
        | false =>
          cases yh with
          | true => cases h
          | false =>
            injection h with h
            injection h with h1 h2
            subst h1 h2
            rw [clean_atom hc2.1]
            refine ⟨?_, hc2.2⟩
            cases ho : isA v [w] with
            | true =>
              rw [isA_eq hc.1 ho]
              rfl
            | false =>
              rw [ho, Bool.false_or] at hv
              rw [isA_eq hc.1 hv]
              rfl
    · injection h with h
      injection h with h1 h2
      subst h1 h2
      exact ⟨rfl, hc0⟩
theorem orderV_sound {v : SX} {o : Nat} (hc : clean v = true) (h : orderV v = some o) : v = atom (nameW o) := by
  unfold orderV at h
  split at h
  · rename_i hv; injection h with h; subst h; exact isA_eq hc hv
  · split at h
    · rename_i hv; injection h with h; subst h; exact isA_eq hc hv
    · split at h
      · rename_i hv; injection h with h; subst h; exact isA_eq hc hv
      · split at h
        · rename_i hv; injection h with h; subst h; exact isA_eq hc hv
        · split at h
          · rename_i hv; injection h with h; subst h; exact isA_eq hc hv
          · cases h
theorem ranged_sound {q : List SX} {t : TG} (hc : cleanL q = true) (h : rangedV C q = some t) : ∃ r : Rg, t = .mk 6 [] r [] ∧ mayR C r = true ∧ q = atom (nameW r.o) :: (boundV r.lo 103 ++ boundV r.hi 108) := by
  cases q with
  | nil => cases h
  | cons v r =>
    rw [cleanL, Bool.and_eq_true] at hc
    rw [rangedV_cons] at h
    cases ho : orderV v with
    | none => rw [ho] at h; cases h
    | some o =>
      rw [ho] at h
      simp only at h
      cases he : endV r 103 with
      | none => rw [he] at h; cases h
      | some y =>
        obtain ⟨lo, q1⟩ := y
        rw [he] at h
        simp only at h
        obtain ⟨e1, c1⟩ := endV_sound hc.2 he
        cases he2 : endV q1 108 with
        | none => rw [he2] at h; cases h
        | some y2 =>
          obtain ⟨hi, q2⟩ := y2
          rw [he2] at h
          simp only at h
          obtain ⟨e2, c2⟩ := endV_sound c1 he2
          split at h
          · rename_i hm
            simp only [Bool.and_eq_true, List.isEmpty_iff] at hm
            injection h with h
            subst h
            refine ⟨_, rfl, hm.2, ?_⟩
            rw [orderV_sound hc.1 ho, e1, e2, hm.1, List.append_nil]
          · cases h
theorem gets_sound {q : List SX} {ts : List TG} (ih : ∀ x ∈ q, ∀ t, clean x = true → getT C x = some t → valueT t = x ∧ rightT C t = true) (hc : cleanL q = true) (h : getsT C q = some ts) : valuesT ts = q ∧ rightsT C ts = true := by
  induction q generalizing ts with
  | nil =>
    rw [getsT] at h
    injection h with h
    subst h
    exact ⟨by rw [valuesT], by rw [rightsT]⟩
  | cons v r ihr =>
    rw [cleanL, Bool.and_eq_true] at hc
    rw [getsT] at h
    cases hv : getT C v with
    | none => rw [hv] at h; cases h
    | some t =>
      cases hr : getsT C r with
      | none => rw [hv, hr] at h; cases h
      | some ts' =>
        rw [hv, hr] at h
        injection h with h
        subst h
        obtain ⟨a1, a2⟩ := ih v (by simp) t hc.1 hv
        obtain ⟨b1, b2⟩ := ihr (fun x hx => ih x (by simp [hx])) hc.2 hr
        exact ⟨by rw [valuesT, a1, b1], by rw [rightsT, a2, b2]; rfl⟩
theorem same_zero : sameR zeroR zeroR = true := sameR_refl _
theorem value_get (v : SX) : ∀ t, clean v = true → getT C v = some t → valueT t = v ∧ rightT C t = true := by
  induction v using SX.ind with
  | H l h hi da ks ih =>
    intro t hc hg
    obtain ⟨hk, hl, ha⟩ := clean_parts hc
    cases l with
    | false =>
      obtain ⟨rfl, h2⟩ := ha rfl
      cases h with
      | true => rw [getT] at hg; cases hg
      | false =>
        rw [h2 rfl, getT] at hg
        injection hg with hg
        subst hg
        rw [h2 rfl]
        exact ⟨by rw [valueT]; rfl, by rw [rightT, rightsT]; simp [same_zero]⟩
    | true =>
      obtain ⟨rfl, rfl, rfl⟩ := hl rfl
      cases ks with
      | nil =>
        rw [getT] at hg
        injection hg with hg
        subst hg
        exact ⟨by rw [valueT, valuesT]; rfl, by rw [rightT, rightsT]; simp [same_zero, headStar]⟩
      | cons v r =>
        rw [cleanL, Bool.and_eq_true] at hk
        rw [getT_cons] at hg
        cases hv : isA v star with
        | true =>
          rw [hv, if_pos rfl] at hg
          have e0 := isA_eq hk.1 hv
          subst e0
          cases r with
          | nil =>
            injection hg with hg
            subst hg
            exact ⟨by rw [valueT]; rfl, by rw [rightT, rightsT]; simp [same_zero]⟩
          | cons x q =>
            have hk2 := hk.2
            rw [cleanL, Bool.and_eq_true] at hk2
            simp only at hg
            split at hg
            · rename_i hx
              rw [isA_eq hk2.1 hx]
              cases hq : getsT C q with
              | none => rw [hq] at hg; cases hg
              | some ts =>
                rw [hq] at hg
                injection hg with hg
                subst hg
                obtain ⟨b1, b2⟩ := gets_sound (fun y hy => ih y (by simp [hy])) hk2.2 hq
                exact ⟨by rw [valueT, b1]; rfl, by rw [rightT, b2]; simp [same_zero]⟩
            · split at hg
              · rename_i hx
                simp only [Bool.and_eq_true, decide_eq_true_eq] at hx
                rw [isA_eq hk2.1 hx.1]
                unfold prefT at hg
                split at hg
                · rename_i hi2 d2 ks2
                  injection hg with hg
                  subst hg
                  have hq := hk2.2
                  rw [cleanL, Bool.and_eq_true] at hq
                  rw [clean_atom hq.1]
                  exact ⟨by rw [valueT]; rfl, by rw [rightT, rightsT]; simp [same_zero]⟩
                · cases hg
              · split at hg
                · rename_i hx
                  rw [isA_eq hk2.1 hx]
                  obtain ⟨rg, rfl, hm, hq⟩ := ranged_sound hk2.2 hg
                  exact ⟨by rw [valueT, hq]; rfl, by rw [rightT, rightsT]; simp [hm]⟩
                · cases hg
        | false =>
          rw [hv, if_neg (by simp)] at hg
          cases h1 : getT C v with
          | none => rw [h1] at hg; cases hg
          | some t0 =>
            cases h2 : getsT C r with
            | none => rw [h1, h2] at hg; cases hg
            | some ts =>
              rw [h1, h2] at hg
              injection hg with hg
              subst hg
              obtain ⟨a1, a2⟩ := ih v (by simp) t0 hk.1 h1
              obtain ⟨b1, b2⟩ := gets_sound (fun y hy => ih y (by simp [hy])) hk.2 h2
              have hs : headStar (t0 :: ts) = false := by
                cases hh : headStar (t0 :: ts) with
                | false => rfl
                | true =>
                  obtain ⟨k0, d0, r0, q0⟩ := t0
                  simp only [headStar, Bool.and_eq_true, decide_eq_true_eq, beq_iff_eq] at hh
                  obtain ⟨rfl, rfl⟩ := hh
                  rw [valueT, if_neg (by omega), if_pos rfl] at a1
                  rw [← a1, star_atom] at hv
                  cases hv
              exact ⟨by rw [valueT, valuesT, a1, b1]; rfl, by rw [rightT, rightsT, a2, b2, hs]; simp [same_zero]⟩
/-! Requests. -/
def headA (v : SX) : Bool := match v with | .mk l _ _ _ ks => l && (match ks with | [] => false | x :: _ => isA x star)
mutual
def concrete : SX → Bool
  | .mk l h hi da ks => !h && !headA (.mk l h hi da ks) && concreteL ks
def concreteL : List SX → Bool
  | [] => true
  | v :: r => concrete v && concreteL r
end
theorem gets_concrete {q : List SX} (ih : ∀ x ∈ q, concrete x = true → ∃ t, getT C x = some t) (h : concreteL q = true) : ∃ ts, getsT C q = some ts := by
  induction q with
  | nil => exact ⟨[], by rw [getsT]⟩
  | cons v r ihr =>
    rw [concreteL, Bool.and_eq_true] at h
    obtain ⟨t, ht⟩ := ih v (by simp) h.1
    obtain ⟨ts, hts⟩ := ihr (fun x hx => ih x (by simp [hx])) h.2
    exact ⟨t :: ts, by rw [getsT, ht, hts]⟩
theorem get_concrete (v : SX) : concrete v = true → ∃ k d ts, getT C v = some (.mk k d zeroR ts) ∧ (k = 2 ∨ k = 3) := by
  induction v using SX.ind with
  | H l h hi da ks ih =>
    intro hc
    rw [concrete] at hc
    simp only [Bool.and_eq_true, Bool.not_eq_true'] at hc
    obtain ⟨⟨rfl, h2⟩, h3⟩ := hc
    cases l with
    | false => exact ⟨2, da, [], by rw [getT]; rfl, .inl rfl⟩
    | true =>
      cases ks with
      | nil => exact ⟨3, [], [], by rw [getT], .inr rfl⟩
      | cons v r =>
        rw [concreteL, Bool.and_eq_true] at h3
        have hv : isA v star = false := by simpa [headA] using h2
        obtain ⟨k0, d0, ts0, h0, _⟩ := ih v (by simp) h3.1
        obtain ⟨ts, hts⟩ := gets_concrete (C := C) (q := r) (fun x hx hx2 => by
          obtain ⟨k1, d1, ts1, h1, _⟩ := ih x (by simp [hx]) hx2
          exact ⟨_, h1⟩) h3.2
        exact ⟨3, [], _, by rw [getT_cons, hv, if_neg (by simp), h0, hts], .inr rfl⟩
mutual
def sameT : TG → TG → Bool
  | .mk k d r ks, .mk k' d' r' ks' => decide (k = k') && (d == d') && sameR r r' && sameTs ks ks'
def sameTs : List TG → List TG → Bool
  | [], [] => true
  | a :: r, b :: q => sameT a b && sameTs r q
  | _, _ => false
end
theorem sameT_refl (t : TG) : sameT t t = true := by
  induction t using TG.ind with
  | H k d r ks ih =>
    have hk : sameTs ks ks = true := by
      induction ks with
      | nil => rw [sameTs]
      | cons a q ihq => rw [sameTs, ih a (by simp), ihq fun x hx => ih x (by simp [hx])]; rfl
    rw [sameT, sameR_refl, hk]
    simp
end
end Tag12
end
section
namespace Go.Proofs.YtinlonpcakkfhaaGreatDoor
open Go Go.Proofs Go.RowKit Sx _root_.Ord11 _root_.Tag12
inductive TIn (w : World) (S : Nat → Prop) : TG → List Value → Prop
  | mk {k : Nat} {d : List UInt8} {r : Rg} {ks : List TG} {A1 A2 A3 A4 : Option Addr} {n1 c1 n2 c2 n3 c3 n4 c4 : Nat} {xs : List Value}
    (h8 : k < 256 ∧ r.o < 256) (h1 : RIn w S 1 A1 n1 (Lib.byteCells d)) (b1 : n1 ≤ c1 ∧ n1 ≤ 140737488355328)
    (h3 : RIn w S 1 A3 n3 (Lib.byteCells r.lo.at_)) (b3 : n3 ≤ c3 ∧ n3 ≤ 140737488355328) (h4 : RIn w S 1 A4 n4 (Lib.byteCells r.hi.at_)) (b4 : n4 ≤ c4 ∧ n4 ≤ 140737488355328)
    (h2 : RIn w S 10 A2 n2 xs) (b2 : n2 ≤ c2 ∧ n2 * 128 ≤ 140737488355328) (hk : ks.length = n2) (hs : ∀ i t, ks[i]? = some t → TIn w S t ((xs.drop (i * 10)).take 10)) :
    TIn w S (.mk k d r ks) [.int .u8 k, .slice A1 n1 c1, .slice A2 n2 c2, .int .u8 r.o, .bool r.lo.is, .bool r.lo.op, .slice A3 n3 c3, .bool r.hi.is, .bool r.hi.op, .slice A4 n4 c4]
section
variable {w w' : World} {S S' : Nat → Prop} {size n : Nat} {A : Option Addr} {xs : List Value}
theorem RIn.at10 (h : RIn w S 10 A n xs) {k : Nat} (hk : k < n) : ∃ ad v0 v1 v2 v3 v4 v5 v6 v7 v8 v9, A = some ad ∧ S ad.block ∧ (xs.drop (k * 10)).take 10 = [v0, v1, v2, v3, v4, v5, v6, v7, v8, v9] ∧
    w.cell? (ad.add (k * 10)) = some v0 ∧ w.cell? ⟨(ad.add (k * 10)).block, (ad.add (k * 10)).off + 1, none⟩ = some v1 ∧ w.cell? ⟨(ad.add (k * 10)).block, (ad.add (k * 10)).off + 2, none⟩ = some v2 ∧ w.cell? ⟨(ad.add (k * 10)).block, (ad.add (k * 10)).off + 3, none⟩ = some v3 ∧ w.cell? ⟨(ad.add (k * 10)).block, (ad.add (k * 10)).off + 4, none⟩ = some v4 ∧ w.cell? ⟨(ad.add (k * 10)).block, (ad.add (k * 10)).off + 5, none⟩ = some v5 ∧ w.cell? ⟨(ad.add (k * 10)).block, (ad.add (k * 10)).off + 6, none⟩ = some v6 ∧ w.cell? ⟨(ad.add (k * 10)).block, (ad.add (k * 10)).off + 7, none⟩ = some v7 ∧ w.cell? ⟨(ad.add (k * 10)).block, (ad.add (k * 10)).off + 8, none⟩ = some v8 ∧ w.cell? ⟨(ad.add (k * 10)).block, (ad.add (k * 10)).off + 9, none⟩ = some v9 := by
  obtain ⟨ad, e, hb, hc⟩ := h.2 (by omega)
  have hl := h.1
  have g : ∀ j, j < 10 → k * 10 + j < xs.length := fun j hj => by rw [hl]; omega
  have g0 : k * 10 < xs.length := g 0 (by omega)
  have hc' : ∀ j u, j ≠ 0 → xs[k * 10 + j]? = some u → w.cell? ⟨(ad.add (k * 10)).block, (ad.add (k * 10)).off + j, none⟩ = some u := by
    intro j u hj hu
    have := hc (k * 10 + j) u hu
    rw [← add_of_add, show (ad.add (k * 10)).add j = ⟨(ad.add (k * 10)).block, (ad.add (k * 10)).off + j, none⟩ from if_neg hj] at this
    exact this
  refine ⟨ad, xs[k * 10], xs[k * 10 + 1]'(g 1 (by omega)), xs[k * 10 + 2]'(g 2 (by omega)), xs[k * 10 + 3]'(g 3 (by omega)), xs[k * 10 + 4]'(g 4 (by omega)), xs[k * 10 + 5]'(g 5 (by omega)), xs[k * 10 + 6]'(g 6 (by omega)), xs[k * 10 + 7]'(g 7 (by omega)), xs[k * 10 + 8]'(g 8 (by omega)), xs[k * 10 + 9]'(g 9 (by omega)), e, hb, ?_,
    hc _ _ (List.getElem?_eq_getElem _), hc' 1 _ (by omega) (List.getElem?_eq_getElem _), hc' 2 _ (by omega) (List.getElem?_eq_getElem _), hc' 3 _ (by omega) (List.getElem?_eq_getElem _), hc' 4 _ (by omega) (List.getElem?_eq_getElem _), hc' 5 _ (by omega) (List.getElem?_eq_getElem _), hc' 6 _ (by omega) (List.getElem?_eq_getElem _), hc' 7 _ (by omega) (List.getElem?_eq_getElem _), hc' 8 _ (by omega) (List.getElem?_eq_getElem _), hc' 9 _ (by omega) (List.getElem?_eq_getElem _)⟩
  rw [List.drop_eq_getElem_cons g0, List.drop_eq_getElem_cons (i := k * 10 + 1) (g 1 (by omega)), List.drop_eq_getElem_cons (i := k * 10 + 1 + 1) (g 2 (by omega)), List.drop_eq_getElem_cons (i := k * 10 + 1 + 1 + 1) (g 3 (by omega)), List.drop_eq_getElem_cons (i := k * 10 + 1 + 1 + 1 + 1) (g 4 (by omega)), List.drop_eq_getElem_cons (i := k * 10 + 1 + 1 + 1 + 1 + 1) (g 5 (by omega)), List.drop_eq_getElem_cons (i := k * 10 + 1 + 1 + 1 + 1 + 1 + 1) (g 6 (by omega)), List.drop_eq_getElem_cons (i := k * 10 + 1 + 1 + 1 + 1 + 1 + 1 + 1) (g 7 (by omega)), List.drop_eq_getElem_cons (i := k * 10 + 1 + 1 + 1 + 1 + 1 + 1 + 1 + 1) (g 8 (by omega)), List.drop_eq_getElem_cons (i := k * 10 + 1 + 1 + 1 + 1 + 1 + 1 + 1 + 1 + 1) (g 9 (by omega))]
  rfl
theorem TIn.keep {t : TG} {cs : List Value} (h : TIn w S t cs) (hk : ∀ p : Addr, S p.block → w'.cell? p = w.cell? p) : TIn w' S t cs := by
  induction h with
  | mk h8 h1 b1 h3 b3 h4 b4 h2 b2 hl hs ih => exact .mk h8 (h1.keep hk) b1 (h3.keep hk) b3 (h4.keep hk) b4 (h2.keep hk) b2 hl ih
theorem TIn.more {t : TG} {cs : List Value} (h : TIn w S t cs) (hS : ∀ b, S b → S' b) : TIn w S' t cs := by
  induction h with
  | mk h8 h1 b1 h3 b3 h4 b4 h2 b2 hl hs ih => exact .mk h8 (h1.more hS) b1 (h3.more hS) b3 (h4.more hS) b4 (h2.more hS) b2 hl ih
theorem TIn.size_ {t : TG} {cs : List Value} (h : TIn w S t cs) : TIn w (fun b => S b ∧ b < w.heap.size) t cs := by
  induction h with
  | mk h8 h1 b1 h3 b3 h4 b4 h2 b2 hl hs ih => exact .mk h8 (h1.size_ (by omega)) b1 (h3.size_ (by omega)) b3 (h4.size_ (by omega)) b4 (h2.size_ (by omega)) b2 hl ih
theorem TIn.kept {t : TG} {cs : List Value} {B : Nat} (h : TIn w S t cs) (hb : Below B w w') (hS : ∀ b, S b → b < B) : TIn w' S t cs := h.keep fun p hp => hb.cell (hS _ hp)
theorem TIn.old {t : TG} {cs : List Value} (h : TIn w S t cs) (hb : Below w.heap.size w w') : TIn w' S t cs := (h.size_.keep fun p hp => hb.cell hp.2).more fun _ h => h.1
theorem TIn.grown {t : TG} {cs : List Value} (h : TIn w S t cs) {row : Option Nat} (hg : w.grownBy w' row) (hS : ∀ b, S b → some b ≠ row) : TIn w' S t cs :=
  (h.size_.keep fun p hp => World.cell?_of_block (hg.block p.block hp.2 (hS _ hp.1))).more fun _ h => h.1
theorem TIn.inv {k : Nat} {d : List UInt8} {r : Rg} {ks : List TG} {V0 V3 V4 V5 V7 V8 : Value} {A1 A2 A3 A4 : Option Addr} {n1 c1 n2 c2 n3 c3 n4 c4 : Nat}
    (hs : TIn w S (.mk k d r ks) [V0, .slice A1 n1 c1, .slice A2 n2 c2, V3, V4, V5, .slice A3 n3 c3, V7, V8, .slice A4 n4 c4]) :
    (V0 = .int .u8 k ∧ V3 = .int .u8 r.o ∧ V4 = .bool r.lo.is ∧ V5 = .bool r.lo.op ∧ V7 = .bool r.hi.is ∧ V8 = .bool r.hi.op) ∧ (k < 256 ∧ r.o < 256) ∧
      (RIn w S 1 A1 n1 (Lib.byteCells d) ∧ RIn w S 1 A3 n3 (Lib.byteCells r.lo.at_) ∧ RIn w S 1 A4 n4 (Lib.byteCells r.hi.at_)) ∧ (d.length = n1 ∧ ks.length = n2 ∧ r.lo.at_.length = n3 ∧ r.hi.at_.length = n4) ∧
      (n1 ≤ c1 ∧ n1 ≤ 140737488355328 ∧ n2 ≤ c2 ∧ n2 * 128 ≤ 140737488355328 ∧ n3 ≤ c3 ∧ n3 ≤ 140737488355328 ∧ n4 ≤ c4 ∧ n4 ≤ 140737488355328) := by
  cases hs with
  | mk h8 h1 b1 h3 b3 h4 b4 h2 b2 hk hs =>
    exact ⟨⟨rfl, rfl, rfl, rfl, rfl, rfl⟩, h8, ⟨h1, h3, h4⟩, ⟨by simpa [Lib.byteCells_length] using h1.1, hk, by simpa [Lib.byteCells_length] using h3.1, by simpa [Lib.byteCells_length] using h4.1⟩, ⟨b1.1, b1.2, b2.1, b2.2, b3.1, b3.2, b4.1, b4.2⟩⟩
theorem TIn.kid {k0 : Nat} {d : List UInt8} {r : Rg} {ks : List TG} {V0 V1 V3 V4 V5 V6 V7 V8 V9 : Value} {A2 : Option Addr} {n2 c2 : Nat}
    (hs : TIn w S (.mk k0 d r ks) [V0, V1, .slice A2 n2 c2, V3, V4, V5, V6, V7, V8, V9]) {k : Nat} (hlt : k < n2) :
    ∃ ad v0 v1 v2 v3 v4 v5 v6 v7 v8 v9 t, A2 = some ad ∧ S ad.block ∧ ks[k]? = some t ∧ t ∈ ks ∧ TIn w S t [v0, v1, v2, v3, v4, v5, v6, v7, v8, v9] ∧
      w.cell? (ad.add (k * 10)) = some v0 ∧ w.cell? ⟨(ad.add (k * 10)).block, (ad.add (k * 10)).off + 1, none⟩ = some v1 ∧ w.cell? ⟨(ad.add (k * 10)).block, (ad.add (k * 10)).off + 2, none⟩ = some v2 ∧ w.cell? ⟨(ad.add (k * 10)).block, (ad.add (k * 10)).off + 3, none⟩ = some v3 ∧ w.cell? ⟨(ad.add (k * 10)).block, (ad.add (k * 10)).off + 4, none⟩ = some v4 ∧ w.cell? ⟨(ad.add (k * 10)).block, (ad.add (k * 10)).off + 5, none⟩ = some v5 ∧ w.cell? ⟨(ad.add (k * 10)).block, (ad.add (k * 10)).off + 6, none⟩ = some v6 ∧ w.cell? ⟨(ad.add (k * 10)).block, (ad.add (k * 10)).off + 7, none⟩ = some v7 ∧ w.cell? ⟨(ad.add (k * 10)).block, (ad.add (k * 10)).off + 8, none⟩ = some v8 ∧ w.cell? ⟨(ad.add (k * 10)).block, (ad.add (k * 10)).off + 9, none⟩ = some v9 := by
  cases hs with
  | mk h8 h1 b1 h3 b3 h4 b4 h2 b2 hk hs =>
    obtain ⟨ad, v0, v1, v2, v3, v4, v5, v6, v7, v8, v9, rfl, hS, hcs, d0, d1, d2, d3, d4, d5, d6, d7, d8, d9⟩ := h2.at10 hlt
    have hkl : k < ks.length := by omega
    have := hs k ks[k] (List.getElem?_eq_getElem hkl)
    rw [hcs] at this
    exact ⟨ad, v0, v1, v2, v3, v4, v5, v6, v7, v8, v9, ks[k], rfl, hS, List.getElem?_eq_getElem hkl, List.getElem_mem hkl, this, d0, d1, d2, d3, d4, d5, d6, d7, d8, d9⟩
theorem TIn.form_ {t : TG} {cs : List Value} (hs : TIn w S t cs) : ∃ k d r ks A1 n1 c1 A2 n2 c2 A3 n3 c3 A4 n4 c4, t = .mk k d r ks ∧ cs = [.int .u8 k, .slice A1 n1 c1, .slice A2 n2 c2, .int .u8 r.o, .bool r.lo.is, .bool r.lo.op, .slice A3 n3 c3, .bool r.hi.is, .bool r.hi.op, .slice A4 n4 c4] := by
  cases hs with
  | mk h8 h1 b1 h3 b3 h4 b4 h2 b2 hk hs => exact ⟨_, _, _, _, _, _, _, _, _, _, _, _, _, _, _, _, rfl, rfl⟩
end
end Go.Proofs.YtinlonpcakkfhaaGreatDoor
end
section
set_option maxRecDepth 100000
namespace Go.Proofs.YtinlonpcakkfhaaGreatDoor
open Go Go.Proofs Go.RowKit Sx _root_.Ord11 _root_.Tag12
def bT (l : List UInt8) : ByteArray := ⟨l.toArray⟩
theorem bT_list (l : List UInt8) : (bT l).toList = l := by rw [Lib.toList_data]; rfl
theorem bT_data (l : List UInt8) : (bT l).data.toList = l := rfl
theorem bT_size (l : List UInt8) : (bT l).size = l.length := by simp [bT, ByteArray.size]
set_option maxHeartbeats 2000000 in
set_option maxRecDepth 100000 in
theorem refAtom_any (s : ByteArray) (w : World) (hn : s.size ≤ 140737488355328) :
    Calls Tryz.prog 32 #[.string s] w fun e w' => ∃ v0 v1 v2 v3 v4, e = .returned (.agg #[v0, v1, v2, v3, v4]) ∧ SIn w' (fun b => w.heap.size ≤ b) (.mk false false [] s.data.toList []) [v0, v1, v2, v3, v4] ∧ Below w.heap.size w w' := by
  have hb0 := below_new w (.cells #[.bool false, .bool false, .slice none 0 0, .slice none 0 0, .slice none 0 0] 34)
  have X2 : Box (w.alloc (.cells #[.bool false, .bool false, .slice none 0 0, .slice none 0 0, .slice none 0 0] 34)) w.heap.size (.bool false) (.bool false) (.slice none 0 0) (.slice none 0 0) (.slice none 0 0) := heap_alloc_new w _
  have hsz : (w.alloc (.cells #[.bool false, .bool false, .slice none 0 0, .slice none 0 0, .slice none 0 0] 34)).heap.size = w.heap.size + 1 := by simp
  have hdl : s.data.toList.length = s.size := by show s.data.toList.length = s.data.size; simp
  go_enter Tryz.func32, Tryz.ntmps32
  go_wp2_with fail
  generalize w.alloc (.cells #[.bool false, .bool false, .slice none 0 0, .slice none 0 0, .slice none 0 0] 34) = W at *
  rw [Lib.run_convert_string_bytes W 9 22 5 _ Tryz.underlying9 Tryz.underlying22 Tryz.underlying5]
  simp only [Result.andThen]
  rw [Oper.upon_value]
  have hB := HoldsBytes.new W s
  have hb3 := bytesWorld_below W s
  have hcap := grownCap_ge W s.size 0 5
  generalize Lib.bytesWorld W 5 s = w3 at *
  generalize grownCap W s.size 0 5 = cap at *
  have hr := hB.reads
  rw [hdl] at hr
  have hsz3 := hb3.size
  have X2 := X2.old hb3
  have hb0 := hb0.trans (hb3.mono (by omega))
  obtain ⟨⟨d0, d1, d2, d3, d4⟩, dz⟩ := X2.all
  have dz0 := dz 0
  have dz1 := dz 1
  have dz2 := dz 2
  have dz3 := dz 3
  have dz4 := dz 4
  clear dz X2 hB
  rw [hsz] at hr
  go_wp2_with fail
  have hbf := put5_below hb0 (Nat.le_refl _) (.bool false) (.bool false) (.slice none 0 0) (.slice (some ⟨w.heap.size + 1, 0, none⟩) s.size cap) (.slice none 0 0)
  have F := fun p (hp : w.heap.size + 1 ≤ p.block) => put5_far (w := w3) (b := w.heap.size) (x0 := .bool false) (x1 := .bool false) (x2 := .slice none 0 0) (x3 := .slice (some ⟨w.heap.size + 1, 0, none⟩) s.size cap) (x4 := .slice none 0 0) p (by omega)
  refine bodyPost_ret (v := .agg #[.bool false, .bool false, .slice none 0 0, .slice (some ⟨w.heap.size + 1, 0, none⟩) s.size cap, .slice none 0 0]) (by simp [results, Tryz.results32, go_sem, d0, d1, d2, d3, d4]) rfl ⟨_, _, _, _, _, rfl, ?_, hbf⟩
  have hri : RIn w3 (fun b => w.heap.size + 1 ≤ b) 1 (some ⟨w.heap.size + 1, 0, none⟩) s.size (Lib.byteCells s.data.toList) := ⟨hr.1, fun hn => by
    obtain ⟨ad, e, _, hc⟩ := hr.2 hn
    injection e with e
    subst e
    exact ⟨_, rfl, by show w.heap.size + 1 ≤ w.heap.size + 1; omega, hc⟩⟩
  exact .mk (xs := []) RIn.none_ ⟨Nat.le_refl _, by omega⟩ ((hri.keep F).more fun b hb => by omega) ⟨hcap, hn⟩ RIn.none_ ⟨Nat.le_refl _, by omega⟩ rfl (fun i t hit => by simp at hit)
set_option maxHeartbeats 2000000 in
theorem refIs_any (t : SX) (s : List UInt8) (w : World) (S : Nat → Prop) (cs : List Value) (hs : SIn w S t cs) :
    Calls Tryz.prog 64 #[.agg cs.toArray, .string (bT s)] w fun e w' => e = .returned (.bool (isA t s)) ∧ Below w.heap.size w w' := by
  obtain ⟨l, h, hi, da, ks, A1, n1, c1, A2, n2, c2, A3, n3, c3, rfl, rfl⟩ := hs.form_
  have hb0 := below_new w (.cells #[Value.bool l, Value.bool h, Value.slice A1 n1 c1, Value.slice A2 n2 c2, Value.slice A3 n3 c3] 34)
  obtain ⟨_, _, r1, r2, g1, g2, hk, _⟩ := (hs.old hb0).inv
  have k2 := run_back (r2.reads (by omega)) (c := c2)
  have s1 : (⟨da.toArray⟩ : ByteArray).toList = da := bT_list da
  have s2 := bT_list s
  generalize (⟨da.toArray⟩ : ByteArray) = D at k2 s1
  generalize bT s = B at s2 ⊢
  have hX : Hid (isA (.mk l h hi da ks) s = (!l && !h && (D.toList == B.toList))) := by show _ = _; rw [s1, s2]; rfl
  have HB := hid hb0
  clear hs r1 r2 g1 g2 hk s1 s2 hb0
  cases l with
  | true =>
    go_enter Tryz.func64, Tryz.ntmps64
    go_wp2_with fail
    go_ret
    exact ⟨ret_bool (by rw [hX.out]; rfl), HB.out⟩
  | false =>
    cases h with
    | true =>
      go_enter Tryz.func64, Tryz.ntmps64
      go_wp2_with fail
      go_ret
      exact ⟨ret_bool (by rw [hX.out]; rfl), HB.out⟩
    | false =>
      go_enter Tryz.func64, Tryz.ntmps64
      go_wp2_with fail
      go_ret
      exact ⟨ret_bool (by rw [hX.out]; rfl), HB.out⟩
set_option maxHeartbeats 2000000 in
theorem refHead_any (t : SX) (s : List UInt8) (w : World) (S : Nat → Prop) (cs : List Value) (hs : SIn w S t cs) :
    Calls Tryz.prog 62 #[.agg cs.toArray, .string (bT s)] w fun e w' => e = .returned (.bool (headIs t s)) ∧ Below w.heap.size w w' := by
  obtain ⟨l, h, hi, da, ks, A1, n1, c1, A2, n2, c2, A3, n3, c3, rfl, rfl⟩ := hs.form_
  have hb0 := below_new w (.cells #[Value.bool l, Value.bool h, Value.slice A1 n1 c1, Value.slice A2 n2 c2, Value.slice A3 n3 c3] 34)
  have hs0 := hs.old hb0
  obtain ⟨_, _, r1, r2, g1, g2, hk, _⟩ := hs0.inv
  have HB := hid hb0
  cases l with
  | false =>
    have hX : Hid (headIs (.mk false h hi da ks) s = false) := rfl
    clear hs hs0 r1 r2 g1 g2 hk hb0
    go_enter Tryz.func62, Tryz.ntmps62
    go_wp2_with fail
    go_ret
    exact ⟨ret_bool (by rw [hX.out]), HB.out⟩
  | true =>
    by_cases h0 : n3 = 0
    · have hX : Hid (headIs (.mk true h hi da ks) s = false) := by
        show _ = _
        rw [List.eq_nil_of_length_eq_zero (hk.trans h0)]; rfl
      subst h0
      clear hs hs0 r1 r2 g1 g2 hk hb0
      go_enter Tryz.func62, Tryz.ntmps62
      go_wp2_with fail
      go_ret
      exact ⟨ret_bool (by rw [hX.out]), HB.out⟩
    · obtain ⟨ad, v0, v1, v2, v3, v4, x, rfl, _, hx, _, hin, d0, d1, d2, d3, d4⟩ := hs0.kid (k := 0) (by omega)
      have hX : Hid (headIs (.mk true h hi da ks) s = isA x s) := by
        show _ = _
        cases ks with
        | nil => simp at hx
        | cons y r =>
          have : y = x := by simpa using hx
          rw [this]; rfl
      have KI := hid (refIs_any x s _ S _ hin)
      have h0B : decide (0 < n3) = true := decide_eq_true (by omega)
      have h0P : 0 < n3 := by omega
      rw [Nat.zero_mul, show ad.add 0 = ad from if_pos rfl] at d0 d1 d2 d3 d4
      clear hs hs0 r1 r2 g1 g2 hk hb0 hx hin h0
      go_enter Tryz.func62, Tryz.ntmps62
      go_wp2_with (go_at_call 64; refine (KI.out).mono ?_; rintro e w1 ⟨rfl, hb1⟩)
      go_ret
      exact ⟨ret_bool (by rw [hX.out]), HB.out.trans (hb1.mono HB.out.size)⟩
set_option maxHeartbeats 2000000 in
theorem refName_any (o : Nat) (ho : o < 256) (w : World) : Calls Tryz.prog 33 #[.int .u8 o] w fun e w' => e = .returned (.string (bT (nameW o))) ∧ Below w.heap.size w w' := by
  have hb0 : Below w.heap.size w (w.alloc (.cells #[.string ⟨#[]⟩, .string ⟨#[97, 108, 112, 104, 97]⟩, .string ⟨#[110, 117, 109, 101, 114, 105, 99]⟩, .string ⟨#[116, 105, 109, 101]⟩, .string ⟨#[98, 105, 110, 97, 114, 121]⟩, .string ⟨#[100, 97, 116, 101]⟩] 9)) := below_new _ _
  by_cases h5 : 5 < o
  · have hX : Hid (nameW o = []) := by
      show _ = _
      unfold nameW
      rw [if_neg (by omega), if_neg (by omega), if_neg (by omega), if_neg (by omega), if_neg (by omega)]
    have h5B : decide (5 < (o : Int)) = true := decide_eq_true (by omega)
    go_enter Tryz.func33, Tryz.ntmps33
    go_wp2_with fail
    go_ret
    exact ⟨by rw [hX.out]; rfl, hb0⟩
  · have : o = 0 ∨ o = 1 ∨ o = 2 ∨ o = 3 ∨ o = 4 ∨ o = 5 := by omega
    clear ho h5
    rcases this with rfl | rfl | rfl | rfl | rfl | rfl
    all_goals
      go_enter Tryz.func33, Tryz.ntmps33
      go_wp2_with fail
      go_ret
      exact ⟨rfl, hb0⟩
end Go.Proofs.YtinlonpcakkfhaaGreatDoor
end
section
namespace Go.Proofs.YtinlonpcakkfhaaGreatDoor
open Go
namespace Num9
open Ieee
theorem signed_add (s : Bool) (m a b : Nat) : signed s m (a + b) = signed s m a * 2 ^ b := by
  unfold signed
  cases s <;> simp [Nat.shiftLeft_eq, Nat.pow_add, Int.neg_mul, Int.mul_assoc]
theorem signed_abs (s : Bool) (m a : Nat) : (signed s m a).natAbs = m * 2 ^ a := by
  unfold signed
  cases s <;> simp [Nat.shiftLeft_eq, Int.natAbs_mul, Int.natAbs_pow]
theorem compare_mul (a b c : Int) (hc : 0 < c) : compare (a * c) (b * c) = compare a b := by
  have h1 : a * c < b * c ↔ a < b := Int.mul_lt_mul_right hc
  have h2 : a * c = b * c ↔ a = b := ⟨fun h => Int.eq_of_mul_eq_mul_right (by omega) h, fun h => by rw [h]⟩
  show compareOfLessAndEq (a * c) (b * c) = compareOfLessAndEq a b
  unfold compareOfLessAndEq
  simp only [h1, h2]
def top : Nat := 2046
def big : Nat := 2 ^ 53 * 2 ^ top
theorem big_ge {a : Nat} (h : a ≤ 2046) : 2 ^ 53 * 2 ^ a ≤ big := Nat.mul_le_mul_left _ (Nat.pow_le_pow_right (by decide) h)
theorem big_pos : 0 < big := Nat.mul_pos (by decide) (Nat.pow_pos (by decide))
def key (x : Nat) : Option Int :=
  match double.read x with
  | .nan .. => none
  | .infinity s => some (if s then -(big : Int) else (big : Int))
  | .number s m p => some (signed s m (p - double.leastPlace).toNat)
theorem read_number {x : Nat} {s : Bool} {m : Nat} {p : Int} (h : double.read x = .number s m p) : m < 2 ^ 53 ∧ double.leastPlace ≤ p ∧ p ≤ double.leastPlace + 2046 := by
  unfold Format.read at h
  simp only at h
  have e1 : double.binade = 2 ^ 52 := rfl
  have e2 : double.infRung = 2047 * 2 ^ 52 := rfl
  split at h
  · injection h with _ h2 h3
    subst h2 h3
    exact ⟨by omega, by omega, by omega⟩
  · split at h
    · injection h with _ h2 h3
      have hb : x % double.signWeight % double.binade < double.binade := Nat.mod_lt _ (by rw [e1]; decide)
      refine ⟨by omega, by omega, ?_⟩
      have hd : x % double.signWeight / double.binade < 2047 := Nat.div_lt_of_lt_mul (by rw [e1]; omega)
      omega
    · split at h <;> cases h
theorem key_small {s : Bool} {m : Nat} {p : Int} (hm : m < 2 ^ 53) (h1 : double.leastPlace ≤ p) (h2 : p ≤ double.leastPlace + 2046) : (signed s m (p - double.leastPlace).toNat).natAbs < big := by
  rw [signed_abs]
  have h3 : (p - double.leastPlace).toNat ≤ 2046 := by omega
  calc m * 2 ^ (p - double.leastPlace).toNat < 2 ^ 53 * 2 ^ (p - double.leastPlace).toNat := Nat.mul_lt_mul_of_pos_right hm (Nat.pow_pos (by decide))
    _ ≤ big := big_ge h3
theorem order_key (x y : Nat) : double.order x y = match key x, key y with
    | some a, some b => some (compare a b)
    | _, _ => none := by
  unfold Format.order key
  obtain ⟨B, hBN⟩ : ∃ B : Int, (big : Int) = B := ⟨_, rfl⟩
  rw [hBN]
  have lt_c : ∀ {a b : Int}, a < b → compare a b = .lt := fun {a b} h => by
    show compareOfLessAndEq a b = _
    unfold compareOfLessAndEq; rw [if_pos h]
  have gt_c : ∀ {a b : Int}, b < a → compare a b = .gt := fun {a b} h => by
    show compareOfLessAndEq a b = _
    unfold compareOfLessAndEq; rw [if_neg (by omega), if_neg (by omega)]
  have eq_c : ∀ {a : Int}, compare a a = .eq := fun {a} => by
    show compareOfLessAndEq a a = _
    unfold compareOfLessAndEq; rw [if_neg (by omega), if_pos rfl]
  have hB0 : 0 < B := by rw [← hBN]; exact Int.natCast_pos.2 big_pos
  generalize hx : double.read x = dx
  generalize hy : double.read y = dy
  cases dx with
  | nan s t => cases dy <;> rfl
  | infinity s =>
    cases dy with
    | nan t u => rfl
    | infinity t =>
      simp only [Datum.order, Option.some.injEq]
      cases s <;> cases t
      · exact (eq_c (a := B)).symm
      · exact (gt_c (show -B < B by omega)).symm
      · exact (lt_c (show -B < B by omega)).symm
      · exact (eq_c (a := -B)).symm
    | number t n j =>
      obtain ⟨h1, h2, h3⟩ := read_number hy
      have hk := key_small (s := t) h1 h2 h3
      simp only [Datum.order, Option.some.injEq]
      generalize signed t n (j - double.leastPlace).toNat = v at hk ⊢
      have hv : (v.natAbs : Int) < B := by rw [← hBN]; exact_mod_cast hk
      cases s
      · exact (gt_c (show v < B by omega)).symm
      · exact (lt_c (show -B < v by omega)).symm
  | number s m i =>
    obtain ⟨g1, g2, g3⟩ := read_number hx
    cases dy with
    | nan t u => rfl
    | infinity t =>
      have hk := key_small (s := s) g1 g2 g3
      simp only [Datum.order, Option.some.injEq]
      generalize signed s m (i - double.leastPlace).toNat = v at hk ⊢
      have hv : (v.natAbs : Int) < B := by rw [← hBN]; exact_mod_cast hk
      cases t
      · exact (lt_c (show v < B by omega)).symm
      · exact (gt_c (show -B < v by omega)).symm
    | number t n j =>
      obtain ⟨h1, h2, h3⟩ := read_number hy
      simp only [Datum.order, Option.some.injEq]
      have e1 : (i - double.leastPlace).toNat = (i - min i j).toNat + (min i j - double.leastPlace).toNat := by omega
      have e2 : (j - double.leastPlace).toNat = (j - min i j).toNat + (min i j - double.leastPlace).toNat := by omega
      rw [e1, e2, signed_add, signed_add, compare_mul]
      exact_mod_cast Nat.pow_pos (by decide)
theorem order_self (x : Nat) : double.order x x = if (key x).isSome then some .eq else none := by
  rw [order_key]
  cases key x
  · rfl
  · show some (compareOfLessAndEq _ _) = _
    unfold compareOfLessAndEq
    simp
end Num9
end Go.Proofs.YtinlonpcakkfhaaGreatDoor
end
section
namespace Go.Proofs.YtinlonpcakkfhaaGreatDoor
open Go
namespace Num9
open Ieee
def conv (n : Nat) : Nat := double.nearest false n 0
def quo (n t : Nat) : Nat := ((double.div (conv n) (conv t)).getD 0)
def norm (n : Nat) : Nat := n * 2 ^ (52 - n.log2)
theorem log2_lt {n : Nat} (h0 : 0 < n) (h : n < 2 ^ 53) : n.log2 ≤ 52 := by
  have := (Nat.log2_lt (by omega)).2 h
  omega
theorem norm_bounds {n : Nat} (h0 : 0 < n) (h : n < 2 ^ 53) : 2 ^ 52 ≤ norm n ∧ norm n < 2 ^ 53 := by
  have hl := log2_lt h0 h
  have h1 := Nat.log2_self_le (n := n) (by omega)
  have h2 := Nat.lt_log2_self (n := n)
  unfold norm
  constructor
  · calc 2 ^ 52 = 2 ^ n.log2 * 2 ^ (52 - n.log2) := by rw [← Nat.pow_add]; congr 1; omega
      _ ≤ _ := Nat.mul_le_mul_right _ h1
  · calc n * 2 ^ (52 - n.log2) < 2 ^ (n.log2 + 1) * 2 ^ (52 - n.log2) := Nat.mul_lt_mul_of_pos_right h2 (Nat.pow_pos (by decide))
      _ = 2 ^ 53 := by rw [← Nat.pow_add]; congr 1; omega
theorem cut_zero (neg : Bool) (n : Nat) : Toward.even.cut neg n 0 = n := by
  unfold Toward.cut
  simp [Nat.mod_one]
theorem least : double.leastPlace = -1074 := rfl
theorem bin52 : double.binade = 2 ^ 52 := rfl
theorem inf52 : double.infRung = 2047 * 2 ^ 52 := rfl
theorem frac52 : double.fractionBits = 52 := rfl
theorem conv_eq {n : Nat} (h0 : 0 < n) (h : n < 2 ^ 53) : conv n = (n.log2 + 1022) * 2 ^ 52 + norm n := by
  have hl := log2_lt h0 h
  obtain ⟨hb1, hb2⟩ := norm_bounds h0 h
  unfold conv Format.nearest
  rw [if_neg (by omega)]
  simp only [least, bin52, inf52, frac52]
  have e1 : max (0 + (n.log2 : Int) - ((52 : Nat) : Int)) (-1074) = (n.log2 : Int) - 52 := by omega
  rw [e1]
  have e2 : ((0 : Int) - ((n.log2 : Int) - 52)).toNat = 52 - n.log2 := by omega
  have e3 : ((n.log2 : Int) - 52 - 0).toNat = 0 := by omega
  have e4 : ((n.log2 : Int) - 52 - -1074).toNat = n.log2 + 1022 := by omega
  rw [e2, e3, e4, cut_zero, Nat.shiftLeft_eq]
  show double.word false (min ((n.log2 + 1022) * 2 ^ 52 + norm n) _) = _
  unfold Format.word
  simp only [Bool.false_eq_true, if_false]
  omega
theorem read_def (x : Nat) : double.read x = if x % 2 ^ 63 < 2 ^ 52 then .number (x / 2 ^ 63 % 2 == 1) (x % 2 ^ 63) (-1074) else if x % 2 ^ 63 < 2047 * 2 ^ 52 then .number (x / 2 ^ 63 % 2 == 1) (2 ^ 52 + x % 2 ^ 63 % 2 ^ 52) (-1074 + ((x % 2 ^ 63 / 2 ^ 52 - 1 : Nat) : Int)) else if x % 2 ^ 63 = 2047 * 2 ^ 52 then .infinity (x / 2 ^ 63 % 2 == 1) else .nan (x / 2 ^ 63 % 2 == 1) (x % 2 ^ 63 - 2047 * 2 ^ 52) := rfl
theorem read_rung {l N : Nat} (hl : l ≤ 52) (hb1 : 2 ^ 52 ≤ N) (hb2 : N < 2 ^ 53) : double.read ((l + 1022) * 2 ^ 52 + N) = .number false N ((l : Int) - 52) := by
  rw [read_def]
  have e1 : ((l + 1022) * 2 ^ 52 + N) / 2 ^ 63 = 0 := by omega
  have e2 : ((l + 1022) * 2 ^ 52 + N) % 2 ^ 63 = (l + 1022) * 2 ^ 52 + N := by omega
  rw [e1, e2, if_neg (by omega), if_pos (by omega)]
  have e3 : ((l + 1022) * 2 ^ 52 + N) % 2 ^ 52 = N - 2 ^ 52 := by omega
  have e4 : ((l + 1022) * 2 ^ 52 + N) / 2 ^ 52 = l + 1023 := by omega
  rw [e3, e4]
  have e5 : 2 ^ 52 + (N - 2 ^ 52) = N := by omega
  have e6 : (-1074 : Int) + ((l + 1023 - 1 : Nat) : Int) = (l : Int) - 52 := by omega
  rw [e5, e6]
  rfl
theorem read_conv {n : Nat} (h0 : 0 < n) (h : n < 2 ^ 53) : double.read (conv n) = .number false (norm n) ((n.log2 : Int) - 52) := by
  obtain ⟨hb1, hb2⟩ := norm_bounds h0 h
  rw [conv_eq h0 h, read_rung (log2_lt h0 h) hb1 hb2]
theorem conv_zero : conv 0 = 0 := by decide
def rnd (A B : Nat) (p : Int) : Nat := double.nearest false (2 * (A / B) + (A % B != 0).toNat) p
theorem rnd_scale (A B c : Nat) (p : Int) (hc : 0 < c) : rnd (A * c) (B * c) p = rnd A B p := by
  unfold rnd
  rw [Nat.mul_div_mul_right _ _ hc, Nat.mul_mod_mul_right]
  have : (A % B * c != 0) = (A % B != 0) := by
    by_cases h : A % B = 0
    · simp [h]
    · have : A % B * c ≠ 0 := Nat.mul_ne_zero h (by omega)
      rw [bne_iff_ne.2 this, bne_iff_ne.2 h]
  rw [this]
theorem log2_eq {n k : Nat} (h1 : 2 ^ k ≤ n) (h2 : n < 2 ^ (k + 1)) : n.log2 = k := by
  have h0 : n ≠ 0 := by have := Nat.pow_pos (n := k) (show 0 < 2 by decide); omega
  have a := (Nat.le_log2 h0).2 h1
  have b := (Nat.log2_lt h0).2 h2
  omega
theorem rnd_double (A B : Nat) (p : Int) (hB : 0 < B) (hq : 2 ^ 53 ≤ A / B) : rnd (A * 2) B (p - 1) = rnd A B p := by
  obtain ⟨q, hqe⟩ : ∃ q, q = A / B := ⟨_, rfl⟩
  obtain ⟨r, hr⟩ : ∃ r, r = A % B := ⟨_, rfl⟩
  have hrB : r < B := by rw [hr]; exact Nat.mod_lt _ hB
  have hA : A = B * q + r := by rw [hqe, hr]; exact (Nat.div_add_mod A B).symm
  obtain ⟨b, s2, h2d, h2m, hb⟩ : ∃ b s2 : Nat, A * 2 / B = 2 * q + b ∧ (A * 2 % B != 0).toNat = s2 ∧ b ≤ 1 ∧ s2 ≤ 1 ∧ ((r = 0 ∧ b = 0 ∧ s2 = 0) ∨ (r ≠ 0 ∧ 0 < b + s2)) := by
    by_cases h : 2 * r < B
    · have e : A * 2 = B * (2 * q) + 2 * r := by rw [hA, Nat.add_mul, Nat.mul_assoc, Nat.mul_comm q 2]; omega
      refine ⟨0, (A * 2 % B != 0).toNat, ?_, rfl, by omega, by cases (A * 2 % B != 0) <;> simp, ?_⟩
      · rw [e, Nat.mul_add_div hB, Nat.div_eq_of_lt h]
      · rw [e, Nat.mul_add_mod, Nat.mod_eq_of_lt h]
        by_cases h0 : r = 0
        · exact .inl ⟨h0, rfl, by simp [h0]⟩
        · exact .inr ⟨h0, by rw [bne_iff_ne.2 (show 2 * r ≠ 0 by omega)]; decide⟩
    · have e : A * 2 = B * (2 * q + 1) + (2 * r - B) := by rw [hA, Nat.add_mul, Nat.mul_assoc, Nat.mul_comm q 2, Nat.mul_add]; omega
      refine ⟨1, (A * 2 % B != 0).toNat, ?_, rfl, by omega, by cases (A * 2 % B != 0) <;> simp, .inr ⟨by omega, by omega⟩⟩
      rw [e, Nat.mul_add_div hB, Nat.div_eq_of_lt (by omega)]
  obtain ⟨hb1, hs2, hbs⟩ := hb
  obtain ⟨s, hs, hs1, hsr⟩ : ∃ s : Nat, (A % B != 0).toNat = s ∧ s ≤ 1 ∧ (s = 0 ↔ r = 0) := by
    refine ⟨_, rfl, by cases (A % B != 0) <;> simp, ?_⟩
    rw [← hr]
    by_cases h0 : r = 0
    · simp [h0]
    · rw [bne_iff_ne.2 h0]; simp [h0]
  unfold rnd
  rw [h2d, h2m, hs, ← hqe]
  rw [← hqe] at hq
  clear hA hrB hqe hr h2d h2m hs hB
  obtain ⟨k, hk1, hk2⟩ : ∃ k, 2 ^ k ≤ q ∧ q < 2 ^ (k + 1) := ⟨q.log2, Nat.log2_self_le (by omega), Nat.lt_log2_self⟩
  have hk53 : 53 ≤ k := by
    rcases Nat.lt_or_ge k 53 with h | h
    · have := Nat.pow_le_pow_right (n := 2) (by decide) (show k + 1 ≤ 53 by omega)
      omega
    · exact h
  have l1 : (2 * q + s).log2 = k + 1 := log2_eq (by rw [Nat.pow_succ]; omega) (by rw [Nat.pow_succ] at hk2; rw [Nat.pow_succ, Nat.pow_succ]; omega)
  have p2 : (2 : Nat) ^ (k + 2) = 4 * 2 ^ k := by rw [Nat.pow_add]; omega
  have p3 : (2 : Nat) ^ (k + 2 + 1) = 8 * 2 ^ k := by rw [Nat.pow_add, Nat.pow_add]; omega
  have p1 : (2 : Nat) ^ (k + 1) = 2 * 2 ^ k := by rw [Nat.pow_add]; omega
  have l2 : (2 * (2 * q + b) + s2).log2 = k + 2 := log2_eq (by rw [p2]; omega) (by rw [p3]; rw [p1] at hk2; omega)
  clear p1 p2 p3
  unfold Format.nearest
  rw [if_neg (by omega), if_neg (by omega)]
  simp only [l1, l2, frac52, least]
  have e1 : max (p - 1 + ((k + 2 : Nat) : Int) - ((52 : Nat) : Int)) (-1074) = max (p + ((k + 1 : Nat) : Int) - ((52 : Nat) : Int)) (-1074) := by omega
  rw [e1]
  obtain ⟨last, hlast⟩ : ∃ last, last = max (p + ((k + 1 : Nat) : Int) - ((52 : Nat) : Int)) (-1074) := ⟨_, rfl⟩
  rw [← hlast]
  have hl2 : p + 2 ≤ last := by omega
  have e2 : (p - last).toNat = 0 := by omega
  have e3 : (p - 1 - last).toNat = 0 := by omega
  obtain ⟨D, hD⟩ : ∃ D : Nat, last - p = D := ⟨(last - p).toNat, by omega⟩
  have e4 : (last - p).toNat = D := by omega
  have e5 : (last - (p - 1)).toNat = D + 1 := by omega
  rw [e2, e3, e4, e5, Nat.shiftLeft_zero, Nat.shiftLeft_zero]
  have hD2 : 2 ≤ D := by omega
  suffices hc : Toward.even.cut false (2 * (2 * q + b) + s2) (D + 1) = Toward.even.cut false (2 * q + s) D by rw [hc]
  unfold Toward.cut
  simp only [l1, l2, Nat.one_shiftLeft]
  obtain ⟨e, he⟩ : ∃ e, min D (k + 1 + 2) = e + 2 := ⟨min D (k + 1 + 2) - 2, by omega⟩
  have he' : min (D + 1) (k + 2 + 2) = e + 3 := by omega
  rw [he, he']
  have hH := Nat.pow_pos (n := e) (show 0 < 2 by decide)
  have p1 : (2 : Nat) ^ (e + 2) = 4 * 2 ^ e := by rw [Nat.pow_add]; omega
  have p2 : (2 : Nat) ^ (e + 3) = 8 * 2 ^ e := by rw [Nat.pow_add]; omega
  rw [p1, p2]
  generalize (2 : Nat) ^ e = H at *
  obtain ⟨Q, hQ⟩ : ∃ Q, Q = q % (2 * H) := ⟨_, rfl⟩
  obtain ⟨lo, hlo⟩ : ∃ lo, lo = q / (2 * H) := ⟨_, rfl⟩
  have hQH : Q < 2 * H := by rw [hQ]; exact Nat.mod_lt _ (by omega)
  have hqq : q = 2 * H * lo + Q := by rw [hQ, hlo]; exact (Nat.div_add_mod _ _).symm
  have t1 : 2 * H * lo = 2 * (H * lo) := Nat.mul_assoc ..
  have t2 : 4 * H * lo = 4 * (H * lo) := Nat.mul_assoc ..
  have t3 : 8 * H * lo = 8 * (H * lo) := Nat.mul_assoc ..
  rw [t1] at hqq
  have m1 : 2 * q + s = 4 * H * lo + (2 * Q + s) := by rw [t2]; omega
  have m2 : 2 * (2 * q + b) + s2 = 8 * H * lo + (4 * Q + 2 * b + s2) := by rw [t3]; omega
  rw [m1, m2, Nat.mul_add_div (by omega), Nat.mul_add_div (by omega), Nat.mul_add_mod, Nat.mul_add_mod, Nat.div_eq_of_lt (show 2 * Q + s < 4 * H by omega), Nat.div_eq_of_lt (show 4 * Q + 2 * b + s2 < 8 * H by omega), Nat.mod_eq_of_lt (show 2 * Q + s < 4 * H by omega), Nat.mod_eq_of_lt (show 4 * Q + 2 * b + s2 < 8 * H by omega)]
  have c1 : decide (8 * H < 2 * (4 * Q + 2 * b + s2)) = decide (4 * H < 2 * (2 * Q + s)) := by
    apply decide_eq_decide.2; omega
  have c2 : (8 * H == 2 * (4 * Q + 2 * b + s2)) = (4 * H == 2 * (2 * Q + s)) := by
    rw [Bool.eq_iff_iff, beq_iff_eq, beq_iff_eq]; omega
  rw [c1, c2]
theorem quo_eq {n t : Nat} (hn : 0 < n) (hn2 : n < 2 ^ 53) (ht : 0 < t) (ht2 : t < 2 ^ 53) : double.div (conv n) (conv t) = some (rnd (norm n * 2 ^ 54) (norm t) ((n.log2 : Int) - t.log2 - 55)) := by
  unfold Format.div
  rw [read_conv hn hn2, read_conv ht ht2]
  obtain ⟨a1, a2⟩ := norm_bounds hn hn2
  obtain ⟨b1, b2⟩ := norm_bounds ht ht2
  unfold Datum.quotient
  simp only [frac52]
  rw [if_neg (by omega)]
  have e1 : (norm n).log2 = 52 := log2_eq a1 a2
  have e2 : (norm t).log2 = 52 := log2_eq b1 b2
  rw [e1, e2]
  simp only [Option.map_some, Option.some.injEq, Format.write, Nat.shiftLeft_eq]
  show double.nearest (false ^^ false) _ _ = rnd _ _ _
  unfold rnd
  have e3 : (n.log2 : Int) - 52 - ((t.log2 : Int) - 52) - ((52 + 2 + 52 - 52 : Nat) : Int) - 1 = (n.log2 : Int) - t.log2 - 55 := by omega
  rw [e3]
  rfl
theorem quo_zero {t : Nat} (ht : 0 < t) (ht2 : t < 2 ^ 53) : double.div (conv 0) (conv t) = some 0 := by
  unfold Format.div
  have hr : double.read (conv 0) = .number false 0 (-1074) := by rw [conv_zero]; decide
  rw [hr, read_conv ht ht2]
  obtain ⟨b1, b2⟩ := norm_bounds ht ht2
  unfold Datum.quotient
  simp only
  rw [if_neg (by omega)]
  simp [Format.write, Format.nearest, Format.word]
def G (x y u v : Nat) : Nat := rnd (x * 2 ^ u * 2 ^ 54) (y * 2 ^ v) ((v : Int) - u - 55)
theorem G_both (x y u v k : Nat) : G x y (u + k) (v + k) = G x y u v := by
  unfold G
  have e : x * 2 ^ (u + k) * 2 ^ 54 = x * 2 ^ u * 2 ^ 54 * 2 ^ k := by rw [Nat.pow_add]; simp only [Nat.mul_assoc, Nat.mul_left_comm, Nat.mul_comm]
  have e2 : y * 2 ^ (v + k) = y * 2 ^ v * 2 ^ k := by rw [Nat.pow_add, Nat.mul_assoc]
  rw [e, e2, rnd_scale _ _ _ _ (Nat.pow_pos (by decide))]
  congr 1
  omega
theorem G_up (x y u v d : Nat) (hy : 0 < y) (hq : 2 ^ 53 ≤ x * 2 ^ u * 2 ^ 54 / (y * 2 ^ v)) : G x y (u + d) v = G x y u v := by
  induction d with
  | zero => rfl
  | succ d ih =>
    rw [← ih]
    unfold G
    have hB : 0 < y * 2 ^ v := Nat.mul_pos hy (Nat.pow_pos (by decide))
    have e : x * 2 ^ (u + (d + 1)) * 2 ^ 54 = x * 2 ^ (u + d) * 2 ^ 54 * 2 := by rw [show u + (d + 1) = (u + d) + 1 by omega, Nat.pow_succ]; simp only [Nat.mul_assoc, Nat.mul_comm, Nat.mul_left_comm]
    rw [e, ← rnd_double _ _ ((v : Int) - ((u + d : Nat) : Int) - 55) hB]
    · congr 1; omega
    · refine Nat.le_trans hq (Nat.div_le_div_right ?_)
      rw [Nat.pow_add]
      exact Nat.mul_le_mul_right _ (Nat.mul_le_mul_left _ (Nat.le_mul_of_pos_right _ (Nat.pow_pos (by decide))))
theorem G_eq {x y : Nat} (hx : 0 < x) (hx2 : x < 2 ^ 53) (hy : 0 < y) (hy2 : y < 2 ^ 53) : double.div (conv x) (conv y) = some (G x y (52 - x.log2) (52 - y.log2)) := by
  rw [quo_eq hx hx2 hy hy2]
  have h1 := log2_lt hx hx2
  have h2 := log2_lt hy hy2
  unfold G norm
  congr 2
  omega
theorem big_quo {a b A B : Nat} (ha : 2 ^ 52 ≤ A) (hb : 0 < B) (hb2 : B < 2 ^ 53) : 2 ^ 53 ≤ A * 2 ^ 54 / B := by
  rw [Nat.le_div_iff_mul_le hb]
  calc 2 ^ 53 * B ≤ 2 ^ 53 * 2 ^ 53 := Nat.mul_le_mul_left _ (by omega)
    _ = 2 ^ 52 * 2 ^ 54 := by decide
    _ ≤ A * 2 ^ 54 := Nat.mul_le_mul_right _ ha
theorem G_meet (n t a1 b1 a2 b2 : Nat) (ht0 : 0 < t) (q1 : 2 ^ 53 ≤ n * 2 ^ a1 * 2 ^ 54 / (t * 2 ^ b1)) (q2 : 2 ^ 53 ≤ n * 2 ^ a2 * 2 ^ 54 / (t * 2 ^ b2)) : G n t a2 b2 = G n t a1 b1 := by
  have scaleq : ∀ u v k, n * 2 ^ (u + k) * 2 ^ 54 / (t * 2 ^ (v + k)) = n * 2 ^ u * 2 ^ 54 / (t * 2 ^ v) := by
    intro u v k
    have e : n * 2 ^ (u + k) * 2 ^ 54 = n * 2 ^ u * 2 ^ 54 * 2 ^ k := by rw [Nat.pow_add]; simp only [Nat.mul_assoc, Nat.mul_left_comm, Nat.mul_comm]
    have e2 : t * 2 ^ (v + k) = t * 2 ^ v * 2 ^ k := by rw [Nat.pow_add, Nat.mul_assoc]
    rw [e, e2, Nat.mul_div_mul_right _ _ (Nat.pow_pos (by decide))]
  rw [← G_both n t a2 b2 b1, ← G_both n t a1 b1 b2, Nat.add_comm b2 b1]
  rcases Nat.le_total (a1 + b2) (a2 + b1) with h | h
  · rw [show a2 + b1 = (a1 + b2) + (a2 + b1 - (a1 + b2)) by omega]
    exact G_up n t _ _ _ ht0 (by rw [scaleq]; exact q1)
  · rw [show a1 + b2 = (a2 + b1) + (a1 + b2 - (a2 + b1)) by omega]
    exact (G_up n t _ _ _ ht0 (by rw [Nat.add_comm b1 b2, scaleq]; exact q2)).symm
theorem noughts {n t c : Nat} (hc : 0 < c) (hn : n * c < 2 ^ 53) (ht0 : 0 < t) (ht : t * c < 2 ^ 53) : double.div (conv (n * c)) (conv (t * c)) = double.div (conv n) (conv t) := by
  have ht1 : t < 2 ^ 53 := Nat.lt_of_le_of_lt (Nat.le_mul_of_pos_right _ hc) ht
  have ht3 : 0 < t * c := Nat.mul_pos ht0 hc
  rcases Nat.eq_zero_or_pos n with h0 | h0
  · subst h0
    rw [Nat.zero_mul, quo_zero ht0 ht1, quo_zero ht3 ht]
  · have hn1 : n < 2 ^ 53 := Nat.lt_of_le_of_lt (Nat.le_mul_of_pos_right _ hc) hn
    have hn3 : 0 < n * c := Nat.mul_pos h0 hc
    rw [G_eq hn3 hn ht3 ht, G_eq h0 hn1 ht0 ht1]
    refine congrArg some ?_
    have base : ∀ u v, G (n * c) (t * c) u v = G n t u v := by
      intro u v
      unfold G
      have e1 : n * c * 2 ^ u * 2 ^ 54 = n * 2 ^ u * 2 ^ 54 * c := by simp only [Nat.mul_assoc, Nat.mul_comm, Nat.mul_left_comm]
      have e2 : t * c * 2 ^ v = t * 2 ^ v * c := by simp only [Nat.mul_assoc, Nat.mul_comm, Nat.mul_left_comm]
      rw [e1, e2, rnd_scale _ _ _ _ hc]
    rw [base]
    have q1 : 2 ^ 53 ≤ n * 2 ^ (52 - n.log2) * 2 ^ 54 / (t * 2 ^ (52 - t.log2)) := big_quo (a := 0) (b := 0) (norm_bounds h0 hn1).1 (by have := (norm_bounds ht0 ht1).1; unfold norm at this; omega) (norm_bounds ht0 ht1).2
    have q2 : 2 ^ 53 ≤ n * 2 ^ (52 - (n * c).log2) * 2 ^ 54 / (t * 2 ^ (52 - (t * c).log2)) := by
      have h := big_quo (a := 0) (b := 0) (norm_bounds hn3 hn).1 (by have := (norm_bounds ht3 ht).1; omega) (norm_bounds ht3 ht).2
      unfold norm at h
      have e1 : n * c * 2 ^ (52 - (n * c).log2) * 2 ^ 54 = n * 2 ^ (52 - (n * c).log2) * 2 ^ 54 * c := by simp only [Nat.mul_assoc, Nat.mul_comm, Nat.mul_left_comm]
      have e2 : t * c * 2 ^ (52 - (t * c).log2) = t * 2 ^ (52 - (t * c).log2) * c := by simp only [Nat.mul_assoc, Nat.mul_comm, Nat.mul_left_comm]
      rw [e1, e2, Nat.mul_div_mul_right _ _ hc] at h
      exact h
    exact G_meet n t _ _ _ _ ht0 q1 q2
end Num9
end Go.Proofs.YtinlonpcakkfhaaGreatDoor
end
section
namespace Go.Proofs.YtinlonpcakkfhaaGreatDoor
open Go
namespace Num9
open Ieee
def scan : List UInt8 → Bool → Nat → Nat → Nat → Nat → Option (Nat × Nat × Nat)
  | [], _, n, sc, ct, _ => some (n, sc, ct)
  | c :: r, first, n, sc, ct, st =>
    if c.toNat = 46 then (if 0 < st ∨ first = true ∨ r = [] then none else scan r false n sc ct 1)
    else if c.toNat < 48 ∨ 57 < c.toNat ∨ ct = 15 then none
    else scan r false (10 * n + (c.toNat - 48)) (sc + st) (ct + 1) st
inductive NumR where
  | none | nan
  | inf (s : Bool)
  | val (s : Bool) (n sc : Nat)
def digitsR (s : Bool) (l : List UInt8) : NumR :=
  match scan l true 0 0 0 0 with
  | .none => .none
  | .some (n, sc, ct) => if ct = 0 then .none else .val s n sc
def numR (l : List UInt8) : NumR :=
  if l = [105, 110, 102] then .inf false
  else if l = [45, 105, 110, 102] then .inf true
  else if l = [110, 97, 110] then .nan
  else match l with
    | c :: r => if c.toNat = 45 then digitsR true r else digitsR false (c :: r)
    | [] => .none
def sgn (s : Bool) (x : Nat) : Nat := if s then Op.negFloat .f64 x else x
def NumR.Is : NumR → Nat → Bool → Prop
  | .none, x, ok => x = 0 ∧ ok = false
  | .nan, x, ok => key x = .none ∧ ok = true
  | .inf s, x, ok => x = (if s then 0xfff0000000000000 else 0x7ff0000000000000) ∧ ok = true
  | .val s n sc, x, ok => (∃ q, double.div (conv n) (conv (10 ^ sc)) = .some q ∧ x = sgn s q) ∧ ok = true
theorem conv_fits {n : Nat} : floatOfInt .f64 (n : Int) = conv n := by
  unfold floatOfInt FloatKind.nearest FloatKind.encode conv
  have : decide ((n : Int) < 0) = false := by simp
  rw [this]
  rfl
end Num9
end Go.Proofs.YtinlonpcakkfhaaGreatDoor
end
section
namespace Go.Proofs.YtinlonpcakkfhaaGreatDoor
open Go
namespace Dat
def dg (c : UInt8) : Bool := decide (48 ≤ c.toNat) && decide (c.toNat ≤ 57)
def dv (c : UInt8) : Nat := c.toNat - 48
def pr (a b : UInt8) : Nat := 10 * dv a + dv b
def two (l : List UInt8) (i : Nat) : Option Nat :=
  match l[i]?, l[i + 1]? with
  | some a, some b => if dg a = true ∧ dg b = true then some (pr a b) else none
  | _, _ => none
def clockV (a b c : Option Nat) : Option Nat :=
  match a, b, c with
  | some h, some m, some s => if h ≤ 23 ∧ m ≤ 59 ∧ s ≤ 59 then some (3600 * h + 60 * m + s) else none
  | _, _, _ => none
def clockR (l : List UInt8) : Option Nat :=
  if l.length = 8 ∧ l[2]? = some 58 ∧ l[5]? = some 58 then clockV (two l 0) (two l 3) (two l 6) else none
def leap (y : Nat) : Bool := decide (y % 400 = 0) || (decide (y % 4 = 0) && !decide (y % 100 = 0))
def plain (m : Nat) : Nat := [31, 28, 31, 30, 31, 30, 31, 31, 30, 31, 30, 31].getD (m - 1) 0
def days (y m : Nat) : Nat := if m = 2 ∧ leap y = true then 29 else plain m
def yearLen (y : Nat) : Nat := 337 + days y 2
def aheadN : Nat → Nat
  | 0 => 0
  | y + 1 => aheadN y + yearLen y
def mo (y : Nat) : Nat → Nat
  | 0 => 0
  | 1 => 0
  | m + 2 => mo y (m + 1) + days y (m + 1)
def dateV (a b p q r : Option Nat) : Option Nat :=
  match a, b, p, q, r with
  | some c, some e, some m, some d, some n =>
    if 1 ≤ m ∧ m ≤ 12 ∧ 1 ≤ d ∧ d ≤ days (100 * c + e) m then some ((aheadN (100 * c + e) + mo (100 * c + e) m + (d - 1)) * 86400 + n) else none
  | _, _, _, _, _ => none
def dateR (l : List UInt8) : Option Nat :=
  if l.length = 19 ∧ l[4]? = some 45 ∧ l[7]? = some 45 ∧ l[10]? = some 95 then dateV (two l 0) (two l 2) (two l 5) (two l 8) (clockR (l.drop 11)) else none
theorem dv_lt {c : UInt8} (h : dg c = true) : dv c < 10 ∧ c.toNat = dv c + 48 := by
  simp [dg] at h
  unfold dv; omega
theorem pr_le {a b : UInt8} (ha : dg a = true) (hb : dg b = true) : pr a b ≤ 99 := by
  have := (dv_lt ha).1; have := (dv_lt hb).1
  unfold pr; omega
theorem two_some {l : List UInt8} {i v : Nat} (h : two l i = some v) : ∃ a b, l[i]? = some a ∧ l[i + 1]? = some b ∧ dg a = true ∧ dg b = true ∧ v = pr a b := by
  unfold two at h
  split at h
  · rename_i a b ea eb
    split at h
    · rename_i hd
      injection h with h
      exact ⟨a, b, ea, eb, hd.1, hd.2, h.symm⟩
    · cases h
  · cases h
theorem clock_form {l : List UInt8} {x : Nat} (h : clockR l = some x) : ∃ h1 h2 m1 m2 s1 s2 : UInt8, l = [h1, h2, 58, m1, m2, 58, s1, s2] ∧ (dg h1 = true ∧ dg h2 = true ∧ dg m1 = true ∧ dg m2 = true ∧ dg s1 = true ∧ dg s2 = true) ∧
    pr h1 h2 ≤ 23 ∧ pr m1 m2 ≤ 59 ∧ pr s1 s2 ≤ 59 ∧ x = 3600 * pr h1 h2 + 60 * pr m1 m2 + pr s1 s2 := by
  unfold clockR at h
  split at h
  · rename_i hc
    obtain ⟨hl, h2, h5⟩ := hc
    match l, hl with
    | [a, b, c, d, e, f, g, k], _ =>
      simp only [List.getElem?_cons_succ, List.getElem?_cons_zero, Option.some.injEq] at h2 h5
      subst h2 h5
      unfold clockV at h
      split at h
      · rename_i H M S e1 e2 e3
        obtain ⟨a1, b1, p1, p2, p3, p4, rfl⟩ := two_some e1
        obtain ⟨a2, b2, q1, q2, q3, q4, rfl⟩ := two_some e2
        obtain ⟨a3, b3, r1, r2, r3, r4, rfl⟩ := two_some e3
        simp only [List.getElem?_cons_succ, List.getElem?_cons_zero, Option.some.injEq] at p1 p2 q1 q2 r1 r2
        subst p1 p2 q1 q2 r1 r2
        split at h
        · rename_i hb
          injection h with h
          exact ⟨a, b, d, e, g, k, rfl, ⟨p3, p4, q3, q4, r3, r4⟩, hb.1, hb.2.1, hb.2.2, h.symm⟩
        · cases h
      · cases h
  · cases h
structure Sg where
  (y1 y2 y3 y4 m1 m2 d1 d2 h1 h2 i1 i2 s1 s2 : UInt8)
def Sg.text (g : Sg) : List UInt8 := [g.y1, g.y2, g.y3, g.y4, 45, g.m1, g.m2, 45, g.d1, g.d2, 95, g.h1, g.h2, 58, g.i1, g.i2, 58, g.s1, g.s2]
def Sg.year (g : Sg) : Nat := 100 * pr g.y1 g.y2 + pr g.y3 g.y4
def Sg.clock (g : Sg) : Nat := 3600 * pr g.h1 g.h2 + 60 * pr g.i1 g.i2 + pr g.s1 g.s2
def Sg.day (g : Sg) : Nat := mo g.year (pr g.m1 g.m2) + (pr g.d1 g.d2 - 1)
def Sg.num (g : Sg) : Nat := (aheadN g.year + g.day) * 86400 + g.clock
structure Sg.Ok (g : Sg) : Prop where
  y12 : dg g.y1 = true ∧ dg g.y2 = true
  y34 : dg g.y3 = true ∧ dg g.y4 = true
  m : dg g.m1 = true ∧ dg g.m2 = true
  d : dg g.d1 = true ∧ dg g.d2 = true
  h : dg g.h1 = true ∧ dg g.h2 = true
  i : dg g.i1 = true ∧ dg g.i2 = true
  s : dg g.s1 = true ∧ dg g.s2 = true
  mb : 1 ≤ pr g.m1 g.m2 ∧ pr g.m1 g.m2 ≤ 12
  db : 1 ≤ pr g.d1 g.d2 ∧ pr g.d1 g.d2 ≤ days g.year (pr g.m1 g.m2)
  hb : pr g.h1 g.h2 ≤ 23
  ib : pr g.i1 g.i2 ≤ 59
  sb : pr g.s1 g.s2 ≤ 59
theorem date_form {l : List UInt8} {x : Nat} (h : dateR l = some x) : ∃ g : Sg, g.Ok ∧ l = g.text ∧ x = g.num := by
  unfold dateR at h
  split at h
  · rename_i hc
    obtain ⟨hl, h4, h7, h10⟩ := hc
    match l, hl with
    | [a0, a1, a2, a3, a4, a5, a6, a7, a8, a9, a10, a11, a12, a13, a14, a15, a16, a17, a18], _ =>
      simp only [List.getElem?_cons_succ, List.getElem?_cons_zero, Option.some.injEq] at h4 h7 h10
      subst h4 h7 h10
      unfold dateV at h
      split at h
      · rename_i c e m d n e1 e2 e3 e4 e5
        obtain ⟨_, _, p1, p2, p3, p4, rfl⟩ := two_some e1
        obtain ⟨_, _, q1, q2, q3, q4, rfl⟩ := two_some e2
        obtain ⟨_, _, r1, r2, r3, r4, rfl⟩ := two_some e3
        obtain ⟨_, _, s1, s2, s3, s4, rfl⟩ := two_some e4
        simp only [List.getElem?_cons_succ, List.getElem?_cons_zero, Option.some.injEq] at p1 p2 q1 q2 r1 r2 s1 s2
        subst p1 p2 q1 q2 r1 r2 s1 s2
        obtain ⟨h1, h2, i1, i2, s1, s2, t1, ⟨t2, t3, t4, t5, t6, t7⟩, t8, t9, t10, rfl⟩ := clock_form e5
        have t1' : [a11, a12, a13, a14, a15, a16, a17, a18] = [h1, h2, 58, i1, i2, 58, s1, s2] := t1
        injection t1' with u1 t1'
        injection t1' with u2 t1'
        injection t1' with u3 t1'
        injection t1' with u4 t1'
        injection t1' with u5 t1'
        injection t1' with u6 t1'
        injection t1' with u7 t1'
        injection t1' with u8 t1'
        subst u1 u2 u3 u4 u5 u6 u7 u8
        split at h
        · rename_i hb
          injection h with h
          exact ⟨⟨a0, a1, a2, a3, a5, a6, a8, a9, a11, a12, a14, a15, a17, a18⟩, ⟨⟨p3, p4⟩, ⟨q3, q4⟩, ⟨r3, r4⟩, ⟨s3, s4⟩, ⟨t2, t3⟩, ⟨t4, t5⟩, ⟨t6, t7⟩, ⟨hb.1, hb.2.1⟩, ⟨hb.2.2.1, hb.2.2.2⟩, t8, t9, t10⟩, rfl, by rw [← h]; show _ = (_ + (_ + _)) * 86400 + _; rw [Nat.add_assoc]; rfl⟩
        · cases h
      · cases h
  · cases h
theorem days_le (y m : Nat) : days y m ≤ 31 := by
  unfold days plain
  split
  · omega
  · rcases m with _ | _ | _ | _ | _ | _ | _ | _ | _ | _ | _ | _ | _ | m <;> simp
theorem mo13 (y : Nat) : mo y 13 = yearLen y := by
  have h : ∀ m, m ≠ 2 → days y m = plain m := fun m hm => by unfold days; rw [if_neg (fun h => hm h.1)]
  simp only [mo, yearLen]
  rw [h 1 (by decide), h 3 (by decide), h 4 (by decide), h 5 (by decide), h 6 (by decide), h 7 (by decide), h 8 (by decide), h 9 (by decide), h 10 (by decide), h 11 (by decide), h 12 (by decide)]
  simp [plain]; omega
theorem mo_step (y : Nat) {m : Nat} (h : 1 ≤ m) : mo y (m + 1) = mo y m + days y m := by
  obtain ⟨k, rfl⟩ : ∃ k, m = k + 1 := ⟨m - 1, by omega⟩
  rfl
theorem mo_mono (y : Nat) {m : Nat} (h : 1 ≤ m) : ∀ d, mo y m + (if d = 0 then 0 else days y m) ≤ mo y (m + d)
  | 0 => by simp
  | d + 1 => by
    have ih := mo_mono y h d
    rw [if_neg (by omega), show m + (d + 1) = (m + d) + 1 by omega, mo_step y (by omega)]
    by_cases h0 : d = 0
    · subst h0; simp
    · rw [if_neg h0] at ih; omega
theorem mo_lt (y : Nat) {m m' : Nat} (h : 1 ≤ m) (hlt : m < m') : mo y m + days y m ≤ mo y m' := by
  have := mo_mono y h (m' - m)
  rw [if_neg (by omega), show m + (m' - m) = m' by omega] at this
  exact this
theorem ahead_mono (y : Nat) : ∀ d, aheadN y + (if d = 0 then 0 else yearLen y) ≤ aheadN (y + d)
  | 0 => by simp
  | d + 1 => by
    have ih := ahead_mono y d
    rw [if_neg (by omega), show y + (d + 1) = (y + d) + 1 by omega, aheadN]
    by_cases h0 : d = 0
    · subst h0; simp
    · rw [if_neg h0] at ih; omega
theorem ahead_lt {y y' : Nat} (hlt : y < y') : aheadN y + yearLen y ≤ aheadN y' := by
  have := ahead_mono y (y' - y)
  rw [if_neg (by omega), show y + (y' - y) = y' by omega] at this
  exact this
theorem leap_period (y : Nat) : leap (400 + y) = leap y := by
  unfold leap
  have h1 : (400 + y) % 400 = y % 400 := by omega
  have h2 : (400 + y) % 4 = y % 4 := by omega
  have h3 : (400 + y) % 100 = y % 100 := by omega
  rw [h1, h2, h3]
theorem ahead_400 : aheadN 400 = 146097 := by decide +kernel
theorem ahead_more : ∀ r, aheadN (400 + r) = 146097 + aheadN r
  | 0 => ahead_400
  | r + 1 => by
    rw [show 400 + (r + 1) = (400 + r) + 1 by omega, aheadN, aheadN, ahead_more r]
    have : yearLen (400 + r) = yearLen r := by unfold yearLen days; rw [leap_period]
    omega
theorem ahead_period : ∀ q r, aheadN (400 * q + r) = 146097 * q + aheadN r
  | 0, r => by simp
  | q + 1, r => by
    rw [show 400 * (q + 1) + r = 400 + (400 * q + r) by omega, ahead_more, ahead_period q r]; omega
theorem ahead_10000 : aheadN 10000 = 3652425 := ahead_period 25 0
theorem Sg.Ok.year_lt {g : Sg} (h : g.Ok) : g.year < 10000 := by
  have := pr_le h.y12.1 h.y12.2; have := pr_le h.y34.1 h.y34.2
  unfold Sg.year; omega
theorem Sg.Ok.clock_lt {g : Sg} (h : g.Ok) : g.clock < 86400 := by
  have := h.hb; have := h.ib; have := h.sb
  unfold Sg.clock; omega
theorem Sg.Ok.day_lt {g : Sg} (h : g.Ok) : g.day < yearLen g.year := by
  have h1 := mo_lt g.year h.mb.1 (show pr g.m1 g.m2 < 13 from by have := h.mb.2; omega)
  rw [mo13] at h1
  have := h.db
  unfold Sg.day; omega
theorem Sg.Ok.num_lt {g : Sg} (h : g.Ok) : g.num < 315569520000 := by
  have h1 := ahead_lt h.year_lt
  rw [ahead_10000] at h1
  have := h.day_lt; have := h.clock_lt
  unfold Sg.num; omega
theorem date_lt {l : List UInt8} {x : Nat} (h : dateR l = some x) : x < 315569520000 := by
  obtain ⟨g, hg, _, rfl⟩ := date_form h
  exact hg.num_lt
theorem less_total : ∀ a b : List UInt8, Op.bytesLess a b = true ∨ a = b ∨ Op.bytesLess b a = true
  | [], [] => .inr (.inl rfl)
  | [], _ :: _ => .inl rfl
  | _ :: _, [] => .inr (.inr rfl)
  | a :: x, b :: y => by
    unfold Op.bytesLess
    simp only [Bool.or_eq_true, decide_eq_true_eq, Bool.and_eq_true, beq_iff_eq]
    rcases Nat.lt_trichotomy a.toNat b.toNat with h | h | h
    · exact .inl (.inl (UInt8.lt_iff_toNat_lt.2 h))
    · have e : a = b := UInt8.toNat_inj.1 h
      subst e
      rcases less_total x y with h | h | h
      · exact .inl (.inr ⟨rfl, h⟩)
      · exact .inr (.inl (by rw [h]))
      · exact .inr (.inr (.inr ⟨rfl, h⟩))
    · exact .inr (.inr (.inl (UInt8.lt_iff_toNat_lt.2 h)))
theorem clock_lt {l : List UInt8} {x : Nat} (h : clockR l = some x) : x < 86400 := by
  obtain ⟨h1, h2, m1, m2, s1, s2, rfl, _, t8, t9, t10, rfl⟩ := clock_form h
  omega
end Dat
end Go.Proofs.YtinlonpcakkfhaaGreatDoor
end
section
namespace Go.Proofs.YtinlonpcakkfhaaGreatDoor
open Go Ord11 Num9 Dat
namespace Ord11
def three (l m : Bool) : Int := if l then -1 else if m then 1 else 0
def keyed (f : List UInt8 → Option Int) (a b : List UInt8) : Int × Bool :=
  match f a, f b with
  | some x, some y => (three (decide (x < y)) (decide (y < x)), true)
  | _, _ => (0, false)
def numK (l : List UInt8) : Option Int := match numR l with
  | .none => none
  | .nan => none
  | .inf s => key (if s then 0xfff0000000000000 else 0x7ff0000000000000)
  | .val s n sc => match Ieee.double.div (conv n) (conv (10 ^ sc)) with
    | some q => key (sgn s q)
    | none => none
def clockK (l : List UInt8) : Option Int := (clockR l).map fun n => (n : Int)
def dateK (l : List UInt8) : Option Int := (dateR l).map fun n => (n : Int)
def valB : List UInt8 → Nat → Nat
  | [], v => v
  | c :: r, v => valB r (256 * v + c.toNat)
def binK (l : List UInt8) : Option Int := some (valB l 0 : Nat)
def textC (a b : List UInt8) : Int × Bool := (three (Op.bytesLess a b) (Op.bytesLess b a), true)
def ordC (o : Nat) (a b : List UInt8) : Int × Bool :=
  if o = 1 then textC a b else if o = 2 then keyed numK a b else if o = 3 then keyed clockK a b else if o = 4 then keyed binK a b else if o = 5 then keyed dateK a b else (0, false)
theorem less_irrefl : ∀ a : List UInt8, Op.bytesLess a a = false
  | [] => rfl
  | c :: r => by
    unfold Op.bytesLess
    simp [less_irrefl r]
theorem less_trans : ∀ a b c : List UInt8, Op.bytesLess a b = true → Op.bytesLess b c = true → Op.bytesLess a c = true
  | a, [], _, h, _ => by cases a <;> simp [Op.bytesLess] at h
  | _, _ :: _, [], _, h => by simp [Op.bytesLess] at h
  | [], _ :: _, _ :: _, _, _ => rfl
  | x :: a, y :: b, z :: c, h1, h2 => by
    unfold Op.bytesLess at h1 h2 ⊢
    simp only [Bool.or_eq_true, decide_eq_true_eq, Bool.and_eq_true, beq_iff_eq, UInt8.lt_iff_toNat_lt] at h1 h2 ⊢
    rcases h1 with h1 | ⟨rfl, h1⟩
    · rcases h2 with h2 | ⟨rfl, h2⟩
      · exact .inl (by omega)
      · exact .inl h1
    · rcases h2 with h2 | ⟨rfl, h2⟩
      · exact .inl h2
      · exact .inr ⟨rfl, less_trans a b c h1 h2⟩
theorem less_asymm {a b : List UInt8} (h : Op.bytesLess a b = true) : Op.bytesLess b a = false := by
  cases h2 : Op.bytesLess b a with
  | false => rfl
  | true => have := less_trans a b a h h2; rw [less_irrefl] at this; cases this
theorem keyed_one {f : List UInt8 → Option Int} {a b : List UInt8} {x y : Int} (ha : f a = some x) (hb : f b = some y) : keyed f a b = (three (decide (x < y)) (decide (y < x)), true) := by unfold keyed; rw [ha, hb]
theorem keyed_none {f : List UInt8 → Option Int} {a b : List UInt8} (h : f a = none ∨ f b = none) : keyed f a b = (0, false) := by
  unfold keyed
  rcases h with h | h
  · rw [h]
  · rw [h]; cases f a <;> rfl
theorem keyed_ok (f : List UInt8 → Option Int) (a b : List UInt8) : (keyed f a b).2 = ((f a).isSome && (f b).isSome) := by
  unfold keyed
  cases f a <;> cases f b <;> rfl
theorem text_le {a b : List UInt8} : three (Op.bytesLess a b) (Op.bytesLess b a) ≤ 0 ↔ Op.bytesLess b a = false := by
  unfold three
  cases h1 : Op.bytesLess a b with
  | true => simp [less_asymm h1]
  | false => cases h2 : Op.bytesLess b a <;> simp
/-! Bytes as a number, the highest first. -/
def bare (l : List UInt8) : List UInt8 := l.dropWhile fun c => c == 0
theorem valB_add : ∀ (l : List UInt8) (v : Nat), valB l v = v * 256 ^ l.length + valB l 0
  | [], v => by simp [valB]
  | c :: r, v => by
    rw [valB, valB, valB_add r (256 * v + c.toNat), valB_add r (256 * 0 + c.toNat), List.length_cons, Nat.pow_succ]
    have e : (256 * v + c.toNat) * 256 ^ r.length = v * (256 ^ r.length * 256) + c.toNat * 256 ^ r.length := by
      rw [Nat.add_mul, Nat.mul_comm 256 v, Nat.mul_assoc, Nat.mul_comm 256 (256 ^ r.length)]
    rw [e]
    simp only [Nat.mul_zero, Nat.zero_add]
    omega
theorem valB_lt : ∀ l : List UInt8, valB l 0 < 256 ^ l.length
  | [] => by simp [valB]
  | c :: r => by
    have h := valB_lt r
    have hc := c.toNat_lt
    rw [valB, valB_add, List.length_cons, Nat.pow_succ]
    have : (256 * 0 + c.toNat) * 256 ^ r.length ≤ 255 * 256 ^ r.length := Nat.mul_le_mul_right _ (by omega)
    omega
theorem valB_bare (l : List UInt8) : valB (bare l) 0 = valB l 0 := by
  induction l with
  | nil => rfl
  | cons c r ih =>
    unfold bare at *
    rw [List.dropWhile_cons]
    split
    · rename_i h
      have : c = 0 := by simpa using h
      subst this
      rw [ih]
      rfl
    · rfl
theorem bare_head {l : List UInt8} {c : UInt8} {r : List UInt8} (h : bare l = c :: r) : c ≠ 0 := by
  induction l with
  | nil => cases h
  | cons d q ih =>
    unfold bare at *
    rw [List.dropWhile_cons] at h
    split at h
    · exact ih h
    · rename_i h2
      injection h with h3 h4
      subst h3
      simpa using h2
theorem valB_ge {c : UInt8} (r : List UInt8) (hc : c ≠ 0) : 256 ^ r.length ≤ valB (c :: r) 0 := by
  have : c.toNat ≠ 0 := fun h => hc (UInt8.toNat_inj.1 h)
  rw [valB, valB_add]
  have : 1 * 256 ^ r.length ≤ (256 * 0 + c.toNat) * 256 ^ r.length := Nat.mul_le_mul_right _ (by omega)
  omega
theorem bare_long {a b : List UInt8} (h : (bare a).length < (bare b).length) : valB a 0 < valB b 0 := by
  rw [← valB_bare a, ← valB_bare b]
  cases hb : bare b with
  | nil => rw [hb] at h; cases h
  | cons c r =>
    have h1 := valB_lt (bare a)
    have h2 := valB_ge r (bare_head hb)
    rw [hb, List.length_cons] at h
    have h3 : 256 ^ (bare a).length ≤ 256 ^ r.length := Nat.pow_le_pow_right (by omega) (by omega)
    omega
theorem less_val : ∀ {a b : List UInt8}, a.length = b.length → (Op.bytesLess a b = true ↔ valB a 0 < valB b 0)
  | [], [], _ => by simp [Op.bytesLess, valB]
  | [], _ :: _, h => by cases h
  | _ :: _, [], h => by cases h
  | x :: a, y :: b, h => by
    have hl : a.length = b.length := by simpa using h
    have ih := less_val hl
    have h1 := valB_lt a
    have h2 := valB_lt b
    rw [valB, valB_add a, valB, valB_add b, ← hl]
    rw [← hl] at h2
    unfold Op.bytesLess
    simp only [Bool.or_eq_true, decide_eq_true_eq, Bool.and_eq_true, beq_iff_eq, UInt8.lt_iff_toNat_lt]
    rcases Nat.lt_trichotomy x.toNat y.toNat with hx | hx | hx
    · have hm : (x.toNat + 1) * 256 ^ a.length ≤ y.toNat * 256 ^ a.length := Nat.mul_le_mul_right _ hx
      rw [Nat.add_mul, Nat.one_mul] at hm
      simp only [Nat.mul_zero, Nat.zero_add]
      constructor
      · intro _; omega
      · intro _; exact .inl hx
    · have e : x = y := UInt8.toNat_inj.1 hx
      subst e
      simp only [Nat.mul_zero, Nat.zero_add, Nat.lt_irrefl, false_or, true_and]
      rw [ih]
      omega
    · have hm : (y.toNat + 1) * 256 ^ a.length ≤ x.toNat * 256 ^ a.length := Nat.mul_le_mul_right _ hx
      rw [Nat.add_mul, Nat.one_mul] at hm
      simp only [Nat.mul_zero, Nat.zero_add]
      constructor
      · rintro (h3 | ⟨h3, _⟩)
        · omega
        · rw [h3] at hx; omega
      · intro _; omega
theorem bin_told (a b : List UInt8) : (keyed binK a b).1 = (if (bare a).length ≠ (bare b).length then three (decide ((bare a).length < (bare b).length)) true else three (Op.bytesLess (bare a) (bare b)) (Op.bytesLess (bare b) (bare a))) := by
  rw [keyed_one (show binK a = some _ from rfl) (show binK b = some _ from rfl)]
  simp only [Int.ofNat_lt]
  split
  · rename_i h
    rcases Nat.lt_or_gt_of_ne h with h1 | h1
    · have h2 := bare_long h1
      simp [three, h1, h2]
    · have h2 := bare_long h1
      have h3 : ¬ (bare a).length < (bare b).length := by omega
      have h4 : ¬ valB a 0 < valB b 0 := by omega
      simp [three, h2, h3, h4]
  · rename_i h
    have h : (bare a).length = (bare b).length := Classical.not_not.1 h
    have e1 := less_val h
    have e2 := less_val h.symm
    rw [valB_bare, valB_bare] at e1 e2
    have f1 : Op.bytesLess (bare a) (bare b) = decide (valB a 0 < valB b 0) := by
      rw [Bool.eq_iff_iff, decide_eq_true_eq]; exact e1
    have f2 : Op.bytesLess (bare b) (bare a) = decide (valB b 0 < valB a 0) := by
      rw [Bool.eq_iff_iff, decide_eq_true_eq]; exact e2
    rw [f1, f2]
end Ord11
end Go.Proofs.YtinlonpcakkfhaaGreatDoor
end
section
namespace Go.Proofs.YtinlonpcakkfhaaGreatDoor
open Go Go.Proofs Go.RowKit Num9
theorem key_nan {x : Nat} (h : 2047 * 2 ^ 52 < x % 2 ^ 63) : key x = none := by
  unfold key
  rw [read_def, if_neg (by omega), if_neg (by omega), if_neg (by omega)]
theorem key_quiet (s c : Nat) (hc : c < 4503599627370495) : key (s % 2 * 2 ^ 63 + 0x7ff0000000000000 + 1 + c) = none := key_nan (by omega)
theorem run_nan (t : TypeId) (w : World) : ∃ r, key r = none ∧ (binOp .quo t (.float .f64 0) (.float .f64 0)).run Tryz.prog w = .ok (.float .f64 r) w.drew := by
  have h : FloatKind.f64.format.div 0 0 = none := by decide
  refine ⟨(w.tape w.drawn (.nanBits .f64 0 0) % 2) * 2 ^ 63 + 0x7ff0000000000000 + 1 + (w.tape w.drawn (.nanBits .f64 0 0) / 2) % (2 ^ 52 - 1), key_quiet _ _ (Nat.mod_lt _ (by decide)), ?_⟩
  simp [binOp, Op.floatArith, h, Question.forced, Question.cut]
theorem zero9_any (w : World) : Calls Tryz.prog 127 #[] w fun e w' => e = .returned (.float .f64 0) ∧ w' = w := by
  go_enter Tryz.func127, Tryz.ntmps127
  go_wp2
  go_ret
  exact ⟨rfl, rfl⟩
end Go.Proofs.YtinlonpcakkfhaaGreatDoor
end
section
namespace Go.Proofs.YtinlonpcakkfhaaGreatDoor
open Go Go.Proofs Go.RowKit Num9
def GetEnd9 (l : List UInt8) (w : World) (e : Ending) (w' : World) : Prop :=
  ∃ x ok, e = .returned (.tuple #[.float .f64 x, .bool ok]) ∧ (numR l).Is x ok ∧ Below w.heap.size w w'
theorem reads_byteN {w : World} {B n j : Nat} {A : Option Addr} {l : List UInt8} (hr : Reads w B 1 A n (Lib.byteCells l)) (hj : j < n) : ∃ (ad : Addr) (y : UInt8), A = some ad ∧ w.cell? (ad.add j) = some (.int .u8 y.toNat) ∧ l.drop j = y :: l.drop (j + 1) ∧ l[j]? = some y := by
  obtain ⟨ad, u, rfl, _, hu, hc⟩ := hr.at_ hj
  have hl : l.length = n := by have := hr.1; simpa [Lib.byteCells_length] using this
  have hjl : j < l.length := by omega
  refine ⟨ad, l[j], rfl, ?_, List.drop_eq_getElem_cons hjl, List.getElem?_eq_getElem hjl⟩
  have hu' : u = .int .u8 (l[j]).toNat := by
    simp [Lib.byteCells, List.getElem?_map, List.getElem?_eq_getElem hjl] at hu
    exact hu.symm
  rw [hc, hu']
theorem bytes_list (l : List UInt8) : (⟨l.toArray⟩ : ByteArray).toList = l := by rw [ByteArray.toList_eq]
set_option maxHeartbeats 4000000 in
set_option maxRecDepth 100000 in
theorem get9_words (A : Option Addr) (n c : Nat) (l : List UInt8) (B : Nat) (w : World) (hr : Reads w B 1 A n (Lib.byteCells l)) (hl : l = [105, 110, 102] ∨ l = [45, 105, 110, 102] ∨ l = [110, 97, 110]) :
    Calls Tryz.prog 106 #[.slice A n c] w fun e w' => GetEnd9 l w e w' := by
  have hb := run_back (c := c) hr
  rcases hl with h | h | h
  · have hs := bytes_list l
    generalize (⟨l.toArray⟩ : ByteArray) = S at hb hs
    have hs1 : (S.toList == [105, 110, 102]) = true := by rw [hs, h]; rfl
    clear hs
    have hq : floatBits .quo .f64 4607182418800017408 0 = some 0x7ff0000000000000 := by decide
    have hop : ∀ t w, (binOp .quo t (.float .f64 4607182418800017408) (.float .f64 0)).run Tryz.prog w = .ok (.float .f64 0x7ff0000000000000) w := fun t w => run_float_arith w .quo t .f64 _ _ _ hq
    go_enter Tryz.func106, Tryz.ntmps106
    go_wp2_with first | (go_at_call 127; refine (zero9_any _).mono ?_; rintro e w' ⟨rfl, rfl⟩) | (simp only [hop])
    go_ret2
    refine ⟨_, _, rfl, ?_, Below.refl _ _⟩
    rw [h]; exact ⟨rfl, rfl⟩
  · have hs := bytes_list l
    generalize (⟨l.toArray⟩ : ByteArray) = S at hb hs
    have hs1 : (S.toList == [105, 110, 102]) = false := by rw [hs, h]; rfl
    have hs2 : (S.toList == [45, 105, 110, 102]) = true := by rw [hs, h]; rfl
    clear hs
    have hq : floatBits .quo .f64 13830554455654793216 0 = some 0xfff0000000000000 := by decide
    have hop : ∀ t w, (binOp .quo t (.float .f64 13830554455654793216) (.float .f64 0)).run Tryz.prog w = .ok (.float .f64 0xfff0000000000000) w := fun t w => run_float_arith w .quo t .f64 _ _ _ hq
    go_enter Tryz.func106, Tryz.ntmps106
    go_wp2_with first | (go_at_call 127; refine (zero9_any _).mono ?_; rintro e w' ⟨rfl, rfl⟩) | (simp only [hop])
    go_ret2
    refine ⟨_, _, rfl, ?_, Below.refl _ _⟩
    rw [h]; exact ⟨rfl, rfl⟩
  · have hs := bytes_list l
    generalize (⟨l.toArray⟩ : ByteArray) = S at hb hs
    have hs1 : (S.toList == [105, 110, 102]) = false := by rw [hs, h]; rfl
    have hs2 : (S.toList == [45, 105, 110, 102]) = false := by rw [hs, h]; rfl
    have hs3 : (S.toList == [110, 97, 110]) = true := by rw [hs, h]; rfl
    clear hs
    obtain ⟨r, hk, hop⟩ := run_nan 103 w
    have HK := hid hk
    clear hk
    go_enter Tryz.func106, Tryz.ntmps106
    go_wp2_with first | (go_at_call 127; refine (zero9_any _).mono ?_; rintro e w' ⟨rfl, rfl⟩) | (simp only [hop])
    go_ret2
    refine ⟨_, _, rfl, ?_, (Below.refl _ _).drew⟩
    rw [h]; exact ⟨HK.out, rfl⟩
theorem numR_first {l : List UInt8} {y : UInt8} {r : List UInt8} (h : l = y :: r) (h1 : l ≠ [105, 110, 102]) (h2 : l ≠ [45, 105, 110, 102]) (h3 : l ≠ [110, 97, 110]) : numR l = if y.toNat = 45 then digitsR true r else digitsR false l := by
  unfold numR
  rw [if_neg h1, if_neg h2, if_neg h3, h]
namespace Num9
theorem scan_stop_bad {y : UInt8} {r : List UInt8} {f : Bool} {n sc ct st : Nat} (h : y.toNat = 46) (hb : 0 < st ∨ f = true ∨ r = []) : scan (y :: r) f n sc ct st = none := by
  rw [scan, if_pos h, if_pos hb]
theorem scan_stop {y : UInt8} {r : List UInt8} {f : Bool} {n sc ct st : Nat} (h : y.toNat = 46) (hb : ¬ (0 < st ∨ f = true ∨ r = [])) : scan (y :: r) f n sc ct st = scan r false n sc ct 1 := by
  rw [scan, if_pos h, if_neg hb]
theorem scan_bad {y : UInt8} {r : List UInt8} {f : Bool} {n sc ct st : Nat} (h : y.toNat ≠ 46) (hb : y.toNat < 48 ∨ 57 < y.toNat ∨ ct = 15) : scan (y :: r) f n sc ct st = none := by
  rw [scan, if_neg h, if_pos hb]
theorem scan_dig {y : UInt8} {r : List UInt8} {f : Bool} {n sc ct st : Nat} (h : y.toNat ≠ 46) (hb : ¬ (y.toNat < 48 ∨ 57 < y.toNat ∨ ct = 15)) : scan (y :: r) f n sc ct st = scan r false (10 * n + (y.toNat - 48)) (sc + st) (ct + 1) st := by
  rw [scan, if_neg h, if_neg hb]
theorem quo_some {n t : Nat} (hn : n < 2 ^ 53) (h0 : 0 < t) (ht : t < 2 ^ 53) : ∃ q, Ieee.double.div (conv n) (conv t) = some q := by
  rcases Nat.eq_zero_or_pos n with rfl | h
  · exact ⟨_, quo_zero h0 ht⟩
  · exact ⟨_, quo_eq h hn h0 ht⟩
theorem pow15 {k : Nat} (h : k ≤ 15) : 10 ^ k ≤ 1000000000000000 := Nat.pow_le_pow_right (n := 10) (by decide) h
theorem pow_pos10 (k : Nat) : 0 < 10 ^ k := Nat.pow_pos (by decide)
end Num9
theorem add_zero (ad : Addr) : ad.add 0 = ad := by simp [Addr.add]
set_option maxHeartbeats 8000000 in
set_option maxRecDepth 100000 in
theorem get9_rest (A : Option Addr) (n c : Nat) (l : List UInt8) (B : Nat) (w : World) (hr : Reads w B 1 A n (Lib.byteCells l)) (hn : n ≤ 1099511627776) (h1 : l ≠ [105, 110, 102]) (h2 : l ≠ [45, 105, 110, 102]) (h3 : l ≠ [110, 97, 110]) (a0 : Nat) (s0 : Bool) (ha0 : a0 ≤ n) (ha1 : a0 ≤ 1) (hR : numR l = digitsR s0 (l.drop a0)) (hs0 : s0 = decide (a0 = 1))
    (hat : a0 = 1 → ∃ ad, A = some ad ∧ 0 < n ∧ w.cell? ad = some (.int .u8 45)) (hno : a0 = 0 → n = 0 ∨ ∃ ad, ∃ y : UInt8, A = some ad ∧ 0 < n ∧ w.cell? ad = some (.int .u8 y.toNat) ∧ ((y.toNat : Int) == 45) = false) :
    Calls Tryz.prog 106 #[.slice A n c] w fun e w' => GetEnd9 l w e w' := by
  have hb := run_back (c := c) hr
  have hs := bytes_list l
  generalize (⟨l.toArray⟩ : ByteArray) = S at hb hs
  have hs1 : (S.toList == [105, 110, 102]) = false := by rw [hs, beq_eq_false_iff_ne]; exact h1
  have hs2 : (S.toList == [45, 105, 110, 102]) = false := by rw [hs, beq_eq_false_iff_ne]; exact h2
  have hs3 : (S.toList == [110, 97, 110]) = false := by rw [hs, beq_eq_false_iff_ne]; exact h3
  clear hs h1 h2 h3
  have hl : Hid (l.length = n) := by have := hr.1; show _ = _; simpa [Lib.byteCells_length] using this
  have HR := hid hR
  have HS := hid hs0
  obtain ⟨X, hX⟩ : ∃ X, X = scan (l.drop a0) true 0 0 0 0 := ⟨_, rfl⟩
  have HX := hid hX
  clear hX hR hs0
  have hfin : ∀ r, X = r → Hid (numR l = match r with | none => .none | some (n, sc, ct) => if ct = 0 then .none else .val s0 n sc) := by
    intro r e
    show _ = _
    rw [HR.out, ← e, HX.out]
    rfl
  have HF := hid hfin
  clear hfin
  go_enter Tryz.func106, Tryz.ntmps106
  go_upto_region 9 with fail
  go_cut [38] (fun p38 wx => p38 = .bool (decide (a0 = 1)) ∧ wx = w)
  case first =>
    rcases Nat.eq_zero_or_pos a0 with h0 | h0
    · rcases hno h0 with rfl | ⟨ad, y, rfl, hn0, hc, hy⟩
      · go_wp2_with fail
        all_goals (go_meet; exact ⟨by rw [h0]; rfl, rfl⟩)
      · go_wp2_with fail
        all_goals (go_meet; exact ⟨by rw [h0]; rfl, rfl⟩)
    · obtain ⟨ad, rfl, hn0, hc⟩ := hat (by omega)
      go_wp2_with fail
      all_goals (go_meet; exact ⟨by rw [show a0 = 1 by omega]; rfl, rfl⟩)
  case rest =>
  obtain ⟨rfl, rfl⟩ := hcut
  clear hat hno
  go_upto_if 38 with fail
  go_cut [5] (fun p5 wx => p5 = .int .i64 a0 ∧ wx = wc)
  case first =>
    by_cases h0 : a0 = 1
    · have hd : decide (a0 = 1) = true := decide_eq_true h0
      go_wp2_with fail
      all_goals (go_meet; exact ⟨by rw [h0]; rfl, rfl⟩)
    · have hd : decide (a0 = 1) = false := decide_eq_false h0
      go_wp2_with fail
      all_goals (go_meet; exact ⟨by rw [show a0 = 0 by omega]; rfl, rfl⟩)
  case rest =>
    obtain ⟨rfl, rfl⟩ := hcut
    go_wp2_with fail
    go_loop [6, 7, 8, 9, 10] (fun a b d e f => ∃ (m sc ct st i : Nat), a0 ≤ i ∧ i ≤ n ∧ m < 10 ^ ct ∧ sc ≤ ct ∧ ct ≤ 15 ∧ st ≤ 1 ∧ a = .int .i64 m ∧ b = .int .i64 sc ∧ d = .int .i64 ct ∧ e = .int .i64 st ∧ f = .int .i64 i ∧ X = scan (l.drop i) (decide (i = a0)) m sc ct st) (fun _ _ _ _ f => n - (intOf f).toNat)
    case atStart => exact ⟨0, 0, 0, 0, a0, Nat.le_refl _, ha0, by decide, Nat.le_refl _, by omega, by omega, rfl, rfl, rfl, rfl, rfl, by rw [HX.out, decide_eq_true rfl]⟩
    case round =>
      obtain ⟨m, sc, ct, st, i, hi0, hin, hm, hsc, hct, hst, rfl, rfl, rfl, rfl, rfl, hXi⟩ := hrel
      have HM := hid hm
      have hm15 : m < 1000000000000000 := Nat.lt_of_lt_of_le hm (pow15 hct)
      have HXI := hid hXi
      clear hm hXi
      by_cases hi : i < n
      · obtain ⟨ad, y, rfl, hc, hd, _⟩ := reads_byteN hr hi
        have HD := hid hd
        have hlr : Hid (l.drop (i + 1) = [] ↔ i = n - 1) := by
          show _ ↔ _
          rw [List.drop_eq_nil_iff, hl.out]
          omega
        clear hd
        have hbad : Hid (X = none) → GetEnd9 l wc (.returned (.tuple #[.float .f64 0, .bool false])) wc := by
          intro e
          refine ⟨_, _, rfl, ?_, Below.refl _ _⟩
          rw [(HF.out none e.out).out]
          exact ⟨rfl, rfl⟩
        have HBAD := hid hbad
        clear hbad
        have hy256 := y.toNat_lt
        by_cases hy : y.toNat = 46
        · have HY := hid hy
          have hyB : ((y.toNat : Int) == 46) = true := by rw [beq_iff_eq]; omega
          clear hy
          by_cases h1 : 0 < st
          · go_wp2_with fail
            go_ret2
            exact HBAD.out (show _ = _ by rw [HXI.out, HD.out, scan_stop_bad HY.out (.inl h1)])
          · have h1' : st = 0 := by omega
            subst h1'
            by_cases h2 : i = a0
            · have h2B : ((i : Int) == (a0 : Int)) = true := by rw [beq_iff_eq, h2]
              have H2 := hid h2
              clear h2
              go_wp2_with fail
              go_ret2
              exact HBAD.out (show _ = _ by rw [HXI.out, HD.out, scan_stop_bad HY.out (.inr (.inl (decide_eq_true H2.out)))])
            · have h2B : ((i : Int) == (a0 : Int)) = false := by rw [beq_eq_false_iff_ne]; omega
              have H2 := hid h2
              clear h2
              by_cases h3 : i = n - 1
              · have h3B : ((i : Int) == (n : Int) - 1) = true := by rw [beq_iff_eq]; omega
                have H3 := hid h3
                clear h3
                go_wp2_with fail
                go_ret2
                exact HBAD.out (show _ = _ by rw [HXI.out, HD.out, scan_stop_bad HY.out (.inr (.inr (hlr.out.2 H3.out)))])
              · have h3B : ((i : Int) == (n : Int) - 1) = false := by rw [beq_eq_false_iff_ne]; omega
                have H3 := hid h3
                clear h3
                go_wp2_with fail
                refine ⟨⟨m, sc, ct, 1, i + 1, by omega, by omega, HM.out, hsc, hct, by omega, rfl, rfl, rfl, rfl, by simp, ?_⟩, by simp [intOf]; omega⟩
                rw [HXI.out, HD.out, scan_stop HY.out (by
                  rintro (h | h | h)
                  · omega
                  · exact H2.out (of_decide_eq_true h)
                  · exact H3.out (hlr.out.1 h)), decide_eq_false (show ¬ i + 1 = a0 by omega)]
        · have HY := hid hy
          have hyB : ((y.toNat : Int) == 46) = false := by rw [beq_eq_false_iff_ne]; omega
          clear hy
          by_cases h1 : y.toNat < 48
          · go_wp2_with fail
            go_ret2
            exact HBAD.out (show _ = _ by rw [HXI.out, HD.out, scan_bad HY.out (.inl h1)])
          · by_cases h2 : 57 < y.toNat
            · go_wp2_with fail
              go_ret2
              exact HBAD.out (show _ = _ by rw [HXI.out, HD.out, scan_bad HY.out (.inr (.inl h2))])
            · by_cases h3 : ct = 15
              · subst h3
                go_wp2_with fail
                go_ret2
                exact HBAD.out (show _ = _ by rw [HXI.out, HD.out, scan_bad HY.out (.inr (.inr rfl))])
              · have h3B : ((ct : Int) == 15) = false := by rw [beq_eq_false_iff_ne]; omega
                have H3 := hid h3
                have hct' : ct + 1 ≤ 15 := by omega
                clear h3
                go_wp2_with fail
                refine ⟨⟨10 * m + (y.toNat - 48), sc + st, ct + 1, st, i + 1, by omega, by omega, ?_, by omega, by omega, hst, ?_, by simp, by simp, rfl, by simp, ?_⟩, by simp [intOf]; omega⟩
                · have := HM.out
                  rw [Nat.pow_succ]; omega
                · congr 1; omega
                · rw [HXI.out, HD.out, scan_dig HY.out (by
                    rintro (h | h | h)
                    · omega
                    · omega
                    · exact H3.out h), decide_eq_false (show ¬ i + 1 = a0 by omega)]
      · obtain rfl : i = n := by omega
        have hX : X = some (m, sc, ct) := by
          rw [HXI.out, List.drop_of_length_le (by rw [hl.out]; exact Nat.le_refl _), scan]
        have HV := HF.out _ hX
        clear hX
        by_cases h0 : ct = 0
        · subst h0
          go_wp2_with fail
          go_ret2
          refine ⟨_, _, rfl, ?_, Below.refl _ _⟩
          rw [HV.out]
          exact ⟨rfl, rfl⟩
        · have h0B : ((ct : Int) == 0) = false := by rw [beq_eq_false_iff_ne]; omega
          have H0 := hid h0
          have hsc15 : sc ≤ 15 := by omega
          clear h0
          go_wp2_with fail
          go_loop [12, 13] (fun a b => ∃ (j T : Nat), j ≤ sc ∧ Hid (T = 10 ^ j) ∧ T ≤ 1000000000000000 ∧ a = .int .i64 T ∧ b = .int .i64 j) (fun _ b => sc - (intOf b).toNat)
          case atStart => exact ⟨0, 1, by omega, rfl, by omega, rfl, rfl⟩
          case round =>
            obtain ⟨j, T, hj, hT, hT15, rfl, rfl⟩ := hrel
            by_cases hjs : j < sc
            · have hT14 : T ≤ 100000000000000 := by
                rw [hT.out]
                exact Nat.pow_le_pow_right (n := 10) (by decide) (show j ≤ 14 by omega)
              go_wp2_with fail
              refine ⟨⟨j + 1, 10 * T, by omega, ?_, by omega, by simp, by simp⟩, by simp [intOf]; omega⟩
              show _ = _
              rw [hT.out, Nat.pow_succ]; omega
            · obtain rfl : j = sc := by omega
              obtain ⟨q, hq⟩ := quo_some (n := m) (t := T) (by omega) (by rw [hT.out]; exact pow_pos10 _) (by omega)
              have hop : ∀ t w, (binOp .quo t (.float .f64 (floatOfInt .f64 (m : Int))) (.float .f64 (floatOfInt .f64 (T : Int)))).run Tryz.prog w = .ok (.float .f64 q) w := fun t w => run_float_arith w .quo t .f64 _ _ _ (by rw [conv_fits, conv_fits]; exact hq)
              have HQ : Hid (Ieee.double.div (conv m) (conv (10 ^ j)) = some q) := by
                show _ = _
                rw [← hT.out]; exact hq
              clear hq
              by_cases ha : a0 = 1
              · have haB : ((a0 : Int) == 1) = true := by rw [beq_iff_eq]; omega
                have HA := hid ha
                clear ha
                have hng : ∀ b, Op.unary .neg (.float .f64 b) = pure (.float .f64 (Op.negFloat .f64 b)) := fun _ => rfl
                go_wp2_with first | (simp only [hop]) | (simp only [hng])
                go_ret2
                refine ⟨_, _, rfl, ?_, Below.refl _ _⟩
                rw [HV.out]
                (try dsimp only)
                rw [if_neg H0.out]
                refine ⟨⟨q, HQ.out, ?_⟩, rfl⟩
                rw [HS.out, decide_eq_true HA.out]; rfl
              · have haB : ((a0 : Int) == 1) = false := by rw [beq_eq_false_iff_ne]; omega
                have HA := hid ha
                clear ha
                go_wp2_with (simp only [hop])
                go_ret2
                refine ⟨_, _, rfl, ?_, Below.refl _ _⟩
                rw [HV.out]
                (try dsimp only)
                rw [if_neg H0.out]
                refine ⟨⟨q, HQ.out, ?_⟩, rfl⟩
                rw [HS.out, decide_eq_false HA.out]; rfl
theorem refGet9_any (A : Option Addr) (n c : Nat) (l : List UInt8) (B : Nat) (w : World) (hr : Reads w B 1 A n (Lib.byteCells l)) (hn : n ≤ 1099511627776) :
    Calls Tryz.prog 106 #[.slice A n c] w fun e w' => GetEnd9 l w e w' := by
  by_cases h1 : l = [105, 110, 102]
  · exact get9_words A n c l B w hr (.inl h1)
  by_cases h2 : l = [45, 105, 110, 102]
  · exact get9_words A n c l B w hr (.inr (.inl h2))
  by_cases h3 : l = [110, 97, 110]
  · exact get9_words A n c l B w hr (.inr (.inr h3))
  have hl : l.length = n := by have := hr.1; simpa [Lib.byteCells_length] using this
  rcases Nat.eq_zero_or_pos n with h0 | h0
  · refine get9_rest A n c l B w hr hn h1 h2 h3 0 false (by omega) (by omega) ?_ rfl (fun h => by omega) (fun _ => .inl h0)
    have : l = [] := List.eq_nil_of_length_eq_zero (by rw [hl, h0])
    rw [this]; rfl
  · obtain ⟨ad, y, e1, e2, e3, _⟩ := reads_byteN hr h0
    rw [add_zero] at e2
    rw [List.drop_zero] at e3
    by_cases hy : y.toNat = 45
    · refine get9_rest A n c l B w hr hn h1 h2 h3 1 true (by omega) (by omega) ?_ rfl (fun h => ⟨ad, e1, h0, by rw [e2, hy]; rfl⟩) (fun h => by omega)
      rw [numR_first e3 h1 h2 h3, if_pos hy]
    · refine get9_rest A n c l B w hr hn h1 h2 h3 0 false (by omega) (by omega) ?_ rfl (fun h => by omega) (fun _ => .inr ⟨ad, y, e1, h0, e2, by rw [beq_eq_false_iff_ne]; omega⟩)
      rw [numR_first e3 h1 h2 h3, if_neg hy, List.drop_zero]
end Go.Proofs.YtinlonpcakkfhaaGreatDoor
end
section
namespace Go.Proofs.YtinlonpcakkfhaaGreatDoor
open Go Go.Proofs Go.RowKit Num9
namespace Num9
def cmpI : Option Ordering → Int
  | some .lt => -1
  | some .gt => 1
  | _ => 0
end Num9
def CmpEnd9 (x y : Nat) (w : World) (e : Ending) (w' : World) : Prop :=
  e = .returned (.tuple #[.int .i64 (cmpI (Ieee.double.order x y)), .bool (Ieee.double.order x y).isSome]) ∧ Below w.heap.size w w'
set_option maxHeartbeats 1000000 in
set_option maxRecDepth 100000 in
theorem refCompare_any (x y : Nat) (w : World) : Calls Tryz.prog 107 #[.float .f64 x, .float .f64 y] w fun e w' => CmpEnd9 x y w e w' := by
  have h : Hid (Ieee.double.order x y = FloatKind.f64.format.order x y) := rfl
  unfold CmpEnd9
  rw [h.out]
  rcases ho : FloatKind.f64.format.order x y with _ | o
  · go_enter Tryz.func107, Tryz.ntmps107
    go_wp2
    go_ret2
    exact ⟨rfl, Below.refl _ _⟩
  · cases o
    · go_enter Tryz.func107, Tryz.ntmps107
      go_wp2
      go_ret2
      exact ⟨rfl, Below.refl _ _⟩
    · go_enter Tryz.func107, Tryz.ntmps107
      go_wp2
      go_ret2
      exact ⟨rfl, Below.refl _ _⟩
    · go_enter Tryz.func107, Tryz.ntmps107
      go_wp2
      go_ret2
      exact ⟨rfl, Below.refl _ _⟩
end Go.Proofs.YtinlonpcakkfhaaGreatDoor
end
section
namespace Go.Proofs.YtinlonpcakkfhaaGreatDoor
open Go Go.Proofs Go.RowKit Dat
theorem dbyte {w : World} {B n j : Nat} {A : Option Addr} {l : List UInt8} (hr : Reads w B 1 A n (Lib.byteCells l)) (hj : j < n) : ∃ (ad : Addr) (y : UInt8), A = some ad ∧ w.cell? (ad.add j) = some (.int .u8 y.toNat) ∧ l.drop j = y :: l.drop (j + 1) ∧ l[j]? = some y := by
  obtain ⟨ad, u, rfl, _, hu, hc⟩ := hr.at_ hj
  have hl : l.length = n := by have := hr.1; simpa [Lib.byteCells_length] using this
  have hjl : j < l.length := by omega
  refine ⟨ad, l[j], rfl, ?_, List.drop_eq_getElem_cons hjl, List.getElem?_eq_getElem hjl⟩
  have hu' : u = .int .u8 (l[j]).toNat := by
    simp [Lib.byteCells, List.getElem?_map, List.getElem?_eq_getElem hjl] at hu
    exact hu.symm
  rw [hc, hu']
def opt2 (r : Option Nat) : Value := .tuple #[.int .i64 ((r.getD 0 : Nat) : Int), .bool r.isSome]
theorem opt2_some {v : Nat} {x : Int} (h : x = (v : Int)) : Ending.returned (.tuple #[.int .i64 x, .bool true]) = .returned (opt2 (some v)) := by rw [h]; rfl
def OptEnd (r : Option Nat) (w : World) (e : Ending) (w' : World) : Prop := e = .returned (opt2 r) ∧ Below w.heap.size w w'
set_option maxHeartbeats 4000000 in
set_option maxRecDepth 100000 in
theorem two10_any (A : Option Addr) (n c : Nat) (l : List UInt8) (B : Nat) (i : Nat) (w : World) (hr : Reads w B 1 A n (Lib.byteCells l)) (hn : n ≤ 1099511627776) (hi : i ≤ 1000) :
    Calls Tryz.prog 128 #[.slice A n c, .int .i64 i] w fun e w' => OptEnd (two l i) w e w' := by
  have hl : l.length = n := by have := hr.1; simpa [Lib.byteCells_length] using this
  obtain ⟨R, hR⟩ : ∃ R, R = two l i := ⟨_, rfl⟩
  have HR := hid hR
  rw [← hR]
  clear hR
  by_cases h2 : i + 2 ≤ n
  · obtain ⟨ad, a, rfl, ha, _, ea⟩ := dbyte hr (show i < n by omega)
    obtain ⟨ad', b, e, hb, _, eb⟩ := dbyte hr (show i + 1 < n by omega)
    injection e with e
    subst e
    have hT : Hid (two l i = if dg a = true ∧ dg b = true then some (pr a b) else none) := by
      show _ = _
      unfold two; rw [ea, eb]
    have a256 := a.toNat_lt; have b256 := b.toNat_lt
    obtain ⟨i1, hi1⟩ : ∃ i1, i1 = i + 1 := ⟨_, rfl⟩
    rw [← hi1] at hb
    have hi1I : (i : Int) + 1 = (i1 : Int) := by omega
    clear hi1 hl ea eb hr
    have hbad : (dg a = true ∧ dg b = true → False) → Hid (R = none) := fun h => by
      show _ = _
      rw [HR.out, hT.out, if_neg h]
    have HB := hid hbad
    clear hbad
    by_cases a1 : a.toNat < 48
    · have hf := HB.out (fun h => by have := (dv_lt h.1).2; omega)
      go_enter Tryz.func128, Tryz.ntmps128
      go_wp2
      go_ret2
      exact ⟨by rw [hf.out]; rfl, Below.refl _ _⟩
    by_cases a2 : 57 < a.toNat
    · have hf := HB.out (fun h => by have := (dv_lt h.1); omega)
      go_enter Tryz.func128, Tryz.ntmps128
      go_wp2
      go_ret2
      exact ⟨by rw [hf.out]; rfl, Below.refl _ _⟩
    by_cases b1 : b.toNat < 48
    · have hf := HB.out (fun h => by have := (dv_lt h.2).2; omega)
      go_enter Tryz.func128, Tryz.ntmps128
      go_wp2
      go_ret2
      exact ⟨by rw [hf.out]; rfl, Below.refl _ _⟩
    by_cases b2 : 57 < b.toNat
    · have hf := HB.out (fun h => by have := (dv_lt h.2); omega)
      go_enter Tryz.func128, Tryz.ntmps128
      go_wp2
      go_ret2
      exact ⟨by rw [hf.out]; rfl, Below.refl _ _⟩
    have hf : Hid (R = some (pr a b)) := by
      show _ = _
      rw [HR.out, hT.out, if_pos ⟨by simp [dg]; omega, by simp [dg]; omega⟩]
    go_enter Tryz.func128, Tryz.ntmps128
    go_wp2
    go_region
    go_wp2
    go_ret2
    refine ⟨?_, (Below.refl _ _).drew⟩
    rw [hf.out]
    exact opt2_some (by unfold pr dv; omega)
  · have hf : Hid (R = none) := by
      show _ = _
      rw [HR.out]
      unfold two
      rw [List.getElem?_eq_none (show l.length ≤ i + 1 by omega)]
      cases l[i]? <;> rfl
    go_enter Tryz.func128, Tryz.ntmps128
    go_wp2
    go_ret2
    exact ⟨by rw [hf.out]; rfl, Below.refl _ _⟩
theorem leap_cases (y : Nat) : leap y = (decide (y % 400 = 0) || (decide (y % 4 = 0) && !decide (y % 100 = 0))) := rfl
set_option maxHeartbeats 4000000 in
set_option maxRecDepth 100000 in
theorem days10_any (y m : Nat) (w : World) (hy : y ≤ 100000) (h1 : 1 ≤ m) (h2 : m ≤ 12) :
    Calls Tryz.prog 129 #[.int .i64 y, .int .i64 m] w fun e w' => e = .returned (.int .i64 (days y m : Nat)) ∧ Below w.heap.size w w' := by
  have hb : Below w.heap.size w (w.alloc (.cells #[.int .i64 31, .int .i64 28, .int .i64 31, .int .i64 30, .int .i64 31, .int .i64 30, .int .i64 31, .int .i64 31, .int .i64 30, .int .i64 31, .int .i64 30, .int .i64 31] 3)) := (Below.refl _ _).alloc (Nat.le_refl _) _
  obtain ⟨j, hj⟩ : ∃ j, j = m - 1 := ⟨_, rfl⟩
  have hjI : (m : Int) - 1 = (j : Int) := by omega
  have hj12 : j < 12 := by omega
  obtain ⟨v, hv⟩ : ∃ v, v = plain m := ⟨_, rfl⟩
  have hg : ∀ hh, ([.int .i64 31, .int .i64 28, .int .i64 31, .int .i64 30, .int .i64 31, .int .i64 30, .int .i64 31, .int .i64 31, .int .i64 30, .int .i64 31, .int .i64 30, .int .i64 31] : List Value)[j]'hh = .int .i64 (v : Nat) := by
    intro hh
    rw [hv]
    unfold plain
    rw [← hj]
    clear hv hjI hj h1 h2 hb
    rcases j with _ | _ | _ | _ | _ | _ | _ | _ | _ | _ | _ | _ | j <;> first | rfl | omega
  have HG := hid hg
  clear hg
  have HV := hid hv
  have HJ := hid hj
  clear hv hj
  by_cases hm : m = 2
  · have hmB : ((m : Int) == 2) = true := by rw [beq_iff_eq]; omega
    have HM := hid hm
    clear hm
    have hd : Hid (days y m = if leap y = true then 29 else v) := by
      show _ = _
      unfold days
      rw [HM.out, HV.out]
      by_cases h : leap y = true
      · rw [if_pos ⟨rfl, h⟩, if_pos h]
      · rw [if_neg (fun h' => h h'.2), if_neg h, HM.out]
    by_cases h400 : y % 400 = 0
    · have hl : Hid (leap y = true) := by show _ = _; rw [leap_cases, decide_eq_true h400]; rfl
      have hB : ((y : Int) % 400 == 0) = true := by rw [beq_iff_eq]; omega
      have hB2 : ((y : Int).tmod 400 == 0) = true := by rw [Int.tmod_eq_emod_of_nonneg (by omega)]; exact hB
      clear h400
      go_enter Tryz.func129, Tryz.ntmps129
      go_wp2
      go_ret
      exact ⟨by rw [hd.out, if_pos hl.out]; rfl, hb⟩
    · have hB : ((y : Int) % 400 == 0) = false := by rw [beq_eq_false_iff_ne]; omega
      by_cases h4 : y % 4 = 0
      · have hB4 : ((y : Int) % 4 == 0) = true := by rw [beq_iff_eq]; omega
        by_cases h100 : y % 100 = 0
        · have hB100 : ((y : Int) % 100 != 0) = false := by rw [bne_eq_false_iff_eq]; omega
          have hl : Hid (leap y = false) := by show _ = _; rw [leap_cases, decide_eq_false h400, decide_eq_true h100]; simp
          clear h400 h4 h100
          go_enter Tryz.func129, Tryz.ntmps129
          go_wp2
          go_ret
          exact ⟨congrArg Ending.returned ((HG.out _).trans (by rw [hd.out, if_neg (by rw [hl.out]; simp)])), hb⟩
        · have hB100 : ((y : Int) % 100 != 0) = true := by rw [bne_iff_ne]; omega
          have hl : Hid (leap y = true) := by show _ = _; rw [leap_cases, decide_eq_true h4, decide_eq_false h100]; simp
          clear h400 h4 h100
          go_enter Tryz.func129, Tryz.ntmps129
          go_wp2
          go_ret
          exact ⟨by rw [hd.out, if_pos hl.out]; rfl, hb⟩
      · have hB4 : ((y : Int) % 4 == 0) = false := by rw [beq_eq_false_iff_ne]; omega
        have hl : Hid (leap y = false) := by show _ = _; rw [leap_cases, decide_eq_false h400, decide_eq_false h4]; simp
        clear h400 h4
        go_enter Tryz.func129, Tryz.ntmps129
        go_wp2
        go_ret
        exact ⟨congrArg Ending.returned ((HG.out _).trans (by rw [hd.out, if_neg (by rw [hl.out]; simp)])), hb⟩
  · have hmB : ((m : Int) == 2) = false := by rw [beq_eq_false_iff_ne]; omega
    have hd : Hid (days y m = v) := by
      show _ = _
      unfold days
      rw [if_neg (fun h => hm h.1), HV.out]
    clear hm
    go_enter Tryz.func129, Tryz.ntmps129
    go_wp2
    go_ret
    exact ⟨congrArg Ending.returned ((HG.out _).trans (by rw [hd.out])), hb⟩
end Go.Proofs.YtinlonpcakkfhaaGreatDoor
end
section
namespace Go.Proofs.YtinlonpcakkfhaaGreatDoor
open Go Go.Proofs Go.RowKit Dat
namespace Dat
theorem yearLen_le (y : Nat) : yearLen y ≤ 368 := by have := days_le y 2; unfold yearLen; omega
theorem ahead_le : ∀ y, aheadN y ≤ 368 * y
  | 0 => Nat.le_refl _
  | y + 1 => by have := ahead_le y; have := yearLen_le y; rw [aheadN]; omega
theorem mo_le (y : Nat) : ∀ m, mo y m ≤ 31 * m
  | 0 => Nat.le_refl _
  | 1 => by simp [mo]
  | m + 2 => by have := mo_le y (m + 1); have := days_le y (m + 1); rw [mo]; omega
end Dat
set_option maxHeartbeats 4000000 in
set_option maxRecDepth 100000 in
theorem ahead10_any (y : Nat) (w : World) (hy : y ≤ 9999) :
    Calls Tryz.prog 130 #[.int .i64 y] w fun e w' => e = .returned (.int .i64 (aheadN y : Nat)) ∧ Below w.heap.size w w' := by
  obtain ⟨q, hq⟩ : ∃ q, q = y / 400 := ⟨_, rfl⟩
  obtain ⟨r, hr⟩ : ∃ r, r = y % 400 := ⟨_, rfl⟩
  obtain ⟨s, hs⟩ : ∃ s, s = y - r := ⟨_, rfl⟩
  have h1 : (y : Int) / 400 = (q : Int) := by omega
  have h2 : (y : Int).tdiv 400 = (q : Int) := by rw [Int.tdiv_eq_ediv_of_nonneg (by omega)]; exact h1
  have h3 : (y : Int) % 400 = (r : Int) := by omega
  have h4 : (y : Int).tmod 400 = (r : Int) := by rw [Int.tmod_eq_emod_of_nonneg (by omega)]; exact h3
  have h5 : (y : Int) - (r : Int) = (s : Int) := by omega
  have hq25 : q ≤ 25 := by omega
  have HA : Hid (aheadN s = q * 146097) := by
    show _ = _
    rw [show s = 400 * q + 0 by omega, ahead_period]
    show 146097 * q + 0 = _
    omega
  have hsy : s ≤ y := by omega
  clear hq hr hs
  go_enter Tryz.func130, Tryz.ntmps130
  go_wp2_with fail
  go_loopw [3, 4] (fun a b wr => ∃ (k v : Nat), s ≤ k ∧ k ≤ y ∧ a = .int .i64 v ∧ b = .int .i64 k ∧ Hid (v = aheadN k) ∧ Below w.heap.size w wr) (fun _ b _ => y - (intOf b).toNat)
  case atStart => exact ⟨s, q * 146097, Nat.le_refl _, hsy, by simp, rfl, by show _ = _; rw [HA.out], Below.refl _ _⟩
  case round =>
    obtain ⟨k, v, hk1, hk2, rfl, rfl, hv, hb⟩ := hrel
    have hvl : v ≤ 4000000 := by have := ahead_le k; rw [hv.out]; omega
    by_cases hlt : k < y
    · have hdl : days k 2 ≤ 31 := days_le k 2
      go_wp2_with (go_at_call 129; refine (days10_any k 2 _ (by omega) (by omega) (by omega)).mono ?_; rintro e w' ⟨rfl, hb'⟩)
      refine ⟨⟨k + 1, v + 337 + days k 2, by omega, by omega, by simp, by simp, ?_, hb.trans (hb'.mono hb.size)⟩, by simp [intOf]; omega⟩
      show _ = _
      rw [hv.out, aheadN, yearLen]; omega
    · obtain rfl : k = y := by omega
      go_wp2_with fail
      go_ret
      exact ⟨by rw [hv.out]; rfl, hb⟩
theorem opt_parts (r : Option Nat) : ∃ (v : Nat) (k : Bool), opt2 r = .tuple #[.int .i64 (v : Int), .bool k] ∧ r = (if k = true then some v else none) ∧ (k = false → v = 0) := by
  cases r with
  | none => exact ⟨0, false, rfl, rfl, fun _ => rfl⟩
  | some v => exact ⟨v, true, rfl, rfl, fun h => by cases h⟩
theorem two_le {l : List UInt8} {i v : Nat} (h : two l i = some v) : v ≤ 99 := by
  obtain ⟨a, b, _, _, ha, hb, rfl⟩ := two_some h
  exact pr_le ha hb
theorem two10_at (A : Option Addr) (n c : Nat) (l : List UInt8) (w : World) (hr : Reads w w.heap.size 1 A n (Lib.byteCells l)) (hn : n ≤ 1099511627776) (i : Nat) (hi : i ≤ 1000) :
    ∃ (v : Nat) (k : Bool), Hid (two l i = if k = true then some v else none) ∧ v ≤ 99 ∧ ∀ W, Below w.heap.size w W → Calls Tryz.prog 128 #[.slice A n c, .int .i64 (i : Int)] W fun e w' => e = .returned (.tuple #[.int .i64 (v : Int), .bool k]) ∧ Below w.heap.size w w' := by
  obtain ⟨v, k, e, hrk, h0⟩ := opt_parts (two l i)
  refine ⟨v, k, hid hrk, ?_, fun W hW => ?_⟩
  · cases k with
    | false => rw [h0 rfl]; omega
    | true => exact two_le (by rw [hrk]; rfl)
  · refine (two10_any A n c l w.heap.size i W (hr.below hW) hn hi).mono ?_
    rintro e' w' ⟨h1, h2⟩
    rw [e] at h1
    exact ⟨h1, hW.trans (h2.mono hW.size)⟩
set_option maxHeartbeats 4000000 in
set_option maxRecDepth 100000 in
theorem clock10_any (A : Option Addr) (n c : Nat) (l : List UInt8) (w : World) (hr : Reads w w.heap.size 1 A n (Lib.byteCells l)) (hn : n ≤ 1099511627776) :
    Calls Tryz.prog 108 #[.slice A n c] w fun e w' => OptEnd (clockR l) w e w' := by
  have hl : l.length = n := by have := hr.1; simpa [Lib.byteCells_length] using this
  obtain ⟨R, hR⟩ : ∃ R, R = clockR l := ⟨_, rfl⟩
  have HR := hid hR
  rw [← hR]
  clear hR
  have hbad : ¬ (l.length = 8 ∧ l[2]? = some 58 ∧ l[5]? = some 58) → OptEnd R w (.returned (.tuple #[.int .i64 0, .bool false])) w := fun h => by
    rw [HR.out, clockR, if_neg h]
    exact ⟨rfl, Below.refl _ _⟩
  have HBAD := hid hbad
  clear hbad
  by_cases h8 : n = 8
  · subst h8
    obtain ⟨ad, b2, rfl, hb2, _, e2⟩ := dbyte hr (show 2 < 8 by omega)
    obtain ⟨ad', b5, e, hb5, _, e5⟩ := dbyte hr (show 5 < 8 by omega)
    injection e with e
    subst e
    have E2 := hid e2; have E5 := hid e5; have HL := hid hl
    have b2l := b2.toNat_lt; have b5l := b5.toNat_lt
    clear e2 e5 hl
    simp [Addr.add] at hb2 hb5
    by_cases h2 : b2.toNat = 58
    · have h2B : ((b2.toNat : Int) != 58) = false := by rw [bne_eq_false_iff_eq]; omega
      have e58 : b2 = 58 := UInt8.toNat_inj.1 (by rw [h2]; rfl)
      have E58 := hid e58
      clear h2 e58
      by_cases h5 : b5.toNat = 58
      · have h5B : ((b5.toNat : Int) != 58) = false := by rw [bne_eq_false_iff_eq]; omega
        have e58' : b5 = 58 := UInt8.toNat_inj.1 (by rw [h5]; rfl)
        have E58' := hid e58'
        clear h5 e58'
        obtain ⟨v0, k0, hk0, hv0, T0⟩ := two10_at (some ad) 8 c l w hr hn 0 (by omega)
        obtain ⟨v3, k3, hk3, hv3, T3⟩ := two10_at (some ad) 8 c l w hr hn 3 (by omega)
        obtain ⟨v6, k6, hk6, hv6, T6⟩ := two10_at (some ad) 8 c l w hr hn 6 (by omega)
        have hok : Hid (R = clockV (if k0 = true then some v0 else none) (if k3 = true then some v3 else none) (if k6 = true then some v6 else none)) := by
          show _ = _
          rw [HR.out, clockR, if_pos ⟨HL.out, by rw [E2.out, E58.out], by rw [E5.out, E58'.out]⟩, hk0.out, hk3.out, hk6.out]
        clear hr hk0 hk3 hk6
        go_enter Tryz.func108, Tryz.ntmps108
        go_wp2_with fail
        refine (T0 _ (Below.refl _ _)).mono ?_
        rintro e w1 ⟨rfl, hb1⟩
        go_wp2_with fail
        refine (T3 _ hb1).mono ?_
        rintro e w3 ⟨rfl, hb3⟩
        go_wp2_with fail
        refine (T6 _ hb3).mono ?_
        rintro e w6 ⟨rfl, hb6⟩
        have HB6 := hid hb6
        clear hb1 hb3 hb6 T0 T3 T6 hb2 hb5
        have hno : R = none → OptEnd R w (.returned (.tuple #[.int .i64 0, .bool false])) w6 := fun h => by rw [h]; exact ⟨rfl, HB6.out⟩
        have HNO := hid hno
        clear hno
        cases k0 with
        | false => go_wp2_with fail; go_ret2; exact HNO.out (by rw [hok.out]; rfl)
        | true =>
        cases k3 with
        | false => go_wp2_with fail; go_ret2; exact HNO.out (by rw [hok.out]; rfl)
        | true =>
        cases k6 with
        | false => go_wp2_with fail; go_ret2; exact HNO.out (by rw [hok.out]; rfl)
        | true =>
        have hok2 : Hid (R = if v0 ≤ 23 ∧ v3 ≤ 59 ∧ v6 ≤ 59 then some (3600 * v0 + 60 * v3 + v6) else none) := hok
        clear hok
        by_cases c0 : 23 < v0
        · go_wp2_with fail
          go_ret2
          exact HNO.out (by rw [hok2.out, if_neg (by omega)])
        by_cases c3 : 59 < v3
        · go_wp2_with fail
          go_ret2
          exact HNO.out (by rw [hok2.out, if_neg (by omega)])
        by_cases c6 : 59 < v6
        · go_wp2_with fail
          go_ret2
          exact HNO.out (by rw [hok2.out, if_neg (by omega)])
        go_wp2_with fail
        go_ret2
        refine ⟨?_, HB6.out⟩
        rw [hok2.out, if_pos (by omega)]
        exact opt2_some (by omega)
      · have h5B : ((b5.toNat : Int) != 58) = true := by rw [bne_iff_ne]; omega
        have hf := HBAD.out (fun h => h5 (by have := E5.out.symm.trans h.2.2; injection this with this; rw [this]; rfl))
        clear h5
        go_enter Tryz.func108, Tryz.ntmps108
        go_wp2
        go_ret2
        exact hf
    · have h2B : ((b2.toNat : Int) != 58) = true := by rw [bne_iff_ne]; omega
      have hf := HBAD.out (fun h => h2 (by have := E2.out.symm.trans h.2.1; injection this with this; rw [this]; rfl))
      clear h2
      go_enter Tryz.func108, Tryz.ntmps108
      go_wp2
      go_ret2
      exact hf
  · have h8B : ((n : Int) != 8) = true := by rw [bne_iff_ne]; omega
    have hf := HBAD.out (fun h => h8 (by rw [← hl]; exact h.1))
    clear h8
    go_enter Tryz.func108, Tryz.ntmps108
    go_wp2
    go_ret2
    exact hf
end Go.Proofs.YtinlonpcakkfhaaGreatDoor
end
section
namespace Go.Proofs.YtinlonpcakkfhaaGreatDoor
open Go Go.Proofs Go.RowKit Dat
set_option maxHeartbeats 8000000 in
set_option maxRecDepth 100000 in
theorem get10_rest (ad : Addr) (c : Nat) (l : List UInt8) (w : World) (hr : Reads w w.heap.size 1 (some ad) 19 (Lib.byteCells l)) (hc : 19 ≤ c)
    (h4 : l[4]? = some 45) (h7 : l[7]? = some 45) (h10 : l[10]? = some 95) :
    Calls Tryz.prog 110 #[.slice (some ad) 19 c] w fun e w' => OptEnd (dateR l) w e w' := by
  have hl : Hid (l.length = 19) := by have := hr.1; show _ = _; simpa [Lib.byteCells_length] using this
  obtain ⟨R, hR⟩ : ∃ R, R = dateR l := ⟨_, rfl⟩
  have HR := hid hR
  rw [← hR]
  clear hR
  have cellAt : ∀ j y, j < 19 → l[j]? = some y → w.cell? (ad.add j) = some (.int .u8 y.toNat) := fun j y hj hy => by
    obtain ⟨ad', y', e, hb, _, ey⟩ := dbyte hr hj
    injection e with e
    subst e
    rw [hy] at ey
    injection ey with ey
    rw [hb, ey]
  have c4 := cellAt 4 _ (by omega) h4
  have c7 := cellAt 7 _ (by omega) h7
  have c10 := cellAt 10 _ (by omega) h10
  have hcut := hr.cut (k := 11) (cap := c) (by omega) hc
  rw [if_neg (by omega)] at hcut
  have e45 : (((45 : UInt8).toNat : Nat) : Int) = 45 := rfl
  have e95 : (((95 : UInt8).toNat : Nat) : Int) = 95 := rfl
  rw [e45] at c4 c7
  rw [e95] at c10
  have hcut2 : Reads w w.heap.size 1 (some (ad.add 11)) 8 (Lib.byteCells (l.drop 11)) := by
    have : (Lib.byteCells l).drop (11 * 1) = Lib.byteCells (l.drop 11) := by simp [Lib.byteCells, List.map_drop]
    rw [this] at hcut
    exact hcut
  have HC := hid hcut2
  have H4 := hid h4; have H7 := hid h7; have H10 := hid h10
  simp [Addr.add] at c4 c7 c10
  clear h4 h7 h10 cellAt hcut hcut2 e45 e95
  obtain ⟨v0, k0, hk0, hv0, T0⟩ := two10_at (some ad) 19 c l w hr (by omega) 0 (by omega)
  obtain ⟨v2, k2, hk2, hv2, T2⟩ := two10_at (some ad) 19 c l w hr (by omega) 2 (by omega)
  obtain ⟨v5, k5, hk5, hv5, T5⟩ := two10_at (some ad) 19 c l w hr (by omega) 5 (by omega)
  obtain ⟨v8, k8, hk8, hv8, T8⟩ := two10_at (some ad) 19 c l w hr (by omega) 8 (by omega)
  obtain ⟨vc, kc, ec, hkc, hvc⟩ := opt_parts (clockR (l.drop 11))
  have hvc' : vc < 86400 := by
    cases kc with
    | false => rw [hvc rfl]; omega
    | true => exact clock_lt (by rw [hkc]; rfl)
  have hok : Hid (R = dateV (if k0 = true then some v0 else none) (if k2 = true then some v2 else none) (if k5 = true then some v5 else none) (if k8 = true then some v8 else none) (if kc = true then some vc else none)) := by
    show _ = _
    rw [HR.out, dateR, if_pos ⟨hl.out, H4.out, H7.out, H10.out⟩, hk0.out, hk2.out, hk5.out, hk8.out, hkc]
  have EC := hid ec
  clear hr hk0 hk2 hk5 hk8 hkc hvc ec
  go_enter Tryz.func110, Tryz.ntmps110
  go_wp2_with fail
  refine (T0 _ (Below.refl _ _)).mono ?_
  rintro e w1 ⟨rfl, hb1⟩
  go_wp2_with fail
  refine (T2 _ hb1).mono ?_
  rintro e w2 ⟨rfl, hb2⟩
  go_wp2_with fail
  refine (T5 _ hb2).mono ?_
  rintro e w3 ⟨rfl, hb3⟩
  go_wp2_with fail
  refine (T8 _ hb3).mono ?_
  rintro e w4 ⟨rfl, hb4⟩
  go_wp2_with fail
  refine (clock10_any (some (ad.add 11)) 8 (c - 11) (l.drop 11) w4 ((HC.out.below hb4).more hb4.size) (by omega)).mono ?_
  rintro e w5 ⟨h5, hb5⟩
  rw [EC.out] at h5
  subst h5
  have HB5 := hid (hb4.trans (hb5.mono hb4.size))
  clear hb1 hb2 hb3 hb4 hb5 T0 T2 T5 T8 c4 c7 c10
  have hno : R = none → OptEnd R w (.returned (.tuple #[.int .i64 0, .bool false])) w5 := fun h => by rw [h]; exact ⟨rfl, HB5.out⟩
  have HNO := hid hno
  clear hno
  cases k0 with
  | false => go_wp2_with fail; go_ret2; exact HNO.out (by rw [hok.out]; rfl)
  | true =>
  cases k2 with
  | false => go_wp2_with fail; go_ret2; exact HNO.out (by rw [hok.out]; rfl)
  | true =>
  cases k5 with
  | false => go_wp2_with fail; go_ret2; exact HNO.out (by rw [hok.out]; rfl)
  | true =>
  cases k8 with
  | false => go_wp2_with fail; go_ret2; exact HNO.out (by rw [hok.out]; rfl)
  | true =>
  cases kc with
  | false => go_wp2_with fail; go_ret2; exact HNO.out (by rw [hok.out]; rfl)
  | true =>
  have hok2 : Hid (R = if 1 ≤ v5 ∧ v5 ≤ 12 ∧ 1 ≤ v8 ∧ v8 ≤ days (100 * v0 + v2) v5 then some ((aheadN (100 * v0 + v2) + mo (100 * v0 + v2) v5 + (v8 - 1)) * 86400 + vc) else none) := hok
  clear hok
  by_cases m1 : v5 < 1
  · go_wp2_with fail
    go_ret2
    exact HNO.out (by rw [hok2.out, if_neg (by omega)])
  by_cases m2 : 12 < v5
  · go_wp2_with fail
    go_ret2
    exact HNO.out (by rw [hok2.out, if_neg (by omega)])
  obtain ⟨y, hy⟩ : ∃ y, y = 100 * v0 + v2 := ⟨_, rfl⟩
  have HYI : Hid ((100 : Int) * (v0 : Int) + (v2 : Int) = (y : Int)) := by show _ = _; omega
  have hyl : y ≤ 9999 := by omega
  rw [← hy] at hok2
  clear hy
  have hdd : days y v5 ≤ 31 := days_le _ _
  go_upto_region 11 with fail
  rw [HYI.out]
  by_cases d1 : v8 < 1
  · go_wp2_with fail
    go_ret2
    exact HNO.out (by rw [hok2.out, if_neg (by omega)])
  obtain ⟨D, hD⟩ : ∃ D, D = days y v5 := ⟨_, rfl⟩
  have DT : ∀ W, Below w.heap.size w W → Calls Tryz.prog 129 #[.int .i64 (y : Int), .int .i64 (v5 : Int)] W fun e w' => e = .returned (.int .i64 (D : Int)) ∧ Below w.heap.size w w' := fun W hW =>
    (days10_any y v5 W (by omega) (by omega) (by omega)).mono (by rintro e w' ⟨rfl, hb⟩; exact ⟨by rw [hD], hW.trans (hb.mono hW.size)⟩)
  rw [← hD] at hok2 hdd
  have HD := hid hD
  clear hD
  by_cases d2 : D < v8
  · go_wp2_with (go_at_call 129; refine (DT _ HB5.out).mono ?_; rintro e w6 ⟨rfl, hb6⟩)
    go_ret2
    rw [hok2.out, if_neg (by omega)]
    exact ⟨rfl, hb6⟩
  have hok3 : Hid (R = some ((aheadN y + mo y v5 + (v8 - 1)) * 86400 + vc)) := by
    show _ = _
    rw [hok2.out, if_pos (by omega)]
  obtain ⟨N, hN⟩ : ∃ N, N = aheadN y := ⟨_, rfl⟩
  have hNl : N ≤ 3679632 := by have := ahead_le y; omega
  have AT : ∀ W, Below w.heap.size w W → Calls Tryz.prog 130 #[.int .i64 (y : Int)] W fun e w' => e = .returned (.int .i64 (N : Int)) ∧ Below w.heap.size w w' := fun W hW =>
    (ahead10_any y W (by omega)).mono (by rintro e w' ⟨rfl, hb⟩; exact ⟨by rw [hN], hW.trans (hb.mono hW.size)⟩)
  rw [← hN] at hok3
  clear hN hok2 HNO
  go_wp2_with first
    | (go_at_call 129; refine (DT _ HB5.out).mono ?_; rintro e w6 ⟨rfl, hb6⟩)
    | (go_at_call 130; refine (AT _ hb6).mono ?_; rintro e w7 ⟨rfl, hb7⟩)
  clear DT AT
  go_loopw [15, 16] (fun a b wr => ∃ (k v : Nat), 1 ≤ k ∧ k ≤ v5 ∧ a = .int .i64 v ∧ b = .int .i64 k ∧ Hid (v = N + mo y k + (v8 - 1)) ∧ Below w.heap.size w wr) (fun _ b _ => v5 - (intOf b).toNat)
  case atStart => exact ⟨1, N + (v8 - 1), Nat.le_refl _, by omega, by congr 1; omega, rfl, by show _ = _; rw [mo]; omega, hb7⟩
  case round =>
    obtain ⟨k, v, hk1, hk2, rfl, rfl, hv, hb⟩ := hrel
    have hvl : v ≤ 4000000 := by have := mo_le y k; rw [hv.out]; omega
    by_cases hlt : k < v5
    · have hdl : days y k ≤ 31 := days_le y k
      go_wp2_with (go_at_call 129; refine (days10_any y k _ (by omega) (by omega) (by omega)).mono ?_; rintro e w' ⟨rfl, hb'⟩)
      refine ⟨⟨k + 1, v + days y k, by omega, by omega, by simp, by simp, ?_, hb.trans (hb'.mono hb.size)⟩, by simp [intOf]; omega⟩
      show _ = _
      rw [hv.out, mo_step y hk1]; omega
    · obtain rfl : k = v5 := by omega
      go_wp2_with fail
      go_ret2
      refine ⟨?_, hb⟩
      rw [hok3.out]
      refine opt2_some ?_
      rw [← hv.out]
      omega
theorem byte_no {b m : UInt8} (h : b.toNat ≠ m.toNat) {o : Option UInt8} (e : o = some b) : o ≠ some m := by
  intro e'
  rw [e] at e'
  injection e' with e'
  exact h (by rw [e'])
set_option maxHeartbeats 4000000 in
set_option maxRecDepth 100000 in
theorem refGet10_any (A : Option Addr) (n c : Nat) (l : List UInt8) (w : World) (hr : Reads w w.heap.size 1 A n (Lib.byteCells l)) (hn : n ≤ 1099511627776) (hc : n ≤ c) :
    Calls Tryz.prog 110 #[.slice A n c] w fun e w' => OptEnd (dateR l) w e w' := by
  have hl : l.length = n := by have := hr.1; simpa [Lib.byteCells_length] using this
  have hbad : ¬ (l.length = 19 ∧ l[4]? = some 45 ∧ l[7]? = some 45 ∧ l[10]? = some 95) → OptEnd (dateR l) w (.returned (.tuple #[.int .i64 0, .bool false])) w := fun h => by
    rw [dateR, if_neg h]
    exact ⟨rfl, Below.refl _ _⟩
  have HBAD := hid hbad
  clear hbad
  by_cases h19 : n = 19
  · subst h19
    obtain ⟨ad, b4, rfl, hb4, _, e4⟩ := dbyte hr (show 4 < 19 by omega)
    obtain ⟨ad', b7, e, hb7, _, e7⟩ := dbyte hr (show 7 < 19 by omega)
    injection e with e
    subst e
    obtain ⟨ad', b10, e, hb10, _, e10⟩ := dbyte hr (show 10 < 19 by omega)
    injection e with e
    subst e
    have b4l := b4.toNat_lt; have b7l := b7.toNat_lt; have b10l := b10.toNat_lt
    by_cases h4 : b4.toNat = 45
    · have x4 : b4 = 45 := UInt8.toNat_inj.1 (by rw [h4]; rfl)
      by_cases h7 : b7.toNat = 45
      · have x7 : b7 = 45 := UInt8.toNat_inj.1 (by rw [h7]; rfl)
        by_cases h10 : b10.toNat = 95
        · have x10 : b10 = 95 := UInt8.toNat_inj.1 (by rw [h10]; rfl)
          exact get10_rest ad c l w hr hc (by rw [e4, x4]) (by rw [e7, x7]) (by rw [e10, x10])
        · have hf := HBAD.out (fun h => byte_no (m := 95) h10 e10 h.2.2.2)
          have B4 : ((b4.toNat : Int) != 45) = false := by rw [bne_eq_false_iff_eq]; omega
          have B7 : ((b7.toNat : Int) != 45) = false := by rw [bne_eq_false_iff_eq]; omega
          have B10 : ((b10.toNat : Int) != 95) = true := by rw [bne_iff_ne]; omega
          clear h4 h7 h10 x4 x7 e4 e7 e10 hl HBAD hr
          simp [Addr.add] at hb4 hb7 hb10
          go_enter Tryz.func110, Tryz.ntmps110
          go_wp2
          go_ret2
          exact hf
      · have hf := HBAD.out (fun h => byte_no (m := 45) h7 e7 h.2.2.1)
        have B4 : ((b4.toNat : Int) != 45) = false := by rw [bne_eq_false_iff_eq]; omega
        have B7 : ((b7.toNat : Int) != 45) = true := by rw [bne_iff_ne]; omega
        clear h4 h7 x4 e4 e7 e10 hl HBAD hr
        simp [Addr.add] at hb4 hb7 hb10
        go_enter Tryz.func110, Tryz.ntmps110
        go_wp2
        go_ret2
        exact hf
    · have hf := HBAD.out (fun h => byte_no (m := 45) h4 e4 h.2.1)
      have B4 : ((b4.toNat : Int) != 45) = true := by rw [bne_iff_ne]; omega
      clear h4 e4 e7 e10 hl HBAD hr
      simp [Addr.add] at hb4 hb7 hb10
      go_enter Tryz.func110, Tryz.ntmps110
      go_wp2
      go_ret2
      exact hf
  · have h8B : ((n : Int) != 19) = true := by rw [bne_iff_ne]; omega
    have hf := HBAD.out (fun h => h19 (by rw [← hl]; exact h.1))
    clear h19
    go_enter Tryz.func110, Tryz.ntmps110
    go_wp2
    go_ret2
    exact hf
end Go.Proofs.YtinlonpcakkfhaaGreatDoor
end
section
set_option maxRecDepth 100000
namespace Go.Proofs.YtinlonpcakkfhaaGreatDoor
open Go Go.Proofs Go.RowKit _root_.Ord11 Go.Proofs.YtinlonpcakkfhaaGreatDoor.Ord11 Num9 Dat
theorem three_any (l m : Bool) (w : World) : Calls Tryz.prog 105 #[.bool l, .bool m] w fun e w' => e = .returned (.int .i64 (Go.Proofs.YtinlonpcakkfhaaGreatDoor.Ord11.three l m)) ∧ w' = w := by
  cases l <;> cases m
  all_goals go_enter Tryz.func105, Tryz.ntmps105
  all_goals go_wp2
  all_goals go_ret
  all_goals exact ⟨rfl, rfl⟩
theorem drop_bare : ∀ (l : List UInt8), ∃ k, k ≤ l.length ∧ l.drop k = Go.Proofs.YtinlonpcakkfhaaGreatDoor.Ord11.bare l
  | [] => ⟨0, Nat.le_refl _, rfl⟩
  | c :: r => by
    by_cases h : (c == 0) = true
    · obtain ⟨k, hk, e⟩ := drop_bare r
      refine ⟨k + 1, by simpa using hk, ?_⟩
      rw [List.drop_succ_cons, e]
      unfold Go.Proofs.YtinlonpcakkfhaaGreatDoor.Ord11.bare
      rw [List.dropWhile_cons, if_pos h]
    · refine ⟨0, Nat.zero_le _, ?_⟩
      rw [List.drop_zero]
      unfold Go.Proofs.YtinlonpcakkfhaaGreatDoor.Ord11.bare
      rw [List.dropWhile_cons, if_neg h]
set_option maxHeartbeats 4000000 in
theorem bare_any (A : Option Addr) (n c B : Nat) (l : List UInt8) (w : World) (hr : Reads w B 1 A n (Lib.byteCells l)) (hn : n ≤ 1099511627776) (hc : n ≤ c) :
    Calls Tryz.prog 109 #[.slice A n c] w fun e w' => e = .returned (.string ⟨(Go.Proofs.YtinlonpcakkfhaaGreatDoor.Ord11.bare l).toArray⟩) ∧ w' = w := by
  have hl : Hid (l.length = n) := by have := hr.1; show _ = _; simpa [Lib.byteCells_length] using this
  obtain ⟨X, hX⟩ : ∃ X, X = Go.Proofs.YtinlonpcakkfhaaGreatDoor.Ord11.bare l := ⟨_, rfl⟩
  rw [← hX]
  have HX := hid hX
  clear hX
  go_enter Tryz.func109, Tryz.ntmps109
  go_wp2_with fail
  go_loop [3] (fun a => ∃ i : Nat, i ≤ n ∧ a = .int .i64 i ∧ Hid (X = Go.Proofs.YtinlonpcakkfhaaGreatDoor.Ord11.bare (l.drop i))) (fun a => n - (intOf a).toNat)
  case atStart => exact ⟨0, Nat.zero_le _, rfl, by show _ = _; rw [HX.out, List.drop_zero]⟩
  case round =>
    obtain ⟨i, hin, rfl, hI⟩ := hrel
    have hend : ∀ (h : Hid (X = l.drop i)), (convert 22 9 (.slice (if c = i then A else A.map (·.add i)) (n - i) (c - i))).run Tryz.prog w = .ok (.string ⟨X.toArray⟩) w := by
      intro h
      have hcut := hr.cut (k := i) (cap := c) hin hc
      rw [Nat.mul_one] at hcut
      have e1 : (Lib.byteCells l).drop i = Lib.byteCells X := by rw [h.out]; simp [Lib.byteCells, List.map_drop]
      rw [e1] at hcut
      exact run_back hcut
    have HEND := hid hend
    clear hend
    by_cases hi : i < n
    · obtain ⟨ad, y, rfl, hcell, hd, _⟩ := dbyte hr hi
      by_cases hy : y.toNat = 0
      · have hyB : ((y.toNat : Int) == 0) = true := by rw [beq_iff_eq]; omega
        have HN : Hid (X = Go.Proofs.YtinlonpcakkfhaaGreatDoor.Ord11.bare (l.drop (i + 1))) := by
          show _ = _
          have hy0 : y = 0 := UInt8.toNat_inj.1 hy
          rw [hI.out, hd]
          conv => lhs; unfold Go.Proofs.YtinlonpcakkfhaaGreatDoor.Ord11.bare
          rw [List.dropWhile_cons, if_pos (by rw [hy0]; rfl)]
          rfl
        clear hd
        go_wp2_with fail
        exact ⟨⟨i + 1, by omega, by simp, HN⟩, by simp [intOf]; omega⟩
      · have hyB : ((y.toNat : Int) == 0) = false := by rw [beq_eq_false_iff_ne]; omega
        have HN : Hid (X = l.drop i) := by
          show _ = _
          rw [hI.out, hd]
          unfold Go.Proofs.YtinlonpcakkfhaaGreatDoor.Ord11.bare
          rw [List.dropWhile_cons, if_neg (by rw [beq_iff_eq]; intro e; rw [e] at hy; exact hy rfl)]
        have kb := HEND.out HN
        clear hd
        by_cases hci : c = i
        · omega
        · rw [if_neg hci, Option.map_some] at kb
          have HC := hid hci
          clear hci
          go_wp2_with fail
          go_ret
          exact ⟨rfl, rfl⟩
    · obtain rfl : i = n := by omega
      have HN : Hid (X = l.drop i) := by
        show _ = _
        rw [hI.out, List.drop_of_length_le (by rw [hl.out]; exact Nat.le_refl _)]; rfl
      have kb := HEND.out HN
      by_cases hci : c = i
      · subst hci
        rw [if_pos rfl, Nat.sub_self] at kb
        go_wp2_with fail
        go_ret
        exact ⟨rfl, rfl⟩
      · rw [if_neg hci, Nat.sub_self] at kb
        go_wp2_with fail
        go_ret
        exact ⟨rfl, rfl⟩
def CmpEnd (o : Nat) (a b : List UInt8) (w : World) (e : Ending) (w' : World) : Prop :=
  e = .returned (.tuple #[.int .i64 (ordC o a b).1, .bool (ordC o a b).2]) ∧ Below w.heap.size w w'
namespace Num9
theorem is_key {l : List UInt8} {x : Nat} {ok : Bool} (h : (numR l).Is x ok) : (ok = false → numK l = none) ∧ (ok = true → numK l = key x) := by
  unfold numK
  cases hR : numR l with
  | none =>
    rw [hR] at h
    obtain ⟨rfl, rfl⟩ := h
    exact ⟨fun _ => rfl, fun e => by cases e⟩
  | nan =>
    rw [hR] at h
    obtain ⟨a, rfl⟩ := h
    exact ⟨fun e => (by cases e), fun _ => a.symm⟩
  | inf s =>
    rw [hR] at h
    obtain ⟨rfl, rfl⟩ := h
    exact ⟨fun e => (by cases e), fun _ => rfl⟩
  | val s n sc =>
    rw [hR] at h
    obtain ⟨⟨q, hq, rfl⟩, rfl⟩ := h
    refine ⟨fun e => (by cases e), fun _ => ?_⟩
    simp only [hq]
theorem cmp_key (x y : Nat) (a b : List UInt8) (ha : numK a = key x) (hb : numK b = key y) : (cmpI (Ieee.double.order x y), (Ieee.double.order x y).isSome) = keyed numK a b := by
  unfold keyed
  rw [ha, hb, order_key]
  cases key x with
  | none => rfl
  | some u =>
    cases key y with
    | none => rfl
    | some v =>
      show (cmpI (some (compareOfLessAndEq u v)), true) = _
      unfold compareOfLessAndEq Go.Proofs.YtinlonpcakkfhaaGreatDoor.Ord11.three
      by_cases h1 : u < v
      · simp [h1, cmpI]
      · by_cases h2 : u = v
        · subst h2; simp [cmpI]
        · have h3 : v < u := by omega
          simp [h1, h2, h3, cmpI]
end Num9
theorem gtr_str (t : TypeId) (S S' : ByteArray) (w : World) : (binOp .gtr t (.string S) (.string S')).run Tryz.prog w = .ok (.bool (Op.bytesLess S'.toList S.toList)) w := by
  have h : (!(Op.bytesLess S.toList S'.toList || S.toList == S'.toList)) = Op.bytesLess S'.toList S.toList := by
    generalize S.toList = a
    generalize S'.toList = b
    rcases less_total a b with h | h | h
    · rw [h, less_asymm h]; rfl
    · subst h; rw [less_irrefl]; simp
    · rw [h, less_asymm h]
      have : (a == b) = false := by
        rw [beq_eq_false_iff_ne]
        rintro rfl
        rw [less_irrefl] at h; cases h
      rw [this]; rfl
  rw [← h]
  simp [binOp, Op.stringOp]
set_option maxHeartbeats 8000000 in
theorem refCompare11 (o : Nat) (ho : o < 256) (A A' : Option Addr) (n c n' c' : Nat) (a b : List UInt8) (w : World) (hr : Reads w w.heap.size 1 A n (Lib.byteCells a)) (hr' : Reads w w.heap.size 1 A' n' (Lib.byteCells b)) (hn : n ≤ 1099511627776) (hn' : n' ≤ 1099511627776) (hc : n ≤ c) (hc' : n' ≤ c') :
    Calls Tryz.prog 94 #[.int .u8 o, .slice A n c, .slice A' n' c'] w fun e w' => CmpEnd o a b w e w' := by
  by_cases h1 : o = 1
  · subst h1
    have k1 := run_back (c := c) hr
    have k2 := run_back (c := c') hr'
    have s1 : (⟨a.toArray⟩ : ByteArray).toList = a := by rw [ByteArray.toList_eq]
    have s2 : (⟨b.toArray⟩ : ByteArray).toList = b := by rw [ByteArray.toList_eq]
    generalize (⟨a.toArray⟩ : ByteArray) = S at k1 s1
    generalize (⟨b.toArray⟩ : ByteArray) = S' at k2 s2
    obtain ⟨x, hx⟩ : ∃ x, Op.bytesLess S.toList S'.toList = x := ⟨_, rfl⟩
    obtain ⟨y, hy⟩ : ∃ y, Op.bytesLess S'.toList S.toList = y := ⟨_, rfl⟩
    have hX : Hid (ordC 1 a b = (Go.Proofs.YtinlonpcakkfhaaGreatDoor.Ord11.three x y, true)) := by
      show _ = _
      rw [← hx, ← hy, s1, s2]; rfl
    clear s1 s2
    go_enter Tryz.func94, Tryz.ntmps94
    have kg := fun t w => gtr_str t S S' w
    rw [hy] at kg
    go_wp2_with first | (go_at_call 105; refine (three_any x y _).mono ?_; rintro e w1 ⟨rfl, rfl⟩) | (simp only [kg])
    go_ret2
    exact ⟨by rw [hX.out]; rfl, Below.refl _ _⟩
  by_cases h2 : o = 2
  · subst h2
    have HR := hid hr
    have HR' := hid hr'
    clear hr hr' h1
    go_enter Tryz.func94, Tryz.ntmps94
    go_wp2_with fail
    refine (refGet9_any A n c a _ w HR.out hn).mono ?_
    rintro e w1 ⟨x, ok, rfl, hx, hb1⟩
    have HX := hid (is_key hx)
    have HB1 := hid hb1
    clear hx hb1
    go_wp2_with fail
    refine (refGet9_any A' n' c' b _ w1 (HR'.out.below HB1.out) hn').mono ?_
    rintro e w2 ⟨y, is, rfl, hy, hb2⟩
    have HY := hid (is_key hy)
    have HB2 := hid (HB1.out.trans (hb2.mono HB1.out.size))
    clear hy hb2
    have hnone : numK a = none ∨ numK b = none → CmpEnd 2 a b w (.returned (.tuple #[.int .i64 0, .bool false])) w2 := by
      intro h
      refine ⟨?_, HB2.out⟩
      show _ = Ending.returned (.tuple #[.int .i64 (keyed numK a b).1, .bool (keyed numK a b).2])
      rw [keyed_none h]
    have HN := hid hnone
    clear hnone
    cases ok with
    | false =>
      go_wp2_with fail
      go_ret2
      exact HN.out (.inl (HX.out.1 (by simp)))
    | true =>
      cases is with
      | false =>
        go_wp2_with fail
        go_ret2
        exact HN.out (.inr (HY.out.1 (by simp)))
      | true =>
        go_wp2_with fail
        refine (refCompare_any x y w2).mono ?_
        rintro e w3 ⟨rfl, hb3⟩
        have HB3 := hid (HB2.out.trans (hb3.mono HB2.out.size))
        clear hb3
        have hK : Hid ((cmpI (Ieee.double.order x y), (Ieee.double.order x y).isSome) = ordC 2 a b) := cmp_key x y a b (HX.out.2 (by simp)) (HY.out.2 (by simp))
        generalize cmpI (Ieee.double.order x y) = p at hK
        generalize (Ieee.double.order x y).isSome = q at hK
        go_wp2_with fail
        go_ret2
        exact ⟨by rw [← hK.out]; rfl, HB3.out⟩
  by_cases h4 : o = 4
  · subst h4
    have HR := hid hr
    have HR' := hid hr'
    obtain ⟨X, hX⟩ : ∃ X, X = Go.Proofs.YtinlonpcakkfhaaGreatDoor.Ord11.bare a := ⟨_, rfl⟩
    obtain ⟨Y, hY⟩ : ∃ Y, Y = Go.Proofs.YtinlonpcakkfhaaGreatDoor.Ord11.bare b := ⟨_, rfl⟩
    have kx := bare_any A n c _ a w hr hn hc
    have ky := bare_any A' n' c' _ b w hr' hn' hc'
    have hbt := bin_told a b
    rw [← hX] at kx hbt
    rw [← hY] at ky hbt
    have KX := hid kx
    have KY := hid ky
    have hok : (ordC 4 a b).2 = true := by
      show (keyed binK a b).2 = true
      rw [keyed_ok]; rfl
    have HOK := hid hok
    have HBT : Hid ((ordC 4 a b).1 = _) := hbt
    have hl : a.length = n := by have := hr.1; simpa [Lib.byteCells_length] using this
    have hl' : b.length = n' := by have := hr'.1; simpa [Lib.byteCells_length] using this
    have hXl : X.length ≤ n := by
      obtain ⟨k, _, e⟩ := drop_bare a
      rw [hX, ← e, List.length_drop]; omega
    have hYl : Y.length ≤ n' := by
      obtain ⟨k, _, e⟩ := drop_bare b
      rw [hY, ← e, List.length_drop]; omega
    clear kx ky hbt hok hr hr' hX hY h1 h2 hl hl'
    have s1 : (⟨X.toArray⟩ : ByteArray).toList = X := by rw [ByteArray.toList_eq]
    have s2 : (⟨Y.toArray⟩ : ByteArray).toList = Y := by rw [ByteArray.toList_eq]
    have z1 : (⟨X.toArray⟩ : ByteArray).size = X.length := by simp [ByteArray.size]
    have z2 : (⟨Y.toArray⟩ : ByteArray).size = Y.length := by simp [ByteArray.size]
    generalize (⟨X.toArray⟩ : ByteArray) = S at KX s1 z1
    generalize (⟨Y.toArray⟩ : ByteArray) = S' at KY s2 z2
    obtain ⟨x, hx⟩ : ∃ x, Op.bytesLess S.toList S'.toList = x := ⟨_, rfl⟩
    obtain ⟨y, hy⟩ : ∃ y, Op.bytesLess S'.toList S.toList = y := ⟨_, rfl⟩
    rw [← s1, ← s2, hx, hy, s1, s2, ← z1, ← z2] at HBT
    have hS : S.size ≤ 1099511627776 := by omega
    have hS' : S'.size ≤ 1099511627776 := by omega
    clear s1 s2 z1 z2 hXl hYl
    go_enter Tryz.func94, Tryz.ntmps94
    go_wp2_with fail
    refine KX.out.mono ?_
    rintro e w1 ⟨rfl, rfl⟩
    go_wp2_with fail
    refine KY.out.mono ?_
    rintro e w1 ⟨rfl, rfl⟩
    by_cases hq : S.size = S'.size
    · have hqB : ((S.size : Int) != (S'.size : Int)) = false := by rw [hq]; simp
      rw [if_neg (by omega)] at HBT
      have HQ := hid hq
      clear hq
      have kg := fun t w => gtr_str t S S' w
      rw [hy] at kg
      go_wp2_with first | (go_at_call 105; refine (three_any x y _).mono ?_; rintro e w2 ⟨rfl, rfl⟩) | (simp only [kg])
      go_ret2
      exact ⟨by rw [HBT.out, HOK.out]; rfl, Below.refl _ _⟩
    · have hqB : ((S.size : Int) != (S'.size : Int)) = true := by rw [bne_iff_ne]; omega
      rw [if_pos hq] at HBT
      have HQ := hid hq
      clear hq
      obtain ⟨z, hz⟩ : ∃ z, decide (S.size < S'.size) = z := ⟨_, rfl⟩
      rw [hz] at HBT
      go_wp2_with (go_at_call 105; refine (three_any z true _).mono ?_; rintro e w2 ⟨rfl, rfl⟩)
      go_ret2
      exact ⟨by rw [HBT.out, HOK.out]; rfl, Below.refl _ _⟩
  by_cases h3 : o = 3
  · subst h3
    have HR := hid hr
    have HR' := hid hr'
    obtain ⟨x, ok, e1, ha, _⟩ := opt_parts (clockR a)
    obtain ⟨y, is, e2, hb, _⟩ := opt_parts (clockR b)
    have E1 := hid e1
    have E2 := hid e2
    have HA := hid ha
    have HB := hid hb
    have hx : x < 315569520000 ∨ ok = false := by
      cases ok with
      | false => exact .inr rfl
      | true => exact .inl (by have := clock_lt (show clockR a = some x from by rw [ha]; rfl); omega)
    have hy : y < 315569520000 ∨ is = false := by
      cases is with
      | false => exact .inr rfl
      | true => exact .inl (by have := clock_lt (show clockR b = some y from by rw [hb]; rfl); omega)
    have hnone : clockK a = none ∨ clockK b = none → ∀ w2, Below w.heap.size w w2 → CmpEnd 3 a b w (.returned (.tuple #[.int .i64 0, .bool false])) w2 := by
      intro h w2 h2
      refine ⟨?_, h2⟩
      show _ = Ending.returned (.tuple #[.int .i64 (keyed clockK a b).1, .bool (keyed clockK a b).2])
      rw [keyed_none h]
    have HN := hid hnone
    clear hr hr' e1 e2 ha hb hnone
    go_enter Tryz.func94, Tryz.ntmps94
    go_wp2_with fail
    refine (clock10_any A n c a w HR.out hn).mono ?_
    rintro e w1 ⟨q1, hb1⟩
    rw [E1.out] at q1
    subst q1
    have HB1 := hid hb1
    clear hb1
    go_wp2_with fail
    refine (clock10_any A' n' c' b w1 ((HR'.out.below HB1.out).more HB1.out.size) hn').mono ?_
    rintro e w2 ⟨q2, hb2⟩
    rw [E2.out] at q2
    subst q2
    have HB2 := hid (HB1.out.trans (hb2.mono HB1.out.size))
    clear hb2
    cases ok with
    | false =>
      go_wp2_with fail
      go_ret2
      exact HN.out (.inl (by unfold clockK; rw [HA.out]; rfl)) _ HB2.out
    | true =>
      cases is with
      | false =>
        go_wp2_with fail
        go_ret2
        exact HN.out (.inr (by unfold clockK; rw [HB.out]; rfl)) _ HB2.out
      | true =>
        obtain ⟨u, hu⟩ : ∃ u, decide (x < y) = u := ⟨_, rfl⟩
        obtain ⟨v, hv⟩ : ∃ v, decide (y < x) = v := ⟨_, rfl⟩
        have hK : Hid (ordC 3 a b = (Go.Proofs.YtinlonpcakkfhaaGreatDoor.Ord11.three u v, true)) := by
          show keyed clockK a b = _
          have q1 : clockK a = some (x : Int) := by unfold clockK; rw [HA.out]; rfl
          have q2 : clockK b = some (y : Int) := by unfold clockK; rw [HB.out]; rfl
          rw [keyed_one q1 q2]
          simp only [Int.ofNat_lt, hu, hv]
        go_wp2_with (go_at_call 105; refine (three_any u v _).mono ?_; rintro e w3 ⟨rfl, rfl⟩)
        go_ret2
        exact ⟨by rw [hK.out]; rfl, HB2.out⟩
  by_cases h5 : o = 5
  · subst h5
    have HR := hid hr
    have HR' := hid hr'
    obtain ⟨x, ok, e1, ha, _⟩ := opt_parts (dateR a)
    obtain ⟨y, is, e2, hb, _⟩ := opt_parts (dateR b)
    have E1 := hid e1
    have E2 := hid e2
    have HA := hid ha
    have HB := hid hb
    have hx : x < 315569520000 ∨ ok = false := by
      cases ok with
      | false => exact .inr rfl
      | true => exact .inl (by have := date_lt (show dateR a = some x from by rw [ha]; rfl); omega)
    have hy : y < 315569520000 ∨ is = false := by
      cases is with
      | false => exact .inr rfl
      | true => exact .inl (by have := date_lt (show dateR b = some y from by rw [hb]; rfl); omega)
    have hnone : dateK a = none ∨ dateK b = none → ∀ w2, Below w.heap.size w w2 → CmpEnd 5 a b w (.returned (.tuple #[.int .i64 0, .bool false])) w2 := by
      intro h w2 h2
      refine ⟨?_, h2⟩
      show _ = Ending.returned (.tuple #[.int .i64 (keyed dateK a b).1, .bool (keyed dateK a b).2])
      rw [keyed_none h]
    have HN := hid hnone
    clear hr hr' e1 e2 ha hb hnone
    go_enter Tryz.func94, Tryz.ntmps94
    go_wp2_with fail
    refine (refGet10_any A n c a w HR.out hn hc).mono ?_
    rintro e w1 ⟨q1, hb1⟩
    rw [E1.out] at q1
    subst q1
    have HB1 := hid hb1
    clear hb1
    go_wp2_with fail
    refine (refGet10_any A' n' c' b w1 ((HR'.out.below HB1.out).more HB1.out.size) hn' hc').mono ?_
    rintro e w2 ⟨q2, hb2⟩
    rw [E2.out] at q2
    subst q2
    have HB2 := hid (HB1.out.trans (hb2.mono HB1.out.size))
    clear hb2
    cases ok with
    | false =>
      go_wp2_with fail
      go_ret2
      exact HN.out (.inl (by unfold dateK; rw [HA.out]; rfl)) _ HB2.out
    | true =>
      cases is with
      | false =>
        go_wp2_with fail
        go_ret2
        exact HN.out (.inr (by unfold dateK; rw [HB.out]; rfl)) _ HB2.out
      | true =>
        obtain ⟨u, hu⟩ : ∃ u, decide (x < y) = u := ⟨_, rfl⟩
        obtain ⟨v, hv⟩ : ∃ v, decide (y < x) = v := ⟨_, rfl⟩
        have hK : Hid (ordC 5 a b = (Go.Proofs.YtinlonpcakkfhaaGreatDoor.Ord11.three u v, true)) := by
          show keyed dateK a b = _
          have q1 : dateK a = some (x : Int) := by unfold dateK; rw [HA.out]; rfl
          have q2 : dateK b = some (y : Int) := by unfold dateK; rw [HB.out]; rfl
          rw [keyed_one q1 q2]
          simp only [Int.ofNat_lt, hu, hv]
        go_wp2_with (go_at_call 105; refine (three_any u v _).mono ?_; rintro e w3 ⟨rfl, rfl⟩)
        go_ret2
        exact ⟨by rw [hK.out]; rfl, HB2.out⟩
  have n1 : ((o : Int) == 1) = false := by rw [beq_eq_false_iff_ne]; omega
  have n2 : ((o : Int) == 2) = false := by rw [beq_eq_false_iff_ne]; omega
  have n3 : ((o : Int) == 3) = false := by rw [beq_eq_false_iff_ne]; omega
  have n4 : ((o : Int) == 4) = false := by rw [beq_eq_false_iff_ne]; omega
  have n5 : ((o : Int) == 5) = false := by rw [beq_eq_false_iff_ne]; omega
  have hX : Hid (ordC o a b = (0, false)) := by
    show _ = _
    unfold ordC
    rw [if_neg h1, if_neg h2, if_neg h3, if_neg h4, if_neg h5]
  clear h1 h2 h3 h4 h5
  go_enter Tryz.func94, Tryz.ntmps94
  go_wp2_with fail
  go_ret2
  exact ⟨by rw [hX.out]; rfl, Below.refl _ _⟩
theorem refIs11 (o : Nat) (ho : o < 256) (A : Option Addr) (n c : Nat) (a : List UInt8) (w : World) (hr : Reads w w.heap.size 1 A n (Lib.byteCells a)) (hn : n ≤ 1099511627776) (hc : n ≤ c) :
    Calls Tryz.prog 80 #[.int .u8 o, .slice A n c] w fun e w' => e = .returned (.bool (isV ordC o a)) ∧ Below w.heap.size w w' := by
  have k := refCompare11 o ho A A n c n c a a w hr hr hn hn hc hc
  have K := hid k
  clear k
  obtain ⟨b, hb⟩ : ∃ b, isV ordC o a = b := ⟨_, rfl⟩
  have HB := hid hb
  rw [hb]
  clear hb
  go_enter Tryz.func80, Tryz.ntmps80
  go_wp2_with fail
  refine K.out.mono ?_
  rintro e w1 ⟨rfl, hb1⟩
  rw [show (ordC o a a).2 = b from HB.out]
  generalize (ordC o a a).1 = i
  go_wp2
  go_ret
  exact ⟨rfl, hb1⟩
end Go.Proofs.YtinlonpcakkfhaaGreatDoor
end
