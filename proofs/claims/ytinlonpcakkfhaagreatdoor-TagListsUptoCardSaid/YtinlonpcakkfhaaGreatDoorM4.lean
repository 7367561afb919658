/-
  Several texts in one: TgPM, Tab, PutLen, May, TgP1, BytesCut, TgP2, OrdP1, NumOk, NumExact, NumProg, NumDig, NumDec, NumOkP, DatPr, DatP1, DatP2, DatP3, DatP4, OrdP2, OrdP3. Conditions: those that each theorem states.
-/
import Derived.Test.YtinlonpcakkfhaaGreatDoorM3
import Derived.Lib.LaidTab
import Derived.Lib.ItoaMem
import Derived.Laws.Externs
import Derived.Shelf.Bytes.SlIndexAt
import Derived.Lib.IndexLaws
import Derived.Lib.BytesEntry
import Derived.Lib.Bytealg
import Derived.OpenShut
import Derived.Lib.ItoaNum
import Derived.Lib.OthersKept
import Derived.LoopTactic
import Derived.Laws.AppendOwn
import Derived.Laws.OwnMore
import Derived.Great.BuildSlice
import Derived.Deep.QuietTactic
import Derived.BigQuiet
set_option linter.unusedVariables false
set_option linter.unusedSimpArgs false
open Go.Lib (hid)
open Go.Proofs.YtinlonpcakkfhaaGreatDoor (zA zB zC zD zE zF)

section
namespace Tag12
open _root_.Ord11 Sx Go.Proofs.YtinlonpcakkfhaaGreatDoor Go.Proofs.YtinlonpcakkfhaaGreatDoor.Ord11
/-! Parts that are as a function tells. -/
def hintB (v : SX) : Bool := match v with | .mk _ h _ _ _ => h
def listB (v : SX) : Bool := match v with | .mk l _ _ _ _ => l
def dataB (v : SX) : List UInt8 := match v with | .mk _ _ _ d _ => d
def kidsB (v : SX) : List SX := match v with | .mk _ _ _ _ ks => ks
def specL (ks : List SX) : Bool := match ks with | [] => false | x :: _ => !listB x && (dataB x == star)
def specB (v : SX) : Bool := specL (kidsB v)
mutual
def someX (P : SX → Bool) : SX → Bool
  | .mk l h hi da ks => P (.mk l h hi da ks) || someL P ks
def someL (P : SX → Bool) : List SX → Bool
  | [] => false
  | k :: r => someX P k || someL P r
end
theorem someL_snoc (P : SX → Bool) (l : List SX) (x : SX) : someL P (l ++ [x]) = (someL P l || someX P x) := by
  induction l with
  | nil => simp [someL]
  | cons a r ih => simp [someL, ih, Bool.or_assoc]
theorem someL_take (P : SX → Bool) (l : List SX) (k : Nat) (x : SX) (h : l[k]? = some x) : someL P (l.take (k + 1)) = (someL P (l.take k) || someX P x) := by
  rw [Sx.take_snoc l k x h, someL_snoc]
theorem someL_bad (P : SX → Bool) (l : List SX) (k : Nat) (x : SX) (h : l[k]? = some x) (hx : someX P x = true) : someL P l = true := by
  have : x ∈ l := List.mem_of_getElem? h
  clear h
  induction l with
  | nil => cases this
  | cons a r ih =>
    rw [someL]
    rcases List.mem_cons.1 this with rfl | h
    · rw [hx]; rfl
    · rw [ih h, Bool.or_true]
theorem someL_mem {P : SX → Bool} {l : List SX} (h : someL P l = false) : ∀ x ∈ l, someX P x = false := by
  induction l with
  | nil => intro x hx; cases hx
  | cons a r ih =>
    rw [someL, Bool.or_eq_false_iff] at h
    intro x hx
    rcases List.mem_cons.1 hx with rfl | hx
    · exact h.1
    · exact ih h.2 x hx
theorem someX_own {P : SX → Bool} {v : SX} (h : someX P v = false) : P v = false ∧ someL P (kidsB v) = false := by
  obtain ⟨l, hh, hi, da, ks⟩ := v
  rw [someX, Bool.or_eq_false_iff] at h
  exact h
def bare (v : SX) : Prop := someX hintB v = false
theorem bare_hint {l h : Bool} {hi da : List UInt8} {ks : List SX} (hb : bare (.mk l h hi da ks)) : h = false ∧ ∀ x ∈ ks, bare x := by
  obtain ⟨h1, h2⟩ := someX_own hb
  exact ⟨h1, someL_mem h2⟩
theorem isA_bare {v : SX} (hb : bare v) (s : List UInt8) : isA v s = (!listB v && (dataB v == s)) := by
  obtain ⟨l, h, hi, da, ks⟩ := v
  have := (bare_hint hb).1
  subst this
  simp [isA, listB, dataB]
theorem some_app (P : SX → Bool) (a b : List SX) : someL P (a ++ b) = (someL P a || someL P b) := by
  induction a with
  | nil => simp [someL]
  | cons x r ih => simp [someL, ih, Bool.or_assoc]
theorem hint_atom (d : List UInt8) : someX hintB (atom d) = false := by unfold atom; rw [someX, someL]; rfl
theorem hint_bound (x : Bd) (w : UInt8) : someL hintB (boundV x w) = false := by
  unfold boundV
  split
  · rw [someL, someL, someL, hint_atom, hint_atom]; rfl
  · rfl
theorem hint_list (ks : List SX) : someX hintB (list ks) = someL hintB ks := by unfold list; rw [someX]; rfl
theorem hint_value (t : TG) : someX hintB (valueT t) = false := by
  induction t using TG.ind with
  | H k d r ks ih =>
    have hk : someL hintB (valuesT ks) = false := by
      clear d r k
      induction ks with
      | nil => rw [valuesT, someL]
      | cons a q iq => rw [valuesT, someL, ih a (by simp), iq fun x hx => ih x (by simp [hx])]; rfl
    rw [valueT]
    split
    · rw [hint_list, someL, someL, hint_atom]; rfl
    · split
      · exact hint_atom d
      · split
        · rw [hint_list, someL, someL, hint_atom, hint_atom, hk]; rfl
        · split
          · rw [hint_list, someL, someL, someL, someL, hint_atom, hint_atom, hint_atom]; rfl
          · split
            · rw [hint_list, someL, someL, someL, some_app, hint_atom, hint_atom, hint_atom, hint_bound, hint_bound]; rfl
            · rw [hint_list]; exact hk
theorem get_bare {C : Cmp} {v : SX} (hc : clean v = true) (hh : someX hintB v = true) : getT C v = none := by
  cases h : getT C v with
  | none => rfl
  | some t =>
    have := (value_get v t hc h).1
    rw [← this, hint_value] at hh
    cases hh
def badB (v : SX) : Bool := hintB v || specB v
theorem concrete_some (v : SX) : clean v = true → concrete v = !someX badB v := by
  induction v using SX.ind with
  | H l h hi da ks ih =>
    intro hc
    obtain ⟨h2, h3, h4⟩ := clean_parts hc
    have hall : concreteL ks = !someL badB ks := by
      have hk := clean_all h2
      clear h2 h3 h4 hc
      induction ks with
      | nil => rw [concreteL, someL]; rfl
      | cons a r iq =>
        rw [concreteL, someL, ih a (by simp) (hk a (by simp)), iq (fun x hx => ih x (by simp [hx])) (fun x hx => hk x (by simp [hx]))]
        simp
    rw [concrete, someX, hall]
    cases hks : someL badB ks with
    | true => simp
    | false =>
      have e : headA (.mk l h hi da ks) = specL ks := by
        cases ks with
        | nil => simp [headA, specL]
        | cons x r =>
          cases l with
          | false => have := (h4 rfl).1; cases this
          | true =>
            have hx := (someX_own (someL_mem hks x (by simp))).1
            unfold badB at hx
            rw [Bool.or_eq_false_iff] at hx
            obtain ⟨xl, xh, xhi, xd, xk⟩ := x
            have hxh : xh = false := hx.1
            subst hxh
            simp [headA, specL, isA, listB, dataB]
      rw [e]
      cases h <;> cases hs : specL ks <;> simp [badB, hintB, specB, kidsB, hs]
/-! Tags counted against a room. -/
section
variable (C : Cmp)
mutual
def cnt (n : Nat) : TG → Option Nat
  | .mk k d r ks => if n = 0 ∨ ownR C k d r ks = false then none else cntL (n - 1) ks
def cntL (n : Nat) : List TG → Option Nat
  | [] => some n
  | t :: r => match cnt n t with
    | none => none
    | some m => cntL m r
end
def bindL (o : Option Nat) (f : Nat → Option Nat) : Option Nat := match o with | none => none | some m => f m
theorem cntL_cons (n : Nat) (t : TG) (r : List TG) : cntL C n (t :: r) = bindL (cnt C n t) fun m => cntL C m r := by
  rw [cntL]
  cases cnt C n t <;> rfl
theorem cntL_snoc (l : List TG) (t : TG) (n : Nat) : cntL C n (l ++ [t]) = bindL (cntL C n l) fun m => cnt C m t := by
  induction l generalizing n with
  | nil =>
    rw [List.nil_append, cntL_cons, cntL]
    show bindL (cnt C n t) _ = cnt C n t
    cases cnt C n t with
    | none => rfl
    | some m => show cntL C m [] = _; rw [cntL]
  | cons a r ih =>
    rw [List.cons_append, cntL_cons, cntL_cons]
    cases cnt C n a with
    | none => rfl
    | some m => exact ih m
theorem cntL_take {l : List TG} {k : Nat} {x : TG} (h : l[k]? = some x) (n : Nat) : cntL C n (l.take (k + 1)) = bindL (cntL C n (l.take k)) fun m => cnt C m x := by
  rw [take_snocT h, cntL_snoc]
theorem cntL_bad {l : List TG} {k n m : Nat} {x : TG} (h : l[k]? = some x) (h1 : cntL C n (l.take k) = some m) (h2 : cnt C m x = none) : cntL C n l = none := by
  have h3 := cntL_take C h n
  rw [h1] at h3
  replace h3 : cntL C n (l.take (k + 1)) = none := h3.trans h2
  have e : l = l.take (k + 1) ++ l.drop (k + 1) := (List.take_append_drop _ _).symm
  rw [e]
  generalize l.take (k + 1) = a at h3
  generalize l.drop (k + 1) = b
  clear h h1 h2 e
  induction a generalizing n with
  | nil => rw [cntL] at h3; cases h3
  | cons y q ih =>
    rw [List.cons_append, cntL_cons]
    rw [cntL_cons] at h3
    cases hc : cnt C n y with
    | none => rfl
    | some j => rw [hc] at h3; exact ih h3
theorem cnt_spec (t : TG) : ∀ n, cnt C n t = if rightT C t = true ∧ countT t ≤ n then some (n - countT t) else none := by
  induction t using TG.ind with
  | H k d r ks ih =>
    intro n
    have hL : ∀ m, cntL C m ks = if rightsT C ks = true ∧ countL ks ≤ m then some (m - countL ks) else none := by
      clear d r k n
      induction ks with
      | nil => intro m; rw [cntL, rightsT, countL, if_pos ⟨rfl, by omega⟩]; rfl
      | cons a q iq =>
        intro m
        rw [cntL_cons, ih a (by simp) m, rightsT, countL]
        by_cases h1 : rightT C a = true ∧ countT a ≤ m
        · rw [if_pos h1]
          show cntL C (m - countT a) q = _
          rw [iq (fun x hx => ih x (by simp [hx]))]
          by_cases h2 : rightsT C q = true ∧ countL q ≤ m - countT a
          · rw [if_pos h2, if_pos ⟨by rw [h1.1, h2.1]; rfl, by have := h1.2; have := h2.2; omega⟩]
            congr 1; omega
          · rw [if_neg h2, if_neg]
            rintro ⟨h3, h4⟩
            rw [Bool.and_eq_true] at h3
            exact h2 ⟨h3.2, by omega⟩
        · rw [if_neg h1, if_neg]
          · rfl
          rintro ⟨h3, h4⟩
          rw [Bool.and_eq_true] at h3
          exact h1 ⟨h3.1, by omega⟩
    rw [cnt, right_own, countT, hL]
    by_cases h0 : n = 0 ∨ ownR C k d r ks = false
    · rw [if_pos h0, if_neg]
      rintro ⟨h3, h4⟩
      rw [Bool.and_eq_true] at h3
      rcases h0 with h0 | h0
      · omega
      · rw [h3.1] at h0; cases h0
    · rw [if_neg h0]
      have h1 : ownR C k d r ks = true := by
        cases h : ownR C k d r ks with
        | true => rfl
        | false => exact absurd (.inr h) h0
      have hn : n ≠ 0 := fun h => h0 (.inl h)
      rw [h1, Bool.true_and]
      by_cases h2 : rightsT C ks = true ∧ countL ks ≤ n - 1
      · rw [if_pos h2, if_pos ⟨h2.1, by have := h2.2; omega⟩]
        congr 1; omega
      · rw [if_neg h2, if_neg]
        rintro ⟨h3, h4⟩
        exact h2 ⟨h3, by omega⟩
end
theorem count_nodes (t : TG) : rightT ordC t = true → countT t ≤ nodes (valueT t) := by
  induction t using TG.ind with
  | H k d r ks ih =>
    intro h
    rw [right_own, Bool.and_eq_true] at h
    have hL : countL ks ≤ nodesL (valuesT ks) := by
      have hr := rights_all h.2
      clear h d r k
      induction ks with
      | nil => rw [countL]; omega
      | cons a q iq =>
        rw [countL, valuesT, nodesL]
        have := ih a (by simp) (hr a (by simp))
        have := iq (fun x hx => ih x (by simp [hx])) (fun x hx => hr x (by simp [hx]))
        omega
    have hnode : ∀ l : List SX, nodes (list l) = 1 + nodesL l := fun l => by unfold list; rw [nodes]
    have hempty : ks = [] → countT (.mk k d r ks) = 1 := fun e => by subst e; rw [countT, countL]
    have hone : 1 ≤ nodes (valueT (.mk k d r ks)) := by cases valueT (.mk k d r ks); rw [nodes]; omega
    obtain ⟨h, -⟩ := h
    unfold ownR at h
    by_cases k4 : k = 4
    · rw [countT, valueT, if_neg (by omega), if_neg (by omega), if_pos k4, hnode, nodesL, nodesL]; omega
    · by_cases k3 : k = 3
      · rw [countT, valueT, if_neg (by omega), if_neg (by omega), if_neg (by omega), if_neg (by omega), if_neg (by omega), hnode]; omega
      · have e : ks = [] := by
          by_cases k1 : k = 1
          · rw [if_pos k1] at h; simp only [Bool.and_eq_true, List.isEmpty_iff] at h; exact h.2
          · rw [if_neg k1] at h
            by_cases k2 : k = 2 ∨ k = 5
            · rw [if_pos k2] at h; simp only [Bool.and_eq_true, List.isEmpty_iff] at h; exact h.2
            · rw [if_neg k2, if_neg k3, if_neg k4] at h
              by_cases k6 : k = 6
              · rw [if_pos k6] at h; simp only [Bool.and_eq_true, List.isEmpty_iff] at h; exact h.2
              · rw [if_neg k6] at h; cases h
        rw [hempty e]; exact hone
theorem mayT_cnt (t : TG) : mayT t = ((cnt ordC 512 t).isSome && may (valueT t)) := by
  rw [cnt_spec]
  unfold mayT
  by_cases h : rightT ordC t = true
  · by_cases hc : countT t ≤ 512
    · rw [if_pos ⟨h, hc⟩, h]; rfl
    · rw [if_neg (fun q => hc q.2), h]
      have := count_nodes t h
      have hm : may (valueT t) = false := by
        unfold may
        rw [decide_eq_false (show ¬ nodes (valueT t) ≤ 512 by omega)]
        simp
      rw [hm]; rfl
  · rw [if_neg (fun q => h q.1)]
    rw [show rightT ordC t = false by simpa using h]; rfl
end Tag12
namespace Tag12
open _root_.Ord11 Sx Go.Proofs.YtinlonpcakkfhaaGreatDoor Go.Proofs.YtinlonpcakkfhaaGreatDoor.Ord11
/-! How the program reads what stands behind a star. -/
def endP (l : List SX) (w : UInt8) : Option (Bd × List SX) := match l with
  | v :: x :: q => if listB v = true then none else if dataB v = [w] ∨ dataB v = [w, 101] then (if listB x = true then none else some (⟨true, dataB v == [w], dataB x⟩, q)) else some (zeroB, l)
  | l => some (zeroB, l)
def orderP (d : List UInt8) : Option Nat := if d = [] then some 0 else if d = nameW 1 then some 1 else if d = nameW 2 then some 2 else if d = nameW 3 then some 3 else if d = nameW 4 then some 4 else if d = nameW 5 then some 5 else none
def bind2 (o : Option (Bd × List SX)) (f : Bd → List SX → Option Rg) : Option Rg := match o with | none => none | some (b, q) => f b q
def bind1 (o : Option Nat) (f : Nat → Option Rg) : Option Rg := match o with | none => none | some b => f b
def rangP (l : List SX) : Option Rg := match l with
  | [] => none
  | v :: r => if listB v = true then none else bind1 (orderP (dataB v)) fun o => bind2 (endP r 103) fun lo q => bind2 (endP q 108) fun hi q2 => if q2 = [] ∧ mayR ordC ⟨o, lo, hi⟩ = true then some ⟨o, lo, hi⟩ else none
theorem bind2_some (b : Bd) (q : List SX) (f : Bd → List SX → Option Rg) : bind2 (some (b, q)) f = f b q := rfl
def toR (o : Option Rg) : Option TG := o.map fun r => .mk 6 [] r []
theorem endP_two (v x : SX) (q : List SX) (w : UInt8) : endP (v :: x :: q) w = if listB v = true then none else if dataB v = [w] ∨ dataB v = [w, 101] then (if listB x = true then none else some (⟨true, dataB v == [w], dataB x⟩, q)) else some (zeroB, v :: x :: q) := rfl
theorem rangP_cons (v : SX) (r : List SX) : rangP (v :: r) = if listB v = true then none else bind1 (orderP (dataB v)) fun o => bind2 (endP r 103) fun lo q => bind2 (endP q 108) fun hi q2 => if q2 = [] ∧ mayR ordC ⟨o, lo, hi⟩ = true then some ⟨o, lo, hi⟩ else none := rfl
theorem endP_bare {l : List SX} {w : UInt8} (hb : ∀ x ∈ l, bare x) : (∃ v q, l = v :: q ∧ listB v = true) ∨ (∃ v, l = [v] ∧ listB v = false ∧ endV l w = (if dataB v = [w] ∨ dataB v = [w, 101] then none else some (zeroB, l))) ∨ endP l w = endV l w := by
  cases l with
  | nil => exact .inr (.inr rfl)
  | cons v r =>
    cases hl : listB v with
    | true => exact .inl ⟨v, r, rfl, hl⟩
    | false =>
      right
      have h1 : ∀ s, isA v s = (dataB v == s) := fun s => by rw [isA_bare (hb v (by simp)), hl]; rfl
      cases r with
      | nil =>
        left
        refine ⟨v, rfl, hl, ?_⟩
        rw [endV_cons, h1, h1]
        by_cases h : dataB v = [w] ∨ dataB v = [w, 101]
        · rw [if_pos h, if_pos (by simpa [beq_iff_eq] using h)]
        · rw [if_neg h, if_neg (by simpa [beq_iff_eq] using h)]
      | cons x q =>
        right
        rw [endV_cons, h1, h1, endP_two]
        rw [if_neg (show ¬ listB v = true by rw [hl]; simp)]
        by_cases h : dataB v = [w] ∨ dataB v = [w, 101]
        · rw [if_pos h, if_pos (show (dataB v == [w] || dataB v == [w, 101]) = true by simpa [beq_iff_eq] using h)]
          obtain ⟨xl, xh, xhi, xd, xk⟩ := x
          have := (bare_hint (hb _ (by simp : SX.mk xl xh xhi xd xk ∈ [v, SX.mk xl xh xhi xd xk] ++ q))).1
          subst this
          cases xl with
          | true => rfl
          | false => rfl
        · rw [if_neg h, if_neg (show ¬ (dataB v == [w] || dataB v == [w, 101]) = true by simpa [beq_iff_eq] using h)]
theorem isA_list1 {v : SX} (h : listB v = true) (s : List UInt8) : isA v s = false := by
  obtain ⟨l, hh, hi, d, ks⟩ := v
  have h : l = true := h
  subst h
  rfl
theorem endV_list {v : SX} {q : List SX} {w : UInt8} (h : listB v = true) : endV (v :: q) w = some (zeroB, v :: q) := by
  rw [endV_cons, isA_list1 h, isA_list1 h]; rfl
theorem endP_one (v : SX) (w : UInt8) : endP [v] w = some (zeroB, [v]) := rfl
theorem orderV_bare {v : SX} (hb : bare v) (hl : listB v = false) : orderV v = if dataB v = [] then none else orderP (dataB v) := by
  have h1 : ∀ s, isA v s = (dataB v == s) := fun s => by rw [isA_bare hb, hl]; rfl
  unfold orderV orderP
  simp only [h1, beq_iff_eq]
  by_cases h : dataB v = []
  · rw [if_pos h, h]
    rfl
  · rw [if_neg h, if_neg h]
theorem last_bare {o : Nat} {lo : Bd} {l : List SX} (hb : ∀ x ∈ l, bare x) : bind2 (endP l 108) (fun hi q2 => if q2 = [] ∧ mayR ordC ⟨o, lo, hi⟩ = true then some (⟨o, lo, hi⟩ : Rg) else none) =
    match endV l 108 with | none => none | some (hi, q2) => if q2.isEmpty && mayR ordC ⟨o, lo, hi⟩ then some ⟨o, lo, hi⟩ else none := by
  have key : ∀ x : Option (Bd × List SX), bind2 x (fun hi q2 => if q2 = [] ∧ mayR ordC ⟨o, lo, hi⟩ = true then some (⟨o, lo, hi⟩ : Rg) else none) =
    match x with | none => none | some (hi, q2) => if q2.isEmpty && mayR ordC ⟨o, lo, hi⟩ then some ⟨o, lo, hi⟩ else none := by
    intro x
    rcases x with _ | ⟨hi, q2⟩
    · rfl
    · show (if q2 = [] ∧ mayR ordC ⟨o, lo, hi⟩ = true then some (⟨o, lo, hi⟩ : Rg) else none) = if (q2.isEmpty && mayR ordC ⟨o, lo, hi⟩) = true then some ⟨o, lo, hi⟩ else none
      simp only [Bool.and_eq_true, List.isEmpty_iff]
  rcases endP_bare (w := 108) hb with ⟨v, q, rfl, hv⟩ | ⟨v, rfl, hv, he⟩ | he
  · rw [endV_list hv]
    cases q with
    | nil => rfl
    | cons x q =>
      have : endP (v :: x :: q) 108 = none := by rw [endP_two, if_pos hv]
      rw [this]; rfl
  · rw [he, endP_one]
    rw [bind2_some, if_neg (by simp)]
    by_cases h : dataB v = [108] ∨ dataB v = [108, 101]
    · rw [if_pos h]
    · rw [if_neg h]; rfl
  · rw [he]; exact key _
theorem bare_rest {l q : List SX} {w : UInt8} {b : Bd} (hb : ∀ x ∈ l, bare x) (h : endP l w = some (b, q)) : ∀ x ∈ q, bare x := by
  unfold endP at h
  split at h
  · split at h
    · cases h
    · split at h
      · split at h
        · cases h
        · injection h with h; injection h with h1 h2; subst h2
          exact fun x hx => hb x (by simp [hx])
      · injection h with h; injection h with h1 h2; subst h2; exact hb
  · injection h with h; injection h with h1 h2; subst h2; exact hb
theorem rang_bare {l : List SX} (hb : ∀ x ∈ l, bare x) : rangedV ordC l = toR (rangP l) := by
  cases l with
  | nil => rfl
  | cons v r =>
    have hr : ∀ x ∈ r, bare x := fun x hx => hb x (by simp [hx])
    rw [rangedV_cons, rangP_cons]
    cases hl : listB v with
    | true =>
      rw [if_pos rfl]
      unfold orderV
      simp only [isA_list1 hl]
      rfl
    | false =>
      rw [if_neg (by simp), orderV_bare (hb v (by simp)) hl]
      by_cases h0 : dataB v = []
      · rw [if_pos h0, h0]
        show none = toR (bind2 (endP r 103) fun lo q => bind2 (endP q 108) fun hi q2 => if q2 = [] ∧ mayR ordC ⟨0, lo, hi⟩ = true then some ⟨0, lo, hi⟩ else none)
        have h00 : ∀ lo hi, mayR ordC ⟨0, lo, hi⟩ = false := by
          intro lo hi
          cases h : mayR ordC ⟨0, lo, hi⟩ with
          | false => rfl
          | true => have := (mayR_parts h).1.1; simp at this
        rcases endP r 103 with _ | ⟨lo, q⟩
        · rfl
        · show none = toR (bind2 (endP q 108) _)
          rcases endP q 108 with _ | ⟨hi, q2⟩
          · rfl
          · show none = toR (if q2 = [] ∧ mayR ordC ⟨0, lo, hi⟩ = true then _ else _)
            rw [h00, if_neg (by simp)]; rfl
      · rw [if_neg h0]
        cases ho : orderP (dataB v) with
        | none => rfl
        | some o =>
          show _ = toR (bind2 (endP r 103) _)
          have fin : ∀ lo q, (∀ x ∈ q, bare x) → (match endV q 108 with
              | none => none
              | some (hi, q2) => if q2.isEmpty && mayR ordC ⟨o, lo, hi⟩ then some (TG.mk 6 [] ⟨o, lo, hi⟩ []) else none) = toR (bind2 (endP q 108) fun hi q2 => if q2 = [] ∧ mayR ordC ⟨o, lo, hi⟩ = true then some ⟨o, lo, hi⟩ else none) := by
            intro lo q hq
            rw [last_bare hq]
            rcases endV q 108 with _ | ⟨hi, q2⟩
            · rfl
            · show (if _ then _ else _) = toR (if _ then _ else _)
              split <;> rfl
          rcases endP_bare (w := 103) hr with ⟨x, q, rfl, hx⟩ | ⟨x, rfl, hx, he⟩ | he
          · rw [endV_list hx]
            show (match endV (x :: q) 108 with | none => none | some (hi, q2) => _) = _
            rw [endV_list hx]
            show (if (false && _) = true then _ else _) = _
            rw [if_neg (by simp)]
            cases q with
            | nil => 
              rw [endP_one, bind2_some, endP_one, bind2_some, if_neg (by simp)]; rfl
            | cons y q =>
              have : endP (x :: y :: q) 103 = none := by rw [endP_two, if_pos hx]
              rw [this]; rfl
          · rw [he, endP_one]
            rw [bind2_some, endP_one, bind2_some, if_neg (show ¬ ([x] = [] ∧ mayR ordC ⟨o, zeroB, zeroB⟩ = true) by simp)]
            by_cases h : dataB x = [103] ∨ dataB x = [103, 101]
            · rw [if_pos h]; rfl
            · rw [if_neg h]
              show (match endV [x] 108 with | none => none | some (hi, q2) => _) = none
              have h1 : ∀ s, isA x s = (dataB x == s) := fun s => by rw [isA_bare (hr x (by simp)), hx]; rfl
              rw [endV_cons]
              cases isA x [108] || isA x [108, 101] <;> rfl
          · rw [he]
            rcases hev : endV r 103 with _ | ⟨lo, q⟩
            · rfl
            · exact fin lo q (bare_rest hr (he.trans hev))
def specP (l : List SX) : Option TG := match l with
  | [] => some (.mk 1 [] zeroR [])
  | x :: q => if listB x = true then none else if dataB x = setW then (getsT ordC q).map (fun ks => .mk 4 [] zeroR ks)
    else if dataB x = prefW then (match q with | [y] => if listB y = true then none else some (.mk 5 (dataB y) zeroR []) | _ => none)
    else if dataB x = rangW then toR (rangP q) else none
theorem specP_cons (x : SX) (q : List SX) : specP (x :: q) = if listB x = true then none else if dataB x = setW then (getsT ordC q).map (fun ks => .mk 4 [] zeroR ks)
    else if dataB x = prefW then (match q with | [y] => if listB y = true then none else some (.mk 5 (dataB y) zeroR []) | _ => none)
    else if dataB x = rangW then toR (rangP q) else none := rfl
theorem spec_bare {h : Bool} {hi d : List UInt8} {v : SX} {l : List SX} (hb : ∀ x ∈ v :: l, bare x) (hs : specL (v :: l) = true) : getT ordC (.mk true h hi d (v :: l)) = specP l := by
  have hv : isA v star = true := by rw [isA_bare (hb v (by simp))]; exact hs
  cases l with
  | nil => rw [getT_cons, if_pos hv]; rfl
  | cons x q =>
    rw [getT_star _ _ _ _ _ _ hv, specP_cons]
    cases hl : listB x with
    | true =>
      simp only [isA_list1 hl]
      rfl
    | false =>
      have h1 : ∀ s, isA x s = (dataB x == s) := fun s => by rw [isA_bare (hb x (by simp)), hl]; rfl
      rw [h1, h1, h1, if_neg (show ¬ (false : Bool) = true by simp)]
      by_cases c1 : dataB x = setW
      · rw [if_pos (show (dataB x == setW) = true by simpa using c1), if_pos c1]
      rw [if_neg (show ¬ (dataB x == setW) = true by simpa using c1), if_neg c1]
      by_cases c2 : dataB x = prefW
      · rw [if_pos c2]
        have c3 : ¬ dataB x = rangW := by rw [c2]; decide
        rcases q with _ | ⟨y, _ | ⟨z, q⟩⟩
        · rw [if_neg (by simp), if_neg (by simpa using c3)]
        · rw [if_pos (by simpa using c2)]
          obtain ⟨yl, yh, yhi, yd, yk⟩ := y
          have := (bare_hint (hb (SX.mk yl yh yhi yd yk) (by simp))).1
          subst this
          cases yl <;> rfl
        · rw [if_neg (by simp), if_neg (by simpa using c3)]
      · rw [if_neg c2, if_neg (by simp [c2])]
        by_cases c3 : dataB x = rangW
        · rw [if_pos c3, if_pos (by simpa using c3)]
          exact rang_bare fun y hy => hb y (by simp [hy])
        · rw [if_neg c3, if_neg (by simpa using c3)]
theorem plain_bare {h : Bool} {hi d : List UInt8} {ks : List SX} (hb : ∀ x ∈ ks, bare x) (hs : specL ks = false) : getT ordC (.mk true h hi d ks) = (getsT ordC ks).map (fun l => .mk 3 [] zeroR l) := by
  cases ks with
  | nil => rw [getT, getsT]; rfl
  | cons v r =>
    have hv : isA v star = false := by rw [isA_bare (hb v (by simp))]; exact hs
    rw [getT_cons, if_neg (by rw [hv]; simp), getsT]
    rcases getT ordC v with _ | t
    · rfl
    · rcases getsT ordC r with _ | ts <;> rfl
end Tag12
end
section
namespace Go.Proofs.YtinlonpcakkfhaaGreatDoor
open Go Go.Proofs Go.RowKit
abbrev Tab (w : World) : Prop := Lib.TabIs Tryz.prog w "internal/strconv.uint64pow10" .u64 Lib.pow10Tab
theorem tabAt : Tryz.prog.globalNamed "internal/strconv.uint64pow10" = some 5 := by kernel_rfl
theorem Tab.keep {w w' : World} (h : Tab w) (hh : w'.heap[(5 : Nat)]? = w.heap[(5 : Nat)]?) : Tab w' := by
  have h : w.var? Tryz.prog "internal/strconv.uint64pow10" = _ := h
  show w'.var? Tryz.prog "internal/strconv.uint64pow10" = _
  rw [← h]
  unfold World.var?
  rw [tabAt]
  simp only [Option.bind_some]
  rw [hh]
theorem Tab.lt {w : World} (h : Tab w) : 5 < w.heap.size := by
  have h : w.var? Tryz.prog "internal/strconv.uint64pow10" = _ := h
  unfold World.var? at h
  rw [tabAt] at h
  simp only [Option.bind_some] at h
  rcases Nat.lt_or_ge 5 w.heap.size with h' | h'
  · exact h'
  · rw [Array.getElem?_eq_none h'] at h; cases h
theorem Tab.old {w w' : World} (h : Tab w) (hb : Below w.heap.size w w') : Tab w' := h.keep (hb.block _ h.lt)
theorem Tab.grown {w w' : World} {row : Option Nat} (h : Tab w) (hg : w.grownBy w' row) (hr : row ≠ some 5) : Tab w' := h.keep (hg.block _ h.lt (fun e => hr e.symm))
theorem below_grow (w : World) (k : Nat) (os : Array Obj) : Below w.heap.size w (Sort.grow (w.drewN k) os) :=
  ⟨rfl, rfl, rfl, by simp [Sort.grow], fun i hi => by
    show (w.heap ++ os)[i]? = _
    rw [Array.getElem?_append_left hi]⟩
end Go.Proofs.YtinlonpcakkfhaaGreatDoor
end
section
namespace Go.Proofs.YtinlonpcakkfhaaGreatDoor
open Go Go.Proofs Go.RowKit
set_option maxHeartbeats 1000000 in
set_option maxRecDepth 100000 in
theorem putLen_any (n : Int) (w : World) (h0 : -9223372036854775808 ≤ n) (h1 : n ≤ 9223372036854775807) (htab : Tab w) :
    Calls Tryz.prog 113 #[.int .i64 n] w fun e w' => e = .returned (.string ⟨(Lib.decDigits n.toNat).toArray⟩) ∧ Below w.heap.size w w' := by
  have he : Lib.itoa (max n 0) = Lib.decDigits n.toNat := by
    unfold Lib.itoa
    rw [if_neg (by omega), show (max n 0).toNat = n.toNat from by omega]
  have HE := hid he
  have HT := hid htab
  have hb := fun k os => below_grow w k os
  have HB := hid hb
  clear he htab hb
  go_enter Tryz.func113, Tryz.ntmps113
  go_wp2_with fail
  refine (Tryz.strconv_Itoa (max n 0) (by omega) (by omega) w HT.out).mono ?_
  rintro e w1 ⟨rfl, k, os, rfl⟩
  rw [HE.out]
  have hbb := HB.out k os
  generalize Sort.grow (w.drewN k) os = w1 at *
  go_wp2
  go_ret
  exact ⟨rfl, hbb⟩
end Go.Proofs.YtinlonpcakkfhaaGreatDoor
end
section
namespace Go.Proofs.YtinlonpcakkfhaaGreatDoor
open Go Go.Proofs Go.RowKit Sx
theorem stringSize_any (A : Option Addr) (n c : Nat) (l : List UInt8) (w : World) (hl : l.length = n) (hn : n ≤ 140737488355328) (ht : Tab w) :
    Calls Tryz.prog 96 #[.slice A n c] w fun e w' => e = .returned (.int .i64 ((text l).length : Nat)) ∧ Below w.heap.size w w' := by
  have hd : (Lib.decDigits n).length ≤ 20 := Oct.dec_length 19 n (by omega)
  have HT : Hid (((text l).length : Int) = (Lib.decDigits n).length + 1 + n) := by show _ = _; rw [text_length, hl]; simp
  have HP := hid (putLen_any (n : Int) w (by omega) (by omega) ht)
  have e : ((n : Int).toNat) = n := by omega
  rw [e] at HP
  rw [HT.out]
  clear ht e
  generalize Lib.decDigits n = D at *
  have hsz : (⟨D.toArray⟩ : ByteArray).size = D.length := by show D.toArray.size = _; simp
  go_enter Tryz.func96, Tryz.ntmps96
  go_wp2_with ((with_reducible refine HP.out.mono ?_); rintro e w1 ⟨rfl, hb1⟩)
  go_ret
  exact ⟨ret_i64 (by omega), hb1⟩
set_option maxHeartbeats 1000000 in
set_option maxRecDepth 100000 in
theorem wellMade_any (t : SX) (l h : Bool) (hi da : List UInt8) (ks : List SX) (w : World) (S : Nat → Prop) (cs : List Value) (hs : SIn w S (.mk l h hi da ks) cs) :
    Calls Tryz.prog 85 #[.agg cs.toArray] w fun e w' => e = .returned (.bool (well l h hi da ks)) ∧ Below w.heap.size w w' := by
  obtain ⟨_, _, _, _, _, A1, n1, c1, A2, n2, c2, A3, n3, c3, e, rfl⟩ := hs.form_
  cases e
  obtain ⟨_, _, _, _, g1, g2, g3, b11, b12, b21, b22, b31, b32⟩ := hs.inv
  have hw := well_ways l h hi da ks
  rw [g1, g2, g3] at hw
  clear hs g1 g2 g3
  rcases hw with ⟨hw, rfl, rfl⟩ | ⟨hw, rfl, rfl, hn⟩ | ⟨hw, rfl, rfl, rfl, hn⟩ | ⟨hw, rfl, hn⟩ | ⟨hw, rfl, rfl, rfl, hn⟩ | ⟨hw, rfl, rfl, rfl, rfl⟩ | ⟨hw, rfl, rfl, rfl⟩ | ⟨hw, rfl, rfl, rfl, rfl⟩
  all_goals
    rw [hw]
    clear hw
    try have hnb1 : ((n1 : Int) == 0) = false := by rw [beq_eq_false_iff_ne]; omega
    try have hnb2 : ((n2 : Int) == 0) = false := by rw [beq_eq_false_iff_ne]; omega
    try have hnb3 : ((n3 : Int) == 0) = false := by rw [beq_eq_false_iff_ne]; omega
    go_enter Tryz.func85, Tryz.ntmps85
    go_wp2_with fail
    go_ret
    exact ⟨rfl, below_new _ _⟩
set_option maxHeartbeats 1000000 in
set_option maxRecDepth 100000 in
theorem ownSize_any (l h : Bool) (hi da : List UInt8) (ks : List SX) (w : World) (S : Nat → Prop) (cs : List Value) (hs : SIn w S (.mk l h hi da ks) cs) (ht : Tab w) :
    Calls Tryz.prog 87 #[.agg cs.toArray] w fun e w' => e = .returned (.int .i64 (own l h hi da : Nat)) ∧ Below w.heap.size w w' := by
  obtain ⟨_, _, _, _, _, A1, n1, c1, A2, n2, c2, A3, n3, c3, e, rfl⟩ := hs.form_
  cases e
  obtain ⟨_, _, _, _, g1, g2, g3, b11, b12, b21, b22, b31, b32⟩ := hs.inv
  have ht' := ht.old (below_new w (.cells #[Value.bool l, Value.bool h, Value.slice A1 n1 c1, Value.slice A2 n2 c2, Value.slice A3 n3 c3] 34))
  have hb0 := below_new w (.cells #[Value.bool l, Value.bool h, Value.slice A1 n1 c1, Value.slice A2 n2 c2, Value.slice A3 n3 c3] 34)
  have HX := hid (heap_alloc_new w (.cells #[Value.bool l, Value.bool h, Value.slice A1 n1 c1, Value.slice A2 n2 c2, Value.slice A3 n3 c3] 34))
  have C1 := hid (stringSize_any A2 n2 c2 da _ g2 b22 ht')
  have C2 := hid (fun W hb => stringSize_any A1 n1 c1 hi W g1 b12 (ht'.old hb))
  have hl1 : (text hi).length ≤ 140737488355328 + 21 := by rw [text_length, g1]; have := Oct.dec_length 19 n1 (by omega); omega
  have hl2 : (text da).length ≤ 140737488355328 + 21 := by rw [text_length, g2]; have := Oct.dec_length 19 n2 (by omega); omega
  have HO : Hid (own l h hi da = if l then 2 else (if h then 2 + (text hi).length else 0) + (text da).length) := rfl
  rw [HO.out]
  clear hs g1 g2 g3 ht ht' HO
  generalize (text hi).length = p at *
  generalize (text da).length = q at *
  cases l with
  | true =>
    go_enter Tryz.func87, Tryz.ntmps87
    go_wp2_with fail
    go_ret
    exact ⟨rfl, hb0⟩
  | false =>
    cases h with
    | true =>
      go_enter Tryz.func87, Tryz.ntmps87
      go_wp2_with (first
        | ((with_reducible refine C1.out.mono ?_); rintro e w2 ⟨rfl, hb2⟩; obtain ⟨e0, e1, e2, e3, e4⟩ := box5b (below_at hb2 HX.out))
        | ((with_reducible refine (C2.out _ hb2).mono ?_); rintro e w3 ⟨rfl, hb3⟩))
      go_ret
      exact ⟨ret_i64 (by omega), hb0.trans ((hb2.trans (hb3.mono hb2.size)).mono (by simp))⟩
    | false =>
      go_enter Tryz.func87, Tryz.ntmps87
      go_wp2_with ((with_reducible refine C1.out.mono ?_); rintro e w2 ⟨rfl, hb2⟩; obtain ⟨e0, e1, e2, e3, e4⟩ := box5b (below_at hb2 HX.out))
      go_ret
      exact ⟨ret_i64 (by omega), hb0.trans (hb2.mono (by simp))⟩
def RoomAt (w : World) (r : Nat) (n b : Int) : Prop := w.heap[r]? = some (Obj.cells #[.int .i64 n, .int .i64 b] 75 (0, 0))
theorem RoomAt.all {w : World} {r : Nat} {n b : Int} (h : RoomAt w r n b) : w.cell? ⟨r, 0, none⟩ = some (.int .i64 n) ∧ w.cell? ⟨r, 1, none⟩ = some (.int .i64 b) ∧ w.frozen? ⟨r, 0, none⟩ = false ∧ w.frozen? ⟨r, 1, none⟩ = false := by
  refine ⟨?_, ?_, ?_, ?_⟩
  · rw [Lib.cell_of_heap h]; rfl
  · rw [Lib.cell_of_heap h]; rfl
  · unfold RoomAt at h; simp [World.frozen?, h]
  · unfold RoomAt at h; simp [World.frozen?, h]
theorem RoomAt.lt {w : World} {r : Nat} {n b : Int} (h : RoomAt w r n b) : r < w.heap.size := by
  rcases Nat.lt_or_ge r w.heap.size with h' | h'
  · exact h'
  · unfold RoomAt at h; rw [Array.getElem?_eq_none h'] at h; cases h
theorem RoomAt.old {w w' : World} {r : Nat} {n b : Int} (h : RoomAt w r n b) (hb : Below w.heap.size w w') : RoomAt w' r n b := below_at hb h
theorem grown_set (w : World) (r i : Nat) (x : Value) : w.grownBy (w.setCell ⟨r, i, none⟩ x) (some r) :=
  ⟨rfl, rfl, rfl, by simp, fun k _ hk => Below.heap_setCell w ⟨r, i, none⟩ x k (fun e => hk (by rw [e]))⟩
theorem grown_below {w w' : World} (h : Below w.heap.size w w') (row : Option Nat) : w.grownBy w' row := ⟨h.os, h.tape, h.output, h.size, fun k hk _ => h.block k hk⟩
def TakeEnd (w : World) (r : Nat) (n b s : Nat) (e : Ending) (w' : World) : Prop :=
  e = .returned (.bool (decide (1 ≤ n ∧ s ≤ b))) ∧ RoomAt w' r ((n : Int) - 1) ((b : Int) - s) ∧ w.grownBy w' (some r) ∧ w'.heap.size = w.heap.size
set_option maxHeartbeats 1000000 in
set_option maxRecDepth 100000 in
theorem take_any (r n b s : Nat) (w : World) (hr : RoomAt w r n b) (hn : n ≤ 512) (hb : b ≤ 4096) (hs : s ≤ 1125899906842624) :
    Calls Tryz.prog 86 #[.pointer (some ⟨r, 0, none⟩), .int .i64 s] w (TakeEnd w r n b s) := by
  obtain ⟨c0, c1, f0, f1⟩ := hr.all
  have h1 : RoomAt ((w.setCell ⟨r, 0, none⟩ (.int .i64 ((n : Int) - 1))).setCell ⟨r, 1, none⟩ (.int .i64 ((b : Int) - s))) r ((n : Int) - 1) ((b : Int) - s) :=
    Joins.block_setCell (Joins.block_setCell hr _) _
  have h2 := (grown_set w r 0 (.int .i64 ((n : Int) - 1))).trans (grown_set _ r 1 (.int .i64 ((b : Int) - s)))
  have h3 : ((w.setCell ⟨r, 0, none⟩ (.int .i64 ((n : Int) - 1))).setCell ⟨r, 1, none⟩ (.int .i64 ((b : Int) - s))).heap.size = w.heap.size := by simp
  have H := hid (And.intro h1 (And.intro h2 h3))
  clear h1 h2 h3 hr
  by_cases q1 : 1 ≤ n
  · go_enter Tryz.func86, Tryz.ntmps86
    go_wp2_with fail
    go_ret
    exact ⟨ret_bool (by rw [decide_eq_decide]; omega), H.out⟩
  · go_enter Tryz.func86, Tryz.ntmps86
    go_wp2_with fail
    go_ret
    exact ⟨ret_bool (by symm; rw [decide_eq_false_iff_not]; omega), H.out⟩
def HoldsEnd (w : World) (r : Nat) (t : SX) (n b a : Nat) (e : Ending) (w' : World) : Prop :=
  ∃ n' b' : Int, e = .returned (.bool (fits t n b a)) ∧ RoomAt w' r n' b' ∧ (fits t n b a = true → n' = (n : Int) - nodes t ∧ b' = (b : Int) - (form t).length) ∧ w.grownBy w' (some r)
set_option maxHeartbeats 4000000 in
set_option maxRecDepth 100000 in
theorem holds_any (t : SX) : ∀ (w : World) (S : Nat → Prop) (cs : List Value) (r n b a : Nat), SIn w S t cs → (∀ k, S k → k ≠ r) → RoomAt w r n b → n ≤ 512 → b ≤ 4096 → a ≤ 16 → Tab w → r ≠ 5 →
    Calls Tryz.prog 66 #[.pointer (some ⟨r, 0, none⟩), .agg cs.toArray, .int .i64 a] w (HoldsEnd w r t n b a) := by
  induction t using SX.ind with
  | H l h hi da ks ih =>
    intro w S cs r n b a hs hS hR hn hb ha ht hrG
    obtain ⟨_, _, _, _, _, A1, n1, c1, A2, n2, c2, A3, n3, c3, e, rfl⟩ := hs.form_
    cases e
    obtain ⟨_, _, _, _, g1, g2, g3, b11, b12, b21, b22, b31, b32⟩ := hs.inv
    have hso : own l h hi da ≤ 1125899906842624 := by
      have h1 : (text hi).length ≤ 140737488355328 + 21 := by rw [text_length, g1]; have := Oct.dec_length 19 n1 (by omega); omega
      have h2 : (text da).length ≤ 140737488355328 + 21 := by rw [text_length, g2]; have := Oct.dec_length 19 n2 (by omega); omega
      unfold own
      split
      · omega
      · split <;> omega
    have hs0 := hs
    have HT0 := hid ht
    have hb0 := below_new w (.cells #[Value.bool l, Value.bool h, Value.slice A1 n1 c1, Value.slice A2 n2 c2, Value.slice A3 n3 c3] 34)
    have hs1 := hs.old hb0
    have hR1 := hR.old hb0
    have hrl := hR.lt
    have ht1 := ht.old hb0
    have HX := hid (heap_alloc_new w (.cells #[Value.bool l, Value.bool h, Value.slice A1 n1 c1, Value.slice A2 n2 c2, Value.slice A3 n3 c3] 34))
    have hsz0 : (w.alloc (.cells #[Value.bool l, Value.bool h, Value.slice A1 n1 c1, Value.slice A2 n2 c2, Value.slice A3 n3 c3] 34)).heap.size = w.heap.size + 1 := by simp
    have C1 := hid (wellMade_any (.mk l h hi da ks) l h hi da ks _ S _ hs1)
    have C2 := hid (fun W hb => ownSize_any l h hi da ks W S _ (hs1.old hb) (ht1.old hb))
    have HF1 := fits_well (l := l) (h := h) (hi := hi) (da := da) (ks := ks) (n := n) (b := b) (a := a)
    have HF2 := fits_room (l := l) (h := h) (hi := hi) (da := da) (ks := ks) (n := n) (b := b) (a := a)
    have HF3 := fun hl : l = true => hl ▸ fits_deep (h := h) (hi := hi) (da := da) (ks := ks) (n := n) (b := b) (a := a)
    have HF4 := hid (fun k t hw hk n' b' => fits_kid (l := l) (h := h) (hi := hi) (da := da) (ks := ks) (n := n) (b := b) (a := a) (k := k) (t := t) hw hk (n' := n') (b' := b'))
    have HF5 := hid (fun hw n' b' => fits_all (l := l) (h := h) (hi := hi) (da := da) (ks := ks) (n := n) (b := b) (a := a) hw (n' := n') (b' := b'))
    have HFO := hid (form_own l h hi da ks)
    have hgw : w.grownBy (w.alloc (.cells #[Value.bool l, Value.bool h, Value.slice A1 n1 c1, Value.slice A2 n2 c2, Value.slice A3 n3 c3] 34)) (some r) := grown_below hb0 _
    clear hs hs1 hR ht hsz0
    generalize own l h hi da = s at *
    cases hw : well l h hi da ks with
    | false =>
      rw [hw] at C1
      have HFF := hid (HF1 hw)
      unfold HoldsEnd
      rw [HFF.out]
      clear HF1 HF2 HF3 hw
      go_enter Tryz.func66, Tryz.ntmps66
      go_wp2_with ((with_reducible refine C1.out.mono ?_); rintro e w2 ⟨rfl, hb2⟩)
      go_ret
      exact ⟨_, _, rfl, hR1.old hb2, fun h => by (cases h), hgw.trans (grown_below hb2 _)⟩
    | true =>
      have HW := hid hw
      rw [hw] at C1
      clear HF1 hw
      by_cases q1 : ¬ (1 ≤ n ∧ s ≤ b)
      · have HFF := hid (HF2 q1)
        have q1' : decide (1 ≤ n ∧ s ≤ b) = false := by rw [decide_eq_false_iff_not]; exact q1
        have HQ := hid q1'
        unfold HoldsEnd
        rw [HFF.out]
        clear HF2 HF3 q1 q1'
        go_enter Tryz.func66, Tryz.ntmps66
        go_wp2_with (first
          | ((with_reducible refine C1.out.mono ?_); rintro e w2 ⟨rfl, hb2⟩; obtain ⟨e0, e1, e2, e3, e4⟩ := box5b (below_at hb2 HX.out))
          | ((with_reducible refine (C2.out _ hb2).mono ?_); rintro e w3 ⟨rfl, hb3⟩; have hb4 := hb2.trans (hb3.mono hb2.size))
          | ((with_reducible refine (take_any r n b s _ (hR1.old hb4) hn hb hso).mono ?_); rintro e w4 ⟨rfl, hR4, hg4, hz4⟩; rw [HQ.out]))
        go_ret
        exact ⟨_, _, rfl, hR4, fun h => by (cases h), (hgw.trans (grown_below hb4 _)).trans hg4⟩
      · have q1 := Classical.not_not.1 q1
        have q1' : decide (1 ≤ n ∧ s ≤ b) = true := by rw [decide_eq_true_iff]; exact q1
        have HQ := hid q1'
        obtain ⟨nn, rfl⟩ : ∃ nn, n = nn + 1 := ⟨n - 1, by omega⟩
        obtain ⟨bb, rfl⟩ : ∃ bb, b = bb + s := ⟨b - s, by omega⟩
        clear HF2 q1 q1'
        by_cases q2 : l = true ∧ 16 ≤ a
        · obtain ⟨rfl, q2⟩ := q2
          have HFF := hid (HF3 rfl q2)
          unfold HoldsEnd
          rw [HFF.out]
          clear HF3
          have q2' : (16 : Int) ≤ a := by omega
          go_enter Tryz.func66, Tryz.ntmps66
          go_wp2_with (first
          | ((with_reducible refine C1.out.mono ?_); rintro e w2 ⟨rfl, hb2⟩; obtain ⟨e0, e1, e2, e3, e4⟩ := box5b (below_at hb2 HX.out))
          | ((with_reducible refine (C2.out _ hb2).mono ?_); rintro e w3 ⟨rfl, hb3⟩; have hb4 := hb2.trans (hb3.mono hb2.size)))
          refine (take_any r (nn + 1) (bb + s) s _ (hR1.old hb4) hn hb hso).mono ?_
          rintro e w4 ⟨rfl, hR4, hg4, hz4⟩
          rw [HQ.out]
          have HX4 := hid ((hg4.block w.heap.size (by have := hb4.size; simp at this; omega) (fun e => by injection e with e; omega)).trans (below_at hb4 HX.out))
          clear e0 e1 e2 e3 e4
          obtain ⟨e0, e1, e2, e3, e4⟩ := box5b HX4.out
          go_wp2_with fail
          go_ret
          exact ⟨_, _, rfl, hR4, fun h => by (cases h), (hgw.trans (grown_below hb4 _)).trans hg4⟩
        · clear HF3
          have hln : 0 < n3 → l = true ∧ a < 16 := by
            intro h0
            have hl : l = true := by
              cases l
              · have hw := HW.out
                have : ks.isEmpty = true := by simp [well] at hw; simpa using hw.1
                have hnil : ks = [] := by simpa using this
                rw [hnil] at g3
                simp at g3
                omega
              · rfl
            exact ⟨hl, by rcases Nat.lt_or_ge a 16 with h | h; exact h; exact absurd ⟨hl, h⟩ q2⟩
          have hla : l = true → a < 16 := fun hl => by rcases Nat.lt_or_ge a 16 with h | h; exact h; exact absurd ⟨hl, h⟩ q2
          have HLN := hid hln
          have HLA := hid hla
          have HK := hid g3
          have IH := hid ih
          have HSR := hid hS
          have HS0 := hid hs0
          have q2' : l = true → (a : Int) < 16 := fun hl => by have := hla hl; omega
          have q3 : (l && decide (16 ≤ (a : Int))) = false := by
            cases l
            · rfl
            · have := q2' rfl
              simp; omega
          cases hlc : l with
          | false =>
            subst hlc
            have hz : n3 = 0 := by
              rcases Nat.eq_zero_or_pos n3 with h | h
              · exact h
              · have := (hln h).1; cases this
            subst hz
            have hnil : Hid (ks = []) := List.eq_nil_of_length_eq_zero g3
            have HFF := hid (HF5.out HW.out nn bb (by rw [hnil.out]; simp [nodesL]) (by rw [hnil.out]; simp [formL]) (by rw [hnil.out]; rfl) (fun h => by cases h) (fun t ht => by rw [hnil.out] at ht; cases ht) ha)
            have hN : Hid (nodes (.mk false h hi da ks) = 1) := by show _ = _; rw [nodes, hnil.out]; rfl
            have hFl : Hid ((form (.mk false h hi da ks)).length = s) := by show _ = _; rw [HFO.out HW.out, hnil.out]; rfl
            clear hln hla g3 ih hS q2 q2' q3 hs0
            go_enter Tryz.func66, Tryz.ntmps66
            go_wp2_with (first
            | ((with_reducible refine C1.out.mono ?_); rintro e w2 ⟨rfl, hb2⟩; obtain ⟨e0, e1, e2, e3, e4⟩ := box5b (below_at hb2 HX.out))
            | ((with_reducible refine (C2.out _ hb2).mono ?_); rintro e w3 ⟨rfl, hb3⟩; have hb4 := hb2.trans (hb3.mono hb2.size))
            | ((with_reducible refine (take_any r (nn + 1) (bb + s) s _ (hR1.old hb4) hn hb hso).mono ?_); rintro e w4 ⟨rfl, hR4, hg4, hz4⟩; rw [HQ.out]; have HX4 := hid ((hg4.block w.heap.size (by have := hb4.size; simp at this; omega) (fun e => by injection e with e; omega)).trans (below_at hb4 HX.out)); clear e0 e1 e2 e3 e4; obtain ⟨e0, e1, e2, e3, e4⟩ := box5b HX4.out))
            have hR4' : RoomAt w4 r nn bb := by
              have e1 : ((nn + 1 : Nat) : Int) - 1 = nn := by omega
              have e2 : ((bb + s : Nat) : Int) - s = bb := by omega
              rw [e1, e2] at hR4
              exact hR4
            go_loopw [30] (fun i wr => i = .int .i64 0 ∧ wr = w4) (fun i _ => 0)
            case atStart => exact ⟨rfl, rfl⟩
            case round =>
              obtain ⟨rfl, rfl⟩ := hrel
              go_wp2_with fail
              go_ret
              exact ⟨nn, bb, ret_bool (by rw [HFF.out]), hR4', fun _ => ⟨by rw [hN.out]; omega, by rw [hFl.out]; omega⟩, (hgw.trans (grown_below hb4 _)).trans hg4⟩
          | true =>
          subst hlc
          have q4 : (a : Int) < 16 := q2' rfl
          clear hln hla g3 ih hS q2 q2' q3 hs0
          go_enter Tryz.func66, Tryz.ntmps66
          go_wp2_with (first
          | ((with_reducible refine C1.out.mono ?_); rintro e w2 ⟨rfl, hb2⟩; obtain ⟨e0, e1, e2, e3, e4⟩ := box5b (below_at hb2 HX.out))
          | ((with_reducible refine (C2.out _ hb2).mono ?_); rintro e w3 ⟨rfl, hb3⟩; have hb4 := hb2.trans (hb3.mono hb2.size))
          | ((with_reducible refine (take_any r (nn + 1) (bb + s) s _ (hR1.old hb4) hn hb hso).mono ?_); rintro e w4 ⟨rfl, hR4, hg4, hz4⟩; rw [HQ.out]; have HX4 := hid ((hg4.block w.heap.size (by have := hb4.size; simp at this; omega) (fun e => by injection e with e; omega)).trans (below_at hb4 HX.out)); clear e0 e1 e2 e3 e4; obtain ⟨e0, e1, e2, e3, e4⟩ := box5b HX4.out))
          have hR4' : RoomAt w4 r nn bb := by
            have e1 : ((nn + 1 : Nat) : Int) - 1 = nn := by omega
            have e2 : ((bb + s : Nat) : Int) - s = bb := by omega
            rw [e1, e2] at hR4
            exact hR4
          have hgw4 := (hgw.trans (grown_below hb4 _)).trans hg4
          go_loopw [30] (fun i wr => ∃ k n' b' : Nat, k ≤ n3 ∧ i = .int .i64 k ∧ RoomAt wr r n' b' ∧ n' + nodesL (ks.take k) = nn ∧ b' + (formL (ks.take k)).length = bb ∧ Hid (cleanL (ks.take k) = true) ∧ Hid (∀ t ∈ ks.take k, a + 1 + deep t ≤ 16) ∧ w.grownBy wr (some r) ∧ Hid (wr.heap[w.heap.size]? = some (Obj.cells #[Value.bool true, Value.bool h, Value.slice A1 n1 c1, Value.slice A2 n2 c2, Value.slice A3 n3 c3] 34 (0, 0)))) (fun i _ => n3 - (intOf i).toNat)
          case atStart => exact ⟨0, nn, bb, Nat.zero_le _, rfl, hR4', rfl, rfl, rfl, fun t ht => by simp at ht, hgw4, HX4⟩
          case round =>
            obtain ⟨k, n', b', hkn, rfl, hRr, hn', hb', hcl, hdp, hgr, hXr⟩ := hrel
            clear hR4' hgw4 hR4 hg4 hz4 hb2 hb3 hb4 e0 e1 e2 e3 e4 C1 C2 hgw hR1
            by_cases hlt : k < n3
            · obtain ⟨ad, v0, v1, v2, v3, v4, t, rfl, hSa, hks, hm, hin, d0, d1, d2, d3, d4⟩ := (HS0.out.grown hgr (fun b hb h => HSR.out b hb (by injection h))).kid hlt
              obtain ⟨e0, e1, e2, e3, e4⟩ := box5b hXr.out
              obtain ⟨l', h', hi', da', ks', B1, m1, j1, B2, m2, j2, B3, m3, j3, _, eE⟩ := hin.form_
              injection eE with eE0 eE; injection eE with eE1 eE; injection eE with eE2 eE; injection eE with eE3 eE; injection eE with eE4 eE
              subst eE0 eE1 eE2 eE3 eE4
              have hbk := below_new wr (.cells #[Value.bool l', Value.bool h', Value.slice B1 m1 j1, Value.slice B2 m2 j2, Value.slice B3 m3 j3] 34)
              have hin2 := hin.old hbk
              have hR2 := hRr.old hbk
              have hlc := (HLN.out (by omega)).2
              have htk : Tab wr := HT0.out.grown hgr (fun e => hrG (by injection e))
              have hM := hid hm
              have hdN := nodesL_take ks k t hks
              have hdF := formL_take ks k t hks
              have hdC := cleanL_take ks k t hks
              have hkk := hid (take_snoc ks k t hks)
              have hD := hid (And.intro hks (And.intro hdN (And.intro hdF hdC)))
              clear hks hdN hdF hdC hm e0 e1 e2 e3
              have hcast : ((a + 1 : Nat) : Int) = (a : Int) + 1 := by omega
              have C := IH.out t hM.out _ S _ r n' b' (a + 1) hin2 HSR.out hR2 (by omega) (by omega) (by omega) (htk.old hbk) hrG
              rw [hcast] at C
              have HC := hid C
              have hgr2 := hgr.trans (grown_below hbk (some r))
              have hX2 := hid (below_at hbk hXr.out)
              have hNr : some w.heap.size ≠ some r := fun e => by injection e with e; omega
              have hNl := RoomAt.lt hR2
              have hwl : w.heap.size < wr.heap.size + 1 := by have := hgr.size; omega
              clear C hcast hR2 hin hin2 htk hbk
              by_cases hft : fits t n' b' (a + 1) = true
              · have HFT := hid hft
                obtain ⟨f1, f2, f3, f4⟩ := (fits_iff _ _ _ _).1 hft
                clear hft
                go_wp2_with ((with_reducible refine HC.out.mono ?_); rintro e w5 ⟨x, y, rfl, hR5, hxy, hg5⟩; rw [HFT.out])
                obtain ⟨rfl, rfl⟩ := hxy HFT.out
                have hX5 : w5.heap[w.heap.size]? = some (Obj.cells #[Value.bool true, Value.bool h, Value.slice A1 n1 c1, Value.slice A2 n2 c2, Value.slice (some ad) n3 c3] 34 (0, 0)) := (hg5.block w.heap.size (by simpa using hwl) hNr).trans hX2.out
                obtain ⟨o1, o2, o3, o4⟩ := hD.out
                refine ⟨⟨k + 1, n' - nodes t, b' - (form t).length, by omega, by go_num, ?_, ?_, ?_, ?_, ?_, hgr2.trans hg5, hX5⟩, by simp [intOf]; omega⟩
                · have e1 : ((n' - nodes t : Nat) : Int) = (n' : Int) - nodes t := by omega
                  have e2 : ((b' - (form t).length : Nat) : Int) = (b' : Int) - (form t).length := by omega
                  rw [e1, e2]; exact hR5
                · rw [o2]; omega
                · rw [o3, List.length_append]; omega
                · show _ = _
                  rw [o4, hcl.out, f1]; rfl
                · intro u hu
                  rw [hkk.out, List.mem_append, List.mem_singleton] at hu
                  rcases hu with hu | rfl
                  · exact hdp.out u hu
                  · exact f4
              · have hff : fits t n' b' (a + 1) = false := by simpa using hft
                have HFT := hid hff
                obtain ⟨o1, o2, o3, o4⟩ := hD.out
                have HFF := hid (HF4.out k t HW.out o1 n' b' (by omega) (by omega) hff)
                clear hft hff o1 o2 o3 o4
                go_wp2_with ((with_reducible refine HC.out.mono ?_); rintro e w5 ⟨x, y, rfl, hR5, hxy, hg5⟩; rw [HFT.out])
                go_ret
                exact ⟨_, _, ret_bool (by rw [HFF.out]), hR5, (fun h => by rw [HFF.out] at h; cases h), hgr2.trans hg5⟩
            · obtain rfl : k = n3 := by omega
              have hall : Hid (ks.take k = ks) := List.take_of_length_le (by rw [HK.out]; exact Nat.le_refl _)
              rw [hall.out] at hn' hb' hcl hdp
              have HFF := hid (HF5.out HW.out n' b' (by omega) (by omega) hcl.out HLA.out hdp.out ha)
              have hN : Hid (nodes (.mk true h hi da ks) = 1 + nodesL ks) := by show _ = _; rw [nodes]
              go_wp2_with fail
              go_ret
              refine ⟨n', b', ret_bool (by rw [HFF.out]), hRr, fun _ => ⟨by rw [hN.out]; omega, by rw [HFO.out HW.out]; omega⟩, hgr⟩
set_option maxHeartbeats 1000000 in
set_option maxRecDepth 100000 in
theorem may_any (t : SX) (w : World) (S : Nat → Prop) (cs : List Value) (hs : SIn w S t cs) (ht : Tab w) :
    Calls Tryz.prog 38 #[.agg cs.toArray] w fun e w' => e = .returned (.bool (may t)) ∧ Below w.heap.size w w' := by
  obtain ⟨l, h, hi, da, ks, A1, n1, c1, A2, n2, c2, A3, n3, c3, rfl, rfl⟩ := hs.form_
  have hb0 := below_new w (.cells #[Value.bool l, Value.bool h, Value.slice A1 n1 c1, Value.slice A2 n2 c2, Value.slice A3 n3 c3] 34)
  have hb1 := hb0.trans ((below_new (w.alloc (.cells #[Value.bool l, Value.bool h, Value.slice A1 n1 c1, Value.slice A2 n2 c2, Value.slice A3 n3 c3] 34)) (.cells #[.int .i64 512, .int .i64 4096] 75)).mono (by simp))
  have hR : RoomAt ((w.alloc (.cells #[Value.bool l, Value.bool h, Value.slice A1 n1 c1, Value.slice A2 n2 c2, Value.slice A3 n3 c3] 34)).alloc (.cells #[.int .i64 512, .int .i64 4096] 75)) (w.heap.size + 1) (512 : Nat) (4096 : Nat) := by
    have := heap_alloc_new (w.alloc (.cells #[Value.bool l, Value.bool h, Value.slice A1 n1 c1, Value.slice A2 n2 c2, Value.slice A3 n3 c3] 34)) (.cells #[.int .i64 512, .int .i64 4096] 75)
    have e : (w.alloc (.cells #[Value.bool l, Value.bool h, Value.slice A1 n1 c1, Value.slice A2 n2 c2, Value.slice A3 n3 c3] 34)).heap.size = w.heap.size + 1 := by simp
    rw [e] at this
    exact this
  have hlt := ht.lt
  have C := holds_any (.mk l h hi da ks) _ (fun b => S b ∧ b < w.heap.size) _ (w.heap.size + 1) 512 4096 0 (hs.size_.kept hb1 (fun b h => h.2)) (fun k h e => by have := h.2; omega) hR (by omega) (by omega) (by omega) (ht.old hb1) (by omega)
  have C0 : Calls Tryz.prog 66 #[.pointer (some ⟨w.heap.size + 1, 0, none⟩), .agg #[Value.bool l, Value.bool h, Value.slice A1 n1 c1, Value.slice A2 n2 c2, Value.slice A3 n3 c3], .int .i64 0] _ _ := C
  have HC := hid C0
  clear C0
  have HM := hid (may_fits (.mk l h hi da ks))
  have hsz : ((w.alloc (.cells #[Value.bool l, Value.bool h, Value.slice A1 n1 c1, Value.slice A2 n2 c2, Value.slice A3 n3 c3] 34)).alloc (.cells #[.int .i64 512, .int .i64 4096] 75)).heap.size = w.heap.size + 2 := by simp
  clear C hs ht hR
  go_enter Tryz.func38, Tryz.ntmps38
  go_wp2_with ((with_reducible refine HC.out.mono ?_); rintro e w5 ⟨x, y, rfl, hR5, hxy, hg5⟩)
  go_ret
  exact ⟨ret_bool (by rw [HM.out]), hb1.grown hg5 (by omega) (fun k hk => by injection hk with hk; omega)⟩
end Go.Proofs.YtinlonpcakkfhaaGreatDoor
end
section
set_option maxRecDepth 100000
namespace Go.Proofs.YtinlonpcakkfhaaGreatDoor
open Go Go.Proofs Go.RowKit Sx _root_.Ord11 Go.Proofs.YtinlonpcakkfhaaGreatDoor.Ord11 _root_.Tag12
def ThrownT (e : Ending) : Prop := e = .panicked [{ v := .iface 35 (.int .i64 13), recovered := false }]
theorem must_true (w : World) : Calls Tryz.prog 51 #[.bool true] w fun e w' => e = .returned (.tuple #[]) ∧ w' = w := by
  go_enter Tryz.func51, Tryz.ntmps51
  go_wp2_with fail
  go_end0
  exact ⟨rfl, rfl⟩
theorem must_false (w : World) : Calls Tryz.prog 51 #[.bool false] w fun e w' => ThrownT e ∧ w' = w := by
  go_enter Tryz.func51, Tryz.ntmps51
  go_wp2_with fail
  exact ⟨rfl, rfl, rfl⟩
set_option maxHeartbeats 2000000 in
theorem pSpecial_any (t : SX) (w : World) (S : Nat → Prop) (cs : List Value) (hs : SIn w S t cs) :
    Calls Tryz.prog 41 #[.agg cs.toArray] w fun e w' => e = .returned (.bool (specB t)) ∧ Below w.heap.size w w' := by
  obtain ⟨l, h, hi, da, ks, A1, n1, c1, A2, n2, c2, A3, n3, c3, rfl, rfl⟩ := hs.form_
  have hb0 := below_new w (.cells #[Value.bool l, Value.bool h, Value.slice A1 n1 c1, Value.slice A2 n2 c2, Value.slice A3 n3 c3] 34)
  have hs0 := hs.old hb0
  obtain ⟨_, _, r1, r2, g1, g2, hk, _⟩ := hs0.inv
  have HB := hid hb0
  by_cases h0 : n3 = 0
  · have hX : Hid (specB (.mk l h hi da ks) = false) := by
      show _ = _
      rw [List.eq_nil_of_length_eq_zero (hk.trans h0)]; rfl
    subst h0
    clear hs hs0 r1 r2 g1 g2 hk hb0
    go_enter Tryz.func41, Tryz.ntmps41
    go_wp2_with fail
    go_ret
    exact ⟨ret_bool (by rw [hX.out]), HB.out⟩
  · obtain ⟨ad, v0, v1, v2, v3, v4, x, rfl, _, hx, _, hin, d0, d1, d2, d3, d4⟩ := hs0.kid (k := 0) (by omega)
    obtain ⟨xl, xh, xhi, xd, xk, B1, m1, j1, B2, m2, j2, B3, m3, j3, rfl, eE⟩ := hin.form_
    injection eE with eE0 eE; injection eE with eE1 eE; injection eE with eE2 eE; injection eE with eE3 eE; injection eE with eE4 eE
    subst eE0 eE1 eE2 eE3 eE4
    obtain ⟨_, _, q1, q2, _⟩ := hin.inv
    have k2 := run_back (q2.reads (by omega)) (c := j2)
    have s1 : (⟨xd.toArray⟩ : ByteArray).toList = xd := bT_list xd
    generalize (⟨xd.toArray⟩ : ByteArray) = D at k2 s1
    have hX : Hid (specB (.mk l h hi da ks) = (!xl && (D.toList == [42]))) := by
      show _ = _
      rw [s1]
      cases ks with
      | nil => simp at hx
      | cons y r =>
        have : y = .mk xl xh xhi xd xk := by simpa using hx
        rw [this]; rfl
    have h0B : decide (0 < n3) = true := decide_eq_true (by omega)
    have h0P : 0 < n3 := by omega
    rw [Nat.zero_mul, show ad.add 0 = ad from if_pos rfl] at d0 d1 d2 d3 d4
    clear hs hs0 r1 r2 g1 g2 hk hb0 hx hin h0 q1 q2 eE s1
    cases xl with
    | true =>
      go_enter Tryz.func41, Tryz.ntmps41
      go_wp2_with fail
      go_ret
      exact ⟨ret_bool (by rw [hX.out]; rfl), HB.out⟩
    | false =>
      go_enter Tryz.func41, Tryz.ntmps41
      go_wp2_with fail
      go_ret
      exact ⟨ret_bool (by rw [hX.out]; rfl), HB.out⟩
set_option maxHeartbeats 2000000 in
theorem pHint_any (t : SX) (w : World) (S : Nat → Prop) (cs : List Value) (hs : SIn w S t cs) :
    Calls Tryz.prog 59 #[.agg cs.toArray] w fun e w' => e = .returned (.bool (hintB t)) ∧ Below w.heap.size w w' := by
  obtain ⟨l, h, hi, da, ks, A1, n1, c1, A2, n2, c2, A3, n3, c3, rfl, rfl⟩ := hs.form_
  have hb0 := hid (below_new w (.cells #[Value.bool l, Value.bool h, Value.slice A1 n1 c1, Value.slice A2 n2 c2, Value.slice A3 n3 c3] 34))
  clear hs
  go_enter Tryz.func59, Tryz.ntmps59
  go_wp2_with fail
  go_ret
  exact ⟨rfl, hb0.out⟩
set_option maxHeartbeats 2000000 in
theorem pBad_any (t : SX) (w : World) (S : Nat → Prop) (cs : List Value) (hs : SIn w S t cs) :
    Calls Tryz.prog 40 #[.agg cs.toArray] w fun e w' => e = .returned (.bool (badB t)) ∧ Below w.heap.size w w' := by
  obtain ⟨l, h, hi, da, ks, A1, n1, c1, A2, n2, c2, A3, n3, c3, rfl, rfl⟩ := hs.form_
  have hb0 := below_new w (.cells #[Value.bool l, Value.bool h, Value.slice A1 n1 c1, Value.slice A2 n2 c2, Value.slice A3 n3 c3] 34)
  have K := hid (pSpecial_any _ _ S _ (hs.old hb0))
  have HB := hid hb0
  obtain ⟨sp, hsp⟩ : ∃ b, b = specB (.mk l h hi da ks) := ⟨_, rfl⟩
  rw [← hsp] at K
  have HX : Hid (badB (.mk l h hi da ks) = (h || sp)) := by show _ = _; rw [hsp]; rfl
  clear hs hb0 hsp
  cases h with
  | true =>
    go_enter Tryz.func40, Tryz.ntmps40
    go_wp2_with fail
    go_ret
    exact ⟨by rw [HX.out]; rfl, HB.out⟩
  | false =>
    go_enter Tryz.func40, Tryz.ntmps40
    go_wp2_with (go_at_call 41; refine (K.out).mono ?_; rintro e w1 ⟨rfl, hb1⟩)
    go_ret
    exact ⟨by rw [HX.out]; rfl, HB.out.trans (hb1.mono HB.out.size)⟩
def AskX (fid : FuncId) (P : SX → Bool) : Prop := ∀ (t : SX) (w : World) (S : Nat → Prop) (cs : List Value), SIn w S t cs →
    Calls Tryz.prog fid #[.agg cs.toArray] w fun e w' => e = .returned (.bool (P t)) ∧ Below w.heap.size w w'
def SomeX (fid : FuncId) (P : SX → Bool) (t : SX) : Prop := ∀ (w : World) (S : Nat → Prop) (cs : List Value), SIn w S t cs →
    Calls Tryz.prog 39 #[.agg cs.toArray, .func (.func fid) #[] #[]] w fun e w' => e = .returned (.bool (someX P t)) ∧ Below w.heap.size w w'
set_option maxHeartbeats 2000000 in
theorem some1_hint (P : SX → Bool) (t : SX) (H : SomeX 59 P t) (g : Nat) (w : World) (S : Nat → Prop) (cs : List Value) (hs : SIn w S t cs) (hg : w.cell? ⟨g, 0, none⟩ = some (.func (.func 59) #[] #[])) (hgl : g < w.heap.size) :
    Calls Tryz.prog 68 #[.agg cs.toArray, .pointer (some ⟨g, 0, none⟩)] w fun e w' => e = .returned (.bool (someX P t)) ∧ Below w.heap.size w w' := by
  have H := H
  obtain ⟨l, h, hi, da, ks, A1, n1, c1, A2, n2, c2, A3, n3, c3, rfl, rfl⟩ := hs.form_
  have hb0 := below_new w (.cells #[Value.bool l, Value.bool h, Value.slice A1 n1 c1, Value.slice A2 n2 c2, Value.slice A3 n3 c3] 34)
  have hg1 : (w.alloc (.cells #[Value.bool l, Value.bool h, Value.slice A1 n1 c1, Value.slice A2 n2 c2, Value.slice A3 n3 c3] 34)).cell? ⟨g, 0, none⟩ = some (.func (.func 59) #[] #[]) := (hb0.cell hgl).trans hg
  have K := hid (H _ _ _ (hs.old hb0))
  have HB := hid hb0
  clear hs hb0 H hg
  go_enter Tryz.func68, Tryz.ntmps68
  go_wp2_with (go_at_call 39; refine (K.out).mono ?_; rintro e w1 ⟨rfl, hb1⟩)
  go_ret
  exact ⟨rfl, HB.out.trans (hb1.mono HB.out.size)⟩
set_option maxHeartbeats 4000000 in
theorem index_hint (P : SX → Bool) (ks : List SX) (IH : ∀ k ∈ ks, SomeX 59 P k) (g : Nat) (A : Option Addr) (n c : Nat) (w : World) (S : Nat → Prop) (hr : RowS w S ks A n c) (hg : w.cell? ⟨g, 0, none⟩ = some (.func (.func 59) #[] #[])) (hgl : g < w.heap.size) :
    Calls Tryz.prog 88 #[.slice A n c, .func (.func 68) #[] #[.pointer (some ⟨g, 0, none⟩)]] w fun e w' => (∃ r : Int, e = .returned (.int .i64 r) ∧ decide (0 ≤ r) = someL P ks) ∧ Below w.heap.size w w' := by
  obtain ⟨hl, hc, hm⟩ := hr.len
  have HR := hid hr
  have HL := hid hl
  have HI := hid IH
  have HG := hid hg
  have HGL := hid hgl
  clear hr hl IH hg hgl
  go_enter Tryz.func88, Tryz.ntmps88
  go_wp2_with fail
  go_loopw [8] (fun i wr => ∃ k : Nat, k ≤ n ∧ i = .int .i64 k ∧ Hid (someL P (ks.take k) = false) ∧ Below w.heap.size w wr) (fun i _ => n - (intOf i).toNat)
  case atStart => exact ⟨0, Nat.zero_le _, rfl, rfl, Below.refl _ _⟩
  case round =>
    obtain ⟨k, hkn, rfl, hcl, hbel⟩ := hrel
    by_cases hlt : k < n
    · obtain ⟨ad, v0, v1, v2, v3, v4, t, rfl, hS, hks, hm, hin, d0, d1, d2, d3, d4⟩ := (HR.out.old hbel).at_ hlt
      have hlt' : (k : Int) < n := by omega
      have HTK := hid (someL_take P ks k t hks)
      have HBad := hid (fun h => someL_bad P ks k t hks h)
      have K := hid (some1_hint P t (HI.out t hm) g wr S _ hin ((hbel.cell HGL.out).trans HG.out) (Nat.lt_of_lt_of_le HGL.out hbel.size))
      clear hS hks hm hin
      cases hct : someX P t with
      | true =>
        have HCT := hid hct
        rw [hct] at K
        clear hct
        go_wp2_with (go_at_call 68; refine (K.out).mono ?_; rintro e w1 ⟨rfl, hb1⟩)
        go_ret
        exact ⟨⟨_, rfl, by rw [HBad.out HCT.out]; simp⟩, hbel.trans (hb1.mono hbel.size)⟩
      | false =>
        have HCT := hid hct
        rw [hct] at K
        clear hct
        go_wp2_with (go_at_call 68; refine (K.out).mono ?_; rintro e w1 ⟨rfl, hb1⟩)
        go_roundw
        case rel => exact ⟨k + 1, by omega, by go_num, (show _ = _ by rw [HTK.out, hcl.out, HCT.out]; rfl), hbel.trans (hb1.mono hbel.size)⟩
        case measure => simp [intOf]; omega
    · obtain rfl : k = n := by omega
      have HALL : Hid (someL P ks = false) := by
        have h := hcl.out
        rwa [List.take_of_length_le (by rw [HL.out]; exact Nat.le_refl _)] at h
      go_wp2_with fail
      go_ret
      exact ⟨⟨_, rfl, by rw [HALL.out]; rfl⟩, hbel⟩
set_option maxHeartbeats 4000000 in
theorem contains_hint (P : SX → Bool) (ks : List SX) (IH : ∀ k ∈ ks, SomeX 59 P k) (g : Nat) (A : Option Addr) (n c : Nat) (w : World) (S : Nat → Prop) (hr : RowS w S ks A n c) (hg : w.cell? ⟨g, 0, none⟩ = some (.func (.func 59) #[] #[])) (hgl : g < w.heap.size) :
    Calls Tryz.prog 67 #[.slice A n c, .func (.func 68) #[] #[.pointer (some ⟨g, 0, none⟩)]] w fun e w' => e = .returned (.bool (someL P ks)) ∧ Below w.heap.size w w' := by
  have K := hid (index_hint P ks IH g A n c w S hr hg hgl)
  clear hr hg hgl IH
  go_enter Tryz.func67, Tryz.ntmps67
  go_wp2_with (go_at_call 88; refine (K.out).mono ?_; rintro e w1 ⟨⟨r, rfl, hr⟩, hb1⟩; have HR := hid hr; clear hr)
  go_ret
  exact ⟨ret_bool HR.out, hb1⟩
set_option maxHeartbeats 4000000 in
theorem some_hint (P : SX → Bool) (HP : AskX 59 P) (t : SX) : SomeX 59 P t := by
  induction t using SX.ind with
  | H l h hi da ks ih =>
    intro w S cs hs
    obtain ⟨_, _, _, _, _, A1, n1, c1, A2, n2, c2, A3, n3, c3, e, rfl⟩ := hs.form_
    cases e
    obtain ⟨w0, hw0⟩ : ∃ w0, w0 = ((w.alloc (.cells #[.bool l, .bool h, .slice A1 n1 c1, .slice A2 n2 c2, .slice A3 n3 c3] 34)).alloc (.cells #[.func (.func 59) #[] #[]] 47)) := ⟨_, rfl⟩
    have HB0 : Hid (Below w.heap.size w w0) := by
      show Below _ _ _
      rw [hw0]
      exact ((Below.refl w.heap.size w).alloc (Nat.le_refl _) _).alloc (by simp; try omega) _
    have HZ0 : Hid (w0.heap.size = w.heap.size + 2) := by show _ = _; rw [hw0]; simp
    have X0 : Hid (∀ W, Below w0.heap.size w0 W → ∀ k' u, (#[.bool l, .bool h, .slice A1 n1 c1, .slice A2 n2 c2, .slice A3 n3 c3] : Array Value)[k']? = some u → W.cell? ⟨w.heap.size, k', none⟩ = some u) := by
      intro W hW k' u hk
      have B0 : Blk w0 w.heap.size 34 #[.bool l, .bool h, .slice A1 n1 c1, .slice A2 n2 c2, .slice A3 n3 c3] := by
        rw [hw0]
        exact (Blk.new w 34 #[.bool l, .bool h, .slice A1 n1 c1, .slice A2 n2 c2, .slice A3 n3 c3]).alloc _
      exact cell_below hW ((B0.cell k').trans hk) B0.lt
    have X1 : Hid (∀ W, Below w0.heap.size w0 W → W.cell? ⟨w.heap.size + 1, 0, none⟩ = some (.func (.func 59) #[] #[])) := by
      intro W hW
      have B0 : Blk w0 (w.heap.size + 1) 47 #[.func (.func 59) #[] #[]] := by
        rw [hw0]
        have h := Blk.new (w.alloc (.cells #[.bool l, .bool h, .slice A1 n1 c1, .slice A2 n2 c2, .slice A3 n3 c3] 34)) 47 #[.func (.func 59) #[] #[]]
        simpa using h
      exact cell_below hW (B0.cell 0) B0.lt
    obtain ⟨p, hp⟩ : ∃ b, b = P (.mk l h hi da ks) := ⟨_, rfl⟩
    have HM : Hid (someX P (.mk l h hi da ks) = (p || someL P ks)) := by show _ = _; rw [someX, hp]
    have HIN : Hid (∀ W, Below w.heap.size w W → SIn W S (.mk l h hi da ks) [.bool l, .bool h, .slice A1 n1 c1, .slice A2 n2 c2, .slice A3 n3 c3]) := fun W hW => hs.old hW
    have KA : Hid (∀ W, Below w.heap.size w W → Calls Tryz.prog 59 #[.agg #[.bool l, .bool h, .slice A1 n1 c1, .slice A2 n2 c2, .slice A3 n3 c3]] W fun e w' => e = .returned (.bool p) ∧ Below W.heap.size W w') := fun W hW => by
      rw [hp]; exact HP _ W S _ (hs.old hW)
    have KC : Hid (∀ W, Below w0.heap.size w0 W → Calls Tryz.prog 67 #[.slice A3 n3 c3, .func (.func 68) #[] #[.pointer (some ⟨w.heap.size + 1, 0, none⟩)]] W fun e w' => e = .returned (.bool (someL P ks)) ∧ Below W.heap.size W w') := fun W hW => by
      refine contains_hint P ks ih (w.heap.size + 1) A3 n3 c3 W S (HIN.out W (next_below HB0.out hW)).rowS (X1.out W hW) ?_
      have := hW.size; have := HZ0.out; omega
    have HR : Below w0.heap.size w0 w0 := Below.refl _ _
    have hmf : ∀ (fn : Fn) (first cap : Array Value) (w : World), (Instr.makeFunc fn first cap).run Tryz.prog w = .ok (.func fn first cap) w := fun _ _ _ _ => rfl
    clear hs ih hp HIN
    go_enter Tryz.func39, Tryz.ntmps39
    go_upto_region 1 with fail
    rw [← hw0]
    clear hw0
    have x0_0 := X0.out _ HR 0 _ rfl
    have x0_1 := X0.out _ HR 1 _ rfl
    have x0_2 := X0.out _ HR 2 _ rfl
    have x0_3 := X0.out _ HR 3 _ rfl
    have x0_4 := X0.out _ HR 4 _ rfl
    have y0 := X1.out _ HR
    cases p with
    | true =>
      go_wp2_with (go_at_call 59; refine (KA.out _ HB0.out).mono ?_; rintro e w1 ⟨rfl, hb1⟩; have z4 := X0.out _ hb1 4 _ rfl)
      go_ret
      exact ⟨by rw [HM.out]; rfl, next_below HB0.out hb1⟩
    | false =>
      go_wp2_with first
        | (go_at_call 59; refine (KA.out _ HB0.out).mono ?_; rintro e w1 ⟨rfl, hb1⟩; have z4 := X0.out _ hb1 4 _ rfl)
        | (go_at_call 67; refine (KC.out _ hb1).mono ?_; rintro e w2 ⟨rfl, hb2⟩)
      go_ret
      exact ⟨by rw [HM.out]; rfl, next_below HB0.out (next_below hb1 hb2)⟩
set_option maxHeartbeats 2000000 in
theorem some1_bad (P : SX → Bool) (t : SX) (H : SomeX 40 P t) (g : Nat) (w : World) (S : Nat → Prop) (cs : List Value) (hs : SIn w S t cs) (hg : w.cell? ⟨g, 0, none⟩ = some (.func (.func 40) #[] #[])) (hgl : g < w.heap.size) :
    Calls Tryz.prog 68 #[.agg cs.toArray, .pointer (some ⟨g, 0, none⟩)] w fun e w' => e = .returned (.bool (someX P t)) ∧ Below w.heap.size w w' := by
  have H := H
  obtain ⟨l, h, hi, da, ks, A1, n1, c1, A2, n2, c2, A3, n3, c3, rfl, rfl⟩ := hs.form_
  have hb0 := below_new w (.cells #[Value.bool l, Value.bool h, Value.slice A1 n1 c1, Value.slice A2 n2 c2, Value.slice A3 n3 c3] 34)
  have hg1 : (w.alloc (.cells #[Value.bool l, Value.bool h, Value.slice A1 n1 c1, Value.slice A2 n2 c2, Value.slice A3 n3 c3] 34)).cell? ⟨g, 0, none⟩ = some (.func (.func 40) #[] #[]) := (hb0.cell hgl).trans hg
  have K := hid (H _ _ _ (hs.old hb0))
  have HB := hid hb0
  clear hs hb0 H hg
  go_enter Tryz.func68, Tryz.ntmps68
  go_wp2_with (go_at_call 39; refine (K.out).mono ?_; rintro e w1 ⟨rfl, hb1⟩)
  go_ret
  exact ⟨rfl, HB.out.trans (hb1.mono HB.out.size)⟩
set_option maxHeartbeats 4000000 in
theorem index_bad (P : SX → Bool) (ks : List SX) (IH : ∀ k ∈ ks, SomeX 40 P k) (g : Nat) (A : Option Addr) (n c : Nat) (w : World) (S : Nat → Prop) (hr : RowS w S ks A n c) (hg : w.cell? ⟨g, 0, none⟩ = some (.func (.func 40) #[] #[])) (hgl : g < w.heap.size) :
    Calls Tryz.prog 88 #[.slice A n c, .func (.func 68) #[] #[.pointer (some ⟨g, 0, none⟩)]] w fun e w' => (∃ r : Int, e = .returned (.int .i64 r) ∧ decide (0 ≤ r) = someL P ks) ∧ Below w.heap.size w w' := by
  obtain ⟨hl, hc, hm⟩ := hr.len
  have HR := hid hr
  have HL := hid hl
  have HI := hid IH
  have HG := hid hg
  have HGL := hid hgl
  clear hr hl IH hg hgl
  go_enter Tryz.func88, Tryz.ntmps88
  go_wp2_with fail
  go_loopw [8] (fun i wr => ∃ k : Nat, k ≤ n ∧ i = .int .i64 k ∧ Hid (someL P (ks.take k) = false) ∧ Below w.heap.size w wr) (fun i _ => n - (intOf i).toNat)
  case atStart => exact ⟨0, Nat.zero_le _, rfl, rfl, Below.refl _ _⟩
  case round =>
    obtain ⟨k, hkn, rfl, hcl, hbel⟩ := hrel
    by_cases hlt : k < n
    · obtain ⟨ad, v0, v1, v2, v3, v4, t, rfl, hS, hks, hm, hin, d0, d1, d2, d3, d4⟩ := (HR.out.old hbel).at_ hlt
      have hlt' : (k : Int) < n := by omega
      have HTK := hid (someL_take P ks k t hks)
      have HBad := hid (fun h => someL_bad P ks k t hks h)
      have K := hid (some1_bad P t (HI.out t hm) g wr S _ hin ((hbel.cell HGL.out).trans HG.out) (Nat.lt_of_lt_of_le HGL.out hbel.size))
      clear hS hks hm hin
      cases hct : someX P t with
      | true =>
        have HCT := hid hct
        rw [hct] at K
        clear hct
        go_wp2_with (go_at_call 68; refine (K.out).mono ?_; rintro e w1 ⟨rfl, hb1⟩)
        go_ret
        exact ⟨⟨_, rfl, by rw [HBad.out HCT.out]; simp⟩, hbel.trans (hb1.mono hbel.size)⟩
      | false =>
        have HCT := hid hct
        rw [hct] at K
        clear hct
        go_wp2_with (go_at_call 68; refine (K.out).mono ?_; rintro e w1 ⟨rfl, hb1⟩)
        go_roundw
        case rel => exact ⟨k + 1, by omega, by go_num, (show _ = _ by rw [HTK.out, hcl.out, HCT.out]; rfl), hbel.trans (hb1.mono hbel.size)⟩
        case measure => simp [intOf]; omega
    · obtain rfl : k = n := by omega
      have HALL : Hid (someL P ks = false) := by
        have h := hcl.out
        rwa [List.take_of_length_le (by rw [HL.out]; exact Nat.le_refl _)] at h
      go_wp2_with fail
      go_ret
      exact ⟨⟨_, rfl, by rw [HALL.out]; rfl⟩, hbel⟩
set_option maxHeartbeats 4000000 in
theorem contains_bad (P : SX → Bool) (ks : List SX) (IH : ∀ k ∈ ks, SomeX 40 P k) (g : Nat) (A : Option Addr) (n c : Nat) (w : World) (S : Nat → Prop) (hr : RowS w S ks A n c) (hg : w.cell? ⟨g, 0, none⟩ = some (.func (.func 40) #[] #[])) (hgl : g < w.heap.size) :
    Calls Tryz.prog 67 #[.slice A n c, .func (.func 68) #[] #[.pointer (some ⟨g, 0, none⟩)]] w fun e w' => e = .returned (.bool (someL P ks)) ∧ Below w.heap.size w w' := by
  have K := hid (index_bad P ks IH g A n c w S hr hg hgl)
  clear hr hg hgl IH
  go_enter Tryz.func67, Tryz.ntmps67
  go_wp2_with (go_at_call 88; refine (K.out).mono ?_; rintro e w1 ⟨⟨r, rfl, hr⟩, hb1⟩; have HR := hid hr; clear hr)
  go_ret
  exact ⟨ret_bool HR.out, hb1⟩
set_option maxHeartbeats 4000000 in
theorem some_bad (P : SX → Bool) (HP : AskX 40 P) (t : SX) : SomeX 40 P t := by
  induction t using SX.ind with
  | H l h hi da ks ih =>
    intro w S cs hs
    obtain ⟨_, _, _, _, _, A1, n1, c1, A2, n2, c2, A3, n3, c3, e, rfl⟩ := hs.form_
    cases e
    obtain ⟨w0, hw0⟩ : ∃ w0, w0 = ((w.alloc (.cells #[.bool l, .bool h, .slice A1 n1 c1, .slice A2 n2 c2, .slice A3 n3 c3] 34)).alloc (.cells #[.func (.func 40) #[] #[]] 47)) := ⟨_, rfl⟩
    have HB0 : Hid (Below w.heap.size w w0) := by
      show Below _ _ _
      rw [hw0]
      exact ((Below.refl w.heap.size w).alloc (Nat.le_refl _) _).alloc (by simp; try omega) _
    have HZ0 : Hid (w0.heap.size = w.heap.size + 2) := by show _ = _; rw [hw0]; simp
    have X0 : Hid (∀ W, Below w0.heap.size w0 W → ∀ k' u, (#[.bool l, .bool h, .slice A1 n1 c1, .slice A2 n2 c2, .slice A3 n3 c3] : Array Value)[k']? = some u → W.cell? ⟨w.heap.size, k', none⟩ = some u) := by
      intro W hW k' u hk
      have B0 : Blk w0 w.heap.size 34 #[.bool l, .bool h, .slice A1 n1 c1, .slice A2 n2 c2, .slice A3 n3 c3] := by
        rw [hw0]
        exact (Blk.new w 34 #[.bool l, .bool h, .slice A1 n1 c1, .slice A2 n2 c2, .slice A3 n3 c3]).alloc _
      exact cell_below hW ((B0.cell k').trans hk) B0.lt
    have X1 : Hid (∀ W, Below w0.heap.size w0 W → W.cell? ⟨w.heap.size + 1, 0, none⟩ = some (.func (.func 40) #[] #[])) := by
      intro W hW
      have B0 : Blk w0 (w.heap.size + 1) 47 #[.func (.func 40) #[] #[]] := by
        rw [hw0]
        have h := Blk.new (w.alloc (.cells #[.bool l, .bool h, .slice A1 n1 c1, .slice A2 n2 c2, .slice A3 n3 c3] 34)) 47 #[.func (.func 40) #[] #[]]
        simpa using h
      exact cell_below hW (B0.cell 0) B0.lt
    obtain ⟨p, hp⟩ : ∃ b, b = P (.mk l h hi da ks) := ⟨_, rfl⟩
    have HM : Hid (someX P (.mk l h hi da ks) = (p || someL P ks)) := by show _ = _; rw [someX, hp]
    have HIN : Hid (∀ W, Below w.heap.size w W → SIn W S (.mk l h hi da ks) [.bool l, .bool h, .slice A1 n1 c1, .slice A2 n2 c2, .slice A3 n3 c3]) := fun W hW => hs.old hW
    have KA : Hid (∀ W, Below w.heap.size w W → Calls Tryz.prog 40 #[.agg #[.bool l, .bool h, .slice A1 n1 c1, .slice A2 n2 c2, .slice A3 n3 c3]] W fun e w' => e = .returned (.bool p) ∧ Below W.heap.size W w') := fun W hW => by
      rw [hp]; exact HP _ W S _ (hs.old hW)
    have KC : Hid (∀ W, Below w0.heap.size w0 W → Calls Tryz.prog 67 #[.slice A3 n3 c3, .func (.func 68) #[] #[.pointer (some ⟨w.heap.size + 1, 0, none⟩)]] W fun e w' => e = .returned (.bool (someL P ks)) ∧ Below W.heap.size W w') := fun W hW => by
      refine contains_bad P ks ih (w.heap.size + 1) A3 n3 c3 W S (HIN.out W (next_below HB0.out hW)).rowS (X1.out W hW) ?_
      have := hW.size; have := HZ0.out; omega
    have HR : Below w0.heap.size w0 w0 := Below.refl _ _
    have hmf : ∀ (fn : Fn) (first cap : Array Value) (w : World), (Instr.makeFunc fn first cap).run Tryz.prog w = .ok (.func fn first cap) w := fun _ _ _ _ => rfl
    clear hs ih hp HIN
    go_enter Tryz.func39, Tryz.ntmps39
    go_upto_region 1 with fail
    rw [← hw0]
    clear hw0
    have x0_0 := X0.out _ HR 0 _ rfl
    have x0_1 := X0.out _ HR 1 _ rfl
    have x0_2 := X0.out _ HR 2 _ rfl
    have x0_3 := X0.out _ HR 3 _ rfl
    have x0_4 := X0.out _ HR 4 _ rfl
    have y0 := X1.out _ HR
    cases p with
    | true =>
      go_wp2_with (go_at_call 40; refine (KA.out _ HB0.out).mono ?_; rintro e w1 ⟨rfl, hb1⟩; have z4 := X0.out _ hb1 4 _ rfl)
      go_ret
      exact ⟨by rw [HM.out]; rfl, next_below HB0.out hb1⟩
    | false =>
      go_wp2_with first
        | (go_at_call 40; refine (KA.out _ HB0.out).mono ?_; rintro e w1 ⟨rfl, hb1⟩; have z4 := X0.out _ hb1 4 _ rfl)
        | (go_at_call 67; refine (KC.out _ hb1).mono ?_; rintro e w2 ⟨rfl, hb2⟩)
      go_ret
      exact ⟨by rw [HM.out]; rfl, next_below HB0.out (next_below hb1 hb2)⟩
theorem pRequest_any (t : SX) (w : World) (S : Nat → Prop) (cs : List Value) (hs : SIn w S t cs) (ht : Tab w) :
    Calls Tryz.prog 19 #[.agg cs.toArray] w fun e w' => e = .returned (.bool (may t && concrete t)) ∧ Below w.heap.size w w' := by
  obtain ⟨l, h, hi, da, ks, A1, n1, c1, A2, n2, c2, A3, n3, c3, rfl, rfl⟩ := hs.form_
  have hb0 := below_new w (.cells #[Value.bool l, Value.bool h, Value.slice A1 n1 c1, Value.slice A2 n2 c2, Value.slice A3 n3 c3] 34)
  obtain ⟨m, hmm⟩ : ∃ b, b = may (.mk l h hi da ks) := ⟨_, rfl⟩
  obtain ⟨sb, hsb⟩ : ∃ b, b = someX badB (.mk l h hi da ks) := ⟨_, rfl⟩
  have HX : Hid ((m && concrete (.mk l h hi da ks)) = (m && !sb)) := by
    show _ = _
    cases m with
    | false => rfl
    | true => rw [hsb, concrete_some _ (may_small hmm.symm).2]
  have KM := hid (may_any _ _ S _ (hs.old hb0) (ht.old hb0))
  have KS : Hid (∀ W, Below w.heap.size w W → Calls Tryz.prog 39 #[.agg #[.bool l, .bool h, .slice A1 n1 c1, .slice A2 n2 c2, .slice A3 n3 c3], .func (.func 40) #[] #[]] W fun e w' => e = .returned (.bool sb) ∧ Below W.heap.size W w') := fun W hW => by
    rw [hsb]; exact some_bad badB pBad_any _ W S _ (hs.old hW)
  have X0 : Hid (∀ W, Below (w.alloc (.cells #[Value.bool l, Value.bool h, Value.slice A1 n1 c1, Value.slice A2 n2 c2, Value.slice A3 n3 c3] 34)).heap.size (w.alloc (.cells #[Value.bool l, Value.bool h, Value.slice A1 n1 c1, Value.slice A2 n2 c2, Value.slice A3 n3 c3] 34)) W → ∀ k' u, (#[.bool l, .bool h, .slice A1 n1 c1, .slice A2 n2 c2, .slice A3 n3 c3] : Array Value)[k']? = some u → W.cell? ⟨w.heap.size, k', none⟩ = some u) := fun W hW k' u hk => cell_below hW (((Blk.new w _ _).cell k').trans hk) (Blk.new w _ _).lt
  rw [← hmm] at KM ⊢
  have HB := hid hb0
  clear hs hb0 hsb hmm ht
  rw [HX.out]
  cases m with
  | false =>
    go_enter Tryz.func19, Tryz.ntmps19
    go_wp2_with (go_at_call 38; refine (KM.out).mono ?_; rintro e w1 ⟨rfl, hb1⟩)
    go_ret
    exact ⟨rfl, next_below HB.out hb1⟩
  | true =>
    go_enter Tryz.func19, Tryz.ntmps19
    go_wp2_with first
      | (go_at_call 38; refine (KM.out).mono ?_; rintro e w1 ⟨rfl, hb1⟩; have z0 := X0.out _ hb1 0 _ rfl; have z1 := X0.out _ hb1 1 _ rfl; have z2 := X0.out _ hb1 2 _ rfl; have z3 := X0.out _ hb1 3 _ rfl; have z4 := X0.out _ hb1 4 _ rfl; have hb01 := next_below HB.out hb1)
      | (go_at_call 39; refine (KS.out _ hb01).mono ?_; rintro e w2 ⟨rfl, hb2⟩)
    go_ret
    exact ⟨rfl, next_below hb01 hb2⟩
end Go.Proofs.YtinlonpcakkfhaaGreatDoor
end
section
namespace Go.Proofs.YtinlonpcakkfhaaGreatDoor
open Go Go.Proofs Go.RowKit
theorem cut_list (l : List UInt8) : (⟨l.toArray⟩ : ByteArray).toList = l := by rw [ByteArray.toList_eq]
theorem Reads.take {w : World} {B n k : Nat} {A : Option Addr} {xs : List Value} (h : Reads w B 1 A n xs) (hk : k ≤ n) : Reads w B 1 A k (xs.take k) := by
  refine ⟨by rw [List.length_take, h.1]; omega, fun h0 => ?_⟩
  obtain ⟨ad, e, hb, hc⟩ := h.2 (by omega)
  refine ⟨ad, e, hb, fun j u hu => hc j u ?_⟩
  rw [List.getElem?_take] at hu
  split at hu
  · exact hu
  · cases hu
theorem equal_any (A A' : Option Addr) (n c n' c' B B' : Nat) (l l' : List UInt8) (w : World) (h : Reads w B 1 A n (Lib.byteCells l)) (h' : Reads w B' 1 A' n' (Lib.byteCells l')) :
    Calls Tryz.prog 43 #[.slice A n c, .slice A' n' c'] w fun e w' => e = .returned (.bool (l == l')) ∧ w' = w := by
  have k1 := run_back (c := c) h
  have k2 := run_back (c := c') h'
  have s1 := cut_list l
  have s2 := cut_list l'
  generalize (⟨l.toArray⟩ : ByteArray) = S at k1 s1
  generalize (⟨l'.toArray⟩ : ByteArray) = S' at k2 s2
  obtain ⟨b, hb⟩ : ∃ b, (l == l') = b := ⟨_, rfl⟩
  have hq : (S.toList == S'.toList) = b := by rw [s1, s2]; exact hb
  rw [hb]
  clear s1 s2 hb
  go_enter Tryz.func43, Tryz.ntmps43
  go_wp2
  go_ret
  exact ⟨rfl, rfl⟩
def cutBack (A : Option Addr) (n c k : Nat) : Value := .slice (if c = k then A else A.map (·.add k)) (n - k) (c - k)
set_option maxRecDepth 100000 in
theorem hasPrefix_one (A A' : Option Addr) (n c c' B B' : Nat) (l : List UInt8) (x : UInt8) (w : World) (h : Reads w B 1 A n (Lib.byteCells l)) (h' : Reads w B' 1 A' 1 (Lib.byteCells [x])) (hn : n ≤ c) :
    Calls Tryz.prog 156 #[.slice A n c, .slice A' 1 c'] w fun e w' => e = .returned (.bool (l.head? == some x)) ∧ w' = w := by
  have hl : l.length = n := by have := h.1; simpa [Lib.byteCells_length] using this
  cases l with
  | nil =>
    obtain rfl : n = 0 := hl.symm
    go_enter Tryz.func156, Tryz.ntmps156
    go_wp2_with fail
    go_ret
    exact ⟨rfl, rfl⟩
  | cons y r =>
    have h1 : 1 ≤ n := by rw [← hl]; simp
    have ht : Reads w B 1 A 1 (Lib.byteCells [y]) := by
      have := h.take h1
      simpa [Lib.byteCells] using this
    have HT := hid ht
    clear ht
    obtain ⟨b, hb⟩ : ∃ b, (([y] : List UInt8) == [x]) = b := ⟨_, rfl⟩
    have hb2 : ((y :: r).head? == some x) = b := by
      rw [← hb]
      rw [Bool.eq_iff_iff, beq_iff_eq, beq_iff_eq]
      simp
    rw [hb2]
    have HB := hid hb
    clear hb hb2 hl
    obtain ⟨m, hm⟩ : ∃ m, n = m + 1 := ⟨n - 1, by omega⟩
    go_enter Tryz.func156, Tryz.ntmps156
    go_wp2_with (go_at_call 43; refine (equal_any A A' 1 c 1 c' B B' [y] [x] _ HT.out h').mono ?_; rintro e w1 ⟨rfl, rfl⟩; rw [HB.out])
    go_ret
    exact ⟨rfl, rfl⟩
set_option maxRecDepth 100000 in
theorem cutPrefix_one (A A' : Option Addr) (n c c' B B' : Nat) (l : List UInt8) (x : UInt8) (w : World) (h : Reads w B 1 A n (Lib.byteCells l)) (h' : Reads w B' 1 A' 1 (Lib.byteCells [x])) (hn : n ≤ c) :
    Calls Tryz.prog 147 #[.slice A n c, .slice A' 1 c'] w fun e w' => e = .returned (.tuple #[if (l.head? == some x) = true then cutBack A n c 1 else .slice A n c, .bool (l.head? == some x)]) ∧ w' = w := by
  have hl : l.length = n := by have := h.1; simpa [Lib.byteCells_length] using this
  have hp := hasPrefix_one A A' n c c' B B' l x w h h' hn
  have HP := hid hp
  clear hp
  have hb1 : (l.head? == some x) = true → 1 ≤ n := by
    intro e
    cases l with
    | nil => cases e
    | cons y r => rw [← hl]; simp
  generalize (l.head? == some x) = b at HP hb1
  clear hl
  cases b with
  | false =>
    go_enter Tryz.func147, Tryz.ntmps147
    go_wp2_with (go_at_call 156; refine HP.out.mono ?_; rintro e w1 ⟨rfl, rfl⟩)
    go_ret2
    exact ⟨rfl, rfl⟩
  | true =>
    have h1 := hb1 rfl
    clear hb1
    go_enter Tryz.func147, Tryz.ntmps147
    by_cases hc : c = 1
    · subst hc
      obtain rfl : n = 1 := by omega
      go_wp2_with (go_at_call 156; refine HP.out.mono ?_; rintro e w1 ⟨rfl, rfl⟩)
      go_ret2
      exact ⟨rfl, rfl⟩
    · have hcc := hid hc
      go_wp2_with (go_at_call 156; refine HP.out.mono ?_; rintro e w1 ⟨rfl, rfl⟩)
      go_ret2
      refine ⟨?_, rfl⟩
      have hc1 := hcc.out
      simp [cutBack, hc1, Addr.add]
theorem idx_run (A : Option Addr) (n c B : Nat) (l : List UInt8) (x : UInt8) (w : World) (h : Reads w B 1 A n (Lib.byteCells l)) :
    (callFunc 173 #[.slice A n c, .int .u8 x.toNat]).run Tryz.prog w = .ok (.value (.int .i64 (Lib.indexByte l x))) w := by
  have hl : l.length = n := by have := h.1; simpa [Lib.byteCells_length] using this
  have hxs : Lib.bytesOf (l.map fun u => (u.toNat : Int)) = l := by
    unfold Lib.bytesOf
    rw [List.map_map]
    conv => rhs; rw [← List.map_id l]
    apply List.map_congr_left
    intro u _
    simp
  rw [run_callFunc_extern Tryz.func173 (by kernel_rfl) (by kernel_rfl) (by kernel_rfl) (e := Extern.BytealgIndexByte.indexByte) (by kernel_rfl)]
  cases A with
  | none =>
    have h0 : n = 0 := by
      rcases Nat.eq_zero_or_pos n with h0 | h0
      · exact h0
      · obtain ⟨ad, e, _⟩ := h.2 h0
        cases e
    subst h0
    obtain rfl : l = [] := List.eq_nil_of_length_eq_zero hl
    rfl
  | some a =>
    have hc : ∀ i, i < n → w.cell? (a.add i) = some (.int .u8 ((l.map fun u => (u.toNat : Int)).getD i 0)) := by
      intro i hi
      obtain ⟨ad, u, e, _, hu, hcell⟩ := h.at_ hi
      injection e with e
      subst e
      rw [hcell]
      have hil : i < l.length := by omega
      simp [Lib.byteCells, List.getElem?_map, List.getElem?_eq_getElem hil] at hu
      subst hu
      simp [List.getD, List.getElem?_map, List.getElem?_eq_getElem hil]
    rw [Lib.run_indexByteAt w a n c (l.map fun u => (u.toNat : Int)) (by rw [List.length_map, hl]) hc, hxs]
    simp
theorem indexByte_any (A : Option Addr) (n c B : Nat) (l : List UInt8) (x : UInt8) (w : World) (h : Reads w B 1 A n (Lib.byteCells l)) :
    Calls Tryz.prog 164 #[.slice A n c, .int .u8 x.toNat] w fun e w' => e = .returned (.int .i64 (Lib.indexByte l x)) ∧ w' = w := by
  have hr := idx_run A n c B l x w h
  generalize Lib.indexByte l x = i at hr
  go_enter Tryz.func164, Tryz.ntmps164
  go_wp2
  go_ret
  exact ⟨rfl, rfl⟩
set_option maxHeartbeats 2000000 in
set_option maxRecDepth 1000000 in
theorem index_one (A A' : Option Addr) (n c c' B B' : Nat) (l : List UInt8) (x : UInt8) (w : World) (h : Reads w B 1 A n (Lib.byteCells l)) (h' : Reads w B' 1 A' 1 (Lib.byteCells [x])) :
    Calls Tryz.prog 157 #[.slice A n c, .slice A' 1 c'] w fun e w' => e = .returned (.int .i64 (Lib.indexByte l x)) ∧ w' = w := by
  have hi := indexByte_any A n c B l x w h
  have HI := hid hi
  clear hi
  generalize Lib.indexByte l x = i at HI
  obtain ⟨a', rfl, hcell⟩ : ∃ a', A' = some a' ∧ w.cell? a' = some (.int .u8 x.toNat) := by
    obtain ⟨ad, u, e, _, hu, hc⟩ := h'.at_ (k := 0) (by omega)
    refine ⟨ad, e, ?_⟩
    simp [Lib.byteCells] at hu
    subst hu
    rw [← hc]
    simp [Addr.add]
  clear h h'
  go_enter Tryz.func157, Tryz.ntmps157
  go_wp2_with (go_at_call 164; refine HI.out.mono ?_; rintro e w1 ⟨rfl, rfl⟩)
  go_ret
  exact ⟨rfl, rfl⟩
inductive CutAt (A : Option Addr) (n c : Nat) (l : List UInt8) (x : UInt8) : Value → Prop where
  | whole (h : ∀ u ∈ l, u ≠ x) : CutAt A n c l x (.tuple #[.slice A n c, .slice none 0 0, .bool false])
  | parts (i : Nat) (hi : i < n) (h : ∀ u ∈ l.take i, u ≠ x) (hl : l = l.take i ++ x :: l.drop (i + 1)) : CutAt A n c l x (.tuple #[.slice A i c, cutBack A n c (i + 1), .bool true])
set_option maxHeartbeats 2000000 in
set_option maxRecDepth 1000000 in
theorem cut_one (A A' : Option Addr) (n c c' B B' : Nat) (l : List UInt8) (x : UInt8) (w : World) (h : Reads w B 1 A n (Lib.byteCells l)) (h' : Reads w B' 1 A' 1 (Lib.byteCells [x])) (hn : n ≤ c) (h40 : n ≤ 1099511627776) :
    Calls Tryz.prog 148 #[.slice A n c, .slice A' 1 c'] w fun e w' => ∃ v, e = .returned v ∧ CutAt A n c l x v ∧ Below w.heap.size w w' := by
  have hl : l.length = n := by have := h.1; simpa [Lib.byteCells_length] using this
  have hi := index_one A A' n c c' B B' l x w h h'
  have HI := hid hi
  clear hi
  rcases Int.lt_or_le (Lib.indexByte l x) 0 with h0 | h0
  · have h1 : Lib.indexByte l x = -1 := by have := Lib.indexByte_ge l x; omega
    have hne : Hid (∀ u ∈ l, u ≠ x) := by
      intro u hu e
      subst e
      obtain ⟨k, hk, hk2⟩ := List.getElem_of_mem hu
      exact Lib.indexByte_none h1 k (by rw [List.getElem?_eq_getElem hk, hk2])
    rw [h1] at HI
    clear h0 h1 hl
    go_enter Tryz.func148, Tryz.ntmps148
    go_wp2_with (go_at_call 157; refine HI.out.mono ?_; rintro e w1 ⟨rfl, rfl⟩)
    go_ret3
    exact ⟨_, rfl, .whole hne.out, Below.refl _ _⟩
  · obtain ⟨i, hie⟩ : ∃ i : Nat, Lib.indexByte l x = i := ⟨(Lib.indexByte l x).toNat, by omega⟩
    obtain ⟨k1, k2⟩ := Lib.indexByte_some hie
    have hil : i < l.length := by
      rcases Nat.lt_or_ge i l.length with h2 | h2
      · exact h2
      · rw [List.getElem?_eq_none h2] at k1; cases k1
    have hx : l[i] = x := by
      rw [List.getElem?_eq_getElem hil] at k1
      injection k1
    have H1 : Hid (∀ u ∈ l.take i, u ≠ x) := by
      intro u hu e
      subst e
      obtain ⟨k, hk, hk2⟩ := List.getElem_of_mem hu
      have hki : k < i := by rw [List.length_take] at hk; omega
      refine k2 k hki ?_
      rw [List.getElem_take] at hk2
      rw [List.getElem?_eq_getElem (by omega), hk2]
    have H2 : Hid (l = l.take i ++ x :: l.drop (i + 1)) := by
      show l = _
      have e := List.drop_eq_getElem_cons hil
      rw [hx] at e
      rw [← e, List.take_append_drop]
    have hin : i < n := by omega
    rw [hie] at HI
    clear h0 hie k1 k2 hx hil hl
    obtain ⟨j, hj⟩ : ∃ j, j = i + 1 := ⟨_, rfl⟩
    have hjn : j ≤ n := by omega
    have hj0 : 0 < j := by omega
    have hji : (i : Int) + 1 = j := by omega
    have HJ := hid hj
    clear hj
    by_cases hc : c = j
    · have hnj : n = j := by omega
      subst hnj
      subst hc
      go_enter Tryz.func148, Tryz.ntmps148
      go_wp2_with (go_at_call 157; refine HI.out.mono ?_; rintro e w1 ⟨rfl, rfl⟩)
      go_region
      all_goals go_wp2
      all_goals go_ret3
      all_goals refine ⟨_, rfl, ?_, (Below.refl _ _).drew⟩
      all_goals have hp := CutAt.parts (A := A) (c := c) i hin H1.out H2.out
      all_goals rw [← HJ.out] at hp
      all_goals simpa [cutBack] using hp
    · have hcc := hid hc
      go_enter Tryz.func148, Tryz.ntmps148
      go_wp2_with (go_at_call 157; refine HI.out.mono ?_; rintro e w1 ⟨rfl, rfl⟩)
      go_region
      all_goals go_wp2
      all_goals go_ret3
      all_goals refine ⟨_, rfl, ?_, (Below.refl _ _).drew⟩
      all_goals have hp := CutAt.parts (A := A) (c := c) i hin H1.out H2.out
      all_goals rw [← HJ.out] at hp
      all_goals unfold cutBack at hp
      all_goals rw [if_neg hcc.out] at hp
      all_goals simpa using hp
end Go.Proofs.YtinlonpcakkfhaaGreatDoor
end
section
set_option maxRecDepth 100000
namespace Go.Proofs.YtinlonpcakkfhaaGreatDoor
open Go Go.Proofs Go.RowKit Sx _root_.Ord11 Go.Proofs.YtinlonpcakkfhaaGreatDoor.Ord11 _root_.Tag12
set_option maxHeartbeats 4000000 in
theorem pSameEnd (x y : Bd) {A A' : Option Addr} {n c n' c' : Nat} (w : World) (h1 : SlAt w w.heap.size A n c x.at_) (h2 : SlAt w w.heap.size A' n' c' y.at_) :
    Calls Tryz.prog 69 #[.agg #[.bool x.is, .bool x.op, .slice A n c], .agg #[.bool y.is, .bool y.op, .slice A' n' c']] w fun e w' => e = .returned (.bool (sameB x y)) ∧ Below w.heap.size w w' := by
  obtain ⟨i, p, l⟩ := x
  obtain ⟨i', p', l'⟩ := y
  dsimp only at h1 h2 ⊢
  obtain ⟨q, hq⟩ : ∃ q, q = (l == l') := ⟨_, rfl⟩
  have HM : Hid (sameB ⟨i, p, l⟩ ⟨i', p', l'⟩ = (i == i' && p == p' && q)) := by show _ = _; rw [hq]; rfl
  obtain ⟨w0, hw0⟩ : ∃ w0, w0 = ((w.alloc (.cells #[.bool i, .bool p, .slice A n c] 25)).alloc (.cells #[.bool i', .bool p', .slice A' n' c'] 25)) := ⟨_, rfl⟩
  have HB0 : Hid (Below w.heap.size w w0) := by
    show Below _ _ _
    rw [hw0]
    exact ((Below.refl w.heap.size w).alloc (Nat.le_refl _) _).alloc (by simp; try omega) _
  have B0 : Blk w0 w.heap.size 25 #[.bool i, .bool p, .slice A n c] := by
    rw [hw0]
    exact (Blk.new w 25 #[.bool i, .bool p, .slice A n c]).alloc (.cells #[.bool i', .bool p', .slice A' n' c'] 25)
  have X0 : Hid (∀ W, Below w0.heap.size w0 W → ∀ kx u, (#[.bool i, .bool p, .slice A n c] : Array Value)[kx]? = some u → W.cell? ⟨w.heap.size, kx, none⟩ = some u) := fun W hW kx u hk => cell_below hW ((B0.cell kx).trans hk) B0.lt
  have B1 : Blk w0 (w.heap.size + 1) 25 #[.bool i', .bool p', .slice A' n' c'] := by
    rw [hw0]
    have h := Blk.new (w.alloc (.cells #[.bool i, .bool p, .slice A n c] 25)) 25 #[.bool i', .bool p', .slice A' n' c']
    simpa using h
  have X1 : Hid (∀ W, Below w0.heap.size w0 W → ∀ kx u, (#[.bool i', .bool p', .slice A' n' c'] : Array Value)[kx]? = some u → W.cell? ⟨(w.heap.size + 1), kx, none⟩ = some u) := fun W hW kx u hk => cell_below hW ((B1.cell kx).trans hk) B1.lt
  have HR : Below w0.heap.size w0 w0 := Below.refl _ _
  clear B0 B1
  have K : Hid (∀ W, Below w0.heap.size w0 W → Calls Tryz.prog 43 #[.slice A n c, .slice A' n' c'] W fun e w' => e = .returned (.bool q) ∧ w' = W) := fun W hW => by
    rw [hq]; exact equal_any A A' n c n' c' _ _ l l' W (h1.next (next_below HB0.out hW)).rd (h2.next (next_below HB0.out hW)).rd
  clear hq h1 h2
  go_enter Tryz.func69, Tryz.ntmps69
  go_upto_region 1 with fail
  rw [← hw0]
  clear hw0
  have x0_0 := X0.out _ HR 0 _ rfl
  have x0_1 := X0.out _ HR 1 _ rfl
  have x0_2 := X0.out _ HR 2 _ rfl
  have x1_0 := X1.out _ HR 0 _ rfl
  have x1_1 := X1.out _ HR 1 _ rfl
  have x1_2 := X1.out _ HR 2 _ rfl
  cases i <;> cases i' <;> cases p <;> cases p'
  all_goals go_wp2_with (go_at_call 43; refine (K.out _ HR).mono ?_; rintro e w1 ⟨rfl, rfl⟩)
  all_goals go_ret
  all_goals exact ⟨by rw [HM.out]; rfl, HB0.out⟩
set_option maxHeartbeats 4000000 in
theorem pSameRange (x y : Rg) {A3 A4 A3' A4' : Option Addr} {n3 c3 n4 c4 n3' c3' n4' c4' : Nat} (w : World) (h1 : SlAt w w.heap.size A3 n3 c3 x.lo.at_) (h2 : SlAt w w.heap.size A4 n4 c4 x.hi.at_) (h3 : SlAt w w.heap.size A3' n3' c3' y.lo.at_) (h4 : SlAt w w.heap.size A4' n4' c4' y.hi.at_) :
    Calls Tryz.prog 44 #[.agg #[.int .u8 x.o, .bool x.lo.is, .bool x.lo.op, .slice A3 n3 c3, .bool x.hi.is, .bool x.hi.op, .slice A4 n4 c4], .agg #[.int .u8 y.o, .bool y.lo.is, .bool y.lo.op, .slice A3' n3' c3', .bool y.hi.is, .bool y.hi.op, .slice A4' n4' c4']] w fun e w' => e = .returned (.bool (sameR x y)) ∧ Below w.heap.size w w' := by
  obtain ⟨o, ⟨i1, p1, l1⟩, ⟨i2, p2, l2⟩⟩ := x
  obtain ⟨o', ⟨i1', p1', l1'⟩, ⟨i2', p2', l2'⟩⟩ := y
  dsimp only at h1 h2 h3 h4 ⊢
  obtain ⟨q, hq⟩ : ∃ q, q = sameB ⟨i1, p1, l1⟩ ⟨i1', p1', l1'⟩ := ⟨_, rfl⟩
  obtain ⟨r, hr⟩ : ∃ q, q = sameB ⟨i2, p2, l2⟩ ⟨i2', p2', l2'⟩ := ⟨_, rfl⟩
  have HM : Hid (sameR ⟨o, ⟨i1, p1, l1⟩, ⟨i2, p2, l2⟩⟩ ⟨o', ⟨i1', p1', l1'⟩, ⟨i2', p2', l2'⟩⟩ = (decide (o = o') && q && r)) := by show _ = _; rw [hq, hr]; rfl
  obtain ⟨w0, hw0⟩ : ∃ w0, w0 = ((w.alloc (.cells #[.int .u8 o, .bool i1, .bool p1, .slice A3 n3 c3, .bool i2, .bool p2, .slice A4 n4 c4] 27)).alloc (.cells #[.int .u8 o', .bool i1', .bool p1', .slice A3' n3' c3', .bool i2', .bool p2', .slice A4' n4' c4'] 27)) := ⟨_, rfl⟩
  have HB0 : Hid (Below w.heap.size w w0) := by
    show Below _ _ _
    rw [hw0]
    exact ((Below.refl w.heap.size w).alloc (Nat.le_refl _) _).alloc (by simp; try omega) _
  have B0 : Blk w0 w.heap.size 27 #[.int .u8 o, .bool i1, .bool p1, .slice A3 n3 c3, .bool i2, .bool p2, .slice A4 n4 c4] := by
    rw [hw0]
    exact (Blk.new w 27 #[.int .u8 o, .bool i1, .bool p1, .slice A3 n3 c3, .bool i2, .bool p2, .slice A4 n4 c4]).alloc (.cells #[.int .u8 o', .bool i1', .bool p1', .slice A3' n3' c3', .bool i2', .bool p2', .slice A4' n4' c4'] 27)
  have X0 : Hid (∀ W, Below w0.heap.size w0 W → ∀ kx u, (#[.int .u8 o, .bool i1, .bool p1, .slice A3 n3 c3, .bool i2, .bool p2, .slice A4 n4 c4] : Array Value)[kx]? = some u → W.cell? ⟨w.heap.size, kx, none⟩ = some u) := fun W hW kx u hk => cell_below hW ((B0.cell kx).trans hk) B0.lt
  have B1 : Blk w0 (w.heap.size + 1) 27 #[.int .u8 o', .bool i1', .bool p1', .slice A3' n3' c3', .bool i2', .bool p2', .slice A4' n4' c4'] := by
    rw [hw0]
    have h := Blk.new (w.alloc (.cells #[.int .u8 o, .bool i1, .bool p1, .slice A3 n3 c3, .bool i2, .bool p2, .slice A4 n4 c4] 27)) 27 #[.int .u8 o', .bool i1', .bool p1', .slice A3' n3' c3', .bool i2', .bool p2', .slice A4' n4' c4']
    simpa using h
  have X1 : Hid (∀ W, Below w0.heap.size w0 W → ∀ kx u, (#[.int .u8 o', .bool i1', .bool p1', .slice A3' n3' c3', .bool i2', .bool p2', .slice A4' n4' c4'] : Array Value)[kx]? = some u → W.cell? ⟨(w.heap.size + 1), kx, none⟩ = some u) := fun W hW kx u hk => cell_below hW ((B1.cell kx).trans hk) B1.lt
  have HR : Below w0.heap.size w0 w0 := Below.refl _ _
  clear B0 B1
  have K1 : Hid (∀ W, Below w0.heap.size w0 W → Calls Tryz.prog 69 #[.agg #[.bool i1, .bool p1, .slice A3 n3 c3], .agg #[.bool i1', .bool p1', .slice A3' n3' c3']] W fun e w' => e = .returned (.bool q) ∧ Below W.heap.size W w') := fun W hW => by
    rw [hq]; exact pSameEnd ⟨i1, p1, l1⟩ ⟨i1', p1', l1'⟩ W (h1.next (next_below HB0.out hW)) (h3.next (next_below HB0.out hW))
  have K2 : Hid (∀ W, Below w0.heap.size w0 W → Calls Tryz.prog 69 #[.agg #[.bool i2, .bool p2, .slice A4 n4 c4], .agg #[.bool i2', .bool p2', .slice A4' n4' c4']] W fun e w' => e = .returned (.bool r) ∧ Below W.heap.size W w') := fun W hW => by
    rw [hr]; exact pSameEnd ⟨i2, p2, l2⟩ ⟨i2', p2', l2'⟩ W (h2.next (next_below HB0.out hW)) (h4.next (next_below HB0.out hW))
  clear hq hr h1 h2 h3 h4
  go_enter Tryz.func44, Tryz.ntmps44
  go_upto_region 1 with fail
  rw [← hw0]
  clear hw0
  have x0_0 := X0.out _ HR 0 _ rfl
  have x0_1 := X0.out _ HR 1 _ rfl
  have x0_2 := X0.out _ HR 2 _ rfl
  have x0_3 := X0.out _ HR 3 _ rfl
  have x0_4 := X0.out _ HR 4 _ rfl
  have x0_5 := X0.out _ HR 5 _ rfl
  have x0_6 := X0.out _ HR 6 _ rfl
  have x1_0 := X1.out _ HR 0 _ rfl
  have x1_1 := X1.out _ HR 1 _ rfl
  have x1_2 := X1.out _ HR 2 _ rfl
  have x1_3 := X1.out _ HR 3 _ rfl
  have x1_4 := X1.out _ HR 4 _ rfl
  have x1_5 := X1.out _ HR 5 _ rfl
  have x1_6 := X1.out _ HR 6 _ rfl
  by_cases q1 : ¬ o = o'
  · have q1B : ((o : Int) == (o' : Int)) = false := by rw [beq_eq_false_iff_ne]; omega
    have HN : Hid (decide (o = o') = false) := decide_eq_false q1
    clear q1
    go_wp2_with fail
    go_ret
    exact ⟨by rw [HM.out, HN.out]; rfl, HB0.out⟩
  have q1 : o = o' := Classical.not_not.1 q1
  subst q1
  have HE1 : Hid (decide (o = o) = true) := decide_eq_true rfl
  cases q with
  | false =>
    go_wp2_with (go_at_call 69; (first | (with_reducible refine (K1.out _ (by assumption)).mono ?_) | (with_reducible refine (K2.out _ (by assumption)).mono ?_)); rintro e w1 ⟨rfl, hb⟩; have hB := next_below (by assumption) hb; have x0_0 := X0.out _ hB 0 _ rfl; have x0_1 := X0.out _ hB 1 _ rfl; have x0_2 := X0.out _ hB 2 _ rfl; have x0_3 := X0.out _ hB 3 _ rfl; have x0_4 := X0.out _ hB 4 _ rfl; have x0_5 := X0.out _ hB 5 _ rfl; have x0_6 := X0.out _ hB 6 _ rfl; have x1_0 := X1.out _ hB 0 _ rfl; have x1_1 := X1.out _ hB 1 _ rfl; have x1_2 := X1.out _ hB 2 _ rfl; have x1_3 := X1.out _ hB 3 _ rfl; have x1_4 := X1.out _ hB 4 _ rfl; have x1_5 := X1.out _ hB 5 _ rfl; have x1_6 := X1.out _ hB 6 _ rfl; clear hb)
    go_ret
    exact ⟨by rw [HM.out, HE1.out]; rfl, next_below HB0.out (by assumption)⟩
  | true =>
    go_wp2_with (go_at_call 69; (first | (with_reducible refine (K1.out _ (by assumption)).mono ?_) | (with_reducible refine (K2.out _ (by assumption)).mono ?_)); rintro e w1 ⟨rfl, hb⟩; have hB := next_below (by assumption) hb; have x0_0 := X0.out _ hB 0 _ rfl; have x0_1 := X0.out _ hB 1 _ rfl; have x0_2 := X0.out _ hB 2 _ rfl; have x0_3 := X0.out _ hB 3 _ rfl; have x0_4 := X0.out _ hB 4 _ rfl; have x0_5 := X0.out _ hB 5 _ rfl; have x0_6 := X0.out _ hB 6 _ rfl; have x1_0 := X1.out _ hB 0 _ rfl; have x1_1 := X1.out _ hB 1 _ rfl; have x1_2 := X1.out _ hB 2 _ rfl; have x1_3 := X1.out _ hB 3 _ rfl; have x1_4 := X1.out _ hB 4 _ rfl; have x1_5 := X1.out _ hB 5 _ rfl; have x1_6 := X1.out _ hB 6 _ rfl; clear hb)
    go_ret
    exact ⟨by rw [HM.out, HE1.out]; rfl, next_below HB0.out (by assumption)⟩
def SameSpecT (t : TG) : Prop := ∀ (t' : TG) (w : World) (S S' : Nat → Prop) (cs cs' : List Value), TIn w S t cs → TIn w S' t' cs' → fineT t = true → fineT t' = true →
  Calls Tryz.prog 21 #[.agg cs.toArray, .agg cs'.toArray] w fun e w' => e = .returned (.bool (sameT t t')) ∧ Below w.heap.size w w'
def RowT (w : World) (S : Nat → Prop) (ks : List TG) (A : Option Addr) (n c : Nat) : Prop :=
  ∃ xs, n ≤ c ∧ n * 128 ≤ 140737488355328 ∧ ks.length = n ∧ RIn w S 10 A n xs ∧ KidsT w S ks xs
theorem RowT.old {w w' : World} {S : Nat → Prop} {ks : List TG} {A : Option Addr} {n c : Nat} (h : RowT w S ks A n c) (hb : Below w.heap.size w w') : RowT w' S ks A n c := by
  obtain ⟨xs, h1, h2, h3, h4, h5⟩ := h
  exact ⟨xs, h1, h2, h3, h4.old (by omega) hb, fun i t hi => (h5 i t hi).old hb⟩
theorem RowT.len {w : World} {S : Nat → Prop} {ks : List TG} {A : Option Addr} {n c : Nat} (h : RowT w S ks A n c) : ks.length = n ∧ n ≤ c ∧ n * 128 ≤ 140737488355328 := by
  obtain ⟨xs, h1, h2, h3, h4, h5⟩ := h
  exact ⟨h3, h1, h2⟩
theorem TIn.rowT {w : World} {S : Nat → Prop} {k0 : Nat} {d : List UInt8} {r : Rg} {ks : List TG} {V0 V1 V3 V4 V5 V6 V7 V8 V9 : Value} {A2 : Option Addr} {n2 c2 : Nat}
    (hs : TIn w S (.mk k0 d r ks) [V0, V1, .slice A2 n2 c2, V3, V4, V5, V6, V7, V8, V9]) : RowT w S ks A2 n2 c2 := by
  cases hs with
  | mk h8 h1 b1 h3 b3 h4 b4 h2 b2 hk hs => exact ⟨_, b2.1, b2.2, hk, h2, hs⟩
theorem RowT.at_ {w : World} {S : Nat → Prop} {ks : List TG} {A : Option Addr} {n c : Nat} (h : RowT w S ks A n c) {k : Nat} (hlt : k < n) :
    ∃ ad v0 v1 v2 v3 v4 v5 v6 v7 v8 v9 t, A = some ad ∧ S ad.block ∧ ks[k]? = some t ∧ t ∈ ks ∧ TIn w S t [v0, v1, v2, v3, v4, v5, v6, v7, v8, v9] ∧
      w.cell? (ad.add (k * 10)) = some v0 ∧ w.cell? ⟨(ad.add (k * 10)).block, (ad.add (k * 10)).off + 1, none⟩ = some v1 ∧ w.cell? ⟨(ad.add (k * 10)).block, (ad.add (k * 10)).off + 2, none⟩ = some v2 ∧ w.cell? ⟨(ad.add (k * 10)).block, (ad.add (k * 10)).off + 3, none⟩ = some v3 ∧ w.cell? ⟨(ad.add (k * 10)).block, (ad.add (k * 10)).off + 4, none⟩ = some v4 ∧ w.cell? ⟨(ad.add (k * 10)).block, (ad.add (k * 10)).off + 5, none⟩ = some v5 ∧ w.cell? ⟨(ad.add (k * 10)).block, (ad.add (k * 10)).off + 6, none⟩ = some v6 ∧ w.cell? ⟨(ad.add (k * 10)).block, (ad.add (k * 10)).off + 7, none⟩ = some v7 ∧ w.cell? ⟨(ad.add (k * 10)).block, (ad.add (k * 10)).off + 8, none⟩ = some v8 ∧ w.cell? ⟨(ad.add (k * 10)).block, (ad.add (k * 10)).off + 9, none⟩ = some v9 := by
  obtain ⟨xs, h1, h2, h3, h4, h5⟩ := h
  exact TIn.kid (k0 := 3) (V1 := .slice none 0 0) (d := []) (r := zeroR) (.mk (A3 := none) (A4 := none) (xs := xs) (c2 := c) ⟨by omega, by decide⟩ RIn.none_ ⟨Nat.le_refl _, by omega⟩ RIn.none_ ⟨Nat.le_refl _, by omega⟩ RIn.none_ ⟨Nat.le_refl _, by omega⟩ h4 ⟨h1, h2⟩ h3 h5) hlt
set_option maxHeartbeats 8000000 in
theorem eqFuncT_any (ks ks' : List TG) (IH : ∀ k ∈ ks, SameSpecT k) (A A' : Option Addr) (n c n' c' : Nat) (S S' : Nat → Prop) (w : World) (hr : RowT w S ks A n c) (hr' : RowT w S' ks' A' n' c') (hf : fineL ks = true) (hf' : fineL ks' = true) :
    Calls Tryz.prog 45 #[.slice A n c, .slice A' n' c', .func (.func 21) #[] #[]] w fun e w' => e = .returned (.bool (sameTs ks ks')) ∧ Below w.heap.size w w' := by
  obtain ⟨hk, hc, hm⟩ := hr.len
  obtain ⟨hk', hc', hm'⟩ := hr'.len
  by_cases q : ¬ n = n'
  · have HQ := hid (sameTs_len ks ks' (by rw [hk, hk']; exact q))
    have q' : ((n : Int) != (n' : Int)) = true := by rw [bne_iff_ne]; omega
    clear q hr hr' hk hk'
    go_enter Tryz.func45, Tryz.ntmps45
    go_wp2_with fail
    go_ret
    exact ⟨ret_bool (by rw [HQ.out]), Below.refl _ _⟩
  · have q : n = n' := Classical.not_not.1 q
    subst q
    have HR := hid hr
    have HR' := hid hr'
    have HK := hid hk
    have HK' := hid hk'
    have IH := hid IH
    have HF := hid (fineL_mem hf)
    have HF' := hid (fineL_mem hf')
    clear hr hk hr' hk' hf hf'
    go_enter Tryz.func45, Tryz.ntmps45
    go_wp2_with fail
    go_loopw [17] (fun i wr => ∃ k : Nat, k ≤ n ∧ i = .int .i64 k ∧ Hid (sameTs (ks.take k) (ks'.take k) = true) ∧ Below w.heap.size w wr) (fun i _ => n - (intOf i).toNat)
    case atStart => exact ⟨0, Nat.zero_le _, rfl, rfl, Below.refl _ _⟩
    case round =>
      obtain ⟨k, hkn, rfl, hcl, hbel⟩ := hrel
      by_cases hlt : k < n
      · obtain ⟨ad, v0, v1, v2, v3, v4, v5, v6, v7, v8, v9, t, rfl, hS, hks, hm, hin, d0, d1, d2, d3, d4, d5, d6, d7, d8, d9⟩ := (HR.out.old hbel).at_ hlt
        obtain ⟨ad', v0', v1', v2', v3', v4', v5', v6', v7', v8', v9', t', rfl, hS', hks', hm', hin', d0', d1', d2', d3', d4', d5', d6', d7', d8', d9'⟩ := (HR'.out.old hbel).at_ hlt
        have hlt' : (k : Int) < n := by omega
        have HM := hid hm
        have HM2 := hid hm'
        have HTK := hid (sameTs_take ks ks' k t t' hks hks')
        have HBad := hid (sameTs_bad ks ks' k t t' hks hks')
        obtain ⟨ka, oa, i1a, p1a, i2a, p2a, A1a, n1a, c1a, A2a, n2a, c2a, A3a, n3a, c3a, A4a, n4a, c4a, eE⟩ := hin.lets
        injection eE with eE0 eE; injection eE with eE1 eE; injection eE with eE2 eE; injection eE with eE3 eE; injection eE with eE4 eE; injection eE with eE5 eE; injection eE with eE6 eE; injection eE with eE7 eE; injection eE with eE8 eE; injection eE with eE9 eE
        subst eE0 eE1 eE2 eE3 eE4 eE5 eE6 eE7 eE8 eE9
        clear eE
        obtain ⟨kb, ob, i1b, p1b, i2b, p2b, A1b, n1b, c1b, A2b, n2b, c2b, A3b, n3b, c3b, A4b, n4b, c4b, eE⟩ := hin'.lets
        injection eE with eE0 eE; injection eE with eE1 eE; injection eE with eE2 eE; injection eE with eE3 eE; injection eE with eE4 eE; injection eE with eE5 eE; injection eE with eE6 eE; injection eE with eE7 eE; injection eE with eE8 eE; injection eE with eE9 eE
        subst eE0 eE1 eE2 eE3 eE4 eE5 eE6 eE7 eE8 eE9
        clear eE
        obtain ⟨w1, hw1⟩ : ∃ w1, w1 = wr.alloc (.cells #[.int .u8 ka, .slice A1a n1a c1a, .slice A2a n2a c2a, .int .u8 oa, .bool i1a, .bool p1a, .slice A3a n3a c3a, .bool i2a, .bool p2a, .slice A4a n4a c4a] 29) := ⟨_, rfl⟩
        obtain ⟨w2, hw2⟩ : ∃ w2, w2 = w1.alloc (.cells #[.int .u8 kb, .slice A1b n1b c1b, .slice A2b n2b c2b, .int .u8 ob, .bool i1b, .bool p1b, .slice A3b n3b c3b, .bool i2b, .bool p2b, .slice A4b n4b c4b] 29) := ⟨_, rfl⟩
        have hb1 : Below wr.heap.size wr w1 := by rw [hw1]; exact below_new _ _
        have hb2 : Below w1.heap.size w1 w2 := by rw [hw2]; exact below_new _ _
        have B1 : Blk w1 wr.heap.size 29 #[.int .u8 ka, .slice A1a n1a c1a, .slice A2a n2a c2a, .int .u8 oa, .bool i1a, .bool p1a, .slice A3a n3a c3a, .bool i2a, .bool p2a, .slice A4a n4a c4a] := by rw [hw1]; exact Blk.new _ _ _
        have B2 : Blk w2 w1.heap.size 29 #[.int .u8 kb, .slice A1b n1b c1b, .slice A2b n2b c2b, .int .u8 ob, .bool i1b, .bool p1b, .slice A3b n3b c3b, .bool i2b, .bool p2b, .slice A4b n4b c4b] := by rw [hw2]; exact Blk.new _ _ _
        have hb12 := next_below hb1 hb2
        have HBD := hid (hbel.trans (hb12.mono hbel.size))
        obtain ⟨b, hbb⟩ : ∃ b, b = sameT t t' := ⟨_, rfl⟩
        have C := IH.out t HM.out t' w2 S S' _ _ (hin.old hb12) (hin'.old hb12) (HF.out t hm) (HF'.out t' hm')
        rw [← hbb] at C HTK HBad
        have C := hid C
        clear hin hin' hks hks' hm hm' hS hS' hbb hb12 hbel
        go_upto_region 6 with fail
        rw [← hw1]
        have e0 := (hb1.cell (World.block_lt_of_cell? _ _ d0')).trans d0'
        have e1 := (hb1.cell (World.block_lt_of_cell? _ _ d1')).trans d1'
        have e2 := (hb1.cell (World.block_lt_of_cell? _ _ d2')).trans d2'
        have e3 := (hb1.cell (World.block_lt_of_cell? _ _ d3')).trans d3'
        have e4 := (hb1.cell (World.block_lt_of_cell? _ _ d4')).trans d4'
        have e5 := (hb1.cell (World.block_lt_of_cell? _ _ d5')).trans d5'
        have e6 := (hb1.cell (World.block_lt_of_cell? _ _ d6')).trans d6'
        have e7 := (hb1.cell (World.block_lt_of_cell? _ _ d7')).trans d7'
        have e8 := (hb1.cell (World.block_lt_of_cell? _ _ d8')).trans d8'
        have e9 := (hb1.cell (World.block_lt_of_cell? _ _ d9')).trans d9'
        clear hw1 d0 d1 d2 d3 d4 d5 d6 d7 d8 d9 d0' d1' d2' d3' d4' d5' d6' d7' d8' d9' hb1
        go_upto_region 7 with fail
        rw [← hw2]
        clear hw2
        have y0 := (B1.old hb2).cell 0
        have z0 := B2.cell 0
        have y1 := (B1.old hb2).cell 1
        have z1 := B2.cell 1
        have y2 := (B1.old hb2).cell 2
        have z2 := B2.cell 2
        have y3 := (B1.old hb2).cell 3
        have z3 := B2.cell 3
        have y4 := (B1.old hb2).cell 4
        have z4 := B2.cell 4
        have y5 := (B1.old hb2).cell 5
        have z5 := B2.cell 5
        have y6 := (B1.old hb2).cell 6
        have z6 := B2.cell 6
        have y7 := (B1.old hb2).cell 7
        have z7 := B2.cell 7
        have y8 := (B1.old hb2).cell 8
        have z8 := B2.cell 8
        have y9 := (B1.old hb2).cell 9
        have z9 := B2.cell 9
        clear e0 e1 e2 e3 e4 e5 e6 e7 e8 e9 hb2 B1 B2
        cases b with
        | true =>
          go_wp2_with (go_at_call 21; refine (C.out).mono ?_; rintro e w3 ⟨rfl, hb3⟩)
          go_roundw
          case rel => exact ⟨k + 1, by omega, by go_num, (show _ = _ by rw [HTK.out, hcl.out]; rfl), HBD.out.trans (hb3.mono HBD.out.size)⟩
          case measure => simp [intOf]; omega
        | false =>
          go_wp2_with (go_at_call 21; refine (C.out).mono ?_; rintro e w3 ⟨rfl, hb3⟩)
          go_ret
          exact ⟨ret_bool (by rw [HBad.out (by simp)]), HBD.out.trans (hb3.mono HBD.out.size)⟩
      · obtain rfl : k = n := by omega
        have hall : Hid (sameTs ks ks' = true) := by
          have h := hcl.out
          rw [List.take_of_length_le (by rw [HK.out]; exact Nat.le_refl _), List.take_of_length_le (by rw [HK'.out]; exact Nat.le_refl _)] at h
          exact h
        go_wp2_with fail
        go_ret
        exact ⟨ret_bool (by rw [hall.out]), hbel⟩
set_option maxHeartbeats 8000000 in
theorem pSameT_any (t : TG) : SameSpecT t := by
  induction t using TG.ind with
  | H k d r ks ih =>
    intro t' w S S' cs cs' hs hs' hf hf'
    obtain ⟨o, ⟨i1, p1, l1⟩, ⟨i2, p2, l2⟩⟩ := r
    obtain ⟨_, _, _, _, A1, n1, c1, A2, n2, c2, A3, n3, c3, A4, n4, c4, e, rfl⟩ := hs.form_
    cases e
    dsimp only at hs ⊢
    obtain ⟨k', d', ⟨o', ⟨i1', p1', l1'⟩, ⟨i2', p2', l2'⟩⟩, ks', A1', n1', c1', A2', n2', c2', A3', n3', c3', A4', n4', c4', e, rfl⟩ := hs'.form_
    subst e
    dsimp only at hs' ⊢
    obtain ⟨w0, hw0⟩ : ∃ w0, w0 = ((w.alloc (.cells #[.int .u8 k, .slice A1 n1 c1, .slice A2 n2 c2, .int .u8 o, .bool i1, .bool p1, .slice A3 n3 c3, .bool i2, .bool p2, .slice A4 n4 c4] 29)).alloc (.cells #[.int .u8 k', .slice A1' n1' c1', .slice A2' n2' c2', .int .u8 o', .bool i1', .bool p1', .slice A3' n3' c3', .bool i2', .bool p2', .slice A4' n4' c4'] 29)) := ⟨_, rfl⟩
    have HB0 : Hid (Below w.heap.size w w0) := by
      show Below _ _ _
      rw [hw0]
      exact ((Below.refl w.heap.size w).alloc (Nat.le_refl _) _).alloc (by simp; try omega) _
    have B0 : Blk w0 w.heap.size 29 #[.int .u8 k, .slice A1 n1 c1, .slice A2 n2 c2, .int .u8 o, .bool i1, .bool p1, .slice A3 n3 c3, .bool i2, .bool p2, .slice A4 n4 c4] := by
      rw [hw0]
      exact (Blk.new w 29 #[.int .u8 k, .slice A1 n1 c1, .slice A2 n2 c2, .int .u8 o, .bool i1, .bool p1, .slice A3 n3 c3, .bool i2, .bool p2, .slice A4 n4 c4]).alloc (.cells #[.int .u8 k', .slice A1' n1' c1', .slice A2' n2' c2', .int .u8 o', .bool i1', .bool p1', .slice A3' n3' c3', .bool i2', .bool p2', .slice A4' n4' c4'] 29)
    have X0 : Hid (∀ W, Below w0.heap.size w0 W → ∀ kx u, (#[.int .u8 k, .slice A1 n1 c1, .slice A2 n2 c2, .int .u8 o, .bool i1, .bool p1, .slice A3 n3 c3, .bool i2, .bool p2, .slice A4 n4 c4] : Array Value)[kx]? = some u → W.cell? ⟨w.heap.size, kx, none⟩ = some u) := fun W hW kx u hk => cell_below hW ((B0.cell kx).trans hk) B0.lt
    have B1 : Blk w0 (w.heap.size + 1) 29 #[.int .u8 k', .slice A1' n1' c1', .slice A2' n2' c2', .int .u8 o', .bool i1', .bool p1', .slice A3' n3' c3', .bool i2', .bool p2', .slice A4' n4' c4'] := by
      rw [hw0]
      have h := Blk.new (w.alloc (.cells #[.int .u8 k, .slice A1 n1 c1, .slice A2 n2 c2, .int .u8 o, .bool i1, .bool p1, .slice A3 n3 c3, .bool i2, .bool p2, .slice A4 n4 c4] 29)) 29 #[.int .u8 k', .slice A1' n1' c1', .slice A2' n2' c2', .int .u8 o', .bool i1', .bool p1', .slice A3' n3' c3', .bool i2', .bool p2', .slice A4' n4' c4']
      simpa using h
    have X1 : Hid (∀ W, Below w0.heap.size w0 W → ∀ kx u, (#[.int .u8 k', .slice A1' n1' c1', .slice A2' n2' c2', .int .u8 o', .bool i1', .bool p1', .slice A3' n3' c3', .bool i2', .bool p2', .slice A4' n4' c4'] : Array Value)[kx]? = some u → W.cell? ⟨(w.heap.size + 1), kx, none⟩ = some u) := fun W hW kx u hk => cell_below hW ((B1.cell kx).trans hk) B1.lt
    have HR : Below w0.heap.size w0 w0 := Below.refl _ _
    clear B0 B1
    obtain ⟨_, ⟨_, ho8⟩, ⟨r1, r3, r4⟩, ⟨_, hk, e3, e4⟩, ⟨_, _, _, _, m3, _, m4, _⟩⟩ := (hs.old HB0.out).inv
    obtain ⟨_, ⟨_, ho8'⟩, ⟨r1', r3', r4'⟩, ⟨_, hk', e3', e4'⟩, ⟨_, _, _, _, m3', _, m4', _⟩⟩ := (hs'.old HB0.out).inv
    dsimp only at e3 e4 e3' e4' ho8 ho8' r3 r4 r3' r4'
    rw [fineT] at hf hf'
    simp only [Bool.and_eq_true, decide_eq_true_eq] at hf hf'
    obtain ⟨⟨f3, f4⟩, ff⟩ := hf
    obtain ⟨⟨f3', f4'⟩, ff'⟩ := hf'
    obtain ⟨db, hdb⟩ : ∃ b, b = (d == d') := ⟨_, rfl⟩
    obtain ⟨sr, hsr⟩ : ∃ b, b = sameR ⟨o, ⟨i1, p1, l1⟩, ⟨i2, p2, l2⟩⟩ ⟨o', ⟨i1', p1', l1'⟩, ⟨i2', p2', l2'⟩⟩ := ⟨_, rfl⟩
    obtain ⟨sk, hsk⟩ : ∃ b, b = sameTs ks ks' := ⟨_, rfl⟩
    have HM : Hid (sameT (.mk k d ⟨o, ⟨i1, p1, l1⟩, ⟨i2, p2, l2⟩⟩ ks) (.mk k' d' ⟨o', ⟨i1', p1', l1'⟩, ⟨i2', p2', l2'⟩⟩ ks') = (decide (k = k') && db && sr && sk)) := by show _ = _; rw [sameT_parts, hdb, hsr, hsk]
    have K1 : Hid (∀ W, Below w0.heap.size w0 W → Calls Tryz.prog 43 #[.slice A1 n1 c1, .slice A1' n1' c1'] W fun e w' => e = .returned (.bool db) ∧ Below W.heap.size W w') := fun W hW => by
      rw [hdb]
      refine (equal_any A1 A1' n1 c1 n1' c1' _ _ d d' W ((r1.old (by omega) hW).reads (by omega)) ((r1'.old (by omega) hW).reads (by omega))).mono ?_
      rintro e w' ⟨rfl, rfl⟩
      exact ⟨rfl, Below.refl _ _⟩
    have K2 : Hid (∀ W, Below w0.heap.size w0 W → Calls Tryz.prog 44 #[.agg #[.int .u8 o, .bool i1, .bool p1, .slice A3 n3 c3, .bool i2, .bool p2, .slice A4 n4 c4], .agg #[.int .u8 o', .bool i1', .bool p1', .slice A3' n3' c3', .bool i2', .bool p2', .slice A4' n4' c4']] W fun e w' => e = .returned (.bool sr) ∧ Below W.heap.size W w') := fun W hW => by
      rw [hsr]
      exact pSameRange ⟨o, ⟨i1, p1, l1⟩, ⟨i2, p2, l2⟩⟩ ⟨o', ⟨i1', p1', l1'⟩, ⟨i2', p2', l2'⟩⟩ W ⟨(r3.old (by omega) hW).reads (by omega), by omega, m3⟩ ⟨(r4.old (by omega) hW).reads (by omega), by omega, m4⟩ ⟨(r3'.old (by omega) hW).reads (by omega), by omega, m3'⟩ ⟨(r4'.old (by omega) hW).reads (by omega), by omega, m4'⟩
    have K3 : Hid (∀ W, Below w0.heap.size w0 W → Calls Tryz.prog 45 #[.slice A2 n2 c2, .slice A2' n2' c2', .func (.func 21) #[] #[]] W fun e w' => e = .returned (.bool sk) ∧ Below W.heap.size W w') := fun W hW => by
      rw [hsk]
      exact eqFuncT_any ks ks' ih A2 A2' n2 c2 n2' c2' S S' W (hs.old (next_below HB0.out hW)).rowT (hs'.old (next_below HB0.out hW)).rowT ff ff'
    clear hs hs' ih r1 r3 r4 r1' r3' r4' e3 e4 e3' e4' f3 f4 f3' f4' ff ff' hk hk' hsr hdb hsk m3 m4 m3' m4'
    go_enter Tryz.func21, Tryz.ntmps21
    go_upto_region 1 with fail
    rw [← hw0]
    clear hw0
    have x0_0 := X0.out _ HR 0 _ rfl
    have x0_1 := X0.out _ HR 1 _ rfl
    have x0_2 := X0.out _ HR 2 _ rfl
    have x0_3 := X0.out _ HR 3 _ rfl
    have x0_4 := X0.out _ HR 4 _ rfl
    have x0_5 := X0.out _ HR 5 _ rfl
    have x0_6 := X0.out _ HR 6 _ rfl
    have x0_7 := X0.out _ HR 7 _ rfl
    have x0_8 := X0.out _ HR 8 _ rfl
    have x0_9 := X0.out _ HR 9 _ rfl
    have x1_0 := X1.out _ HR 0 _ rfl
    have x1_1 := X1.out _ HR 1 _ rfl
    have x1_2 := X1.out _ HR 2 _ rfl
    have x1_3 := X1.out _ HR 3 _ rfl
    have x1_4 := X1.out _ HR 4 _ rfl
    have x1_5 := X1.out _ HR 5 _ rfl
    have x1_6 := X1.out _ HR 6 _ rfl
    have x1_7 := X1.out _ HR 7 _ rfl
    have x1_8 := X1.out _ HR 8 _ rfl
    have x1_9 := X1.out _ HR 9 _ rfl
    by_cases q1 : ¬ k = k'
    · have q1B : ((k : Int) == (k' : Int)) = false := by rw [beq_eq_false_iff_ne]; omega
      have HN : Hid (decide (k = k') = false) := decide_eq_false q1
      clear q1
      go_wp2_with fail
      go_ret
      exact ⟨by rw [HM.out, HN.out]; rfl, HB0.out⟩
    have q1 : k = k' := Classical.not_not.1 q1
    subst q1
    have HE1 : Hid (decide (k = k) = true) := decide_eq_true rfl
    cases db <;> cases sr
    all_goals go_wp2_with first | (go_at_call 43; (with_reducible refine (K1.out _ (by assumption)).mono ?_); rintro e w1 ⟨rfl, hb⟩; have hB := next_below (by assumption) hb; have x0_0 := X0.out _ hB 0 _ rfl; have x0_1 := X0.out _ hB 1 _ rfl; have x0_2 := X0.out _ hB 2 _ rfl; have x0_3 := X0.out _ hB 3 _ rfl; have x0_4 := X0.out _ hB 4 _ rfl; have x0_5 := X0.out _ hB 5 _ rfl; have x0_6 := X0.out _ hB 6 _ rfl; have x0_7 := X0.out _ hB 7 _ rfl; have x0_8 := X0.out _ hB 8 _ rfl; have x0_9 := X0.out _ hB 9 _ rfl; have x1_0 := X1.out _ hB 0 _ rfl; have x1_1 := X1.out _ hB 1 _ rfl; have x1_2 := X1.out _ hB 2 _ rfl; have x1_3 := X1.out _ hB 3 _ rfl; have x1_4 := X1.out _ hB 4 _ rfl; have x1_5 := X1.out _ hB 5 _ rfl; have x1_6 := X1.out _ hB 6 _ rfl; have x1_7 := X1.out _ hB 7 _ rfl; have x1_8 := X1.out _ hB 8 _ rfl; have x1_9 := X1.out _ hB 9 _ rfl; clear hb) | (go_at_call 44; (with_reducible refine (K2.out _ (by assumption)).mono ?_); rintro e w1 ⟨rfl, hb⟩; have hB := next_below (by assumption) hb; have x0_0 := X0.out _ hB 0 _ rfl; have x0_1 := X0.out _ hB 1 _ rfl; have x0_2 := X0.out _ hB 2 _ rfl; have x0_3 := X0.out _ hB 3 _ rfl; have x0_4 := X0.out _ hB 4 _ rfl; have x0_5 := X0.out _ hB 5 _ rfl; have x0_6 := X0.out _ hB 6 _ rfl; have x0_7 := X0.out _ hB 7 _ rfl; have x0_8 := X0.out _ hB 8 _ rfl; have x0_9 := X0.out _ hB 9 _ rfl; have x1_0 := X1.out _ hB 0 _ rfl; have x1_1 := X1.out _ hB 1 _ rfl; have x1_2 := X1.out _ hB 2 _ rfl; have x1_3 := X1.out _ hB 3 _ rfl; have x1_4 := X1.out _ hB 4 _ rfl; have x1_5 := X1.out _ hB 5 _ rfl; have x1_6 := X1.out _ hB 6 _ rfl; have x1_7 := X1.out _ hB 7 _ rfl; have x1_8 := X1.out _ hB 8 _ rfl; have x1_9 := X1.out _ hB 9 _ rfl; clear hb) | (go_at_call 45; (with_reducible refine (K3.out _ (by assumption)).mono ?_); rintro e w1 ⟨rfl, hb⟩; have hB := next_below (by assumption) hb; have x0_0 := X0.out _ hB 0 _ rfl; have x0_1 := X0.out _ hB 1 _ rfl; have x0_2 := X0.out _ hB 2 _ rfl; have x0_3 := X0.out _ hB 3 _ rfl; have x0_4 := X0.out _ hB 4 _ rfl; have x0_5 := X0.out _ hB 5 _ rfl; have x0_6 := X0.out _ hB 6 _ rfl; have x0_7 := X0.out _ hB 7 _ rfl; have x0_8 := X0.out _ hB 8 _ rfl; have x0_9 := X0.out _ hB 9 _ rfl; have x1_0 := X1.out _ hB 0 _ rfl; have x1_1 := X1.out _ hB 1 _ rfl; have x1_2 := X1.out _ hB 2 _ rfl; have x1_3 := X1.out _ hB 3 _ rfl; have x1_4 := X1.out _ hB 4 _ rfl; have x1_5 := X1.out _ hB 5 _ rfl; have x1_6 := X1.out _ hB 6 _ rfl; have x1_7 := X1.out _ hB 7 _ rfl; have x1_8 := X1.out _ hB 8 _ rfl; have x1_9 := X1.out _ hB 9 _ rfl; clear hb)
    all_goals go_ret
    all_goals exact ⟨by rw [HM.out, HE1.out]; rfl, next_below HB0.out (by assumption)⟩
end Go.Proofs.YtinlonpcakkfhaaGreatDoor
end
section
set_option maxRecDepth 100000
namespace Go.Proofs.YtinlonpcakkfhaaGreatDoor
open Go Go.Proofs Go.RowKit _root_.Ord11 Go.Proofs.YtinlonpcakkfhaaGreatDoor.Ord11 Num9
theorem bytesOf_reads {w : World} {B n c : Nat} {A : Option Addr} {l : List UInt8} (h : Reads w B 1 A n (Lib.byteCells l)) : (Extern.Bytes.bytesOf (.slice A n c)).run Tryz.prog w = .ok ⟨l.toArray⟩ w := by
  have hl : l.length = n := by have := h.1; simpa [Lib.byteCells_length] using this
  cases A with
  | none =>
    have h0 : n = 0 := by
      rcases Nat.eq_zero_or_pos n with h0 | h0
      · exact h0
      · obtain ⟨ad, e, _⟩ := h.2 h0
        cases e
    subst h0
    obtain rfl : l = [] := List.eq_nil_of_length_eq_zero hl
    rfl
  | some a =>
    have hxs : Lib.bytesOf (l.map fun u => (u.toNat : Int)) = l := by
      unfold Lib.bytesOf
      rw [List.map_map]
      conv => rhs; rw [← List.map_id l]
      apply List.map_congr_left
      intro u _
      simp
    have h2 := Lib.run_loadBytesX (P := Tryz.prog) w (l.map fun u => (u.toNat : Int)) a .empty (fun j x hj => by
      rw [List.getElem?_map, Option.map_eq_some_iff] at hj
      obtain ⟨u, hu, rfl⟩ := hj
      have hj' : j < n := by
        rw [← hl]
        exact (List.getElem?_eq_some_iff.1 hu).1
      obtain ⟨ad, v, e, _, hv, hcell⟩ := h.at_ hj'
      injection e with e
      subst e
      rw [hcell]
      simp [Lib.byteCells, hu] at hv
      rw [hv])
    rw [List.length_map, hl, hxs] at h2
    show (Extern.Bytes.loadBytes a n .empty).run Tryz.prog w = _
    rw [h2]
    simp [ByteArray.empty, ByteArray.emptyWithCapacity]
    rfl
theorem compare_three : ∀ (a b : List UInt8), Lib.compareBytes a b = Go.Proofs.YtinlonpcakkfhaaGreatDoor.Ord11.three (Op.bytesLess a b) (Op.bytesLess b a)
  | [], [] => rfl
  | [], _ :: _ => rfl
  | _ :: _, [] => rfl
  | x :: a, y :: b => by
    unfold Lib.compareBytes Op.bytesLess
    rw [compare_three a b]
    by_cases h1 : x < y
    · have h2 : ¬ y < x := by rw [UInt8.lt_iff_toNat_lt] at h1 ⊢; omega
      have h3 : (x == y) = false := by rw [beq_eq_false_iff_ne]; rintro rfl; exact h2 h1
      have h4 : (y == x) = false := by rw [beq_eq_false_iff_ne]; rintro rfl; exact h2 h1
      simp [h1, h2, h3, h4, Go.Proofs.YtinlonpcakkfhaaGreatDoor.Ord11.three]
    · by_cases h2 : y < x
      · have h3 : (x == y) = false := by rw [beq_eq_false_iff_ne]; rintro rfl; exact h1 h2
        have h4 : (y == x) = false := by rw [beq_eq_false_iff_ne]; rintro rfl; exact h1 h2
        simp [h1, h2, h3, h4, Go.Proofs.YtinlonpcakkfhaaGreatDoor.Ord11.three]
      · have h3 : x = y := by
          apply UInt8.toNat_inj.1
          rw [UInt8.lt_iff_toNat_lt] at h1 h2; omega
        subst h3
        simp [h1, Go.Proofs.YtinlonpcakkfhaaGreatDoor.Ord11.three]
theorem cmpB_run {w : World} {B B' n c n' c' : Nat} {A A' : Option Addr} {l l' : List UInt8} (h : Reads w B 1 A n (Lib.byteCells l)) (h' : Reads w B' 1 A' n' (Lib.byteCells l')) :
    (callFunc 132 #[.slice A n c, .slice A' n' c']).run Tryz.prog w = .ok (.value (.int .i64 (Go.Proofs.YtinlonpcakkfhaaGreatDoor.Ord11.three (Op.bytesLess l l') (Op.bytesLess l' l)))) w := by
  rw [run_callFunc_extern Tryz.func132 (by kernel_rfl) (by kernel_rfl) (by kernel_rfl) (e := Extern.BytealgCompare.compare) (by kernel_rfl)]
  change (Sem.run Tryz.prog (do pure (goInt (Extern.BytealgCompare.cmp (← Extern.Bytes.bytesOf (.slice A n c)) (← Extern.Bytes.bytesOf (.slice A' n' c'))))) w).andThen _ = _
  simp only [Sem.run_bind, Sem.run_pure, bytesOf_reads h, bytesOf_reads h', Result.andThen]
  rw [Lib.cmp_eq, ← compare_three]
  rfl
theorem cmpBytes_any {w : World} {B B' n c n' c' : Nat} {A A' : Option Addr} {l l' : List UInt8} (h : Reads w B 1 A n (Lib.byteCells l)) (h' : Reads w B' 1 A' n' (Lib.byteCells l')) :
    Calls Tryz.prog 114 #[.slice A n c, .slice A' n' c'] w fun e w' => e = .returned (.int .i64 (textC l l').1) ∧ w' = w := by
  have hr := cmpB_run (c := c) (c' := c') h h'
  show Calls _ _ _ _ fun e w' => e = .returned (.int .i64 (Go.Proofs.YtinlonpcakkfhaaGreatDoor.Ord11.three (Op.bytesLess l l') (Op.bytesLess l' l))) ∧ w' = w
  generalize Go.Proofs.YtinlonpcakkfhaaGreatDoor.Ord11.three (Op.bytesLess l l') (Op.bytesLess l' l) = i at hr
  go_enter Tryz.func114, Tryz.ntmps114
  go_wp2
  go_ret
  exact ⟨rfl, rfl⟩
theorem isNaN_i64 (x : Nat) (w : World) : Calls Tryz.prog 137 #[.int .i64 x] w fun e w' => e = .returned (.bool false) ∧ w' = w := by
  go_enter Tryz.func137, Tryz.ntmps137
  go_wp2
  go_ret
  exact ⟨by simp, rfl⟩
theorem isNaN_int (x : Nat) (w : World) : Calls Tryz.prog 142 #[.int .i64 x] w fun e w' => e = .returned (.bool false) ∧ w' = w := by
  go_enter Tryz.func142, Tryz.ntmps142
  go_wp2
  go_ret
  exact ⟨by simp, rfl⟩
theorem isNaN_f64 (x : Nat) (hx : (key x).isSome = true) (w : World) : Calls Tryz.prog 133 #[.float .f64 x] w fun e w' => e = .returned (.bool false) ∧ w' = w := by
  have h1 : FloatKind.f64.format.order x x = if (key x).isSome then some .eq else none := order_self x
  rw [if_pos hx] at h1
  go_enter Tryz.func133, Tryz.ntmps133
  go_wp2
  go_ret
  exact ⟨rfl, rfl⟩
theorem cmp_i64 (x y : Nat) (w : World) : Calls Tryz.prog 120 #[.int .i64 x, .int .i64 y] w fun e w' => e = .returned (.int .i64 (Go.Proofs.YtinlonpcakkfhaaGreatDoor.Ord11.three (decide (x < y)) (decide (y < x)))) ∧ w' = w := by
  have K : Hid (∀ x : Nat, Calls Tryz.prog 137 #[.int .i64 x] w fun e w' => e = .returned (.bool false) ∧ w' = w) := fun x => isNaN_i64 x w
  by_cases h1 : x < y
  · have f1 : decide (x < y) = true := decide_eq_true h1
    rw [f1]
    go_enter Tryz.func120, Tryz.ntmps120
    go_wp2_with (go_at_call 137; refine (K.out _).mono ?_; rintro e w1 ⟨rfl, rfl⟩)
    go_ret
    exact ⟨rfl, rfl⟩
  · have f1 : decide (x < y) = false := decide_eq_false h1
    rw [f1]
    obtain ⟨u, hu⟩ : ∃ u, decide (y < x) = u := ⟨_, rfl⟩
    have H1 := hid h1
    clear h1
    rw [hu]
    cases u
    all_goals go_enter Tryz.func120, Tryz.ntmps120
    all_goals go_wp2_with (go_at_call 137; refine (K.out _).mono ?_; rintro e w1 ⟨rfl, rfl⟩)
    all_goals go_ret
    all_goals exact ⟨rfl, rfl⟩
theorem cmp_int (x y : Nat) (w : World) : Calls Tryz.prog 124 #[.int .i64 x, .int .i64 y] w fun e w' => e = .returned (.int .i64 (Go.Proofs.YtinlonpcakkfhaaGreatDoor.Ord11.three (decide (x < y)) (decide (y < x)))) ∧ w' = w := by
  have K : Hid (∀ x : Nat, Calls Tryz.prog 142 #[.int .i64 x] w fun e w' => e = .returned (.bool false) ∧ w' = w) := fun x => isNaN_int x w
  by_cases h1 : x < y
  · have f1 : decide (x < y) = true := decide_eq_true h1
    rw [f1]
    go_enter Tryz.func124, Tryz.ntmps124
    go_wp2_with (go_at_call 142; refine (K.out _).mono ?_; rintro e w1 ⟨rfl, rfl⟩)
    go_ret
    exact ⟨rfl, rfl⟩
  · have f1 : decide (x < y) = false := decide_eq_false h1
    rw [f1]
    obtain ⟨u, hu⟩ : ∃ u, decide (y < x) = u := ⟨_, rfl⟩
    have H1 := hid h1
    clear h1
    rw [hu]
    cases u
    all_goals go_enter Tryz.func124, Tryz.ntmps124
    all_goals go_wp2_with (go_at_call 142; refine (K.out _).mono ?_; rintro e w1 ⟨rfl, rfl⟩)
    all_goals go_ret
    all_goals exact ⟨rfl, rfl⟩
theorem cmp_f64 (x y : Nat) (hx : (key x).isSome = true) (hy : (key y).isSome = true) (w : World) : Calls Tryz.prog 116 #[.float .f64 x, .float .f64 y] w fun e w' => e = .returned (.int .i64 (cmpI (Ieee.double.order x y))) ∧ w' = w := by
  have K1 : Hid (Calls Tryz.prog 133 #[.float .f64 x] w fun e w' => e = .returned (.bool false) ∧ w' = w) := isNaN_f64 x hx w
  have K2 : Hid (Calls Tryz.prog 133 #[.float .f64 y] w fun e w' => e = .returned (.bool false) ∧ w' = w) := isNaN_f64 y hy w
  have h : Hid (Ieee.double.order x y = FloatKind.f64.format.order x y) := rfl
  have hs : (Ieee.double.order x y).isSome = true := by
    rw [order_key]
    obtain ⟨a, ha⟩ := Option.isSome_iff_exists.1 hx
    obtain ⟨b, hb⟩ := Option.isSome_iff_exists.1 hy
    rw [ha, hb]; rfl
  rw [h.out] at hs ⊢
  clear hx hy
  rcases ho : FloatKind.f64.format.order x y with _ | o
  · rw [ho] at hs; cases hs
  · clear hs
    cases o
    all_goals go_enter Tryz.func116, Tryz.ntmps116
    all_goals go_wp2_with (go_at_call 133; (first | (with_reducible refine K1.out.mono ?_) | (with_reducible refine K2.out.mono ?_)); rintro e w1 ⟨rfl, rfl⟩)
    all_goals go_ret
    all_goals exact ⟨rfl, rfl⟩
def TrimEnd (B : Nat) (X : List UInt8) (w : World) (e : Ending) (w' : World) : Prop := ∃ A n c, e = .returned (.slice A n c) ∧ SlAt w B A n c X ∧ w' = w
set_option maxHeartbeats 4000000 in
theorem trimByte_any (A : Option Addr) (n c B : Nat) (l : List UInt8) (w : World) (h : SlAt w B A n c l) :
    Calls Tryz.prog 138 #[.slice A n c, .int .u8 0] w fun e w' => TrimEnd B (Go.Proofs.YtinlonpcakkfhaaGreatDoor.Ord11.bare l) w e w' := by
  obtain ⟨X, hX⟩ : ∃ X, X = Go.Proofs.YtinlonpcakkfhaaGreatDoor.Ord11.bare l := ⟨_, rfl⟩
  rw [← hX]
  have HX := hid hX
  have H0 := hid h
  clear hX h
  go_enter Tryz.func138, Tryz.ntmps138
  go_wp2_with fail
  go_loop [0] (fun a => ∃ (A' : Option Addr) (n' c' : Nat) (l' : List UInt8), a = .slice A' n' c' ∧ Hid (SlAt w B A' n' c' l' ∧ X = Go.Proofs.YtinlonpcakkfhaaGreatDoor.Ord11.bare l')) (fun a => match a with | .slice _ m _ => m | _ => 0)
  case atStart => exact ⟨A, n, c, l, rfl, H0.out, HX.out⟩
  case round =>
    obtain ⟨A', n', c', l', rfl, hI⟩ := hrel
    have hr := hI.out.1.rd
    have hfit := hI.out.1.fit
    have hcap := hI.out.1.cap
    have hlen := hI.out.1.len
    by_cases hn : 0 < n'
    · obtain ⟨ad, y, rfl, hcell, hd, _⟩ := dbyte hr hn
      have hcell : w.cell? ad = some (.int .u8 y.toNat) := by simpa [Addr.add] using hcell
      rw [List.drop_zero] at hd
      by_cases hy : y.toNat = 0
      · have hyB : ((y.toNat : Int) == 0) = true := by rw [beq_iff_eq]; omega
        have HN : Hid (X = Go.Proofs.YtinlonpcakkfhaaGreatDoor.Ord11.bare (l'.drop 1)) := by
          show _ = _
          have hy0 : y = 0 := UInt8.toNat_inj.1 hy
          rw [hI.out.2, hd]
          conv => lhs; unfold Go.Proofs.YtinlonpcakkfhaaGreatDoor.Ord11.bare
          rw [List.dropWhile_cons, if_pos (by rw [hy0]; rfl)]
          rfl
        have hcut := hr.cut (k := 1) (cap := c') (by omega) hcap
        rw [Nat.mul_one] at hcut
        have e1 : (Lib.byteCells l').drop 1 = Lib.byteCells (l'.drop 1) := by simp [Lib.byteCells, List.map_drop]
        rw [e1] at hcut
        have HC := hid hcut
        clear hcut e1 hd hlen
        by_cases hc1 : c' = 1
        · subst hc1
          rw [if_pos rfl] at HC
          rw [show n' - 1 = 0 by omega] at HC
          go_wp2_with fail
          exact ⟨⟨_, _, _, l'.drop 1, rfl, ⟨HC.out, by omega, by omega⟩, HN.out⟩, by simp <;> omega⟩
        · rw [if_neg hc1] at HC
          go_wp2_with fail
          exact ⟨⟨_, _, _, l'.drop 1, rfl, ⟨HC.out, by omega, by omega⟩, HN.out⟩, by simp <;> omega⟩
      · have hyB : ((y.toNat : Int) == 0) = false := by rw [beq_eq_false_iff_ne]; omega
        have HN : Hid (X = l') := by
          show _ = _
          rw [hI.out.2, hd]
          unfold Go.Proofs.YtinlonpcakkfhaaGreatDoor.Ord11.bare
          rw [List.dropWhile_cons, if_neg (by rw [beq_iff_eq]; intro e; rw [e] at hy; exact hy rfl)]
        clear hd hlen
        go_wp2_with fail
        go_ret
        exact ⟨_, _, _, rfl, by rw [HN.out]; exact hI.out.1, rfl⟩
    · obtain rfl : n' = 0 := by omega
      have h0 : l' = [] := List.eq_nil_of_length_eq_zero hlen
      have HN : Hid (X = []) := by show _ = _; rw [hI.out.2, h0]; rfl
      go_wp2_with fail
      go_ret
      exact ⟨_, _, _, rfl, by rw [HN.out]; exact ⟨Reads.none_, by omega, by omega⟩, rfl⟩
theorem trimLeft_any (A : Option Addr) (n c B : Nat) (l : List UInt8) (w : World) (h : SlAt w B A n c l) :
    Calls Tryz.prog 123 #[.slice A n c, .string ⟨#[0]⟩] w fun e w' => TrimEnd B (Go.Proofs.YtinlonpcakkfhaaGreatDoor.Ord11.bare l) w e w' := by
  have HT := hid (trimByte_any A n c B l w h)
  have hlen := h.len
  by_cases hn : 0 < n
  · clear hlen h
    go_enter Tryz.func123, Tryz.ntmps123
    go_wp2_with (go_at_call 138; refine HT.out.mono ?_; rintro e w1 ⟨A', n', c', rfl, h2, rfl⟩)
    go_ret
    exact ⟨_, _, _, rfl, h2, rfl⟩
  · obtain rfl : n = 0 := by omega
    have h0 : l = [] := List.eq_nil_of_length_eq_zero hlen
    subst h0
    clear hlen h
    go_enter Tryz.func123, Tryz.ntmps123
    go_wp2
    go_ret
    exact ⟨_, _, _, rfl, ⟨Reads.none_, by omega, by omega⟩, rfl⟩
end Go.Proofs.YtinlonpcakkfhaaGreatDoor
end
section
namespace Go.Proofs.YtinlonpcakkfhaaGreatDoor
open Go Go.Proofs Go.RowKit Num9
namespace Num9
open Ieee
theorem rnd_le (A B : Nat) (p : Int) : rnd A B p ≤ 2047 * 2 ^ 52 := by
  unfold rnd Format.nearest
  split
  · show (0 : Nat) ≤ _; omega
  · show double.word false _ ≤ _
    unfold Format.word
    simp only [Bool.false_eq_true, if_false, inf52]
    omega
theorem quo_le {n t q : Nat} (hn : n < 2 ^ 53) (h0 : 0 < t) (ht : t < 2 ^ 53) (h : double.div (conv n) (conv t) = some q) : q ≤ 2047 * 2 ^ 52 := by
  rcases Nat.eq_zero_or_pos n with rfl | hp
  · rw [quo_zero h0 ht] at h
    injection h with h; omega
  · rw [quo_eq hp hn h0 ht] at h
    injection h with h
    rw [← h]; exact rnd_le _ _ _
theorem neg_small {q : Nat} (h : q < 2 ^ 63) : Op.negFloat .f64 q = q + 2 ^ 63 := by
  show q ^^^ 2 ^ 63 = _
  have e : 2 ^ 63 * 1 + q = 2 ^ 63 * 1 ||| q := Nat.two_pow_add_eq_or_of_lt h 1
  rw [Nat.mul_one] at e
  rw [Nat.add_comm, e]
  apply Nat.eq_of_testBit_eq
  intro i
  rw [Nat.testBit_xor, Nat.testBit_or, Nat.testBit_two_pow]
  by_cases hi : 63 = i
  · subst hi; rw [Nat.testBit_lt_two_pow h]; simp
  · simp [hi]
end Num9
end Go.Proofs.YtinlonpcakkfhaaGreatDoor
end
section
namespace Go.Proofs.YtinlonpcakkfhaaGreatDoor
open Go
namespace Num9
open Ieee
theorem log2_shift {n : Nat} (h0 : 0 < n) (K : Nat) : (n * 2 ^ K).log2 = n.log2 + K := by
  apply log2_eq
  · rw [Nat.pow_add]; exact Nat.mul_le_mul_right _ (Nat.log2_self_le (by omega))
  · rw [show n.log2 + K + 1 = n.log2 + 1 + K by omega, Nat.pow_add]
    exact Nat.mul_lt_mul_of_pos_right Nat.lt_log2_self (Nat.pow_pos (by decide))
theorem cut_exact (x D : Nat) (h0 : 0 < x) : Toward.even.cut false (x * 2 ^ D) D = x := by
  unfold Toward.cut
  have h : min D ((x * 2 ^ D).log2 + 2) = D := by rw [log2_shift h0]; omega
  simp only [h, Nat.one_shiftLeft]
  rw [Nat.mul_div_cancel _ (Nat.pow_pos (by decide)), Nat.mul_mod_left]
  have h2 : decide (2 ^ D < 2 * 0) = false := by simp
  have h3 : (2 ^ D == 2 * 0) = false := by
    rw [beq_eq_false_iff_ne]
    have := Nat.pow_pos (n := D) (show 0 < 2 by decide); omega
  rw [h2, h3]; rfl
theorem near_exact {n : Nat} (h0 : 0 < n) (h : n < 2 ^ 53) (K : Nat) : double.nearest false (n * 2 ^ K) (-(K : Int)) = conv n := by
  rw [conv_eq h0 h]
  have hl := log2_lt h0 h
  obtain ⟨hb1, hb2⟩ := norm_bounds h0 h
  have hp := Nat.pow_pos (n := K) (show 0 < 2 by decide)
  have hm : n * 2 ^ K ≠ 0 := Nat.mul_ne_zero (by omega) (by omega)
  unfold Format.nearest
  rw [if_neg hm]
  simp only [least, bin52, inf52, frac52, log2_shift h0]
  have e1 : max (-(K : Int) + ((n.log2 + K : Nat) : Int) - ((52 : Nat) : Int)) (-1074) = (n.log2 : Int) - 52 := by omega
  rw [e1]
  have e4 : ((n.log2 : Int) - 52 - -1074).toNat = n.log2 + 1022 := by omega
  rw [e4]
  have hc : Toward.even.cut false ((n * 2 ^ K) <<< (-(K : Int) - ((n.log2 : Int) - 52)).toNat) (((n.log2 : Int) - 52) - -(K : Int)).toNat = norm n := by
    rcases Nat.le_total K (52 - n.log2) with hK | hK
    · have e2 : (-(K : Int) - ((n.log2 : Int) - 52)).toNat = 52 - n.log2 - K := by omega
      have e3 : (((n.log2 : Int) - 52) - -(K : Int)).toNat = 0 := by omega
      rw [e2, e3, cut_zero, Nat.shiftLeft_eq, Nat.mul_assoc, ← Nat.pow_add]
      unfold norm
      congr 2; omega
    · have e2 : (-(K : Int) - ((n.log2 : Int) - 52)).toNat = 0 := by omega
      have e3 : (((n.log2 : Int) - 52) - -(K : Int)).toNat = K - (52 - n.log2) := by omega
      rw [e2, e3, Nat.shiftLeft_zero]
      have e5 : n * 2 ^ K = norm n * 2 ^ (K - (52 - n.log2)) := by
        unfold norm
        rw [Nat.mul_assoc, ← Nat.pow_add]
        congr 2; omega
      rw [e5]
      exact cut_exact _ _ (by omega)
  rw [hc]
  show double.word false (min ((n.log2 + 1022) * 2 ^ 52 + norm n) _) = _
  unfold Format.word
  simp only [Bool.false_eq_true, if_false]
  omega
theorem near_zero (p : Int) : double.nearest false 0 p = conv 0 := by
  unfold conv Format.nearest
  rw [if_pos rfl, if_pos rfl]
theorem read_at {n : Nat} (h : n < 2 ^ 53) : ∃ K : Nat, double.read (conv n) = .number false (n * 2 ^ K) (-(K : Int)) := by
  rcases Nat.eq_zero_or_pos n with rfl | h0
  · have h : double.read (conv 0) = .number false 0 (-1074) := by rw [conv_zero]; decide
    obtain ⟨K, hK⟩ : ∃ K : Nat, (-1074 : Int) = -(K : Int) := ⟨1074, rfl⟩
    exact ⟨K, by rw [h, Nat.zero_mul, hK]⟩
  · refine ⟨52 - n.log2, ?_⟩
    rw [read_conv h0 h]
    have := log2_lt h0 h
    unfold norm
    congr 1; omega
theorem mul_conv {a b : Nat} (ha : a < 2 ^ 53) (hb : b < 2 ^ 53) (h : a * b < 2 ^ 53) : double.mul (conv a) (conv b) = some (conv (a * b)) := by
  obtain ⟨K, hK⟩ := read_at ha
  obtain ⟨J, hJ⟩ := read_at hb
  unfold Format.mul
  rw [hK, hJ]
  simp only [Datum.product, Option.map_some, Option.some.injEq, Format.write]
  show double.nearest (false ^^ false) _ _ = _
  have e : a * 2 ^ K * (b * 2 ^ J) = a * b * 2 ^ (K + J) := by rw [Nat.pow_add]; simp only [Nat.mul_assoc, Nat.mul_left_comm, Nat.mul_comm]
  have e2 : -(K : Int) + -(J : Int) = -((K + J : Nat) : Int) := by omega
  rw [e, e2]
  rcases Nat.eq_zero_or_pos (a * b) with h0 | h0
  · rw [h0, Nat.zero_mul]; exact near_zero _
  · exact near_exact h0 h _
theorem add_conv {a b : Nat} (ha : a < 2 ^ 53) (hb : b < 2 ^ 53) (h : a + b < 2 ^ 53) : double.add (conv a) (conv b) = some (conv (a + b)) := by
  obtain ⟨K, hK⟩ := read_at ha
  obtain ⟨J, hJ⟩ := read_at hb
  unfold Format.add
  rw [hK, hJ]
  obtain ⟨M, hM⟩ : ∃ M, M = max K J := ⟨_, rfl⟩
  have e0 : min (-(K : Int)) (-(J : Int)) = -(M : Int) := by omega
  have e1 : (-(K : Int) - -(M : Int)).toNat = M - K := by omega
  have e2 : (-(J : Int) - -(M : Int)).toNat = M - J := by omega
  have e3 : a * 2 ^ K * 2 ^ (M - K) = a * 2 ^ M := by rw [Nat.mul_assoc, ← Nat.pow_add]; congr 2; omega
  have e4 : b * 2 ^ J * 2 ^ (M - J) = b * 2 ^ M := by rw [Nat.mul_assoc, ← Nat.pow_add]; congr 2; omega
  have e5 : signed false (a * 2 ^ K) (M - K) + signed false (b * 2 ^ J) (M - J) = (((a + b) * 2 ^ M : Nat) : Int) := by
    unfold signed
    simp only [Bool.false_eq_true, if_false, Nat.shiftLeft_eq, e3, e4]
    rw [Nat.add_mul]; omega
  simp only [Datum.sum, e0, e1, e2, e5, Option.map_some, Option.some.injEq, Format.write]
  have e6 : (if (((a + b) * 2 ^ M : Nat) : Int) = 0 then false && false else decide ((((a + b) * 2 ^ M : Nat) : Int) < 0)) = false := by
    split
    · rfl
    · exact decide_eq_false (by omega)
  rw [e6, Int.natAbs_natCast]
  rcases Nat.eq_zero_or_pos (a + b) with h0 | h0
  · rw [h0, Nat.zero_mul]; exact near_zero _
  · exact near_exact h0 h _
def foldD (n : Nat) (l : List UInt8) : Nat := l.foldl (fun n c => 10 * n + (c.toNat - 48)) n
def areD (l : List UInt8) : Bool := l.all fun c => decide (48 ≤ c.toNat ∧ c.toNat ≤ 57)
theorem areD_cons (c : UInt8) (l : List UInt8) : areD (c :: l) = (decide (48 ≤ c.toNat ∧ c.toNat ≤ 57) && areD l) := by unfold areD; rw [List.all_cons]
theorem foldD_cons (n : Nat) (c : UInt8) (l : List UInt8) : foldD n (c :: l) = foldD (10 * n + (c.toNat - 48)) l := by unfold foldD; rw [List.foldl_cons]
theorem foldD_app (n : Nat) (l r : List UInt8) : foldD n (l ++ r) = foldD (foldD n l) r := by unfold foldD; rw [List.foldl_append]
theorem foldD_lt (l : List UInt8) : ∀ (n k : Nat), areD l = true → n < 10 ^ k → foldD n l < 10 ^ (k + l.length) := by
  induction l with
  | nil => intro n k _ h; exact h
  | cons c l ih =>
    intro n k hd h
    rw [areD_cons, Bool.and_eq_true, decide_eq_true_eq] at hd
    rw [foldD_cons, List.length_cons, show k + (l.length + 1) = k + 1 + l.length by omega]
    refine ih _ (k + 1) hd.2 ?_
    rw [Nat.pow_succ]; omega
theorem scan_part : ∀ (a t : List UInt8) (f : Bool) (n sc ct st : Nat), ct ≤ 15 → (st = 0 ∧ (∀ c ∈ a, c.toNat ≠ 46) ∨ 0 < st) →
    scan (a ++ t) f n sc ct st = if areD a = true ∧ ct + a.length ≤ 15 then scan t (f && a.isEmpty) (foldD n a) (sc + st * a.length) (ct + a.length) st else none
  | [], t, f, n, sc, ct, st, h, _ => by
    rw [if_pos ⟨rfl, by simpa using h⟩]
    simp [foldD]
  | c :: a, t, f, n, sc, ct, st, h, hs => by
    rw [List.cons_append]
    by_cases hc : c.toNat = 46
    · have hst : 0 < st := by
        rcases hs with ⟨_, h1⟩ | h1
        · exact absurd hc (h1 c (List.mem_cons_self))
        · exact h1
      rw [scan, if_pos hc, if_pos (.inl hst), if_neg]
      rw [areD_cons, Bool.and_eq_true, decide_eq_true_eq]
      omega
    · by_cases hd : c.toNat < 48 ∨ 57 < c.toNat
      · rw [scan, if_neg hc, if_pos (by omega), if_neg]
        rw [areD_cons, Bool.and_eq_true, decide_eq_true_eq]
        omega
      · by_cases h15 : ct = 15
        · rw [scan, if_neg hc, if_pos (by omega), if_neg]
          rw [List.length_cons]; omega
        · rw [scan, if_neg hc, if_neg (by omega), scan_part a t _ _ _ _ _ (by omega) (by
            rcases hs with ⟨h0, h1⟩ | h1
            · exact .inl ⟨h0, fun x hx => h1 x (List.mem_cons_of_mem _ hx)⟩
            · exact .inr h1)]
          have e : (areD (c :: a) = true ∧ ct + (c :: a).length ≤ 15) ↔ (areD a = true ∧ ct + 1 + a.length ≤ 15) := by
            rw [areD_cons, Bool.and_eq_true, decide_eq_true_eq, List.length_cons]
            constructor
            · rintro ⟨⟨_, h1⟩, h2⟩; exact ⟨h1, by omega⟩
            · rintro ⟨h1, h2⟩; exact ⟨⟨by omega, h1⟩, by omega⟩
          rw [foldD_cons]
          by_cases hp : areD a = true ∧ ct + 1 + a.length ≤ 15
          · rw [if_pos hp, if_pos (e.2 hp)]
            simp only [List.isEmpty_cons, Bool.and_false, Bool.false_and, List.length_cons]
            rw [show sc + st + st * a.length = sc + st * (a.length + 1) by rw [Nat.mul_add]; omega, show ct + 1 + a.length = ct + (a.length + 1) by omega]
          · rw [if_neg hp, if_neg (fun h => hp (e.1 h))]
theorem digits_whole (s : Bool) (a : List UInt8) (h : ∀ c ∈ a, c.toNat ≠ 46) : digitsR s a = if a.length ≤ 15 ∧ areD a = true ∧ 0 < a.length then .val s (foldD 0 a) 0 else .none := by
  have hs := scan_part a [] true 0 0 0 0 (by omega) (.inl ⟨rfl, h⟩)
  rw [List.append_nil] at hs
  unfold digitsR
  rw [hs]
  by_cases hp : areD a = true ∧ 0 + a.length ≤ 15
  · rw [if_pos hp]
    simp only [scan, Nat.zero_mul, Nat.zero_add]
    by_cases h0 : a.length = 0
    · rw [if_pos h0, if_neg (by omega)]
    · rw [if_neg h0, if_pos ⟨by omega, hp.1, by omega⟩]
  · rw [if_neg hp]
    simp only
    rw [if_neg (fun h => hp ⟨h.2.1, by omega⟩)]
theorem digits_parts (s : Bool) (a b : List UInt8) (x : UInt8) (hx : x.toNat = 46) (h : ∀ c ∈ a, c.toNat ≠ 46) : digitsR s (a ++ x :: b) = if a.length + b.length ≤ 15 ∧ (areD a = true ∧ 0 < a.length) ∧ (areD b = true ∧ 0 < b.length) then .val s (foldD (foldD 0 a) b) b.length else .none := by
  have hs := scan_part a (x :: b) true 0 0 0 0 (by omega) (.inl ⟨rfl, h⟩)
  unfold digitsR
  rw [hs]
  by_cases hp : areD a = true ∧ 0 + a.length ≤ 15
  · rw [if_pos hp, scan, if_pos hx]
    by_cases h0 : a = []
    · subst h0
      rw [if_pos (.inr (.inl rfl)), if_neg (by simp)]
    · have hl : 0 < a.length := List.length_pos_iff.2 h0
      have hie : (true && a.isEmpty) = false := by cases a <;> simp_all
      by_cases hb : b = []
      · subst hb
        rw [if_pos (.inr (.inr rfl)), if_neg (by simp)]
      · have hbl : 0 < b.length := List.length_pos_iff.2 hb
        rw [if_neg (by
          rintro (h1 | h1 | h1)
          · omega
          · rw [hie] at h1; cases h1
          · exact hb h1)]
        have hs2 := scan_part b [] false (foldD 0 a) (0 + 0 * a.length) (0 + a.length) 1 (by omega) (.inr (by omega))
        rw [List.append_nil] at hs2
        rw [hs2]
        by_cases hq : areD b = true ∧ 0 + a.length + b.length ≤ 15
        · rw [if_pos hq, if_pos ⟨by omega, ⟨hp.1, hl⟩, hq.1, hbl⟩]
          simp only [scan]
          rw [if_neg (by omega)]
          congr 1; omega
        · rw [if_neg hq, if_neg (fun h => hq ⟨h.2.2.1, by omega⟩)]
  · rw [if_neg hp]
    simp only
    rw [if_neg (fun h => hp ⟨h.2.1.1, by omega⟩)]
theorem sign_on {q : Nat} (h : q < 2 ^ 63) : Op.negFloat .f64 q = q + 2 ^ 63 := neg_small h
end Num9
end Go.Proofs.YtinlonpcakkfhaaGreatDoor
end
section
namespace Go.Proofs.YtinlonpcakkfhaaGreatDoor
open Go Go.Proofs Go.RowKit Num9
theorem frombits_run (n : Nat) (w : World) : (callFunc 146 #[.int .u64 (n : Int)]).run Tryz.prog w = .ok (.value (.float .f64 n)) w := by
  rw [run_callFunc_extern Tryz.func146 (by kernel_rfl) (by kernel_rfl) (by kernel_rfl) (e := Extern.MathFloatBits.float64frombits) (by kernel_rfl)]
  rfl
theorem bits_run (n : Nat) (w : World) : (callFunc 158 #[.float .f64 n]).run Tryz.prog w = .ok (.value (.int .u64 (n : Int))) w := by
  rw [run_callFunc_extern Tryz.func158 (by kernel_rfl) (by kernel_rfl) (by kernel_rfl) (e := Extern.MathFloatBits.float64bits) (by kernel_rfl)]
  rfl
theorem nan_any (w : World) : Calls Tryz.prog 135 #[] w fun e w' => e = .returned (.float .f64 9221120237041090561) ∧ w' = w := by
  have h : (callFunc 146 #[.int .u64 9221120237041090561]).run Tryz.prog w = .ok (.value (.float .f64 9221120237041090561)) w := frombits_run 9221120237041090561 w
  go_enter Tryz.func135, Tryz.ntmps135
  go_wp2
  go_ret
  exact ⟨rfl, rfl⟩
theorem inf_pos (w : World) : Calls Tryz.prog 134 #[.int .i64 1] w fun e w' => e = .returned (.float .f64 0x7ff0000000000000) ∧ w' = w := by
  have h : (callFunc 146 #[.int .u64 9218868437227405312]).run Tryz.prog w = .ok (.value (.float .f64 9218868437227405312)) w := frombits_run 9218868437227405312 w
  go_enter Tryz.func134, Tryz.ntmps134
  go_wp2
  go_ret
  exact ⟨rfl, rfl⟩
theorem inf_neg (w : World) : Calls Tryz.prog 134 #[.int .i64 (-1)] w fun e w' => e = .returned (.float .f64 0xfff0000000000000) ∧ w' = w := by
  have h : (callFunc 146 #[.int .u64 18442240474082181120]).run Tryz.prog w = .ok (.value (.float .f64 18442240474082181120)) w := frombits_run 18442240474082181120 w
  go_enter Tryz.func134, Tryz.ntmps134
  go_wp2
  go_ret
  exact ⟨rfl, rfl⟩
theorem isNaN_any (x : Nat) (w : World) : Calls Tryz.prog 118 #[.float .f64 x] w fun e w' => e = .returned (.bool (key x).isNone) ∧ w' = w := by
  have h1 : FloatKind.f64.format.order x x = if (key x).isSome then some .eq else none := order_self x
  cases hk : key x with
  | none =>
    rw [hk] at h1
    have h1 : FloatKind.f64.format.order x x = none := h1
    go_enter Tryz.func118, Tryz.ntmps118
    go_wp2
    go_ret
    exact ⟨rfl, rfl⟩
  | some a =>
    rw [hk] at h1
    have h1 : FloatKind.f64.format.order x x = some .eq := h1
    go_enter Tryz.func118, Tryz.ntmps118
    go_wp2
    go_ret
    exact ⟨rfl, rfl⟩
theorem worth_any (c : UInt8) (h1 : 48 ≤ c.toNat) (h2 : c.toNat ≤ 57) (w : World) : Calls Tryz.prog 150 #[.int .u8 c.toNat] w fun e w' => e = .returned (.float .f64 (conv (c.toNat - 48))) ∧ w' = w := by
  obtain ⟨d, hd⟩ : ∃ d : Nat, d = c.toNat - 48 := ⟨_, rfl⟩
  have hw : IntKind.u8.wrap ((c.toNat : Int) - 48) = (d : Int) := by
    have : (c.toNat : Int) - 48 = (d : Int) := by omega
    rw [this]; exact IntWalk.u8_in _ (by omega)
  rw [← hd]
  go_enter Tryz.func150, Tryz.ntmps150
  go_wp2
  go_ret
  exact ⟨by rw [hd]; rfl, rfl⟩
theorem bits_sign (q : Nat) (hq : q < 2 ^ 63) : bits .or .u64 (bits .andNot .u64 (q : Int) 9223372036854775808) (bits .and .u64 13830554455654793216 9223372036854775808) = ((q + 2 ^ 63 : Nat) : Int) := by
  have e1 : bits .andNot .u64 (q : Int) 9223372036854775808 = (q : Int) := by
    have h := u64_andNot_nat q 9223372036854775808 (by omega) (by omega)
    have e : q &&& (18446744073709551615 - 9223372036854775808) = q := by
      show q &&& (2 ^ 63 - 1) = q
      exact Nat.and_two_pow_sub_one_of_lt_two_pow hq
    rw [e] at h
    exact h
  have e2 : bits .and .u64 13830554455654793216 9223372036854775808 = ((9223372036854775808 : Nat) : Int) := u64_and_nat 13830554455654793216 9223372036854775808 (by omega) (by omega)
  rw [e1, e2, u64_or_nat q 9223372036854775808 (by omega) (by omega)]
  have e : 2 ^ 63 * 1 + q = 2 ^ 63 * 1 ||| q := Nat.two_pow_add_eq_or_of_lt hq 1
  rw [Nat.mul_one] at e
  rw [Nat.or_comm]
  show ((2 ^ 63 ||| q : Nat) : Int) = _
  rw [← e, Nat.add_comm]
theorem copysign_any (q : Nat) (hq : q < 2 ^ 63) (w : World) : Calls Tryz.prog 151 #[.float .f64 q, .float .f64 13830554455654793216] w fun e w' => e = .returned (.float .f64 (Op.negFloat .f64 q)) ∧ w' = w := by
  have k1 := bits_run q w
  have k2 : (callFunc 158 #[.float .f64 13830554455654793216]).run Tryz.prog w = .ok (.value (.int .u64 13830554455654793216)) w := bits_run 13830554455654793216 w
  have k3 := frombits_run (q + 2 ^ 63) w
  rw [← bits_sign q hq] at k3
  rw [sign_on hq]
  go_enter Tryz.func151, Tryz.ntmps151
  go_wp2
  go_ret
  exact ⟨rfl, rfl⟩
namespace Num9
end Num9
end Go.Proofs.YtinlonpcakkfhaaGreatDoor
end
section
namespace Go.Proofs.YtinlonpcakkfhaaGreatDoor
open Go Go.Proofs Go.RowKit Num9
set_option maxHeartbeats 4000000 in
set_option maxRecDepth 100000 in
theorem areDigits_any (A : Option Addr) (n c B : Nat) (l : List UInt8) (w : World) (hr : Reads w B 1 A n (Lib.byteCells l)) (hn : n ≤ 1099511627776) :
    Calls Tryz.prog 149 #[.slice A n c] w fun e w' => e = .returned (.bool (areD l && decide (0 < l.length))) ∧ w' = w := by
  have hl : Hid (l.length = n) := by have := hr.1; show _ = _; simpa [Lib.byteCells_length] using this
  rw [show decide (0 < l.length) = decide (0 < n) by rw [hl.out]]
  obtain ⟨X, hX⟩ : ∃ X, X = (areD l && decide (0 < n)) := ⟨_, rfl⟩
  rw [← hX]
  have HX := hid hX
  clear hX
  go_enter Tryz.func149, Tryz.ntmps149
  go_wp2_with fail
  go_loop [7] (fun d => ∃ i : Nat, i ≤ n ∧ d = .int .i64 i ∧ Hid (areD l = areD (l.drop i))) (fun d => n - (intOf d).toNat)
  case atStart => exact ⟨0, Nat.zero_le _, rfl, by show _ = _; rw [List.drop_zero]⟩
  case round =>
    obtain ⟨i, hin, rfl, hI⟩ := hrel
    by_cases hi : i < n
    · obtain ⟨ad, y, rfl, hc, hd, _⟩ := reads_byteN hr hi
      have HD := hid hd
      clear hd
      have hy256 := y.toNat_lt
      by_cases h1 : y.toNat < 48
      · have h1B : decide ((y.toNat : Int) < 48) = true := decide_eq_true (by omega)
        have HN : Hid (X = false) := by
          show _ = _
          rw [HX.out, hI.out, HD.out, areD_cons, decide_eq_false (by omega)]; rfl
        go_wp2_with fail
        go_ret
        exact ⟨by rw [HN.out]; rfl, rfl⟩
      · have h1B : decide ((y.toNat : Int) < 48) = false := decide_eq_false (by omega)
        by_cases h2 : 57 < y.toNat
        · have h2B : decide (57 < (y.toNat : Int)) = true := decide_eq_true (by omega)
          have HN : Hid (X = false) := by
            show _ = _
            rw [HX.out, hI.out, HD.out, areD_cons, decide_eq_false (by omega)]; rfl
          go_wp2_with fail
          go_ret
          exact ⟨by rw [HN.out]; rfl, rfl⟩
        · have h2B : decide (57 < (y.toNat : Int)) = false := decide_eq_false (by omega)
          have HN : Hid (areD l = areD (l.drop (i + 1))) := by
            show _ = _
            rw [hI.out, HD.out, areD_cons, decide_eq_true (by omega), Bool.true_and]
          go_wp2_with fail
          exact ⟨⟨i + 1, by omega, by simp, HN⟩, by simp [intOf]; omega⟩
    · obtain rfl : i = n := by omega
      have HN : Hid (X = decide (0 < i)) := by
        show _ = _
        rw [HX.out, hI.out, List.drop_of_length_le (by rw [hl.out]; exact Nat.le_refl _)]; rfl
      by_cases h0 : 0 < i
      · go_wp2_with fail
        go_ret
        exact ⟨by rw [HN.out, decide_eq_true h0]; rfl, rfl⟩
      · obtain rfl : i = 0 := by omega
        go_wp2_with fail
        go_ret
        exact ⟨by rw [HN.out]; rfl, rfl⟩
end Go.Proofs.YtinlonpcakkfhaaGreatDoor
end
section
namespace Go.Proofs.YtinlonpcakkfhaaGreatDoor
open Go Go.Proofs Go.RowKit Num9
namespace Num9
theorem areD_at {l : List UInt8} {j : Nat} {y : UInt8} (h : areD l = true) (hj : l[j]? = some y) : 48 ≤ y.toNat ∧ y.toNat ≤ 57 := by
  unfold areD at h
  rw [List.all_eq_true] at h
  have := h y (List.mem_of_getElem? hj)
  exact of_decide_eq_true this
theorem areD_take {l : List UInt8} (h : areD l = true) (j : Nat) : areD (l.take j) = true := by
  unfold areD at h ⊢
  rw [List.all_eq_true] at h ⊢
  exact fun x hx => h x (List.mem_of_mem_take hx)
theorem fold_step {l : List UInt8} {j : Nat} {y : UInt8} (n : Nat) (hj : l[j]? = some y) : foldD n (l.take (j + 1)) = 10 * foldD n (l.take j) + (y.toNat - 48) := by
  rw [List.take_add_one, hj, foldD_app]
  rfl
def Parts (s : Bool) (r lw lb : List UInt8) (st : Bool) : Prop :=
  (st = false → lb = []) ∧ digitsR s r = if lw.length + lb.length ≤ 15 ∧ (areD lw = true ∧ 0 < lw.length) ∧ (st = true → areD lb = true ∧ 0 < lb.length) then .val s (foldD (foldD 0 lw) lb) lb.length else .none
theorem parts_whole (s : Bool) {r : List UInt8} (h : ∀ c ∈ r, c ≠ (46 : UInt8)) : Parts s r r [] false := by
  refine ⟨fun _ => rfl, ?_⟩
  rw [digits_whole s r (fun c hc e => h c hc (by apply UInt8.toNat_inj.1; rw [e]; rfl))]
  by_cases hp : r.length ≤ 15 ∧ areD r = true ∧ 0 < r.length
  · rw [if_pos hp, if_pos ⟨by simpa using hp.1, hp.2, fun e => by cases e⟩]; rfl
  · rw [if_neg hp, if_neg (fun h => hp ⟨by simpa using h.1, h.2.1⟩)]
theorem parts_two (s : Bool) {r a b : List UInt8} (e : r = a ++ (46 : UInt8) :: b) (h : ∀ c ∈ a, c ≠ (46 : UInt8)) : Parts s r a b true := by
  refine ⟨fun e => (by cases e), ?_⟩
  rw [e, digits_parts s a b 46 rfl (fun c hc e => h c hc (by apply UInt8.toNat_inj.1; rw [e]; rfl))]
  by_cases hp : a.length + b.length ≤ 15 ∧ (areD a = true ∧ 0 < a.length) ∧ (areD b = true ∧ 0 < b.length)
  · rw [if_pos hp, if_pos ⟨hp.1, hp.2.1, fun _ => hp.2.2⟩]
  · rw [if_neg hp, if_neg (fun h => hp ⟨h.1, h.2.1, h.2.2 rfl⟩)]
theorem conv_ten : conv 10 = 4621819117588971520 := by decide
theorem conv_one : conv 1 = 4607182418800017408 := by decide
theorem lt53 {m k : Nat} (h : m < 10 ^ k) (hk : k ≤ 15) : m < 1000000000000000 := Nat.lt_of_lt_of_le h (pow15 hk)
end Num9
def signOf (l : List UInt8) : Bool := l.head? == some 45
def restOf (l : List UInt8) : List UInt8 := if signOf l then l.tail else l
theorem times_ten (m : Nat) (h : 10 * m < 2 ^ 53) (t : TypeId) (w : World) : (binOp .mul t (.float .f64 4621819117588971520) (.float .f64 (conv m))).run Tryz.prog w = .ok (.float .f64 (conv (10 * m))) w :=
  run_float_arith w .mul t .f64 _ _ _ (by rw [← conv_ten]; exact mul_conv (by omega) (by omega) h)
theorem plus_small (a b : Nat) (h : a + b < 2 ^ 53) (t : TypeId) (w : World) : (binOp .add t (.float .f64 (conv a)) (.float .f64 (conv b))).run Tryz.prog w = .ok (.float .f64 (conv (a + b))) w :=
  run_float_arith w .add t .f64 _ _ _ (add_conv (by omega) (by omega) h)
def DecEnd (s : Bool) (r : List UInt8) (w : World) (e : Ending) (w' : World) : Prop :=
  ∃ x ok, e = .returned (.tuple #[.float .f64 x, .bool ok]) ∧ (digitsR s r).Is x ok ∧ Below w.heap.size w w'
set_option maxHeartbeats 8000000 in
set_option maxRecDepth 100000 in
theorem decimal_any (A : Option Addr) (n c : Nat) (l : List UInt8) (w : World) (hr : Reads w w.heap.size 1 A n (Lib.byteCells l)) (hn : n ≤ 1099511627776) (hc : n ≤ c) :
    Calls Tryz.prog 136 #[.slice A n c] w fun e w' => DecEnd (signOf l) (restOf l) w e w' := by
  have hl : Hid (l.length = n) := by have := hr.1; show _ = _; simpa [Lib.byteCells_length] using this
  have kc := Lib.run_convert_bytes_const (P := Tryz.prog) w 22 5 #[.int .u8 45] 1 1 Tryz.underlying22 Tryz.underlying5
  have h1 := reads_one w 45 (1, 2)
  have hb1 : Below w.heap.size w (w.alloc (.cells #[.int .u8 45] 5 (1, 2))) := (Below.refl _ _).alloc (Nat.le_refl _) _
  have H1 := hid h1
  have HB1 := hid hb1
  have HR1 := hid (hr.below hb1)
  clear h1 hb1
  obtain ⟨s, hs⟩ : ∃ s, s = signOf l := ⟨_, rfl⟩
  obtain ⟨r, hr'⟩ : ∃ r, r = restOf l := ⟨_, rfl⟩
  rw [← hs, ← hr']
  have HS := hid hs
  have HRR := hid hr'
  clear hs hr'
  go_enter Tryz.func136, Tryz.ntmps136
  go_upto_region 1 with fail
  go_cut [0, 4] (fun p0 p4 wx => ∃ (A1 : Option Addr) (n1 c1 : Nat), p0 = .slice A1 n1 c1 ∧ p4 = .bool s ∧ n1 ≤ c1 ∧ n1 ≤ 1099511627776 ∧ Below w.heap.size w wx ∧ Reads wx w.heap.size 1 A1 n1 (Lib.byteCells r))
  case first =>
    cases s with
    | true =>
      have hn1 : 1 ≤ n := by
        have h := HS.out
        have hl1 := hl.out
        cases l with
        | nil => cases h
        | cons y q => rw [← hl1]; simp
      have hrr : (Lib.byteCells l).drop 1 = Lib.byteCells r := by
        rw [HRR.out]; unfold restOf; rw [← HS.out]
        simp [Lib.byteCells, List.drop_one]
      have hcut := HR1.out.cut (k := 1) (cap := c) hn1 hc
      rw [Nat.mul_one, hrr] at hcut
      have HC := hid hcut
      clear hcut hrr
      go_wp2_with (go_at_call 147; refine (cutPrefix_one A _ n c 1 _ _ l 45 _ HR1.out H1.out hc).mono ?_; rintro e w1 ⟨rfl, rfl⟩; rw [show (l.head? == some (45 : UInt8)) = true from HS.out.symm])
      go_meet
      exact ⟨_, _, _, rfl, rfl, by omega, by omega, HB1.out, HC.out⟩
    | false =>
      have hrr : l = r := by rw [HRR.out]; unfold restOf; rw [← HS.out]; rfl
      have hx := HR1.out
      rw [hrr] at hx
      have HX := hid hx
      clear hx hrr
      go_wp2_with (go_at_call 147; refine (cutPrefix_one A _ n c 1 _ _ l 45 _ HR1.out H1.out hc).mono ?_; rintro e w1 ⟨rfl, rfl⟩; rw [show (l.head? == some (45 : UInt8)) = false from HS.out.symm])
      go_meet
      exact ⟨_, _, _, rfl, rfl, hc, hn, HB1.out, HX.out⟩
  case rest =>
    obtain ⟨A1, n1, c1, rfl, rfl, hc1, hn1, hbw, hr1⟩ := hcut
    clear hr hl H1 HB1 HR1 HS HRR kc
    have kc := Lib.run_convert_bytes_const (P := Tryz.prog) wc 22 5 #[.int .u8 46] 1 1 Tryz.underlying22 Tryz.underlying5
    have h1 := reads_one wc 46 (1, 2)
    have hb1 : Below wc.heap.size wc (wc.alloc (.cells #[.int .u8 46] 5 (1, 2))) := (Below.refl _ _).alloc (Nat.le_refl _) _
    have H1 := hid h1
    have HB1 := hid (hbw.trans (hb1.mono hbw.size))
    have HR1 := hid (hr1.below (hb1.mono hbw.size))
    have hsz : w.heap.size ≤ wc.heap.size + 1 := by have := hbw.size; omega
    clear h1 hb1 hr1 hbw
    go_upto_region 2 with fail
    go_cut [5, 6, 7] (fun p5 p6 p7 wx => ∃ (A2 A3 : Option Addr) (n2 c2 n3 c3 : Nat) (lw lb : List UInt8) (st : Bool), p5 = .slice A2 n2 c2 ∧ p6 = .slice A3 n3 c3 ∧ p7 = .bool st ∧ n2 ≤ 1099511627776 ∧ n3 ≤ 1099511627776 ∧ Below w.heap.size w wx ∧ Reads wx w.heap.size 1 A2 n2 (Lib.byteCells lw) ∧ Reads wx w.heap.size 1 A3 n3 (Lib.byteCells lb) ∧ Hid (Parts s r lw lb st))
    case first =>
      go_wp2_with (go_at_call 148; refine (cut_one A1 _ n1 c1 1 _ _ r 46 _ HR1.out H1.out hc1 hn1).mono ?_; rintro e w1 ⟨v, rfl, hv, hb2⟩; have HB2 := hid hb2; clear hb2; cases hv)
      · rename_i hw
        have HP := hid (parts_whole s hw)
        go_meet
        exact ⟨A1, none, n1, c1, 0, 0, r, [], false, rfl, rfl, rfl, hn1, by omega, HB1.out.trans (HB2.out.mono (by simpa using hsz)), HR1.out.below (HB2.out.mono (by simpa using hsz)), Reads.none_, HP.out⟩
      · rename_i i hi hw hl2
        have HP := hid (parts_two s hl2 hw)
        have hlr : r.length = n1 := by have := HR1.out.1; simpa [Lib.byteCells_length] using this
        have HW := hid (HR1.out.take (k := i) (by omega))
        have hcut := HR1.out.cut (k := i + 1) (cap := c1) (by omega) hc1
        rw [Nat.mul_one] at hcut
        have e1 : (Lib.byteCells r).drop (i + 1) = Lib.byteCells (r.drop (i + 1)) := by simp [Lib.byteCells, List.map_drop]
        have e2 : (Lib.byteCells r).take i = Lib.byteCells (r.take i) := by simp [Lib.byteCells, List.map_take]
        rw [e1] at hcut
        rw [e2] at HW
        have HC := hid hcut
        clear hcut e1 e2
        unfold cutBack
        go_meet
        exact ⟨A1, _, i, c1, n1 - (i + 1), c1 - (i + 1), r.take i, r.drop (i + 1), true, rfl, rfl, rfl, by omega, by omega, HB1.out.trans (HB2.out.mono (by simpa using hsz)), HW.out.below (HB2.out.mono (by simpa using hsz)), HC.out.below (HB2.out.mono (by simpa using hsz)), HP.out⟩
    case rest =>
      obtain ⟨A2, A3, n2, c2, n3, c3, lw, lb, st, rfl, rfl, rfl, hn2, hn3, hbw, hr2, hr3, HP⟩ := hcut
      have HBW := hid hbw
      have L2 : Hid (lw.length = n2) := by have := hr2.1; show _ = _; simpa [Lib.byteCells_length] using this
      have L3 : Hid (lb.length = n3) := by have := hr3.1; show _ = _; simpa [Lib.byteCells_length] using this
      clear H1 HB1 HR1 kc hsz hbw hc1 hn1
      go_upto_region 3 with fail
      go_cut [48] (fun p48 wx => wx = wc ∧ ∃ b : Bool, p48 = .bool b ∧ Hid (b = !decide (lw.length + lb.length ≤ 15 ∧ (areD lw = true ∧ 0 < lw.length) ∧ (st = true → areD lb = true ∧ 0 < lb.length))))
      case first =>
        obtain ⟨u2, hu2⟩ : ∃ u, u = (areD lw && decide (0 < lw.length)) := ⟨_, rfl⟩
        obtain ⟨u3, hu3⟩ : ∃ u, u = (areD lb && decide (0 < lb.length)) := ⟨_, rfl⟩
        have U2 := hid hu2
        have U3 := hid hu3
        clear hu2 hu3
        have e2 : Hid ((areD lw = true ∧ 0 < lw.length) ↔ u2 = true) := by
          show _ ↔ _
          rw [U2.out, Bool.and_eq_true, decide_eq_true_eq]
        have e3 : Hid ((areD lb = true ∧ 0 < lb.length) ↔ u3 = true) := by
          show _ ↔ _
          rw [U3.out, Bool.and_eq_true, decide_eq_true_eq]
        have eL : Hid (lw.length + lb.length ≤ 15 ↔ n2 + n3 ≤ 15) := by show _ ↔ _; rw [L2.out, L3.out]
        by_cases h15 : n2 + n3 ≤ 15
        · have hB : decide ((15 : Int) < (n2 : Int) + (n3 : Int)) = false := decide_eq_false (by omega)
          cases u2 with
          | false =>
            go_wp2_with (go_at_call 149; (with_reducible refine (areDigits_any A2 n2 c2 _ lw _ hr2 hn2).mono ?_); rintro e w1 ⟨rfl, rfl⟩; rw [← U2.out])
            go_meet
            refine ⟨rfl, true, rfl, ?_⟩
            show _ = _
            rw [decide_eq_false (fun h => by have := e2.out.1 h.2.1; cases this)]; rfl
          | true =>
            have HW := e2.out.2 rfl
            cases st with
            | false =>
              go_wp2_with (go_at_call 149; (with_reducible refine (areDigits_any A2 n2 c2 _ lw _ hr2 hn2).mono ?_); rintro e w1 ⟨rfl, rfl⟩; rw [← U2.out])
              go_meet
              refine ⟨rfl, false, rfl, ?_⟩
              show _ = _
              rw [decide_eq_true ⟨eL.out.2 h15, HW, fun h => by cases h⟩]; rfl
            | true =>
              go_wp2_with first | (go_at_call 149; (with_reducible refine (areDigits_any A2 n2 c2 _ lw _ hr2 hn2).mono ?_); rintro e w1 ⟨rfl, rfl⟩; rw [← U2.out]) | (go_at_call 149; (with_reducible refine (areDigits_any A3 n3 c3 _ lb _ hr3 hn3).mono ?_); rintro e w1 ⟨rfl, rfl⟩; rw [← U3.out])
              go_meet
              refine ⟨rfl, !u3, rfl, ?_⟩
              show _ = _
              cases u3 with
              | false =>
                have hF : ¬ (lw.length + lb.length ≤ 15 ∧ (areD lw = true ∧ 0 < lw.length) ∧ (True → areD lb = true ∧ 0 < lb.length)) := by
                  intro h
                  have h2 := e3.out.1 (h.2.2 trivial)
                  cases h2
                rw [decide_eq_false hF]
              | true =>
                have hT : lw.length + lb.length ≤ 15 ∧ (areD lw = true ∧ 0 < lw.length) ∧ (True → areD lb = true ∧ 0 < lb.length) := ⟨eL.out.2 h15, HW, fun _ => e3.out.2 rfl⟩
                rw [decide_eq_true hT]
        · have hB : decide ((15 : Int) < (n2 : Int) + (n3 : Int)) = true := decide_eq_true (by omega)
          have hF : Hid (decide (lw.length + lb.length ≤ 15 ∧ (areD lw = true ∧ 0 < lw.length) ∧ (st = true → areD lb = true ∧ 0 < lb.length)) = false) := decide_eq_false (fun h => h15 (eL.out.1 h.1))
          have HH := hid h15
          clear h15
          go_wp2_with fail
          go_meet
          refine ⟨rfl, true, rfl, ?_⟩
          show _ = _
          rw [hF.out]; rfl
      case rest =>
        obtain ⟨rfl, b, rfl, hb⟩ := hcut
        cases b with
        | true =>
          have hd : Hid (digitsR s r = .none) := by
            show _ = _
            rw [HP.out.2, if_neg]
            intro h
            have := hb.out
            rw [decide_eq_true h] at this
            cases this
          go_wp2_with fail
          go_ret2
          refine ⟨_, _, rfl, ?_, HBW.out⟩
          rw [hd.out]; exact ⟨rfl, rfl⟩
        | false =>
          have hcond : lw.length + lb.length ≤ 15 ∧ (areD lw = true ∧ 0 < lw.length) ∧ (st = true → areD lb = true ∧ 0 < lb.length) := by
            by_cases h : lw.length + lb.length ≤ 15 ∧ (areD lw = true ∧ 0 < lw.length) ∧ (st = true → areD lb = true ∧ 0 < lb.length)
            · exact h
            · have := hb.out
              rw [decide_eq_false h] at this
              cases this
          have hd : Hid (digitsR s r = .val s (foldD (foldD 0 lw) lb) lb.length) := by
            show _ = _
            rw [HP.out.2, if_pos hcond]
          have hD2 : Hid (areD lw = true) := hcond.2.1.1
          have hD3 : Hid (areD lb = true) := by
            show _ = _
            cases st with
            | false => rw [HP.out.1 rfl]; rfl
            | true => exact (hcond.2.2 rfl).1
          have h15 : n2 + n3 ≤ 15 := by have := hcond.1; rw [L2.out, L3.out] at this; exact this
          clear hcond hb HP
          go_wp2_with fail
          go_loop [8, 51] (fun a d => ∃ i : Nat, i ≤ n2 ∧ (∃ q, a = .float .f64 q ∧ Hid (q = conv (foldD 0 (lw.take i)))) ∧ d = .int .i64 i) (fun _ d => n2 - (intOf d).toNat)
          case atStart => exact ⟨0, Nat.zero_le _, ⟨0, rfl, by show _ = _; rw [List.take_zero]; rfl⟩, rfl⟩
          case round =>
            obtain ⟨i, hi2, ⟨q, rfl, hq⟩, rfl⟩ := hrel
            by_cases hi : i < n2
            · obtain ⟨ad, y, rfl, hcell, _, hy⟩ := reads_byteN hr2 hi
              obtain ⟨m, hm⟩ : ∃ m, m = foldD 0 (lw.take i) := ⟨_, rfl⟩
              obtain ⟨d1, d2⟩ := areD_at hD2.out hy
              have hfs := fold_step 0 hy
              have hm15 : foldD 0 (lw.take (i + 1)) < 1000000000000000 := by
                refine lt53 (foldD_lt _ 0 0 (areD_take hD2.out _) (by decide)) ?_
                rw [List.length_take]; omega
              rw [hfs, ← hm] at hm15
              have HFS : Hid (conv (10 * m + (y.toNat - 48)) = conv (foldD 0 (lw.take (i + 1)))) := by show _ = _; rw [hfs, ← hm]
              have k1 := fun t w => times_ten m (by omega) t w
              have k2 := fun t w => plus_small (10 * m) (y.toNat - 48) (by omega) t w
              have k3 := fun w => worth_any y d1 d2 w
              have K3 := hid k3
              have hq' := hq.out
              rw [← hm] at hq'
              subst hq'
              clear hfs hm hq k3
              obtain ⟨e1, he1⟩ : ∃ e1, e1 = conv m := ⟨_, rfl⟩
              obtain ⟨e2, he2⟩ : ∃ e2, e2 = conv (10 * m) := ⟨_, rfl⟩
              obtain ⟨e3, he3⟩ : ∃ e3, e3 = conv (y.toNat - 48) := ⟨_, rfl⟩
              obtain ⟨e4, he4⟩ : ∃ e4, e4 = conv (10 * m + (y.toNat - 48)) := ⟨_, rfl⟩
              rw [← he4] at HFS
              rw [← he1, ← he2] at k1
              rw [← he2, ← he3, ← he4] at k2
              rw [← he3] at K3
              rw [← he1]
              clear he1 he2 he3 he4 d1 d2 hm15
              go_wp2_with first | (go_at_call 150; refine (K3.out _).mono ?_; rintro e w1 ⟨rfl, rfl⟩) | (simp only [k1]) | (simp only [k2])
              exact ⟨⟨i + 1, by omega, ⟨e4, rfl, HFS⟩, by simp⟩, by simp [intOf]; omega⟩
            · obtain rfl : i = n2 := by omega
              have HW : Hid (q = conv (foldD 0 lw)) := by
                have h := hq.out
                rw [List.take_of_length_le (by rw [L2.out]; exact Nat.le_refl _)] at h
                exact h
              clear hq
              obtain ⟨N, hN⟩ : ∃ N, N = foldD 0 lw := ⟨_, rfl⟩
              rw [← hN] at HW hd
              have hNb := foldD_lt lw 0 0 hD2.out (by decide)
              rw [← hN, Nat.zero_add] at hNb
              have HNB := hid hNb
              clear hN hNb
              go_wp2_with fail
              go_loop [8, 9, 63] (fun a b d => ∃ j : Nat, j ≤ n3 ∧ (∃ q, a = .float .f64 q ∧ Hid (q = conv (foldD N (lb.take j)))) ∧ (∃ q, b = .float .f64 q ∧ Hid (q = conv (10 ^ j))) ∧ d = .int .i64 j) (fun _ _ d => n3 - (intOf d).toNat)
              case atStart => exact ⟨0, Nat.zero_le _, ⟨q, rfl, by show _ = _; rw [List.take_zero]; exact HW.out⟩, ⟨4607182418800017408, rfl, by show _ = _; rw [← conv_one]⟩, rfl⟩
              case round =>
                obtain ⟨j, hj3, ⟨q2, rfl, hq2⟩, ⟨q3, rfl, hq3⟩, rfl⟩ := hrel
                by_cases hj : j < n3
                · obtain ⟨ad, y, rfl, hcell, _, hy⟩ := reads_byteN hr3 hj
                  obtain ⟨m, hm⟩ : ∃ m, m = foldD N (lb.take j) := ⟨_, rfl⟩
                  obtain ⟨T, hT⟩ : ∃ T, T = 10 ^ j := ⟨_, rfl⟩
                  obtain ⟨d1, d2⟩ := areD_at hD3.out hy
                  have hfs := fold_step N hy
                  have hm15 : foldD N (lb.take (j + 1)) < 1000000000000000 := by
                    refine lt53 (foldD_lt _ N lw.length (areD_take hD3.out _) HNB.out) ?_
                    rw [List.length_take, L2.out]; omega
                  rw [hfs, ← hm] at hm15
                  have hT15 : 10 * T ≤ 1000000000000000 := by
                    have := pow15 (k := j + 1) (by omega)
                    rw [hT, Nat.mul_comm]
                    rw [Nat.pow_succ] at this
                    exact this
                  have HFS : Hid (conv (10 * m + (y.toNat - 48)) = conv (foldD N (lb.take (j + 1)))) := by show _ = _; rw [hfs, ← hm]
                  have HFT : Hid (conv (10 * T) = conv (10 ^ (j + 1))) := by show _ = _; rw [hT, Nat.pow_succ, Nat.mul_comm]
                  have k1 := fun t w => times_ten m (by omega) t w
                  have k2 := fun t w => plus_small (10 * m) (y.toNat - 48) (by omega) t w
                  have k4 := fun t w => times_ten T (by omega) t w
                  have k3 := fun w => worth_any y d1 d2 w
                  have K3 := hid k3
                  have hq' := hq2.out
                  rw [← hm] at hq'
                  subst hq'
                  have hq' := hq3.out
                  rw [← hT] at hq'
                  subst hq'
                  clear hfs hm hq2 hq3 k3 hT
                  obtain ⟨e1, he1⟩ : ∃ e1, e1 = conv m := ⟨_, rfl⟩
                  obtain ⟨e2, he2⟩ : ∃ e2, e2 = conv (10 * m) := ⟨_, rfl⟩
                  obtain ⟨e3, he3⟩ : ∃ e3, e3 = conv (y.toNat - 48) := ⟨_, rfl⟩
                  obtain ⟨e4, he4⟩ : ∃ e4, e4 = conv (10 * m + (y.toNat - 48)) := ⟨_, rfl⟩
                  obtain ⟨e5, he5⟩ : ∃ e5, e5 = conv T := ⟨_, rfl⟩
                  obtain ⟨e6, he6⟩ : ∃ e6, e6 = conv (10 * T) := ⟨_, rfl⟩
                  rw [← he4] at HFS
                  rw [← he6] at HFT
                  rw [← he1, ← he2] at k1
                  rw [← he2, ← he3, ← he4] at k2
                  rw [← he3] at K3
                  rw [← he5, ← he6] at k4
                  rw [← he1, ← he5]
                  clear he1 he2 he3 he4 he5 he6 d1 d2 hm15 hT15
                  go_wp2_with first | (go_at_call 150; refine (K3.out _).mono ?_; rintro e w1 ⟨rfl, rfl⟩) | (simp only [k1]) | (simp only [k2]) | (simp only [k4])
                  exact ⟨⟨j + 1, by omega, ⟨e4, rfl, HFS⟩, ⟨e6, rfl, HFT⟩, by simp⟩, by simp [intOf]; omega⟩
                · obtain rfl : j = n3 := by omega
                  have hx := hq2.out
                  rw [List.take_of_length_le (by rw [L3.out]; exact Nat.le_refl _)] at hx
                  have hNb := foldD_lt lb N lw.length hD3.out HNB.out
                  rw [L2.out, L3.out] at hNb
                  have hN15 := lt53 hNb h15
                  have hT15 := pow15 (k := j) (by omega)
                  obtain ⟨z, hz⟩ := quo_some (n := foldD N lb) (t := 10 ^ j) (by omega) (pow_pos10 _) (by omega)
                  have hzl := quo_le (by omega) (pow_pos10 _) (by omega) hz
                  have hz63 : z < 2 ^ 63 := by omega
                  have hop : ∀ t w, (binOp .quo t (.float .f64 q2) (.float .f64 q3)).run Tryz.prog w = .ok (.float .f64 z) w := fun t w => run_float_arith w .quo t .f64 _ _ _ (by rw [hx, hq3.out]; exact hz)
                  have HZ := hid hz
                  have K5 := hid (fun w => copysign_any z hz63 w)
                  have hlb : Hid (lb.length = j) := L3.out
                  clear hx hq2 hq3 hNb hN15 hT15 hz hzl hz63
                  cases s with
                  | true =>
                    go_wp2_with first | (go_at_call 151; refine (K5.out _).mono ?_; rintro e w1 ⟨rfl, rfl⟩) | (simp only [hop])
                    go_ret2
                    refine ⟨_, _, rfl, ?_, HBW.out⟩
                    rw [hd.out, hlb.out]
                    exact ⟨⟨z, HZ.out, rfl⟩, rfl⟩
                  | false =>
                    go_wp2_with (simp only [hop])
                    go_ret2
                    refine ⟨_, _, rfl, ?_, HBW.out⟩
                    rw [hd.out, hlb.out]
                    exact ⟨⟨z, HZ.out, rfl⟩, rfl⟩
end Go.Proofs.YtinlonpcakkfhaaGreatDoor
end
section
namespace Go.Proofs.YtinlonpcakkfhaaGreatDoor
open Go Go.Proofs Go.RowKit Num9
namespace Num9
theorem numR_rest {l : List UInt8} (h1 : l ≠ [105, 110, 102]) (h2 : l ≠ [45, 105, 110, 102]) (h3 : l ≠ [110, 97, 110]) : numR l = digitsR (signOf l) (restOf l) := by
  cases l with
  | nil => rfl
  | cons y r =>
    rw [numR_first rfl h1 h2 h3]
    unfold restOf signOf
    by_cases hy : y.toNat = 45
    · have : y = 45 := by apply UInt8.toNat_inj.1; rw [hy]; rfl
      subst this
      rfl
    · have hne : (((y :: r).head?) == some (45 : UInt8)) = false := by
        rw [beq_eq_false_iff_ne]
        intro e
        injection e with e
        rw [e] at hy
        exact hy rfl
      rw [if_neg hy, hne]; rfl
end Num9
set_option maxHeartbeats 4000000 in
set_option maxRecDepth 100000 in
theorem get9_prog (A : Option Addr) (n c : Nat) (l : List UInt8) (w : World) (hr : Reads w w.heap.size 1 A n (Lib.byteCells l)) (hn : n ≤ 1099511627776) (hc : n ≤ c) :
    Calls Tryz.prog 117 #[.slice A n c] w fun e w' => GetEnd9 l w e w' := by
  have hb := run_back (c := c) hr
  have hs := bytes_list l
  generalize (⟨l.toArray⟩ : ByteArray) = S at hb hs
  by_cases h1 : l = [105, 110, 102]
  · have hs1 : (S.toList == [105, 110, 102]) = true := by rw [hs, h1]; rfl
    have H1 := hid h1
    clear hs h1
    go_enter Tryz.func117, Tryz.ntmps117
    go_wp2_with (go_at_call 134; refine (inf_pos _).mono ?_; rintro e w' ⟨rfl, rfl⟩)
    go_ret2
    refine ⟨_, _, rfl, ?_, Below.refl _ _⟩
    rw [H1.out]; exact ⟨rfl, rfl⟩
  have hs1 : (S.toList == [105, 110, 102]) = false := by rw [hs, beq_eq_false_iff_ne]; exact h1
  by_cases h2 : l = [45, 105, 110, 102]
  · have hs2 : (S.toList == [45, 105, 110, 102]) = true := by rw [hs, h2]; rfl
    have H1 := hid h2
    clear hs h1 h2
    go_enter Tryz.func117, Tryz.ntmps117
    go_wp2_with (go_at_call 134; refine (inf_neg _).mono ?_; rintro e w' ⟨rfl, rfl⟩)
    go_ret2
    refine ⟨_, _, rfl, ?_, Below.refl _ _⟩
    rw [H1.out]; exact ⟨rfl, rfl⟩
  have hs2 : (S.toList == [45, 105, 110, 102]) = false := by rw [hs, beq_eq_false_iff_ne]; exact h2
  by_cases h3 : l = [110, 97, 110]
  · have hs3 : (S.toList == [110, 97, 110]) = true := by rw [hs, h3]; rfl
    have H1 := hid h3
    clear hs h1 h2 h3
    go_enter Tryz.func117, Tryz.ntmps117
    go_wp2_with (go_at_call 135; refine (nan_any _).mono ?_; rintro e w' ⟨rfl, rfl⟩)
    go_ret2
    refine ⟨_, _, rfl, ?_, Below.refl _ _⟩
    rw [H1.out]; exact ⟨key_nan (by decide), rfl⟩
  have hs3 : (S.toList == [110, 97, 110]) = false := by rw [hs, beq_eq_false_iff_ne]; exact h3
  have HR := hid (numR_rest h1 h2 h3)
  clear hs h1 h2 h3
  go_enter Tryz.func117, Tryz.ntmps117
  go_wp2_with (go_at_call 136; refine (decimal_any A n c l _ hr hn hc).mono ?_; rintro e w' ⟨x, ok, rfl, hx, hb⟩; have HX := hid hx; clear hx)
  go_ret2
  refine ⟨x, ok, rfl, ?_, ‹_›⟩
  rw [HR.out]; exact HX.out
end Go.Proofs.YtinlonpcakkfhaaGreatDoor
end
section
namespace Go.Proofs.YtinlonpcakkfhaaGreatDoor
open Go
namespace Dat
def numsR : List UInt8 → List UInt8 → List Nat → Nat → Option (List Nat)
  | [], _, init, last => some (init ++ [last])
  | s :: sh, c :: l, init, last => if s = 48 then (if dg c = true then numsR sh l init (10 * last + dv c) else none) else if c = s then numsR sh l (init ++ [last]) 0 else none
  | _ :: _, [], _, _ => none
def fits : List UInt8 → Nat → Bool
  | [], _ => true
  | s :: sh, k => if s = 48 then decide (k < 17) && fits sh (k + 1) else fits sh 0
def clockS : List UInt8 := [48, 48, 58, 48, 48, 58, 48, 48]
def dateS : List UInt8 := [48, 48, 48, 48, 45, 48, 48, 45, 48, 48, 95, 48, 48, 58, 48, 48, 58, 48, 48]
theorem fits_clock : fits clockS 0 = true := by decide
theorem fits_date : fits dateS 0 = true := by decide
def clockN (h m s : Nat) : Option Nat := if h ≤ 23 ∧ m ≤ 59 ∧ s ≤ 59 then some (3600 * h + 60 * m + s) else none
def dayN (y m d : Nat) : Option Nat := if 1 ≤ m ∧ m ≤ 12 ∧ 1 ≤ d ∧ d ≤ days y m then some (aheadN y + mo y m + (d - 1)) else none
def dateN (y m d h i s : Nat) : Option Nat :=
  match dayN y m d, clockN h i s with
  | some a, some b => some (a * 86400 + b)
  | _, _ => none
def clockOf : Option (List Nat) → Option Nat
  | some [h, m, s] => clockN h m s
  | _ => none
def dateOf : Option (List Nat) → Option Nat
  | some [y, m, d, h, i, s] => dateN y m d h i s
  | _ => none
theorem nums_zero {sh l : List UInt8} {init : List Nat} {last : Nat} {c : UInt8} (h : dg c = true) : numsR (48 :: sh) (c :: l) init last = numsR sh l init (10 * last + dv c) := by
  simp [numsR, h]
theorem nums_zero_no {sh l : List UInt8} {init : List Nat} {last : Nat} {c : UInt8} (h : dg c = false) : numsR (48 :: sh) (c :: l) init last = none := by
  simp [numsR, h]
theorem nums_sign {s : UInt8} {sh l : List UInt8} {init : List Nat} {last : Nat} (h : s ≠ 48) : numsR (s :: sh) (s :: l) init last = numsR sh l (init ++ [last]) 0 := by
  simp [numsR, h]
theorem nums_sign_no {s c : UInt8} {sh l : List UInt8} {init : List Nat} {last : Nat} (h : s ≠ 48) (hc : c ≠ s) : numsR (s :: sh) (c :: l) init last = none := by
  simp [numsR, h, hc]
theorem nums_clock (a b c d e f g k : UInt8) : numsR clockS [a, b, c, d, e, f, g, k] [] 0 =
    if (dg a = true ∧ dg b = true ∧ c = 58 ∧ dg d = true ∧ dg e = true ∧ f = 58 ∧ dg g = true ∧ dg k = true) then some [pr a b, pr d e, pr g k] else none := by
  have h58 : ¬ ((58 : UInt8) = 48) := by decide
  simp only [clockS, numsR, if_true, if_neg h58, Nat.mul_zero, Nat.zero_add, List.nil_append, List.cons_append]
  by_cases h1 : dg a = true <;> simp only [h1, if_true, if_false, true_and, false_and, Bool.false_eq_true]
  by_cases h2 : dg b = true <;> simp only [h2, if_true, if_false, true_and, false_and, Bool.false_eq_true]
  by_cases h3 : c = 58 <;> simp only [h3, if_true, if_false, true_and, false_and]
  by_cases h4 : dg d = true <;> simp only [h4, if_true, if_false, true_and, false_and, Bool.false_eq_true]
  by_cases h5 : dg e = true <;> simp only [h5, if_true, if_false, true_and, false_and, Bool.false_eq_true]
  by_cases h6 : f = 58 <;> simp only [h6, if_true, if_false, true_and, false_and]
  by_cases h7 : dg g = true <;> simp only [h7, if_true, if_false, true_and, false_and, Bool.false_eq_true]
  by_cases h8 : dg k = true <;> simp only [h8, if_true, if_false, true_and, false_and, Bool.false_eq_true]
  rfl
theorem clock_eval (a b c d e f g k : UInt8) : clockR [a, b, c, d, e, f, g, k] =
    if (dg a = true ∧ dg b = true ∧ c = 58 ∧ dg d = true ∧ dg e = true ∧ f = 58 ∧ dg g = true ∧ dg k = true) then clockN (pr a b) (pr d e) (pr g k) else none := by
  by_cases h : dg a = true ∧ dg b = true ∧ c = 58 ∧ dg d = true ∧ dg e = true ∧ f = 58 ∧ dg g = true ∧ dg k = true
  · rw [if_pos h]
    obtain ⟨h1, h2, rfl, h3, h4, rfl, h5, h6⟩ := h
    have t1 : two [a, b, 58, d, e, 58, g, k] 0 = some (pr a b) := by show (if dg a = true ∧ dg b = true then _ else _) = _; rw [if_pos ⟨h1, h2⟩]
    have t2 : two [a, b, 58, d, e, 58, g, k] 3 = some (pr d e) := by show (if dg d = true ∧ dg e = true then _ else _) = _; rw [if_pos ⟨h3, h4⟩]
    have t3 : two [a, b, 58, d, e, 58, g, k] 6 = some (pr g k) := by show (if dg g = true ∧ dg k = true then _ else _) = _; rw [if_pos ⟨h5, h6⟩]
    unfold clockR
    rw [if_pos ⟨rfl, rfl, rfl⟩, t1, t2, t3]
    rfl
  · rw [if_neg h]
    cases hc : clockR [a, b, c, d, e, f, g, k] with
    | none => rfl
    | some x =>
      obtain ⟨h1, h2, m1, m2, s1, s2, e0, ⟨g1, g2, g3, g4, g5, g6⟩, _⟩ := clock_form hc
      injection e0 with e1 e0; injection e0 with e2 e0; injection e0 with e3 e0; injection e0 with e4 e0; injection e0 with e5 e0; injection e0 with e6 e0; injection e0 with e7 e0; injection e0 with e8 e0
      subst e1 e2 e3 e4 e5 e6 e7 e8
      exact absurd ⟨g1, g2, rfl, g3, g4, rfl, g5, g6⟩ h
theorem clock_nums {l : List UInt8} (hl : l.length = 8) : clockR l = clockOf (numsR clockS l [] 0) := by
  match l, hl with
  | [a, b, c, d, e, f, g, k], _ =>
    rw [nums_clock, clock_eval]
    by_cases h : dg a = true ∧ dg b = true ∧ c = 58 ∧ dg d = true ∧ dg e = true ∧ f = 58 ∧ dg g = true ∧ dg k = true
    · rw [if_pos h, if_pos h]; rfl
    · rw [if_neg h, if_neg h]; rfl
def dateAll (l : List UInt8) : Prop :=
  match l with
  | [a0, a1, a2, a3, a4, a5, a6, a7, a8, a9, a10, a11, a12, a13, a14, a15, a16, a17, a18] =>
    dg a0 = true ∧ dg a1 = true ∧ dg a2 = true ∧ dg a3 = true ∧ a4 = 45 ∧ dg a5 = true ∧ dg a6 = true ∧ a7 = 45 ∧ dg a8 = true ∧ dg a9 = true ∧ a10 = 95 ∧
      dg a11 = true ∧ dg a12 = true ∧ a13 = 58 ∧ dg a14 = true ∧ dg a15 = true ∧ a16 = 58 ∧ dg a17 = true ∧ dg a18 = true
  | _ => False
set_option maxHeartbeats 2000000 in
theorem nums_date (a0 a1 a2 a3 a4 a5 a6 a7 a8 a9 a10 a11 a12 a13 a14 a15 a16 a17 a18 : UInt8) :
    (dateAll [a0, a1, a2, a3, a4, a5, a6, a7, a8, a9, a10, a11, a12, a13, a14, a15, a16, a17, a18] →
      numsR dateS [a0, a1, a2, a3, a4, a5, a6, a7, a8, a9, a10, a11, a12, a13, a14, a15, a16, a17, a18] [] 0 = some [100 * pr a0 a1 + pr a2 a3, pr a5 a6, pr a8 a9, pr a11 a12, pr a14 a15, pr a17 a18]) ∧
    (¬ dateAll [a0, a1, a2, a3, a4, a5, a6, a7, a8, a9, a10, a11, a12, a13, a14, a15, a16, a17, a18] →
      numsR dateS [a0, a1, a2, a3, a4, a5, a6, a7, a8, a9, a10, a11, a12, a13, a14, a15, a16, a17, a18] [] 0 = none) := by
  unfold dateAll dateS
  constructor
  · rintro ⟨g0, g1, g2, g3, rfl, g5, g6, rfl, g8, g9, rfl, g11, g12, rfl, g14, g15, rfl, g17, g18⟩
    rw [nums_zero g0, nums_zero g1, nums_zero g2, nums_zero g3, nums_sign (by decide), nums_zero g5, nums_zero g6, nums_sign (by decide), nums_zero g8, nums_zero g9, nums_sign (by decide), nums_zero g11, nums_zero g12, nums_sign (by decide), nums_zero g14, nums_zero g15, nums_sign (by decide), nums_zero g17, nums_zero g18]
    unfold pr numsR
    simp only [List.nil_append, List.cons_append, Option.some.injEq, List.cons.injEq, and_true]
    omega
  · intro h
    by_cases g0 : dg a0 = true
    rotate_left
    · rw [nums_zero_no (by simpa using g0)]
    rw [nums_zero g0]
    by_cases g1 : dg a1 = true
    rotate_left
    · rw [nums_zero_no (by simpa using g1)]
    rw [nums_zero g1]
    by_cases g2 : dg a2 = true
    rotate_left
    · rw [nums_zero_no (by simpa using g2)]
    rw [nums_zero g2]
    by_cases g3 : dg a3 = true
    rotate_left
    · rw [nums_zero_no (by simpa using g3)]
    rw [nums_zero g3]
    by_cases g4 : a4 = 45
    rotate_left
    · rw [nums_sign_no (by decide) g4]
    subst g4
    rw [nums_sign (by decide)]
    by_cases g5 : dg a5 = true
    rotate_left
    · rw [nums_zero_no (by simpa using g5)]
    rw [nums_zero g5]
    by_cases g6 : dg a6 = true
    rotate_left
    · rw [nums_zero_no (by simpa using g6)]
    rw [nums_zero g6]
    by_cases g7 : a7 = 45
    rotate_left
    · rw [nums_sign_no (by decide) g7]
    subst g7
    rw [nums_sign (by decide)]
    by_cases g8 : dg a8 = true
    rotate_left
    · rw [nums_zero_no (by simpa using g8)]
    rw [nums_zero g8]
    by_cases g9 : dg a9 = true
    rotate_left
    · rw [nums_zero_no (by simpa using g9)]
    rw [nums_zero g9]
    by_cases g10 : a10 = 95
    rotate_left
    · rw [nums_sign_no (by decide) g10]
    subst g10
    rw [nums_sign (by decide)]
    by_cases g11 : dg a11 = true
    rotate_left
    · rw [nums_zero_no (by simpa using g11)]
    rw [nums_zero g11]
    by_cases g12 : dg a12 = true
    rotate_left
    · rw [nums_zero_no (by simpa using g12)]
    rw [nums_zero g12]
    by_cases g13 : a13 = 58
    rotate_left
    · rw [nums_sign_no (by decide) g13]
    subst g13
    rw [nums_sign (by decide)]
    by_cases g14 : dg a14 = true
    rotate_left
    · rw [nums_zero_no (by simpa using g14)]
    rw [nums_zero g14]
    by_cases g15 : dg a15 = true
    rotate_left
    · rw [nums_zero_no (by simpa using g15)]
    rw [nums_zero g15]
    by_cases g16 : a16 = 58
    rotate_left
    · rw [nums_sign_no (by decide) g16]
    subst g16
    rw [nums_sign (by decide)]
    by_cases g17 : dg a17 = true
    rotate_left
    · rw [nums_zero_no (by simpa using g17)]
    rw [nums_zero g17]
    by_cases g18 : dg a18 = true
    rotate_left
    · rw [nums_zero_no (by simpa using g18)]
    rw [nums_zero g18]
    exact absurd ⟨g0, g1, g2, g3, rfl, g5, g6, rfl, g8, g9, rfl, g11, g12, rfl, g14, g15, rfl, g17, g18⟩ h
theorem date_nums {l : List UInt8} (hl : l.length = 19) : dateR l = dateOf (numsR dateS l [] 0) := by
  match l, hl with
  | [a0, a1, a2, a3, a4, a5, a6, a7, a8, a9, a10, a11, a12, a13, a14, a15, a16, a17, a18], _ =>
    obtain ⟨hp, hn⟩ := nums_date a0 a1 a2 a3 a4 a5 a6 a7 a8 a9 a10 a11 a12 a13 a14 a15 a16 a17 a18
    by_cases h : dateAll [a0, a1, a2, a3, a4, a5, a6, a7, a8, a9, a10, a11, a12, a13, a14, a15, a16, a17, a18]
    · rw [hp h]
      obtain ⟨g0, g1, g2, g3, rfl, g5, g6, rfl, g8, g9, rfl, g11, g12, rfl, g14, g15, rfl, g17, g18⟩ := h
      have t1 : two [a0, a1, a2, a3, 45, a5, a6, 45, a8, a9, 95, a11, a12, 58, a14, a15, 58, a17, a18] 0 = some (pr a0 a1) := by show (if dg a0 = true ∧ dg a1 = true then _ else _) = _; rw [if_pos ⟨g0, g1⟩]
      have t2 : two [a0, a1, a2, a3, 45, a5, a6, 45, a8, a9, 95, a11, a12, 58, a14, a15, 58, a17, a18] 2 = some (pr a2 a3) := by show (if dg a2 = true ∧ dg a3 = true then _ else _) = _; rw [if_pos ⟨g2, g3⟩]
      have t3 : two [a0, a1, a2, a3, 45, a5, a6, 45, a8, a9, 95, a11, a12, 58, a14, a15, 58, a17, a18] 5 = some (pr a5 a6) := by show (if dg a5 = true ∧ dg a6 = true then _ else _) = _; rw [if_pos ⟨g5, g6⟩]
      have t4 : two [a0, a1, a2, a3, 45, a5, a6, 45, a8, a9, 95, a11, a12, 58, a14, a15, 58, a17, a18] 8 = some (pr a8 a9) := by show (if dg a8 = true ∧ dg a9 = true then _ else _) = _; rw [if_pos ⟨g8, g9⟩]
      have t5 : clockR ([a0, a1, a2, a3, 45, a5, a6, 45, a8, a9, 95, a11, a12, 58, a14, a15, 58, a17, a18].drop 11) = clockN (pr a11 a12) (pr a14 a15) (pr a17 a18) := by
        show clockR [a11, a12, 58, a14, a15, 58, a17, a18] = _
        rw [clock_eval, if_pos ⟨g11, g12, rfl, g14, g15, rfl, g17, g18⟩]
      unfold dateR
      rw [if_pos ⟨rfl, rfl, rfl, rfl⟩, t1, t2, t3, t4, t5]
      show dateV _ _ _ _ _ = dateN _ _ _ _ _ _
      unfold dateN dayN
      cases clockN (pr a11 a12) (pr a14 a15) (pr a17 a18) with
      | none => unfold dateV; split <;> rename_i h1 _ <;> simp_all
      | some n =>
        unfold dateV
        dsimp only
        by_cases hc : 1 ≤ pr a5 a6 ∧ pr a5 a6 ≤ 12 ∧ 1 ≤ pr a8 a9 ∧ pr a8 a9 ≤ days (100 * pr a0 a1 + pr a2 a3) (pr a5 a6)
        · rw [if_pos hc, if_pos hc]
        · rw [if_neg hc, if_neg hc]
    · rw [hn h]
      cases hc : dateR [a0, a1, a2, a3, a4, a5, a6, a7, a8, a9, a10, a11, a12, a13, a14, a15, a16, a17, a18] with
      | none => rfl
      | some x =>
        obtain ⟨g, hg, e0, _⟩ := date_form hc
        rw [e0] at h
        exact absurd ⟨hg.y12.1, hg.y12.2, hg.y34.1, hg.y34.2, rfl, hg.m.1, hg.m.2, rfl, hg.d.1, hg.d.2, rfl, hg.h.1, hg.h.2, rfl, hg.i.1, hg.i.2, rfl, hg.s.1, hg.s.2⟩ h
theorem date_short {l : List UInt8} (h : l.length ≠ 19) : dateR l = none := by
  unfold dateR; rw [if_neg (fun k => h k.1)]
theorem clock_short {l : List UInt8} (h : l.length ≠ 8) : clockR l = none := by
  unfold clockR; rw [if_neg (fun k => h k.1)]
theorem fits_zero {sh : List UInt8} {k : Nat} (h : fits (48 :: sh) k = true) : k < 17 ∧ fits sh (k + 1) = true := by
  simpa [fits] using h
theorem fits_sign {s : UInt8} {sh : List UInt8} {k : Nat} (hs : s ≠ 48) (h : fits (s :: sh) k = true) : fits sh 0 = true := by
  simpa [fits, hs] using h
theorem ahead_closed : ∀ y, aheadN y + (y + 99) / 100 = 365 * y + (y + 3) / 4 + (y + 399) / 400
  | 0 => rfl
  | y + 1 => by
    have ih := ahead_closed y
    rw [aheadN]
    unfold yearLen days leap
    by_cases h1 : y % 400 = 0
    · simp only [h1, decide_true, Bool.true_or, and_self, if_true]; omega
    · by_cases h2 : y % 4 = 0
      · by_cases h3 : y % 100 = 0
        · simp only [h1, h2, h3, decide_true, decide_false, Bool.not_true, Bool.and_false, Bool.or_self, Bool.false_eq_true, and_false, if_false, plain, List.getD]
          show _ + (337 + 28) + _ = _
          omega
        · simp only [h1, h2, h3, decide_true, decide_false, Bool.not_false, Bool.and_self, Bool.or_true, and_self, if_true]; omega
      · simp only [h1, h2, decide_false, Bool.false_and, Bool.or_self, Bool.false_eq_true, and_false, if_false, plain, List.getD]
        show _ + (337 + 28) + _ = _
        omega
theorem ahead_top {y : Nat} (h : y ≤ 10000) : aheadN y ≤ 3652425 := by
  have := ahead_mono y (10000 - y)
  rw [show y + (10000 - y) = 10000 by omega, ahead_10000] at this
  split at this <;> omega
theorem year_len (y : Nat) : yearLen y ≤ 366 := by
  unfold yearLen days
  split
  · omega
  · show 337 + 28 ≤ 366; omega
theorem mo_top (y : Nat) {m : Nat} (h1 : 1 ≤ m) (h2 : m ≤ 13) : mo y m ≤ 366 := by
  have := mo_mono y h1 (13 - m)
  rw [show m + (13 - m) = 13 by omega, mo13] at this
  have := year_len y
  split at * <;> omega
end Dat
end Go.Proofs.YtinlonpcakkfhaaGreatDoor
end
section
set_option maxRecDepth 100000
namespace Go.Proofs.YtinlonpcakkfhaaGreatDoor
open Go Go.Proofs Go.RowKit Dat
set_option maxHeartbeats 1000000 in
theorem pAhead_any (y : Nat) (w : World) (hy : y ≤ 10000) : Calls Tryz.prog 144 #[.int .i64 y] w fun e w' => e = .returned (.int .i64 (aheadN y : Int)) ∧ w' = w := by
  have hc := ahead_closed y
  obtain ⟨a, ha⟩ : ∃ a, a = aheadN y := ⟨_, rfl⟩
  rw [← ha] at hc ⊢
  obtain ⟨q4, h4⟩ : ∃ q, q = (y + 3) / 4 := ⟨_, rfl⟩
  obtain ⟨q1, h1⟩ : ∃ q, q = (y + 99) / 100 := ⟨_, rfl⟩
  obtain ⟨q0, h0⟩ : ∃ q, q = (y + 399) / 400 := ⟨_, rfl⟩
  have e4 : ((y : Int) + 3) / 4 = (q4 : Int) := by omega
  have e1 : ((y : Int) + 99) / 100 = (q1 : Int) := by omega
  have e0 : ((y : Int) + 399) / 400 = (q0 : Int) := by omega
  have b4 : q4 ≤ 2501 := by omega
  have b1 : q1 ≤ 101 := by omega
  have b0 : q0 ≤ 26 := by omega
  rw [← h4, ← h1, ← h0] at hc
  have HC := hid hc
  clear hc ha h4 h1 h0
  go_enter Tryz.func144, Tryz.ntmps144
  go_wp2
  go_ret
  refine ⟨?_, rfl⟩
  have e : (365 * (y : Int) + q4 - q1 + q0) = (a : Int) := by have := HC.out; omega
  show Ending.returned (.int .i64 (365 * (y : Int) + q4 - q1 + q0)) = _
  rw [e]
set_option maxHeartbeats 4000000 in
theorem pDays_any (y m : Nat) (w : World) (hy : y ≤ 100000) (h1 : 1 ≤ m) (h2 : m ≤ 12) : Calls Tryz.prog 143 #[.int .i64 y, .int .i64 m] w fun e w' => e = .returned (.int .i64 (days y m : Nat)) ∧ w' = w := by
  by_cases hm : m = 2
  · subst hm
    have hd : Hid (days y 2 = if leap y = true then 29 else 28) := by
      show _ = _
      unfold days
      by_cases h : leap y = true
      · rw [if_pos ⟨rfl, h⟩, if_pos h]
      · rw [if_neg (fun h' => h h'.2), if_neg h]; rfl
    by_cases h400 : y % 400 = 0
    · have hB : ((y : Int) % 400 == 0) = true := by rw [beq_iff_eq]; omega
      have hB4 : ((y : Int) % 4 == 0) = true := by rw [beq_iff_eq]; omega
      have hB1 : ((y : Int) % 100 != 0) = false := by rw [bne_eq_false_iff_eq]; omega
      have hl : Hid (leap y = true) := by show _ = _; rw [leap_cases, decide_eq_true h400]; rfl
      clear h400
      go_enter Tryz.func143, Tryz.ntmps143
      go_wp2
      go_ret
      exact ⟨by rw [hd.out, if_pos hl.out]; rfl, rfl⟩
    · have hB : ((y : Int) % 400 == 0) = false := by rw [beq_eq_false_iff_ne]; omega
      by_cases h4 : y % 4 = 0
      · have hB4 : ((y : Int) % 4 == 0) = true := by rw [beq_iff_eq]; omega
        by_cases h100 : y % 100 = 0
        · have hB100 : ((y : Int) % 100 != 0) = false := by rw [bne_eq_false_iff_eq]; omega
          have hl : Hid (leap y = false) := by show _ = _; rw [leap_cases, decide_eq_false h400, decide_eq_true h100]; simp
          clear h400 h4 h100
          go_enter Tryz.func143, Tryz.ntmps143
          go_wp2
          go_ret
          exact ⟨by rw [hd.out, if_neg (by rw [hl.out]; simp)]; rfl, rfl⟩
        · have hB100 : ((y : Int) % 100 != 0) = true := by rw [bne_iff_ne]; omega
          have hl : Hid (leap y = true) := by show _ = _; rw [leap_cases, decide_eq_true h4, decide_eq_false h100]; simp
          clear h400 h4 h100
          go_enter Tryz.func143, Tryz.ntmps143
          go_wp2
          go_ret
          exact ⟨by rw [hd.out, if_pos hl.out]; rfl, rfl⟩
      · have hB4 : ((y : Int) % 4 == 0) = false := by rw [beq_eq_false_iff_ne]; omega
        have hl : Hid (leap y = false) := by show _ = _; rw [leap_cases, decide_eq_false h400, decide_eq_false h4]; simp
        clear h400 h4
        go_enter Tryz.func143, Tryz.ntmps143
        go_wp2
        go_ret
        exact ⟨by rw [hd.out, if_neg (by rw [hl.out]; simp)]; rfl, rfl⟩
  · have hd : Hid (days y m = plain m) := by
      show _ = _
      unfold days
      rw [if_neg (fun h => hm h.1)]
    have : m = 1 ∨ m = 3 ∨ m = 4 ∨ m = 5 ∨ m = 6 ∨ m = 7 ∨ m = 8 ∨ m = 9 ∨ m = 10 ∨ m = 11 ∨ m = 12 := by omega
    clear h1 h2 hm hy
    rcases this with rfl | rfl | rfl | rfl | rfl | rfl | rfl | rfl | rfl | rfl | rfl
    all_goals
      go_enter Tryz.func143, Tryz.ntmps143
      go_wp2
      go_ret
      exact ⟨by rw [hd.out]; rfl, rfl⟩
end Go.Proofs.YtinlonpcakkfhaaGreatDoor
end
section
set_option maxRecDepth 100000
namespace Go.Proofs.YtinlonpcakkfhaaGreatDoor
open Go Go.Proofs Go.RowKit Dat
set_option maxHeartbeats 2000000 in
theorem pClockN_any (h m s : Nat) (w : World) (hh : h ≤ 1000000000) (hm : m ≤ 1000000000) (hs : s ≤ 1000000000) : Calls Tryz.prog 122 #[.int .i64 h, .int .i64 m, .int .i64 s] w fun e w' => e = .returned (opt2 (clockN h m s)) ∧ w' = w := by
  obtain ⟨r, hr⟩ : ∃ r, r = clockN h m s := ⟨_, rfl⟩
  rw [← hr]
  have HR := hid hr
  clear hr
  by_cases c1 : 23 < h
  · have b1 : decide (23 < (h : Int)) = true := decide_eq_true (by omega)
    have HN : Hid (r = none) := by show _ = _; rw [HR.out]; unfold clockN; rw [if_neg (by omega)]
    clear c1
    go_enter Tryz.func122, Tryz.ntmps122
    go_wp2
    go_ret2
    exact ⟨by rw [HN.out]; rfl, rfl⟩
  have b1 : decide (23 < (h : Int)) = false := decide_eq_false (by omega)
  by_cases c2 : 59 < m
  · have b2 : decide (59 < (m : Int)) = true := decide_eq_true (by omega)
    have HN : Hid (r = none) := by show _ = _; rw [HR.out]; unfold clockN; rw [if_neg (by omega)]
    clear c1 c2
    go_enter Tryz.func122, Tryz.ntmps122
    go_wp2
    go_ret2
    exact ⟨by rw [HN.out]; rfl, rfl⟩
  have b2 : decide (59 < (m : Int)) = false := decide_eq_false (by omega)
  by_cases c3 : 59 < s
  · have b3 : decide (59 < (s : Int)) = true := decide_eq_true (by omega)
    have HN : Hid (r = none) := by show _ = _; rw [HR.out]; unfold clockN; rw [if_neg (by omega)]
    clear c1 c2 c3
    go_enter Tryz.func122, Tryz.ntmps122
    go_wp2
    go_ret2
    exact ⟨by rw [HN.out]; rfl, rfl⟩
  have b3 : decide (59 < (s : Int)) = false := decide_eq_false (by omega)
  have HN : Hid (r = some (3600 * h + 60 * m + s)) := by show _ = _; rw [HR.out]; unfold clockN; rw [if_pos (by omega)]
  go_enter Tryz.func122, Tryz.ntmps122
  go_wp2
  go_ret2
  refine ⟨?_, rfl⟩
  rw [HN.out]
  exact opt2_some (by simp; omega)
set_option maxHeartbeats 4000000 in
theorem pDayN_any (y m d : Nat) (w : World) (hy : y ≤ 9999) (hm : m ≤ 1000000000) (hd : d ≤ 1000000000) : Calls Tryz.prog 125 #[.int .i64 y, .int .i64 m, .int .i64 d] w fun e w' => e = .returned (opt2 (dayN y m d)) ∧ w' = w := by
  obtain ⟨r, hr⟩ : ∃ r, r = dayN y m d := ⟨_, rfl⟩
  rw [← hr]
  have HR := hid hr
  clear hr
  by_cases c1 : m < 1
  · have b1 : decide ((m : Int) < 1) = true := decide_eq_true (by omega)
    have HN : Hid (r = none) := by show _ = _; rw [HR.out]; unfold dayN; rw [if_neg (by omega)]
    clear c1
    go_enter Tryz.func125, Tryz.ntmps125
    go_wp2
    go_ret2
    exact ⟨by rw [HN.out]; rfl, rfl⟩
  have b1 : decide ((m : Int) < 1) = false := decide_eq_false (by omega)
  by_cases c2 : 12 < m
  · have b2 : decide (12 < (m : Int)) = true := decide_eq_true (by omega)
    have HN : Hid (r = none) := by show _ = _; rw [HR.out]; unfold dayN; rw [if_neg (by omega)]
    clear c1 c2
    go_enter Tryz.func125, Tryz.ntmps125
    go_wp2
    go_ret2
    exact ⟨by rw [HN.out]; rfl, rfl⟩
  have b2 : decide (12 < (m : Int)) = false := decide_eq_false (by omega)
  by_cases c3 : d < 1
  · have b3 : decide ((d : Int) < 1) = true := decide_eq_true (by omega)
    have HN : Hid (r = none) := by show _ = _; rw [HR.out]; unfold dayN; rw [if_neg (by omega)]
    clear c1 c2 c3
    go_enter Tryz.func125, Tryz.ntmps125
    go_wp2
    go_ret2
    exact ⟨by rw [HN.out]; rfl, rfl⟩
  have b3 : decide ((d : Int) < 1) = false := decide_eq_false (by omega)
  have hm1 : 1 ≤ m := by omega
  have hm2 : m ≤ 12 := by omega
  have hd1 : 1 ≤ d := by omega
  clear c1 c2 c3
  have K : Hid (∀ k : Nat, 1 ≤ k → k ≤ 12 → ∀ w, Calls Tryz.prog 143 #[.int .i64 y, .int .i64 k] w fun e w' => e = .returned (.int .i64 (days y k : Nat)) ∧ w' = w) := fun k h1 h2 w => pDays_any y k w (by omega) h1 h2
  have hdl := days_le y m
  obtain ⟨D, hD⟩ : ∃ D, D = days y m := ⟨_, rfl⟩
  rw [← hD] at hdl
  have HD := hid hD
  clear hD
  by_cases c4 : D < d
  · have b4 : decide (D < d) = true := decide_eq_true (by omega)
    have HN : Hid (r = none) := by show _ = _; rw [HR.out]; unfold dayN; rw [if_neg (by rw [← HD.out]; omega)]
    clear c4
    go_enter Tryz.func125, Tryz.ntmps125
    go_wp2_with (go_at_call 143; refine (K.out m hm1 hm2 _).mono ?_; rintro e w' ⟨rfl, rfl⟩; rw [← HD.out])
    go_ret2
    exact ⟨by rw [HN.out]; rfl, rfl⟩
  have b4 : decide (D < d) = false := decide_eq_false (by omega)
  have HN : Hid (r = some (aheadN y + mo y m + (d - 1))) := by show _ = _; rw [HR.out]; unfold dayN; rw [if_pos ⟨hm1, hm2, hd1, by rw [← HD.out]; omega⟩]
  clear c4
  have hal := ahead_top (show y ≤ 10000 by omega)
  obtain ⟨a, ha⟩ : ∃ a, a = aheadN y := ⟨_, rfl⟩
  rw [← ha] at hal HN
  have KA : Hid (∀ w, Calls Tryz.prog 144 #[.int .i64 y] w fun e w' => e = .returned (.int .i64 (a : Int)) ∧ w' = w) := fun w => by rw [ha]; exact pAhead_any y w (by omega)
  clear ha
  have hMo : Hid (∀ k : Nat, 1 ≤ k → k ≤ 13 → mo y k ≤ 366) := fun k => mo_top y
  have hMs : Hid (∀ k : Nat, 1 ≤ k → mo y (k + 1) = mo y k + days y k) := fun k => mo_step y
  have hM1 : Hid (mo y 1 = 0) := rfl
  have hDk : Hid (∀ k : Nat, days y k ≤ 31) := days_le y
  go_enter Tryz.func125, Tryz.ntmps125
  go_wp2_with first | (go_at_call 143; refine (K.out m hm1 hm2 _).mono ?_; rintro e w' ⟨rfl, rfl⟩; rw [← HD.out]) | (go_at_call 144; refine (KA.out _).mono ?_; rintro e w' ⟨rfl, rfl⟩)
  go_loop [8, 9] (fun p q => ∃ (k v : Nat), 1 ≤ k ∧ k ≤ m ∧ p = .int .i64 v ∧ q = .int .i64 k ∧ Hid (v = a + (d - 1) + mo y k)) (fun _ q => m - (intOf q).toNat)
  case atStart => exact ⟨1, a + (d - 1), Nat.le_refl _, hm1, by congr 1; omega, rfl, by show _ = _; rw [hM1.out, Nat.add_zero]⟩
  case round =>
    obtain ⟨k, v, hk1, hk2, rfl, rfl, hv⟩ := hrel
    have hvl : v ≤ 2000000000 := by have := hMo.out k hk1 (by omega); rw [hv.out]; omega
    by_cases hlt : k < m
    · have hdl' := hDk.out k
      have hms := hMs.out k hk1
      obtain ⟨E, hE⟩ : ∃ E, E = days y k := ⟨_, rfl⟩
      rw [← hE] at hdl' hms
      have HE := hid hE
      have HM := hid hms
      clear hE hms
      go_wp2_with (go_at_call 143; refine (K.out k hk1 (by omega) _).mono ?_; rintro e w' ⟨rfl, rfl⟩; rw [← HE.out])
      refine ⟨⟨k + 1, v + E, by omega, by omega, by simp, by simp, ?_⟩, by simp [intOf]; omega⟩
      show _ = _
      rw [HM.out, hv.out]; omega
    · obtain rfl : k = m := by omega
      go_wp2_with fail
      go_ret2
      refine ⟨?_, rfl⟩
      rw [HN.out]
      exact opt2_some (by rw [hv.out]; omega)
end Go.Proofs.YtinlonpcakkfhaaGreatDoor
end
section
set_option maxRecDepth 100000
namespace Go.Proofs.YtinlonpcakkfhaaGreatDoor
open Go Go.Proofs Go.RowKit Dat
def iCells (l : List Nat) : List Value := l.map fun (n : Nat) => .int .i64 (n : Int)
theorem iCells_length (l : List Nat) : (iCells l).length = l.length := by simp [iCells]
theorem own_iterAt {w : World} {base : Nat} {e : TypeId} {size : Nat} {v : Value} {n : Nat} {xs : List Value} (h : w.ownsRow base e size v n xs) {k : Nat} {s : ByteArray} {pos : Nat} (hk : w.heap[k]? = some (.stringIter s pos)) (p : Nat) : (w.iterAt k s p).ownsRow base e size v n xs := by
  refine ⟨h.1, ?_⟩
  rcases h.2 with hn | ⟨g, cap, cur, hv, hb, hg, rest⟩
  · exact .inl hn
  · exact .inr ⟨g, cap, cur, hv, hb, (Lib.iterAt_other w k g s p (fun e => by subst e; rw [hk] at hg; cases hg)).trans hg, rest⟩
theorem own_not_iter {w : World} {base : Nat} {e : TypeId} {size : Nat} {v : Value} {n : Nat} {xs : List Value} (h : w.ownsRow base e size v n xs) {k : Nat} {s : ByteArray} {pos : Nat} (hk : w.heap[k]? = some (.stringIter s pos)) : v.ownBlock ≠ some k := by
  intro hv
  rcases h.2 with ⟨rfl, _⟩ | ⟨g, cap, cur, rfl, hb, hg, rest⟩
  · cases hv
  · injection hv with hv
    have hv : g = k := hv
    subst hv
    rw [hk] at hg; cases hg
theorem iter_grown {w w' : World} {row : Option Nat} {k : Nat} {o : Obj} (hk : w.heap[k]? = some o) (hg : w.grownBy w' row) (hne : row ≠ some k) : w'.heap[k]? = some o :=
  (hg.block k (Array.getElem?_eq_some_iff.1 hk).1 (fun e => hne e.symm)).trans hk
theorem iCells_set (init : List Nat) (a b : Nat) : (iCells (init ++ [a])).set init.length (.int .i64 (b : Int)) = iCells (init ++ [b]) := by
  simp [iCells]
theorem infoI64 : (Tryz.prog.info? 2).map (fun i => (i.zero, i.size, i.bytes)) = some (some (.int .i64 0), 1, 8) := by kernel_rfl
theorem size_list (s : ByteArray) : s.toList.length = s.size := by rw [Lib.toList_data]; rfl
theorem drop_list (s : ByteArray) (pos : Nat) (h : pos < s.size) : s.toList.drop pos = s[pos] :: s.toList.drop (pos + 1) := by
  rw [Lib.toList_data, List.drop_eq_getElem_cons (show pos < s.data.toList.length from h)]
  rfl
structure NumsAt (w0 : World) (s : ByteArray) (pos : Nat) (init : List Nat) (last : Nat) (g k cap : Nat) (wr : World) : Prop where
  len : k = init.length + 1
  own : wr.ownsRow w0.heap.size 2 1 (.slice (some ⟨g, 0, none⟩) k cap) k (iCells (init ++ [last]))
  it : wr.heap[w0.heap.size + 1]? = some (.stringIter s pos)
  bel : Below w0.heap.size w0 wr
def NumsEnd (r : Option (List Nat)) (w : World) (e : Ending) (w' : World) : Prop :=
  Below w.heap.size w w' ∧ (r = none → e = .returned (.tuple #[.slice none 0 0, .bool false])) ∧
    (∀ xs, r = some xs → ∃ g c, e = .returned (.tuple #[.slice (some ⟨g, 0, none⟩) xs.length c, .bool true]) ∧ w.heap.size ≤ g ∧ Reads w' w'.heap.size 1 (some ⟨g, 0, none⟩) xs.length (iCells xs))
set_option maxHeartbeats 8000000 in
theorem numbers_any (A : Option Addr) (n c : Nat) (l : List UInt8) (s : ByteArray) (w : World) (hr : Reads w w.heap.size 1 A n (Lib.byteCells l)) (hn0 : n ≤ 9223372036854775807) (hs : s.size ≤ 1099511627776)
    (hf : fits s.toList 0 = true) (ha : ∀ x ∈ s.toList, x.toNat < 128) :
    Calls Tryz.prog 121 #[.slice A n c, .string s] w fun e w' => NumsEnd (if n = s.size then numsR s.toList l [] 0 else none) w e w' := by
  have hl : l.length = n := by have := hr.1; simpa [Lib.byteCells_length] using this
  by_cases hns : n = s.size
  · have hn : n ≤ 1099511627776 := by omega
    clear hn0
    obtain ⟨r, hR⟩ : ∃ r, r = numsR s.toList l [] 0 := ⟨_, rfl⟩
    rw [if_pos hns, ← hR]
    have HR := hid hR
    have HL := hid hl
    have HF := hid hf
    have HA := hid ha
    have hnsI : ((n : Int) != (s.size : Int)) = false := by rw [bne_eq_false_iff_eq]; omega
    clear hR hl hf ha
    go_enter Tryz.func121, Tryz.ntmps121
    go_wp2_with fail
    have hl0 := World.ownsRow_lit (base := w.heap.size) (e := 2) (size := 1) w #[.int .i64 0] 1 (Nat.le_refl _) (by unfold maxLen; omega) rfl
    have hst : NumsAt w s 0 [] 0 w.heap.size 1 1 ((w.alloc (Obj.cells #[Value.int IntKind.i64 0] 2)).iter s 0) := by
      refine ⟨rfl, hl0.alloc _, ?_, ?_⟩
      · have := World.iter_heap (w.alloc (Obj.cells #[Value.int IntKind.i64 0] 2)) s 0
        simpa using this
      · exact ((Below.refl _ _).alloc (Nat.le_refl _) _).alloc (by simp) _
    have HST := hid hst
    clear hst hl0
    go_loopw [6] (fun q wr => ∃ (pos : Nat) (init : List Nat) (last g k cap kk : Nat), q = .slice (some ⟨g, 0, none⟩) k cap ∧ pos ≤ n ∧ k ≤ pos + 1 ∧ Hid (NumsAt w s pos init last g k cap wr) ∧ Hid (r = numsR (s.toList.drop pos) (l.drop pos) init last) ∧ Hid (fits (s.toList.drop pos) kk = true ∧ last < 10 ^ kk)) (fun _ wr => s.size - wr.iterPos (w.heap.size + 1))
    case atStart => exact ⟨0, [], 0, w.heap.size, 1, 1, 0, rfl, by omega, by omega, HST.out, by show _ = _; rw [HR.out]; rfl, ⟨HF.out, by decide⟩⟩
    case round =>
      clear HST
      obtain ⟨pos, init, last, g, k, cap, kk, rfl, hpos, hkp, hat, hrr, hff⟩ := hrel
      by_cases hp : pos < s.size
      · have hpn : pos < n := by omega
        obtain ⟨hk, hown, hit, hbel⟩ := hat.out
        have hno := own_not_iter hown hit
        have hgB := (hown.lt g rfl).1
        obtain ⟨sg, hsg⟩ : ∃ sg, sg = s[pos] := ⟨_, rfl⟩
        have hsl : s.toList.drop pos = sg :: s.toList.drop (pos + 1) := by rw [drop_list s pos hp, hsg]
        have hsa : sg.toNat < 128 := HA.out sg (by
          have : sg ∈ s.toList.drop pos := by rw [hsl]; exact List.mem_cons_self
          exact List.mem_of_mem_drop this)
        have hnx0 := fun ty => Lib.run_next_ascii_at (P := Tryz.prog) wr (w.heap.size + 1) s pos ty hit hp (by rw [← hsg]; exact hsa)
        obtain ⟨ad, y, rfl, _, hdl, _⟩ := dbyte (hr.below hbel) hpn
        obtain ⟨w1, hw1⟩ : ∃ w1, w1 = wr.iterAt (w.heap.size + 1) s (pos + 1) := ⟨_, rfl⟩
        have hown1 : w1.ownsRow w.heap.size 2 1 (.slice (some ⟨g, 0, none⟩) k cap) k (iCells (init ++ [last])) := by rw [hw1]; exact own_iterAt hown hit _
        have hit1 : w1.heap[w.heap.size + 1]? = some (.stringIter s (pos + 1)) := by rw [hw1]; exact Lib.iterAt_heap _ _ _ _ _ hit
        have hbel1 : Below w.heap.size w w1 := by rw [hw1]; exact Lib.below_iterAt hbel (by omega) _ _
        rw [← hw1, ← hsg] at hnx0
        have hnx : ∀ ty, (Instr.next (.pointer (some ⟨w.heap.size + 1, 0, none⟩)) true ty).run Tryz.prog wr = .ok (.tuple #[.bool true, .int .i64 pos, .int .i32 sg.toNat]) w1 := hnx0
        obtain ⟨ad', y', he, hcell, hdl', _⟩ := dbyte (hr.below hbel1) hpn
        injection he with he
        subst he
        obtain rfl : y = y' := by rw [hdl] at hdl'; injection hdl'
        have HSL := hid hsl
        have HDL := hid hdl
        have HOWN := hid hown1
        have HIT := hid hit1
        have HBEL := hid hbel1
        have HNO := hid hno
        have hm1 : wr.iterPos (w.heap.size + 1) = pos := by simp [World.iterPos, hit]
        have hy256 := y.toNat_lt
        clear hat hown hit hbel hno hsg hsl hnx0 hdl hdl' hown1 hit1 hbel1 hw1
        by_cases hz : sg = 48
        · subst hz
          by_cases hdg : dg y = true
          · obtain ⟨d1, d2⟩ := dv_lt hdg
            obtain ⟨hkk, hff'⟩ := fits_zero (by have := hff.out.1; rw [HSL.out] at this; exact this)
            have HRR : Hid (r = numsR (s.toList.drop (pos + 1)) (l.drop (pos + 1)) init (10 * last + dv y)) := by
              show _ = _
              rw [hrr.out, HSL.out, HDL.out, nums_zero hdg]
            have hlast : last < 100000000000000000 := Nat.lt_of_lt_of_le hff.out.2 (by
              have := Nat.pow_le_pow_right (show 0 < 10 by omega) (show kk ≤ 17 by omega)
              have e : (10 : Nat) ^ 17 = 100000000000000000 := by decide
              omega)
            have HFF : Hid (fits (s.toList.drop (pos + 1)) (kk + 1) = true ∧ 10 * last + dv y < 10 ^ (kk + 1)) := ⟨hff', by have := hff.out.2; rw [Nat.pow_succ]; omega⟩
            obtain ⟨dd, hdd⟩ : ∃ dd, dd = dv y := ⟨_, rfl⟩
            rw [← hdd] at HRR HFF d1 d2
            have b1 : decide (48 ≤ (y.toNat : Int)) = true := decide_eq_true (by omega)
            have b2 : decide ((y.toNat : Int) ≤ 57) = true := decide_eq_true (by omega)
            obtain ⟨j, hj⟩ : ∃ j, j = init.length := ⟨_, rfl⟩
            have hjI : (k : Int) - 1 = (j : Int) := by omega
            have hjk : j < k := by omega
            have hcl : w1.cell? ⟨g, j, none⟩ = some (.int .i64 (last : Int)) := by
              rw [World.ownsRow.cellAt HOWN.out j (by omega), hj]
              simp [iCells]
            have hfr : w1.frozen? ⟨g, j, none⟩ = false := World.ownsRow.frozenAt HOWN.out j
            have hyd : (y.toNat : Int) - 48 = (dd : Int) := by omega
            have HK := hid hk
            have HJ := hid hj
            clear hdg hkk hff hff' hrr hdd hk hj d2 hns
            go_wp2_with fail
            obtain ⟨o2, g2⟩ := World.ownsRow.stored HOWN.out j (.int .i64 ((10 * last + dd : Nat) : Int))
            have e2 : (10 * (last : Int) + (dd : Int)) = ((10 * last + dd : Nat) : Int) := by omega
            rw [e2]
            have it2 := iter_grown HIT.out g2 HNO.out
            have b2' := HBEL.out.setCell (p := ⟨g, j, none⟩) hgB (.int .i64 ((10 * last + dd : Nat) : Int))
            rw [HJ.out, iCells_set, ← HJ.out] at o2
            refine ⟨⟨pos + 1, init, 10 * last + dd, g, k, cap, kk + 1, rfl, by omega, by omega, ⟨HK.out, o2, it2, b2'⟩, HRR.out, HFF.out⟩, ?_⟩
            rw [hm1]
            have : World.iterPos (w1.setCell ⟨g, j, none⟩ (.int .i64 ((10 * last + dd : Nat) : Int))) (w.heap.size + 1) = pos + 1 := by unfold World.iterPos; rw [it2]
            rw [this]; omega
          · have hdg' : dg y = false := by simpa using hdg
            have hfin : Hid (r = none) := by show _ = _; rw [hrr.out, HSL.out, HDL.out, nums_zero_no hdg']
            by_cases c1 : 48 ≤ y.toNat
            · have b1 : decide (48 ≤ (y.toNat : Int)) = true := decide_eq_true (by omega)
              have b2 : decide ((y.toNat : Int) ≤ 57) = false := decide_eq_false (by intro h; simp [dg] at hdg'; have := hdg' c1; omega)
              clear c1 hdg hdg' hrr hff
              go_wp2_with fail
              go_ret2
              exact ⟨HBEL.out, fun _ => rfl, fun xs h => by rw [hfin.out] at h; cases h⟩
            · have b1 : decide (48 ≤ (y.toNat : Int)) = false := decide_eq_false (by omega)
              clear c1 hdg hdg' hrr hff
              go_wp2_with fail
              go_ret2
              exact ⟨HBEL.out, fun _ => rfl, fun xs h => by rw [hfin.out] at h; cases h⟩
        · have hzB : ((sg.toNat : Int) == 48) = false := by
            rw [beq_eq_false_iff_ne]; intro h
            exact hz (UInt8.toNat_inj.1 (by show sg.toNat = 48; omega))
          have hzB2 : ((sg.toNat : Int) != 48) = true := by
            rw [bne_iff_ne]; intro h
            exact hz (UInt8.toNat_inj.1 (by show sg.toNat = 48; omega))
          by_cases hys : y = sg
          · subst hys
            have b1 : ((y.toNat : Int) == (y.toNat : Int)) = true := beq_self_eq_true _
            have HRR : Hid (r = numsR (s.toList.drop (pos + 1)) (l.drop (pos + 1)) (init ++ [last]) 0) := by
              show _ = _
              rw [hrr.out, HSL.out, HDL.out, nums_sign hz]
            have HFF : Hid (fits (s.toList.drop (pos + 1)) 0 = true ∧ 0 < 10 ^ 0) := ⟨fits_sign hz (by have := hff.out.1; rw [HSL.out] at this; exact this), by decide⟩
            obtain ⟨i0, hi, hz0, hz1, hz2⟩ : ∃ i0, Tryz.prog.info? 2 = some i0 ∧ i0.zero = some (.int .i64 0) ∧ i0.size = 1 ∧ i0.bytes = 8 := by
              have h := infoI64
              cases hx : Tryz.prog.info? 2 with
              | none => rw [hx] at h; cases h
              | some i =>
                rw [hx] at h
                simp only [Option.map_some, Option.some.injEq, Prod.mk.injEq] at h
                exact ⟨i, rfl, h.1, h.2.1, h.2.2⟩
            have HI := hid hi
            have HK := hid hk
            have hsz1 := HBEL.out.size
            clear hi hk hz hff hrr hns
            go_wp2_with (at_builtin; refine wpList_append_own _ rfl _ _ 119 rfl w.heap.size 2 i0 (.int .i64 0) 1 8 Tryz.underlying119 HI.out hz0 hz1 hz2 rfl (by decide) _ _ _ rfl (HOWN.out.alloc _) ⟨w1.heap.size, 0, none⟩ 1 1 [.int .i64 0] rfl rfl ?c1 ?c2 ?c3 ?c4 ?c5 ?_)
            case c1 =>
              intro j u hj
              match j, hj with
              | 0, hj => simp at hj; subst hj; simp [Addr.add]
            case c2 => intro u hu; simp at hu; subst hu; rfl
            case c3 => unfold maxLen; omega
            case c4 => omega
            case c5 => have := hsz1; simp; omega
            intro v' w2 hown' hgrow _
            have hal : (w1.alloc (Obj.cells #[Value.int IntKind.i64 0] 2)).heap[w.heap.size + 1]? = some (.stringIter s (pos + 1)) :=
              (Below.heap_alloc w1 _ _ (Array.getElem?_eq_some_iff.1 HIT.out).1).trans HIT.out
            have hit2 := iter_grown hal hgrow HNO.out
            have hb2 : Below w.heap.size w w2 := (HBEL.out.alloc HBEL.out.size _).grown hgrow (by have := hsz1; simp; omega) (fun q hq => (HOWN.out.lt q hq).1)
            have hown2 : w2.ownsRow w.heap.size 2 1 v' (k + 1) (iCells ((init ++ [last]) ++ [0])) := by
              have e : iCells ((init ++ [last]) ++ [0]) = iCells (init ++ [last]) ++ [.int .i64 0] := by simp [iCells]
              rw [e]; exact hown'
            obtain ⟨g', cap', rfl, _⟩ := hown2.form (by omega)
            have HO2 := hid hown2
            have HI2 := hid hit2
            have HB2 := hid hb2
            clear hown' hgrow hal hit2 hb2 hown2
            go_wp2_with fail
            refine ⟨⟨pos + 1, init ++ [last], 0, g', k + 1, cap', 0, rfl, by omega, by omega, ⟨by rw [List.length_append, HK.out]; rfl, HO2.out, HI2.out, HB2.out⟩, HRR.out, HFF.out⟩, ?_⟩
            rw [hm1]
            have : World.iterPos w2 (w.heap.size + 1) = pos + 1 := by unfold World.iterPos; rw [HI2.out]
            rw [this]; omega
          · have hfin : Hid (r = none) := by show _ = _; rw [hrr.out, HSL.out, HDL.out, nums_sign_no hz hys]
            have b1 : ((sg.toNat : Int) == (y.toNat : Int)) = false := by
              rw [beq_eq_false_iff_ne]; intro h
              exact hys (UInt8.toNat_inj.1 (by omega))
            clear hys hz hrr hff
            go_wp2_with fail
            go_ret2
            exact ⟨HBEL.out, fun _ => rfl, fun xs h => by rw [hfin.out] at h; cases h⟩
      · obtain rfl : pos = n := by omega
        obtain ⟨hk, hown, hit, hbel⟩ := hat.out
        have hfin : Hid (r = some (init ++ [last])) := by
          show _ = _
          rw [hrr.out, List.drop_of_length_le (by rw [size_list]; omega)]
          rfl
        have hrd := World.ownsRow.cells hown (g := g) rfl
        have hgl := (hown.lt g rfl)
        have hlen : (init ++ [last]).length = k := by simp; omega
        have HRD : Hid (Reads wr wr.heap.size 1 (some ⟨g, 0, none⟩) k (iCells (init ++ [last]))) := ⟨by rw [iCells_length, hlen, Nat.mul_one], fun _ => ⟨_, rfl, hgl.2, hrd⟩⟩
        have HB := hid hbel
        have HLEN := hid hlen
        have hnx : ∀ ty, (Instr.next (.pointer (some ⟨w.heap.size + 1, 0, none⟩)) true ty).run Tryz.prog wr = _ := fun ty => Lib.run_next_end_at wr (w.heap.size + 1) s pos ty hit hp
        have hg1 := hgl.1
        clear hown hit hbel hrd hgl hlen hat
        go_wp2_with fail
        go_ret2
        refine ⟨HB.out, fun h => (by rw [hfin.out] at h; cases h), fun xs h => ?_⟩
        rw [hfin.out] at h
        injection h with h
        subst h
        rw [HLEN.out]
        exact ⟨g, cap, rfl, hg1, HRD.out⟩
  · rw [if_neg hns]
    have hnsI : ((n : Int) != (s.size : Int)) = true := by rw [bne_iff_ne]; omega
    clear hns hl
    go_enter Tryz.func121, Tryz.ntmps121
    go_wp2_with fail
    go_ret2
    exact ⟨Below.refl _ _, fun _ => rfl, fun xs h => by cases h⟩
end Go.Proofs.YtinlonpcakkfhaaGreatDoor
end
section
set_option maxRecDepth 100000
namespace Go.Proofs.YtinlonpcakkfhaaGreatDoor
open Go Go.Proofs Go.RowKit Dat
theorem clockS_list : (⟨#[48, 48, 58, 48, 48, 58, 48, 48]⟩ : ByteArray).toList = clockS := by rw [Lib.toList_data]; rfl
theorem dateS_list : (⟨#[48, 48, 48, 48, 45, 48, 48, 45, 48, 48, 95, 48, 48, 58, 48, 48, 58, 48, 48]⟩ : ByteArray).toList = dateS := by rw [Lib.toList_data]; rfl
theorem clock_some {l : List UInt8} (hl : l.length = 8) {xs : List Nat} (h : numsR clockS l [] 0 = some xs) : ∃ a b c, xs = [a, b, c] ∧ a ≤ 99 ∧ b ≤ 99 ∧ c ≤ 99 := by
  match l, hl with
  | [a, b, c, d, e, f, g, k], _ =>
    rw [nums_clock] at h
    split at h
    · rename_i hc
      injection h with h
      exact ⟨_, _, _, h.symm, pr_le hc.1 hc.2.1, pr_le hc.2.2.2.1 hc.2.2.2.2.1, pr_le hc.2.2.2.2.2.2.1 hc.2.2.2.2.2.2.2⟩
    · cases h
theorem date_some {l : List UInt8} (hl : l.length = 19) {xs : List Nat} (h : numsR dateS l [] 0 = some xs) : ∃ y m d a b c, xs = [y, m, d, a, b, c] ∧ y ≤ 9999 ∧ m ≤ 99 ∧ d ≤ 99 ∧ a ≤ 99 ∧ b ≤ 99 ∧ c ≤ 99 := by
  match l, hl with
  | [a0, a1, a2, a3, a4, a5, a6, a7, a8, a9, a10, a11, a12, a13, a14, a15, a16, a17, a18], _ =>
    obtain ⟨hp, hn⟩ := nums_date a0 a1 a2 a3 a4 a5 a6 a7 a8 a9 a10 a11 a12 a13 a14 a15 a16 a17 a18
    by_cases hc : dateAll [a0, a1, a2, a3, a4, a5, a6, a7, a8, a9, a10, a11, a12, a13, a14, a15, a16, a17, a18]
    · rw [hp hc] at h
      injection h with h
      obtain ⟨g0, g1, g2, g3, _, g5, g6, _, g8, g9, _, g11, g12, _, g14, g15, _, g17, g18⟩ := hc
      have := pr_le g0 g1; have := pr_le g2 g3
      exact ⟨_, _, _, _, _, _, h.symm, by omega, pr_le g5 g6, pr_le g8 g9, pr_le g11 g12, pr_le g14 g15, pr_le g17 g18⟩
    · rw [hn hc] at h; cases h
theorem clock_all (l : List UInt8) : clockR l = clockOf (if l.length = 8 then numsR clockS l [] 0 else none) := by
  by_cases h : l.length = 8
  · rw [if_pos h, clock_nums h]
  · rw [if_neg h, clock_short h]; rfl
theorem date_all (l : List UInt8) : dateR l = dateOf (if l.length = 19 then numsR dateS l [] 0 else none) := by
  by_cases h : l.length = 19
  · rw [if_pos h, date_nums h]
  · rw [if_neg h, date_short h]; rfl
theorem dat_drewN {B k : Nat} {a w : World} (h : Below B a w) : Below B a (w.drewN k) := ⟨h.os, h.tape, h.output, h.size, h.block⟩
theorem dayN_le {y m d v : Nat} (hy : y ≤ 9999) (h : dayN y m d = some v) : v ≤ 4000000 := by
  unfold dayN at h
  split at h
  · rename_i hc
    injection h with h
    have := ahead_top (show y ≤ 10000 by omega); have := mo_top y hc.1 (show m ≤ 13 by omega); have := days_le y m
    omega
  · cases h
theorem clockN_le {h m s v : Nat} (e : clockN h m s = some v) : v ≤ 86400 := by
  unfold clockN at e
  split at e
  · injection e with e; omega
  · cases e
theorem icell {w : World} {B : Nat} {g n j : Nat} {xs : List Nat} {v : Nat} (h : Reads w B 1 (some ⟨g, 0, none⟩) n (iCells xs)) (hn : 0 < n) (hj : xs[j]? = some v) : w.cell? ⟨g, j, none⟩ = some (.int .i64 (v : Int)) := by
  obtain ⟨ad, e, _, hc⟩ := h.2 hn
  injection e with e
  subst e
  have := hc j (.int .i64 (v : Int)) (by simp [iCells, hj])
  rwa [show (⟨g, 0, none⟩ : Addr).add j = ⟨g, j, none⟩ from by unfold Addr.add; split <;> simp_all] at this
set_option maxHeartbeats 400000 in
theorem pClock_any (A : Option Addr) (n c : Nat) (l : List UInt8) (w : World) (hr : Reads w w.heap.size 1 A n (Lib.byteCells l)) (hn : n ≤ 9223372036854775807) :
    Calls Tryz.prog 101 #[.slice A n c] w fun e w' => OptEnd (clockR l) w e w' := by
  have hl : l.length = n := by have := hr.1; simpa [Lib.byteCells_length] using this
  obtain ⟨r, hR⟩ : ∃ r, r = clockR l := ⟨_, rfl⟩
  have hA := clock_all l
  rw [← hR] at hA ⊢
  rw [hl] at hA
  obtain ⟨q, hq⟩ : ∃ q, q = (if n = 8 then numsR clockS l [] 0 else none) := ⟨_, rfl⟩
  rw [← hq] at hA
  have K : Hid (∀ w, Reads w w.heap.size 1 A n (Lib.byteCells l) → Calls Tryz.prog 121 #[.slice A n c, .string ⟨#[48, 48, 58, 48, 48, 58, 48, 48]⟩] w fun e w' => NumsEnd q w e w') := by
    intro w hr
    have h := numbers_any A n c l ⟨#[48, 48, 58, 48, 48, 58, 48, 48]⟩ w hr hn (by decide) (by rw [clockS_list]; exact fits_clock) (by rw [clockS_list]; decide)
    rw [clockS_list] at h
    have e : (⟨#[48, 48, 58, 48, 48, 58, 48, 48]⟩ : ByteArray).size = 8 := rfl
    rw [e, ← hq] at h
    exact h
  cases hx : q with
  | none =>
    rw [hx] at hA K
    have hA' : r = none := hA
    subst hA'
    clear hA hq hx hR hl
    go_enter Tryz.func101, Tryz.ntmps101
    go_wp2_with (go_at_call 121; refine (K.out _ hr).mono ?_; rintro e w1 ⟨hb, h1, _⟩; obtain rfl := h1 rfl)
    go_ret2
    exact ⟨rfl, ‹_›⟩
  | some xs =>
    have hn8 : n = 8 := by
      rcases Nat.decEq n 8 with h | h
      · rw [hq, if_neg h] at hx; cases hx
      · exact h
    rw [hx] at hq
    rw [if_pos hn8] at hq
    obtain ⟨a, b, d, rfl, ha, hb, hd⟩ := clock_some (by rw [hl, hn8]) hq.symm
    rw [hx] at hA K
    have hA' : r = clockN a b d := hA
    have HA := hid hA'
    obtain ⟨vv, kk, he, _, _⟩ := opt_parts r
    have KC : Hid (∀ w, Calls Tryz.prog 122 #[.int .i64 a, .int .i64 b, .int .i64 d] w fun e w' => e = .returned (.tuple #[.int .i64 (vv : Int), .bool kk]) ∧ w' = w) := fun w => by rw [← he, hA']; exact pClockN_any a b d w (by omega) (by omega) (by omega)
    have HE := hid he
    clear hA hA' hq hx hR hl he hn8
    go_enter Tryz.func101, Tryz.ntmps101
    go_upto_region 4 with (go_at_call 121; refine (K.out _ hr).mono ?_; rintro e w1 ⟨hb, _, h1⟩; have h2 := h1 [a, b, d] rfl; clear h1; obtain ⟨g, c1, h3, hg, hrd⟩ := h2; subst h3; have HRD := hid hrd; have HB := hid hb; clear hb hrd)
    have c0 := icell (j := 0) HRD.out (by simp) rfl
    have c1 := icell (j := 1) HRD.out (by simp) rfl
    have c2 := icell (j := 2) HRD.out (by simp) rfl
    go_quiet ((go_at_call 122; exact Calls.quiet_of_same (KC.out _)))
    go_wp2
    go_ret2
    exact ⟨by rw [HE.out]; rfl, dat_drewN HB.out⟩
set_option maxHeartbeats 4000000 in
theorem pGet_any (A : Option Addr) (n c : Nat) (l : List UInt8) (w : World) (hr : Reads w w.heap.size 1 A n (Lib.byteCells l)) (hn : n ≤ 9223372036854775807) :
    Calls Tryz.prog 103 #[.slice A n c] w fun e w' => OptEnd (dateR l) w e w' := by
  have hl : l.length = n := by have := hr.1; simpa [Lib.byteCells_length] using this
  obtain ⟨r, hR⟩ : ∃ r, r = dateR l := ⟨_, rfl⟩
  have hA := date_all l
  rw [← hR] at hA ⊢
  rw [hl] at hA
  obtain ⟨q, hq⟩ : ∃ q, q = (if n = 19 then numsR dateS l [] 0 else none) := ⟨_, rfl⟩
  rw [← hq] at hA
  have K : Hid (∀ w, Reads w w.heap.size 1 A n (Lib.byteCells l) → Calls Tryz.prog 121 #[.slice A n c, .string ⟨#[48, 48, 48, 48, 45, 48, 48, 45, 48, 48, 95, 48, 48, 58, 48, 48, 58, 48, 48]⟩] w fun e w' => NumsEnd q w e w') := by
    intro w hr
    have h := numbers_any A n c l ⟨#[48, 48, 48, 48, 45, 48, 48, 45, 48, 48, 95, 48, 48, 58, 48, 48, 58, 48, 48]⟩ w hr hn (by decide) (by rw [dateS_list]; exact fits_date) (by rw [dateS_list]; decide)
    rw [dateS_list] at h
    have e : (⟨#[48, 48, 48, 48, 45, 48, 48, 45, 48, 48, 95, 48, 48, 58, 48, 48, 58, 48, 48]⟩ : ByteArray).size = 19 := rfl
    rw [e, ← hq] at h
    exact h
  cases hx : q with
  | none =>
    rw [hx] at hA K
    have hA' : r = none := hA
    subst hA'
    clear hA hq hx hR hl
    go_enter Tryz.func103, Tryz.ntmps103
    go_wp2_with (go_at_call 121; refine (K.out _ hr).mono ?_; rintro e w1 ⟨hb, h1, _⟩; obtain rfl := h1 rfl)
    go_ret2
    exact ⟨rfl, ‹_›⟩
  | some xs =>
    have hn8 : n = 19 := by
      rcases Nat.decEq n 19 with h | h
      · rw [hq, if_neg h] at hx; cases hx
      · exact h
    rw [hx] at hq
    rw [if_pos hn8] at hq
    obtain ⟨y, m, d, a, b, s, rfl, hy, hm, hd, ha, hb, hs⟩ := date_some (by rw [hl, hn8]) hq.symm
    rw [hx] at hA K
    have hA' : r = dateN y m d a b s := hA
    have HA := hid hA'
    obtain ⟨v1, k1, e1, x1, z1⟩ := opt_parts (dayN y m d)
    obtain ⟨v2, k2, e2, x2, z2⟩ := opt_parts (clockN a b s)
    have KD : Hid (∀ w, Calls Tryz.prog 125 #[.int .i64 y, .int .i64 m, .int .i64 d] w fun e w' => e = .returned (.tuple #[.int .i64 (v1 : Int), .bool k1]) ∧ w' = w) := fun w => by rw [← e1]; exact pDayN_any y m d w (by omega) (by omega) (by omega)
    have KC : Hid (∀ w, Calls Tryz.prog 122 #[.int .i64 a, .int .i64 b, .int .i64 s] w fun e w' => e = .returned (.tuple #[.int .i64 (v2 : Int), .bool k2]) ∧ w' = w) := fun w => by rw [← e2]; exact pClockN_any a b s w (by omega) (by omega) (by omega)
    have hv1 : v1 ≤ 4000000 := by
      cases k1 with
      | false => rw [z1 rfl]; omega
      | true => exact dayN_le hy x1
    have hv2 : v2 ≤ 86400 := by
      cases k2 with
      | false => rw [z2 rfl]; omega
      | true => exact clockN_le x2
    have HR : Hid (r = if k1 = true ∧ k2 = true then some (v1 * 86400 + v2) else none) := by
      show _ = _
      rw [hA']; unfold dateN; rw [x1, x2]
      cases k1 <;> cases k2 <;> rfl
    clear hA hA' hq hx hR hl hn8 e1 e2 x1 x2 z1 z2
    go_enter Tryz.func103, Tryz.ntmps103
    go_upto_region 4 with (go_at_call 121; refine (K.out _ hr).mono ?_; rintro e w1 ⟨hb, _, h1⟩; have h2 := h1 [y, m, d, a, b, s] rfl; clear h1; obtain ⟨g, c1, h3, hg, hrd⟩ := h2; subst h3; have HRD := hid hrd; have HB := hid hb; clear hb hrd)
    have c0 := icell (j := 0) HRD.out (by simp) rfl
    have c1 := icell (j := 1) HRD.out (by simp) rfl
    have c2 := icell (j := 2) HRD.out (by simp) rfl
    go_quiet ((go_at_call 125; exact Calls.quiet_of_same (KD.out _)))
    go_upto_region 5 with fail
    have HRD2 : Hid (Reads (w1.drewN nq) w1.heap.size 1 (some ⟨g, 0, none⟩) [y, m, d, a, b, s].length (iCells [y, m, d, a, b, s])) := HRD.out.drewN nq
    have HB2 := hid (dat_drewN (k := nq) HB.out)
    generalize w1.drewN nq = w2 at HRD2 HB2 ⊢
    have d3 := icell (j := 3) HRD2.out (by simp) rfl
    have d4 := icell (j := 4) HRD2.out (by simp) rfl
    have d5 := icell (j := 5) HRD2.out (by simp) rfl
    go_quiet ((go_at_call 122; exact Calls.quiet_of_same (KC.out _)))
    cases k1 with
    | false =>
      go_wp2_with fail
      go_ret2
      exact ⟨by rw [HR.out]; rfl, dat_drewN HB2.out⟩
    | true =>
      cases k2 with
      | false =>
        go_wp2_with fail
        go_ret2
        exact ⟨by rw [HR.out]; rfl, dat_drewN HB2.out⟩
      | true =>
        go_wp2_with fail
        go_ret2
        exact ⟨by rw [HR.out]; exact opt2_some (by simp), dat_drewN HB2.out⟩
end Go.Proofs.YtinlonpcakkfhaaGreatDoor
end
section
set_option maxRecDepth 100000
namespace Go.Proofs.YtinlonpcakkfhaaGreatDoor
open Go Go.Proofs Go.RowKit _root_.Ord11 Go.Proofs.YtinlonpcakkfhaaGreatDoor.Ord11 Num9 Dat
def NumericEnd (l : List UInt8) (w : World) (e : Ending) (w' : World) : Prop :=
  ∃ x ok, e = .returned (.tuple #[.float .f64 x, .bool ok]) ∧ (ok = true → numK l = key x ∧ (key x).isSome = true) ∧ (ok = false → numK l = none) ∧ Below w.heap.size w w'
set_option maxHeartbeats 4000000 in
theorem numeric_any {A : Option Addr} {n c : Nat} {l : List UInt8} {w : World} (h : SlAt w w.heap.size A n c l) :
    Calls Tryz.prog 99 #[.slice A n c] w fun e w' => NumericEnd l w e w' := by
  have K := hid (get9_prog A n c l w h.rd h.fit h.cap)
  clear h
  have KN : Hid (∀ x w, Calls Tryz.prog 118 #[.float .f64 x] w fun e w' => e = .returned (.bool (key x).isNone) ∧ w' = w) := isNaN_any
  go_enter Tryz.func99, Tryz.ntmps99
  go_upto_region 1 with fail
  go_upto_region 2 with (go_at_call 117; refine K.out.mono ?_; rintro e w1 ⟨x, ok, rfl, hx, hb⟩; have HX := hid (is_key hx); have HB := hid hb; clear hx hb)
  cases hk : key x with
  | none =>
    have HK := hid hk
    clear hk
    go_wp2_with (go_at_call 118; refine (KN.out _ _).mono ?_; rintro e w2 ⟨rfl, rfl⟩; rw [HK.out]; simp only [Option.isNone_none])
    go_ret2
    refine ⟨_, _, rfl, (fun h => by cases h), (fun _ => ?_), HB.out⟩
    cases ok with
    | false => exact HX.out.1 rfl
    | true => rw [HX.out.2 rfl, HK.out]
  | some a =>
    have HK := hid hk
    clear hk
    go_wp2_with (go_at_call 118; refine (KN.out _ _).mono ?_; rintro e w2 ⟨rfl, rfl⟩; rw [HK.out]; simp only [Option.isNone_some])
    go_ret2
    exact ⟨_, _, rfl, (fun h => ⟨HX.out.2 h, by rw [HK.out]; rfl⟩), HX.out.1, HB.out⟩
set_option maxHeartbeats 4000000 in
theorem byNumF {A A' : Option Addr} {n c n' c' : Nat} {a b : List UInt8} {w : World} (g : Nat) (hg : g < w.heap.size) (hcell : w.cell? ⟨g, 0, none⟩ = some (.func (.func 99) #[] #[])) (h : SlAt w w.heap.size A n c a) (h' : SlAt w w.heap.size A' n' c' b) :
    Calls Tryz.prog 115 #[.slice A n c, .slice A' n' c', .pointer (some ⟨g, 0, none⟩)] w fun e w' => e = .returned (.tuple #[.int .i64 (keyed numK a b).1, .bool (keyed numK a b).2]) ∧ Below w.heap.size w w' := by
  have H := hid h
  have H' := hid h'
  have HG := hid hg
  have HC := hid hcell
  clear h h' hg
  obtain ⟨X, hX⟩ : ∃ X, X = keyed numK a b := ⟨_, rfl⟩
  rw [← hX]
  have HX := hid hX
  clear hX
  go_enter Tryz.func115, Tryz.ntmps115
  go_upto_region 2 with (go_at_call 99; refine (numeric_any H.out).mono ?_; rintro e w1 ⟨x, ok, rfl, hx1, hx2, hb⟩; have X1 := hid hx1; have X2 := hid hx2; have HB := hid hb; have hcell1 := (hb.cell HG.out).trans HC.out; clear hx1 hx2 hb)
  go_upto_region 3 with (go_at_call 99; refine (numeric_any (H'.out.next HB.out)).mono ?_; rintro e w2 ⟨y, is, rfl, hy1, hy2, hb⟩; have Y1 := hid hy1; have Y2 := hid hy2; have HB2 := hid (next_below HB.out hb); clear hy1 hy2 hb)
  cases ok with
  | false =>
    go_wp2_with fail
    go_ret2
    exact ⟨by rw [HX.out, keyed_none (.inl (X2.out (by simp)))]; rfl, HB2.out⟩
  | true =>
    cases is with
    | false =>
      go_wp2_with fail
      go_ret2
      exact ⟨by rw [HX.out, keyed_none (.inr (Y2.out (by simp)))]; rfl, HB2.out⟩
    | true =>
      have hK : Hid ((cmpI (Ieee.double.order x y), (Ieee.double.order x y).isSome) = X) := by
        show _ = _
        rw [HX.out]
        exact cmp_key x y a b (X1.out (by simp)).1 (Y1.out (by simp)).1
      have hO : Hid ((Ieee.double.order x y).isSome = true) := by
        show _ = _
        rw [order_key]
        obtain ⟨p, hp⟩ := Option.isSome_iff_exists.1 (X1.out (by simp)).2
        obtain ⟨q, hq⟩ := Option.isSome_iff_exists.1 (Y1.out (by simp)).2
        rw [hp, hq]; rfl
      have KC := hid (cmp_f64 x y (X1.out (by simp)).2 (Y1.out (by simp)).2 w2)
      generalize cmpI (Ieee.double.order x y) = p at hK KC
      generalize (Ieee.double.order x y).isSome = q at hK hO
      go_wp2_with (go_at_call 116; refine KC.out.mono ?_; rintro e w3 ⟨rfl, rfl⟩)
      go_ret2
      exact ⟨by rw [← hK.out, hO.out]; rfl, HB2.out⟩
set_option maxHeartbeats 4000000 in
theorem byNumC {A A' : Option Addr} {n c n' c' : Nat} {a b : List UInt8} {w : World} (g : Nat) (hg : g < w.heap.size) (hcell : w.cell? ⟨g, 0, none⟩ = some (.func (.func 101) #[] #[])) (h : SlAt w w.heap.size A n c a) (h' : SlAt w w.heap.size A' n' c' b) :
    Calls Tryz.prog 119 #[.slice A n c, .slice A' n' c', .pointer (some ⟨g, 0, none⟩)] w fun e w' => e = .returned (.tuple #[.int .i64 (keyed clockK a b).1, .bool (keyed clockK a b).2]) ∧ Below w.heap.size w w' := by
  have H := hid h
  have H' := hid h'
  have HG := hid hg
  have HC := hid hcell
  obtain ⟨x, ok, e1, ha, _⟩ := opt_parts (clockR a)
  obtain ⟨y, is, e2, hb, _⟩ := opt_parts (clockR b)
  have E1 := hid e1
  have E2 := hid e2
  have HA := hid ha
  have HB := hid hb
  clear h h' hg e1 e2 ha hb
  obtain ⟨X, hX⟩ : ∃ X, X = keyed clockK a b := ⟨_, rfl⟩
  rw [← hX]
  have HX := hid hX
  clear hX
  go_enter Tryz.func119, Tryz.ntmps119
  go_upto_region 2 with (go_at_call 101; refine (pClock_any A n c a w H.out.rd (by have := H.out.fit; omega)).mono ?_; rintro e w1 ⟨q1, hb1⟩; rw [E1.out] at q1; subst q1; have HB1 := hid hb1; have hcell1 := (hb1.cell HG.out).trans HC.out; clear hb1)
  go_upto_region 3 with (go_at_call 101; refine (pClock_any A' n' c' b w1 (H'.out.next HB1.out).rd (by have := H'.out.fit; omega)).mono ?_; rintro e w2 ⟨q2, hb2⟩; rw [E2.out] at q2; subst q2; have HB2 := hid (next_below HB1.out hb2); clear hb2)
  cases ok with
  | false =>
    go_wp2_with fail
    go_ret2
    exact ⟨by rw [HX.out, keyed_none (.inl (by unfold clockK; rw [HA.out]; rfl))]; rfl, HB2.out⟩
  | true =>
    cases is with
    | false =>
      go_wp2_with fail
      go_ret2
      exact ⟨by rw [HX.out, keyed_none (.inr (by unfold clockK; rw [HB.out]; rfl))]; rfl, HB2.out⟩
    | true =>
      have KC := hid (cmp_i64 x y w2)
      have hK : Hid (X = (Go.Proofs.YtinlonpcakkfhaaGreatDoor.Ord11.three (decide (x < y)) (decide (y < x)), true)) := by
        show _ = _
        rw [HX.out]
        have q1 : clockK a = some (x : Int) := by unfold clockK; rw [HA.out]; rfl
        have q2 : clockK b = some (y : Int) := by unfold clockK; rw [HB.out]; rfl
        rw [keyed_one q1 q2]
        simp only [Int.ofNat_lt]
      generalize Go.Proofs.YtinlonpcakkfhaaGreatDoor.Ord11.three (decide (x < y)) (decide (y < x)) = p at hK KC
      go_wp2_with (go_at_call 120; refine KC.out.mono ?_; rintro e w3 ⟨rfl, rfl⟩)
      go_ret2
      exact ⟨by rw [hK.out]; rfl, HB2.out⟩
set_option maxHeartbeats 4000000 in
theorem byNumD {A A' : Option Addr} {n c n' c' : Nat} {a b : List UInt8} {w : World} (g : Nat) (hg : g < w.heap.size) (hcell : w.cell? ⟨g, 0, none⟩ = some (.func (.func 103) #[] #[])) (h : SlAt w w.heap.size A n c a) (h' : SlAt w w.heap.size A' n' c' b) :
    Calls Tryz.prog 119 #[.slice A n c, .slice A' n' c', .pointer (some ⟨g, 0, none⟩)] w fun e w' => e = .returned (.tuple #[.int .i64 (keyed dateK a b).1, .bool (keyed dateK a b).2]) ∧ Below w.heap.size w w' := by
  have H := hid h
  have H' := hid h'
  have HG := hid hg
  have HC := hid hcell
  obtain ⟨x, ok, e1, ha, _⟩ := opt_parts (dateR a)
  obtain ⟨y, is, e2, hb, _⟩ := opt_parts (dateR b)
  have E1 := hid e1
  have E2 := hid e2
  have HA := hid ha
  have HB := hid hb
  clear h h' hg e1 e2 ha hb
  obtain ⟨X, hX⟩ : ∃ X, X = keyed dateK a b := ⟨_, rfl⟩
  rw [← hX]
  have HX := hid hX
  clear hX
  go_enter Tryz.func119, Tryz.ntmps119
  go_upto_region 2 with (go_at_call 103; refine (pGet_any A n c a w H.out.rd (by have := H.out.fit; omega)).mono ?_; rintro e w1 ⟨q1, hb1⟩; rw [E1.out] at q1; subst q1; have HB1 := hid hb1; have hcell1 := (hb1.cell HG.out).trans HC.out; clear hb1)
  go_upto_region 3 with (go_at_call 103; refine (pGet_any A' n' c' b w1 (H'.out.next HB1.out).rd (by have := H'.out.fit; omega)).mono ?_; rintro e w2 ⟨q2, hb2⟩; rw [E2.out] at q2; subst q2; have HB2 := hid (next_below HB1.out hb2); clear hb2)
  cases ok with
  | false =>
    go_wp2_with fail
    go_ret2
    exact ⟨by rw [HX.out, keyed_none (.inl (by unfold dateK; rw [HA.out]; rfl))]; rfl, HB2.out⟩
  | true =>
    cases is with
    | false =>
      go_wp2_with fail
      go_ret2
      exact ⟨by rw [HX.out, keyed_none (.inr (by unfold dateK; rw [HB.out]; rfl))]; rfl, HB2.out⟩
    | true =>
      have KC := hid (cmp_i64 x y w2)
      have hK : Hid (X = (Go.Proofs.YtinlonpcakkfhaaGreatDoor.Ord11.three (decide (x < y)) (decide (y < x)), true)) := by
        show _ = _
        rw [HX.out]
        have q1 : dateK a = some (x : Int) := by unfold dateK; rw [HA.out]; rfl
        have q2 : dateK b = some (y : Int) := by unfold dateK; rw [HB.out]; rfl
        rw [keyed_one q1 q2]
        simp only [Int.ofNat_lt]
      generalize Go.Proofs.YtinlonpcakkfhaaGreatDoor.Ord11.three (decide (x < y)) (decide (y < x)) = p at hK KC
      go_wp2_with (go_at_call 120; refine KC.out.mono ?_; rintro e w3 ⟨rfl, rfl⟩)
      go_ret2
      exact ⟨by rw [hK.out]; rfl, HB2.out⟩
set_option maxHeartbeats 4000000 in
theorem asTexts_any {A A' : Option Addr} {n c n' c' : Nat} {a b : List UInt8} {w : World} (h : SlAt w w.heap.size A n c a) (h' : SlAt w w.heap.size A' n' c' b) :
    Calls Tryz.prog 97 #[.slice A n c, .slice A' n' c'] w fun e w' => e = .returned (.tuple #[.int .i64 (textC a b).1, .bool (textC a b).2]) ∧ Below w.heap.size w w' := by
  have K := hid (cmpBytes_any (c := c) (c' := c') h.rd h'.rd)
  have h2 : (textC a b).2 = true := rfl
  rw [h2]
  generalize (textC a b).1 = p at K
  clear h h' h2
  go_enter Tryz.func97, Tryz.ntmps97
  go_wp2_with (go_at_call 114; refine K.out.mono ?_; rintro e w3 ⟨rfl, rfl⟩)
  go_ret2
  exact ⟨rfl, Below.refl _ _⟩
set_option maxHeartbeats 4000000 in
theorem asBinary_any {A A' : Option Addr} {n c n' c' : Nat} {a b : List UInt8} {w : World} (h : SlAt w w.heap.size A n c a) (h' : SlAt w w.heap.size A' n' c' b) :
    Calls Tryz.prog 102 #[.slice A n c, .slice A' n' c'] w fun e w' => e = .returned (.tuple #[.int .i64 (keyed binK a b).1, .bool (keyed binK a b).2]) ∧ Below w.heap.size w w' := by
  obtain ⟨X, hX⟩ : ∃ X, X = Go.Proofs.YtinlonpcakkfhaaGreatDoor.Ord11.bare a := ⟨_, rfl⟩
  obtain ⟨Y, hY⟩ : ∃ Y, Y = Go.Proofs.YtinlonpcakkfhaaGreatDoor.Ord11.bare b := ⟨_, rfl⟩
  have K1 := trimLeft_any A n c _ a w h
  have K2 := trimLeft_any A' n' c' _ b w h'
  have hbt : (keyed binK a b).1 = _ := bin_told a b
  have hok : (keyed binK a b).2 = true := by rw [keyed_ok]; rfl
  rw [← hX] at K1 hbt
  rw [← hY] at K2 hbt
  rw [hok]
  generalize (keyed binK a b).1 = p at hbt
  have HBT := hid hbt
  have H1 := hid K1
  have H2 := hid K2
  clear hX hY K1 K2 hbt hok h h'
  go_enter Tryz.func102, Tryz.ntmps102
  go_upto_region 2 with first | (go_at_call 123; (with_reducible refine H1.out.mono ?_); rintro e w1 ⟨A1, n1, c1, rfl, hs, rfl⟩; have S1 := hid hs; clear hs) | (go_at_call 123; (with_reducible refine H2.out.mono ?_); rintro e w1 ⟨A2, n2, c2, rfl, hs2, rfl⟩; have S2 := hid hs2; clear hs2)
  have l1 := S1.out.len
  have l2 := S2.out.len
  have f1 := S1.out.fit
  have f2 := S2.out.fit
  rw [l1, l2] at HBT
  clear l1 l2
  by_cases hq : n1 = n2
  · subst hq
    have KB := hid (cmpBytes_any (c := c1) (c' := c2) S1.out.rd S2.out.rd)
    rw [if_neg (by simp)] at HBT
    have HE : Hid (p = (textC X Y).1) := HBT.out
    generalize (textC X Y).1 = q at KB HE
    have hqB : ((n1 : Int) != (n1 : Int)) = false := by simp
    clear HBT
    go_wp2_with (go_at_call 114; refine KB.out.mono ?_; rintro e w3 ⟨rfl, rfl⟩)
    go_ret2
    exact ⟨by rw [HE.out]; rfl, Below.refl _ _⟩
  · have KB := hid (cmp_int n1 n2 w1)
    rw [if_pos hq] at HBT
    have HE : Hid (p = Go.Proofs.YtinlonpcakkfhaaGreatDoor.Ord11.three (decide (n1 < n2)) (decide (n2 < n1))) := by
      show _ = _
      rw [HBT.out]
      unfold Go.Proofs.YtinlonpcakkfhaaGreatDoor.Ord11.three
      by_cases h1 : n1 < n2
      · simp [h1]
      · simp [h1, show n2 < n1 by omega]
    generalize Go.Proofs.YtinlonpcakkfhaaGreatDoor.Ord11.three (decide (n1 < n2)) (decide (n2 < n1)) = q at KB HE
    have hqB : ((n1 : Int) != (n2 : Int)) = true := by rw [bne_iff_ne]; omega
    have HQ := hid hq
    clear HBT hq
    go_wp2_with (go_at_call 124; refine KB.out.mono ?_; rintro e w3 ⟨rfl, rfl⟩)
    go_ret2
    exact ⟨by rw [HE.out]; rfl, Below.refl _ _⟩
theorem mkF_any (x : FuncId) (w : World) : Calls Tryz.prog 98 #[.func (.func x) #[] #[]] w fun e w' => e = .returned (.func (.func 115) #[] #[.pointer (some ⟨w.heap.size, 0, none⟩)]) ∧ Below w.heap.size w w' ∧ w.heap.size < w'.heap.size ∧ w'.cell? ⟨w.heap.size, 0, none⟩ = some (.func (.func x) #[] #[]) := by
  have hmf : ∀ (fn : Fn) (first cap : Array Value) (w : World), (Instr.makeFunc fn first cap).run Tryz.prog w = .ok (.func fn first cap) w := fun _ _ _ _ => rfl
  go_enter Tryz.func98, Tryz.ntmps98
  go_wp2_with fail
  go_ret
  exact ⟨rfl, (Below.refl _ _).alloc (Nat.le_refl _) _, by simp, by simp [Lib.cell_of_heap (heap_alloc_new w _)]⟩
theorem mkI_any (x : FuncId) (w : World) : Calls Tryz.prog 100 #[.func (.func x) #[] #[]] w fun e w' => e = .returned (.func (.func 119) #[] #[.pointer (some ⟨w.heap.size, 0, none⟩)]) ∧ Below w.heap.size w w' ∧ w.heap.size < w'.heap.size ∧ w'.cell? ⟨w.heap.size, 0, none⟩ = some (.func (.func x) #[] #[]) := by
  have hmf : ∀ (fn : Fn) (first cap : Array Value) (w : World), (Instr.makeFunc fn first cap).run Tryz.prog w = .ok (.func fn first cap) w := fun _ _ _ _ => rfl
  go_enter Tryz.func100, Tryz.ntmps100
  go_wp2_with fail
  go_ret
  exact ⟨rfl, (Below.refl _ _).alloc (Nat.le_refl _) _, by simp, by simp [Lib.cell_of_heap (heap_alloc_new w _)]⟩
theorem st1_any (w : World) : Calls Tryz.prog 91 #[.int .u8 1] w fun e w' => e = .returned (.tuple #[.func (.func 97) #[] #[], .bool true]) ∧ w' = w := by
  go_enter Tryz.func91, Tryz.ntmps91
  go_wp2_with fail
  go_ret2
  exact ⟨rfl, rfl⟩
theorem st2_any (w : World) : Calls Tryz.prog 91 #[.int .u8 2] w fun e w' => e = .returned (.tuple #[.func (.func 115) #[] #[.pointer (some ⟨w.heap.size, 0, none⟩)], .bool true]) ∧ Below w.heap.size w w' ∧ w.heap.size < w'.heap.size ∧ w'.cell? ⟨w.heap.size, 0, none⟩ = some (.func (.func 99) #[] #[]) := by
  go_enter Tryz.func91, Tryz.ntmps91
  go_wp2_with (go_at_call 98; refine (mkF_any _ _).mono ?_; rintro e w1 ⟨rfl, hb, hl, hc⟩; have HB := hid hb; have HL := hid hl; have HC := hid hc; clear hb hl hc)
  go_ret2
  exact ⟨rfl, HB.out, HL.out, HC.out⟩
theorem st3_any (w : World) : Calls Tryz.prog 91 #[.int .u8 3] w fun e w' => e = .returned (.tuple #[.func (.func 119) #[] #[.pointer (some ⟨w.heap.size, 0, none⟩)], .bool true]) ∧ Below w.heap.size w w' ∧ w.heap.size < w'.heap.size ∧ w'.cell? ⟨w.heap.size, 0, none⟩ = some (.func (.func 101) #[] #[]) := by
  go_enter Tryz.func91, Tryz.ntmps91
  go_wp2_with (go_at_call 100; refine (mkI_any _ _).mono ?_; rintro e w1 ⟨rfl, hb, hl, hc⟩; have HB := hid hb; have HL := hid hl; have HC := hid hc; clear hb hl hc)
  go_ret2
  exact ⟨rfl, HB.out, HL.out, HC.out⟩
theorem st4_any (w : World) : Calls Tryz.prog 91 #[.int .u8 4] w fun e w' => e = .returned (.tuple #[.func (.func 102) #[] #[], .bool true]) ∧ w' = w := by
  go_enter Tryz.func91, Tryz.ntmps91
  go_wp2_with fail
  go_ret2
  exact ⟨rfl, rfl⟩
theorem st5_any (w : World) : Calls Tryz.prog 91 #[.int .u8 5] w fun e w' => e = .returned (.tuple #[.func (.func 119) #[] #[.pointer (some ⟨w.heap.size, 0, none⟩)], .bool true]) ∧ Below w.heap.size w w' ∧ w.heap.size < w'.heap.size ∧ w'.cell? ⟨w.heap.size, 0, none⟩ = some (.func (.func 103) #[] #[]) := by
  go_enter Tryz.func91, Tryz.ntmps91
  go_wp2_with (go_at_call 100; refine (mkI_any _ _).mono ?_; rintro e w1 ⟨rfl, hb, hl, hc⟩; have HB := hid hb; have HL := hid hl; have HC := hid hc; clear hb hl hc)
  go_ret2
  exact ⟨rfl, HB.out, HL.out, HC.out⟩
theorem st0_any (o : Nat) (ho : o = 0 ∨ 5 < o) (w : World) : Calls Tryz.prog 91 #[.int .u8 o] w fun e w' => e = .returned (.tuple #[.nilFunc, .bool false]) ∧ w' = w := by
  have f1 : ((o : Int) == 1) = false := by rw [beq_eq_false_iff_ne]; omega
  have f2 : ((o : Int) == 2) = false := by rw [beq_eq_false_iff_ne]; omega
  have f3 : ((o : Int) == 3) = false := by rw [beq_eq_false_iff_ne]; omega
  have f4 : ((o : Int) == 4) = false := by rw [beq_eq_false_iff_ne]; omega
  have f5 : ((o : Int) == 5) = false := by rw [beq_eq_false_iff_ne]; omega
  have HO := hid ho
  clear ho
  go_enter Tryz.func91, Tryz.ntmps91
  go_wp2_with fail
  go_ret2
  exact ⟨rfl, rfl⟩
set_option maxHeartbeats 8000000 in
theorem pCompare11 (o : Nat) (ho : o < 256) {A A' : Option Addr} {n c n' c' : Nat} {a b : List UInt8} {w : World} (h : SlAt w w.heap.size A n c a) (h' : SlAt w w.heap.size A' n' c' b) :
    Calls Tryz.prog 126 #[.int .u8 o, .slice A n c, .slice A' n' c'] w fun e w' => CmpEnd o a b w e w' := by
  have H := hid h
  have H' := hid h'
  clear h h'
  obtain ⟨X, hX⟩ : ∃ X, X = ordC o a b := ⟨_, rfl⟩
  unfold CmpEnd
  rw [← hX]
  have HX := hid hX
  clear hX
  by_cases h1 : o = 1
  · subst h1
    have HE : Hid (X = textC a b) := HX.out
    have K := hid (asTexts_any H.out H'.out)
    rw [← HE.out] at K
    go_enter Tryz.func126, Tryz.ntmps126
    go_wp2_with first | (go_at_call 91; refine (st1_any _).mono ?_; rintro e w1 ⟨rfl, rfl⟩) | (go_at_call 97; refine K.out.mono ?_; rintro e w2 ⟨rfl, hb2⟩; have HB2 := hid hb2; clear hb2)
    go_ret2
    exact ⟨rfl, HB2.out⟩
  by_cases h2 : o = 2
  · subst h2
    have HE : Hid (X = keyed numK a b) := HX.out
    go_enter Tryz.func126, Tryz.ntmps126
    go_upto_region 2 with (go_at_call 91; refine (st2_any _).mono ?_; rintro e w1 ⟨rfl, hb, hl, hc⟩; have HB := hid hb; have HL := hid hl; have HC := hid hc; clear hb hl hc)
    have K := hid (byNumF _ HL.out HC.out (H.out.next HB.out) (H'.out.next HB.out))
    rw [← HE.out] at K
    go_wp2_with (go_at_call 115; refine K.out.mono ?_; rintro e w2 ⟨rfl, hb2⟩; have HB2 := hid (next_below HB.out hb2); clear hb2)
    go_ret2
    exact ⟨rfl, HB2.out⟩
  by_cases h3 : o = 3
  · subst h3
    have HE : Hid (X = keyed clockK a b) := HX.out
    go_enter Tryz.func126, Tryz.ntmps126
    go_upto_region 2 with (go_at_call 91; refine (st3_any _).mono ?_; rintro e w1 ⟨rfl, hb, hl, hc⟩; have HB := hid hb; have HL := hid hl; have HC := hid hc; clear hb hl hc)
    have K := hid (byNumC _ HL.out HC.out (H.out.next HB.out) (H'.out.next HB.out))
    rw [← HE.out] at K
    go_wp2_with (go_at_call 119; refine K.out.mono ?_; rintro e w2 ⟨rfl, hb2⟩; have HB2 := hid (next_below HB.out hb2); clear hb2)
    go_ret2
    exact ⟨rfl, HB2.out⟩
  by_cases h4 : o = 4
  · subst h4
    have HE : Hid (X = keyed binK a b) := HX.out
    have K := hid (asBinary_any H.out H'.out)
    rw [← HE.out] at K
    go_enter Tryz.func126, Tryz.ntmps126
    go_wp2_with first | (go_at_call 91; refine (st4_any _).mono ?_; rintro e w1 ⟨rfl, rfl⟩) | (go_at_call 102; refine K.out.mono ?_; rintro e w2 ⟨rfl, hb2⟩; have HB2 := hid hb2; clear hb2)
    go_ret2
    exact ⟨rfl, HB2.out⟩
  by_cases h5 : o = 5
  · subst h5
    have HE : Hid (X = keyed dateK a b) := HX.out
    go_enter Tryz.func126, Tryz.ntmps126
    go_upto_region 2 with (go_at_call 91; refine (st5_any _).mono ?_; rintro e w1 ⟨rfl, hb, hl, hc⟩; have HB := hid hb; have HL := hid hl; have HC := hid hc; clear hb hl hc)
    have K := hid (byNumD _ HL.out HC.out (H.out.next HB.out) (H'.out.next HB.out))
    rw [← HE.out] at K
    go_wp2_with (go_at_call 119; refine K.out.mono ?_; rintro e w2 ⟨rfl, hb2⟩; have HB2 := hid (next_below HB.out hb2); clear hb2)
    go_ret2
    exact ⟨rfl, HB2.out⟩
  have h0 : o = 0 ∨ 5 < o := by omega
  have HE : Hid (X = (0, false)) := by
    show _ = _
    rw [HX.out]
    unfold ordC
    rw [if_neg h1, if_neg h2, if_neg h3, if_neg h4, if_neg h5]
  have H0 := hid h0
  clear h0 h1 h2 h3 h4 h5
  go_enter Tryz.func126, Tryz.ntmps126
  go_wp2_with (go_at_call 91; refine (st0_any o H0.out _).mono ?_; rintro e w1 ⟨rfl, rfl⟩)
  go_ret2
  exact ⟨by rw [HE.out]; rfl, Below.refl _ _⟩
set_option maxHeartbeats 4000000 in
theorem pIs11 (o : Nat) (ho : o < 256) {A : Option Addr} {n c : Nat} {a : List UInt8} {w : World} (h : SlAt w w.heap.size A n c a) :
    Calls Tryz.prog 104 #[.int .u8 o, .slice A n c] w fun e w' => e = .returned (.bool (isV ordC o a)) ∧ Below w.heap.size w w' := by
  have K := hid (pCompare11 o ho h h)
  unfold CmpEnd at K
  have e2 : isV ordC o a = (ordC o a a).2 := rfl
  rw [e2]
  generalize ordC o a a = p at K
  clear h e2
  go_enter Tryz.func104, Tryz.ntmps104
  go_wp2_with (go_at_call 126; refine K.out.mono ?_; rintro e w1 ⟨rfl, hb⟩; have HB := hid hb; clear hb)
  go_ret
  exact ⟨rfl, HB.out⟩
end Go.Proofs.YtinlonpcakkfhaaGreatDoor
end
section
set_option maxRecDepth 100000
namespace Ord11
section
variable (C : Cmp)
end
variable {C : Cmp}
end Ord11
namespace Go.Proofs.YtinlonpcakkfhaaGreatDoor
open Go Go.Proofs Go.RowKit _root_.Ord11 Go.Proofs.YtinlonpcakkfhaaGreatDoor.Ord11
open Sch (wp_R gr_val gr_is gr_fresh gr_nil gr_on gr_onV gr_offV op_callR Rk)
def SlV (L n : Nat) (l : List UInt8) (v : Value) (V : World) : Prop := ∃ A c, v = .slice A n c ∧ SlAt V V.heap.size A n c l ∧ ∀ ad, A = some ad → L ≤ ad.block
theorem SlV.keep {L n : Nat} {l : List UInt8} (v : Value) (V V' : World) (h : SlV L n l v V) (hb : Below V.heap.size V V') : SlV L n l v V' := by
  obtain ⟨A, c, rfl, h, hL⟩ := h
  exact ⟨A, c, rfl, h.next hb, hL⟩
def BdV (L : Nat) (i p : Bool) (n : Nat) (l : List UInt8) (v : Value) (V : World) : Prop := ∃ A c, v = .agg #[.bool i, .bool p, .slice A n c] ∧ SlAt V V.heap.size A n c l ∧ ∀ ad, A = some ad → L ≤ ad.block
theorem BdV.keep {L : Nat} {i p : Bool} {n : Nat} {l : List UInt8} (v : Value) (V V' : World) (h : BdV L i p n l v V) (hb : Below V.heap.size V V') : BdV L i p n l v V' := by
  obtain ⟨A, c, rfl, h, hL⟩ := h
  exact ⟨A, c, rfl, h.next hb, hL⟩
theorem stOk (o : Nat) (ho : o < 256) (w : World) : Calls Tryz.prog 91 #[.int .u8 o] w fun e w' => ∃ f, e = .returned (.tuple #[f, .bool (decide (1 ≤ o) && decide (o ≤ 5))]) ∧ Below w.heap.size w w' := by
  by_cases h1 : o = 1
  · subst h1; refine (st1_any w).mono ?_; rintro e w' ⟨rfl, rfl⟩; exact ⟨_, rfl, Below.refl _ _⟩
  by_cases h2 : o = 2
  · subst h2; refine (st2_any w).mono ?_; rintro e w' ⟨rfl, hb, _⟩; exact ⟨_, rfl, hb⟩
  by_cases h3 : o = 3
  · subst h3; refine (st3_any w).mono ?_; rintro e w' ⟨rfl, hb, _⟩; exact ⟨_, rfl, hb⟩
  by_cases h4 : o = 4
  · subst h4; refine (st4_any w).mono ?_; rintro e w' ⟨rfl, rfl⟩; exact ⟨_, rfl, Below.refl _ _⟩
  by_cases h5 : o = 5
  · subst h5; refine (st5_any w).mono ?_; rintro e w' ⟨rfl, hb, _⟩; exact ⟨_, rfl, hb⟩
  refine (st0_any o (by omega) w).mono ?_
  rintro e w' ⟨rfl, rfl⟩
  refine ⟨.nilFunc, ?_, Below.refl _ _⟩
  rw [show (decide (1 ≤ o) && decide (o ≤ 5)) = false by simp; omega]
set_option maxHeartbeats 4000000 in
theorem pMayEnd (o : Nat) (ho : o < 256) (x : Bd) {A1 : Option Addr} {n1 c1 : Nat} (w : World) (h1 : SlAt w w.heap.size A1 n1 c1 x.at_) :
    Calls Tryz.prog 92 #[.int .u8 o, .agg (bdC x A1 n1 c1)] w fun e w' => e = .returned (.bool (mayB ordC o x)) ∧ Below w.heap.size w w' := by
  obtain ⟨i1, p1, l1⟩ := x
  have e1 := h1.len
  dsimp only at e1
  have z1 : Hid (l1.isEmpty = decide (n1 = 0)) := by show _ = _; rw [← e1]; cases l1 <;> simp
  obtain ⟨v1, hv1⟩ : ∃ v, v = isV ordC o l1 := ⟨_, rfl⟩
  obtain ⟨X, hX⟩ : ∃ X, X = mayB ordC o ⟨i1, p1, l1⟩ := ⟨_, rfl⟩
  rw [← hX]
  rw [mayB_val] at hX
  dsimp only at hX
  rw [← hv1, z1.out] at hX
  have HX := hid hX
  clear hX z1 e1
  obtain ⟨w0, hw0⟩ : ∃ w0, w0 = (w.alloc (.cells #[.bool i1, .bool p1, .slice A1 n1 c1] 25)) := ⟨_, rfl⟩
  have HB0 : Hid (Below w.heap.size w w0) := by
    show Below _ _ _
    rw [hw0]
    exact (Below.refl w.heap.size w).alloc (Nat.le_refl _) _
  have B0 : Blk w0 w.heap.size 25 #[.bool i1, .bool p1, .slice A1 n1 c1] := by
    rw [hw0]
    exact Blk.new w 25 #[.bool i1, .bool p1, .slice A1 n1 c1]
  have X0 : Hid (∀ W, Below w0.heap.size w0 W → ∀ k u, (#[.bool i1, .bool p1, .slice A1 n1 c1] : Array Value)[k]? = some u → W.cell? ⟨w.heap.size, k, none⟩ = some u) := fun W hW k u hk => cell_below hW ((B0.cell k).trans hk) B0.lt
  have HR : Below w0.heap.size w0 w0 := Below.refl _ _
  clear B0
  have K1 : Hid (∀ W, Below w0.heap.size w0 W → Calls Tryz.prog 104 #[.int .u8 o, .slice A1 n1 c1] W fun e w' => e = .returned (.bool v1) ∧ Below W.heap.size W w') := by
    intro W hW; rw [hv1]; exact pIs11 o ho (h1.next (next_below HB0.out hW))
  clear hv1 h1
  unfold bdC
  go_enter Tryz.func92, Tryz.ntmps92
  go_upto_region 1 with fail
  rw [← hw0]
  clear hw0
  have x0_0 := X0.out _ HR 0 _ rfl
  have x0_1 := X0.out _ HR 1 _ rfl
  have x0_2 := X0.out _ HR 2 _ rfl
  cases i1 with
  | true =>
    go_wp2_with (go_at_call 104; (with_reducible refine (K1.out _ (by assumption)).mono ?_); rintro e w1 ⟨rfl, hb⟩; have hB := next_below (by assumption) hb; have x0_0 := X0.out _ hB 0 _ rfl; have x0_1 := X0.out _ hB 1 _ rfl; have x0_2 := X0.out _ hB 2 _ rfl; clear hb)
    go_ret
    exact ⟨by rw [HX.out]; simp, next_below HB0.out (by assumption)⟩
  | false =>
    cases p1 with
    | true =>
      go_wp2_with fail
      go_ret
      exact ⟨by rw [HX.out]; simp, HB0.out⟩
    | false =>
      by_cases hn : n1 = 0
      · subst hn
        go_wp2_with fail
        go_ret
        exact ⟨by rw [HX.out]; simp, HB0.out⟩
      · have hnB : ((n1 : Int) == 0) = false := by rw [beq_eq_false_iff_ne]; omega
        have HN := hid hn
        clear hn
        go_wp2_with fail
        go_ret
        exact ⟨by rw [HX.out]; simp [HN.out], HB0.out⟩
set_option maxHeartbeats 8000000 in
theorem pMay11 (r : Rg) (ho : r.o < 256) {A1 A2 : Option Addr} {n1 c1 n2 c2 : Nat} (w : World) (h1 : SlAt w w.heap.size A1 n1 c1 r.lo.at_) (h2 : SlAt w w.heap.size A2 n2 c2 r.hi.at_) :
    Calls Tryz.prog 75 #[.agg (rgC r A1 n1 c1 A2 n2 c2)] w fun e w' => e = .returned (.bool (mayR ordC r)) ∧ Below w.heap.size w w' := by
  obtain ⟨o, ⟨i1, p1, l1⟩, ⟨i2, p2, l2⟩⟩ := r
  dsimp only at h1 h2 ho
  obtain ⟨s, hs⟩ : ∃ s, s = (decide (1 ≤ o) && decide (o ≤ 5)) := ⟨_, rfl⟩
  obtain ⟨b1, hb1⟩ : ∃ b, b = mayB ordC o ⟨i1, p1, l1⟩ := ⟨_, rfl⟩
  obtain ⟨b2, hb2⟩ : ∃ b, b = mayB ordC o ⟨i2, p2, l2⟩ := ⟨_, rfl⟩
  obtain ⟨X, hX⟩ : ∃ X, X = mayR ordC ⟨o, ⟨i1, p1, l1⟩, ⟨i2, p2, l2⟩⟩ := ⟨_, rfl⟩
  have HX : Hid (X = (s && b1 && b2)) := by show _ = _; rw [hX, hs, hb1, hb2]; rfl
  rw [← hX]
  clear hX
  obtain ⟨w0, hw0⟩ : ∃ w0, w0 = (w.alloc (.cells #[.int .u8 o, .bool i1, .bool p1, .slice A1 n1 c1, .bool i2, .bool p2, .slice A2 n2 c2] 27)) := ⟨_, rfl⟩
  have HB0 : Hid (Below w.heap.size w w0) := by
    show Below _ _ _
    rw [hw0]
    exact (Below.refl w.heap.size w).alloc (Nat.le_refl _) _
  have B0 : Blk w0 w.heap.size 27 #[.int .u8 o, .bool i1, .bool p1, .slice A1 n1 c1, .bool i2, .bool p2, .slice A2 n2 c2] := by
    rw [hw0]
    exact Blk.new w 27 #[.int .u8 o, .bool i1, .bool p1, .slice A1 n1 c1, .bool i2, .bool p2, .slice A2 n2 c2]
  have X0 : Hid (∀ W, Below w0.heap.size w0 W → ∀ k u, (#[.int .u8 o, .bool i1, .bool p1, .slice A1 n1 c1, .bool i2, .bool p2, .slice A2 n2 c2] : Array Value)[k]? = some u → W.cell? ⟨w.heap.size, k, none⟩ = some u) := fun W hW k u hk => cell_below hW ((B0.cell k).trans hk) B0.lt
  have HR : Below w0.heap.size w0 w0 := Below.refl _ _
  clear B0
  have K0 : Hid (∀ W, Below w0.heap.size w0 W → Calls Tryz.prog 91 #[.int .u8 o] W fun e w' => ∃ f, e = .returned (.tuple #[f, .bool s]) ∧ Below W.heap.size W w') := by
    intro W hW; rw [hs]; exact stOk o ho W
  have K1 : Hid (∀ W, Below w0.heap.size w0 W → Calls Tryz.prog 92 #[.int .u8 o, .agg #[.bool i1, .bool p1, .slice A1 n1 c1]] W fun e w' => e = .returned (.bool b1) ∧ Below W.heap.size W w') := by
    intro W hW; rw [hb1]; exact pMayEnd o ho ⟨i1, p1, l1⟩ W (h1.next (next_below HB0.out hW))
  have K2 : Hid (∀ W, Below w0.heap.size w0 W → Calls Tryz.prog 92 #[.int .u8 o, .agg #[.bool i2, .bool p2, .slice A2 n2 c2]] W fun e w' => e = .returned (.bool b2) ∧ Below W.heap.size W w') := by
    intro W hW; rw [hb2]; exact pMayEnd o ho ⟨i2, p2, l2⟩ W (h2.next (next_below HB0.out hW))
  clear hs hb1 hb2 h1 h2
  unfold rgC
  go_enter Tryz.func75, Tryz.ntmps75
  go_upto_region 1 with fail
  rw [← hw0]
  clear hw0
  have x0_0 := X0.out _ HR 0 _ rfl
  have x0_1 := X0.out _ HR 1 _ rfl
  have x0_2 := X0.out _ HR 2 _ rfl
  have x0_3 := X0.out _ HR 3 _ rfl
  have x0_4 := X0.out _ HR 4 _ rfl
  have x0_5 := X0.out _ HR 5 _ rfl
  have x0_6 := X0.out _ HR 6 _ rfl
  cases s <;> cases b1 <;> cases b2
  all_goals go_wp2_with first | (go_at_call 91; (with_reducible refine (K0.out _ (by assumption)).mono ?_); rintro e w1 ⟨ff, rfl, hb⟩; have hB := next_below (by assumption) hb; have x0_0 := X0.out _ hB 0 _ rfl; have x0_1 := X0.out _ hB 1 _ rfl; have x0_2 := X0.out _ hB 2 _ rfl; have x0_3 := X0.out _ hB 3 _ rfl; have x0_4 := X0.out _ hB 4 _ rfl; have x0_5 := X0.out _ hB 5 _ rfl; have x0_6 := X0.out _ hB 6 _ rfl; clear hb) | (go_at_call 92; (first | (with_reducible refine (K1.out _ (by assumption)).mono ?_) | (with_reducible refine (K2.out _ (by assumption)).mono ?_)); rintro e w1 ⟨rfl, hb⟩; have hB := next_below (by assumption) hb; have x0_0 := X0.out _ hB 0 _ rfl; have x0_1 := X0.out _ hB 1 _ rfl; have x0_2 := X0.out _ hB 2 _ rfl; have x0_3 := X0.out _ hB 3 _ rfl; have x0_4 := X0.out _ hB 4 _ rfl; have x0_5 := X0.out _ hB 5 _ rfl; have x0_6 := X0.out _ hB 6 _ rfl; clear hb)
  all_goals go_ret
  all_goals exact ⟨by rw [HX.out]; simp, next_below HB0.out (by assumption)⟩
end Go.Proofs.YtinlonpcakkfhaaGreatDoor
end
