/-
  Plain mathematics on S-expressions: trees, their forms, counts and depths. No conditions.
-/
import Derived.Lib.ItoaNum
namespace Sx
open Go

/-- An S-expression: list?, hinted?, the hint's bytes, the data's, the kids. -/
inductive SX where
  | mk (l h : Bool) (hi da : List UInt8) (ks : List SX)

theorem SX.ind {P : SX → Prop} (H : ∀ l h hi da ks, (∀ k ∈ ks, P k) → P (.mk l h hi da ks)) (t : SX) : P t :=
  SX.rec (motive_1 := P) (motive_2 := fun ks => ∀ k ∈ ks, P k) (fun l h hi da ks ih => H l h hi da ks ih) (fun _ h => by cases h)
    (fun _ _ h1 h2 k hk => by
    rcases List.mem_cons.1 hk with h | hk
    · rw [h]; exact h1
    · exact h2 k hk) t

/-- The number's digits, a colon, the bytes. -/
def text (b : List UInt8) : List UInt8 := Lib.decDigits b.length ++ 58 :: b

mutual
def nodes : SX → Nat
  | .mk _ _ _ _ ks => 1 + nodesL ks
def nodesL : List SX → Nat
  | [] => 0
  | k :: r => nodes k + nodesL r
end
mutual
def deep : SX → Nat
  | .mk l _ _ _ ks => if l then deepL ks + 1 else 0
def deepL : List SX → Nat
  | [] => 0
  | k :: r => max (deep k) (deepL r)
end
/-- What stands in a value itself is as it must be. -/
def well (l h : Bool) (hi da : List UInt8) (ks : List SX) : Bool :=
  if l then !h && hi.isEmpty && da.isEmpty else ks.isEmpty && (h || hi.isEmpty)
mutual
def clean : SX → Bool
  | .mk l h hi da ks => well l h hi da ks && cleanL ks
def cleanL : List SX → Bool
  | [] => true
  | k :: r => clean k && cleanL r
end
mutual
def form : SX → List UInt8
  | .mk l h hi da ks => if l then 40 :: (formL ks ++ [41]) else (if h then 91 :: (text hi ++ [93]) else []) ++ text da
def formL : List SX → List UInt8
  | [] => []
  | k :: r => form k ++ formL r
end
mutual
def same : SX → SX → Bool
  | .mk l h hi da ks, .mk l' h' hi' da' ks' => l == l' && h == h' && hi == hi' && da == da' && sameL ks ks'
def sameL : List SX → List SX → Bool
  | [], [] => true
  | k :: r, k' :: r' => same k k' && sameL r r'
  | _, _ => false
end
def may (t : SX) : Bool := clean t && decide (nodes t ≤ 512) && decide (deep t ≤ 16) && decide ((form t).length ≤ 4096)

theorem nodesL_snoc (l : List SX) (k : SX) : nodesL (l ++ [k]) = nodesL l + nodes k := by
  induction l with
  | nil => simp [nodesL]
  | cons a r ih => simp [nodesL, ih]; omega
theorem deepL_snoc (l : List SX) (k : SX) : deepL (l ++ [k]) = max (deepL l) (deep k) := by
  induction l with
  | nil => simp [deepL]
  | cons a r ih => simp [deepL, ih, Nat.max_assoc]
theorem cleanL_snoc (l : List SX) (k : SX) : cleanL (l ++ [k]) = (cleanL l && clean k) := by
  induction l with
  | nil => simp [cleanL]
  | cons a r ih => simp [cleanL, ih, Bool.and_assoc]
theorem formL_snoc (l : List SX) (k : SX) : formL (l ++ [k]) = formL l ++ form k := by
  induction l with
  | nil => simp [formL]
  | cons a r ih => simp [formL, ih]
theorem take_snoc {α : Type} (l : List α) (k : Nat) (x : α) (h : l[k]? = some x) : l.take (k + 1) = l.take k ++ [x] := by
  rw [List.take_add_one, h]; rfl
theorem nodes_pos (t : SX) : 0 < nodes t := by cases t; rw [nodes]; omega
theorem nodesL_take (l : List SX) (k : Nat) (x : SX) (h : l[k]? = some x) : nodesL (l.take (k + 1)) = nodesL (l.take k) + nodes x := by rw [take_snoc l k x h, nodesL_snoc]
theorem formL_append (a b : List SX) : formL (a ++ b) = formL a ++ formL b := by
  induction a with
  | nil => simp [formL]
  | cons x r ih => simp [formL, ih]
theorem nodesL_append (a b : List SX) : nodesL (a ++ b) = nodesL a + nodesL b := by
  induction a with
  | nil => simp [nodesL]
  | cons x r ih => simp [nodesL, ih]; omega
theorem cleanL_append (a b : List SX) : cleanL (a ++ b) = (cleanL a && cleanL b) := by
  induction a with
  | nil => simp [cleanL]
  | cons x r ih => simp [cleanL, ih, Bool.and_assoc]
theorem deepL_append (a b : List SX) : deepL (a ++ b) = max (deepL a) (deepL b) := by
  induction a with
  | nil => simp [deepL]
  | cons x r ih => simp [deepL, ih, Nat.max_assoc]

mutual
theorem same_iff : ∀ a b : SX, same a b = true ↔ a = b
  | .mk l h hi da ks, .mk l' h' hi' da' ks' => by
    rw [same]
    simp only [Bool.and_eq_true, beq_iff_eq, sameL_iff ks ks']
    constructor
    · rintro ⟨⟨⟨⟨rfl, rfl⟩, rfl⟩, rfl⟩, rfl⟩; rfl
    · intro e; cases e; simp
theorem sameL_iff : ∀ a b : List SX, sameL a b = true ↔ a = b
  | [], [] => by simp [sameL]
  | [], _ :: _ => by simp [sameL]
  | _ :: _, [] => by simp [sameL]
  | k :: r, k' :: r' => by
    rw [sameL]
    simp only [Bool.and_eq_true, same_iff k k', sameL_iff r r']
    constructor
    · rintro ⟨rfl, rfl⟩; rfl
    · intro e; cases e; simp
end
theorem same_refl (a : SX) : same a a = true := (same_iff a a).2 rfl
theorem same_of_ne {a b : SX} (h : a ≠ b) : same a b = false := by rw [Bool.eq_false_iff, Ne, same_iff]; exact h

/-- How many bytes a value's form has, but for its kids'. -/
def own (l h : Bool) (hi da : List UInt8) : Nat := if l then 2 else (if h then 2 + (text hi).length else 0) + (text da).length
theorem form_own (l h : Bool) (hi da : List UInt8) (ks : List SX) (hw : well l h hi da ks = true) : (form (.mk l h hi da ks)).length = own l h hi da + (formL ks).length := by
  rw [form, own]
  cases l
  · have hk : ks = [] := by
      have : ks.isEmpty = true := by simp [well] at hw; simpa using hw.1
      simpa using this
    subst hk
    cases h
    · simp [formL]
    · simp [formL]; omega
  · simp; omega
theorem own_le_form (l h : Bool) (hi da : List UInt8) (ks : List SX) : own l h hi da ≤ (form (.mk l h hi da ks)).length := by
  rw [form, own]
  cases l <;> cases h <;> simp <;> omega
/-- Has a value room, where it stands? -/
def fits (t : SX) (n b a : Nat) : Bool := clean t && decide (nodes t ≤ n) && decide ((form t).length ≤ b) && decide (a + deep t ≤ 16)
theorem may_fits (t : SX) : may t = fits t 512 4096 0 := by
  unfold may fits
  rw [Nat.zero_add]
  cases clean t <;> cases decide (nodes t ≤ 512) <;> cases decide (deep t ≤ 16) <;> cases decide ((form t).length ≤ 4096) <;> rfl
theorem fits_iff (t : SX) (n b a : Nat) : fits t n b a = true ↔ clean t = true ∧ nodes t ≤ n ∧ (form t).length ≤ b ∧ a + deep t ≤ 16 := by
  unfold fits
  simp only [Bool.and_eq_true, decide_eq_true_eq, and_assoc]
theorem fits_not {t : SX} {n b a : Nat} (h : ¬ (clean t = true ∧ nodes t ≤ n ∧ (form t).length ≤ b ∧ a + deep t ≤ 16)) : fits t n b a = false := by
  rw [Bool.eq_false_iff, Ne, fits_iff]; exact h
theorem mem_le {ks : List SX} {t : SX} (h : t ∈ ks) : (cleanL ks = true → clean t = true) ∧ nodes t ≤ nodesL ks ∧ (form t).length ≤ (formL ks).length ∧ deep t ≤ deepL ks := by
  induction ks with
  | nil => cases h
  | cons a r ih =>
    simp only [cleanL, nodesL, formL, deepL, Bool.and_eq_true, List.length_append]
    rcases List.mem_cons.1 h with rfl | h
    · exact ⟨fun h => h.1, by omega, by omega, by omega⟩
    · obtain ⟨h1, h2, h3, h4⟩ := ih h
      exact ⟨fun h => h1 h.2, by omega, by omega, by omega⟩
/-- The kids ahead of a place have room, the one there hasn't. -/
theorem fits_kid {l h : Bool} {hi da : List UInt8} {ks : List SX} {n b a k : Nat} {t : SX} (hw : well l h hi da ks = true) (hk : ks[k]? = some t)
    {n' b' : Nat} (hn : n' + 1 + nodesL (ks.take k) = n) (hb : b' + own l h hi da + (formL (ks.take k)).length = b) (hf : fits t n' b' (a + 1) = false) :
    fits (.mk l h hi da ks) n b a = false := by
  apply fits_not
  rintro ⟨h1, h2, h3, h4⟩
  rw [Bool.eq_false_iff, Ne, fits_iff] at hf
  apply hf
  have hm : t ∈ ks := List.mem_of_getElem? hk
  obtain ⟨m1, m2, m3, m4⟩ := mem_le hm
  have eN := nodesL_append (ks.take (k + 1)) (ks.drop (k + 1))
  have eF := formL_append (ks.take (k + 1)) (ks.drop (k + 1))
  rw [List.take_append_drop, take_snoc ks k t hk] at eN eF
  rw [nodesL_snoc] at eN
  rw [formL_snoc] at eF
  have eF := congrArg List.length eF
  simp only [List.length_append] at eF
  rw [form_own _ _ _ _ _ hw] at h3
  rw [nodes] at h2
  rw [clean, Bool.and_eq_true] at h1
  have hl : l = true := by
    cases l
    · have : ks.isEmpty = true := by simp [well] at hw; simpa using hw.1
      have hnil : ks = [] := by simpa using this
      subst hnil
      cases hm
    · rfl
  subst hl
  have e4 : deep (.mk true h hi da ks) = deepL ks + 1 := by rw [deep]; rfl
  exact ⟨m1 h1.2, by omega, by omega, by omega⟩
/-- All kids have room. -/
theorem fits_all {l h : Bool} {hi da : List UInt8} {ks : List SX} {n b a : Nat} (hw : well l h hi da ks = true)
    {n' b' : Nat} (hn : n' + 1 + nodesL ks = n) (hb : b' + own l h hi da + (formL ks).length = b) (hc : cleanL ks = true) (hd : l = true → a < 16) (hdd : ∀ t ∈ ks, a + 1 + deep t ≤ 16) (ha : a ≤ 16) :
    fits (.mk l h hi da ks) n b a = true := by
  rw [fits_iff, form_own _ _ _ _ _ hw, nodes, clean, hw, hc]
  refine ⟨rfl, by omega, by omega, ?_⟩
  rw [deep]
  split
  · rename_i hl
    have h0 := hd hl
    have : ∀ ks : List SX, (∀ t ∈ ks, a + 1 + deep t ≤ 16) → a + 1 + deepL ks ≤ 16 := by
      intro ks
      induction ks with
      | nil => intro _; rw [deepL]; omega
      | cons x r ih =>
        intro h
        have h1 := h x (by simp)
        have h2 := ih (fun t ht => h t (by simp [ht]))
        rw [deepL]; omega
    have := this ks hdd
    omega
  · omega
theorem fits_well {l h : Bool} {hi da : List UInt8} {ks : List SX} {n b a : Nat} (hw : well l h hi da ks = false) : fits (.mk l h hi da ks) n b a = false := by
  apply fits_not
  rintro ⟨h1, _⟩
  rw [clean, hw] at h1
  cases h1
theorem fits_room {l h : Bool} {hi da : List UInt8} {ks : List SX} {n b a : Nat} (hr : ¬ (1 ≤ n ∧ own l h hi da ≤ b)) : fits (.mk l h hi da ks) n b a = false := by
  apply fits_not
  rintro ⟨_, h2, h3, _⟩
  have := own_le_form l h hi da ks
  rw [nodes] at h2
  omega
theorem fits_deep {h : Bool} {hi da : List UInt8} {ks : List SX} {n b a : Nat} (hr : 16 ≤ a) : fits (.mk true h hi da ks) n b a = false := by
  apply fits_not
  rintro ⟨_, _, _, h4⟩
  have e4 : deep (.mk true h hi da ks) = deepL ks + 1 := by rw [deep]; rfl
  omega
end Sx
