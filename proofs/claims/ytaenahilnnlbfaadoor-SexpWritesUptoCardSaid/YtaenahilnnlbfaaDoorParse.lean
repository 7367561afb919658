/-
  Plain mathematics: canonical forms are read from the front; the value, or the first place where it can't go on. No conditions.
-/
import Derived.Test.YtaenahilnnlbfaaDoorSx
import Derived.Test.YtaenahilnnlbfaaDoorNumMath
namespace Sx
open Go Oct

/-- What was read, and what is left; or an error's number, and what is left at its place. -/
inductive Res (α : Type) where
  | ok (a : α) (rest : List UInt8)
  | err (e : Nat) (rest : List UInt8)

def pLen (s : List UInt8) : Res Nat :=
  match s with
  | [] => .err 2 []
  | c :: r => if isDig c = false then .err 3 (c :: r) else if c = 48 then .ok 0 r else
    match digs 4096 (c :: r) 0 with
    | none => .err 4 (c :: r)
    | some (n, k) => .ok n ((c :: r).drop k)
def pBytes (s : List UInt8) : Res (List UInt8) :=
  match pLen s with
  | .err e r => .err e r
  | .ok n r =>
    match r with
    | [] => .err 2 []
    | c :: r' => if c ≠ 58 then .err 3 (c :: r') else if r'.length < n then .err 2 [] else .ok (r'.take n) (r'.drop n)
/-- An atom with a hint, behind its bracket. -/
def pHint (s : List UInt8) : Res (List UInt8 × List UInt8) :=
  match pBytes s with
  | .err e r => .err e r
  | .ok hi r =>
    match r with
    | [] => .err 2 []
    | c :: r' => if c ≠ 93 then .err 3 (c :: r') else
      match pBytes r' with
      | .err e r => .err e r
      | .ok da r => .ok (hi, da) r
def begins (c : UInt8) : Bool := c == 40 || c == 91 || isDig c
mutual
def pVal : Nat → List UInt8 → Nat → Nat → Res (SX × Nat)
  | 0, s, _, _ => .err 0 s
  | f + 1, s, nd, ar =>
    match s with
    | [] => .err 2 []
    | c :: r =>
      if begins c = false then .err 3 (c :: r)
      else if 512 ≤ nd ∨ (c = 40 ∧ 16 ≤ ar) then .err 4 (c :: r)
      else if c = 40 then
        match pKids f r (nd + 1) (ar + 1) with
        | .err e r' => .err e r'
        | .ok (ks, nd') r' => .ok (.mk true false [] [] ks, nd') r'
      else if c = 91 then
        match pHint r with
        | .err e r' => .err e r'
        | .ok (hi, da) r' => .ok (.mk false true hi da [], nd + 1) r'
      else
        match pBytes (c :: r) with
        | .err e r' => .err e r'
        | .ok da r' => .ok (.mk false false [] da [], nd + 1) r'
def pKids : Nat → List UInt8 → Nat → Nat → Res (List SX × Nat)
  | 0, s, _, _ => .err 0 s
  | f + 1, s, nd, ar =>
    match s with
    | [] => .err 2 []
    | c :: r =>
      if c = 41 then .ok ([], nd) r
      else
        match pVal f (c :: r) nd ar with
        | .err e r' => .err e r'
        | .ok (t, nd') r' =>
          match pKids f r' nd' ar with
          | .err e r'' => .err e r''
          | .ok (ts, nd'') r'' => .ok (t :: ts, nd'') r''
end

/-! Lengths. -/
theorem digs_sound (M : Nat) : ∀ (l : List UInt8) (a n k : Nat), digs M l a = some (n, k) → k ≤ l.length ∧ (∀ c ∈ l.take k, isDig c = true) ∧ val (l.take k) a = n
  | [], a, n, k, h => by simp [digs] at h; obtain ⟨rfl, rfl⟩ := h; simp [val]
  | c :: r, a, n, k, h => by
    rw [digs] at h
    split at h
    · rename_i hc
      split at h
      · cases h
      · cases hd : digs M r (10 * a + (c.toNat - 48)) with
        | none => rw [hd] at h; cases h
        | some q =>
          obtain ⟨n', k'⟩ := q
          rw [hd] at h
          simp at h
          obtain ⟨rfl, rfl⟩ := h
          obtain ⟨h1, h2, h3⟩ := digs_sound M r _ _ _ hd
          refine ⟨by simp; omega, ?_, ?_⟩
          · intro x hx
            simp at hx
            rcases hx with rfl | hx
            · exact hc
            · exact h2 x hx
          · simp [val]
            exact h3
    · simp at h
      obtain ⟨rfl, rfl⟩ := h
      simp [val]
theorem val_snoc (p : List UInt8) (c : UInt8) (a : Nat) : val (p ++ [c]) a = 10 * val p a + (c.toNat - 48) := by simp [val]
theorem dec_val : ∀ (m : Nat) (q : List UInt8) (c0 : UInt8), q.length = m → c0 ≠ 48 → isDig c0 = true → (∀ c ∈ q, isDig c = true) → Lib.decDigits (val (c0 :: q) 0) = c0 :: q ∧ 0 < val (c0 :: q) 0 := by
  intro m
  induction m with
  | zero =>
    intro q c0 hq h0 hd _
    have hq : q = [] := List.eq_nil_of_length_eq_zero hq
    subst hq
    have hb : 48 ≤ c0.toNat ∧ c0.toNat ≤ 57 := by simpa [isDig] using hd
    have hne : c0.toNat ≠ 48 := fun h => h0 (UInt8.toNat_inj.1 h)
    have hv : val [c0] 0 = c0.toNat - 48 := by simp [val]
    rw [hv, Lib.decDigits, dif_pos (by omega)]
    refine ⟨?_, by omega⟩
    rw [show 48 + (c0.toNat - 48) = c0.toNat by omega]
    simp
  | succ m ih =>
    intro q c0 hq h0 hd hall
    have hne : q ≠ [] := fun h => by rw [h] at hq; cases hq
    have hsplit := List.dropLast_concat_getLast hne
    obtain ⟨p, hp⟩ : ∃ p, p = q.dropLast := ⟨_, rfl⟩
    obtain ⟨c, hc⟩ : ∃ c, c = q.getLast hne := ⟨_, rfl⟩
    rw [← hp, ← hc] at hsplit
    rw [← hsplit] at hall hq ⊢
    have hcd : isDig c = true := hall c (by simp)
    have hb : 48 ≤ c.toNat ∧ c.toNat ≤ 57 := by simpa [isDig] using hcd
    obtain ⟨h1, h2⟩ := ih p c0 (by simpa using hq) h0 hd (fun x hx => hall x (by simp [hx]))
    rw [← List.cons_append, val_snoc]
    refine ⟨?_, by omega⟩
    rw [Lib.decDigits, dif_neg (by omega)]
    rw [show (10 * val (c0 :: p) 0 + (c.toNat - 48)) / 10 = val (c0 :: p) 0 by omega, h1, show 48 + (10 * val (c0 :: p) 0 + (c.toNat - 48)) % 10 = c.toNat by omega]
    simp
theorem dec_zero : Lib.decDigits 0 = [48] := by rw [Lib.decDigits, dif_pos (by omega)]; rfl
theorem pLen_sound {s r : List UInt8} {n : Nat} (h : pLen s = .ok n r) : s = Lib.decDigits n ++ r ∧ n ≤ 4096 := by
  unfold pLen at h
  split at h
  · cases h
  · rename_i c r0
    split at h
    · cases h
    · rename_i hc
      have hc : isDig c = true := by simpa using hc
      split at h
      · rename_i h48
        injection h with h1 h2
        subst h1 h2 h48
        rw [dec_zero]
        exact ⟨rfl, by omega⟩
      · rename_i h48
        split at h
        · cases h
        · rename_i n' k hd
          injection h with h1 h2
          subst h1
          have ho := digs_over 4096 _ _ _ hd (by omega)
          obtain ⟨h3, h4, h5⟩ := digs_sound _ _ _ _ _ hd
          refine ⟨?_, ho⟩
          have hk : k ≠ 0 := by
            rintro rfl
            rw [digs, if_pos hc] at hd
            split at hd
            · cases hd
            · cases hq : digs 4096 r0 (10 * 0 + (c.toNat - 48)) with
              | none => rw [hq] at hd; cases hd
              | some q => rw [hq] at hd; simp at hd
          obtain ⟨k', rfl⟩ : ∃ k', k = k' + 1 := ⟨k - 1, by omega⟩
          rw [List.take_succ_cons] at h4 h5
          have := dec_val _ (r0.take k') c rfl h48 hc (fun x hx => h4 x (by simp [hx]))
          rw [h5] at this
          rw [this.1, ← h2, List.drop_succ_cons, List.cons_append, List.take_append_drop]
theorem isDig58 : isDig 58 = false := by rfl
theorem pLen_full (n : Nat) (r : List UInt8) (hn : n ≤ 4096) (hr : r = [] ∨ ∃ c r', r = c :: r' ∧ isDig c = false) : pLen (Lib.decDigits n ++ r) = .ok n r := by
  rcases Nat.eq_zero_or_pos n with h0 | h0
  · subst h0
    rw [dec_zero]
    rfl
  · obtain ⟨d, q, hd, h48⟩ := dec_head n h0
    have hf := dec_facts n
    have hr1 := digs_run 4096 (Lib.decDigits n) r 0 hf.1 (by rw [hf.2]; exact hn)
    have hs : digs 4096 r n = some (n, 0) := by
      rcases hr with rfl | ⟨c, r', rfl, hc⟩
      · rfl
      · rw [digs, if_neg (by rw [hc]; simp)]
    rw [hf.2, hs] at hr1
    have hdig : isDig d = true := hf.1 d (by rw [hd]; simp)
    unfold pLen
    rw [hd] at hr1 ⊢
    rw [List.cons_append] at hr1 ⊢
    show (if isDig d = false then _ else if d = 48 then _ else _) = _
    rw [if_neg (by rw [hdig]; simp), if_neg h48, hr1]
    simp
/-- A length that is cut off: it is read as far as it goes, or nothing stands there. -/
theorem pLen_cut (n : Nat) (p q : List UInt8) (hn : n ≤ 4096) (h : p ++ q = Lib.decDigits n) : pLen p = .err 2 [] ∨ ∃ m, pLen p = .ok m [] := by
  cases p with
  | nil => exact .inl rfl
  | cons c r =>
    right
    have hf := dec_facts n
    have hall : ∀ x ∈ c :: r, isDig x = true := fun x hx => hf.1 x (by rw [← h]; exact List.mem_append_left _ hx)
    have hc : isDig c = true := hall c (by simp)
    have hle : val (c :: r) 0 ≤ 4096 := by
      have : val (c :: r ++ q) 0 = n := by rw [h]; exact hf.2
      have h2 : val (c :: r ++ q) 0 = val q (val (c :: r) 0) := by simp [val]
      have h3 := val_ge q (val (c :: r) 0)
      omega
    unfold pLen
    show ∃ m, (if isDig c = false then _ else if c = 48 then _ else _) = _
    rw [if_neg (by rw [hc]; simp)]
    by_cases h48 : c = 48
    · rw [if_pos h48]
      rcases Nat.eq_zero_or_pos n with h0 | h0
      · subst h0
        rw [dec_zero] at h
        have : r = [] := by simp at h; exact h.2.1
        exact ⟨0, by rw [this]⟩
      · obtain ⟨d, q', hd, h48'⟩ := dec_head n h0
        rw [hd] at h
        simp at h
        exact absurd (h.1 ▸ h48) h48'
    · rw [if_neg h48]
      have hr1 := digs_run 4096 (c :: r) [] 0 hall hle
      rw [List.append_nil] at hr1
      have hz : digs 4096 [] (val (c :: r) 0) = some (val (c :: r) 0, 0) := rfl
      rw [hz] at hr1
      rw [hr1]
      exact ⟨val (c :: r) 0, by simp⟩
theorem pBytes_sound {s b r : List UInt8} (h : pBytes s = .ok b r) : s = text b ++ r ∧ b.length ≤ 4096 := by
  unfold pBytes at h
  cases hl : pLen s with
  | err e r' => rw [hl] at h; cases h
  | ok n r' =>
    rw [hl] at h
    obtain ⟨h1, h2⟩ := pLen_sound hl
    cases r' with
    | nil => cases h
    | cons c r'' =>
      simp only at h
      split at h
      · cases h
      · rename_i hc
        have hc : c = 58 := Classical.not_not.1 hc
        split at h
        · cases h
        · rename_i hn
          injection h with h3 h4
          have hbl : b.length = n := by rw [← h3]; simp; omega
          refine ⟨?_, by omega⟩
          rw [h1, text, hbl, hc, ← h3, ← h4]
          simp
theorem pBytes_full (b r : List UInt8) (hb : b.length ≤ 4096) : pBytes (text b ++ r) = .ok b r := by
  have h := pLen_full b.length (58 :: (b ++ r)) hb (.inr ⟨58, _, rfl, isDig58⟩)
  have e : text b ++ r = Lib.decDigits b.length ++ 58 :: (b ++ r) := by simp [text]
  unfold pBytes
  rw [e, h]
  simp
theorem pBytes_cut (b p q : List UInt8) (hb : b.length ≤ 4096) (hq : q ≠ []) (h : p ++ q = text b) : pBytes p = .err 2 [] := by
  rw [text] at h
  rcases List.append_eq_append_iff.1 h with ⟨a, h1, h2⟩ | ⟨a, h1, h2⟩
  · rcases pLen_cut b.length p a hb h1.symm with h' | ⟨m, h'⟩
    · unfold pBytes; rw [h']
    · unfold pBytes; rw [h']
  · cases a with
    | nil =>
      rw [List.append_nil] at h1
      rcases pLen_cut b.length p [] hb (by rw [List.append_nil, h1]) with h' | ⟨m, h'⟩
      · unfold pBytes; rw [h']
      · unfold pBytes; rw [h']
    | cons c a =>
      rw [List.cons_append] at h2
      injection h2 with h3 h4
      subst h3
      have hl := pLen_full b.length (58 :: a) hb (.inr ⟨58, _, rfl, isDig58⟩)
      unfold pBytes
      rw [h1, hl]
      simp
      have : b.length = a.length + q.length := by rw [h4]; simp
      have hq' : 0 < q.length := by
        cases q with
        | nil => exact absurd rfl hq
        | cons => simp
      omega
end Sx
