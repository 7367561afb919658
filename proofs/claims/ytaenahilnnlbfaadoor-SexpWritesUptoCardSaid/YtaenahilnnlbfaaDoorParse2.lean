/-
  Plain mathematics: what is read is a tree's form, a tree's form is read as it, a form that is cut off is short. No conditions.
-/
import Derived.Test.YtaenahilnnlbfaaDoorParse
namespace Sx
open Go Oct

theorem pHint_sound {s hi da r : List UInt8} (h : pHint s = .ok (hi, da) r) : s = text hi ++ 93 :: (text da ++ r) := by
  unfold pHint at h
  cases h1 : pBytes s with
  | err e r' => rw [h1] at h; cases h
  | ok hi' r' =>
    rw [h1] at h
    cases r' with
    | nil => cases h
    | cons c r'' =>
      simp only at h
      split at h
      · cases h
      · rename_i hc
        have hc : c = 93 := Classical.not_not.1 hc
        cases h2 : pBytes r'' with
        | err e r3 => rw [h2] at h; cases h
        | ok da' r3 =>
          rw [h2] at h
          injection h with h3 h4
          injection h3 with h5 h6
          rw [(pBytes_sound h1).1, (pBytes_sound h2).1, hc, h5, h6, h4]
theorem pHint_full (hi da r : List UInt8) (h1 : hi.length ≤ 4096) (h2 : da.length ≤ 4096) : pHint (text hi ++ 93 :: (text da ++ r)) = .ok (hi, da) r := by
  unfold pHint
  rw [pBytes_full _ _ h1]
  simp only
  rw [if_neg (by simp), pBytes_full _ _ h2]
theorem pHint_cut (hi da p q : List UInt8) (h1 : hi.length ≤ 4096) (h2 : da.length ≤ 4096) (hq : q ≠ []) (h : p ++ q = text hi ++ 93 :: text da) : pHint p = .err 2 [] := by
  rcases List.append_eq_append_iff.1 h with ⟨a, h3, h4⟩ | ⟨a, h3, h4⟩
  · cases a with
    | nil =>
      rw [List.append_nil] at h3
      have := pBytes_full hi [] h1
      rw [List.append_nil, h3] at this
      unfold pHint; rw [this]
    | cons c a => unfold pHint; rw [pBytes_cut hi p (c :: a) h1 (by simp) h3.symm]
  · rw [h3]
    unfold pHint
    rw [pBytes_full _ _ h1]
    cases a with
    | nil => rfl
    | cons c a =>
      rw [List.cons_append] at h4
      injection h4 with h5 h6
      simp only
      rw [if_neg (by simp [h5.symm]), pBytes_cut da a q h2 hq h6.symm]
theorem text_head (b : List UInt8) : ∃ c r, text b = c :: r ∧ isDig c = true := by
  have hf := (dec_facts b.length).1
  unfold text
  cases hd : Lib.decDigits b.length with
  | nil =>
    rcases Nat.eq_zero_or_pos b.length with h | h
    · rw [h, dec_zero] at hd; cases hd
    · obtain ⟨d, q, hd', _⟩ := dec_head _ h
      rw [hd'] at hd; cases hd
  | cons c r => exact ⟨c, _, rfl, hf c (by rw [hd]; simp)⟩
theorem digit_ne {c : UInt8} (h : isDig c = true) : begins c = true ∧ c ≠ 40 ∧ c ≠ 91 ∧ c ≠ 41 := by
  refine ⟨by simp [begins, h], ?_, ?_, ?_⟩ <;> (rintro rfl; revert h; decide)
theorem form_head (t : SX) : ∃ c r, form t = c :: r ∧ begins c = true ∧ c ≠ 41 := by
  cases t with
  | mk l h hi da ks =>
    rw [form]
    cases l
    · cases h
      · obtain ⟨c, r, h1, h2⟩ := text_head da
        exact ⟨c, r, by simp [h1], (digit_ne h2).1, (digit_ne h2).2.2.2⟩
      · exact ⟨91, _, rfl, rfl, by decide⟩
    · exact ⟨40, _, rfl, rfl, by decide⟩

theorem sound (f : Nat) : (∀ s nd ar t nd' r, pVal f s nd ar = .ok (t, nd') r → ar ≤ 16 → s = form t ++ r ∧ clean t = true ∧ nd' = nd + nodes t ∧ nd' ≤ 512 ∧ ar + deep t ≤ 16) ∧
    (∀ s nd ar ts nd' r, pKids f s nd ar = .ok (ts, nd') r → ar ≤ 16 → nd ≤ 512 → s = formL ts ++ 41 :: r ∧ cleanL ts = true ∧ nd' = nd + nodesL ts ∧ nd' ≤ 512 ∧ ar + deepL ts ≤ 16) := by
  induction f with
  | zero =>
    refine ⟨?_, ?_⟩
    · intro s nd ar t nd' r h
      rw [pVal] at h
      cases h
    · intro s nd ar t nd' r h
      rw [pKids] at h
      cases h
  | succ f ih =>
    refine ⟨?_, ?_⟩
    · intro s nd ar t nd' r h ha
      cases s with
      | nil => rw [pVal] at h; cases h
      | cons c s =>
        rw [pVal] at h
        try simp only at h
        split at h
        · cases h
        · split at h
          · cases h
          · rename_i hlim
            split at h
            · rename_i hc
              subst hc
              cases hk : pKids f s (nd + 1) (ar + 1) with
              | err e r' => rw [hk] at h; cases h
              | ok x r' =>
                obtain ⟨ks, n'⟩ := x
                rw [hk] at h
                injection h with h1 h2
                injection h1 with h3 h4
                subst h2 h3 h4
                have hlt : nd < 512 ∧ ar < 16 := by
                  have h1 : ¬ 512 ≤ nd := fun h => hlim (.inl h)
                  have h2 : ¬ 16 ≤ ar := fun h => hlim (.inr ⟨rfl, h⟩)
                  omega
                obtain ⟨k1, k2, k3, k4, k5⟩ := ih.2 _ _ _ _ _ _ hk (by omega) (by omega)
                refine ⟨?_, ?_, ?_, k4, ?_⟩
                · rw [form, k1]; simp
                · rw [clean, k2]; rfl
                · rw [nodes, k3]; omega
                · rw [deep]; simp; omega
            · rename_i hc40
              split at h
              · rename_i hc
                subst hc
                cases hk : pHint s with
                | err e r' => rw [hk] at h; cases h
                | ok x r' =>
                  obtain ⟨hi, da⟩ := x
                  rw [hk] at h
                  injection h with h1 h2
                  injection h1 with h3 h4
                  subst h2 h3 h4
                  have ed : deep (.mk false true hi da []) = 0 := by rw [deep]; rfl
                  refine ⟨?_, rfl, by rw [nodes]; rfl, by omega, by omega⟩
                  rw [form, pHint_sound hk]; simp
              · cases hk : pBytes (c :: s) with
                | err e r' => rw [hk] at h; cases h
                | ok da r' =>
                  rw [hk] at h
                  injection h with h1 h2
                  injection h1 with h3 h4
                  subst h2 h3 h4
                  have ed : deep (.mk false false [] da []) = 0 := by rw [deep]; rfl
                  refine ⟨?_, rfl, by rw [nodes]; rfl, by omega, by omega⟩
                  rw [form, (pBytes_sound hk).1]; simp
    · intro s nd ar ts nd' r h ha hn
      cases s with
      | nil => rw [pKids] at h; cases h
      | cons c s =>
        rw [pKids] at h
        try simp only at h
        split at h
        · rename_i hc
          injection h with h1 h2
          injection h1 with h3 h4
          subst h2 h3 h4 hc
          exact ⟨rfl, rfl, by simp [nodesL], hn, by simp [deepL]; omega⟩
        · cases hv : pVal f (c :: s) nd ar with
          | err e r' => rw [hv] at h; cases h
          | ok x r' =>
            obtain ⟨t, n1⟩ := x
            rw [hv] at h
            simp only at h
            cases hk : pKids f r' n1 ar with
            | err e r'' => rw [hk] at h; cases h
            | ok y r'' =>
              obtain ⟨us, n2⟩ := y
              rw [hk] at h
              injection h with h1 h2
              injection h1 with h3 h4
              subst h2 h3 h4
              obtain ⟨v1, v2, v3, v4, v5⟩ := ih.1 _ _ _ _ _ _ hv ha
              obtain ⟨k1, k2, k3, k4, k5⟩ := ih.2 _ _ _ _ _ _ hk ha v4
              refine ⟨?_, ?_, ?_, k4, ?_⟩
              · rw [v1, k1, formL]; simp
              · rw [cleanL, v2, k2]; rfl
              · rw [nodesL, k3, v3]; omega
              · rw [deepL]; omega

/-- A tree that may stand there. -/
def Ok (t : SX) (nd ar : Nat) : Prop := clean t = true ∧ nd + nodes t ≤ 512 ∧ ar + deep t ≤ 16 ∧ (form t).length ≤ 4096
def OkL (ks : List SX) (nd ar : Nat) : Prop := cleanL ks = true ∧ nd + nodesL ks ≤ 512 ∧ ar + deepL ks ≤ 16 ∧ (formL ks).length ≤ 4096
theorem OkL.cons {k : SX} {ks : List SX} {nd ar : Nat} (h : OkL (k :: ks) nd ar) : Ok k nd ar ∧ OkL ks (nd + nodes k) ar := by
  obtain ⟨h1, h2, h3, h4⟩ := h
  rw [cleanL, Bool.and_eq_true] at h1
  rw [nodesL] at h2
  rw [deepL] at h3
  rw [formL, List.length_append] at h4
  exact ⟨⟨h1.1, by omega, by omega, by omega⟩, ⟨h1.2, by omega, by omega, by omega⟩⟩
theorem text_len_le {b : List UInt8} {m : Nat} (h : (text b).length ≤ m) : b.length ≤ m := by
  simp [text] at h; omega

theorem full (t : SX) : ∀ (r : List UInt8) (nd ar f : Nat), Ok t nd ar → 2 * (form t ++ r).length + 1 ≤ f → pVal f (form t ++ r) nd ar = .ok (t, nd + nodes t) r := by
  induction t using SX.ind with
  | H l h hi da ks ih =>
    intro r nd ar f hok hf
    obtain ⟨h1, h2, h3, h4⟩ := hok
    have hp := nodes_pos (.mk l h hi da ks)
    rw [clean, Bool.and_eq_true] at h1
    obtain ⟨hw, hcl⟩ := h1
    obtain ⟨f, rfl⟩ : ∃ g, f = g + 1 := ⟨f - 1, by omega⟩
    cases l with
    | true =>
      have hkids : ∀ (us : List SX), (∀ u ∈ us, u ∈ ks) → ∀ (nd ar g : Nat), OkL us nd ar → 2 * (formL us ++ 41 :: r).length + 2 ≤ g → pKids g (formL us ++ 41 :: r) nd ar = .ok (us, nd + nodesL us) r := by
        intro us
        induction us with
        | nil =>
          intro _ nd ar g _ hg
          obtain ⟨g, rfl⟩ : ∃ g', g = g' + 1 := ⟨g - 1, by omega⟩
          rw [formL, List.nil_append, pKids]
          simp [nodesL]
        | cons u us ihu =>
          intro hsub nd ar g hok hg
          obtain ⟨g, rfl⟩ : ∃ g', g = g' + 1 := ⟨g - 1, by omega⟩
          obtain ⟨o1, o2⟩ := hok.cons
          obtain ⟨c, q, hc, _, hc41⟩ := form_head u
          have hv := ih u (hsub u (by simp)) (formL us ++ 41 :: r) nd ar g o1 (by rw [formL] at hg; simp only [List.append_assoc] at hg; omega)
          have hlen : 0 < (form u).length := by rw [hc]; simp
          have hk := ihu (fun x hx => hsub x (by simp [hx])) (nd + nodes u) ar g o2 (by rw [formL] at hg; simp only [List.append_assoc, List.length_append] at hg ⊢; omega)
          rw [formL, List.append_assoc]
          rw [hc, List.cons_append] at hv ⊢
          rw [pKids]
          try simp only
          rw [if_neg hc41, hv]
          simp only
          rw [hk]
          simp only [nodesL]
          rw [Nat.add_assoc]
      have hks := hkids ks (fun u hu => hu) (nd + 1) (ar + 1) f ⟨hcl, by rw [nodes] at h2; omega, by rw [show deep (.mk true h hi da ks) = deepL ks + 1 by (rw [deep]; rfl)] at h3; omega, by rw [form] at h4; simp at h4; omega⟩ (by rw [form] at hf; simp at hf ⊢; omega)
      have hz : h = false ∧ hi = [] ∧ da = [] := by
        simp [well] at hw
        exact ⟨hw.1.1, hw.1.2, hw.2⟩
      obtain ⟨rfl, rfl, rfl⟩ := hz
      have e : form (.mk true false [] [] ks) ++ r = 40 :: (formL ks ++ 41 :: r) := by rw [form]; simp
      rw [e, pVal]
      have ed : deep (.mk true false [] [] ks) = deepL ks + 1 := by rw [deep]; rfl
      have hb : begins 40 = true := rfl
      simp only [hb]
      rw [if_neg (by simp), if_neg (by omega), if_pos trivial, hks]
      simp only [nodes]
      rw [Nat.add_assoc]
    | false =>
      have hkn : ks = [] := by
        have : ks.isEmpty = true := by simp [well] at hw; simpa using hw.1
        simpa using this
      subst hkn
      have en : nodes (.mk false h hi da []) = 1 := by rw [nodes]; rfl
      cases h with
      | true =>
        have e : form (.mk false true hi da []) = 91 :: (text hi ++ 93 :: text da) := by rw [form]; simp
        have hl1 : hi.length ≤ 4096 := text_len_le (by rw [e] at h4; simp at h4; omega)
        have hl2 : da.length ≤ 4096 := text_len_le (by rw [e] at h4; simp at h4; omega)
        have e2 : form (.mk false true hi da []) ++ r = 91 :: (text hi ++ 93 :: (text da ++ r)) := by rw [e]; simp
        rw [e2, pVal, en]
        have hb : begins 91 = true := rfl
        simp only [hb]
        rw [if_neg (by simp), if_neg (by rw [en] at h2; simp; omega), if_neg (by decide), if_pos trivial, pHint_full hi da r hl1 hl2]
      | false =>
        have hhi : hi = [] := by simp [well] at hw; exact hw
        subst hhi
        have e : form (.mk false false [] da []) = text da := by rw [form]; rfl
        have hl2 : da.length ≤ 4096 := text_len_le (by rw [e] at h4; exact h4)
        obtain ⟨c, q, hc, hd⟩ := text_head da
        obtain ⟨n1, n2, n3, _⟩ := digit_ne hd
        have hb := pBytes_full da r hl2
        rw [e, en]
        rw [hc, List.cons_append] at hb ⊢
        rw [pVal]
        simp only [n1]
        rw [if_neg (by simp), if_neg (by rw [en] at h2; simp [n2]; omega), if_neg n2, if_neg n3, hb]
theorem fullL (r : List UInt8) (us : List SX) : ∀ (nd ar g : Nat), OkL us nd ar → 2 * (formL us ++ 41 :: r).length + 2 ≤ g → pKids g (formL us ++ 41 :: r) nd ar = .ok (us, nd + nodesL us) r := by
  induction us with
  | nil =>
    intro nd ar g _ hg
    obtain ⟨g, rfl⟩ : ∃ g', g = g' + 1 := ⟨g - 1, by omega⟩
    rw [formL, List.nil_append, pKids]
    simp [nodesL]
  | cons u us ihu =>
    intro nd ar g hok hg
    obtain ⟨g, rfl⟩ : ∃ g', g = g' + 1 := ⟨g - 1, by omega⟩
    obtain ⟨o1, o2⟩ := hok.cons
    obtain ⟨c, q, hc, _, hc41⟩ := form_head u
    have hv := full u (formL us ++ 41 :: r) nd ar g o1 (by rw [formL] at hg; simp only [List.append_assoc] at hg; omega)
    have hlen : 0 < (form u).length := by rw [hc]; simp
    have hk := ihu (nd + nodes u) ar g o2 (by rw [formL] at hg; simp only [List.append_assoc, List.length_append] at hg ⊢; omega)
    rw [formL, List.append_assoc]
    rw [hc, List.cons_append] at hv ⊢
    rw [pKids]
    try simp only
    rw [if_neg hc41, hv]
    simp only
    rw [hk]
    simp only [nodesL]
    rw [Nat.add_assoc]

/-- No two trees that may be have one form. -/
theorem form_inj {a b : SX} (ha : may a = true) (hb : may b = true) (h : form a = form b) : a = b := by
  rw [may_fits, fits_iff] at ha hb
  have h1 := full a [] 0 0 (2 * (form a ++ []).length + 1) ⟨ha.1, by omega, ha.2.2.2, ha.2.2.1⟩ (Nat.le_refl _)
  have h2 := full b [] 0 0 (2 * (form b ++ []).length + 1) ⟨hb.1, by omega, hb.2.2.2, hb.2.2.1⟩ (Nat.le_refl _)
  rw [← h, h1] at h2
  injection h2 with h3
  injection h3
end Sx
