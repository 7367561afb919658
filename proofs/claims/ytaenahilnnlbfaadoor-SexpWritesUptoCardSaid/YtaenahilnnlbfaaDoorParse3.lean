/-
  Plain mathematics: a form that is cut off is short, at its end; what is read of all bytes. No conditions.
-/
import Derived.Test.YtaenahilnnlbfaaDoorParse2
namespace Sx
open Go Oct

theorem cut (t : SX) : ∀ (p q : List UInt8) (nd ar f : Nat), Ok t nd ar → p ++ q = form t → q ≠ [] → 2 * p.length + 1 ≤ f → pVal f p nd ar = .err 2 [] := by
  induction t using SX.ind with
  | H l h hi da ks ih =>
    intro p q nd ar f hok he hq hf
    obtain ⟨f, rfl⟩ : ∃ g, f = g + 1 := ⟨f - 1, by omega⟩
    cases p with
    | nil => rw [pVal]
    | cons c p =>
      obtain ⟨h1, h2, h3, h4⟩ := hok
      have hp := nodes_pos (.mk l h hi da ks)
      rw [clean, Bool.and_eq_true] at h1
      obtain ⟨hw, hcl⟩ := h1
      cases l with
      | true =>
        have hkids : ∀ (us : List SX), (∀ u ∈ us, u ∈ ks) → ∀ (p : List UInt8) (nd ar g : Nat), OkL us nd ar → p ++ q = formL us ++ [41] → 2 * p.length + 2 ≤ g → pKids g p nd ar = .err 2 [] := by
          intro us
          induction us with
          | nil =>
            intro _ p nd ar g _ hpq hg
            obtain ⟨g, rfl⟩ : ∃ g', g = g' + 1 := ⟨g - 1, by omega⟩
            cases p with
            | nil => rw [pKids]
            | cons c p =>
              rw [formL, List.nil_append, List.cons_append] at hpq
              injection hpq with _ hpq
              exact absurd (List.append_eq_nil_iff.1 hpq).2 hq
          | cons u us ihu =>
            intro hsub p nd ar g hok hpq hg
            obtain ⟨g, rfl⟩ : ∃ g', g = g' + 1 := ⟨g - 1, by omega⟩
            obtain ⟨o1, o2⟩ := hok.cons
            cases p with
            | nil => rw [pKids]
            | cons c p =>
              obtain ⟨d, q', hd, _, hd41⟩ := form_head u
              rw [formL, List.append_assoc] at hpq
              have hcd : c = d := by rw [hd] at hpq; simp at hpq; exact hpq.1
              have hstep : pKids (g + 1) (c :: p) nd ar = match pVal g (c :: p) nd ar with
                  | .err e r' => .err e r'
                  | .ok (t, nd') r' => match pKids g r' nd' ar with
                    | .err e r'' => .err e r''
                    | .ok (ts, nd'') r'' => .ok (t :: ts, nd'') r'' := by
                rw [pKids]
                try simp only
                rw [if_neg (by rw [hcd]; exact hd41)]
                rfl
              rw [hstep]
              rcases List.append_eq_append_iff.1 hpq with ⟨a, h5, h6⟩ | ⟨a, h5, h6⟩
              · cases a with
                | nil =>
                  rw [List.append_nil] at h5
                  have hv := full u [] nd ar g o1 (by rw [h5]; simp at hg ⊢; omega)
                  rw [List.append_nil, h5] at hv
                  rw [hv]
                  simp only
                  obtain ⟨g, rfl⟩ : ∃ g', g = g' + 1 := ⟨g - 1, by simp at hg; omega⟩
                  rw [pKids]
                | cons a0 a =>
                  rw [ih u (hsub u (by simp)) (c :: p) (a0 :: a) nd ar g o1 h5.symm (by simp) (by omega)]
              · have hv := full u a nd ar g o1 (by rw [← h5]; omega)
                rw [← h5] at hv
                rw [hv]
                simp only
                have hlen : 0 < (form u).length := by rw [hd]; simp
                have hl := congrArg List.length h5
                rw [List.length_append] at hl
                rw [ihu (fun x hx => hsub x (by simp [hx])) a (nd + nodes u) ar g o2 h6.symm (by omega)]
        have hz : h = false ∧ hi = [] ∧ da = [] := by
          simp [well] at hw
          exact ⟨hw.1.1, hw.1.2, hw.2⟩
        obtain ⟨rfl, rfl, rfl⟩ := hz
        have e : form (.mk true false [] [] ks) = 40 :: (formL ks ++ [41]) := by rw [form]; rfl
        rw [e, List.cons_append] at he
        injection he with hc he
        subst hc
        have ed : deep (.mk true false [] [] ks) = deepL ks + 1 := by rw [deep]; rfl
        have hk := hkids ks (fun u hu => hu) p (nd + 1) (ar + 1) f ⟨hcl, by rw [nodes] at h2; omega, by omega, by rw [e] at h4; simp at h4; omega⟩ he (by simp at hf; omega)
        rw [pVal]
        have hb : begins 40 = true := rfl
        simp only [hb]
        rw [if_neg (by simp), if_neg (by omega), if_pos trivial, hk]
      | false =>
        have hkn : ks = [] := by
          have : ks.isEmpty = true := by simp [well] at hw; simpa using hw.1
          simpa using this
        subst hkn
        have en : nodes (.mk false h hi da []) = 1 := by rw [nodes]; rfl
        cases h with
        | true =>
          have e : form (.mk false true hi da []) = 91 :: (text hi ++ 93 :: text da) := by rw [form]; simp
          have hl1 : hi.length ≤ 4096 := text_len_le (by rw [e] at h4; simp at h4; omega)
          have hl2 : da.length ≤ 4096 := text_len_le (by rw [e] at h4; simp at h4; omega)
          rw [e, List.cons_append] at he
          injection he with hc he
          subst hc
          rw [pVal]
          have hb : begins 91 = true := rfl
          simp only [hb]
          rw [if_neg (by simp), if_neg (by rw [en] at h2; simp; omega), if_neg (by decide), if_pos trivial, pHint_cut hi da p q hl1 hl2 hq he]
        | false =>
          have hhi : hi = [] := by simp [well] at hw; exact hw
          subst hhi
          have e : form (.mk false false [] da []) = text da := by rw [form]; rfl
          have hl2 : da.length ≤ 4096 := text_len_le (by rw [e] at h4; exact h4)
          obtain ⟨d, q', hd, hdd⟩ := text_head da
          have hcd : c = d := by rw [e, hd] at he; simp at he; exact he.1
          subst hcd
          obtain ⟨n1, n2, n3, _⟩ := digit_ne hdd
          rw [e] at he
          have hb := pBytes_cut da (c :: p) q hl2 hq he
          rw [pVal]
          simp only [n1]
          rw [if_neg (by simp), if_neg (by rw [en] at h2; simp [n2]; omega), if_neg n2, if_neg n3, hb]

/-- The value of which bytes are the form, and 0, 0; or the place, and the error's number. -/
def zeroS : SX := .mk false false [] [] []
def pGet (b : List UInt8) : SX × Nat × Nat :=
  if 4096 < b.length then (zeroS, 4096, 4)
  else match pVal (2 * b.length + 1) b 0 0 with
    | .err e r => (zeroS, b.length - r.length, e)
    | .ok (t, _) r => match r with
      | [] => (t, 0, 0)
      | _ :: _ => (zeroS, b.length - r.length, 5)

theorem may_ok {t : SX} (h : may t = true) : Ok t 0 0 := by
  rw [may_fits, fits_iff] at h
  exact ⟨h.1, by omega, h.2.2.2, h.2.2.1⟩
theorem pGet_full {t : SX} (h : may t = true) : pGet (form t) = (t, 0, 0) := by
  have ho := may_ok h
  have hv := full t [] 0 0 (2 * (form t).length + 1) ho (by simp)
  rw [List.append_nil] at hv
  unfold pGet
  rw [if_neg (by have := ho.2.2.2; omega), hv]
theorem pGet_cut {t : SX} (h : may t = true) {k : Nat} (hk : k < (form t).length) : pGet ((form t).take k) = (zeroS, k, 2) := by
  have ho := may_ok h
  have hl : ((form t).take k).length = k := by simp; omega
  have hv := cut t ((form t).take k) ((form t).drop k) 0 0 (2 * ((form t).take k).length + 1) ho (List.take_append_drop _ _) (by
    intro e
    have := congrArg List.length e
    simp at this
    omega) (Nat.le_refl _)
  unfold pGet
  rw [if_neg (by have := ho.2.2.2; omega), hv, hl]
  rfl
theorem pGet_more {t : SX} (h : may t = true) {c : UInt8} {m : List UInt8} (hl : (form t).length + (c :: m).length ≤ 4096) : pGet (form t ++ c :: m) = (zeroS, (form t).length, 5) := by
  have ho := may_ok h
  have hv := full t (c :: m) 0 0 (2 * (form t ++ c :: m).length + 1) ho (Nat.le_refl _)
  unfold pGet
  rw [if_neg (by rw [List.length_append]; omega), hv]
  simp
theorem pGet_sound {b : List UInt8} {t : SX} {p : Nat} (h : pGet b = (t, p, 0)) (hne : ∀ r, pVal (2 * b.length + 1) b 0 0 ≠ .err 0 r) : form t = b ∧ may t = true ∧ p = 0 := by
  unfold pGet at h
  split at h
  · cases h
  · rename_i hb
    cases hv : pVal (2 * b.length + 1) b 0 0 with
    | err e r =>
      rw [hv] at h
      simp at h
      exact absurd (h.2.2 ▸ hv) (hne r)
    | ok x r =>
      obtain ⟨u, n⟩ := x
      rw [hv] at h
      cases r with
      | nil =>
        simp at h
        obtain ⟨rfl, rfl⟩ := h
        obtain ⟨h1, h2, h3, h4, h5⟩ := (sound _).1 _ _ _ _ _ _ hv (by omega)
        rw [List.append_nil] at h1
        refine ⟨h1.symm, ?_, rfl⟩
        rw [may_fits, fits_iff]
        exact ⟨h2, by omega, by rw [← h1]; omega, h5⟩
      | cons c r => simp at h

/-- The length at a place, and what is left. -/
theorem getLen_pLen (b s : List UInt8) (p : Nat) (hp : p ≤ b.length) (hs : b.drop p = s) :
    getLen b (p : Int) 4096 = match pLen s with
      | .err k _ => (0, (p : Int), (k : Int))
      | .ok m r => ((m : Int), ((b.length - r.length : Nat) : Int), 0) := by
  have hl : s.length = b.length - p := by rw [← hs, List.length_drop]
  unfold getLen pLen
  rw [if_neg (by omega), Int.toNat_natCast, hs]
  cases s with
  | nil => rfl
  | cons c r =>
    simp only
    by_cases h1 : isDig c = false
    · rw [if_pos h1, if_pos h1]; rfl
    · rw [if_neg h1, if_neg h1]
      by_cases h2 : c = 48
      · rw [if_pos h2, if_pos h2]
        simp at hl
        simp only
        congr 2
        omega
      · rw [if_neg h2, if_neg h2]
        have e : (max (4096 : Int) 0).toNat = 4096 := by decide
        rw [e]
        cases hd : digs 4096 (c :: r) 0 with
        | none => rfl
        | some q =>
          obtain ⟨n, k⟩ := q
          simp only
          have hk := (digs_sound _ _ _ _ _ hd).1
          congr 2
          rw [List.length_drop]
          omega
theorem pLen_err {s : List UInt8} {k : Nat} {r : List UInt8} (h : pLen s = .err k r) : r = s ∧ (k = 2 ∧ s = [] ∨ k = 3 ∧ s ≠ [] ∨ k = 4 ∧ s ≠ []) := by
  unfold pLen at h
  cases s with
  | nil => injection h with h1 h2; exact ⟨h2.symm, .inl ⟨h1.symm, rfl⟩⟩
  | cons c r0 =>
    simp only at h
    split at h
    · injection h with h1 h2; exact ⟨h2.symm, .inr (.inl ⟨h1.symm, by simp⟩)⟩
    · split at h
      · cases h
      · split at h
        · injection h with h1 h2; exact ⟨h2.symm, .inr (.inr ⟨h1.symm, by simp⟩)⟩
        · cases h
theorem drop_rest {b s r : List UInt8} {p : Nat} {t : List UInt8} (hp : p ≤ b.length) (hs : b.drop p = s) (h : s = t ++ r) : b.drop (b.length - r.length) = r ∧ b.length - r.length = p + t.length ∧ p + t.length ≤ b.length := by
  have hl : s.length = b.length - p := by rw [← hs, List.length_drop]
  have hl2 : s.length = t.length + r.length := by rw [h, List.length_append]
  have e : b.length - r.length = p + t.length := by omega
  refine ⟨?_, e, by omega⟩
  rw [e, ← List.drop_drop, hs, h, List.drop_left]
end Sx
