/-
  The contracts of bytes.Clone, slices.Clone, and of sexp's Clone, cloneAll, List and Atom: the same trees, in new memory. Conditions: none.
-/
import Derived.Test.YtaenahilnnlbfaaDoorSxIn
import Derived.Test.YtaenahilnnlbfaaDoorStr
import Derived.Test.YtaenahilnnlbfaaDoorShelf
import Derived.Test.YtaenahilnnlbfaaDoorText
import Derived.Lib.SmallJoins
set_option linter.unusedVariables false
namespace Go.Proofs.YtaenahilnnlbfaaDoor
open Go Go.Proofs Go.RowKit Sx

theorem infoSexp : (Tryd.prog.info? 25).map (fun i => (i.zero, i.size, i.bytes)) = some (some (.agg #[.bool false, .bool false, .slice none 0 0, .slice none 0 0, .slice none 0 0]), 5, 80) := by kernel_rfl

/-- What the call owns reads in new blocks. -/
theorem RIn.of_own {w : World} {base : Nat} {e : TypeId} {size n : Nat} {v : Value} {xs : List Value} (h : w.ownsRow base e size v n xs) :
    ∃ A c, v = .slice A n c ∧ n ≤ c ∧ RIn w (fun b => base ≤ b) size A n xs := by
  rcases h.2 with ⟨h1, h2⟩ | ⟨g, cap, cur, hv, hb, hh, hc, _⟩
  · subst h2
    exact ⟨none, 0, h1, Nat.le_refl _, h.1, fun h => absurd h (by omega)⟩
  · subst hv
    exact ⟨_, _, rfl, hc, h.1, fun _ => ⟨_, rfl, hb, h.cells (g := g) rfl⟩⟩

def ints (l : List UInt8) : List Int := l.map fun b => (b.toNat : Int)
theorem ints_cells (l : List UInt8) : (ints l).map (Value.int .u8) = Lib.byteCells l := by simp [ints, Lib.byteCells]

def BytesNew (w : World) (L : List UInt8) (e : Ending) (w' : World) : Prop := ∃ A c, e = .returned (.slice A L.length c) ∧ L.length ≤ c ∧ RIn w' (fun b => w.heap.size ≤ b) 1 A L.length (Lib.byteCells L) ∧ Below w.heap.size w w'

theorem bytesClone_any (A : Option Addr) (n c : Nat) (l : List UInt8) (S : Nat → Prop) (w : World) (hr : RIn w S 1 A n (Lib.byteCells l)) (hn : n ≤ 140737488355328) :
    Calls Tryd.prog 31 #[.slice A n c] w (BytesNew w l) := by
  have hl : l.length = n := by have := hr.1; simpa [Lib.byteCells_length] using this
  subst hl
  rcases A with _ | ad
  · have h0 : l.length = 0 := by
      rcases Nat.eq_zero_or_pos l.length with h | h
      · exact h
      · obtain ⟨_, h, _⟩ := hr.2 h; cases h
    have hn : l = [] := List.eq_nil_of_length_eq_zero h0
    subst hn
    refine (Tryd.bytes_Clone_nil _ c w).mono ?_
    rintro e w' ⟨rfl, rfl⟩
    exact ⟨none, 0, rfl, Nat.le_refl _, RIn.none_, Below.refl _ _⟩
  · refine (Tryd.bytes_Clone_at ad l.length c (ints l) w (by simp [ints]) hn ?_).mono ?_
    · intro i hi
      obtain ⟨ad', h1, _, h3⟩ := hr.2 (by omega)
      injection h1 with h1
      subst h1
      refine h3 i _ ?_
      simp [Lib.byteCells, ints, List.getD, List.getElem?_eq_getElem hi]
    · rintro e w' ⟨v', rfl, hown, _, hb⟩
      rw [ints_cells] at hown
      obtain ⟨A', c', rfl, hc, hri⟩ := RIn.of_own hown
      exact ⟨A', c', rfl, hc, hri, hb⟩

/-- The cells of the kids are one each. -/
theorem one_cells {w : World} {S : Nat → Prop} {A : Option Addr} {n : Nat} {xs : List Value} {ks : List SX} (h3 : RIn w S 5 A n xs) (hk : ks.length = n)
    (hs : ∀ i t, ks[i]? = some t → SIn w S t ((xs.drop (i * 5)).take 5)) : ∀ u ∈ xs, u.oneCell' = true := by
  intro u hu
  obtain ⟨j, hj, rfl⟩ := List.getElem_of_mem hu
  have hl := h3.1
  have hi : j / 5 < ks.length := by omega
  have h := hs (j / 5) ks[j / 5] (List.getElem?_eq_getElem hi)
  obtain ⟨l, h', hi', da, ks', A1, n1, c1, A2, n2, c2, A3, n3, c3, _, e⟩ := h.form_
  have hg : ((xs.drop (j / 5 * 5)).take 5)[j % 5]? = some xs[j] := by
    rw [List.getElem?_take, if_pos (by omega), List.getElem?_drop, show j / 5 * 5 + j % 5 = j by omega, List.getElem?_eq_getElem hj]
  rw [e] at hg
  have h5 : j % 5 < 5 := by omega
  match hm : j % 5, h5 with
  | 0, _ => rw [hm] at hg; simp at hg; rw [← hg]; rfl
  | 1, _ => rw [hm] at hg; simp at hg; rw [← hg]; rfl
  | 2, _ => rw [hm] at hg; simp at hg; rw [← hg]; rfl
  | 3, _ => rw [hm] at hg; simp at hg; rw [← hg]; rfl
  | 4, _ => rw [hm] at hg; simp at hg; rw [← hg]; rfl

def KidsNew (w : World) (n : Nat) (xs : List Value) (e : Ending) (w' : World) : Prop := ∃ v, e = .returned v ∧ w'.ownsRow w.heap.size 25 5 v n xs ∧ Below w.heap.size w w'

theorem owns_none5 (w : World) (b : Nat) : (w.alloc (.cells #[] 25)).ownsRow w.heap.size 25 5 (.slice (some ⟨w.heap.size, 0, none⟩) 0 0) 0 [] :=
  ⟨rfl, .inr ⟨_, 0, #[], rfl, Nat.le_refl _, heap_alloc_new w _, Nat.le_refl _, by unfold maxLen; omega, rfl, rfl⟩⟩

set_option maxHeartbeats 1000000 in
set_option maxRecDepth 100000 in
theorem slicesClone_any (A : Option Addr) (n c : Nat) (xs : List Value) (S : Nat → Prop) (w : World) (hr : RIn w S 5 A n xs) (h1 : ∀ u ∈ xs, u.oneCell' = true) (hn : n * 80 ≤ 140737488355328) :
    Calls Tryd.prog 42 #[.slice A n c] w (KidsNew w n xs) := by
  obtain ⟨i0, hi, hz0, hz1, hz2⟩ := info_parts infoSexp
  rcases A with _ | ad
  · have h0 : n = 0 := by
      rcases Nat.eq_zero_or_pos n with h | h
      · exact h
      · obtain ⟨_, h, _⟩ := hr.2 h; cases h
    subst h0
    have hx : xs = [] := List.eq_nil_of_length_eq_zero (by simpa using hr.1)
    subst hx
    have hnil : ∀ W, (binOp .eql 23 (.slice none 0 c) (.slice none 0 0)).run Tryd.prog W = .ok (.bool true) W := fun W => Lib.run_eql_slice_nil_nil W _ _ Tryd.underlying23
    go_enter Tryd.func42, Tryd.ntmps42
    go_wp2_with fail
    go_ret
    exact ⟨_, rfl, ⟨rfl, .inl ⟨rfl, rfl⟩⟩, Below.refl _ _⟩
  · have hr' := (hr.old (by omega) (below_new w (.cells #[] 25))).reads (by omega)
    have ho := owns_none5 w 0
    have hnil : ∀ W, (binOp .eql 23 (.slice (some ad) n c) (.slice none 0 0)).run Tryd.prog W = .ok (.bool false) W := fun W => by
      exact Lib.run_eql_slice_some_nil W _ _ _ Tryd.underlying23
    have hb := below_new w (.cells #[] 25)
    go_enter Tryd.func42, Tryd.ntmps42
    go_wp2_with (at_builtin; refine wpList_append_any _ rfl (.tmp 5) (.tmp 6) 23 rfl w.heap.size 25 i0 _ 5 80 Tryd.underlying23 hi hz0 hz1 hz2 rfl (by omega) _ 0 [] rfl ho _ (some ad) n c xs rfl hr' h1 (by unfold maxLen; omega) (by omega) (by simp) ?_)
    intro v' w' hown hg _
    have hbb := hb.grown hg (by simp) (fun k hk => by simp [Value.ownBlock] at hk; omega)
    clear ho hb
    go_wp2_with fail
    go_ret
    exact ⟨_, rfl, hown, hbb⟩

/-! An element of five cells is stored into a row of the call's own. -/
def set5 (w : World) (a : Addr) (x0 x1 x2 x3 x4 : Value) : World :=
  ((((w.setCell a x0).setCell ⟨a.block, a.off + 1, none⟩ x1).setCell ⟨a.block, a.off + 2, none⟩ x2).setCell ⟨a.block, a.off + 3, none⟩ x3).setCell ⟨a.block, a.off + 4, none⟩ x4
def upd5 (ys : List Value) (p : Nat) (x0 x1 x2 x3 x4 : Value) : List Value := ((((ys.set p x0).set (p + 1) x1).set (p + 2) x2).set (p + 3) x3).set (p + 4) x4
theorem upd5_at (ys : List Value) (p : Nat) (x0 x1 x2 x3 x4 : Value) (h : p + 4 < ys.length) : ((upd5 ys p x0 x1 x2 x3 x4).drop p).take 5 = [x0, x1, x2, x3, x4] := by
  apply List.ext_getElem?
  intro r
  rw [List.getElem?_take, List.getElem?_drop]
  unfold upd5
  simp only [List.getElem?_set, List.length_set]
  match r with
  | 0 => simp; omega
  | 1 => simp; omega
  | 2 => simp; omega
  | 3 => simp; omega
  | 4 => simp; omega
  | r + 5 => rw [if_neg (by omega)]; rfl
theorem upd5_off (ys : List Value) (k i : Nat) (x0 x1 x2 x3 x4 : Value) (h : i ≠ k) : ((upd5 ys (k * 5) x0 x1 x2 x3 x4).drop (i * 5)).take 5 = (ys.drop (i * 5)).take 5 := by
  apply List.ext_getElem?
  intro r
  rw [List.getElem?_take, List.getElem?_take]
  split
  · rw [List.getElem?_drop, List.getElem?_drop]
    unfold upd5
    rw [List.getElem?_set_ne (by omega), List.getElem?_set_ne (by omega), List.getElem?_set_ne (by omega), List.getElem?_set_ne (by omega), List.getElem?_set_ne (by omega)]
  · rfl
theorem store_own {w : World} {base g cap n j : Nat} {e : TypeId} {size : Nat} {ys : List Value} (hown : w.ownsRow base e size (.slice (some ⟨g, 0, none⟩) n cap) n ys) (hj : j < ys.length) (x : Value) (hx : x.oneCell' = true) :
    (store ⟨g, j, none⟩ x).run Tryd.prog w = .ok () (w.setCell ⟨g, j, none⟩ x) := by
  have hc := hown.cells (g := g) rfl j _ (List.getElem?_eq_getElem hj)
  have e : (⟨g, 0, none⟩ : Addr).add j = ⟨g, j, none⟩ := by unfold Addr.add; split <;> simp_all
  rw [e] at hc
  have hf : w.frozen? ⟨g, j, none⟩ = false := by
    rcases hown.2 with ⟨h, _⟩ | ⟨g', cap', cur, h, _, h2, _⟩
    · cases h
    · injection h with h
      injection h with h
      injection h with h
      subst h
      simp [World.frozen?, h2]
  rw [run_store Tryd.prog w _ x _ hx, hc]
  simp [hf]
theorem stores5 {w : World} {base cap n k : Nat} {ad : Addr} {ys : List Value} (hown : w.ownsRow base 25 5 (.slice (some ad) n cap) n ys) (hk : k < n) {w' : World} {S : Nat → Prop} {t : SX} {x0 x1 x2 x3 x4 : Value} (hx : SIn w' S t [x0, x1, x2, x3, x4]) :
    (store (ad.add (k * 5)) x0).run Tryd.prog w = .ok () (w.setCell (ad.add (k * 5)) x0) ∧
    (store ⟨(ad.add (k * 5)).block, (ad.add (k * 5)).off + 1, none⟩ x1).run Tryd.prog (w.setCell (ad.add (k * 5)) x0) = .ok () ((w.setCell (ad.add (k * 5)) x0).setCell ⟨(ad.add (k * 5)).block, (ad.add (k * 5)).off + 1, none⟩ x1) ∧
    (store ⟨(ad.add (k * 5)).block, (ad.add (k * 5)).off + 2, none⟩ x2).run Tryd.prog ((w.setCell (ad.add (k * 5)) x0).setCell ⟨(ad.add (k * 5)).block, (ad.add (k * 5)).off + 1, none⟩ x1) = .ok () (((w.setCell (ad.add (k * 5)) x0).setCell ⟨(ad.add (k * 5)).block, (ad.add (k * 5)).off + 1, none⟩ x1).setCell ⟨(ad.add (k * 5)).block, (ad.add (k * 5)).off + 2, none⟩ x2) ∧
    (store ⟨(ad.add (k * 5)).block, (ad.add (k * 5)).off + 3, none⟩ x3).run Tryd.prog (((w.setCell (ad.add (k * 5)) x0).setCell ⟨(ad.add (k * 5)).block, (ad.add (k * 5)).off + 1, none⟩ x1).setCell ⟨(ad.add (k * 5)).block, (ad.add (k * 5)).off + 2, none⟩ x2) = .ok () ((((w.setCell (ad.add (k * 5)) x0).setCell ⟨(ad.add (k * 5)).block, (ad.add (k * 5)).off + 1, none⟩ x1).setCell ⟨(ad.add (k * 5)).block, (ad.add (k * 5)).off + 2, none⟩ x2).setCell ⟨(ad.add (k * 5)).block, (ad.add (k * 5)).off + 3, none⟩ x3) ∧
    (store ⟨(ad.add (k * 5)).block, (ad.add (k * 5)).off + 4, none⟩ x4).run Tryd.prog ((((w.setCell (ad.add (k * 5)) x0).setCell ⟨(ad.add (k * 5)).block, (ad.add (k * 5)).off + 1, none⟩ x1).setCell ⟨(ad.add (k * 5)).block, (ad.add (k * 5)).off + 2, none⟩ x2).setCell ⟨(ad.add (k * 5)).block, (ad.add (k * 5)).off + 3, none⟩ x3) = .ok () (set5 w (ad.add (k * 5)) x0 x1 x2 x3 x4) ∧
    (set5 w (ad.add (k * 5)) x0 x1 x2 x3 x4).ownsRow base 25 5 (.slice (some ad) n cap) n (upd5 ys (k * 5) x0 x1 x2 x3 x4) ∧ w.grownBy (set5 w (ad.add (k * 5)) x0 x1 x2 x3 x4) (some ad.block) := by
  obtain ⟨g, cap', hv, hb, hlt⟩ := hown.form (by omega)
  injection hv with hv
  injection hv with hv
  subst hv
  have ea : (⟨g, 0, none⟩ : Addr).add (k * 5) = ⟨g, k * 5, none⟩ := by unfold Addr.add; split <;> simp_all
  rw [ea]
  obtain ⟨_, _, _, _, _, A1, n1, c1, A2, n2, c2, A3, n3, c3, _, e⟩ := hx.form_
  injection e with e0 e; injection e with e1 e; injection e with e2 e; injection e with e3 e; injection e with e4 e
  have hl := hown.1
  obtain ⟨o1, g1⟩ := hown.stored (k * 5) x0
  obtain ⟨o2, g2⟩ := o1.stored (k * 5 + 1) x1
  obtain ⟨o3, g3⟩ := o2.stored (k * 5 + 2) x2
  obtain ⟨o4, g4⟩ := o3.stored (k * 5 + 3) x3
  obtain ⟨o5, g5⟩ := o4.stored (k * 5 + 4) x4
  refine ⟨store_own hown (by omega) x0 (by rw [e0]; rfl), store_own o1 (by simp; omega) x1 (by rw [e1]; rfl), store_own o2 (by simp; omega) x2 (by rw [e2]; rfl), store_own o3 (by simp; omega) x3 (by rw [e3]; rfl), store_own o4 (by simp; omega) x4 (by rw [e4]; rfl), o5, ?_⟩
  exact (((g1.trans g2).trans g3).trans g4).trans g5

/-- The kids of a value lie in blocks of a kind. -/
def Kids (w : World) (S : Nat → Prop) (ks : List SX) (xs : List Value) : Prop := ∀ i t, ks[i]? = some t → SIn w S t ((xs.drop (i * 5)).take 5)

def CloneSpec (t : SX) : Prop := ∀ (w : World) (S : Nat → Prop) (cs : List Value), SIn w S t cs →
    Calls Tryd.prog 18 #[.agg cs.toArray] w fun e w' => ∃ v0 v1 v2 v3 v4, e = .returned (.agg #[v0, v1, v2, v3, v4]) ∧ SIn w' (fun b => w.heap.size ≤ b) t [v0, v1, v2, v3, v4] ∧ Below w.heap.size w w'

def KidsOut (w : World) (ks : List SX) (n : Nat) (e : Ending) (w' : World) : Prop := ∃ A c ys, e = .returned (.slice A n c) ∧ n ≤ c ∧ RIn w' (fun b => w.heap.size ≤ b) 5 A n ys ∧ Kids w' (fun b => w.heap.size ≤ b) ks ys ∧ Below w.heap.size w w'

theorem own_old {w w' : World} {B : Nat} {e : TypeId} {size : Nat} {v : Value} {n : Nat} {xs : List Value} (h : w.ownsRow B e size v n xs) (hb : Below w.heap.size w w') : w'.ownsRow B e size v n xs := by
  refine ⟨h.1, ?_⟩
  rcases h.2 with h2 | ⟨g, cap, cur, hv, hg, hh, r⟩
  · exact Or.inl h2
  · exact Or.inr ⟨g, cap, cur, hv, hg, by rw [hb.block g (Array.getElem?_eq_some_iff.1 hh).1]; exact hh, r⟩

set_option maxHeartbeats 2000000 in
set_option maxRecDepth 100000 in
theorem cloneAll_any (ks : List SX) (hK : ∀ k ∈ ks, CloneSpec k) (A : Option Addr) (n c : Nat) (xs : List Value) (S : Nat → Prop) (w : World) (hr : RIn w S 5 A n xs) (hk : ks.length = n)
    (hs : Kids w S ks xs) (hn : n * 80 ≤ 140737488355328) :
    Calls Tryd.prog 32 #[.slice A n c] w (KidsOut w ks n) := by
  have HC := Lib.hid (slicesClone_any A n c xs S w hr (one_cells hr hk hs) hn)
  have HKS := Lib.hid hK
  have HS := Lib.hid hs
  have HK := Lib.hid hk
  clear hs hK hr hk
  go_enter Tryd.func32, Tryd.ntmps32
  go_wp2_with ((with_reducible refine HC.out.mono ?_); rintro e w1 ⟨v, rfl, hown, hb1⟩; obtain ⟨A1, c1, rfl, hc1⟩ : ∃ A1 c1, v = .slice A1 n c1 ∧ n ≤ c1 := by obtain ⟨A', c', h1, h2, _⟩ := RIn.of_own hown; exact ⟨A', c', h1, h2⟩)
  have hs1 : Hid (∀ i t, ks[i]? = some t → SIn w1 (fun b => S b ∧ b < w.heap.size) t ((xs.drop (i * 5)).take 5)) := fun i t h => (HS.out i t h).size_.kept hb1 (fun b h => h.2)
  go_loopw [9] (fun i wr => ∃ (k : Nat) (ys : List Value), k ≤ n ∧ i = .int .i64 k ∧ wr.ownsRow w.heap.size 25 5 (.slice A1 n c1) n ys ∧ Below w.heap.size w wr ∧
      Hid (∀ i t, ks[i]? = some t → i < k → SIn wr (fun b => w.heap.size ≤ b ∧ some b ≠ A1.map (·.block)) t ((ys.drop (i * 5)).take 5)) ∧
      Hid (∀ i t, ks[i]? = some t → k ≤ i → SIn wr (fun b => S b ∧ b < w.heap.size) t ((ys.drop (i * 5)).take 5))) (fun i _ => n - (intOf i).toNat)
  case atStart => exact ⟨0, xs, Nat.zero_le _, rfl, hown, hb1, fun i t h h0 => absurd h0 (by omega), fun i t h _ => hs1.out i t h⟩
  case round =>
    obtain ⟨k, ys, hkn, rfl, hownr, hbel, H1, H2⟩ := hrel
    clear hown hb1 hs1
    by_cases hlt : k < n
    · have hkl : k < ks.length := by rw [HK.out]; exact hlt
      obtain ⟨t, ht⟩ : ∃ t, t = ks[k] := ⟨_, rfl⟩
      have hks : ks[k]? = some t := by rw [ht]; exact List.getElem?_eq_getElem hkl
      have hM := Lib.hid (show t ∈ ks by rw [ht]; exact List.getElem_mem hkl)
      have hin := H2.out k t hks (Nat.le_refl _)
      obtain ⟨_, _, e1, _, hri⟩ := RIn.of_own hownr
      injection e1 with e1a e1b e1c
      subst e1a e1c
      obtain ⟨ad, v0, v1, v2, v3, v4, rfl, hS, hcs, d0, d1, d2, d3, d4⟩ := hri.at5 hlt
      rw [hcs] at hin
      have hsz := hbel.size
      have hks := Lib.hid hks
      clear ht hkl
      have HCt := Lib.hid ((HKS.out t hM.out) _ _ _ hin)
      go_wp2_with ((with_reducible refine HCt.out.mono ?_); rintro e w2 ⟨x0, x1, x2, x3, x4, rfl, hin2, hb2⟩; obtain ⟨s0, s1, s2, s3, s4, hown5, hg5⟩ := stores5 (own_old hownr hb2) hlt hin2)
      have hsz2 := hb2.size
      have hadlt : ad.block < wr.heap.size := (hownr.lt ad.block rfl).2
      have hadN : w.heap.size ≤ ad.block := (hownr.lt ad.block rfl).1
      have hlen : k * 5 + 4 < ys.length := by have := hownr.1; omega
      refine ⟨⟨k + 1, upd5 ys (k * 5) x0 x1 x2 x3 x4, by omega, by go_num, hown5, ?_, ?_, ?_⟩, by simp [intOf]; omega⟩
      · exact (hbel.trans (hb2.mono hsz)).grown hg5 (by omega) (fun b hb => by injection hb with hb; omega)
      · intro i t' ht' hi
        by_cases hik : i = k
        · subst hik
          rw [hks.out] at ht'
          injection ht' with ht'
          subst ht'
          rw [upd5_at _ _ _ _ _ _ _ hlen]
          exact (hin2.grown hg5 (fun b hb h => by injection h with h; omega)).more fun b hb => ⟨by omega, fun h => by simp at h; omega⟩
        · rw [upd5_off _ _ _ _ _ _ _ _ hik]
          exact ((H1.out i t' ht' (by omega)).old hb2).grown hg5 (fun b hb => hb.2)
      · intro i t' ht' hi
        rw [upd5_off _ _ _ _ _ _ _ _ (by omega)]
        exact ((H2.out i t' ht' (by omega)).old hb2).grown hg5 (fun b hb h => by injection h with h; omega)
    · obtain rfl : k = n := by omega
      obtain ⟨_, _, e1, _, hri⟩ := RIn.of_own hownr
      injection e1 with e1a e1b e1c
      subst e1a e1c
      have hkids : Hid (Kids wr (fun b => w.heap.size ≤ b) ks ys) := fun i t h => (H1.out i t h (by have := (List.getElem?_eq_some_iff.1 h).1; rw [HK.out] at this; exact this)).more fun _ h => h.1
      go_wp2_with fail
      go_ret
      exact ⟨_, _, ys, rfl, hc1, hri, hkids.out, hbel⟩

/-- A block that is known whole. -/
def Box (w : World) (b : Nat) (v0 v1 v2 v3 v4 : Value) : Prop := w.heap[b]? = some (Obj.cells #[v0, v1, v2, v3, v4] 25 (0, 0))
theorem Box.all {w : World} {b : Nat} {v0 v1 v2 v3 v4 : Value} (h : Box w b v0 v1 v2 v3 v4) :
    (w.cell? ⟨b, 0, none⟩ = some v0 ∧ w.cell? ⟨b, 1, none⟩ = some v1 ∧ w.cell? ⟨b, 2, none⟩ = some v2 ∧ w.cell? ⟨b, 3, none⟩ = some v3 ∧ w.cell? ⟨b, 4, none⟩ = some v4) ∧ ∀ i, w.frozen? ⟨b, i, none⟩ = false :=
  ⟨box5b h, fun i => by unfold Box at h; simp [World.frozen?, h]⟩
theorem Box.old {w w' : World} {b : Nat} {v0 v1 v2 v3 v4 : Value} (h : Box w b v0 v1 v2 v3 v4) (hb : Below w.heap.size w w') : Box w' b v0 v1 v2 v3 v4 := below_at hb h
theorem Box.far {w : World} {b : Nat} {v0 v1 v2 v3 v4 : Value} (h : Box w b v0 v1 v2 v3 v4) {p : Addr} (hp : b ≠ p.block) (x : Value) : Box (w.setCell p x) b v0 v1 v2 v3 v4 := (Below.heap_setCell w p x b hp).trans h
theorem Box.set2 {w : World} {b : Nat} {v0 v1 v2 v3 v4 : Value} (h : Box w b v0 v1 v2 v3 v4) (x : Value) : Box (w.setCell ⟨b, 2, none⟩ x) b v0 v1 x v3 v4 := (Joins.block_setCell h x)
theorem Box.set3 {w : World} {b : Nat} {v0 v1 v2 v3 v4 : Value} (h : Box w b v0 v1 v2 v3 v4) (x : Value) : Box (w.setCell ⟨b, 3, none⟩ x) b v0 v1 v2 x v4 := (Joins.block_setCell h x)
theorem Box.set4 {w : World} {b : Nat} {v0 v1 v2 v3 v4 : Value} (h : Box w b v0 v1 v2 v3 v4) (x : Value) : Box (w.setCell ⟨b, 4, none⟩ x) b v0 v1 v2 v3 x := (Joins.block_setCell h x)
theorem RIn.far {w : World} {S : Nat → Prop} {size n : Nat} {A : Option Addr} {xs : List Value} (h : RIn w S size A n xs) {p : Addr} (hp : ∀ b, S b → b ≠ p.block) (x : Value) : RIn (w.setCell p x) S size A n xs :=
  h.keep fun q hq => World.cell?_setCell_other w p q x (fun e => hp _ hq (by rw [e]))
theorem SIn.far {w : World} {S : Nat → Prop} {t : SX} {cs : List Value} (h : SIn w S t cs) {p : Addr} (hp : ∀ b, S b → b ≠ p.block) (x : Value) : SIn (w.setCell p x) S t cs :=
  h.keep fun q hq => World.cell?_setCell_other w p q x (fun e => hp _ hq (by rw [e]))
theorem below_far {B : Nat} {a w : World} (h : Below B a w) {p : Addr} (hp : B ≤ p.block) (x : Value) : Below B a (w.setCell p x) := h.setCell hp x

set_option maxHeartbeats 4000000 in
set_option maxRecDepth 100000 in
theorem clone_any (t : SX) : CloneSpec t := by
  induction t using SX.ind with
  | H l h hi da ks ih =>
    intro w S cs hs
    obtain ⟨_, _, _, _, _, A1, n1, c1, A2, n2, c2, A3, n3, c3, e, rfl⟩ := hs.form_
    cases e
    have hs' := hs.size_
    cases hs' with
    | @mk _ _ _ _ _ _ _ _ _ _ _ _ _ _ xs r1 b1 r2 b2 r3 b3 hk hks =>
    have IH := Lib.hid ih
    have HK := Lib.hid hk
    have hb0 := (below_new w (.cells #[Value.bool l, Value.bool h, Value.slice A1 n1 c1, Value.slice A2 n2 c2, Value.slice A3 n3 c3] 25)).trans ((below_new (w.alloc (.cells #[Value.bool l, Value.bool h, Value.slice A1 n1 c1, Value.slice A2 n2 c2, Value.slice A3 n3 c3] 25)) (.cells #[.bool false, .bool false, .slice none 0 0, .slice none 0 0, .slice none 0 0] 25)).mono (by simp))
    have X1 : Box ((w.alloc (.cells #[Value.bool l, Value.bool h, Value.slice A1 n1 c1, Value.slice A2 n2 c2, Value.slice A3 n3 c3] 25)).alloc (.cells #[.bool false, .bool false, .slice none 0 0, .slice none 0 0, .slice none 0 0] 25)) w.heap.size (.bool l) (.bool h) (.slice A1 n1 c1) (.slice A2 n2 c2) (.slice A3 n3 c3) :=
      below_at (below_new _ _) (heap_alloc_new w _)
    have X2 : Box ((w.alloc (.cells #[Value.bool l, Value.bool h, Value.slice A1 n1 c1, Value.slice A2 n2 c2, Value.slice A3 n3 c3] 25)).alloc (.cells #[.bool false, .bool false, .slice none 0 0, .slice none 0 0, .slice none 0 0] 25)) (w.heap.size + 1) (.bool false) (.bool false) (.slice none 0 0) (.slice none 0 0) (.slice none 0 0) := by
      have := heap_alloc_new (w.alloc (.cells #[Value.bool l, Value.bool h, Value.slice A1 n1 c1, Value.slice A2 n2 c2, Value.slice A3 n3 c3] 25)) (.cells #[.bool false, .bool false, .slice none 0 0, .slice none 0 0, .slice none 0 0] 25)
      have e : (w.alloc (.cells #[Value.bool l, Value.bool h, Value.slice A1 n1 c1, Value.slice A2 n2 c2, Value.slice A3 n3 c3] 25)).heap.size = w.heap.size + 1 := by simp
      rw [e] at this
      exact this
    have hsz : ((w.alloc (.cells #[Value.bool l, Value.bool h, Value.slice A1 n1 c1, Value.slice A2 n2 c2, Value.slice A3 n3 c3] 25)).alloc (.cells #[.bool false, .bool false, .slice none 0 0, .slice none 0 0, .slice none 0 0] 25)).heap.size = w.heap.size + 2 := by simp
    go_enter Tryd.func18, Tryd.ntmps18
    go_wp2_with fail
    generalize ((w.alloc (.cells #[Value.bool l, Value.bool h, Value.slice A1 n1 c1, Value.slice A2 n2 c2, Value.slice A3 n3 c3] 25)).alloc (.cells #[.bool false, .bool false, .slice none 0 0, .slice none 0 0, .slice none 0 0] 25)) = W at *
    refine (bytesClone_any A1 n1 c1 hi _ W (r1.keep fun p hp => hb0.cell hp.2) b1.2).mono ?_
    rintro e w1 ⟨A1', c1', rfl, hc1', q1, hb1⟩
    have hsz1 := hb1.size
    have X1 := X1.old hb1
    have X2 := X2.old hb1
    have hb0 := hb0.trans (hb1.mono (by omega))
    obtain ⟨⟨-, -, f2, f3, -⟩, fz⟩ := X1.all
    have fz2 := fz 2
    have g1 := X1.set2 (.slice A1' hi.length c1')
    have g2 := X2.far (p := ⟨w.heap.size, 2, none⟩) (by show w.heap.size + 1 ≠ w.heap.size; omega) (.slice A1' hi.length c1')
    have g3 := below_far hb0 (p := ⟨w.heap.size, 2, none⟩) (Nat.le_refl _) (.slice A1' hi.length c1')
    have g4 := (q1.more (S' := fun b => w.heap.size + 2 ≤ b) (fun b hb => by omega)).far (p := ⟨w.heap.size, 2, none⟩) (fun b hb => by show b ≠ w.heap.size; omega) (.slice A1' hi.length c1')
    have g5 : (w1.setCell ⟨w.heap.size, 2, none⟩ (.slice A1' hi.length c1')).heap.size = w1.heap.size := by simp
    clear fz X1 X2 hb0 q1
    go_wp2_with fail
    generalize w1.setCell ⟨w.heap.size, 2, none⟩ (.slice A1' hi.length c1') = W at *
    clear f2 f3 fz2
    refine (bytesClone_any A2 n2 c2 da _ W (r2.keep fun p hp => g3.cell hp.2) b2.2).mono ?_
    rintro e w2 ⟨A2', c2', rfl, hc2', q2, hb2⟩
    have hsz2 := hb2.size
    have X1 := g1.old hb2
    have X2 := g2.old hb2
    have hb0 := g3.trans (hb2.mono (by omega))
    have q1 := g4.old (by omega) hb2
    clear g1 g2 g3 g4
    obtain ⟨⟨-, -, -, f3, f4⟩, fz⟩ := X1.all
    have fz3 := fz 3
    have g1 := X1.set3 (.slice A2' da.length c2')
    have g2 := X2.far (p := ⟨w.heap.size, 3, none⟩) (by show w.heap.size + 1 ≠ w.heap.size; omega) (.slice A2' da.length c2')
    have g3 := below_far hb0 (p := ⟨w.heap.size, 3, none⟩) (Nat.le_refl _) (.slice A2' da.length c2')
    have g4 := q1.far (p := ⟨w.heap.size, 3, none⟩) (fun b hb => by show b ≠ w.heap.size; omega) (.slice A2' da.length c2')
    have g6 := (q2.more (S' := fun b => w.heap.size + 2 ≤ b) (fun b hb => by omega)).far (p := ⟨w.heap.size, 3, none⟩) (fun b hb => by show b ≠ w.heap.size; omega) (.slice A2' da.length c2')
    have g7 : (w2.setCell ⟨w.heap.size, 3, none⟩ (.slice A2' da.length c2')).heap.size = w2.heap.size := by simp
    clear fz X1 X2 hb0 q1 q2
    go_wp2_with fail
    generalize w2.setCell ⟨w.heap.size, 3, none⟩ (.slice A2' da.length c2') = W at *
    clear f3 f4 fz3
    refine (cloneAll_any ks IH.out A3 n3 c3 xs _ W (r3.keep fun p hp => g3.cell hp.2) HK.out (fun i t h => (hks i t h).kept g3 (fun b hb => hb.2)) b3.2).mono ?_
    rintro e w3 ⟨A3', c3', ys, rfl, hc3', q3, qk, hb3⟩
    have hsz3 := hb3.size
    have X1 := g1.old hb3
    have X2 := g2.old hb3
    have hb0 := g3.trans (hb3.mono (by omega))
    have q1 := g4.old (by omega) hb3
    have q2 := g6.old (by omega) hb3
    clear g1 g2 g3 g4 g6
    obtain ⟨⟨f0, f1, f2, f3, f4⟩, fz⟩ := X1.all
    obtain ⟨⟨d0, d1, d2, d3, d4⟩, dz⟩ := X2.all
    have fz4 := fz 4
    have dz0 := dz 0
    have dz1 := dz 1
    have dz2 := dz 2
    have dz3 := dz 3
    have dz4 := dz 4
    clear fz dz X1 X2
    go_wp2_with fail
    have F : ∀ p : Addr, w.heap.size + 2 ≤ p.block → ((((((w3.setCell ⟨w.heap.size, 4, none⟩ (.slice A3' n3 c3')).setCell ⟨w.heap.size + 1, 0, none⟩ (.bool l)).setCell ⟨w.heap.size + 1, 1, none⟩ (.bool h)).setCell ⟨w.heap.size + 1, 2, none⟩ (.slice A1' hi.length c1')).setCell ⟨w.heap.size + 1, 3, none⟩ (.slice A2' da.length c2')).setCell ⟨w.heap.size + 1, 4, none⟩ (.slice A3' n3 c3')).cell? p = w3.cell? p := by
      intro p hp
      have h1 : ∀ i, p ≠ ⟨w.heap.size, i, none⟩ := fun i e => by rw [e] at hp; simp at hp; omega
      have h2 : ∀ i, p ≠ ⟨w.heap.size + 1, i, none⟩ := fun i e => by rw [e] at hp; simp at hp
      rw [World.cell?_setCell_other _ _ _ _ (h2 4).symm, World.cell?_setCell_other _ _ _ _ (h2 3).symm, World.cell?_setCell_other _ _ _ _ (h2 2).symm, World.cell?_setCell_other _ _ _ _ (h2 1).symm, World.cell?_setCell_other _ _ _ _ (h2 0).symm, World.cell?_setCell_other _ _ _ _ (h1 4).symm]
    have hbf := (((((hb0.setCell (p := ⟨w.heap.size, 4, none⟩) (Nat.le_refl _) (.slice A3' n3 c3')).setCell (p := ⟨w.heap.size + 1, 0, none⟩) (Nat.le_succ _) (.bool l)).setCell (p := ⟨w.heap.size + 1, 1, none⟩) (Nat.le_succ _) (.bool h)).setCell (p := ⟨w.heap.size + 1, 2, none⟩) (Nat.le_succ _) (.slice A1' hi.length c1')).setCell (p := ⟨w.heap.size + 1, 3, none⟩) (Nat.le_succ _) (.slice A2' da.length c2')).setCell (p := ⟨w.heap.size + 1, 4, none⟩) (Nat.le_succ _) (.slice A3' n3 c3')
    refine bodyPost_ret (v := .agg #[.bool l, .bool h, .slice A1' hi.length c1', .slice A2' da.length c2', .slice A3' n3 c3']) (by simp [results, Tryd.results18, go_sem, d0, d1, d2, d3, d4]) rfl ⟨_, _, _, _, _, rfl, ?_, hbf⟩
    have hl1 := r1.1
    have hl2 := r2.1
    rw [Lib.byteCells_length] at hl1 hl2
    refine .mk ((q1.keep F).more fun b hb => by omega) ⟨hc1', by omega⟩ ((q2.keep F).more fun b hb => by omega) ⟨hc2', by omega⟩ (((q3.more (S' := fun b => w.heap.size + 2 ≤ b) fun b hb => by omega).keep F).more fun b hb => by omega) ⟨hc3', b3.2⟩ HK.out (fun i t hit => (((qk i t hit).more (S' := fun b => w.heap.size + 2 ≤ b) fun b hb => by omega).keep F).more fun b hb => by omega)

/-- Five stores into a block of the call's own: what they leave. -/
def put5 (w : World) (b : Nat) (x0 x1 x2 x3 x4 : Value) : World := ((((w.setCell ⟨b, 0, none⟩ x0).setCell ⟨b, 1, none⟩ x1).setCell ⟨b, 2, none⟩ x2).setCell ⟨b, 3, none⟩ x3).setCell ⟨b, 4, none⟩ x4
theorem put5_far {w : World} {b : Nat} {x0 x1 x2 x3 x4 : Value} (p : Addr) (hp : p.block ≠ b) : (put5 w b x0 x1 x2 x3 x4).cell? p = w.cell? p := by
  have h2 : ∀ i, (⟨b, i, none⟩ : Addr) ≠ p := fun i e => hp (by rw [← e])
  unfold put5
  rw [World.cell?_setCell_other _ _ _ _ (h2 4), World.cell?_setCell_other _ _ _ _ (h2 3), World.cell?_setCell_other _ _ _ _ (h2 2), World.cell?_setCell_other _ _ _ _ (h2 1), World.cell?_setCell_other _ _ _ _ (h2 0)]
theorem put5_below {w w' : World} {b B : Nat} (h : Below B w w') (hb : B ≤ b) (x0 x1 x2 x3 x4 : Value) : Below B w (put5 w' b x0 x1 x2 x3 x4) :=
  ((((h.setCell (p := ⟨b, 0, none⟩) hb x0).setCell (p := ⟨b, 1, none⟩) hb x1).setCell (p := ⟨b, 2, none⟩) hb x2).setCell (p := ⟨b, 3, none⟩) hb x3).setCell (p := ⟨b, 4, none⟩) hb x4

set_option maxHeartbeats 2000000 in
set_option maxRecDepth 100000 in
theorem list_any (ks : List SX) (A : Option Addr) (n c : Nat) (xs : List Value) (S : Nat → Prop) (w : World) (hr : RIn w S 5 A n xs) (hk : ks.length = n)
    (hs : Kids w S ks xs) (hn : n * 80 ≤ 140737488355328) :
    Calls Tryd.prog 20 #[.slice A n c] w fun e w' => ∃ v0 v1 v2 v3 v4, e = .returned (.agg #[v0, v1, v2, v3, v4]) ∧ SIn w' (fun b => w.heap.size ≤ b) (.mk true false [] [] ks) [v0, v1, v2, v3, v4] ∧ Below w.heap.size w w' := by
  have hb0 := below_new w (.cells #[.bool false, .bool false, .slice none 0 0, .slice none 0 0, .slice none 0 0] 25)
  have X2 : Box (w.alloc (.cells #[.bool false, .bool false, .slice none 0 0, .slice none 0 0, .slice none 0 0] 25)) w.heap.size (.bool false) (.bool false) (.slice none 0 0) (.slice none 0 0) (.slice none 0 0) := heap_alloc_new w _
  have hsz : (w.alloc (.cells #[.bool false, .bool false, .slice none 0 0, .slice none 0 0, .slice none 0 0] 25)).heap.size = w.heap.size + 1 := by simp
  have hr' := hr.old (by omega) hb0
  have hs' : Kids (w.alloc (.cells #[.bool false, .bool false, .slice none 0 0, .slice none 0 0, .slice none 0 0] 25)) S ks xs := fun i t h => (hs i t h).old hb0
  go_enter Tryd.func20, Tryd.ntmps20
  go_wp2_with fail
  generalize w.alloc (.cells #[.bool false, .bool false, .slice none 0 0, .slice none 0 0, .slice none 0 0] 25) = W at *
  refine (cloneAll_any ks (fun k _ => clone_any k) A n c xs S W hr' hk hs' hn).mono ?_
  rintro e w3 ⟨A3', c3', ys, rfl, hc3', q3, qk, hb3⟩
  have hsz3 := hb3.size
  have X2 := X2.old hb3
  have hb0 := hb0.trans (hb3.mono (by omega))
  obtain ⟨⟨d0, d1, d2, d3, d4⟩, dz⟩ := X2.all
  have dz0 := dz 0
  have dz1 := dz 1
  have dz2 := dz 2
  have dz3 := dz 3
  have dz4 := dz 4
  clear dz X2
  go_wp2_with fail
  have F := fun p (hp : w.heap.size + 1 ≤ p.block) => put5_far (w := w3) (b := w.heap.size) (x0 := .bool true) (x1 := .bool false) (x2 := .slice none 0 0) (x3 := .slice none 0 0) (x4 := .slice A3' n c3') p (by omega)
  have hbf := put5_below hb0 (Nat.le_refl _) (.bool true) (.bool false) (.slice none 0 0) (.slice none 0 0) (.slice A3' n c3')
  refine bodyPost_ret (v := .agg #[.bool true, .bool false, .slice none 0 0, .slice none 0 0, .slice A3' n c3']) (by simp [results, Tryd.results20, go_sem, d0, d1, d2, d3, d4]) rfl ⟨_, _, _, _, _, rfl, ?_, hbf⟩
  refine .mk RIn.none_ ⟨Nat.le_refl _, by omega⟩ RIn.none_ ⟨Nat.le_refl _, by omega⟩ (((q3.more (S' := fun b => w.heap.size + 1 ≤ b) fun b hb => by omega).keep F).more fun b hb => by omega) ⟨hc3', hn⟩ hk (fun i t hit => (((qk i t hit).more (S' := fun b => w.heap.size + 1 ≤ b) fun b hb => by omega).keep F).more fun b hb => by omega)

set_option maxHeartbeats 2000000 in
set_option maxRecDepth 100000 in
theorem atom_any (s : ByteArray) (w : World) (hn : s.size ≤ 140737488355328) :
    Calls Tryd.prog 22 #[.string s] w fun e w' => ∃ v0 v1 v2 v3 v4, e = .returned (.agg #[v0, v1, v2, v3, v4]) ∧ SIn w' (fun b => w.heap.size ≤ b) (.mk false false [] s.data.toList []) [v0, v1, v2, v3, v4] ∧ Below w.heap.size w w' := by
  have hb0 := below_new w (.cells #[.bool false, .bool false, .slice none 0 0, .slice none 0 0, .slice none 0 0] 25)
  have X2 : Box (w.alloc (.cells #[.bool false, .bool false, .slice none 0 0, .slice none 0 0, .slice none 0 0] 25)) w.heap.size (.bool false) (.bool false) (.slice none 0 0) (.slice none 0 0) (.slice none 0 0) := heap_alloc_new w _
  have hsz : (w.alloc (.cells #[.bool false, .bool false, .slice none 0 0, .slice none 0 0, .slice none 0 0] 25)).heap.size = w.heap.size + 1 := by simp
  have hdl : s.data.toList.length = s.size := by show s.data.toList.length = s.data.size; simp
  go_enter Tryd.func22, Tryd.ntmps22
  go_wp2_with fail
  generalize w.alloc (.cells #[.bool false, .bool false, .slice none 0 0, .slice none 0 0, .slice none 0 0] 25) = W at *
  rw [Lib.run_convert_string_bytes W 9 22 5 _ Tryd.underlying9 Tryd.underlying22 Tryd.underlying5]
  simp only [Result.andThen]
  rw [Oper.upon_value]
  have hB := HoldsBytes.new W s
  have hb3 := bytesWorld_below W s
  have hcap := grownCap_ge W s.size 0 5
  generalize Lib.bytesWorld W 5 s = w3 at *
  generalize grownCap W s.size 0 5 = cap at *
  have hr := hB.reads
  rw [hdl] at hr
  have hsz3 := hb3.size
  have X2 := X2.old hb3
  have hb0 := hb0.trans (hb3.mono (by omega))
  obtain ⟨⟨d0, d1, d2, d3, d4⟩, dz⟩ := X2.all
  have dz0 := dz 0
  have dz1 := dz 1
  have dz2 := dz 2
  have dz3 := dz 3
  have dz4 := dz 4
  clear dz X2 hB
  rw [hsz] at hr
  go_wp2_with fail
  have hbf := put5_below hb0 (Nat.le_refl _) (.bool false) (.bool false) (.slice none 0 0) (.slice (some ⟨w.heap.size + 1, 0, none⟩) s.size cap) (.slice none 0 0)
  have F := fun p (hp : w.heap.size + 1 ≤ p.block) => put5_far (w := w3) (b := w.heap.size) (x0 := .bool false) (x1 := .bool false) (x2 := .slice none 0 0) (x3 := .slice (some ⟨w.heap.size + 1, 0, none⟩) s.size cap) (x4 := .slice none 0 0) p (by omega)
  refine bodyPost_ret (v := .agg #[.bool false, .bool false, .slice none 0 0, .slice (some ⟨w.heap.size + 1, 0, none⟩) s.size cap, .slice none 0 0]) (by simp [results, Tryd.results22, go_sem, d0, d1, d2, d3, d4]) rfl ⟨_, _, _, _, _, rfl, ?_, hbf⟩
  have hri : RIn w3 (fun b => w.heap.size + 1 ≤ b) 1 (some ⟨w.heap.size + 1, 0, none⟩) s.size (Lib.byteCells s.data.toList) := ⟨hr.1, fun hn => by
    obtain ⟨ad, e, _, hc⟩ := hr.2 hn
    injection e with e
    subst e
    exact ⟨_, rfl, by show w.heap.size + 1 ≤ w.heap.size + 1; omega, hc⟩⟩
  exact .mk (xs := []) RIn.none_ ⟨Nat.le_refl _, by omega⟩ ((hri.keep F).more fun b hb => by omega) ⟨hcap, hn⟩ RIn.none_ ⟨Nat.le_refl _, by omega⟩ rfl (fun i t hit => by simp at hit)
end Go.Proofs.YtaenahilnnlbfaaDoor
