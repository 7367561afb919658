/-
  The contracts of sexp's (*reader).list and value, in full: the value that is read, or what is thrown. Conditions: the bytes lie in other blocks than the reader; they are at most 5000.
-/
import Derived.Test.YtaenahilnnlbfaaDoorReader3
import Derived.RegionDies
import Derived.Deep.RegionLaw
set_option linter.unusedVariables false
namespace Go.Proofs.YtaenahilnnlbfaaDoor
open Go Go.Proofs Go.RowKit Sx Oct

theorem own_grown {w w' : World} {B : Nat} {e : TypeId} {size : Nat} {v : Value} {n r : Nat} {xs : List Value} (h : w.ownsRow B e size v n xs) (hg : w.grownBy w' (some r)) (hr : r < B) : w'.ownsRow B e size v n xs := by
  refine ⟨h.1, ?_⟩
  rcases h.2 with h2 | ⟨g, cap, cur, hv, hb, hh, rest⟩
  · exact Or.inl h2
  · exact Or.inr ⟨g, cap, cur, hv, hb, by rw [hg.block g (Array.getElem?_eq_some_iff.1 hh).1 (fun e => by injection e with e; omega)]; exact hh, rest⟩
theorem own_set {w : World} {B : Nat} {e : TypeId} {size : Nat} {v : Value} {n : Nat} {xs : List Value} (h : w.ownsRow B e size v n xs) {p : Addr} (hp : p.block < B) (x : Value) : (w.setCell p x).ownsRow B e size v n xs := by
  refine ⟨h.1, ?_⟩
  rcases h.2 with h2 | ⟨g, cap, cur, hv, hb, hh, rest⟩
  · exact Or.inl h2
  · exact Or.inr ⟨g, cap, cur, hv, hb, by rw [Below.heap_setCell w p x g (by omega)]; exact hh, rest⟩
theorem own_lt {w : World} {B : Nat} {e : TypeId} {size : Nat} {v : Value} {n : Nat} {xs : List Value} (h : w.ownsRow B e size v n xs) {k : Nat} (hk : v.ownBlock = some k) : B ≤ k ∧ k < w.heap.size := by
  rcases h.2 with ⟨h2, _⟩ | ⟨g, cap, cur, hv, hb, hh, rest⟩
  · rw [h2] at hk; cases hk
  · rw [hv] at hk
    have : g = k := by simpa [Value.ownBlock] using hk
    subst this
    exact ⟨hb, (Array.getElem?_eq_some_iff.1 hh).1⟩

theorem RdAt.grown {w w' : World} {r : Nat} {A : Option Addr} {n c : Nat} {p nd : Int} {row : Option Nat} (h : RdAt w r A n c p nd) (hg : w.grownBy w' row) (hr : row ≠ some r) : RdAt w' r A n c p nd :=
  (hg.block r h.lt (fun e => hr e.symm)).trans h

/-- What the list's reading holds, on its way: the kids so far, in a row of its own. -/
def LHas (w wr : World) (r : Nat) (acc : List SX) (v : Value) (ys : List Value) : Prop :=
  Box wr w.heap.size (.bool false) (.bool false) (.slice none 0 0) (.slice none 0 0) (.slice none 0 0) ∧ Box wr (w.heap.size + 1) (.bool true) (.bool false) (.slice none 0 0) (.slice none 0 0) v ∧
  wr.ownsRow (w.heap.size + 2) 25 5 v acc.length ys ∧ Kids wr (fun k => w.heap.size + 2 ≤ k ∧ some k ≠ v.ownBlock) acc ys ∧ w.grownBy wr (some r) ∧ w.heap.size + 2 ≤ wr.heap.size
theorem LHas.keep {w wr w1 : World} {r : Nat} {acc : List SX} {v : Value} {ys : List Value} (h : LHas w wr r acc v ys) (hr : r < w.heap.size) (hg : wr.grownBy w1 (some r)) : LHas w w1 r acc v ys := by
  obtain ⟨h1, h2, h3, h4, h5, h6⟩ := h
  have hz := hg.size
  exact ⟨h1.grown hg (fun e => by injection e with e; omega), h2.grown hg (fun e => by injection e with e; omega), own_grown h3 hg (by omega),
    fun i t hit => (h4 i t hit).grown hg (fun b hb e => by injection e with e; omega), h5.trans hg, by omega⟩
theorem LHas.step {w w1 w5 : World} {r : Nat} {acc : List SX} {v v' : Value} {ys cs : List Value} {t : SX} {o : Obj} {K : Nat} (h : LHas w w1 r acc v ys) (hr : r < w.heap.size)
    (hin : SIn w1 (fun k => K ≤ k) t cs) (hK : ∀ k, v.ownBlock = some k → k < K) (hK2 : w.heap.size + 2 ≤ K)
    (ho : w5.ownsRow (w.heap.size + 2) 25 5 v' (acc.length + 1) (ys ++ cs)) (hg : (w1.alloc o).grownBy w5 v.ownBlock) (hv : v'.ownBlock = v.ownBlock ∨ v'.ownBlock = some (w1.alloc o).heap.size) :
    LHas w (w5.setCell ⟨w.heap.size + 1, 4, none⟩ v') r (acc ++ [t]) v' (ys ++ cs) := by
  obtain ⟨h1, h2, h3, h4, h5, h6⟩ := h
  have hba := below_new w1 o
  have hsz : (w1.alloc o).heap.size = w1.heap.size + 1 := by simp
  have hz := hg.size
  have hne : ∀ k, k < w.heap.size + 2 → v.ownBlock ≠ some k := fun k hk e => by have := (own_lt h3 e).1; omega
  have hyl := h3.1
  have hcl : cs.length = 5 := by
    obtain ⟨_, _, _, _, _, A1, n1, c1, A2, n2, c2, A3, n3, c3, _, e⟩ := hin.form_
    rw [e]; rfl
  have hfar : ∀ k, k < w1.heap.size → v.ownBlock ≠ some k → v'.ownBlock ≠ some k := fun k hk hn e => by
    rcases hv with hv | hv
    · exact hn (hv ▸ e)
    · rw [hv] at e; injection e with e; omega
  have hset : ∀ {k : Nat}, k ≠ w.heap.size + 1 → (w5.setCell ⟨w.heap.size + 1, 4, none⟩ v').heap[k]? = w5.heap[k]? := fun {k} hk => Below.heap_setCell w5 ⟨w.heap.size + 1, 4, none⟩ v' k hk
  refine ⟨?_, ?_, ?_, ?_, ?_, ?_⟩
  · exact ((h1.old hba).grown hg (hne _ (by omega))).far (p := ⟨w.heap.size + 1, 4, none⟩) (by show w.heap.size ≠ w.heap.size + 1; omega) _
  · exact ((h2.old hba).grown hg (hne _ (by omega))).set4 _
  · have := own_set ho (p := ⟨w.heap.size + 1, 4, none⟩) (by show w.heap.size + 1 < w.heap.size + 2; omega) v'
    simpa using this
  · intro i s hs
    rcases Nat.lt_or_ge i acc.length with hi | hi
    · rw [List.getElem?_append_left hi] at hs
      have hd : ((ys ++ cs).drop (i * 5)).take 5 = (ys.drop (i * 5)).take 5 := by
        rw [List.drop_append_of_le_length (by omega), List.take_append_of_le_length (by rw [List.length_drop]; omega)]
      rw [hd]
      have q := ((h4 i s hs).size_).old hba
      have q2 := q.grown hg (fun b hb => hb.1.2)
      exact (q2.more (S' := fun k => w.heap.size + 2 ≤ k ∧ some k ≠ v'.ownBlock) (fun k hk => ⟨hk.1.1, fun e => hfar k hk.2 (fun e' => hk.1.2 e'.symm) e.symm⟩)).far (p := ⟨w.heap.size + 1, 4, none⟩) (fun k hk => by show k ≠ w.heap.size + 1; omega) _
    · have hi2 : i = acc.length := by
        have := (List.getElem?_eq_some_iff.1 hs).1
        simp at this
        omega
      subst hi2
      rw [List.getElem?_append_right (Nat.le_refl _)] at hs
      simp at hs
      subst hs
      have hd : ((ys ++ cs).drop (acc.length * 5)).take 5 = cs := by
        rw [List.drop_append, List.drop_eq_nil_of_le (by omega), show acc.length * 5 - ys.length = 0 by omega, List.drop_zero, List.nil_append]
        exact List.take_of_length_le (by omega)
      rw [hd]
      have q := (hin.size_).old hba
      have q2 := q.grown hg (fun b hb e => by have := hK b e.symm; have := hb.1; omega)
      exact (q2.more (S' := fun k => w.heap.size + 2 ≤ k ∧ some k ≠ v'.ownBlock) (fun k hk => ⟨by have := hk.1; omega, fun e => hfar k hk.2 (fun e' => by have := hK k e'; have := hk.1; omega) e.symm⟩)).far (p := ⟨w.heap.size + 1, 4, none⟩) (fun k hk => by show k ≠ w.heap.size + 1; omega) _
  · have hgw : w.grownBy w5 (some r) := by
      have hb : Below (w.heap.size + 2) w1 w5 := (hba.mono (by omega)).grown hg (by omega) (fun k e => (own_lt h3 e).1)
      exact ⟨hb.os.trans h5.os, hb.tape.trans h5.tape, hb.output.trans h5.output, by omega, fun k hk hr => (hb.block k (by omega)).trans (h5.block k hk hr)⟩
    exact grown_own hgw (by omega) v'
  · simp; omega
theorem reads_five {w : World} {v0 v1 v2 v3 v4 : Value} (T : TypeId) (fr : Nat × Nat) : Reads (w.alloc (.cells #[v0, v1, v2, v3, v4] T fr)) (w.heap.size + 1) 5 (some ⟨w.heap.size, 0, none⟩) 1 [v0, v1, v2, v3, v4] := by
  refine ⟨rfl, fun _ => ⟨_, rfl, by simp, fun j u hj => ?_⟩⟩
  have hh := Lib.cell_of_heap (heap_alloc_new w (.cells #[v0, v1, v2, v3, v4] T fr))
  match j, hj with
  | 0, hj | 1, hj | 2, hj | 3, hj | 4, hj =>
    simp at hj
    subst hj
    show World.cell? _ ⟨w.heap.size, _, none⟩ = _
    rw [hh]; rfl

theorem sin_one {w : World} {S : Nat → Prop} {t : SX} {cs : List Value} (h : SIn w S t cs) : ∀ u ∈ cs, u.oneCell' = true := by
  obtain ⟨_, _, _, _, _, A1, n1, c1, A2, n2, c2, A3, n3, c3, _, rfl⟩ := h.form_
  intro u hu
  simp at hu
  rcases hu with rfl | rfl | rfl | rfl | rfl <;> rfl

def addK (acc : List SX) (x : Res (List SX × Nat)) : Res (List SX × Nat) := match x with
  | .err e r' => .err e r'
  | .ok (ks, nd') r' => .ok (acc ++ ks, nd') r'

/-- The loop's relation. -/
def LRel (w : World) (r : Nat) (A : Option Addr) (n c ar f : Nat) (b : List UInt8) (R : Res (List SX × Nat)) (wr : World) : Prop :=
  ∃ (acc : List SX) (g : Nat) (sk : List UInt8) (ndk : Nat) (v : Value) (ys : List Value), LHas w wr r acc v ys ∧ RdAt wr r A n c (n - sk.length : Nat) ndk ∧ sk.length ≤ n ∧ b.drop (n - sk.length) = sk ∧
    g ≤ f ∧ 2 * sk.length + 2 ≤ g ∧ R = addK acc (pKids g sk ndk ar) ∧ ndk ≤ 512 ∧ acc.length ≤ ndk

set_option maxHeartbeats 4000000 in
set_option maxRecDepth 100000 in
theorem list_step (f : Nat) (hV : ∀ g, g < f → ValSpec g) : ListSpec f := by
  intro r A n c p nd ar b B w s h hr hB hn hc hs hnd har hf
  generalize hRR : pKids f s nd (ar + 1) = R
  have hl : b.length = n := by have := hr.1; simpa [Lib.byteCells_length] using this
  have hsl : (40 :: s).length = n - p := by rw [← hs, List.length_drop, hl]
  have hsl' : s.length + 1 = n - p := by rw [← hsl]; simp
  have hrl := h.lt
  have hb0 := (below_new w (.cells #[.bool false, .bool false, .slice none 0 0, .slice none 0 0, .slice none 0 0] 25)).trans ((below_new (w.alloc (.cells #[.bool false, .bool false, .slice none 0 0, .slice none 0 0, .slice none 0 0] 25)) (.cells #[.bool true, .bool false, .slice none 0 0, .slice none 0 0, .slice none 0 0] 25)).mono (by simp))
  have X1 : Box ((w.alloc (.cells #[.bool false, .bool false, .slice none 0 0, .slice none 0 0, .slice none 0 0] 25)).alloc (.cells #[.bool true, .bool false, .slice none 0 0, .slice none 0 0, .slice none 0 0] 25)) w.heap.size (.bool false) (.bool false) (.slice none 0 0) (.slice none 0 0) (.slice none 0 0) :=
    below_at (below_new _ _) (heap_alloc_new w _)
  have X2 : Box ((w.alloc (.cells #[.bool false, .bool false, .slice none 0 0, .slice none 0 0, .slice none 0 0] 25)).alloc (.cells #[.bool true, .bool false, .slice none 0 0, .slice none 0 0, .slice none 0 0] 25)) (w.heap.size + 1) (.bool true) (.bool false) (.slice none 0 0) (.slice none 0 0) (.slice none 0 0) := by
    have := heap_alloc_new (w.alloc (.cells #[.bool false, .bool false, .slice none 0 0, .slice none 0 0, .slice none 0 0] 25)) (.cells #[.bool true, .bool false, .slice none 0 0, .slice none 0 0, .slice none 0 0] 25)
    have e : (w.alloc (.cells #[.bool false, .bool false, .slice none 0 0, .slice none 0 0, .slice none 0 0] 25)).heap.size = w.heap.size + 1 := by simp
    rw [e] at this
    exact this
  have hsz : ((w.alloc (.cells #[.bool false, .bool false, .slice none 0 0, .slice none 0 0, .slice none 0 0] 25)).alloc (.cells #[.bool true, .bool false, .slice none 0 0, .slice none 0 0, .slice none 0 0] 25)).heap.size = w.heap.size + 2 := by simp
  go_enter Tryd.func47, Tryd.ntmps47
  go_wp2_with fail
  generalize ((w.alloc (.cells #[.bool false, .bool false, .slice none 0 0, .slice none 0 0, .slice none 0 0] 25)).alloc (.cells #[.bool true, .bool false, .slice none 0 0, .slice none 0 0, .slice none 0 0] 25)) = W at *
  have hg0 := grown_below hb0 (some r)
  refine (expect_good r A n c p nd b B W (h.old hb0) (hr.keep fun q hq => hb0.cell (by omega)) (by omega) hn 40 s hs 40 rfl).mono ?_
  rintro e w1 ⟨rfl, hR1, hg1⟩
  have hd1 : b.drop (n - s.length) = s := by rw [show n - s.length = p + 1 by omega, ← List.drop_drop, hs]; rfl
  have hR1 : RdAt w1 r A n c (n - s.length : Nat) nd := by rw [show ((n - s.length : Nat) : Int) = (p : Int) + 1 by omega]; exact hR1
  have hL0 : LHas w W r [] (.slice none 0 0) [] := ⟨X1, X2, ⟨rfl, .inl ⟨rfl, rfl⟩⟩, fun i t hit => by simp at hit, hg0, by omega⟩
  have hL1 := Lib.hid (And.intro (hL0.keep hrl hg1) hR1)
  have hRe : Hid (R = addK [] (pKids f s nd (ar + 1))) := by
    show _ = _
    rw [hRR]
    cases R <;> simp [addK]
  clear hL0 X1 X2 hg0 hg1 hR1 hb0 hsz hs hsl hRR
  have HD := Lib.hid hd1
  have HV := Lib.hid hV
  clear hd1 hV
  go_wp2_with fail
  go_loopw [] (fun wr => Hid (LRel w r A n c (ar + 1) f b R wr)) (fun wr => n - (intOf ((wr.cell? ⟨r, 1, none⟩).getD (.int .i64 0))).toNat)
  case atStart => exact ⟨[], f, s, nd, _, _, hL1.out.1, hL1.out.2, by omega, HD.out, Nat.le_refl _, by omega, hRe.out, hnd, Nat.zero_le _⟩
  case round =>
    obtain ⟨acc, g, sk, ndk, v, ys, hH, hRk, hskl, hsk, hgf, hg2, hRk2, hndk, haccl⟩ := hrel.out
    clear hL1 hrel hRe
    obtain ⟨g, rfl⟩ : ∃ g', g = g' + 1 := ⟨g - 1, by omega⟩
    have hrk := reads_grown hr hH.2.2.2.2.1 hB
    have hplace : (n - (n - sk.length) : Nat) = sk.length := by omega
    cases sk with
    | nil =>
      rw [pKids] at hRk2
      have hRk2 : R = .err 2 [] := hRk2
      have C := Lib.hid (peek_end r A n c (n - ([] : List UInt8).length) ndk wr hRk (by simp) hn (by omega))
      have HG := Lib.hid hH.2.2.2.2.1
      clear hH hRk hskl hsk hg2 hplace HV
      go_wp2_with ((with_reducible refine C.out.mono ?_); rintro e w3 ⟨rfl, hb3⟩)
      rw [hRk2]
      exact ⟨rfl, rfl, HG.out.trans (grown_below hb3 _)⟩
    | cons c0 r0 =>
      have hlr : (c0 :: r0).length = r0.length + 1 := by simp
      have C := Lib.hid (peek_at r A n c (n - (c0 :: r0).length) ndk b B wr hRk hrk (by omega) hn c0 r0 hsk)
      rw [pKids] at hRk2
      try simp only at hRk2
      by_cases h41 : c0 = 41
      · subst h41
        rw [if_pos rfl] at hRk2
        have hRk2 : R = .ok (acc ++ [], ndk) r0 := hRk2
        have HH := Lib.hid hH
        have HRD := Lib.hid hRk
        have HSK := Lib.hid hsk
        clear hH hRk hsk hplace HV hrk
        go_wp2_with ((with_reducible refine C.out.mono ?_); rintro e w3 ⟨rfl, hb3⟩)
        have hg3 := grown_below hb3 (some r)
        have hH3 := HH.out.keep hrl hg3
        have hR3 := HRD.out.old hb3
        have hr3 := reads_grown hr hH3.2.2.2.2.1 hB
        refine (expect_good r A n c (n - (41 :: r0 : List UInt8).length) ndk b B w3 hR3 hr3 (by omega) hn 41 r0 HSK.out 41 rfl).mono ?_
        rintro e w4 ⟨rfl, hR4, hg4⟩
        have hH4 := hH3.keep hrl hg4
        obtain ⟨A3, c3, rfl⟩ := own_form hH4.2.2.1
        obtain ⟨x1, x2, ho, hk, hgw, hz⟩ := hH4
        obtain ⟨_, _, e1, hnc, hri⟩ := RIn.of_own ho
        injection e1 with e1a e1b e1c
        subst e1a e1c
        obtain ⟨⟨d0, d1, d2, d3, d4⟩, dz⟩ := x1.all
        obtain ⟨⟨f0, f1, f2, f3, f4⟩, fz⟩ := x2.all
        have dz0 := dz 0
        have dz1 := dz 1
        have dz2 := dz 2
        have dz3 := dz 3
        have dz4 := dz 4
        have hKF := fun (q : Addr) (hq : w.heap.size + 1 ≤ q.block) => put5_far (w := w4) (b := w.heap.size) (x0 := .bool true) (x1 := .bool false) (x2 := .slice none 0 0) (x3 := .slice none 0 0) (x4 := .slice A3 acc.length c3) q (by omega)
        have hgF := put5_grown hgw (Nat.le_refl _) (.bool true) (.bool false) (.slice none 0 0) (.slice none 0 0) (.slice A3 acc.length c3)
        have hRF : RdAt (put5 w4 w.heap.size (.bool true) (.bool false) (.slice none 0 0) (.slice none 0 0) (.slice A3 acc.length c3)) r A n c (n - r0.length : Nat) ndk := by
          rw [show ((n - r0.length : Nat) : Int) = ((n - (41 :: r0 : List UInt8).length : Nat) : Int) + 1 by omega]
          exact (put5_block (by omega) _ _ _ _ _).trans hR4
        have hiF : SIn (put5 w4 w.heap.size (.bool true) (.bool false) (.slice none 0 0) (.slice none 0 0) (.slice A3 acc.length c3)) (fun k => w.heap.size ≤ k) (.mk true false [] [] acc) [.bool true, .bool false, .slice none 0 0, .slice none 0 0, .slice A3 acc.length c3] :=
          .mk RIn.none_ ⟨Nat.le_refl _, by omega⟩ RIn.none_ ⟨Nat.le_refl _, by omega⟩ (((hri.more (S' := fun b => w.heap.size + 1 ≤ b) fun b hb => by omega).keep hKF).more fun b hb => by omega) ⟨hnc, by omega⟩ rfl
            (fun i t hit => (((hk i t hit).more (S' := fun b => w.heap.size + 1 ≤ b) fun b hb => by omega).keep hKF).more fun b hb => by omega)
        have HF := Lib.hid (And.intro hiF (And.intro hRF hgF))
        clear dz fz x1 x2 ho hk hgw hri hiF hRF hgF hKF hR4 hg4 hH3 hR3 hr3 hg3 HH HRD
        go_wp2_with fail
        refine bodyPost_ret (v := .agg #[.bool true, .bool false, .slice none 0 0, .slice none 0 0, .slice A3 acc.length c3]) (by simp [results, Tryd.results47, go_sem, d0, d1, d2, d3, d4]) rfl ?_
        rw [hRk2, List.append_nil]
        exact ⟨_, _, _, _, _, rfl, HF.out⟩
      · rw [if_neg h41] at hRk2
        have h41' : ((c0.toNat : Int) == 41) = false := by
          rw [beq_eq_false_iff_ne]
          intro e
          exact h41 (UInt8.toNat_inj.1 (by show c0.toNat = 41; omega))
        have HH := Lib.hid hH
        have HRD := Lib.hid hRk
        have HSK := Lib.hid hsk
        have hwz := hH.2.2.2.2.2
        have CV := Lib.hid (fun W (hb : Below wr.heap.size wr W) => (HV.out g (by omega)) r A n c (n - (c0 :: r0).length) ndk (ar + 1) b B W (hRk.old hb) (hrk.keep fun q hq => hb.cell (by omega)) hB hn hc (by omega) hndk (by omega) (by omega))
        rw [hsk] at CV
        have hat : ((ar + 1 : Nat) : Int) = IntKind.i64.wrap ((ar : Int) + 1) := by rw [IntWalk.i64_in _ (by omega)]; omega
        rw [hat] at CV
        have HK := Lib.hid (fun W' (hb : Box W' (w.heap.size + 1) (.bool true) (.bool false) (.slice none 0 0) (.slice none 0 0) v) => (And.intro hb.all.1.2.2.2.2 (hb.all.2 4) : W'.cell? ⟨w.heap.size + 1, 4, none⟩ = some v ∧ W'.frozen? ⟨w.heap.size + 1, 4, none⟩ = false))
        clear hH hRk hsk hplace HV hrk
        cases hpv : pVal g (c0 :: r0) ndk (ar + 1) with
        | err k rest =>
          rw [hpv] at hRk2 CV
          have hRk2 : R = .err k rest := hRk2
          clear hpv
          go_wp2_with ((with_reducible refine C.out.mono ?_); rintro e w3 ⟨rfl, hb3⟩)
          have hb3' : Below wr.heap.size wr w3.drew := hb3.trans (Below.refl _ _).drew
          have hx3 := HH.out.2.1.old hb3'
          have C2 := Lib.hid (CV.out _ hb3')
          obtain ⟨m4, mz⟩ := HK.out _ hx3
          have HE := Lib.hid (fun w4 (hg4 : w3.drew.grownBy w4 (some r)) => (by rw [hRk2]; exact ⟨rfl, HH.out.2.2.2.2.1.trans ((grown_below hb3' _).trans hg4)⟩ : ValEnd w r A n c (.panicked [{ v := .iface (kindT k) (.int .i64 (n - rest.length : Nat)), recovered := false }]) w4 (listRes R)))
          go_region_dies
          all_goals
            (refine C2.out.mono ?_)
            rintro e w4 ⟨rfl, hg4⟩
            exact ⟨rfl, HE.out _ hg4⟩
        | ok y rest =>
          obtain ⟨t, nd'⟩ := y
          rw [hpv] at hRk2 CV
          obtain ⟨hst, -, hnd', hnd5, -⟩ := (sound g).1 _ _ _ _ _ _ hpv (by omega)
          clear hpv
          go_wp2_with ((with_reducible refine C.out.mono ?_); rintro e w3 ⟨rfl, hb3⟩)
          have hb3' : Below wr.heap.size wr w3.drew := hb3.trans (Below.refl _ _).drew
          have hx3 := HH.out.2.1.old hb3'
          have hH3 := HH.out.keep hrl (grown_below hb3' (some r))
          have C2 := Lib.hid (CV.out _ hb3')
          obtain ⟨i0, hi, hz0, hz1, hz2⟩ := info_parts infoSexp
          have HO := Lib.hid hH3
          have HI := Lib.hid hi
          clear hH3
          obtain ⟨m4, mz4⟩ := HK.out _ hx3
          have HS := Lib.hid hst
          have HR2 := Lib.hid hRk2
          have hnp := nodes_pos t
          clear hst hRk2
          go_region_law
            ((first
              | (go_simp; (with_reducible refine C2.out.mono ?_); rintro e w4 ⟨x0, x1, x2, x3, x4, rfl, hin, hR4, hg4⟩; have hH4 := HO.out.keep hrl hg4; have hx4 := hH4.2.1; have hz4 := hg4.size; have hz3 := hb3'.size; obtain ⟨m5, mz5⟩ := HK.out _ hx4; have m6 := fun o => (HK.out _ (hx4.old (below_new w4 o))).1)
              | (refine step_append_any _ rfl (.tmp 13) (.tmp 18) 23 rfl (w.heap.size + 2) 25 i0 _ 5 80 Tryd.underlying23 HI.out hz0 hz1 hz2 rfl (by omega) v acc.length ys rfl (own_old hH4.2.2.1 (below_new _ _)) _ _ 1 _ [x0, x1, x2, x3, x4] rfl (reads_five _ _) (sin_one hin) (by unfold maxLen; omega) (by omega) (by simp; omega) ?_; intro v' w5 hown5 hg5 hv5; obtain ⟨A5, c5, rfl⟩ := own_form hown5; have hx5 := (hx4.old (below_new _ _)).grown hg5 (fun e => by have := (own_lt hH4.2.2.1 e).1; omega); obtain ⟨m7, mz7⟩ := HK.out _ hx5)))
          all_goals
            have hsk0 := HSK.out
            have hst' := HS.out
            obtain ⟨hd2, hq1, hq2⟩ := drop_rest (by omega) hsk0 hst'
            have hfl : 1 ≤ (form t).length := by
              obtain ⟨c1, q1, hq, -⟩ := form_head t
              rw [hq]; simp
            have hlt : rest.length + (form t).length = (c0 :: r0).length := by rw [hst']; simp; omega
            rw [hl] at hd2 hq1 hq2
            have hHS := hH4.step hrl hin (fun k hk => (own_lt HO.out.2.2.1 hk).2) (by omega) hown5 hg5 hv5
            have hRS : RdAt (w5.setCell ⟨w.heap.size + 1, 4, none⟩ (.slice A5 (acc.length + 1) c5)) r A n c (n - rest.length : Nat) nd' :=
              ((hR4.old (below_new _ _)).grown hg5 (fun e => by have := (own_lt hH4.2.2.1 e).1; omega)).far (q := ⟨w.heap.size + 1, 4, none⟩) (by show r ≠ w.heap.size + 1; omega) _
            have hme := hRS.all
            have hmr := HRD.out.all
            have hRR : R = addK (acc ++ [t]) (pKids g rest nd' (ar + 1)) := by
              rw [HR2.out]
              cases pKids g rest nd' (ar + 1) with
              | err e q => rfl
              | ok y q => obtain ⟨ks, q2⟩ := y; simp [addK]
            refine ⟨⟨_, _, _, _, _, _, _, _, _, _, _, _, ⟨acc ++ [t], g, rest, nd', _, _, hHS, hRS, by omega, hd2, by omega, by omega, hRR, hnd5, by simp; omega⟩, rfl⟩, ?_⟩
            rw [hme.2.1, hmr.2.1]
            simp only [Option.getD_some, intOf, Int.toNat_natCast]
            omega

theorem value_all (f : Nat) : ValSpec f := by
  induction f using Nat.strongRecOn with
  | _ f ih =>
    cases f with
    | zero =>
      intro r A n c p nd ar b B w h hr hB hn hc hp hnd har hf
      omega
    | succ f => exact value_step f (list_step f fun g hg => ih g (by omega))
end Go.Proofs.YtaenahilnnlbfaaDoor
