/-
  A value of the type api.Sexp that came in is a tree in memory. Conditions: each of its slices is within the form's own reach.
-/
import Derived.Test.YtcojkmcnigppbaaGreatDoorM5
import Derived.Test.YtcojkmcnigppbaaGreatDoorRowBytesZ
import Derived.ProofKit
import Derived.Deep.Slices
import Derived.Deep.Fields
import Derived.ChangeSame
set_option linter.unusedVariables false
set_option linter.unusedSimpArgs false
open Go.Lib (hid)
open Go.Proofs.YtcojkmcnigppbaaGreatDoor (zA zB zC zD zE zF)
set_option maxRecDepth 100000
namespace Go.Proofs.YtcojkmcnigppbaaGreatDoor
open Go Go.Proofs Go.RowKit Sx
open Go.ChangeShapes Go.WideShapes Go.ChangeAt Go.Deep
section
variable {H : Type} {enc : TypeId × Value → H} {w : World} {held : Bool}
theorem bulk_lits (k : IntKind) (zs : List Int) : Rows.uptoBulkAll (lits (H := H) k zs) = zs.length := by
  induction zs with
  | nil => rfl
  | cons z r ih => show Rows.uptoBulk (.lit (.int k z)) + Rows.uptoBulkAll (lits k r) = _; rw [ih]; simp [Rows.uptoBulk]; omega
theorem open_bytes {fuel : Nat} {cs : List Value} {x : DataW H × List MemPlace} (h : DataW.trod enc Tryz.prog w 0 (fun _ => true) held fuel 22 cs = some x) :
    ∃ A n c l, cs = [.slice A n c] ∧ RIn w (fun _ => True) 1 A n (Lib.byteCells l) ∧ n ≤ c ∧ n + 1 ≤ Rows.uptoBulk x.1 ∧ (∀ R, (∀ y ∈ x.1.weights Tryz.prog 22, y ≤ R) → n ≤ R) := by
  rcases open_ints Tryz.underlying22 Tryz.underlying5 (by kernel_rfl) h with ⟨hcs, hx⟩ | ⟨a, len, cap, zs, hcs, _, hl, hm, hz, hx, hcell, hwz⟩
  · subst hx
    exact ⟨none, 0, 0, [], hcs, RIn.none_, Nat.le_refl _, by simp [Rows.uptoBulk], fun R _ => Nat.zero_le _⟩
  · simp at hz
    have hr := reads_of_row (w := w) (a := some a) (len := len) (cap := cap) (zs := zs) (.inr ⟨a, rfl, hl, hm, hz, hcell, hwz⟩)
    subst hx
    refine ⟨some a, len, cap, bytesOf len zs, hcs, (RIn.of_reads hr.1).more fun _ _ => trivial, hl, ?_, ?_⟩
    · simp only [Rows.uptoBulk, bulk_lits, List.length_take, List.length_drop]
      omega
    · intro R hR
      have h0 := hR (((lits (H := H) .u8 (zs.take len)).length + (lits (H := H) .u8 (zs.drop len)).length) * Tryz.prog.bytesOf 5) (by simp [DataW.weights, Tryz.underlying22])
      have hb : Tryz.prog.bytesOf 5 = 1 := by kernel_rfl
      rw [hb] at h0
      simp [lits] at h0
      omega
theorem structSexp : ∃ fs : Array Field, Tryz.prog.underlying 25 = some (.struct fs) ∧ oneCellFields Tryz.prog fs = true ∧ fs.toList.map (·.type) = [4, 4, 22, 22, 23] :=
  ⟨_, Tryz.underlying25, by kernel_rfl, by kernel_rfl⟩
theorem open_five {fuel : Nat} {cs : List Value} {x : DataW H × List MemPlace} (h : DataW.trod enc Tryz.prog w 0 (fun _ => true) held fuel 25 cs = some x) :
    ∃ (v0 v1 v2 v3 v4 : Value) (y0 y1 y2 y3 y4 : DataW H × List MemPlace) (n : Nat), n < fuel ∧ cs = [v0, v1, v2, v3, v4] ∧ x.1 = .agg [y0.1, y1.1, y2.1, y3.1, y4.1] ∧
      DataW.trod enc Tryz.prog w 0 (fun _ => true) held n 4 [v0] = some y0 ∧ DataW.trod enc Tryz.prog w 0 (fun _ => true) held n 4 [v1] = some y1 ∧ DataW.trod enc Tryz.prog w 0 (fun _ => true) held n 22 [v2] = some y2 ∧
      DataW.trod enc Tryz.prog w 0 (fun _ => true) held n 22 [v3] = some y3 ∧ DataW.trod enc Tryz.prog w 0 (fun _ => true) held n 23 [v4] = some y4 := by
  obtain ⟨fs, hfs, hone, htys⟩ := structSexp
  obtain ⟨xs, n, hn, hx, hl, hlen, hf⟩ := DataW.trod_struct hfs h
  have hc : Tryz.prog.cellsOf 25 = 5 := by kernel_rfl
  rw [hc] at hl
  obtain ⟨fl⟩ := fs
  match fl, htys with
  | [f0, f1, f2, f3, f4], htys =>
    simp only [List.map_cons, List.map_nil, List.cons.injEq, and_true] at htys
    obtain ⟨t0, t1, t2, t3, t4⟩ := htys
    match cs, hl with
    | [c0, c1, c2, c3, c4], _ =>
      match xs, hlen with
      | [y0, y1, y2, y3, y4], _ =>
        obtain ⟨o0, k0⟩ := hone_of hone 0 f0 rfl
        obtain ⟨o1, k1⟩ := hone_of hone 1 f1 rfl
        obtain ⟨o2, k2⟩ := hone_of hone 2 f2 rfl
        obtain ⟨o3, k3⟩ := hone_of hone 3 f3 rfl
        obtain ⟨o4, k4⟩ := hone_of hone 4 f4 rfl
        have g0 := hf 0 f0 rfl
        have g1 := hf 1 f1 rfl
        have g2 := hf 2 f2 rfl
        have g3 := hf 3 f3 rfl
        have g4 := hf 4 f4 rfl
        rw [o0, k0, t0] at g0
        rw [o1, k1, t1] at g1
        rw [o2, k2, t2] at g2
        rw [o3, k3, t3] at g3
        rw [o4, k4, t4] at g4
        refine ⟨c0, c1, c2, c3, c4, y0, y1, y2, y3, y4, n, by omega, rfl, by rw [hx]; rfl, g0, g1, g2, g3, g4⟩
theorem choose_kids {n : Nat} {p : Nat → SX → Prop} (h : ∀ i, i < n → ∃ t, p i t) : ∃ ks : List SX, ks.length = n ∧ ∀ i t, ks[i]? = some t → p i t := by
  induction n with
  | zero => exact ⟨[], rfl, fun i t h => by simp at h⟩
  | succ n ih =>
    obtain ⟨ks, hl, hk⟩ := ih (fun i hi => h i (by omega))
    obtain ⟨t, ht⟩ := h n (by omega)
    refine ⟨ks ++ [t], by simp [hl], fun i u hu => ?_⟩
    rcases Nat.lt_trichotomy i n with hi | hi | hi
    · rw [List.getElem?_append_left (by omega)] at hu; exact hk i u hu
    · subst hi
      rw [List.getElem?_append_right (by omega), hl, Nat.sub_self] at hu
      simp at hu
      subst hu; exact ht
    · rw [List.getElem?_eq_none (by simp; omega)] at hu; cases hu
theorem bulk_kids : ∀ (ks : List SX) (ys : List (DataW H)), ks.length = ys.length → (∀ (i : Nat) (t : SX) (y : DataW H), ks[i]? = some t → ys[i]? = some y → nodes t ≤ Rows.uptoBulk y ∧ (form t).length ≤ 60 * Rows.uptoBulk y) →
    nodesL ks ≤ Rows.uptoBulkAll ys ∧ (formL ks).length ≤ 60 * Rows.uptoBulkAll ys
  | [], [], _, _ => ⟨Nat.le_refl _, Nat.zero_le _⟩
  | k :: ks, y :: ys, hl, h => by
    have h0 := h 0 k y rfl rfl
    have h1 := bulk_kids ks ys (by simpa using hl) (fun i t u ht hu => h (i + 1) t u ht hu)
    rw [nodesL, formL, Rows.uptoBulkAll, List.length_append]
    omega
theorem open_sexp : ∀ (fuel : Nat) (cs : List Value) (x : DataW H × List MemPlace), DataW.trod enc Tryz.prog w 0 (fun _ => true) held fuel 25 cs = some x →
    (∀ y ∈ x.1.weights Tryz.prog 25, y ≤ reachBytes) → ∃ t, SIn w (fun _ => True) t cs ∧ nodes t ≤ Rows.uptoBulk x.1 ∧ (form t).length ≤ 60 * Rows.uptoBulk x.1 := by
  intro fuel
  induction fuel using Nat.strongRecOn with
  | _ fuel ih =>
    intro cs x h hw
    obtain ⟨v0, v1, v2, v3, v4, y0, y1, y2, y3, y4, n, hn, rfl, hx, g0, g1, g2, g3, g4⟩ := open_five h
    obtain ⟨l, e0, _⟩ := DataW.trod_bool Tryz.underlying4 g0
    obtain ⟨hh, e1, _⟩ := DataW.trod_bool Tryz.underlying4 g1
    obtain ⟨A1, n1, c1, hi, e2, r1, b1, u1, q1⟩ := open_bytes g2
    obtain ⟨A2, n2, c2, da, e3, r2, b2, u2, q2⟩ := open_bytes g3
    injection e0 with e0; injection e1 with e1; injection e2 with e2; injection e3 with e3
    subst e0 e1 e2 e3
    have hW : x.1.weights Tryz.prog 25 = y0.1.weights Tryz.prog 4 ++ (y1.1.weights Tryz.prog 4 ++ (y2.1.weights Tryz.prog 22 ++ (y3.1.weights Tryz.prog 22 ++ (y4.1.weights Tryz.prog 23 ++ [])))) := by
      rw [hx]
      obtain ⟨fs, hfs, _, htys⟩ := structSexp
      simp only [DataW.weights, hfs, htys, DataW.weightsEach]
    have w1 := q1 reachBytes (fun y hy => hw y (by rw [hW]; simp [hy]))
    have w2 := q2 reachBytes (fun y hy => hw y (by rw [hW]; simp [hy]))
    have w4 : ∀ y ∈ y4.1.weights Tryz.prog 23, y ≤ reachBytes := fun y hy => hw y (by rw [hW]; simp [hy])
    have hl1 : hi.length = n1 := by simpa [Lib.byteCells_length] using r1.1
    have hl2 : da.length = n2 := by simpa [Lib.byteCells_length] using r2.1
    have hre : reachBytes ≤ 140737488355328 := by unfold reachBytes; omega
    have ho : own l hh hi da ≤ 50 + n1 + n2 := by
      have t1 : (text hi).length ≤ n1 + 20 := by rw [text_length, hl1]; have := Oct.dec_length 18 n1 (by omega); omega
      have t2 : (text da).length ≤ n2 + 20 := by rw [text_length, hl2]; have := Oct.dec_length 18 n2 (by omega); omega
      unfold own
      split
      · omega
      · split <;> omega
    have hform : ∀ ks, (form (.mk l hh hi da ks)).length ≤ own l hh hi da + (formL ks).length := by
      intro ks
      rw [form, own]
      cases l <;> cases hh <;> simp <;> omega
    have hbulk : Rows.uptoBulk x.1 = Rows.uptoBulk y0.1 + (Rows.uptoBulk y1.1 + (Rows.uptoBulk y2.1 + (Rows.uptoBulk y3.1 + (Rows.uptoBulk y4.1 + 0)))) + 1 := by rw [hx]; rfl
    rcases DataW.trod_slice Tryz.underlying23 g4 with ⟨hcs, hy4⟩ | ⟨a, len, cap, elems, rest, m, hm, hcs, hy4, _, hle, hcm, hel, hall, _, _⟩
    · injection hcs with hcs
      subst hcs
      refine ⟨.mk l hh hi da [], .mk (xs := []) r1 ⟨b1, by omega⟩ r2 ⟨b2, by omega⟩ RIn.none_ ⟨Nat.le_refl _, by omega⟩ rfl (fun i t hit => by simp at hit), ?_, ?_⟩
      · rw [nodes, nodesL]; omega
      · have := hform []
        rw [formL] at this
        simp at this
        omega
    · injection hcs with hcs
      subst hcs
      have hc5 : Tryz.prog.cellsOf 25 = 5 := by kernel_rfl
      rw [hc5] at hall
      have hwk : ∀ (i : Nat) (y : DataW H × List MemPlace), elems[i]? = some y → ∀ z ∈ y.1.weights Tryz.prog 25, z ≤ reachBytes := by
        intro i y hy z hz
        apply w4
        rw [hy4]
        simp only [DataW.weights, Tryz.underlying23]
        have : ∀ (es : List (DataW H)) (y : DataW H), y ∈ es → ∀ z ∈ y.weights Tryz.prog 25, z ∈ DataW.weightsAll Tryz.prog 25 es := by
          intro es
          induction es with
          | nil => intro y hy; cases hy
          | cons e r ihr =>
            intro y hy z hz
            rw [DataW.weightsAll]
            rcases List.mem_cons.1 hy with rfl | hy
            · simp [hz]
            · simp [ihr y hy z hz]
        have hmem : y.1 ∈ elems.map (·.1) := List.mem_map.2 ⟨y, List.mem_of_getElem? hy, rfl⟩
        simp [this _ _ hmem z hz]
      have hlen80 : len * 80 ≤ reachBytes := by
        have h0 := w4 ((elems.length + rest.length) * Tryz.prog.bytesOf 25) (by rw [hy4]; simp [DataW.weights, Tryz.underlying23])
        have hb : Tryz.prog.bytesOf 25 = 80 := by kernel_rfl
        rw [hb] at h0
        have : len * 80 ≤ (elems.length + rest.length) * 80 := Nat.mul_le_mul_right _ (by omega)
        omega
      have each : ∀ i, i < len → ∃ cs' y, elems[i]? = some y ∧ w.cells? 0 (a.add (i * 5)) 5 = some cs' ∧ DataW.trod enc Tryz.prog w 0 (fun _ => true) held m 25 cs' = some y := by
        intro i hi
        have h0 := hall i hi
        rw [List.getElem?_eq_getElem (by omega)] at h0
        obtain ⟨cs', h1, h2⟩ := Option.bind_eq_some_iff.1 h0
        exact ⟨cs', _, List.getElem?_eq_getElem (by omega), h1, h2⟩
      obtain ⟨xs, hxs⟩ : ∃ xs : List Value, xs = (List.range (len * 5)).map fun j => (w.cell? (a.add j)).getD (.bool false) := ⟨_, rfl⟩
      have hxl : xs.length = len * 5 := by rw [hxs]; simp
      have hcell : ∀ i r, i < len → r < 5 → ∃ u, w.cell? (a.add (i * 5 + r)) = some u := by
        intro i r hi hr
        obtain ⟨cs', y, _, h1, _⟩ := each i hi
        obtain ⟨_, hcl, hat⟩ := World.cells?_some h1
        have := hat r hr
        rw [add_of_add] at this
        exact ⟨cs'[r]'(by omega), by rw [this]; exact List.getElem?_eq_getElem _⟩
      have hxat : ∀ j u, xs[j]? = some u → w.cell? (a.add j) = some u := by
        intro j u hu
        have hj : j < len * 5 := by rw [← hxl]; exact (List.getElem?_eq_some_iff.1 hu).1
        obtain ⟨v, hv⟩ := hcell (j / 5) (j % 5) (by omega) (by omega)
        rw [show j / 5 * 5 + j % 5 = j by omega] at hv
        rw [hxs] at hu
        simp [hj, hv] at hu
        rw [hv, hu]
      have hchunk : ∀ i cs', i < len → w.cells? 0 (a.add (i * 5)) 5 = some cs' → (xs.drop (i * 5)).take 5 = cs' := by
        intro i cs' hi h1
        obtain ⟨_, hcl, hat⟩ := World.cells?_some h1
        apply List.ext_getElem?
        intro r
        rw [List.getElem?_take]
        split
        · rename_i hr
          rw [List.getElem?_drop]
          have hj : i * 5 + r < xs.length := by rw [hxl]; omega
          have h2 := hxat (i * 5 + r) xs[i * 5 + r] (List.getElem?_eq_getElem hj)
          have h3 := hat r hr
          rw [add_of_add, h2] at h3
          rw [List.getElem?_eq_getElem hj]; exact h3
        · rw [List.getElem?_eq_none (by omega)]
      obtain ⟨ks, hkl, hks⟩ := choose_kids (n := len) (p := fun i t => SIn w (fun _ => True) t ((xs.drop (i * 5)).take 5) ∧ ∀ y, elems[i]? = some y → nodes t ≤ Rows.uptoBulk y.1 ∧ (form t).length ≤ 60 * Rows.uptoBulk y.1) (by
        intro i hi
        obtain ⟨cs', y, he, h1, h2⟩ := each i hi
        obtain ⟨t, ht, h3, h4⟩ := ih m (by omega) cs' y h2 (hwk i y he)
        refine ⟨t, by rw [hchunk i cs' hi h1]; exact ht, fun y' hy' => ?_⟩
        rw [he] at hy'
        injection hy' with hy'
        subst hy'
        exact ⟨h3, h4⟩)
      have hsum := bulk_kids ks (elems.map (·.1)) (by simp; omega) (fun i t y ht hy => by
        rw [List.getElem?_map] at hy
        obtain ⟨y', hy', rfl⟩ := Option.map_eq_some_iff.1 hy
        exact (hks i t ht).2 y' hy')
      have hb4 : Rows.uptoBulkAll (elems.map (·.1)) + 1 ≤ Rows.uptoBulk y4.1 := by rw [hy4, Rows.uptoBulk]; omega
      refine ⟨.mk l hh hi da ks, .mk (xs := xs) r1 ⟨b1, by omega⟩ r2 ⟨b2, by omega⟩ ⟨hxl, fun _ => ⟨a, rfl, trivial, hxat⟩⟩ ⟨hle, by omega⟩ hkl (fun i t hit => (hks i t hit).1), ?_, ?_⟩
      · rw [nodes]; omega
      · have := hform ks
        omega
end
end Go.Proofs.YtcojkmcnigppbaaGreatDoor
