/-
  The program's package order: ends and ranges. Conditions: ends of at most 2^40 bytes.
-/
import Derived.Ground.SlbCloneProg
import Derived.Shelf.Bytes.SlClone
import Derived.Test.YtjdmhbfddklhnaaDoorOrdP2
import Derived.Test.YtjdmhbfddklhnaaDoorOrdOk
import Derived.Test.YtjdmhbfddklhnaaDoorAuto
import Derived.Test.YtjdmhbfddklhnaaDoorOrdRef7
set_option linter.unusedSimpArgs false
set_option linter.unusedVariables false
set_option maxRecDepth 100000
namespace Ord11
section
variable (C : Cmp)
/-- Is nothing that the first end leaves beyond the second one? -/
def insideB (o : Nat) (s : Int) (x y : Bd) : Bool :=
  if x.is = false ∨ y.is = false then !y.is else decide ((C o x.at_ y.at_).1 = s) || (decide ((C o x.at_ y.at_).1 = 0) && (x.op || !y.op))
def innerB (o : Nat) (s : Int) (x y : Bd) : Bd := if insideB C o s x y = true then x else y
def bothR (a b : Rg) : Bool := decide (a.o = b.o) && mayR C a && mayR C b
end
variable {C : Cmp}
theorem inner_lo (H : Lawful C) {o : Nat} {x y : Bd} (hx : mayB C o x = true) (hy : mayB C o y = true) : innerB C o 1 x y = endB C o x y true := by
  unfold innerB insideB endB
  cases hxi : x.is with
  | false =>
    cases hyi : y.is with
    | false => simp [mayB_not hx hxi, mayB_not hy hyi]
    | true => simp
  | true =>
    cases hyi : y.is with
    | false => simp
    | true =>
      rcases H.tri o x.at_ y.at_ with h | h | h
      · simp [h]
      · cases x.op <;> cases y.op <;> simp [h]
      · simp [h]
theorem inner_hi (H : Lawful C) {o : Nat} {x y : Bd} (hx : mayB C o x = true) (hy : mayB C o y = true) : innerB C o (-1) x y = endB C o x y false := by
  unfold innerB insideB endB
  cases hxi : x.is with
  | false =>
    cases hyi : y.is with
    | false => simp [mayB_not hx hxi, mayB_not hy hyi]
    | true => simp
  | true =>
    cases hyi : y.is with
    | false => simp
    | true =>
      rcases H.tri o x.at_ y.at_ with h | h | h
      · simp [h]
      · cases x.op <;> cases y.op <;> simp [h]
      · simp [h]
/-- Where the inner one is the first one as it stands, it is inside. -/
theorem inside_same (H : Lawful C) {o : Nat} {s : Int} {x y : Bd} (hs : s ≠ 0) (hx : mayB C o x = true) (hy : mayB C o y = true) : sameB (innerB C o s x y) x = insideB C o s x y := by
  unfold innerB
  cases h : insideB C o s x y with
  | true => simp [sameB_refl]
  | false =>
    rw [if_neg (by simp)]
    cases hs2 : sameB y x with
    | false => rfl
    | true =>
      exfalso
      have e := sameB_eq hs2
      subst e
      unfold insideB at h
      have r := H.refl o y.at_
      cases hyi : y.is with
      | false => rw [if_pos (.inl hyi), hyi] at h; cases h
      | true =>
        rw [if_neg (by simp [hyi]), r] at h
        cases y.op <;> simp [hs.symm] at h
theorem meet_both (a b : Rg) : (meetR C a b).2 = bothR C a b := by
  unfold meetR bothR
  split
  · rename_i h; simp [h.1, h.2.1, h.2.2]
  · rename_i h
    cases h1 : mayR C a <;> cases h2 : mayR C b <;> simp_all
theorem both_parts {a b : Rg} (h : bothR C a b = true) : mayR C a = true ∧ mayR C b = true ∧ a.o = b.o := by
  unfold bothR at h
  simp only [Bool.and_eq_true, decide_eq_true_eq] at h
  exact ⟨h.1.2, h.2, h.1.1⟩
/-- A range within another one, end by end. -/
theorem within_ends (H : Lawful C) (a b : Rg) : withinR C a b = (bothR C a b && (emptyR C a || (insideB C a.o 1 a.lo b.lo && insideB C a.o (-1) a.hi b.hi))) := by
  unfold withinR
  rw [meet_both]
  cases h : bothR C a b with
  | false => rfl
  | true =>
    obtain ⟨ha, hb, ho⟩ := both_parts h
    obtain ⟨_, h3, h4⟩ := mayR_parts ha
    obtain ⟨_, h5, h6⟩ := mayR_parts hb
    rw [← ho] at h5 h6
    have e : (meetR C a b).1 = ⟨a.o, innerB C a.o 1 a.lo b.lo, innerB C a.o (-1) a.hi b.hi⟩ := by
      unfold meetR
      rw [if_pos ⟨ha, hb, ho⟩, inner_lo H h3 h5, inner_hi H h4 h6]
    rw [e]
    unfold sameR
    simp only [inside_same H (show (1 : Int) ≠ 0 by decide) h3 h5, inside_same H (show (-1 : Int) ≠ 0 by decide) h4 h6, decide_true, Bool.true_and]
/-- What is in a range is, alone, a range within it. -/
theorem in_within (H : Lawful C) (r : Rg) (b : List UInt8) : inR C r b = withinR C ⟨r.o, ⟨true, false, b⟩, ⟨true, false, b⟩⟩ r := by
  rw [within_ends H]
  have hm : mayR C ⟨r.o, ⟨true, false, b⟩, ⟨true, false, b⟩⟩ = (decide (1 ≤ r.o) && decide (r.o ≤ 5) && isV C r.o b) := by
    unfold mayR mayB
    cases isV C r.o b <;> simp
  unfold bothR inR
  rw [hm]
  cases hr : mayR C r with
  | false => simp
  | true =>
    obtain ⟨h12, h3, h4⟩ := mayR_parts hr
    cases hv : isV C r.o b with
    | false => simp
    | true =>
      have he : emptyR C ⟨r.o, ⟨true, false, b⟩, ⟨true, false, b⟩⟩ = false := by
        unfold emptyR
        simp [H.refl]
      rw [he]
      unfold above below insideB
      cases hl : r.lo.is <;> cases hh : r.hi.is <;> simp [h12]
      all_goals rcases H.tri r.o b r.lo.at_ with h | h | h <;> rcases H.tri r.o b r.hi.at_ with h' | h' | h' <;> simp [h, h']
end Ord11
namespace Go.Proofs
open Go.Shelf
def Tryd.laysSlK4_ren : Go.Shelf.Ren := ⟨fun | 4 => 49 | n => n, fun | 22 => 22 | 4 => 4 | 5 => 5 | n => n, fun | n => n⟩
theorem Tryd.laysSlK4 : Go.Proofs.SlLaysK.n4 Tryd.prog Tryd.laysSlK4_ren := {
  mixed := by kernel_rfl
  f4 := Tryd.func49.trans (congrArg some (by kernel_rfl))
  t4 := Tryd.underlying4
  a4 := Tryd.isAgg4
  z4 := Tryd.sizeOf4
  v4 := Tryd.zeroValue4
  t22 := Tryd.underlying22
  a22 := Tryd.isAgg22
  z22 := Tryd.sizeOf22
  v22 := Tryd.zeroValue22
  t5 := Tryd.underlying5
  i5 := by kernel_rfl }
open Go.RowKit Go.Lib in
theorem Tryd.bytes_Clone_at (a : Addr) (n c : Nat) (xs : List Int) (w : World) (hx : xs.length = n) (hbig : n ≤ 140737488355328) (hc : ∀ i, i < n → w.cell? (a.add i) = some (.int .u8 (xs.getD i 0))) :
    Calls Tryd.prog 49 #[.slice (some a) n c] w fun e w' => ∃ v', e = .returned v' ∧ w'.ownsRow w.heap.size 5 1 v' n (xs.map (Value.int .u8)) ∧ v' ≠ .slice none 0 0 ∧ Below w.heap.size w w' := Any.bytes_Clone_at Tryd.laysSlK4 a n c xs w hx hbig hc
open Go.RowKit Go.Lib in
theorem Tryd.bytes_Clone_nil (n c : Nat) (w : World) :
    Calls Tryd.prog 49 #[.slice none n c] w fun e w' => e = .returned (.slice none 0 0) ∧ w' = w := Any.bytes_Clone_nil Tryd.laysSlK4 n c w
end Go.Proofs
namespace Go.Proofs.YtjdmhbfddklhnaaDoor
open Go Go.Proofs Go.RowKit _root_.Ord11 Go.Proofs.YtjdmhbfddklhnaaDoor.Ord11
open Sch (wp_R gr_val gr_is gr_fresh gr_nil gr_on gr_onV gr_offV op_callR Rk)

/-- A slice that reads these bytes, in blocks from L on. -/
def SlV (L n : Nat) (l : List UInt8) (v : Value) (V : World) : Prop := ∃ A c, v = .slice A n c ∧ SlAt V V.heap.size A n c l ∧ ∀ ad, A = some ad → L ≤ ad.block
theorem SlV.keep {L n : Nat} {l : List UInt8} (v : Value) (V V' : World) (h : SlV L n l v V) (hb : Below V.heap.size V V') : SlV L n l v V' := by
  obtain ⟨A, c, rfl, h, hL⟩ := h
  exact ⟨A, c, rfl, h.next hb, hL⟩
/-- An end whose bytes read so. -/
def BdV (L : Nat) (i p : Bool) (n : Nat) (l : List UInt8) (v : Value) (V : World) : Prop := ∃ A c, v = .agg #[.bool i, .bool p, .slice A n c] ∧ SlAt V V.heap.size A n c l ∧ ∀ ad, A = some ad → L ≤ ad.block
theorem BdV.keep {L : Nat} {i p : Bool} {n : Nat} {l : List UInt8} (v : Value) (V V' : World) (h : BdV L i p n l v V) (hb : Below V.heap.size V V') : BdV L i p n l v V' := by
  obtain ⟨A, c, rfl, h, hL⟩ := h
  exact ⟨A, c, rfl, h.next hb, hL⟩
theorem SlAt.row11 {V : World} {A : Option Addr} {n c g : Nat} {l : List UInt8} (h : SlAt V V.heap.size A n c l) (hL : ∀ ad, A = some ad → ad.block ≠ g) (cs : Array Value) : SlAt (V.setRow g cs) (V.setRow g cs).heap.size A n c l := by
  refine ⟨⟨h.rd.1, fun hn => ?_⟩, h.fit, h.cap⟩
  obtain ⟨ad, e, hb, hc⟩ := h.rd.2 hn
  refine ⟨ad, e, by simpa using hb, fun j u hj => ?_⟩
  have := hL ad e
  rw [World.cell?_of_block (setRow_other V g (ad.add j).block cs (by rw [block_of_add]; exact this))]
  exact hc j u hj
theorem clone11 {A : Option Addr} {n c : Nat} {l : List UInt8} {w : World} (h : SlAt w w.heap.size A n c l) : Calls Tryd.prog 49 #[.slice A n c] w fun e w' => ∃ v, e = .returned v ∧ SlV w.heap.size n l v w' ∧ Below w.heap.size w w' := by
  have hl := h.len
  cases A with
  | none =>
    have h0 : n = 0 := by
      rcases Nat.eq_zero_or_pos n with h0 | h0
      · exact h0
      · obtain ⟨_, e, _⟩ := h.rd.2 h0; cases e
    subst h0
    obtain rfl : l = [] := List.eq_nil_of_length_eq_zero hl
    refine (Tryd.bytes_Clone_nil _ c w).mono ?_
    rintro e w' ⟨rfl, rfl⟩
    exact ⟨_, rfl, ⟨none, 0, rfl, ⟨Reads.none_, by omega, by omega⟩, fun _ h => by cases h⟩, Below.refl _ _⟩
  | some ad =>
    refine (Tryd.bytes_Clone_at ad n c (l.map fun b => (b.toNat : Int)) w (by simp [hl]) (by have := h.fit; omega) ?_).mono ?_
    · intro i hi
      obtain ⟨ad', u, h1, _, hu, h3⟩ := h.rd.at_ hi
      injection h1 with h1
      subst h1
      rw [h3]
      have hil : i < l.length := by omega
      simp [Lib.byteCells, List.getElem?_map, List.getElem?_eq_getElem hil] at hu
      subst hu
      simp [List.getD, List.getElem?_eq_getElem hil]
    · rintro e w' ⟨v', rfl, hown, _, hb⟩
      have e1 : (l.map fun b => (b.toNat : Int)).map (Value.int .u8) = Lib.byteCells l := by simp [Lib.byteCells]
      rw [e1] at hown
      refine ⟨v', rfl, ?_, hb⟩
      have hw := hown
      rcases hown.2 with ⟨h1, h2⟩ | ⟨g, cap, cur, hv, hg, _, hc, _⟩
      · subst h2
        subst h1
        have := h.fit
        obtain rfl : l = [] := List.eq_nil_of_length_eq_zero hl
        exact ⟨none, _, rfl, ⟨Reads.none_, by omega, by omega⟩, fun _ h => by cases h⟩
      · subst hv
        exact ⟨_, _, rfl, ⟨Reads.of_own hw, h.fit, hc⟩, fun _ h => by injection h with h; subst h; exact hg⟩
theorem stOk (o : Nat) (ho : o < 256) (w : World) : Calls Tryd.prog 24 #[.int .u8 o] w fun e w' => ∃ f, e = .returned (.tuple #[f, .bool (decide (1 ≤ o) && decide (o ≤ 5))]) ∧ Below w.heap.size w w' := by
  by_cases h1 : o = 1
  · subst h1; refine (st1_any w).mono ?_; rintro e w' ⟨rfl, rfl⟩; exact ⟨_, rfl, Below.refl _ _⟩
  by_cases h2 : o = 2
  · subst h2; refine (st2_any w).mono ?_; rintro e w' ⟨rfl, hb, _⟩; exact ⟨_, rfl, hb⟩
  by_cases h3 : o = 3
  · subst h3; refine (st3_any w).mono ?_; rintro e w' ⟨rfl, hb, _⟩; exact ⟨_, rfl, hb⟩
  by_cases h4 : o = 4
  · subst h4; refine (st4_any w).mono ?_; rintro e w' ⟨rfl, rfl⟩; exact ⟨_, rfl, Below.refl _ _⟩
  by_cases h5 : o = 5
  · subst h5; refine (st5_any w).mono ?_; rintro e w' ⟨rfl, hb, _⟩; exact ⟨_, rfl, hb⟩
  refine (st0_any o (by omega) w).mono ?_
  rintro e w' ⟨rfl, rfl⟩
  refine ⟨.nilFunc, ?_, Below.refl _ _⟩
  rw [show (decide (1 ≤ o) && decide (o ≤ 5)) = false by simp; omega]

set_option maxHeartbeats 4000000 in
theorem pMayEnd (o : Nat) (ho : o < 256) (x : Bd) {A1 : Option Addr} {n1 c1 : Nat} (w : World) (h1 : SlAt w w.heap.size A1 n1 c1 x.at_) :
    Calls Tryd.prog 31 #[.int .u8 o, .agg (bdC x A1 n1 c1)] w fun e w' => e = .returned (.bool (mayB ordC o x)) ∧ Below w.heap.size w w' := by
  obtain ⟨i1, p1, l1⟩ := x
  have e1 := h1.len
  dsimp only at e1
  have z1 : Hid (l1.isEmpty = decide (n1 = 0)) := by show _ = _; rw [← e1]; cases l1 <;> simp
  obtain ⟨v1, hv1⟩ : ∃ v, v = isV ordC o l1 := ⟨_, rfl⟩
  obtain ⟨X, hX⟩ : ∃ X, X = mayB ordC o ⟨i1, p1, l1⟩ := ⟨_, rfl⟩
  rw [← hX]
  rw [mayB_val] at hX
  dsimp only at hX
  rw [← hv1, z1.out] at hX
  have HX := Lib.hid hX
  clear hX z1 e1
  obtain ⟨w0, hw0⟩ : ∃ w0, w0 = (w.alloc (.cells #[.bool i1, .bool p1, .slice A1 n1 c1] 29)) := ⟨_, rfl⟩
  have HB0 : Hid (Below w.heap.size w w0) := by
    show Below _ _ _
    rw [hw0]
    exact (Below.refl w.heap.size w).alloc (Nat.le_refl _) _
  have B0 : Blk w0 w.heap.size 29 #[.bool i1, .bool p1, .slice A1 n1 c1] := by
    rw [hw0]
    exact Blk.new w 29 #[.bool i1, .bool p1, .slice A1 n1 c1]
  have X0 : Hid (∀ W, Below w0.heap.size w0 W → ∀ k u, (#[.bool i1, .bool p1, .slice A1 n1 c1] : Array Value)[k]? = some u → W.cell? ⟨w.heap.size, k, none⟩ = some u) := fun W hW k u hk => cell_below hW ((B0.cell k).trans hk) B0.lt
  have HR : Below w0.heap.size w0 w0 := Below.refl _ _
  clear B0
  have K1 : Hid (∀ W, Below w0.heap.size w0 W → Calls Tryd.prog 11 #[.int .u8 o, .slice A1 n1 c1] W fun e w' => e = .returned (.bool v1) ∧ Below W.heap.size W w') := by
    intro W hW; rw [hv1]; exact pIs11 o ho (h1.next (next_below HB0.out hW))
  clear hv1 h1
  unfold bdC
  go_enter Tryd.func31, Tryd.ntmps31
  go_upto_region 1 with fail
  rw [← hw0]
  clear hw0
  have x0_0 := X0.out _ HR 0 _ rfl
  have x0_1 := X0.out _ HR 1 _ rfl
  have x0_2 := X0.out _ HR 2 _ rfl
  cases i1 with
  | true =>
    go_wp2_with (go_at_call 11; (with_reducible refine (K1.out _ (by assumption)).mono ?_); rintro e w1 ⟨rfl, hb⟩; have hB := next_below (by assumption) hb; have x0_0 := X0.out _ hB 0 _ rfl; have x0_1 := X0.out _ hB 1 _ rfl; have x0_2 := X0.out _ hB 2 _ rfl; clear hb)
    go_ret
    exact ⟨by rw [HX.out]; simp, next_below HB0.out (by assumption)⟩
  | false =>
    cases p1 with
    | true =>
      go_wp2_with fail
      go_ret
      exact ⟨by rw [HX.out]; simp, HB0.out⟩
    | false =>
      by_cases hn : n1 = 0
      · subst hn
        go_wp2_with fail
        go_ret
        exact ⟨by rw [HX.out]; simp, HB0.out⟩
      · have hnB : ((n1 : Int) == 0) = false := by rw [beq_eq_false_iff_ne]; omega
        have HN := Lib.hid hn
        clear hn
        go_wp2_with fail
        go_ret
        exact ⟨by rw [HX.out]; simp [HN.out], HB0.out⟩
set_option maxHeartbeats 8000000 in
theorem pMay11 (r : Rg) (ho : r.o < 256) {A1 A2 : Option Addr} {n1 c1 n2 c2 : Nat} (w : World) (h1 : SlAt w w.heap.size A1 n1 c1 r.lo.at_) (h2 : SlAt w w.heap.size A2 n2 c2 r.hi.at_) :
    Calls Tryd.prog 14 #[.agg (rgC r A1 n1 c1 A2 n2 c2)] w fun e w' => e = .returned (.bool (mayR ordC r)) ∧ Below w.heap.size w w' := by
  obtain ⟨o, ⟨i1, p1, l1⟩, ⟨i2, p2, l2⟩⟩ := r
  dsimp only at h1 h2 ho
  obtain ⟨s, hs⟩ : ∃ s, s = (decide (1 ≤ o) && decide (o ≤ 5)) := ⟨_, rfl⟩
  obtain ⟨b1, hb1⟩ : ∃ b, b = mayB ordC o ⟨i1, p1, l1⟩ := ⟨_, rfl⟩
  obtain ⟨b2, hb2⟩ : ∃ b, b = mayB ordC o ⟨i2, p2, l2⟩ := ⟨_, rfl⟩
  obtain ⟨X, hX⟩ : ∃ X, X = mayR ordC ⟨o, ⟨i1, p1, l1⟩, ⟨i2, p2, l2⟩⟩ := ⟨_, rfl⟩
  have HX : Hid (X = (s && b1 && b2)) := by show _ = _; rw [hX, hs, hb1, hb2]; rfl
  rw [← hX]
  clear hX
  obtain ⟨w0, hw0⟩ : ∃ w0, w0 = (w.alloc (.cells #[.int .u8 o, .bool i1, .bool p1, .slice A1 n1 c1, .bool i2, .bool p2, .slice A2 n2 c2] 31)) := ⟨_, rfl⟩
  have HB0 : Hid (Below w.heap.size w w0) := by
    show Below _ _ _
    rw [hw0]
    exact (Below.refl w.heap.size w).alloc (Nat.le_refl _) _
  have B0 : Blk w0 w.heap.size 31 #[.int .u8 o, .bool i1, .bool p1, .slice A1 n1 c1, .bool i2, .bool p2, .slice A2 n2 c2] := by
    rw [hw0]
    exact Blk.new w 31 #[.int .u8 o, .bool i1, .bool p1, .slice A1 n1 c1, .bool i2, .bool p2, .slice A2 n2 c2]
  have X0 : Hid (∀ W, Below w0.heap.size w0 W → ∀ k u, (#[.int .u8 o, .bool i1, .bool p1, .slice A1 n1 c1, .bool i2, .bool p2, .slice A2 n2 c2] : Array Value)[k]? = some u → W.cell? ⟨w.heap.size, k, none⟩ = some u) := fun W hW k u hk => cell_below hW ((B0.cell k).trans hk) B0.lt
  have HR : Below w0.heap.size w0 w0 := Below.refl _ _
  clear B0
  have K0 : Hid (∀ W, Below w0.heap.size w0 W → Calls Tryd.prog 24 #[.int .u8 o] W fun e w' => ∃ f, e = .returned (.tuple #[f, .bool s]) ∧ Below W.heap.size W w') := by
    intro W hW; rw [hs]; exact stOk o ho W
  have K1 : Hid (∀ W, Below w0.heap.size w0 W → Calls Tryd.prog 31 #[.int .u8 o, .agg #[.bool i1, .bool p1, .slice A1 n1 c1]] W fun e w' => e = .returned (.bool b1) ∧ Below W.heap.size W w') := by
    intro W hW; rw [hb1]; exact pMayEnd o ho ⟨i1, p1, l1⟩ W (h1.next (next_below HB0.out hW))
  have K2 : Hid (∀ W, Below w0.heap.size w0 W → Calls Tryd.prog 31 #[.int .u8 o, .agg #[.bool i2, .bool p2, .slice A2 n2 c2]] W fun e w' => e = .returned (.bool b2) ∧ Below W.heap.size W w') := by
    intro W hW; rw [hb2]; exact pMayEnd o ho ⟨i2, p2, l2⟩ W (h2.next (next_below HB0.out hW))
  clear hs hb1 hb2 h1 h2
  unfold rgC
  go_enter Tryd.func14, Tryd.ntmps14
  go_upto_region 1 with fail
  rw [← hw0]
  clear hw0
  have x0_0 := X0.out _ HR 0 _ rfl
  have x0_1 := X0.out _ HR 1 _ rfl
  have x0_2 := X0.out _ HR 2 _ rfl
  have x0_3 := X0.out _ HR 3 _ rfl
  have x0_4 := X0.out _ HR 4 _ rfl
  have x0_5 := X0.out _ HR 5 _ rfl
  have x0_6 := X0.out _ HR 6 _ rfl
  cases s <;> cases b1 <;> cases b2
  all_goals go_wp2_with first | (go_at_call 24; (with_reducible refine (K0.out _ (by assumption)).mono ?_); rintro e w1 ⟨ff, rfl, hb⟩; have hB := next_below (by assumption) hb; have x0_0 := X0.out _ hB 0 _ rfl; have x0_1 := X0.out _ hB 1 _ rfl; have x0_2 := X0.out _ hB 2 _ rfl; have x0_3 := X0.out _ hB 3 _ rfl; have x0_4 := X0.out _ hB 4 _ rfl; have x0_5 := X0.out _ hB 5 _ rfl; have x0_6 := X0.out _ hB 6 _ rfl; clear hb) | (go_at_call 31; (first | (with_reducible refine (K1.out _ (by assumption)).mono ?_) | (with_reducible refine (K2.out _ (by assumption)).mono ?_)); rintro e w1 ⟨rfl, hb⟩; have hB := next_below (by assumption) hb; have x0_0 := X0.out _ hB 0 _ rfl; have x0_1 := X0.out _ hB 1 _ rfl; have x0_2 := X0.out _ hB 2 _ rfl; have x0_3 := X0.out _ hB 3 _ rfl; have x0_4 := X0.out _ hB 4 _ rfl; have x0_5 := X0.out _ hB 5 _ rfl; have x0_6 := X0.out _ hB 6 _ rfl; clear hb)
  all_goals go_ret
  all_goals exact ⟨by rw [HX.out]; simp, next_below HB0.out (by assumption)⟩
set_option maxHeartbeats 8000000 in
theorem pMayBoth (r s : Rg) (hor : r.o < 256) (hos : s.o < 256) {A1 A2 A3 A4 : Option Addr} {n1 c1 n2 c2 n3 c3 n4 c4 : Nat} (w : World) (h1 : SlAt w w.heap.size A1 n1 c1 r.lo.at_) (h2 : SlAt w w.heap.size A2 n2 c2 r.hi.at_) (h3 : SlAt w w.heap.size A3 n3 c3 s.lo.at_) (h4 : SlAt w w.heap.size A4 n4 c4 s.hi.at_) :
    Calls Tryd.prog 32 #[.agg (rgC r A1 n1 c1 A2 n2 c2), .agg (rgC s A3 n3 c3 A4 n4 c4)] w fun e w' => e = .returned (.bool (bothR ordC r s)) ∧ Below w.heap.size w w' := by
  obtain ⟨oa, ⟨ia1, pa1, l1⟩, ⟨ia2, pa2, l2⟩⟩ := r
  obtain ⟨ob, ⟨ib1, pb1, l3⟩, ⟨ib2, pb2, l4⟩⟩ := s
  dsimp only at h1 h2 h3 h4 hor hos ⊢
  obtain ⟨m1, hm1⟩ : ∃ m, m = mayR ordC ⟨oa, ⟨ia1, pa1, l1⟩, ⟨ia2, pa2, l2⟩⟩ := ⟨_, rfl⟩
  obtain ⟨m2, hm2⟩ : ∃ m, m = mayR ordC ⟨ob, ⟨ib1, pb1, l3⟩, ⟨ib2, pb2, l4⟩⟩ := ⟨_, rfl⟩
  obtain ⟨X, hX⟩ : ∃ X, X = bothR ordC ⟨oa, ⟨ia1, pa1, l1⟩, ⟨ia2, pa2, l2⟩⟩ ⟨ob, ⟨ib1, pb1, l3⟩, ⟨ib2, pb2, l4⟩⟩ := ⟨_, rfl⟩
  have HX : Hid (X = (decide (oa = ob) && m1 && m2)) := by show _ = _; rw [hX, hm1, hm2]; rfl
  rw [← hX]
  clear hX
  obtain ⟨w0, hw0⟩ : ∃ w0, w0 = ((w.alloc (.cells #[.int .u8 oa, .bool ia1, .bool pa1, .slice A1 n1 c1, .bool ia2, .bool pa2, .slice A2 n2 c2] 31)).alloc (.cells #[.int .u8 ob, .bool ib1, .bool pb1, .slice A3 n3 c3, .bool ib2, .bool pb2, .slice A4 n4 c4] 31)) := ⟨_, rfl⟩
  have HB0 : Hid (Below w.heap.size w w0) := by
    show Below _ _ _
    rw [hw0]
    exact ((Below.refl w.heap.size w).alloc (Nat.le_refl _) _).alloc (by simp; try omega) _
  have B0 : Blk w0 w.heap.size 31 #[.int .u8 oa, .bool ia1, .bool pa1, .slice A1 n1 c1, .bool ia2, .bool pa2, .slice A2 n2 c2] := by
    rw [hw0]
    exact (Blk.new w 31 #[.int .u8 oa, .bool ia1, .bool pa1, .slice A1 n1 c1, .bool ia2, .bool pa2, .slice A2 n2 c2]).alloc (.cells #[.int .u8 ob, .bool ib1, .bool pb1, .slice A3 n3 c3, .bool ib2, .bool pb2, .slice A4 n4 c4] 31)
  have X0 : Hid (∀ W, Below w0.heap.size w0 W → ∀ k u, (#[.int .u8 oa, .bool ia1, .bool pa1, .slice A1 n1 c1, .bool ia2, .bool pa2, .slice A2 n2 c2] : Array Value)[k]? = some u → W.cell? ⟨w.heap.size, k, none⟩ = some u) := fun W hW k u hk => cell_below hW ((B0.cell k).trans hk) B0.lt
  have B1 : Blk w0 (w.heap.size + 1) 31 #[.int .u8 ob, .bool ib1, .bool pb1, .slice A3 n3 c3, .bool ib2, .bool pb2, .slice A4 n4 c4] := by
    rw [hw0]
    have h := Blk.new (w.alloc (.cells #[.int .u8 oa, .bool ia1, .bool pa1, .slice A1 n1 c1, .bool ia2, .bool pa2, .slice A2 n2 c2] 31)) 31 #[.int .u8 ob, .bool ib1, .bool pb1, .slice A3 n3 c3, .bool ib2, .bool pb2, .slice A4 n4 c4]
    simpa using h
  have X1 : Hid (∀ W, Below w0.heap.size w0 W → ∀ k u, (#[.int .u8 ob, .bool ib1, .bool pb1, .slice A3 n3 c3, .bool ib2, .bool pb2, .slice A4 n4 c4] : Array Value)[k]? = some u → W.cell? ⟨(w.heap.size + 1), k, none⟩ = some u) := fun W hW k u hk => cell_below hW ((B1.cell k).trans hk) B1.lt
  have HR : Below w0.heap.size w0 w0 := Below.refl _ _
  clear B0 B1
  have K1 : Hid (∀ W, Below w0.heap.size w0 W → Calls Tryd.prog 14 #[.agg #[.int .u8 oa, .bool ia1, .bool pa1, .slice A1 n1 c1, .bool ia2, .bool pa2, .slice A2 n2 c2]] W fun e w' => e = .returned (.bool m1) ∧ Below W.heap.size W w') := by
    intro W hW
    have hW' := next_below HB0.out hW
    rw [hm1]; exact pMay11 ⟨oa, ⟨ia1, pa1, l1⟩, ⟨ia2, pa2, l2⟩⟩ hor W (h1.next hW') (h2.next hW')
  have K2 : Hid (∀ W, Below w0.heap.size w0 W → Calls Tryd.prog 14 #[.agg #[.int .u8 ob, .bool ib1, .bool pb1, .slice A3 n3 c3, .bool ib2, .bool pb2, .slice A4 n4 c4]] W fun e w' => e = .returned (.bool m2) ∧ Below W.heap.size W w') := by
    intro W hW
    have hW' := next_below HB0.out hW
    rw [hm2]; exact pMay11 ⟨ob, ⟨ib1, pb1, l3⟩, ⟨ib2, pb2, l4⟩⟩ hos W (h3.next hW') (h4.next hW')
  clear hm1 hm2 h1 h2 h3 h4
  unfold rgC
  go_enter Tryd.func32, Tryd.ntmps32
  go_upto_region 1 with fail
  rw [← hw0]
  clear hw0
  have x0_0 := X0.out _ HR 0 _ rfl
  have x0_1 := X0.out _ HR 1 _ rfl
  have x0_2 := X0.out _ HR 2 _ rfl
  have x0_3 := X0.out _ HR 3 _ rfl
  have x0_4 := X0.out _ HR 4 _ rfl
  have x0_5 := X0.out _ HR 5 _ rfl
  have x0_6 := X0.out _ HR 6 _ rfl
  have x1_0 := X1.out _ HR 0 _ rfl
  have x1_1 := X1.out _ HR 1 _ rfl
  have x1_2 := X1.out _ HR 2 _ rfl
  have x1_3 := X1.out _ HR 3 _ rfl
  have x1_4 := X1.out _ HR 4 _ rfl
  have x1_5 := X1.out _ HR 5 _ rfl
  have x1_6 := X1.out _ HR 6 _ rfl
  by_cases ho : oa = ob
  · subst ho
    have hoB : ((oa : Int) == (oa : Int)) = true := beq_self_eq_true _
    cases m1 <;> cases m2
    all_goals go_wp2_with (go_at_call 14; (first | (with_reducible refine (K1.out _ (by assumption)).mono ?_) | (with_reducible refine (K2.out _ (by assumption)).mono ?_)); rintro e w1 ⟨rfl, hb⟩; have hB := next_below (by assumption) hb; have x0_0 := X0.out _ hB 0 _ rfl; have x0_1 := X0.out _ hB 1 _ rfl; have x0_2 := X0.out _ hB 2 _ rfl; have x0_3 := X0.out _ hB 3 _ rfl; have x0_4 := X0.out _ hB 4 _ rfl; have x0_5 := X0.out _ hB 5 _ rfl; have x0_6 := X0.out _ hB 6 _ rfl; have x1_0 := X1.out _ hB 0 _ rfl; have x1_1 := X1.out _ hB 1 _ rfl; have x1_2 := X1.out _ hB 2 _ rfl; have x1_3 := X1.out _ hB 3 _ rfl; have x1_4 := X1.out _ hB 4 _ rfl; have x1_5 := X1.out _ hB 5 _ rfl; have x1_6 := X1.out _ hB 6 _ rfl; clear hb)
    all_goals go_ret
    all_goals exact ⟨by rw [HX.out]; simp, next_below HB0.out (by assumption)⟩
  · have hoB : ((oa : Int) == (ob : Int)) = false := by rw [beq_eq_false_iff_ne]; omega
    have HO := Lib.hid ho
    clear ho
    go_wp2_with fail
    go_ret
    exact ⟨by rw [HX.out]; simp [HO.out], HB0.out⟩
set_option maxHeartbeats 8000000 in
theorem pInside (o : Nat) (ho : o < 256) (s : Int) (x y : Bd) {A1 A2 : Option Addr} {n1 c1 n2 c2 : Nat} (w : World) (h1 : SlAt w w.heap.size A1 n1 c1 x.at_) (h2 : SlAt w w.heap.size A2 n2 c2 y.at_) :
    Calls Tryd.prog 37 #[.int .u8 o, .int .i64 s, .agg (bdC x A1 n1 c1), .agg (bdC y A2 n2 c2)] w fun e w' => e = .returned (.bool (insideB ordC o s x y)) ∧ Below w.heap.size w w' := by
  obtain ⟨i1, p1, l1⟩ := x
  obtain ⟨i2, p2, l2⟩ := y
  dsimp only at h1 h2
  obtain ⟨z, hz⟩ : ∃ z, z = (ordC o l1 l2).1 := ⟨_, rfl⟩
  obtain ⟨X, hX⟩ : ∃ X, X = insideB ordC o s ⟨i1, p1, l1⟩ ⟨i2, p2, l2⟩ := ⟨_, rfl⟩
  rw [← hX]
  obtain ⟨q, hq⟩ : ∃ q, (z == s) = q := ⟨_, rfl⟩
  obtain ⟨t, ht⟩ : ∃ t, (z == 0) = t := ⟨_, rfl⟩
  have HX : Hid (X = if i1 = false ∨ i2 = false then !i2 else q || (t && (p1 || !p2))) := by
    show _ = _
    have b : ∀ a b : Int, (a == b) = decide (a = b) := fun a b => by cases h : decide (a = b) <;> simp_all
    rw [hX, ← hq, ← ht, hz, b, b]
    rfl
  clear hX
  obtain ⟨w0, hw0⟩ : ∃ w0, w0 = ((w.alloc (.cells #[.bool i1, .bool p1, .slice A1 n1 c1] 29)).alloc (.cells #[.bool i2, .bool p2, .slice A2 n2 c2] 29)) := ⟨_, rfl⟩
  have HB0 : Hid (Below w.heap.size w w0) := by
    show Below _ _ _
    rw [hw0]
    exact ((Below.refl w.heap.size w).alloc (Nat.le_refl _) _).alloc (by simp; try omega) _
  have B0 : Blk w0 w.heap.size 29 #[.bool i1, .bool p1, .slice A1 n1 c1] := by
    rw [hw0]
    exact (Blk.new w 29 #[.bool i1, .bool p1, .slice A1 n1 c1]).alloc (.cells #[.bool i2, .bool p2, .slice A2 n2 c2] 29)
  have X0 : Hid (∀ W, Below w0.heap.size w0 W → ∀ k u, (#[.bool i1, .bool p1, .slice A1 n1 c1] : Array Value)[k]? = some u → W.cell? ⟨w.heap.size, k, none⟩ = some u) := fun W hW k u hk => cell_below hW ((B0.cell k).trans hk) B0.lt
  have B1 : Blk w0 (w.heap.size + 1) 29 #[.bool i2, .bool p2, .slice A2 n2 c2] := by
    rw [hw0]
    have h := Blk.new (w.alloc (.cells #[.bool i1, .bool p1, .slice A1 n1 c1] 29)) 29 #[.bool i2, .bool p2, .slice A2 n2 c2]
    simpa using h
  have X1 : Hid (∀ W, Below w0.heap.size w0 W → ∀ k u, (#[.bool i2, .bool p2, .slice A2 n2 c2] : Array Value)[k]? = some u → W.cell? ⟨(w.heap.size + 1), k, none⟩ = some u) := fun W hW k u hk => cell_below hW ((B1.cell k).trans hk) B1.lt
  have HR : Below w0.heap.size w0 w0 := Below.refl _ _
  clear B0 B1
  have K1 : Hid (∀ W, Below w0.heap.size w0 W → Calls Tryd.prog 9 #[.int .u8 o, .slice A1 n1 c1, .slice A2 n2 c2] W fun e w' => e = .returned (.tuple #[.int .i64 z, .bool (ordC o l1 l2).2]) ∧ Below W.heap.size W w') := by
    intro W hW
    have hW' := next_below HB0.out hW
    rw [hz]; exact pCompare11 o ho (h1.next hW') (h2.next hW')
  generalize (ordC o l1 l2).2 = y1 at K1
  clear hz h1 h2
  unfold bdC
  go_enter Tryd.func37, Tryd.ntmps37
  go_upto_region 1 with fail
  rw [← hw0]
  clear hw0
  have x0_0 := X0.out _ HR 0 _ rfl
  have x0_1 := X0.out _ HR 1 _ rfl
  have x0_2 := X0.out _ HR 2 _ rfl
  have x1_0 := X1.out _ HR 0 _ rfl
  have x1_1 := X1.out _ HR 1 _ rfl
  have x1_2 := X1.out _ HR 2 _ rfl
  cases i1 with
  | false =>
    cases i2
    all_goals go_wp2_with fail
    all_goals go_ret
    all_goals exact ⟨by rw [HX.out]; simp, HB0.out⟩
  | true =>
    cases i2 with
    | false =>
      go_wp2_with fail
      go_ret
      exact ⟨by rw [HX.out]; simp, HB0.out⟩
    | true =>
      cases q <;> cases t <;> cases p1 <;> cases p2
      all_goals go_wp2_with (go_at_call 9; (with_reducible refine (K1.out _ (by assumption)).mono ?_); rintro e w1 ⟨rfl, hb⟩; have hB := next_below (by assumption) hb; have x0_0 := X0.out _ hB 0 _ rfl; have x0_1 := X0.out _ hB 1 _ rfl; have x0_2 := X0.out _ hB 2 _ rfl; have x1_0 := X1.out _ hB 0 _ rfl; have x1_1 := X1.out _ hB 1 _ rfl; have x1_2 := X1.out _ hB 2 _ rfl; clear hb)
      all_goals go_ret
      all_goals exact ⟨by rw [HX.out]; simp, next_below HB0.out (by assumption)⟩
set_option maxHeartbeats 8000000 in
theorem pInner (o : Nat) (ho : o < 256) (s : Int) (x y : Bd) {A1 A2 : Option Addr} {n1 c1 n2 c2 : Nat} (w : World) (h1 : SlAt w w.heap.size A1 n1 c1 x.at_) (h2 : SlAt w w.heap.size A2 n2 c2 y.at_) :
    Calls Tryd.prog 34 #[.int .u8 o, .int .i64 s, .agg (bdC x A1 n1 c1), .agg (bdC y A2 n2 c2)] w fun e w' => e = .returned (.agg (pickA (insideB ordC o s x y) (bdC x A1 n1 c1) (bdC y A2 n2 c2))) ∧ Below w.heap.size w w' := by
  obtain ⟨i1, p1, l1⟩ := x
  obtain ⟨i2, p2, l2⟩ := y
  dsimp only at h1 h2
  obtain ⟨X, hX⟩ : ∃ X, X = insideB ordC o s ⟨i1, p1, l1⟩ ⟨i2, p2, l2⟩ := ⟨_, rfl⟩
  rw [← hX]
  obtain ⟨w0, hw0⟩ : ∃ w0, w0 = (((w.alloc (.cells #[.bool i1, .bool p1, .slice A1 n1 c1] 29)).alloc (.cells #[.bool i2, .bool p2, .slice A2 n2 c2] 29)).alloc (.cells #[.bool false, .bool false, .slice none 0 0] 29)) := ⟨_, rfl⟩
  have HB0 : Hid (Below w.heap.size w w0) := by
    show Below _ _ _
    rw [hw0]
    exact (((Below.refl w.heap.size w).alloc (Nat.le_refl _) _).alloc (by simp; try omega) _).alloc (by simp; try omega) _
  have B0 : Blk w0 w.heap.size 29 #[.bool i1, .bool p1, .slice A1 n1 c1] := by
    rw [hw0]
    exact ((Blk.new w 29 #[.bool i1, .bool p1, .slice A1 n1 c1]).alloc (.cells #[.bool i2, .bool p2, .slice A2 n2 c2] 29)).alloc (.cells #[.bool false, .bool false, .slice none 0 0] 29)
  have X0 : Hid (∀ W, Below w0.heap.size w0 W → ∀ k u, (#[.bool i1, .bool p1, .slice A1 n1 c1] : Array Value)[k]? = some u → W.cell? ⟨w.heap.size, k, none⟩ = some u) := fun W hW k u hk => cell_below hW ((B0.cell k).trans hk) B0.lt
  have B1 : Blk w0 (w.heap.size + 1) 29 #[.bool i2, .bool p2, .slice A2 n2 c2] := by
    rw [hw0]
    have h := (Blk.new (w.alloc (.cells #[.bool i1, .bool p1, .slice A1 n1 c1] 29)) 29 #[.bool i2, .bool p2, .slice A2 n2 c2]).alloc (.cells #[.bool false, .bool false, .slice none 0 0] 29)
    simpa using h
  have X1 : Hid (∀ W, Below w0.heap.size w0 W → ∀ k u, (#[.bool i2, .bool p2, .slice A2 n2 c2] : Array Value)[k]? = some u → W.cell? ⟨(w.heap.size + 1), k, none⟩ = some u) := fun W hW k u hk => cell_below hW ((B1.cell k).trans hk) B1.lt
  have B2 : Blk w0 (w.heap.size + 1 + 1) 29 #[.bool false, .bool false, .slice none 0 0] := by
    rw [hw0]
    have h := Blk.new ((w.alloc (.cells #[.bool i1, .bool p1, .slice A1 n1 c1] 29)).alloc (.cells #[.bool i2, .bool p2, .slice A2 n2 c2] 29)) 29 #[.bool false, .bool false, .slice none 0 0]
    simpa using h
  have X2 : Hid (∀ W, Below w0.heap.size w0 W → ∀ k u, (#[.bool false, .bool false, .slice none 0 0] : Array Value)[k]? = some u → W.cell? ⟨(w.heap.size + 1 + 1), k, none⟩ = some u) := fun W hW k u hk => cell_below hW ((B2.cell k).trans hk) B2.lt
  have HR : Below w0.heap.size w0 w0 := Below.refl _ _
  clear B0 B1 B2
  have K1 : Hid (∀ W, Below w0.heap.size w0 W → Calls Tryd.prog 37 #[.int .u8 o, .int .i64 s, .agg #[.bool i1, .bool p1, .slice A1 n1 c1], .agg #[.bool i2, .bool p2, .slice A2 n2 c2]] W fun e w' => e = .returned (.bool X) ∧ Below W.heap.size W w') := by
    intro W hW
    have hW' := next_below HB0.out hW
    rw [hX]; exact pInside o ho s ⟨i1, p1, l1⟩ ⟨i2, p2, l2⟩ W (h1.next hW') (h2.next hW')
  have KZ : Hid (∀ W, Below w0.heap.size w0 W → Blk W (w.heap.size + 1 + 1) 29 #[.bool false, .bool false, .slice none 0 0]) := by
    intro W hW
    refine Blk.old (w := w0) ?_ hW
    rw [hw0]
    have h := Blk.new ((w.alloc (.cells #[.bool i1, .bool p1, .slice A1 n1 c1] 29)).alloc (.cells #[.bool i2, .bool p2, .slice A2 n2 c2] 29)) 29 #[.bool false, .bool false, .slice none 0 0]
    simpa using h
  have hgt : w.heap.size ≤ w.heap.size + 1 + 1 := by omega
  clear hX h1 h2
  unfold bdC
  have hone1 : Hid ((#[.bool i1, .bool p1, .slice A1 n1 c1] : Array Value).all (·.oneCell') = true) := by show _ = _; simp [Value.oneCell']
  have hone2 : Hid ((#[.bool i2, .bool p2, .slice A2 n2 c2] : Array Value).all (·.oneCell') = true) := by show _ = _; simp [Value.oneCell']
  have hs1 : Hid ((Tryd.prog.info? 29).map (·.size) = some (#[.bool i1, .bool p1, .slice A1 n1 c1] : Array Value).size) := infoBd2
  have hs2 : Hid ((Tryd.prog.info? 29).map (·.size) = some (#[.bool i2, .bool p2, .slice A2 n2 c2] : Array Value).size) := infoBd2
  have hz1 : Hid ((#[.bool false, .bool false, .slice none 0 0] : Array Value).size = (#[.bool i1, .bool p1, .slice A1 n1 c1] : Array Value).size) := rfl
  have hz2 : Hid ((#[.bool false, .bool false, .slice none 0 0] : Array Value).size = (#[.bool i2, .bool p2, .slice A2 n2 c2] : Array Value).size) := rfl
  go_enter Tryd.func34, Tryd.ntmps34
  go_upto_region 1 with fail
  rw [← hw0]
  clear hw0
  have x0_0 := X0.out _ HR 0 _ rfl
  have x0_1 := X0.out _ HR 1 _ rfl
  have x0_2 := X0.out _ HR 2 _ rfl
  have x1_0 := X1.out _ HR 0 _ rfl
  have x1_1 := X1.out _ HR 1 _ rfl
  have x1_2 := X1.out _ HR 2 _ rfl
  cases X with
  | true =>
    go_wp2_with first | (go_at_call 37; (with_reducible refine (K1.out _ (by assumption)).mono ?_); rintro e w1 ⟨rfl, hb⟩; have hB := next_below (by assumption) hb; have x0_0 := X0.out _ hB 0 _ rfl; have x0_1 := X0.out _ hB 1 _ rfl; have x0_2 := X0.out _ hB 2 _ rfl; have x1_0 := X1.out _ hB 0 _ rfl; have x1_1 := X1.out _ hB 1 _ rfl; have x1_2 := X1.out _ hB 2 _ rfl; clear hb) | (refine wpList_store_row rfl 29 (.tmp 8) (.tmp 14) rfl (w.heap.size + 1 + 1) _ rfl rfl 29 #[.bool false, .bool false, .slice none 0 0] (KZ.out _ (by assumption)) hs1.out hz1.out hone1.out ?_)
    exact bodyPost_ret (results_cell_row Tryd.results34 _ _ (w.heap.size + 1 + 1) 29 _ (0, 0) _ rfl ((KZ.out _ (by assumption)).row _) Tryd.underlying29 rfl hs1.out) rfl ⟨rfl, below_row (next_below HB0.out (by assumption)) hgt _⟩
  | false =>
    go_wp2_with first | (go_at_call 37; (with_reducible refine (K1.out _ (by assumption)).mono ?_); rintro e w1 ⟨rfl, hb⟩; have hB := next_below (by assumption) hb; have x0_0 := X0.out _ hB 0 _ rfl; have x0_1 := X0.out _ hB 1 _ rfl; have x0_2 := X0.out _ hB 2 _ rfl; have x1_0 := X1.out _ hB 0 _ rfl; have x1_1 := X1.out _ hB 1 _ rfl; have x1_2 := X1.out _ hB 2 _ rfl; clear hb) | (refine wpList_store_row rfl 29 (.tmp 8) (.tmp 15) rfl (w.heap.size + 1 + 1) _ rfl rfl 29 #[.bool false, .bool false, .slice none 0 0] (KZ.out _ (by assumption)) hs2.out hz2.out hone2.out ?_)
    exact bodyPost_ret (results_cell_row Tryd.results34 _ _ (w.heap.size + 1 + 1) 29 _ (0, 0) _ rfl ((KZ.out _ (by assumption)).row _) Tryd.underlying29 rfl hs2.out) rfl ⟨rfl, below_row (next_below HB0.out (by assumption)) hgt _⟩
end Go.Proofs.YtjdmhbfddklhnaaDoor
