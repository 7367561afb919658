/-
  The contract of the document's answer atom (package greffierref02): an atom at a place. Conditions: the bytes are at most 5000.
-/
import Derived.Test.YtaenahilnnlbfaaDoorRefRead
import Derived.Test.YtaenahilnnlbfaaDoorReadAll
set_option linter.unusedVariables false
namespace Go.Proofs.YtaenahilnnlbfaaDoor
open Go Go.Proofs Go.RowKit Sx Oct

def RVal (w : World) (B n : Nat) (e : Ending) (w' : World) : Res (SX × Nat) → Prop
  | .err k rest => 2 ≤ k ∧ k ≤ 4 ∧ e = .returned (.agg #[.bool false, .bool false, .slice none 0 0, .slice none 0 0, .slice none 0 0, .int .i64 (n - rest.length : Nat), .int .i64 0, .int .i64 k]) ∧ Below w.heap.size w w'
  | .ok (t, nd') rest => ∃ v0 v1 v2 v3 v4, e = .returned (.agg #[v0, v1, v2, v3, v4, .int .i64 (n - rest.length : Nat), .int .i64 nd', .int .i64 0]) ∧ SIn w' (fun k => k < B ∨ w.heap.size ≤ k) t [v0, v1, v2, v3, v4] ∧ Below w.heap.size w w'

def Box8 (w : World) (b : Nat) (v0 v1 v2 v3 v4 v5 v6 v7 : Value) : Prop := w.heap[b]? = some (Obj.cells #[v0, v1, v2, v3, v4, v5, v6, v7] 55 (0, 0))
theorem Box8.all {w : World} {b : Nat} {v0 v1 v2 v3 v4 v5 v6 v7 : Value} (h : Box8 w b v0 v1 v2 v3 v4 v5 v6 v7) :
    (w.cell? ⟨b, 0, none⟩ = some v0 ∧ w.cell? ⟨b, 1, none⟩ = some v1 ∧ w.cell? ⟨b, 2, none⟩ = some v2 ∧ w.cell? ⟨b, 3, none⟩ = some v3 ∧ w.cell? ⟨b, 4, none⟩ = some v4 ∧ w.cell? ⟨b, 5, none⟩ = some v5 ∧ w.cell? ⟨b, 6, none⟩ = some v6 ∧ w.cell? ⟨b, 7, none⟩ = some v7) ∧ ∀ i, w.frozen? ⟨b, i, none⟩ = false :=
  ⟨by refine ⟨?_, ?_, ?_, ?_, ?_, ?_, ?_, ?_⟩ <;> (rw [Lib.cell_of_heap h]; rfl), fun i => by unfold Box8 at h; simp [World.frozen?, h]⟩
theorem Box8.old {w w' : World} {b : Nat} {v0 v1 v2 v3 v4 v5 v6 v7 : Value} (h : Box8 w b v0 v1 v2 v3 v4 v5 v6 v7) (hb : Below w.heap.size w w') : Box8 w' b v0 v1 v2 v3 v4 v5 v6 v7 := below_at hb h

def put8 (w : World) (b : Nat) (x0 x1 x2 x3 x4 x5 x6 x7 : Value) : World := (((put5 w b x0 x1 x2 x3 x4).setCell ⟨b, 5, none⟩ x5).setCell ⟨b, 6, none⟩ x6).setCell ⟨b, 7, none⟩ x7
theorem put8_far {w : World} {b : Nat} {x0 x1 x2 x3 x4 x5 x6 x7 : Value} (p : Addr) (hp : p.block ≠ b) : (put8 w b x0 x1 x2 x3 x4 x5 x6 x7).cell? p = w.cell? p := by
  unfold put8
  rw [World.cell?_setCell_other _ _ _ _ (fun e => hp (by rw [← e])), World.cell?_setCell_other _ _ _ _ (fun e => hp (by rw [← e])), World.cell?_setCell_other _ _ _ _ (fun e => hp (by rw [← e]))]
  exact put5_far p hp
theorem put8_below {w w' : World} {b B : Nat} (h : Below B w w') (hb : B ≤ b) (x0 x1 x2 x3 x4 x5 x6 x7 : Value) : Below B w (put8 w' b x0 x1 x2 x3 x4 x5 x6 x7) :=
  (((put5_below h hb x0 x1 x2 x3 x4).setCell (p := ⟨b, 5, none⟩) hb x5).setCell (p := ⟨b, 6, none⟩) hb x6).setCell (p := ⟨b, 7, none⟩) hb x7

def bytesRes (x : Res (List UInt8)) (nd : Nat) : Res (SX × Nat) := match x with
  | .err e r' => .err e r'
  | .ok da r' => .ok (.mk false false [] da [], nd) r'

set_option maxHeartbeats 4000000 in
set_option maxRecDepth 100000 in
theorem refAtom_plain (A : Option Addr) (n c : Nat) (p : Nat) (nd : Nat) (b : List UInt8) (B : Nat) (w : World) (hr : Reads w B 1 A n (Lib.byteCells b)) (hBw : B ≤ w.heap.size) (hn : n ≤ 5000) (hc : n ≤ c) (x : UInt8) (s : List UInt8) (hs : b.drop p = x :: s) (hx : x ≠ 91) :
    Calls Tryd.prog 41 #[.slice A n c, .int .i64 p, .int .i64 nd] w fun e w' => RVal w B n e w' (bytesRes (pBytes (x :: s)) nd) := by
  have hl : b.length = n := by have := hr.1; simpa [Lib.byteCells_length] using this
  have hsl : (x :: s).length = n - p := by rw [← hs, List.length_drop, hl]
  have hpn : p < n := by have : 0 < (x :: s).length := by simp
                         omega
  have hz1 : (w.alloc (.cells #[.bool false, .bool false, .slice none 0 0, .slice none 0 0, .slice none 0 0, .int .i64 0, .int .i64 0, .int .i64 0] 55)).heap.size = w.heap.size + 1 := by simp
  have hz2 : ((w.alloc (.cells #[.bool false, .bool false, .slice none 0 0, .slice none 0 0, .slice none 0 0, .int .i64 0, .int .i64 0, .int .i64 0] 55)).alloc (.cells #[.bool false, .bool false, .slice none 0 0, .slice none 0 0, .slice none 0 0] 25)).heap.size = w.heap.size + 1 + 1 := by simp
  have b1 := below_new w (.cells #[.bool false, .bool false, .slice none 0 0, .slice none 0 0, .slice none 0 0, .int .i64 0, .int .i64 0, .int .i64 0] 55)
  have b2 := below_new (w.alloc (.cells #[.bool false, .bool false, .slice none 0 0, .slice none 0 0, .slice none 0 0, .int .i64 0, .int .i64 0, .int .i64 0] 55)) (.cells #[.bool false, .bool false, .slice none 0 0, .slice none 0 0, .slice none 0 0] 25)
  have hb0 := b1.trans (b2.mono (by omega))
  have X1 : Box8 ((w.alloc (.cells #[.bool false, .bool false, .slice none 0 0, .slice none 0 0, .slice none 0 0, .int .i64 0, .int .i64 0, .int .i64 0] 55)).alloc (.cells #[.bool false, .bool false, .slice none 0 0, .slice none 0 0, .slice none 0 0] 25)) w.heap.size (.bool false) (.bool false) (.slice none 0 0) (.slice none 0 0) (.slice none 0 0) (.int .i64 0) (.int .i64 0) (.int .i64 0) := below_at b2 (heap_alloc_new w _)
  have X2 : Box ((w.alloc (.cells #[.bool false, .bool false, .slice none 0 0, .slice none 0 0, .slice none 0 0, .int .i64 0, .int .i64 0, .int .i64 0] 55)).alloc (.cells #[.bool false, .bool false, .slice none 0 0, .slice none 0 0, .slice none 0 0] 25)) (w.heap.size + 1) (.bool false) (.bool false) (.slice none 0 0) (.slice none 0 0) (.slice none 0 0) := by
    have := heap_alloc_new (w.alloc (.cells #[.bool false, .bool false, .slice none 0 0, .slice none 0 0, .slice none 0 0, .int .i64 0, .int .i64 0, .int .i64 0] 55)) (.cells #[.bool false, .bool false, .slice none 0 0, .slice none 0 0, .slice none 0 0] 25)
    rw [hz1] at this
    exact this
  have hr2 := hr.keep (w' := ((w.alloc (.cells #[.bool false, .bool false, .slice none 0 0, .slice none 0 0, .slice none 0 0, .int .i64 0, .int .i64 0, .int .i64 0] 55)).alloc (.cells #[.bool false, .bool false, .slice none 0 0, .slice none 0 0, .slice none 0 0] 25))) fun q hq => hb0.cell (by omega)
  obtain ⟨ad, hA, hadB, hcell⟩ := at_drop hr2 hpn hs
  have C := refBytes_any A n c p b B ((w.alloc (.cells #[.bool false, .bool false, .slice none 0 0, .slice none 0 0, .slice none 0 0, .int .i64 0, .int .i64 0, .int .i64 0] 55)).alloc (.cells #[.bool false, .bool false, .slice none 0 0, .slice none 0 0, .slice none 0 0] 25)) hr2 (by omega) (by omega) hn hc (x :: s) hs
  have hp0 : (0 : Int) ≤ p := by omega
  have hpl : (p : Int) < n := by omega
  have hne : ((x.toNat : Int) == 91) = false := by
    rw [beq_eq_false_iff_ne]
    intro e
    exact hx (UInt8.toNat_inj.1 (by show x.toNat = 91; omega))
  subst hA
  have HC := Lib.hid C
  have HB := Lib.hid hb0
  have HX := Lib.hid (And.intro X1 X2)
  clear b1 b2 hs hl hr hr2 C hb0 X1 X2
  generalize hPB : pBytes (x :: s) = PB at *
  cases PB with
  | err k rest =>
    obtain ⟨hk1, hk2, -⟩ := pBytes_kind hPB
    clear hPB
    have hk0 : ¬ ((k : Int) = 0) := by omega
    go_enter Tryd.func41, Tryd.ntmps41
    go_wp2_with fail
    refine HC.out.mono ?_
    rintro e w3 ⟨A3, c3, rfl, hb3⟩
    obtain ⟨⟨d0, d1, d2, d3, d4, d5, d6, d7⟩, dz⟩ := (HX.out.1.old hb3).all
    have dz0 := dz 0
    have dz1 := dz 1
    have dz2 := dz 2
    have dz3 := dz 3
    have dz4 := dz 4
    have dz5 := dz 5
    have dz6 := dz 6
    have dz7 := dz 7
    have HF := Lib.hid (put8_below (HB.out.trans (hb3.mono HB.out.size)) (Nat.le_refl _) (.bool false) (.bool false) (.slice none 0 0) (.slice none 0 0) (.slice none 0 0) (.int .i64 (n - rest.length : Nat)) (.int .i64 0) (.int .i64 k))
    clear dz hb3
    go_wp2_with fail
    exact bodyPost_ret (v := .agg #[.bool false, .bool false, .slice none 0 0, .slice none 0 0, .slice none 0 0, .int .i64 (n - rest.length : Nat), .int .i64 0, .int .i64 k]) (by simp [results, Tryd.results41, go_sem, d0, d1, d2, d3, d4, d5, d6, d7]) rfl ⟨hk1, hk2, rfl, HF.out⟩
  | ok da rest =>
    obtain ⟨hs1, hda⟩ := pBytes_sound hPB
    clear hPB hs1
    go_enter Tryd.func41, Tryd.ntmps41
    go_wp2_with fail
    refine HC.out.mono ?_
    rintro e w3 ⟨A3, c3, rfl, hc3, hda3, hb3⟩
    obtain ⟨⟨d0, d1, d2, d3, d4, d5, d6, d7⟩, dz⟩ := (HX.out.1.old hb3).all
    have dz0 := dz 0
    have dz1 := dz 1
    have dz2 := dz 2
    have dz3 := dz 3
    have dz4 := dz 4
    have dz5 := dz 5
    have dz6 := dz 6
    have dz7 := dz 7
    obtain ⟨⟨f0, f1, f2, f3, f4⟩, fz⟩ := (HX.out.2.old hb3).all
    have fz3 := fz 3
    have hfar : ∀ q : Addr, q.block < B → (put8 (w3.setCell ⟨w.heap.size + 1, 3, none⟩ (.slice A3 da.length c3)) w.heap.size (.bool false) (.bool false) (.slice none 0 0) (.slice A3 da.length c3) (.slice none 0 0) (.int .i64 (n - rest.length : Nat)) (.int .i64 nd) (.int .i64 0)).cell? q = w3.cell? q := fun q hq => by
      rw [put8_far q (by omega), World.cell?_setCell_other _ _ _ _ (fun e => by have h := congrArg Addr.block e; simp at h; omega)]
    have hiF : SIn (put8 (w3.setCell ⟨w.heap.size + 1, 3, none⟩ (.slice A3 da.length c3)) w.heap.size (.bool false) (.bool false) (.slice none 0 0) (.slice A3 da.length c3) (.slice none 0 0) (.int .i64 (n - rest.length : Nat)) (.int .i64 nd) (.int .i64 0)) (fun k => k < B ∨ w.heap.size ≤ k) (.mk false false [] da []) [.bool false, .bool false, .slice none 0 0, .slice A3 da.length c3, .slice none 0 0] :=
      .mk (xs := []) RIn.none_ ⟨Nat.le_refl _, by omega⟩ ((hda3.keep fun q hq => hfar q hq).more fun k hk => .inl hk) ⟨hc3, by omega⟩ RIn.none_ ⟨Nat.le_refl _, by omega⟩ rfl (fun i t hit => by simp at hit)
    have hbF := put8_below (((HB.out.trans (hb3.mono HB.out.size)).setCell (p := ⟨w.heap.size + 1, 3, none⟩) (by show w.heap.size ≤ w.heap.size + 1; omega) (.slice A3 da.length c3))) (Nat.le_refl _) (.bool false) (.bool false) (.slice none 0 0) (.slice A3 da.length c3) (.slice none 0 0) (.int .i64 (n - rest.length : Nat)) (.int .i64 nd) (.int .i64 0)
    have HF := Lib.hid (And.intro hiF hbF)
    clear dz fz hb3 hda3 hfar hiF hbF
    go_wp2_with fail
    exact bodyPost_ret (v := .agg #[.bool false, .bool false, .slice none 0 0, .slice A3 da.length c3, .slice none 0 0, .int .i64 (n - rest.length : Nat), .int .i64 nd, .int .i64 0]) (by simp [results, Tryd.results41, go_sem, d0, d1, d2, d3, d4, d5, d6, d7]) rfl ⟨_, _, _, _, _, rfl, HF.out⟩
end Go.Proofs.YtaenahilnnlbfaaDoor
