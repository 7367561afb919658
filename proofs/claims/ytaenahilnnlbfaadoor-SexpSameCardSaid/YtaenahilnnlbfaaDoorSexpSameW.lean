/-
  The walk of the law SexpSame. Conditions: the library's table of powers of ten holds what its text lays.
-/
import Derived.Test.YtaenahilnnlbfaaDoorTurned
import Derived.Test.YtaenahilnnlbfaaDoorSame
import Derived.Test.YtaenahilnnlbfaaDoorSexpMath
import Derived.Deep.RegionHeld3
set_option linter.unusedVariables false
namespace Go.Proofs.YtaenahilnnlbfaaDoor
open Go Go.Proofs Go.RowKit Sx

set_option maxHeartbeats 4000000 in
set_option maxRecDepth 100000 in
theorem same_walk (t t' : SX) (w : World) (S S' : Nat → Prop) (cs cs' : List Value) (hs : SIn w S t cs) (hs' : SIn w S' t' cs') (ht : Tab w) :
    Calls Tryd.prog 5 #[.agg cs.toArray, .agg cs'.toArray] w fun e w' => e = .returned (.bool true) ∧ Below w.heap.size w w' := by
  obtain ⟨S, hs, hSb⟩ : ∃ S : Nat → Prop, SIn w S t cs ∧ ∀ b, S b → b < w.heap.size := ⟨_, hs.size_, fun b h => h.2⟩
  have HSB := Lib.hid hSb
  clear hSb
  obtain ⟨l, h, hi, da, ks, A1, n1, c1, A2, n2, c2, A3, n3, c3, eT, rfl⟩ := hs.form_
  obtain ⟨l', h', hi', da', ks', A1', n1', c1', A2', n2', c2', A3', n3', c3', eT', rfl⟩ := hs'.form_
  have hb0 := (below_new w (.cells #[Value.bool l, Value.bool h, Value.slice A1 n1 c1, Value.slice A2 n2 c2, Value.slice A3 n3 c3] 25)).trans ((below_new (w.alloc (.cells #[Value.bool l, Value.bool h, Value.slice A1 n1 c1, Value.slice A2 n2 c2, Value.slice A3 n3 c3] 25)) (.cells #[Value.bool l', Value.bool h', Value.slice A1' n1' c1', Value.slice A2' n2' c2', Value.slice A3' n3' c3'] 25)).mono (by simp))
  have hX1 : ((w.alloc (.cells #[Value.bool l, Value.bool h, Value.slice A1 n1 c1, Value.slice A2 n2 c2, Value.slice A3 n3 c3] 25)).alloc (.cells #[Value.bool l', Value.bool h', Value.slice A1' n1' c1', Value.slice A2' n2' c2', Value.slice A3' n3' c3'] 25)).heap[w.heap.size]? = some (Obj.cells #[Value.bool l, Value.bool h, Value.slice A1 n1 c1, Value.slice A2 n2 c2, Value.slice A3 n3 c3] 25 (0, 0)) := below_at (below_new _ _) (heap_alloc_new w _)
  have hX2 : ((w.alloc (.cells #[Value.bool l, Value.bool h, Value.slice A1 n1 c1, Value.slice A2 n2 c2, Value.slice A3 n3 c3] 25)).alloc (.cells #[Value.bool l', Value.bool h', Value.slice A1' n1' c1', Value.slice A2' n2' c2', Value.slice A3' n3' c3'] 25)).heap[w.heap.size + 1]? = some (Obj.cells #[Value.bool l', Value.bool h', Value.slice A1' n1' c1', Value.slice A2' n2' c2', Value.slice A3' n3' c3'] 25 (0, 0)) := by
    have := heap_alloc_new (w.alloc (.cells #[Value.bool l, Value.bool h, Value.slice A1 n1 c1, Value.slice A2 n2 c2, Value.slice A3 n3 c3] 25)) (.cells #[Value.bool l', Value.bool h', Value.slice A1' n1' c1', Value.slice A2' n2' c2', Value.slice A3' n3' c3'] 25)
    have e : (w.alloc (.cells #[Value.bool l, Value.bool h, Value.slice A1 n1 c1, Value.slice A2 n2 c2, Value.slice A3 n3 c3] 25)).heap.size = w.heap.size + 1 := by simp
    rw [e] at this
    exact this
  have hs0 := hs.old hb0
  have hs0' := hs'.old hb0
  have ht0 := ht.old hb0
  have HX1 := Lib.hid hX1
  have HX2 := Lib.hid hX2
  have HS := Lib.hid (fun W hb => hs0.old (w' := W) hb)
  have HS' := Lib.hid (fun W hb => hs0'.old (w' := W) hb)
  have HT := Lib.hid (fun W hb => ht0.old (w' := W) hb)
  have C1 := Lib.hid (great_any t _ S _ 0 hs0 (by omega) (by omega))
  have C2 := Lib.hid (fun W hb => great_any t' W S' _ 0 (HS'.out W hb) (by omega) (by omega))
  have CA := Lib.hid (fun W hb => awake_any W (HT.out W hb))
  have hsz0 : ((w.alloc (.cells #[Value.bool l, Value.bool h, Value.slice A1 n1 c1, Value.slice A2 n2 c2, Value.slice A3 n3 c3] 25)).alloc (.cells #[Value.bool l', Value.bool h', Value.slice A1' n1' c1', Value.slice A2' n2' c2', Value.slice A3' n3' c3'] 25)).heap.size = w.heap.size + 2 := by simp
  clear hs hs' ht hX1 hX2 hs0 hs0' ht0 eT eT'
  go_enter Tryd.func5, Tryd.ntmps5
  go_wp2_with fail
  generalize ((w.alloc (.cells #[Value.bool l, Value.bool h, Value.slice A1 n1 c1, Value.slice A2 n2 c2, Value.slice A3 n3 c3] 25)).alloc (.cells #[Value.bool l', Value.bool h', Value.slice A1' n1' c1', Value.slice A2' n2' c2', Value.slice A3' n3' c3'] 25)) = W at *
  refine C1.out.mono ?_
  rintro e w1 ⟨b, rfl, hb1⟩
  cases b with
  | true =>
    go_wp2_with ((with_reducible refine (CA.out _ hb1).mono ?_); rintro e wA ⟨rfl, hbA⟩)
    go_ret
    exact ⟨rfl, hb0.trans ((hb1.trans (hbA.mono hb1.size)).mono (by omega))⟩
  | false =>
  obtain ⟨e0, e1, e2, e3, e4⟩ := box5b (below_at hb1 HX1.out)
  obtain ⟨e0', e1', e2', e3', e4'⟩ := box5b (below_at hb1 HX2.out)
  go_wp2_with fail
  refine (C2.out _ hb1).mono ?_
  rintro e w2 ⟨b, rfl, hb2⟩
  have hb2 := hb1.trans (hb2.mono hb1.size)
  clear e0 e1 e2 e3 e4 e0' e1' e2' e3' e4'
  cases b with
  | true =>
    go_wp2_with ((with_reducible refine (CA.out _ hb2).mono ?_); rintro e wA ⟨rfl, hbA⟩)
    go_ret
    exact ⟨rfl, hb0.trans ((hb2.trans (hbA.mono hb2.size)).mono (by omega))⟩
  | false =>
  obtain ⟨e0, e1, e2, e3, e4⟩ := box5b (below_at hb2 HX1.out)
  obtain ⟨e0', e1', e2', e3', e4'⟩ := box5b (below_at hb2 HX2.out)
  go_wp2_with fail
  -- the first clone
  have C5 := Lib.hid (cloneSoft_any t w2 S _ (HS.out _ hb2))
  clear C1 C2
  refine C5.out.mono ?_
  rintro e w3 ⟨v0, v1, v2, v3, v4, rfl, hin, hb3⟩
  clear e0 e1 e2 e3 e4 e0' e1' e2' e3' e4'
  have hb3' := hb2.trans (hb3.mono hb2.size)
  obtain ⟨xl, xh, xhi, xda, xks, B1, m1, j1, B2, m2, j2, B3, m3, j3, eZ, eE⟩ := hin.form_
  injection eE with eE0 eE; injection eE with eE1 eE; injection eE with eE2 eE; injection eE with eE3 eE; injection eE with eE4 eE
  subst eE0 eE1 eE2 eE3 eE4
  clear eE
  have X0 : Box (w3.alloc (.cells #[.bool false, .bool false, .slice none 0 0, .slice none 0 0, .slice none 0 0] 25)) w3.heap.size (.bool false) (.bool false) (.slice none 0 0) (.slice none 0 0) (.slice none 0 0) := heap_alloc_new w3 _
  obtain ⟨⟨d0, d1, d2, d3, d4⟩, dz⟩ := X0.all
  have dz0 := dz 0
  have dz1 := dz 1
  have dz2 := dz 2
  have dz3 := dz 3
  have dz4 := dz 4
  have hbx := below_new w3 (.cells #[.bool xl, .bool xh, .slice B1 m1 j1, .slice B2 m2 j2, .slice B3 m3 j3] 25)
  have hbF := hb3'.trans (hbx.mono hb3'.size)
  have HC := Lib.hid (And.intro hin (And.intro hb3 hbx))
  have HXB := Lib.hid (show Box (w3.alloc (.cells #[.bool xl, .bool xh, .slice B1 m1 j1, .slice B2 m2 j2, .slice B3 m3 j3] 25)) w3.heap.size (.bool xl) (.bool xh) (.slice B1 m1 j1) (.slice B2 m2 j2) (.slice B3 m3 j3) from heap_alloc_new w3 _)
  have HX1F := Lib.hid (below_at hbF HX1.out)
  have HX2F := Lib.hid (below_at hbF HX2.out)
  have hinP := hin.old hbx
  have HEZ := Lib.hid eZ
  clear dz X0 hin eZ hbx hb3
  go_wp2_with fail
  generalize hP : (w3.alloc (.cells #[.bool xl, .bool xh, .slice B1 m1 j1, .slice B2 m2 j2, .slice B3 m3 j3] 25)) = P at *
  have HK := Lib.hid (fun (W' : World) (hb : Below P.heap.size P W') => (by
    obtain ⟨x0, x1, x2, x3, x4⟩ := box5b (below_at hb HX1F.out)
    obtain ⟨y0, y1, y2, y3, y4⟩ := box5b (below_at hb HX2F.out)
    obtain ⟨z0, z1, z2, z3, z4⟩ := (HXB.out.old hb).all.1
    exact ⟨x0, x1, x2, x3, x4, y0, y1, y2, y3, y4, z0, z1, z2, z3, z4⟩ : W'.cell? ⟨w.heap.size, 0, none⟩ = some (Value.bool l) ∧ W'.cell? ⟨w.heap.size, 1, none⟩ = some (Value.bool h) ∧ W'.cell? ⟨w.heap.size, 2, none⟩ = some (Value.slice A1 n1 c1) ∧ W'.cell? ⟨w.heap.size, 3, none⟩ = some (Value.slice A2 n2 c2) ∧ W'.cell? ⟨w.heap.size, 4, none⟩ = some (Value.slice A3 n3 c3) ∧ W'.cell? ⟨w.heap.size + 1, 0, none⟩ = some (Value.bool l') ∧ W'.cell? ⟨w.heap.size + 1, 1, none⟩ = some (Value.bool h') ∧ W'.cell? ⟨w.heap.size + 1, 2, none⟩ = some (Value.slice A1' n1' c1') ∧ W'.cell? ⟨w.heap.size + 1, 3, none⟩ = some (Value.slice A2' n2' c2') ∧ W'.cell? ⟨w.heap.size + 1, 4, none⟩ = some (Value.slice A3' n3' c3') ∧ W'.cell? ⟨w3.heap.size, 0, none⟩ = some (Value.bool xl) ∧ W'.cell? ⟨w3.heap.size, 1, none⟩ = some (Value.bool xh) ∧ W'.cell? ⟨w3.heap.size, 2, none⟩ = some (Value.slice B1 m1 j1) ∧ W'.cell? ⟨w3.heap.size, 3, none⟩ = some (Value.slice B2 m2 j2) ∧ W'.cell? ⟨w3.heap.size, 4, none⟩ = some (Value.slice B3 m3 j3)))
  have hbd : Below P.heap.size P P.drew := (Below.refl _ _).drew
  obtain ⟨q, hq⟩ : ∃ q, q = same t t' := ⟨_, rfl⟩
  have hst : same t t = true := same_refl t
  have CS1 := fun (W' : World) (hb : Below P.heap.size P W') => sexpSame_any t t' W' S S' _ _ (HS.out _ (hbF.trans (hb.mono hbF.size))) (HS'.out _ (hbF.trans (hb.mono hbF.size)))
  have CS2 := fun (W' : World) (hb : Below P.heap.size P W') => refSame_any t t' W' S S' _ _ (HS.out _ (hbF.trans (hb.mono hbF.size))) (HS'.out _ (hbF.trans (hb.mono hbF.size)))
  have CS3 := fun (W' : World) (hb : Below P.heap.size P W') => sexpSame_any t t W' S S _ _ (HS.out _ (hbF.trans (hb.mono hbF.size))) (HS.out _ (hbF.trans (hb.mono hbF.size)))
  have CS4 := fun (W' : World) (hb : Below P.heap.size P W') => refSame_any t t W' _ S _ _ (hinP.old hb) (HS.out _ (hbF.trans (hb.mono hbF.size)))
  simp only [← hq] at CS1 CS2
  simp only [hst] at CS3 CS4
  have CS1 := Lib.hid CS1
  have CS2 := Lib.hid CS2
  have CS3 := Lib.hid CS3
  have CS4 := Lib.hid CS4
  have HINP := Lib.hid hinP
  clear hq hst hinP
  go_region_held3 (fun w' => w'.cell? ⟨w.heap.size, 0, none⟩ = some (Value.bool l) ∧ w'.cell? ⟨w.heap.size, 1, none⟩ = some (Value.bool h) ∧ w'.cell? ⟨w.heap.size, 2, none⟩ = some (Value.slice A1 n1 c1) ∧ w'.cell? ⟨w.heap.size, 3, none⟩ = some (Value.slice A2 n2 c2) ∧ w'.cell? ⟨w.heap.size, 4, none⟩ = some (Value.slice A3 n3 c3) ∧ w'.cell? ⟨w.heap.size + 1, 0, none⟩ = some (Value.bool l') ∧ w'.cell? ⟨w.heap.size + 1, 1, none⟩ = some (Value.bool h') ∧ w'.cell? ⟨w.heap.size + 1, 2, none⟩ = some (Value.slice A1' n1' c1') ∧ w'.cell? ⟨w.heap.size + 1, 3, none⟩ = some (Value.slice A2' n2' c2') ∧ w'.cell? ⟨w.heap.size + 1, 4, none⟩ = some (Value.slice A3' n3' c3') ∧ w'.cell? ⟨w3.heap.size, 0, none⟩ = some (Value.bool xl) ∧ w'.cell? ⟨w3.heap.size, 1, none⟩ = some (Value.bool xh) ∧ w'.cell? ⟨w3.heap.size, 2, none⟩ = some (Value.slice B1 m1 j1) ∧ w'.cell? ⟨w3.heap.size, 3, none⟩ = some (Value.slice B2 m2 j2) ∧ w'.cell? ⟨w3.heap.size, 4, none⟩ = some (Value.slice B3 m3 j3))
    (first | exact HK.out _ (Below.refl _ _) | exact HK.out _ hbd | exact HK.out _ hb7 | exact HK.out _ hb8 | exact HK.out _ hb9 | exact HK.out _ hb10 | go_keep)
    ((first
      | ((with_reducible refine (CS1.out _ hbd).mono ?_); rintro e w7 ⟨rfl, hb7⟩; have hb7 := hbd.trans (hb7.mono hbd.size))
      | ((with_reducible refine (CS2.out _ hb7).mono ?_); rintro e w8 ⟨rfl, hb8⟩; have hb8 := hb7.trans (hb8.mono hb7.size))
      | ((with_reducible refine (CS3.out _ hb8).mono ?_); rintro e w9 ⟨rfl, hb9⟩; have hb9 := hb8.trans (hb9.mono hb8.size))
      | ((with_reducible refine (CS4.out _ hb9).mono ?_); rintro e w10 ⟨rfl, hb10⟩; have hb10 := hb9.trans (hb10.mono hb9.size))))
  all_goals
    clear CS1 CS2 CS3 CS4 d0 d1 d2 d3 d4 dz0 dz1 dz2 dz3 dz4
    obtain ⟨x0, x1, x2, x3, x4, y0, y1, y2, y3, y4, z0, z1, z2, z3, z4⟩ := HK.out _ hb10
    have hw10 := hbF.trans (hb10.mono hbF.size)
    go_wp2_with fail
    refine (cloneSoft_any t w10 S _ (HS.out _ hw10)).mono ?_
    rintro e w11 ⟨v0, v1, v2, v3, v4, rfl, hind, hb11⟩
    clear x0 x1 x2 x3 x4 y0 y1 y2 y3 y4 z0 z1 z2 z3 z4
    obtain ⟨yl, yh, yhi, yda, yks, F1, o1, i1, F2, o2, i2, F3, o3, i3, eZ, eE⟩ := hind.form_
    injection eE with eE0 eE; injection eE with eE1 eE; injection eE with eE2 eE; injection eE with eE3 eE; injection eE with eE4 eE
    subst eE0 eE1 eE2 eE3 eE4
    clear eE eZ
    have X0 : Box (w11.alloc (.cells #[.bool false, .bool false, .slice none 0 0, .slice none 0 0, .slice none 0 0] 25)) w11.heap.size (.bool false) (.bool false) (.slice none 0 0) (.slice none 0 0) (.slice none 0 0) := heap_alloc_new w11 _
    obtain ⟨⟨d0, d1, d2, d3, d4⟩, dz⟩ := X0.all
    have dz0 := dz 0
    have dz1 := dz 1
    have dz2 := dz 2
    have dz3 := dz 3
    have dz4 := dz 4
    have hby := below_new w11 (.cells #[.bool yl, .bool yh, .slice F1 o1 i1, .slice F2 o2 i2, .slice F3 o3 i3] 25)
    have HXD := Lib.hid (show Box (w11.alloc (.cells #[.bool yl, .bool yh, .slice F1 o1 i1, .slice F2 o2 i2, .slice F3 o3 i3] 25)) w11.heap.size (.bool yl) (.bool yh) (.slice F1 o1 i1) (.slice F2 o2 i2) (.slice F3 o3 i3) from heap_alloc_new w11 _)
    have hbPQ := hb10.trans ((hb11.trans (hby.mono hb11.size)).mono hb10.size)
    have hzP : P.heap.size = w3.heap.size + 1 := by rw [← hP]; simp
    have hz10 := hb10.size
    have hz11 := hb11.size
    have HIND := Lib.hid ((hind.old hby).more (S' := fun b => w3.heap.size ≤ b) fun b hb => by have := hb.1; omega)
    have HDD := Lib.hid (HK.out _ hbPQ)
    have HXC := Lib.hid (HXB.out.old hbPQ)
    have hbwQ := hbF.trans (hbPQ.mono hbF.size)
    clear dz X0 hind hb11 hby hP
    go_wp2_with fail
    generalize (w11.alloc (.cells #[.bool yl, .bool yh, .slice F1 o1 i1, .slice F2 o2 i2, .slice F3 o3 i3] 25)) = Q at *
    clear d0 d1 d2 d3 d4 dz0 dz1 dz2 dz3 dz4
    have hb3Q : Below w3.heap.size w3 Q := HC.out.2.2.trans (hbPQ.mono (by omega))
    have hzN := HC.out.2.1.size
    have hcQ : SIn Q (fun b => w2.heap.size ≤ b ∧ soft Q b ∧ b < w3.heap.size) (.mk xl xh xhi xda xks) [.bool xl, .bool xh, .slice B1 m1 j1, .slice B2 m2 j2, .slice B3 m3 j3] := by
      have := HC.out.1.size_
      rw [HEZ.out] at this
      exact (this.old hb3Q).more fun b hb => ⟨hb.1.1, hb.1.2.old hb3Q, hb.2⟩
    have HCQ := Lib.hid hcQ
    obtain ⟨_, _, r1, r2, g1, g2, hkl, b11, b12, b21, b22, b31, b32⟩ := hcQ.inv
    have HR1 := Lib.hid r1
    have HR2 := Lib.hid r2
    have HKL := Lib.hid hkl
    clear hcQ r1 r2 g1 g2 hkl
    obtain ⟨⟨z0, z1, z2, z3, z4⟩, -⟩ := HXC.out.all
    have Z2 := Lib.hid z2
    have Z3 := Lib.hid z3
    have Z4 := Lib.hid z4
    clear z0 z1 z2 z3 z4
    have HTU := Lib.hid (Turned.refl w2.heap.size w3.heap.size Q)
    go_loopw [7] (fun i wr => ∃ k : Nat, k ≤ m2 ∧ i = .int .i64 k ∧ Hid (Turned w2.heap.size w3.heap.size Q wr)) (fun i _ => m2 - (intOf i).toNat)
    case atStart => exact ⟨0, Nat.zero_le _, rfl, HTU.out⟩
    case round =>
      obtain ⟨k, hkn, rfl, hT⟩ := hrel
      have q3 := hT.out.cell (p := ⟨w3.heap.size, 3, none⟩) (.inr (Nat.le_refl _)) Z3.out
      by_cases hlt : k < m2
      · obtain ⟨ad, y, rfl, hy, hf, hn0, hn1⟩ := hT.out.byte HR2.out hlt
        have hlt' : (k : Int) < m2 := by omega
        have hS := Lib.hid (hT.out.step hn0 hn1 hy (x := .int .u8 (IntKind.u8.wrap (y + 1))) (.inl ⟨y, _, rfl, rfl⟩))
        go_wp2_with fail
        exact ⟨⟨k + 1, by omega, by go_num, hS.out⟩, by simp [intOf]; omega⟩
      · obtain rfl : k = m2 := by omega
        have HT2 := Lib.hid hT.out
        clear hT
        go_wp2_with fail
        clear q3
        go_loopw [8] (fun i wr => ∃ k2 : Nat, k2 ≤ m1 ∧ i = .int .i64 k2 ∧ Hid (Turned w2.heap.size w3.heap.size Q wr)) (fun i _ => m1 - (intOf i).toNat)
        case atStart => exact ⟨0, Nat.zero_le _, rfl, HT2.out⟩
        case round =>
          obtain ⟨k2, hkn2, rfl, hT⟩ := hrel
          clear HT2
          have q2 := hT.out.cell (p := ⟨w3.heap.size, 2, none⟩) (.inr (Nat.le_refl _)) Z2.out
          by_cases hlt2 : k2 < m1
          · obtain ⟨ad, y, rfl, hy, hf, hn0, hn1⟩ := hT.out.byte HR1.out hlt2
            have hlt2' : (k2 : Int) < m1 := by omega
            have hS := Lib.hid (hT.out.step hn0 hn1 hy (x := .int .u8 (IntKind.u8.wrap (y + 1))) (.inl ⟨y, _, rfl, rfl⟩))
            go_wp2_with fail
            exact ⟨⟨k2 + 1, by omega, by go_num, hS.out⟩, by simp [intOf]; omega⟩
          · obtain rfl : k2 = m1 := by omega
            have HT3 := Lib.hid hT.out
            clear hT
            go_wp2_with fail
            clear q2
            go_loopw [9] (fun i wr => ∃ k3 : Nat, k3 ≤ m3 ∧ i = .int .i64 k3 ∧ Hid (Turned w2.heap.size w3.heap.size Q wr)) (fun i _ => m3 - (intOf i).toNat)
            case atStart => exact ⟨0, Nat.zero_le _, rfl, HT3.out⟩
            case round =>
              obtain ⟨k3, hkn3, rfl, hT⟩ := hrel
              clear HT3
              have q4 := hT.out.cell (p := ⟨w3.heap.size, 4, none⟩) (.inr (Nat.le_refl _)) Z4.out
              by_cases hlt3 : k3 < m3
              · obtain ⟨ad, u0, u1, u2, u3, u4, tk, rfl, ⟨hs0, hs1, hs2⟩, hks, hmem, hink, c0, c1, c2, c3, c4⟩ := HCQ.out.kid hlt3
                obtain ⟨kl, kh, khi, kda, kks, G1, a1, b1, G2, a2, b2, G3, a3, b3, eT, eE⟩ := hink.form_
                injection eE with eE0 eE; injection eE with eE1 eE; injection eE with eE2 eE; injection eE with eE3 eE; injection eE with eE4 eE
                subst eE0 eE1 eE2 eE3 eE4 eT
                clear eE
                have hlt3' : (k3 : Int) < m3 := by omega
                obtain ⟨_, _, _, rk2, _, _, _, _, _, kb21, kb22, _, _⟩ := hink.inv
                obtain ⟨hb, hcb⟩ := (hT.out.2.2.2 _ _ c1).bool
                have hbk : (ad.add (k3 * 5)).block = ad.block := block_of_add _ _
                have hfz : wr.frozen? ⟨(ad.add (k3 * 5)).block, (ad.add (k3 * 5)).off + 1, none⟩ = false := by rw [hbk]; exact (hT.out.2.2.1 _ hs1).2 _
                have hS := Lib.hid (hT.out.step (p := ⟨(ad.add (k3 * 5)).block, (ad.add (k3 * 5)).off + 1, none⟩) (by rw [hbk]; exact hs0) (by rw [hbk]; exact hs2) hcb (x := .bool (!hb)) (.inr (.inl ⟨hb, _, rfl, rfl⟩)))
                have RD := Lib.hid rk2
                have D3 := Lib.hid c3
                have hbk0 := Lib.hid hbk
                clear hks hmem hink c0 c1 c2 c3 c4 rk2 hbk
                go_wp2_with fail
                go_region
                all_goals
                  go_wp2_with fail
                  clear q4 hcb hfz hlt3'
                  go_loopw [10] (fun i wr => ∃ k4 : Nat, k4 ≤ a2 ∧ i = .int .i64 k4 ∧ Hid (Turned w2.heap.size w3.heap.size Q wr)) (fun i _ => a2 - (intOf i).toNat)
                  case atStart => exact ⟨0, Nat.zero_le _, rfl, hS.out.drew⟩
                  case round =>
                    obtain ⟨k4, hkn4, rfl, hT'⟩ := hrel
                    clear hS hT
                    have q4 := hT'.out.cell (p := ⟨w3.heap.size, 4, none⟩) (.inr (Nat.le_refl _)) Z4.out
                    have q5 := (hT'.out.2.2.2 _ _ D3.out).slice
                    have hlt3' : (k3 : Int) < m3 := by omega
                    by_cases hlt4 : k4 < a2
                    · obtain ⟨ad4, y, rfl, hy, hf, hn0, hn1⟩ := hT'.out.byte (RD.out.more (S' := fun b => w2.heap.size ≤ b ∧ soft Q b ∧ b < w3.heap.size) fun b hb => hb) hlt4
                      have hlt4' : (k4 : Int) < a2 := by omega
                      have hS := Lib.hid (hT'.out.step hn0 hn1 hy (x := .int .u8 (IntKind.u8.wrap (y + 1))) (.inl ⟨y, _, rfl, rfl⟩))
                      go_wp2_with fail
                      exact ⟨⟨k4 + 1, by omega, by go_num, hS.out⟩, by simp [intOf]; omega⟩
                    · obtain rfl : k4 = a2 := by omega
                      go_wp2_with fail
                      exact ⟨⟨k3 + 1, by omega, by go_num, hT'.out⟩, by simp [intOf]; omega⟩
              · obtain rfl : k3 = m3 := by omega
                have HT4 := Lib.hid hT.out
                clear hT
                have hwz := HC.out.2.1
                have hwT := hbwQ.trans (HT4.out.1.mono (show W.heap.size ≤ w2.heap.size by have := hb2.size; omega))
                obtain ⟨x0, x1, x2, x3, x4, -⟩ := HDD.out
                have hlA : w.heap.size < w2.heap.size := by have := hb2.size; omega
                have a0 := HT4.out.cell (p := ⟨w.heap.size, 0, none⟩) (.inl hlA) x0
                have a1 := HT4.out.cell (p := ⟨w.heap.size, 1, none⟩) (.inl hlA) x1
                have a2 := HT4.out.cell (p := ⟨w.heap.size, 2, none⟩) (.inl hlA) x2
                have a3 := HT4.out.cell (p := ⟨w.heap.size, 3, none⟩) (.inl hlA) x3
                have a4 := HT4.out.cell (p := ⟨w.heap.size, 4, none⟩) (.inl hlA) x4
                obtain ⟨⟨y0, y1, y2, y3, y4⟩, -⟩ := HXD.out.all
                have hlD : w3.heap.size ≤ w11.heap.size := by omega
                have b0 := HT4.out.cell (p := ⟨w11.heap.size, 0, none⟩) (.inr hlD) y0
                have b1 := HT4.out.cell (p := ⟨w11.heap.size, 1, none⟩) (.inr hlD) y1
                have b2 := HT4.out.cell (p := ⟨w11.heap.size, 2, none⟩) (.inr hlD) y2
                have b3 := HT4.out.cell (p := ⟨w11.heap.size, 3, none⟩) (.inr hlD) y3
                have b4 := HT4.out.cell (p := ⟨w11.heap.size, 4, none⟩) (.inr hlD) y4
                have sA := HT4.out.sin (HS.out _ hbwQ) (fun b hb => .inl (by have := HSB.out b hb; omega))
                have sD := HT4.out.sin HIND.out (fun b hb => .inr hb)
                have hst : same t t = true := same_refl t
                have CF := refSame_any t t _ _ _ _ _ sA sD
                rw [hst] at CF
                have CF := Lib.hid CF
                clear hst sA sD x0 x1 x2 x3 x4 y0 y1 y2 y3 y4 hwz
                go_wp2_with fail
                refine CF.out.mono ?_
                rintro e w20 ⟨rfl, hb20⟩
                have hw20 := hwT.trans (hb20.mono hwT.size)
                go_wp2_with ((with_reducible refine (CA.out _ hw20).mono ?_); rintro e wA ⟨rfl, hbA⟩)
                go_ret
                exact ⟨rfl, hb0.trans ((hw20.trans (hbA.mono hw20.size)).mono (by omega))⟩
end Go.Proofs.YtaenahilnnlbfaaDoor
