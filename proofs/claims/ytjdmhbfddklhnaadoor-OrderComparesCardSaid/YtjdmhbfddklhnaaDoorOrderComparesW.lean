/-
  The walk of the law OrderCompares over contracts of the program's package order. Conditions: those contracts.
-/
import Derived.Test.YtjdmhbfddklhnaaDoorOrdAwake
import Derived.Test.YtjdmhbfddklhnaaDoorAuto
set_option linter.unusedVariables false
set_option linter.unusedSimpArgs false
set_option maxRecDepth 100000
namespace Go.Proofs.YtjdmhbfddklhnaaDoor
open Go Go.Proofs Go.RowKit _root_.Ord11 Go.Proofs.YtjdmhbfddklhnaaDoor.Ord11
open Sch (wp_R gr_val gr_is gr_fresh gr_nil gr_on gr_onV gr_offV op_callR Rk)

set_option maxHeartbeats 16000000 in
theorem ocompares_walk {Q : World → Prop} (H : OrderOk Q) (o : Nat) (ho : o < 256) {A1 A2 A3 : Option Addr} {n1 c1 n2 c2 n3 c3 : Nat} {a b c : List UInt8} (w : World) (hQ : Q w) (r1 : Reads w w.heap.size 1 A1 n1 (Lib.byteCells a)) (k1 : n1 ≤ c1) (r2 : Reads w w.heap.size 1 A2 n2 (Lib.byteCells b)) (k2 : n2 ≤ c2) (r3 : Reads w w.heap.size 1 A3 n3 (Lib.byteCells c)) (k3 : n3 ≤ c3) :
    Calls Tryd.prog 3 #[.int .u8 o, .slice A1 n1 c1, .slice A2 n2 c2, .slice A3 n3 c3] w fun e w' => e = .returned (.bool true) ∧ Below w.heap.size w w' := by
  have HR : Below w.heap.size w w := Below.refl _ _
  have KA : Hid (∀ W, Below w.heap.size w W → Calls Tryd.prog 8 #[] W fun e w' => e = .returned (.bool true) ∧ Below W.heap.size W w') := fun W hW => awake11_any H W (H.old hQ hW)
  have HQ := Lib.hid hQ
  by_cases hbig : 200 < n1 ∨ 200 < n2 ∨ 200 < n3
  · clear r1 r2 r3
    by_cases h1 : 200 < n1
    · go_enter Tryd.func3, Tryd.ntmps3
      go_wp2_with (go_at_call 8; (with_reducible refine (KA.out _ (by assumption)).mono ?_); rintro e w1 ⟨rfl, hb⟩; have hB := next_below (by assumption) hb; clear hb)
      go_ret
      exact ⟨rfl, by assumption⟩
    · by_cases h2 : 200 < n2
      · go_enter Tryd.func3, Tryd.ntmps3
        go_wp2_with (go_at_call 8; (with_reducible refine (KA.out _ (by assumption)).mono ?_); rintro e w1 ⟨rfl, hb⟩; have hB := next_below (by assumption) hb; clear hb)
        go_ret
        exact ⟨rfl, by assumption⟩
      · have h3 : 200 < n3 := by omega
        go_enter Tryd.func3, Tryd.ntmps3
        go_wp2_with (go_at_call 8; (with_reducible refine (KA.out _ (by assumption)).mono ?_); rintro e w1 ⟨rfl, hb⟩; have hB := next_below (by assumption) hb; clear hb)
        go_ret
        exact ⟨rfl, by assumption⟩
  have h1 : ¬ 200 < n1 := by omega
  have h2 : ¬ 200 < n2 := by omega
  have h3 : ¬ 200 < n3 := by omega
  have s1 : SlAt w w.heap.size A1 n1 c1 a := ⟨r1, by omega, k1⟩
  have s2 : SlAt w w.heap.size A2 n2 c2 b := ⟨r2, by omega, k2⟩
  have s3 : SlAt w w.heap.size A3 n3 c3 c := ⟨r3, by omega, k3⟩
  obtain ⟨x, hx⟩ : ∃ x, x = (ordC o a b).1 := ⟨_, rfl⟩
  obtain ⟨z, hz⟩ : ∃ z, z = (ordC o b a).1 := ⟨_, rfl⟩
  obtain ⟨u, hu⟩ : ∃ u, u = (ordC o b c).1 := ⟨_, rfl⟩
  obtain ⟨v, hv⟩ : ∃ v, v = (ordC o a c).1 := ⟨_, rfl⟩
  obtain ⟨va, hva⟩ : ∃ v, v = isV ordC o a := ⟨_, rfl⟩
  obtain ⟨vb, hvb⟩ : ∃ v, v = isV ordC o b := ⟨_, rfl⟩
  obtain ⟨vc, hvc⟩ : ∃ v, v = isV ordC o c := ⟨_, rfl⟩
  have K1 : Hid (∀ W, Below w.heap.size w W → Calls Tryd.prog 9 #[.int .u8 o, .slice A1 n1 c1, .slice A2 n2 c2] W fun e w' => e = .returned (.tuple #[.int .i64 x, .bool (va && vb)]) ∧ Below W.heap.size W w') := by
    intro W hW
    have h := H.cmp o ho (H.old HQ.out hW) (s1.next hW) (s2.next hW)
    unfold CmpEnd at h
    rw [← hx, ordC_lawful.ok o a b, ← hva, ← hvb] at h
    exact h
  have K2 : Hid (∀ W, Below w.heap.size w W → Calls Tryd.prog 10 #[.int .u8 o, .slice A1 n1 c1, .slice A2 n2 c2] W fun e w' => e = .returned (.tuple #[.int .i64 x, .bool (va && vb)]) ∧ Below W.heap.size W w') := by
    intro W hW
    have h := cmpOk11 o ho (s1.next hW) (s2.next hW)
    unfold CmpEnd at h
    rw [← hx, ordC_lawful.ok o a b, ← hva, ← hvb] at h
    exact h
  have K3 : Hid (∀ W, Below w.heap.size w W → Calls Tryd.prog 9 #[.int .u8 o, .slice A2 n2 c2, .slice A1 n1 c1] W fun e w' => e = .returned (.tuple #[.int .i64 z, .bool (vb && va)]) ∧ Below W.heap.size W w') := by
    intro W hW
    have h := H.cmp o ho (H.old HQ.out hW) (s2.next hW) (s1.next hW)
    unfold CmpEnd at h
    rw [← hz, ordC_lawful.ok o b a, ← hva, ← hvb] at h
    exact h
  have K4 : Hid (∀ W, Below w.heap.size w W → Calls Tryd.prog 9 #[.int .u8 o, .slice A2 n2 c2, .slice A3 n3 c3] W fun e w' => e = .returned (.tuple #[.int .i64 u, .bool (vb && vc)]) ∧ Below W.heap.size W w') := by
    intro W hW
    have h := H.cmp o ho (H.old HQ.out hW) (s2.next hW) (s3.next hW)
    unfold CmpEnd at h
    rw [← hu, ordC_lawful.ok o b c, ← hvb, ← hvc] at h
    exact h
  have K5 : Hid (∀ W, Below w.heap.size w W → Calls Tryd.prog 9 #[.int .u8 o, .slice A1 n1 c1, .slice A3 n3 c3] W fun e w' => e = .returned (.tuple #[.int .i64 v, .bool (va && vc)]) ∧ Below W.heap.size W w') := by
    intro W hW
    have h := H.cmp o ho (H.old HQ.out hW) (s1.next hW) (s3.next hW)
    unfold CmpEnd at h
    rw [← hv, ordC_lawful.ok o a c, ← hva, ← hvc] at h
    exact h
  have K6 : Hid (∀ W, Below w.heap.size w W → Calls Tryd.prog 11 #[.int .u8 o, .slice A1 n1 c1] W fun e w' => e = .returned (.bool va) ∧ Below W.heap.size W w') := fun W hW => by rw [hva]; exact H.is o ho (H.old HQ.out hW) (s1.next hW)
  have K7 : Hid (∀ W, Below w.heap.size w W → Calls Tryd.prog 12 #[.int .u8 o, .slice A1 n1 c1] W fun e w' => e = .returned (.bool va) ∧ Below W.heap.size W w') := fun W hW => by rw [hva]; exact isOk11 o ho (s1.next hW)
  have hzx : z = -x := by rw [hz, hx]; exact ordC_lawful.swap o a b
  have htx : x = -1 ∨ x = 0 ∨ x = 1 := by rw [hx]; exact ordC_lawful.tri o a b
  have htu : u = -1 ∨ u = 0 ∨ u = 1 := by rw [hu]; exact ordC_lawful.tri o b c
  have htv : v = -1 ∨ v = 0 ∨ v = 1 := by rw [hv]; exact ordC_lawful.tri o a c
  have htr : va = true → vb = true → vc = true → x ≤ 0 → u ≤ 0 → v ≤ 0 := by rw [hva, hvb, hvc, hx, hu, hv]; exact ordC_lawful.trans o a b c
  subst hzx
  clear hx hz hu hv hva hvb hvc s1 s2 s3 r1 r2 r3 hbig hQ
  have f : va = true ∧ vb = true ∧ vc = true ∨ va = false ∨ vb = false ∨ vc = false := by cases va <;> cases vb <;> cases vc <;> simp
  have htvu : (va = true ∧ vb = true ∧ vc = true ∧ x ≤ 0 ∧ u ≤ 0) ∧ v ≤ 0 ∨ ¬ (va = true ∧ vb = true ∧ vc = true ∧ x ≤ 0 ∧ u ≤ 0) := by
    by_cases h : va = true ∧ vb = true ∧ vc = true ∧ x ≤ 0 ∧ u ≤ 0
    · exact .inl ⟨h, htr h.1 h.2.1 h.2.2.1 h.2.2.2.1 h.2.2.2.2⟩
    · exact .inr h
  clear f
  rcases htvu with ⟨⟨rfl, rfl, rfl, hx0, hu0⟩, hv0⟩ | hno
  · have B1 : decide (0 < x) = false := decide_eq_false (by omega)
    have B2 : decide (0 < u) = false := decide_eq_false (by omega)
    have B3 : decide (v ≤ 0) = true := decide_eq_true (by omega)
    clear htu htv
    rcases htx with rfl | rfl | rfl
    · go_enter Tryd.func3, Tryd.ntmps3
      go_wp2_with first | (go_at_call 9; (first | (with_reducible refine (K1.out _ (by assumption)).mono ?_) | (with_reducible refine (K3.out _ (by assumption)).mono ?_) | (with_reducible refine (K4.out _ (by assumption)).mono ?_) | (with_reducible refine (K5.out _ (by assumption)).mono ?_)); rintro e w1 ⟨rfl, hb⟩; have hB := next_below (by assumption) hb; clear hb) | (go_at_call 10; (with_reducible refine (K2.out _ (by assumption)).mono ?_); rintro e w1 ⟨rfl, hb⟩; have hB := next_below (by assumption) hb; clear hb) | (go_at_call 11; (with_reducible refine (K6.out _ (by assumption)).mono ?_); rintro e w1 ⟨rfl, hb⟩; have hB := next_below (by assumption) hb; clear hb) | (go_at_call 12; (with_reducible refine (K7.out _ (by assumption)).mono ?_); rintro e w1 ⟨rfl, hb⟩; have hB := next_below (by assumption) hb; clear hb) | (go_at_call 8; (with_reducible refine (KA.out _ (by assumption)).mono ?_); rintro e w1 ⟨rfl, hb⟩; have hB := next_below (by assumption) hb; clear hb)
      all_goals go_ret
      all_goals exact ⟨rfl, by assumption⟩
    · go_enter Tryd.func3, Tryd.ntmps3
      go_wp2_with first | (go_at_call 9; (first | (with_reducible refine (K1.out _ (by assumption)).mono ?_) | (with_reducible refine (K3.out _ (by assumption)).mono ?_) | (with_reducible refine (K4.out _ (by assumption)).mono ?_) | (with_reducible refine (K5.out _ (by assumption)).mono ?_)); rintro e w1 ⟨rfl, hb⟩; have hB := next_below (by assumption) hb; clear hb) | (go_at_call 10; (with_reducible refine (K2.out _ (by assumption)).mono ?_); rintro e w1 ⟨rfl, hb⟩; have hB := next_below (by assumption) hb; clear hb) | (go_at_call 11; (with_reducible refine (K6.out _ (by assumption)).mono ?_); rintro e w1 ⟨rfl, hb⟩; have hB := next_below (by assumption) hb; clear hb) | (go_at_call 12; (with_reducible refine (K7.out _ (by assumption)).mono ?_); rintro e w1 ⟨rfl, hb⟩; have hB := next_below (by assumption) hb; clear hb) | (go_at_call 8; (with_reducible refine (KA.out _ (by assumption)).mono ?_); rintro e w1 ⟨rfl, hb⟩; have hB := next_below (by assumption) hb; clear hb)
      all_goals go_ret
      all_goals exact ⟨rfl, by assumption⟩
    · omega
  · have hcase : (va = true ∧ vb = true ∧ vc = true ∧ (x = 1 ∨ x ≤ 0 ∧ 0 < u)) ∨ va = false ∨ va = true ∧ vb = false ∨ va = true ∧ vb = true ∧ vc = false := by
      cases va <;> cases vb <;> cases vc <;> simp_all <;> omega
    have hux : x ≤ 1 ∧ -1 ≤ x := by omega
    clear hno htr htu htv
    have w1 : IntKind.i64.wrap (-x) = -x := IntWalk.i64_in _ (by omega)
    have w2 : (-x != -x) = false := by simp
    have w3 : (x != x) = false := by simp
    rcases hcase with ⟨rfl, rfl, rfl, rfl | ⟨hx0, hu0⟩⟩ | rfl | ⟨rfl, rfl⟩ | ⟨rfl, rfl, rfl⟩
    · clear htx
      go_enter Tryd.func3, Tryd.ntmps3
      go_wp2_with first | (go_at_call 9; (first | (with_reducible refine (K1.out _ (by assumption)).mono ?_) | (with_reducible refine (K3.out _ (by assumption)).mono ?_) | (with_reducible refine (K4.out _ (by assumption)).mono ?_) | (with_reducible refine (K5.out _ (by assumption)).mono ?_)); rintro e w1 ⟨rfl, hb⟩; have hB := next_below (by assumption) hb; clear hb) | (go_at_call 10; (with_reducible refine (K2.out _ (by assumption)).mono ?_); rintro e w1 ⟨rfl, hb⟩; have hB := next_below (by assumption) hb; clear hb) | (go_at_call 11; (with_reducible refine (K6.out _ (by assumption)).mono ?_); rintro e w1 ⟨rfl, hb⟩; have hB := next_below (by assumption) hb; clear hb) | (go_at_call 12; (with_reducible refine (K7.out _ (by assumption)).mono ?_); rintro e w1 ⟨rfl, hb⟩; have hB := next_below (by assumption) hb; clear hb) | (go_at_call 8; (with_reducible refine (KA.out _ (by assumption)).mono ?_); rintro e w1 ⟨rfl, hb⟩; have hB := next_below (by assumption) hb; clear hb)
      all_goals go_ret
      all_goals exact ⟨rfl, by assumption⟩
    · have B1 : decide (0 < x) = false := decide_eq_false (by omega)
      have B2 : decide (0 < u) = true := decide_eq_true (by omega)
      have HX := Lib.hid htx
      clear htx
      go_enter Tryd.func3, Tryd.ntmps3
      go_wp2_with first | (go_at_call 9; (first | (with_reducible refine (K1.out _ (by assumption)).mono ?_) | (with_reducible refine (K3.out _ (by assumption)).mono ?_) | (with_reducible refine (K4.out _ (by assumption)).mono ?_) | (with_reducible refine (K5.out _ (by assumption)).mono ?_)); rintro e w1 ⟨rfl, hb⟩; have hB := next_below (by assumption) hb; clear hb) | (go_at_call 10; (with_reducible refine (K2.out _ (by assumption)).mono ?_); rintro e w1 ⟨rfl, hb⟩; have hB := next_below (by assumption) hb; clear hb) | (go_at_call 11; (with_reducible refine (K6.out _ (by assumption)).mono ?_); rintro e w1 ⟨rfl, hb⟩; have hB := next_below (by assumption) hb; clear hb) | (go_at_call 12; (with_reducible refine (K7.out _ (by assumption)).mono ?_); rintro e w1 ⟨rfl, hb⟩; have hB := next_below (by assumption) hb; clear hb) | (go_at_call 8; (with_reducible refine (KA.out _ (by assumption)).mono ?_); rintro e w1 ⟨rfl, hb⟩; have hB := next_below (by assumption) hb; clear hb)
      all_goals go_ret
      all_goals exact ⟨rfl, by assumption⟩
    · have HX := Lib.hid htx
      clear htx
      cases vb <;> cases vc
      all_goals go_enter Tryd.func3, Tryd.ntmps3
      all_goals go_wp2_with first | (go_at_call 9; (first | (with_reducible refine (K1.out _ (by assumption)).mono ?_) | (with_reducible refine (K3.out _ (by assumption)).mono ?_) | (with_reducible refine (K4.out _ (by assumption)).mono ?_) | (with_reducible refine (K5.out _ (by assumption)).mono ?_)); rintro e w1 ⟨rfl, hb⟩; have hB := next_below (by assumption) hb; clear hb) | (go_at_call 10; (with_reducible refine (K2.out _ (by assumption)).mono ?_); rintro e w1 ⟨rfl, hb⟩; have hB := next_below (by assumption) hb; clear hb) | (go_at_call 11; (with_reducible refine (K6.out _ (by assumption)).mono ?_); rintro e w1 ⟨rfl, hb⟩; have hB := next_below (by assumption) hb; clear hb) | (go_at_call 12; (with_reducible refine (K7.out _ (by assumption)).mono ?_); rintro e w1 ⟨rfl, hb⟩; have hB := next_below (by assumption) hb; clear hb) | (go_at_call 8; (with_reducible refine (KA.out _ (by assumption)).mono ?_); rintro e w1 ⟨rfl, hb⟩; have hB := next_below (by assumption) hb; clear hb)
      all_goals go_ret
      all_goals exact ⟨rfl, by assumption⟩
    · have HX := Lib.hid htx
      clear htx
      cases vc
      all_goals go_enter Tryd.func3, Tryd.ntmps3
      all_goals go_wp2_with first | (go_at_call 9; (first | (with_reducible refine (K1.out _ (by assumption)).mono ?_) | (with_reducible refine (K3.out _ (by assumption)).mono ?_) | (with_reducible refine (K4.out _ (by assumption)).mono ?_) | (with_reducible refine (K5.out _ (by assumption)).mono ?_)); rintro e w1 ⟨rfl, hb⟩; have hB := next_below (by assumption) hb; clear hb) | (go_at_call 10; (with_reducible refine (K2.out _ (by assumption)).mono ?_); rintro e w1 ⟨rfl, hb⟩; have hB := next_below (by assumption) hb; clear hb) | (go_at_call 11; (with_reducible refine (K6.out _ (by assumption)).mono ?_); rintro e w1 ⟨rfl, hb⟩; have hB := next_below (by assumption) hb; clear hb) | (go_at_call 12; (with_reducible refine (K7.out _ (by assumption)).mono ?_); rintro e w1 ⟨rfl, hb⟩; have hB := next_below (by assumption) hb; clear hb) | (go_at_call 8; (with_reducible refine (KA.out _ (by assumption)).mono ?_); rintro e w1 ⟨rfl, hb⟩; have hB := next_below (by assumption) hb; clear hb)
      all_goals go_ret
      all_goals exact ⟨rfl, by assumption⟩
    · have HX := Lib.hid htx
      clear htx
      go_enter Tryd.func3, Tryd.ntmps3
      go_wp2_with first | (go_at_call 9; (first | (with_reducible refine (K1.out _ (by assumption)).mono ?_) | (with_reducible refine (K3.out _ (by assumption)).mono ?_) | (with_reducible refine (K4.out _ (by assumption)).mono ?_) | (with_reducible refine (K5.out _ (by assumption)).mono ?_)); rintro e w1 ⟨rfl, hb⟩; have hB := next_below (by assumption) hb; clear hb) | (go_at_call 10; (with_reducible refine (K2.out _ (by assumption)).mono ?_); rintro e w1 ⟨rfl, hb⟩; have hB := next_below (by assumption) hb; clear hb) | (go_at_call 11; (with_reducible refine (K6.out _ (by assumption)).mono ?_); rintro e w1 ⟨rfl, hb⟩; have hB := next_below (by assumption) hb; clear hb) | (go_at_call 12; (with_reducible refine (K7.out _ (by assumption)).mono ?_); rintro e w1 ⟨rfl, hb⟩; have hB := next_below (by assumption) hb; clear hb) | (go_at_call 8; (with_reducible refine (KA.out _ (by assumption)).mono ?_); rintro e w1 ⟨rfl, hb⟩; have hB := next_below (by assumption) hb; clear hb)
      all_goals go_ret
      all_goals exact ⟨rfl, by assumption⟩
end Go.Proofs.YtjdmhbfddklhnaaDoor
