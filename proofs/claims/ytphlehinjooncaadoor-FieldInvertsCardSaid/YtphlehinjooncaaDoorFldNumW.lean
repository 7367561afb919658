/-
  The walk of the law FieldNumbers. Condition: the prime's limbs stand in their variable.
-/
import Derived.Test.YtphlehinjooncaaDoorFldTab
import Derived.Deep.RegionHeld3
set_option linter.unusedVariables false
set_option linter.unusedSimpArgs false
namespace Go.Proofs.YtphlehinjooncaaDoor
open Go Go.Proofs Go.RowKit F5

theorem same_t (n m : Nat) (hn : n < P) (h : n = m) (w : World) :
    Calls Tryd.prog 13 #[elemV n, elemV m] w fun e w' => e = .returned (.bool true) ∧ Below w.heap.size w w' := by
  subst h
  refine (same_e n n hn hn w).mono fun e w' ⟨h1, h2⟩ => ⟨by rw [h1]; simp, h2⟩

/-- Two elements, stored into new blocks. -/
theorem two_stored (w : World) (R1 R2 z : Array Value) (T : TypeId) : Blk ((((w.alloc (.cells z T)).alloc (.cells z T)).setRow w.heap.size R1).setRow (w.heap.size + 1) R2) w.heap.size T R1 ∧
    Blk ((((w.alloc (.cells z T)).alloc (.cells z T)).setRow w.heap.size R1).setRow (w.heap.size + 1) R2) (w.heap.size + 1) T R2 ∧
    Below w.heap.size w ((((w.alloc (.cells z T)).alloc (.cells z T)).setRow w.heap.size R1).setRow (w.heap.size + 1) R2) ∧
    w.heap.size + 1 < ((((w.alloc (.cells z T)).alloc (.cells z T)).setRow w.heap.size R1).setRow (w.heap.size + 1) R2).heap.size := by
  have b1 : Blk ((w.alloc (.cells z T)).alloc (.cells z T)) w.heap.size T z := (Blk.new w T z).alloc _
  have b2 : Blk ((w.alloc (.cells z T)).alloc (.cells z T)) (w.heap.size + 1) T z := by
    have := Blk.new (w.alloc (.cells z T)) T z
    rwa [show (w.alloc (.cells z T)).heap.size = w.heap.size + 1 by simp] at this
  have hb : Below w.heap.size w ((w.alloc (.cells z T)).alloc (.cells z T)) := ((Below.refl _ _).alloc (Nat.le_refl _) _).alloc (by simp) _
  exact ⟨(b1.row R1).rowFar (by omega) R2, (b2.rowFar (by omega) R1).row R2, below_row (below_row hb (Nat.le_refl _) _) (by omega) _, by simp⟩

theorem two_new (w : World) (z : Array Value) (T : TypeId) : Blk ((w.alloc (.cells z T)).alloc (.cells z T)) w.heap.size T z ∧ Blk ((w.alloc (.cells z T)).alloc (.cells z T)) (w.heap.size + 1) T z := by
  refine ⟨(Blk.new w T z).alloc _, ?_⟩
  have := Blk.new (w.alloc (.cells z T)) T z
  rwa [show (w.alloc (.cells z T)).heap.size = w.heap.size + 1 by simp] at this

set_option maxHeartbeats 8000000 in
set_option maxRecDepth 100000 in
theorem numbers_walk (a b : Nat) (ha : a < 4294967296) (hb : b < 4294967296) (w : World) (hP : PrimeAt w) :
    Calls Tryd.prog 7 #[.int .u32 (a : Int), .int .u32 (b : Int)] w fun e w' => e = .returned (.bool true) ∧ Below w.heap.size w w' := by
  have HP := Lib.hid hP
  have ca : IntKind.u64.wrap (a : Int) = (a : Int) := by rw [IntKind.wrap_u64]; omega
  have cb : IntKind.u64.wrap (b : Int) = (b : Int) := by rw [IntKind.wrap_u64]; omega
  have hab : a * b ≤ 4294967295 * 4294967295 := Nat.mul_le_mul (by omega) (by omega)
  obtain ⟨s, hs⟩ := named (a + b)
  obtain ⟨p, hp⟩ := named (a * b)
  have cs := wrap_sum a b s (by rw [hs.out]; unfold M; omega)
  have cp := wrap_mul a b p (by rw [hp.out]; unfold M; omega)
  have HAP : Hid (a < P) := Lib.hid (by unfold P; omega)
  have HBP : Hid (b < P) := Lib.hid (by unfold P; omega)
  have HSP : Hid (s < P) := Lib.hid (by rw [hs.out]; unfold P; omega)
  have HPP : Hid (p < P) := Lib.hid (by rw [hp.out]; unfold P; omega)
  have HAM : Hid (a < M) := Lib.hid (by unfold M; omega)
  have HBM : Hid (b < M) := Lib.hid (by unfold M; omega)
  have HSM : Hid (s < M) := Lib.hid (by rw [hs.out]; unfold M; omega)
  have HPM : Hid (p < M) := Lib.hid (by rw [hp.out]; unfold M; omega)
  have HA := Lib.hid ha
  have HB := Lib.hid hb
  clear hP hab ha hb
  go_enter Tryd.func7, Tryd.ntmps7
  go_wp2_with fail
  refine (of_any a HAM.out _).mono ?_
  rintro e w1 ⟨rfl, hb1⟩
  have H1 := Lib.hid hb1
  clear hb1
  go_wp2_with fail
  refine (of_any b HBM.out _).mono ?_
  rintro e w2 ⟨rfl, hb2⟩
  have H2 := Lib.hid (H1.out.trans (hb2.mono H1.out.size))
  clear hb2
  obtain ⟨x1, x2, hbW, hsz⟩ := two_stored w2 (limA a) (limA b) #[.int .u64 0, .int .u64 0, .int .u64 0, .int .u64 0] 28
  unfold elemV
  have X1 := Lib.hid x1
  have X2 := Lib.hid x2
  have HW := Lib.hid (H2.out.trans (hbW.mono H2.out.size))
  have hz4 : ∀ n, (#[.int .u64 0, .int .u64 0, .int .u64 0, .int .u64 0] : Array Value).size = (limA n).size := fun n => by rw [limA_size]; rfl
  have HZ := Lib.hid hz4
  obtain ⟨z1, z2⟩ := two_new w2 #[.int .u64 0, .int .u64 0, .int .u64 0, .int .u64 0] 28
  have Z1 := Lib.hid z1
  have Z2 := Lib.hid (z2.rowFar (g' := w2.heap.size) (by omega) (limA a))
  clear x1 x2 hbW hz4 z1 z2
  go_wp2_with (first | (refine wpList_store_row rfl 28 (.tmp 5) (.tmp 10) rfl w2.heap.size (limA a) rfl rfl 28 _ Z1.out (limA_infoE _) (HZ.out _) (limA_one _) ?_) |
    (refine wpList_store_row rfl 28 (.tmp 6) (.tmp 13) rfl (w2.heap.size + 1) (limA b) rfl rfl 28 _ Z2.out (limA_infoE _) (HZ.out _) (limA_one _) ?_) |
    (refine wpList_load_row rfl 28 (.tmp 5) rfl w2.heap.size rfl 28 (limA a) (0, 0) _ X1.out Tryd.underlying28 rfl (limA_infoE _) ?_) |
    (refine wpList_load_row rfl 28 (.tmp 6) rfl (w2.heap.size + 1) rfl 28 (limA b) (0, 0) _ X2.out Tryd.underlying28 rfl (limA_infoE _) ?_))
  generalize (((w2.alloc (.cells #[.int .u64 0, .int .u64 0, .int .u64 0, .int .u64 0] 28)).alloc (.cells #[.int .u64 0, .int .u64 0, .int .u64 0, .int .u64 0] 28)).setRow w2.heap.size (limA a)).setRow (w2.heap.size + 1) (limA b) = W at *
  refine (add_e a b HAP.out HBP.out _ (HP.out.old HW.out)).mono ?_
  rintro e w3 ⟨rfl, hb3⟩
  rw [← hs.out, Nat.mod_eq_of_lt HSP.out]
  have H3 := Lib.hid hb3
  clear hb3
  go_wp2_with fail
  refine (of_any s HSM.out _).mono ?_
  rintro e w4 ⟨rfl, hb4⟩
  have H4 := Lib.hid (H3.out.trans (hb4.mono H3.out.size))
  clear hb4
  go_wp2_with fail
  refine (same_t s s HSP.out rfl _).mono ?_
  rintro e w5 ⟨rfl, hb5⟩
  have H5 := Lib.hid (H4.out.trans (hb5.mono H4.out.size))
  have X15 := Lib.hid (X1.out.old H5.out)
  have X25 := Lib.hid (X2.out.old H5.out)
  clear hb5
  go_wp2_with (first |
    (refine wpList_load_lim (by rfl) 28 (.tmp 5) rfl w2.heap.size rfl 28 (limA a) _ X15.out Tryd.underlying28 rfl (limA_infoE _) ?_) |
    (refine wpList_load_lim (by rfl) 28 (.tmp 6) rfl (w2.heap.size + 1) rfl 28 (limA b) _ X25.out Tryd.underlying28 rfl (limA_infoE _) ?_))
  refine (mul_e a b HAP.out HBP.out _ (HP.out.old (HW.out.trans (H5.out.mono HW.out.size)))).mono ?_
  rintro e w6 ⟨rfl, hb6⟩
  rw [← hp.out, Nat.mod_eq_of_lt HPP.out]
  have H6 := Lib.hid (H5.out.trans (hb6.mono H5.out.size))
  clear hb6
  go_wp2_with fail
  refine (of_any p HPM.out _).mono ?_
  rintro e w7 ⟨rfl, hb7⟩
  have H7 := Lib.hid (H6.out.trans (hb7.mono H6.out.size))
  clear hb7
  go_wp2_with fail
  refine (same_t p p HPP.out rfl _).mono ?_
  rintro e w8 ⟨rfl, hb8⟩
  have H8 := Lib.hid (H7.out.trans (hb8.mono H7.out.size))
  have X18 := Lib.hid (X1.out.old H8.out)
  have X28 := Lib.hid (X2.out.old H8.out)
  clear hb8
  go_wp2_with (first |
    (refine wpList_load_lim (by rfl) 28 (.tmp 5) rfl w2.heap.size rfl 28 (limA a) _ X18.out Tryd.underlying28 rfl (limA_infoE _) ?_) |
    (refine wpList_load_lim (by rfl) 28 (.tmp 6) rfl (w2.heap.size + 1) rfl 28 (limA b) _ X28.out Tryd.underlying28 rfl (limA_infoE _) ?_))
  refine (sub_e a b HAP.out HBP.out _ (HP.out.old (HW.out.trans (H8.out.mono HW.out.size)))).mono ?_
  rintro e w9 ⟨rfl, hb9⟩
  have H9 := Lib.hid (HW.out.trans ((H8.out.trans (hb9.mono H8.out.size)).mono HW.out.size))
  clear hb9
  unfold elemV
  have hN := Blk.new w9 28 (limA ((a + P - b) % P))
  have N9 := Lib.hid hN
  have H10 : Hid (Below w.heap.size w (w9.alloc (.cells (limA ((a + P - b) % P)) 28))) := Lib.hid (H9.out.alloc H9.out.size _)
  clear hN
  by_cases hge : b ≤ a
  · have hd : decide (b ≤ a) = true := by simpa using hge
    go_wp2_with (first |
      (refine wpList_store_row rfl 28 (.tmp 7) (.tmp 40) rfl w9.heap.size (limA ((a + P - b) % P)) rfl rfl 28 _ (heap_alloc_new w9 _) (limA_infoE _) (HZ.out _) (limA_one _) ?_; rw [setRow_alloc1]))
    obtain ⟨d, hd0⟩ := named (a - b)
    have hde : (a + P - b) % P = d := by
      rw [show a + P - b = (a - b) + P by omega, ← hd0.out, Nat.add_mod_right, Nat.mod_eq_of_lt (by have := HAP.out; rw [hd0.out]; omega)]
    have hsub : IntKind.u32.wrap ((a : Int) - (b : Int)) = (d : Int) := by rw [IntKind.wrap_u32, hd0.out]; have := HA.out; omega
    have hcv : IntKind.u64.wrap (d : Int) = (d : Int) := by rw [IntKind.wrap_u64, hd0.out]; have := HA.out; omega
    have hdM : Hid (d < M) := Lib.hid (by have := HAM.out; rw [hd0.out]; omega)
    have hdP : Hid (d < P) := Lib.hid (by have := HAP.out; rw [hd0.out]; omega)
    rw [hde] at N9 H10 ⊢
    clear hde
    generalize w9.alloc (.cells (limA d) 28) = W at *
    obtain ⟨r0, r1, r2, r3, hr⟩ := limA_four d
    have HK : Hid (∀ W', Below W.heap.size W W' → W'.cell? ⟨w9.heap.size, 0, none⟩ = some (.int .u64 (r0 : Int)) ∧ W'.cell? ⟨w9.heap.size, 1, none⟩ = some (.int .u64 (r1 : Int)) ∧ W'.cell? ⟨w9.heap.size, 2, none⟩ = some (.int .u64 (r2 : Int)) ∧ W'.cell? ⟨w9.heap.size, 3, none⟩ = some (.int .u64 (r3 : Int))) := Lib.hid fun W' hb => by
      have hB := N9.out.old hb
      rw [hr] at hB
      exact ⟨hB.cell 0, hB.cell 1, hB.cell 2, hB.cell 3⟩
    have hbd : Below W.heap.size W W.drew := (Below.refl _ _).drew
    have CS := Lib.hid (fun W' => same_t d d hdP.out rfl W')
    unfold elemV at CS
    rw [hr] at CS
    clear hge
    go_region_held3 (fun w' => w'.cell? ⟨w9.heap.size, 0, none⟩ = some (.int .u64 (r0 : Int)) ∧ w'.cell? ⟨w9.heap.size, 1, none⟩ = some (.int .u64 (r1 : Int)) ∧ w'.cell? ⟨w9.heap.size, 2, none⟩ = some (.int .u64 (r2 : Int)) ∧ w'.cell? ⟨w9.heap.size, 3, none⟩ = some (.int .u64 (r3 : Int)))
      (first | exact HK.out _ (Below.refl _ _) | exact HK.out _ hbd | exact HK.out _ hb11 | exact HK.out _ hb12 | exact HK.out _ hb13 | go_keep)
      ((first
        | ((with_reducible refine (of_any d hdM.out _).mono ?_); rintro e w11 ⟨rfl, hb11⟩; unfold elemV; rw [hr]; have hb11 := hbd.trans (hb11.mono hbd.size))
        | ((with_reducible refine (CS.out _).mono ?_); rintro e w12 ⟨rfl, hb12⟩; have hb12 := hb11.trans (hb12.mono hb11.size))
        | ((with_reducible refine (awake_any _ (HP.out.old (H10.out.trans (hb12.mono H10.out.size)))).mono ?_); rintro e w13 ⟨rfl, hb13⟩; have hb13 := hb12.trans (hb13.mono hb12.size))))
    all_goals
      go_wp2
      go_ret
      exact ⟨rfl, H10.out.trans (hb13.mono H10.out.size)⟩
  · have hd : decide (b ≤ a) = false := by simpa using hge
    go_wp2_with (first |
      (refine wpList_store_row rfl 28 (.tmp 7) (.tmp 40) rfl w9.heap.size (limA ((a + P - b) % P)) rfl rfl 28 _ (heap_alloc_new w9 _) (limA_infoE _) (HZ.out _) (limA_one _) ?_; rw [setRow_alloc1]))
    obtain ⟨d, hd0⟩ := named (b - a)
    have hde : (a + P - b) % P = P - d := by
      rw [show a + P - b = P - d by rw [hd0.out]; have := HBP.out; omega, Nat.mod_eq_of_lt (by rw [hd0.out]; have := HBP.out; omega)]
    have hsub : IntKind.u32.wrap ((b : Int) - (a : Int)) = (d : Int) := by rw [IntKind.wrap_u32, hd0.out]; have := HB.out; omega
    have hcv : IntKind.u64.wrap (d : Int) = (d : Int) := by rw [IntKind.wrap_u64, hd0.out]; have := HB.out; omega
    have hdM : Hid (d < M) := Lib.hid (by have := HBM.out; rw [hd0.out]; omega)
    have hdP : Hid (d < P) := Lib.hid (by have := HBP.out; rw [hd0.out]; omega)
    have hzP : Hid (P - d < P) := Lib.hid (by have := HBP.out; rw [hd0.out]; omega)
    have hsm : Hid ((P - d + d) % P = 0) := Lib.hid (by rw [Nat.sub_add_cancel (Nat.le_of_lt hdP.out), Nat.mod_self])
    rw [hde] at N9 H10 ⊢
    clear hde
    generalize P - d = z at *
    generalize w9.alloc (.cells (limA z) 28) = W at *
    obtain ⟨r0, r1, r2, r3, hr⟩ := limA_four z
    have HK : Hid (∀ W', Below W.heap.size W W' → W'.cell? ⟨w9.heap.size, 0, none⟩ = some (.int .u64 (r0 : Int)) ∧ W'.cell? ⟨w9.heap.size, 1, none⟩ = some (.int .u64 (r1 : Int)) ∧ W'.cell? ⟨w9.heap.size, 2, none⟩ = some (.int .u64 (r2 : Int)) ∧ W'.cell? ⟨w9.heap.size, 3, none⟩ = some (.int .u64 (r3 : Int))) := Lib.hid fun W' hb => by
      have hB := N9.out.old hb
      rw [hr] at hB
      exact ⟨hB.cell 0, hB.cell 1, hB.cell 2, hB.cell 3⟩
    have hbd : Below W.heap.size W W.drew := (Below.refl _ _).drew
    have CA : Hid (∀ W', PrimeAt W' → Calls Tryd.prog 17 #[.agg #[.int .u64 (r0 : Int), .int .u64 (r1 : Int), .int .u64 (r2 : Int), .int .u64 (r3 : Int)], elemV d] W' fun e w' => e = .returned (.agg #[.int .u64 0, .int .u64 0, .int .u64 0, .int .u64 0]) ∧ Below W'.heap.size W' w') := Lib.hid fun W' hp => by
      have := add_e z d hzP.out hdP.out W' hp
      rw [hsm.out] at this
      unfold elemV at this ⊢
      rw [hr] at this
      exact this
    have CS : Hid (∀ W', Calls Tryd.prog 13 #[.agg #[.int .u64 0, .int .u64 0, .int .u64 0, .int .u64 0], .agg #[.int .u64 0, .int .u64 0, .int .u64 0, .int .u64 0]] W' fun e w' => e = .returned (.bool true) ∧ Below W'.heap.size W' w') := Lib.hid fun W' => same_t 0 0 (by decide) rfl W'
    clear hge
    go_region_held3 (fun w' => w'.cell? ⟨w9.heap.size, 0, none⟩ = some (.int .u64 (r0 : Int)) ∧ w'.cell? ⟨w9.heap.size, 1, none⟩ = some (.int .u64 (r1 : Int)) ∧ w'.cell? ⟨w9.heap.size, 2, none⟩ = some (.int .u64 (r2 : Int)) ∧ w'.cell? ⟨w9.heap.size, 3, none⟩ = some (.int .u64 (r3 : Int)))
      (first | exact HK.out _ (Below.refl _ _) | exact HK.out _ hbd | exact HK.out _ hb11 | exact HK.out _ hb12 | exact HK.out _ hb13 | exact HK.out _ hb14 | go_keep)
      ((first
        | ((with_reducible refine (of_any d hdM.out _).mono ?_); rintro e w11 ⟨rfl, hb11⟩; have hb11 := hbd.trans (hb11.mono hbd.size))
        | ((with_reducible refine (CA.out _ (HP.out.old (H10.out.trans (hb11.mono H10.out.size)))).mono ?_); rintro e w12 ⟨rfl, hb12⟩; have hb12 := hb11.trans (hb12.mono hb11.size))
        | ((with_reducible refine (CS.out _).mono ?_); rintro e w13 ⟨rfl, hb13⟩; have hb13 := hb12.trans (hb13.mono hb12.size))
        | ((with_reducible refine (awake_any _ (HP.out.old (H10.out.trans (hb13.mono H10.out.size)))).mono ?_); rintro e w14 ⟨rfl, hb14⟩; have hb14 := hb13.trans (hb14.mono hb13.size))))
    all_goals
      go_wp2
      go_ret
      exact ⟨rfl, H10.out.trans (hb14.mono H10.out.size)⟩
end Go.Proofs.YtphlehinjooncaaDoor
