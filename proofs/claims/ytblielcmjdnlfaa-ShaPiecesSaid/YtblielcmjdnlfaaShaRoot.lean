/-
  The contracts of sha's products of two words, and of the powers. Conditions: words below 2^64.
-/
import Derived.Test.YtblielcmjdnlfaaShaBits
import Derived.Test.YtblielcmjdnlfaaShaRoots
import Derived.Shelf.Spec.BitsCarry
set_option linter.unusedVariables false
namespace Go.Proofs.Ytblielcmjdnlfaa
open Go Go.Proofs Go.RowKit Sha5

theorem add64_run (x y s c : Nat) (hs : s = (x + y) % M) (hc : c = (x + y) / M) (w : World) : (callFunc 39 #[.int .u64 (x : Int), .int .u64 (y : Int), .int .u64 0]).run Try.prog w =
    .ok (.value (.tuple #[.int .u64 (s : Int), .int .u64 (c : Int)])) w := by
  rw [run_callFunc_extern Try.func39 (by kernel_rfl) (by kernel_rfl) (by kernel_rfl) (e := add64Entry) (by kernel_rfl), run_add64 x y 0 (by omega) (by omega) (by omega) (by omega)]
  unfold M at hs hc
  have e1 : ((x : Int) + (y : Int) + 0) % 18446744073709551616 = (s : Int) := by omega
  have e2 : ((x : Int) + (y : Int) + 0) / 18446744073709551616 = (c : Int) := by omega
  rw [e1, e2]
  rfl

theorem mul64_any (x y h l : Nat) (hx : x < M) (hy : y < M) (hh : h = x * y / M) (hl : l = x * y % M) (w : World) :
    Calls Try.prog 33 #[.int .u64 x, .int .u64 y] w fun e w' => e = .returned (.tuple #[.int .u64 (h : Int), .int .u64 (l : Int)]) ∧ w = w' := by
  subst hh hl
  exact (Try.bits_Mul64 x y hx hy w).mono fun _ _ ⟨h, h'⟩ => ⟨h, h'.symm⟩

theorem wrap_sum (a b s : Nat) (h : s = (a + b) % M) : IntKind.u64.wrap ((a : Int) + (b : Int)) = (s : Int) := by
  rw [IntKind.wrap_u64]; unfold M at h; omega
theorem wrap_mul (a b s : Nat) (h : s = (a * b) % M) : IntKind.u64.wrap ((a : Int) * (b : Int)) = (s : Int) := by
  rw [IntKind.wrap_u64, h]; unfold M; simp

theorem named (n : Nat) : ∃ m : Nat, Hid (m = n) := ⟨n, Lib.hid rfl⟩

set_option maxHeartbeats 1000000 in
theorem timesPlus_any (x y o z hi lo : Nat) (hx : x < M) (hy : y < M) (ho : o < M) (hz : z < M) (hhi : hi = tpHigh x y o z) (hlo : lo = tpLow x y o z) (w : World) :
    Calls Try.prog 36 #[.int .u64 (x : Int), .int .u64 (y : Int), .int .u64 (o : Int), .int .u64 (z : Int)] w fun e w' =>
      e = .returned (.tuple #[.int .u64 (hi : Int), .int .u64 (lo : Int)]) ∧ w = w' := by
  obtain ⟨h, hh⟩ := named (x * y / M)
  obtain ⟨l, hl⟩ := named (x * y % M)
  obtain ⟨l1, hl1⟩ := named ((l + o) % M)
  obtain ⟨c1, hc1⟩ := named ((l + o) / M)
  obtain ⟨h1, hh1⟩ := named ((h + c1) % M)
  obtain ⟨c2, hc2⟩ := named ((l1 + z) / M)
  have E1 : lo = (l1 + z) % M := by rw [hlo, tpLow, hl1.out, hl.out]
  have E2 : hi = (h1 + c2) % M := by rw [hhi, tpHigh, hh1.out, hc2.out, hc1.out, hl1.out, hl.out, hh.out]
  have a1 := add64_run l o l1 c1 hl1.out hc1.out
  have a2 := add64_run l1 z lo c2 E1 hc2.out
  have a3 := wrap_sum h c1 h1 hh1.out
  have a4 := wrap_sum h1 c2 hi E2
  clear hhi hlo E1 E2
  go_enter Try.func36, Try.ntmps36
  go_wp2_with fail
  refine (mul64_any x y h l hx hy hh.out hl.out _).mono ?_
  rintro e w' ⟨rfl, rfl⟩
  go_wp2
  go_ret2
  exact ⟨rfl, rfl⟩

set_option maxHeartbeats 1000000 in
theorem fullSquare_any (x f hi mi lo : Nat) (hx : x < M) (hf : f < M) (h1 : hi = sqHigh x f) (h2 : mi = sqMid x f) (h3 : lo = sqLow x f) (w : World) :
    Calls Try.prog 35 #[.int .u64 (x : Int), .int .u64 (f : Int)] w fun e w' =>
      e = .returned (.tuple #[.int .u64 (hi : Int), .int .u64 (mi : Int), .int .u64 (lo : Int)]) ∧ w = w' := by
  obtain ⟨c, hc⟩ := named (f * f / M)
  obtain ⟨d, hd⟩ := named (2 * x % M)
  obtain ⟨q, hq⟩ := named (x * x % M)
  obtain ⟨t, ht⟩ := named (tpHigh d f c 0)
  have lc : c < M := by rw [hc.out, Nat.div_lt_iff_lt_mul (by decide)]; exact Nat.mul_lt_mul'' hf hf
  have ld : d < M := by rw [hd.out]; exact Nat.mod_lt _ (by decide)
  have E1 : hi = (q + t) % M := by rw [h1, sqHigh, ht.out, hq.out, hc.out, hd.out]
  have E2 : mi = tpLow d f c 0 := by rw [h2, sqMid, hc.out, hd.out]
  have a1 : IntKind.u64.wrap (2 * (x : Int)) = (d : Int) := wrap_mul 2 x d hd.out
  have a2 := wrap_mul x x q hq.out
  have a3 := wrap_sum q t hi E1
  have H2 := Lib.hid E2
  have H3 := Lib.hid h3
  clear h1 h2 h3 E1 E2
  go_enter Try.func35, Try.ntmps35
  go_wp2_with fail
  refine (mul64_any f f c lo hf hf hc.out H3.out _).mono ?_
  rintro e w' ⟨rfl, rfl⟩
  go_wp2_with fail
  refine (timesPlus_any d f c 0 t mi ld hf lc (by decide) ht.out H2.out _).mono ?_
  rintro e w' ⟨rfl, rfl⟩
  go_wp2
  go_ret3
  exact ⟨rfl, rfl⟩

set_option maxHeartbeats 1000000 in
theorem square_any (x f hi : Nat) (hx : x < M) (hf : f < M) (h1 : hi = sqHigh x f) (w : World) :
    Calls Try.prog 27 #[.int .u64 (x : Int), .int .u64 (f : Int)] w fun e w' => e = .returned (.int .u64 (hi : Int)) ∧ w = w' := by
  obtain ⟨mi, h2⟩ := named (sqMid x f)
  obtain ⟨lo, h3⟩ := named (sqLow x f)
  have H1 := Lib.hid h1
  clear h1
  go_enter Try.func27, Try.ntmps27
  go_wp2_with fail
  refine (fullSquare_any x f hi mi lo hx hf H1.out h2.out h3.out _).mono ?_
  rintro e w' ⟨rfl, rfl⟩
  go_wp2
  go_ret
  exact ⟨rfl, rfl⟩

theorem tpHigh_lt (x y o z : Nat) : tpHigh x y o z < M := Nat.mod_lt _ (by decide)
theorem tpLow_lt (x y o z : Nat) : tpLow x y o z < M := Nat.mod_lt _ (by decide)
theorem sqHigh_lt (x f : Nat) : sqHigh x f < M := Nat.mod_lt _ (by decide)
theorem sqMid_lt (x f : Nat) : sqMid x f < M := Nat.mod_lt _ (by decide)
theorem sqLow_lt (x f : Nat) : sqLow x f < M := Nat.mod_lt _ (by decide)

set_option maxHeartbeats 2000000 in
theorem cube_any (x f r : Nat) (hx : x < M) (hf : f < M) (h1 : r = cube x f) (w : World) :
    Calls Try.prog 28 #[.int .u64 (x : Int), .int .u64 (f : Int)] w fun e w' => e = .returned (.int .u64 (r : Int)) ∧ w = w' := by
  obtain ⟨hi, hhi⟩ := named (sqHigh x f)
  obtain ⟨mi, hmi⟩ := named (sqMid x f)
  obtain ⟨lo, hlo⟩ := named (sqLow x f)
  obtain ⟨c1, hc1⟩ := named (lo * f / M)
  obtain ⟨z1, hz1⟩ := named (lo * f % M)
  obtain ⟨c2, hc2⟩ := named (tpHigh mi f c1 0)
  obtain ⟨th, hth⟩ := named (tpLow mi f c1 0)
  obtain ⟨fi, hfi⟩ := named (tpHigh hi f c2 0)
  obtain ⟨se, hse⟩ := named (tpLow hi f c2 0)
  obtain ⟨c3, hc3⟩ := named (tpHigh lo x th 0)
  obtain ⟨z3, hz3⟩ := named (tpLow lo x th 0)
  obtain ⟨c4, hc4⟩ := named (tpHigh mi x se c3)
  obtain ⟨z4, hz4⟩ := named (tpLow mi x se c3)
  obtain ⟨p, hp⟩ := named (hi * x % M)
  obtain ⟨q, hq⟩ := named ((p + fi) % M)
  have lhi : hi < M := by rw [hhi.out]; exact sqHigh_lt _ _
  have lmi : mi < M := by rw [hmi.out]; exact sqMid_lt _ _
  have llo : lo < M := by rw [hlo.out]; exact sqLow_lt _ _
  have lc1 : c1 < M := by rw [hc1.out, Nat.div_lt_iff_lt_mul (by decide)]; exact Nat.mul_lt_mul'' llo hf
  have lc2 : c2 < M := by rw [hc2.out]; exact tpHigh_lt _ _ _ _
  have lth : th < M := by rw [hth.out]; exact tpLow_lt _ _ _ _
  have lse : se < M := by rw [hse.out]; exact tpLow_lt _ _ _ _
  have lc3 : c3 < M := by rw [hc3.out]; exact tpHigh_lt _ _ _ _
  have E : r = (q + c4) % M := by
    rw [h1, cube, hq.out, hp.out, cuFirst, cuSecond, cuThird, hc4.out, hc3.out, hse.out, hfi.out, hth.out, hc2.out, hc1.out, hlo.out, hmi.out, hhi.out]
  have a1 := wrap_mul hi x p hp.out
  have a2 := wrap_sum p fi q hq.out
  have a3 := wrap_sum q c4 r E
  clear h1 E
  go_enter Try.func28, Try.ntmps28
  go_wp2_with fail
  refine (fullSquare_any x f hi mi lo hx hf hhi.out hmi.out hlo.out _).mono ?_
  rintro e w' ⟨rfl, rfl⟩
  go_wp2_with fail
  refine (mul64_any lo f c1 z1 llo hf hc1.out hz1.out _).mono ?_
  rintro e w' ⟨rfl, rfl⟩
  go_wp2_with fail
  refine (timesPlus_any mi f c1 0 c2 th lmi hf lc1 (by decide) hc2.out hth.out _).mono ?_
  rintro e w' ⟨rfl, rfl⟩
  go_wp2_with fail
  refine (timesPlus_any hi f c2 0 fi se lhi hf lc2 (by decide) hfi.out hse.out _).mono ?_
  rintro e w' ⟨rfl, rfl⟩
  go_wp2_with fail
  refine (timesPlus_any lo x th 0 c3 z3 llo hx lth (by decide) hc3.out hz3.out _).mono ?_
  rintro e w' ⟨rfl, rfl⟩
  go_wp2_with fail
  refine (timesPlus_any mi x se c3 c4 z4 lmi hx lse lc3 hc4.out hz4.out _).mono ?_
  rintro e w' ⟨rfl, rfl⟩
  go_wp2
  go_ret
  exact ⟨rfl, rfl⟩

theorem topBits_zero (F : Nat) (hF : F < M) : topBits F 0 = 0 := by
  unfold topBits
  rw [Nat.div_eq_of_lt (show F < 2 ^ (64 - 0) from hF), Nat.zero_mul]
theorem topBits_all (F : Nat) : topBits F 64 = F := by simp [topBits]
theorem topBits_le (F n : Nat) : topBits F n ≤ F := Nat.div_mul_le_self _ _

/-- the place of the bit in round n. -/
def bitAt (n : Nat) : Nat := 2 ^ 63 / 2 ^ n
theorem bitAt_pow {n : Nat} (h : n < 64) : bitAt n = 2 ^ (63 - n) := Nat.pow_div (by omega) (by omega)
theorem bitAt_zero : bitAt 0 = 9223372036854775808 := by decide
theorem bitAt_all : bitAt 64 = 0 := by decide
theorem bitAt_half (n : Nat) : bitAt (n + 1) = bitAt n / 2 := by
  unfold bitAt; rw [Nat.div_div_eq_div_mul, ← Nat.pow_succ]
theorem bitAt_lt (n : Nat) : bitAt n < M := Nat.lt_of_le_of_lt (Nat.div_le_self _ _) (by decide)
theorem bitAt_pos {n : Nat} (h : n < 64) : 0 < bitAt n := by rw [bitAt_pow h]; exact Nat.two_pow_pos _

theorem rootOk_whole {f : Nat → Nat → Nat} {p W F : Nat} (h : rootOk f p W F = true) : (∀ v, v < W → f (v + 1) 0 < p) ∧ ¬ f (W + 1) 0 < p := by
  unfold rootOk at h
  simp only [Bool.and_eq_true, List.all_eq_true, List.mem_range, decide_eq_true_eq, Bool.not_eq_true', decide_eq_false_iff_not] at h
  exact ⟨h.1.1, h.1.2⟩
theorem rootOk_bits {f : Nat → Nat → Nat} {p W F : Nat} (h : rootOk f p W F = true) (n : Nat) (hn : n < 64) :
    if f W (topBits F n ||| bitAt n) < p then topBits F (n + 1) = (topBits F n ||| bitAt n) else topBits F (n + 1) = topBits F n := by
  unfold rootOk at h
  simp only [Bool.and_eq_true, List.all_eq_true, List.mem_range] at h
  have := h.2 n hn
  rw [bitAt_pow hn]
  split at this <;> rename_i hc
  · rw [if_pos hc]; simpa using this
  · rw [if_neg hc]; simpa using this

set_option maxHeartbeats 2000000 in
theorem rootSq_any (p W F : Nat) (hp : p < 512) (hW : W < 32) (hF : F < M) (ok : rootOk sqHigh p W F = true) (w : World) :
    Calls Try.prog 26 #[.int .u64 (p : Int), .func (.func 27) #[] #[]] w fun e w' => e = .returned (.int .u64 (F : Int)) ∧ w = w' := by
  have OK := Lib.hid ok
  have HF := Lib.hid (topBits_all F)
  clear ok
  go_enter Try.func26, Try.ntmps26
  go_wp2
  go_loop [5] (fun x => ∃ v : Nat, v ≤ W ∧ x = .int .u64 v) (fun x => W - (intOf x).toNat)
  case atStart => exact ⟨0, Nat.zero_le _, rfl⟩
  case round =>
    obtain ⟨v, hv, rfl⟩ := hrel
    obtain ⟨r, hr⟩ := named (sqHigh (v + 1) 0)
    by_cases hlt : v < W
    · have hd : decide (r < p) = true := by rw [hr.out]; simpa using (rootOk_whole OK.out).1 v hlt
      go_wp2_with fail
      rw [show ((v : Int) + 1) = ((v + 1 : Nat) : Int) from rfl]
      refine (square_any (v + 1) 0 r (by unfold M; omega) (by decide) hr.out _).mono ?_
      rintro e w' ⟨rfl, rfl⟩
      go_wp2
      go_round
      case rel => exact ⟨v + 1, by omega, by go_num⟩
      case measure => simp [intOf]; omega
    · obtain rfl : v = W := by omega
      have hd : decide (r < p) = false := by rw [hr.out]; simpa using (rootOk_whole OK.out).2
      have hW64 : v < M := by unfold M; omega
      go_wp2_with fail
      rw [show ((v : Int) + 1) = ((v + 1 : Nat) : Int) from rfl]
      refine (square_any (v + 1) 0 r (by unfold M; omega) (by decide) hr.out _).mono ?_
      rintro e w' ⟨rfl, rfl⟩
      go_wp2
      clear hd hr hlt hv
      go_loop [6, 7] (fun x y => ∃ n : Nat, n ≤ 64 ∧ x = .int .u64 (topBits F n) ∧ y = .int .u64 (bitAt n)) (fun _ y => (intOf y).toNat)
      case atStart => exact ⟨0, Nat.zero_le _, by rw [topBits_zero F hF]; rfl, by rw [bitAt_zero]; rfl⟩
      case round =>
        obtain ⟨n, hn, rfl, rfl⟩ := hrel
        by_cases hlt : n < 64
        · have hb := rootOk_bits OK.out n hlt
          have hT := topBits_le F n
          have hbl := bitAt_lt n
          have hbp := bitAt_pos hlt
          have hh := Lib.hid (bitAt_half n)
          have ho := bits_or_u64_nat (topBits F n) (bitAt n) (Nat.lt_of_le_of_lt hT hF) hbl
          have hol := or_lt (Nat.lt_of_le_of_lt hT hF) hbl
          obtain ⟨t', ht'⟩ := named (topBits F (n + 1))
          rw [← ht'.out] at hb
          generalize topBits F n = t at *
          generalize bitAt n = b at *
          obtain ⟨o, hoo⟩ := named (t ||| b)
          rw [← hoo.out] at ho hol hb
          obtain ⟨r, hr⟩ := named (sqHigh v o)
          rw [← hr.out] at hb
          have hHB := Lib.hid hb
          clear hb
          have hne : ((b : Int) == 0) = false := by simp; omega
          by_cases hc : r < p
          · have hT2 : Hid (topBits F (n + 1) = o) := by
              have := hHB.out
              rw [if_pos hc] at this
              show _ = _
              rw [← ht'.out]; exact this
            have hd : decide (r < p) = true := by simpa using hc
            go_wp2_with fail
            refine (square_any v o r hW64 hol hr.out _).mono ?_
            rintro e w' ⟨rfl, rfl⟩
            go_wp2
            go_round
            case rel => exact ⟨n + 1, by omega, by rw [hT2.out], by rw [hh.out]; go_num⟩
            case measure => simp [intOf]; omega
          · have hT2 : Hid (topBits F (n + 1) = t) := by
              have := hHB.out
              rw [if_neg hc] at this
              show _ = _
              rw [← ht'.out]; exact this
            have hd : decide (r < p) = false := by simpa using hc
            go_wp2_with fail
            refine (square_any v o r hW64 hol hr.out _).mono ?_
            rintro e w' ⟨rfl, rfl⟩
            go_wp2
            go_round
            case rel => exact ⟨n + 1, by omega, by rw [hT2.out], by rw [hh.out]; go_num⟩
            case measure => simp [intOf]; omega
        · obtain rfl : n = 64 := by omega
          rw [bitAt_all]
          go_wp2
          go_ret
          exact ⟨by rw [HF.out]; rfl, rfl⟩

set_option maxHeartbeats 2000000 in
theorem rootCu_any (p W F : Nat) (hp : p < 512) (hW : W < 32) (hF : F < M) (ok : rootOk cube p W F = true) (w : World) :
    Calls Try.prog 26 #[.int .u64 (p : Int), .func (.func 28) #[] #[]] w fun e w' => e = .returned (.int .u64 (F : Int)) ∧ w = w' := by
  have OK := Lib.hid ok
  have HF := Lib.hid (topBits_all F)
  clear ok
  go_enter Try.func26, Try.ntmps26
  go_wp2
  go_loop [5] (fun x => ∃ v : Nat, v ≤ W ∧ x = .int .u64 v) (fun x => W - (intOf x).toNat)
  case atStart => exact ⟨0, Nat.zero_le _, rfl⟩
  case round =>
    obtain ⟨v, hv, rfl⟩ := hrel
    obtain ⟨r, hr⟩ := named (cube (v + 1) 0)
    by_cases hlt : v < W
    · have hd : decide (r < p) = true := by rw [hr.out]; simpa using (rootOk_whole OK.out).1 v hlt
      go_wp2_with fail
      rw [show ((v : Int) + 1) = ((v + 1 : Nat) : Int) from rfl]
      refine (cube_any (v + 1) 0 r (by unfold M; omega) (by decide) hr.out _).mono ?_
      rintro e w' ⟨rfl, rfl⟩
      go_wp2
      go_round
      case rel => exact ⟨v + 1, by omega, by go_num⟩
      case measure => simp [intOf]; omega
    · obtain rfl : v = W := by omega
      have hd : decide (r < p) = false := by rw [hr.out]; simpa using (rootOk_whole OK.out).2
      have hW64 : v < M := by unfold M; omega
      go_wp2_with fail
      rw [show ((v : Int) + 1) = ((v + 1 : Nat) : Int) from rfl]
      refine (cube_any (v + 1) 0 r (by unfold M; omega) (by decide) hr.out _).mono ?_
      rintro e w' ⟨rfl, rfl⟩
      go_wp2
      clear hd hr hlt hv
      go_loop [6, 7] (fun x y => ∃ n : Nat, n ≤ 64 ∧ x = .int .u64 (topBits F n) ∧ y = .int .u64 (bitAt n)) (fun _ y => (intOf y).toNat)
      case atStart => exact ⟨0, Nat.zero_le _, by rw [topBits_zero F hF]; rfl, by rw [bitAt_zero]; rfl⟩
      case round =>
        obtain ⟨n, hn, rfl, rfl⟩ := hrel
        by_cases hlt : n < 64
        · have hb := rootOk_bits OK.out n hlt
          have hT := topBits_le F n
          have hbl := bitAt_lt n
          have hbp := bitAt_pos hlt
          have hh := Lib.hid (bitAt_half n)
          have ho := bits_or_u64_nat (topBits F n) (bitAt n) (Nat.lt_of_le_of_lt hT hF) hbl
          have hol := or_lt (Nat.lt_of_le_of_lt hT hF) hbl
          obtain ⟨t', ht'⟩ := named (topBits F (n + 1))
          rw [← ht'.out] at hb
          generalize topBits F n = t at *
          generalize bitAt n = b at *
          obtain ⟨o, hoo⟩ := named (t ||| b)
          rw [← hoo.out] at ho hol hb
          obtain ⟨r, hr⟩ := named (cube v o)
          rw [← hr.out] at hb
          have hHB := Lib.hid hb
          clear hb
          have hne : ((b : Int) == 0) = false := by simp; omega
          by_cases hc : r < p
          · have hT2 : Hid (topBits F (n + 1) = o) := by
              have := hHB.out
              rw [if_pos hc] at this
              show _ = _
              rw [← ht'.out]; exact this
            have hd : decide (r < p) = true := by simpa using hc
            go_wp2_with fail
            refine (cube_any v o r hW64 hol hr.out _).mono ?_
            rintro e w' ⟨rfl, rfl⟩
            go_wp2
            go_round
            case rel => exact ⟨n + 1, by omega, by rw [hT2.out], by rw [hh.out]; go_num⟩
            case measure => simp [intOf]; omega
          · have hT2 : Hid (topBits F (n + 1) = t) := by
              have := hHB.out
              rw [if_neg hc] at this
              show _ = _
              rw [← ht'.out]; exact this
            have hd : decide (r < p) = false := by simpa using hc
            go_wp2_with fail
            refine (cube_any v o r hW64 hol hr.out _).mono ?_
            rintro e w' ⟨rfl, rfl⟩
            go_wp2
            go_round
            case rel => exact ⟨n + 1, by omega, by rw [hT2.out], by rw [hh.out]; go_num⟩
            case measure => simp [intOf]; omega
        · obtain rfl : n = 64 := by omega
          rw [bitAt_all]
          go_wp2
          go_ret
          exact ⟨by rw [HF.out]; rfl, rfl⟩

end Go.Proofs.Ytblielcmjdnlfaa
