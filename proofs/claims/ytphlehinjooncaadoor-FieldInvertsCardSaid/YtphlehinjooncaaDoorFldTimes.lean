/-
  The contracts of field's round, step, addTimes and fold. Conditions: the limbs lie whole in a block; the other ones are read as long as that block alone changes.
-/
import Derived.Test.YtphlehinjooncaaDoorFldLimbs
import Derived.Laws.Bits64b
import Derived.Deep.RegionWith
set_option linter.unusedVariables false
set_option linter.unusedSimpArgs false
namespace Go.Proofs.YtphlehinjooncaaDoor
open Go Go.Proofs Go.RowKit F5

theorem val_P : val M (digs M P 4) = P := by decide +kernel
theorem results_none {fn : Func} (h : fn.results = #[]) (tmps : Array Value) (P : Program) (w : World) : (results fn tmps).run P w = .ok (.tuple #[]) w := by simp [results, h]

set_option maxHeartbeats 2000000 in
theorem round_any (g o t : Nat) (pre A post : List Nat) (w : World) (hB : Blk w g t (u64s (pre ++ A ++ post))) (ho : pre.length = o) (hA4 : A.length = 4) (hA : All M A) (hg1 : g ≠ 1) (hP : PrimeAt w) :
    Calls Tryd.prog 28 #[.pointer (some ⟨g, o, none⟩)] w (LimbEnd g t pre post (subP (val M A) P) w) := by
  obtain ⟨pc, hpc⟩ : ∃ pc, Hid (pc = u64s (digs M P 4)) := ⟨_, Lib.hid rfl⟩
  have hps : Hid ((Tryd.prog.info? 26).map (·.size) = some pc.size) := by show _ = _; rw [hpc.out, u64s_size, digs_length]; exact info4
  have hp1 : Hid (pc.all (·.oneCell') = true) := by show _ = _; rw [hpc.out]; exact u64s_one _
  have hpz : Hid ((#[.int .u64 0, .int .u64 0, .int .u64 0, .int .u64 0] : Array Value).size = pc.size) := by show _ = _; rw [hpc.out, u64s_size, digs_length]; rfl
  have hpr2 : Hid (∀ j v, pc[j]? = some v → w.cell? ⟨1, 0 + j, none⟩ = some v) := by rw [hpc.out]; exact Lib.hid hP.2
  have HB := Lib.hid hB
  have HP := Lib.hid ho
  have HA4 := Lib.hid hA4
  have HA := Lib.hid hA
  have HG := Lib.hid hg1
  have HPR := Lib.hid hP
  clear hB ho hA4 hA hg1 hP
  go_enter Tryd.func28, Tryd.ntmps28
  go_wp2_with (first | (refine wpList_load_at rfl 26 (.global 1) rfl 1 0 rfl 23 4 pc Tryd.underlying26 hps.out hpr2.out ?_) |
    (refine wpList_store_row rfl 26 (.tmp 2) (.tmp 3) rfl w.heap.size pc rfl rfl 26 _ (heap_alloc_new w _) hps.out hpz.out hp1.out ?_; rw [setRow_alloc1]))
  have hlt := HB.out.lt
  have hnew := Blk.new w 26 pc
  refine (take_any g o t w.heap.size 0 pre A (digs M P 4) post _ (HB.out.alloc (.cells pc 26)) HP.out HA4.out HA.out (digs_length _ _ _) (digs_all (by decide) _ _) ?_ HG.out (HPR.out.old ((Below.refl _ _).alloc (Nat.le_refl _) _))).mono ?_
  · intro W L' _ hb hgW j hj
    rw [Nat.zero_add, (hnew.grown hgW (by intro e; injection e with e; omega)).cell, hpc.out, u64s_get _ _ (by rw [digs_length]; exact hj)]
  rintro e w2 ⟨rfl, hB2, hg2⟩
  rw [val_P] at hB2
  have hfin : Hid (Blk w2 g t (u64s (pre ++ digs M (subP (val M A) P) 4 ++ post)) ∧ w.grownBy w2 (some g)) := Lib.hid ⟨hB2, (grown_below ((Below.refl _ _).alloc (Nat.le_refl _) _) _).trans hg2⟩
  clear hB2 hg2 hnew
  go_wp2
  go_end0
  exact ⟨rfl, hfin.out⟩

theorem step_arith {a b c d h l l1 c1 h1 l2 c2 h2 : Nat} (ha : a < M) (hb : b < M) (hc : c < M) (hd : d < M) (hh : h = a * b / M) (hl : l = a * b % M)
    (e1 : l1 = (l + c) % M) (e2 : c1 = (l + c) / M) (e3 : h1 = (h + c1) % M) (e4 : l2 = (l1 + d) % M) (e5 : c2 = (l1 + d) / M) (e6 : h2 = (h1 + c2) % M) :
    h2 = (a * b + c + d) / M ∧ l2 = (a * b + c + d) % M := by
  have hab : a * b ≤ (M - 1) * (M - 1) := Nat.mul_le_mul (by omega) (by omega)
  generalize a * b = p at *
  unfold M at *
  omega

set_option maxHeartbeats 1000000 in
theorem step_any (a b c d hi lo : Nat) (ha : a < M) (hb : b < M) (hc : c < M) (hd : d < M) (hhi : hi = (a * b + c + d) / M) (hlo : lo = (a * b + c + d) % M) (w : World) :
    Calls Tryd.prog 42 #[.int .u64 (a : Int), .int .u64 (b : Int), .int .u64 (c : Int), .int .u64 (d : Int)] w fun e w' =>
      e = .returned (.tuple #[.int .u64 (hi : Int), .int .u64 (lo : Int)]) ∧ w = w' := by
  obtain ⟨h, hh⟩ := named (a * b / M)
  obtain ⟨l, hl⟩ := named (a * b % M)
  obtain ⟨l1, hl1⟩ := named ((l + c) % M)
  obtain ⟨c1, hc1⟩ := named ((l + c) / M)
  obtain ⟨h1, hh1⟩ := named ((h + c1) % M)
  obtain ⟨c2, hc2⟩ := named ((l1 + d) / M)
  obtain ⟨h2, hh2⟩ := named ((h1 + c2) % M)
  obtain ⟨l2, hl2⟩ := named ((l1 + d) % M)
  obtain ⟨E2, E1⟩ := step_arith ha hb hc hd hh.out hl.out hl1.out hc1.out hh1.out hl2.out hc2.out hh2.out
  rw [← hhi] at E2
  rw [← hlo] at E1
  subst E1 E2
  have a1 := add64_run l c l1 c1 hl1.out hc1.out
  have a2 := add64_run l1 d l2 c2 hl2.out hc2.out
  have a3 := wrap_sum h c1 h1 hh1.out
  have a4 := wrap_sum h1 c2 h2 hh2.out
  clear hhi hlo
  go_enter Tryd.func42, Tryd.ntmps42
  go_wp2_with fail
  refine (mul64_any a b h l ha hb hh.out hl.out _).mono ?_
  rintro e w' ⟨rfl, rfl⟩
  go_wp2
  go_ret2
  exact ⟨rfl, rfl⟩

def TimesAt (g t : Nat) (pre A B post : List Nat) (s : Nat) (w : World) (k c : Nat) (wr : World) : Prop :=
  ∃ L, Part M A k L c (s * val M (B.take k)) ∧ Blk wr g t (u64s (pre ++ L ++ post)) ∧ w.grownBy wr (some g)
theorem TimesAt.drew {g t s : Nat} {pre A B post : List Nat} {w wr : World} {k c : Nat} (h : TimesAt g t pre A B post s w k c wr) : TimesAt g t pre A B post s w k c wr.drew := by
  obtain ⟨L, h1, h2, h3⟩ := h
  exact ⟨L, h1, h2.drew, grown_drew h3⟩
def TimesEnd (g t : Nat) (pre A B post : List Nat) (s : Nat) (w : World) (e : Ending) (w' : World) : Prop :=
  ∃ L c, e = .returned (.int .u64 (c : Nat)) ∧ c < M ∧ Part M A 4 L c (s * val M B) ∧ Blk w' g t (u64s (pre ++ L ++ post)) ∧ w.grownBy w' (some g)
theorem step_lt {s y x c : Nat} (hs : s < M) (hy : y < M) (hx : x < M) (hc : c < M) : (s * y + x + c) / M < M := by
  have h : s * y ≤ (M - 1) * (M - 1) := Nat.mul_le_mul (by omega) (by omega)
  generalize s * y = p at *
  unfold M at *
  omega

set_option maxHeartbeats 4000000 in
theorem addTimes_any (g o t h oq s : Nat) (pre A B post : List Nat) (w : World) (hB : Blk w g t (u64s (pre ++ A ++ post))) (ho : pre.length = o) (hA4 : A.length = 4) (hA : All M A) (hB4 : B.length = 4) (hBa : All M B)
    (hO : Other w g t pre post B h oq) (hs : s < M) :
    Calls Tryd.prog 40 #[.pointer (some ⟨g, o, none⟩), .int .u64 (s : Int), .pointer (some ⟨h, oq, none⟩)] w (TimesEnd g t pre A B post s w) := by
  have hal : Tryd.prog.arrayLen 26 = 4 := by kernel_rfl
  have hel : Tryd.prog.elem 26 = 23 := by kernel_rfl
  have HO := Lib.hid hO
  have HP := Lib.hid ho
  have HA4 := Lib.hid hA4
  have HB4 := Lib.hid hB4
  clear hO ho hA4 hB4
  go_enter Tryd.func40, Tryd.ntmps40
  go_wp2
  go_loopw [6, 8] (fun cv iv wr => ∃ k c, k ≤ 4 ∧ c < M ∧ cv = .int .u64 (c : Nat) ∧ iv = .int .i64 (k : Nat) ∧ TimesAt g t pre A B post s w k c wr) (fun _ iv _ => 4 - (intOf iv).toNat)
  case atStart => exact ⟨0, 0, by omega, by decide, rfl, rfl, A, by simpa [val] using Part.zero hA, hB, World.grownBy.refl w _⟩
  case round =>
    obtain ⟨k, c, hk, hc, rfl, rfl, L, hL, hBr, hg⟩ := hrel
    clear hB
    by_cases hlt : k < 4
    · have hL4 : L.length = 4 := hL.1.trans HA4.out
      have hx : wr.cell? ⟨g, o + k, none⟩ = some (.int .u64 ((L.getD k 0 : Nat) : Int)) := (hBr.cell _).trans (u64s_mid _ _ _ _ _ HP.out (by omega))
      have hf := hBr.frozen (o + k)
      have hy := HO.out wr L hL4 hBr hg k hlt
      have hxl := hL.2.1.getD (by decide) k
      have hyl := hBa.getD (by decide) k
      have hAk := hL.2.2.1 k (Nat.le_refl _)
      obtain ⟨x, hX⟩ : ∃ x, Hid (x = L.getD k 0) := ⟨_, Lib.hid rfl⟩
      obtain ⟨y, hY⟩ : ∃ y, Hid (y = B.getD k 0) := ⟨_, Lib.hid rfl⟩
      rw [← hX.out] at hx hxl hAk
      rw [← hY.out] at hy hyl
      obtain ⟨r, hR⟩ : ∃ r, Hid (r = (s * y + x + c) % M) := ⟨_, Lib.hid rfl⟩
      obtain ⟨c', hC⟩ : ∃ c', Hid (c' = (s * y + x + c) / M) := ⟨_, Lib.hid rfl⟩
      have he : r + M * c' = x + s * y + c := by
        rw [hR.out, hC.out, Nat.mod_add_div, Nat.add_comm (s * y) x]
      have hrl : r < M := by rw [hR.out]; exact Nat.mod_lt _ (by decide)
      have hcl : c' < M := by rw [hC.out]; exact step_lt hs hyl hxl hc
      have hnext : Hid (TimesAt g t pre A B post s w (k + 1) c' (wr.setCell ⟨g, o + k, none⟩ (.int .u64 (r : Int)))) := Lib.hid (by
        refine ⟨L.set k r, ?_, ?_, hg.trans (grown_set wr g (o + k) _)⟩
        · rw [val_take_succ _ _ _ (by rw [HB4.out]; exact hlt), ← hY.out, Nat.mul_add, Nat.mul_left_comm]
          exact hL.next (by rw [HA4.out]; exact hlt) hrl (by rw [← hAk]; exact he)
        · have := hBr.set_ (o + k) (.int .u64 (r : Int))
          rwa [u64s_mid_set _ _ _ _ _ _ HP.out (by omega)] at this)
      have HE := Lib.hid he
      have HSL := Lib.hid hs
      clear hBr hg hL hAk he hA hBa hL4
      go_wp2
      go_region_with (go_at_call 42; (with_reducible refine (step_any s y x c c' r HSL.out hyl hxl hc hC.out hR.out _).mono ?_); rintro e w' ⟨rfl, rfl⟩)
      all_goals
        have hnd := Lib.hid hnext.out.drew
        clear hnext
        go_wp2
        go_roundw
        case rel => exact ⟨k + 1, c', by omega, hcl, rfl, by go_num, hnd.out⟩
        case measure => simp [intOf]; omega
    · obtain rfl : k = 4 := by omega
      rw [val_take4 HB4.out] at hL
      have hfin : Hid (c < M ∧ Part M A 4 L c (s * val M B) ∧ Blk wr g t (u64s (pre ++ L ++ post)) ∧ w.grownBy wr (some g)) := Lib.hid ⟨hc, hL, hBr, hg⟩
      clear hL hBr hg hA hBa
      go_wp2
      go_ret
      exact ⟨L, c, rfl, hfin.out⟩

/-- the rest of a number of 257 bits and more, divided by p. -/
def foldN (top n : Nat) : Nat := 19 * (2 * top + n / 2 ^ 255) + n % 2 ^ 255
theorem above_or (top n : Nat) (h : n < M) : 2 * top ||| n / 2 ^ 63 = 2 * top + n / 2 ^ 63 := by
  have : n / 2 ^ 63 < 2 ^ 1 := by unfold M at h; omega
  have := Nat.two_pow_add_eq_or_of_lt this top
  rw [show 2 ^ 1 * top = 2 * top from rfl] at this
  exact this.symm
theorem low63 (n : Nat) : n &&& 9223372036854775807 = n % 2 ^ 63 := Nat.and_two_pow_sub_one_eq_mod n 63
theorem subP_P {a : Nat} (ha : a < M ^ 4) : subP a P = if P ≤ a then a - P else a := by
  unfold subP
  split
  · rfl
  · rw [show a + M ^ 4 - P + P = a + M ^ 4 * 1 by unfold P at *; unfold M; omega, Nat.add_mul_mod_self_left, Nat.mod_eq_of_lt ha]

theorem list4 {A : List Nat} (h : A.length = 4) : A = [A.getD 0 0, A.getD 1 0, A.getD 2 0, A.getD 3 0] := by
  match A, h with
  | [a, b, c, d], _ => rfl

theorem fold_arith {A L : List Nat} {top c : Nat} (hA4 : A.length = 4) (hA : All M A) (ht : top < 2 ^ 40) (h : Part M (A.set 3 (A.getD 3 0 % 2 ^ 63)) 4 L c (val M (digs M (19 * (2 * top + A.getD 3 0 / 2 ^ 63)) 4))) :
    val M L = foldN top (val M A) ∧ L.length = 4 ∧ All M L := by
  obtain ⟨h1, h2, _, h4⟩ := h
  have hl := val_lt L h2
  rw [h1, List.length_set, hA4] at hl
  refine ⟨?_, h1.trans (by simpa using hA4), h2⟩
  have h3 := hA.getD (by decide) 3
  have hs := val_set M A 3 (A.getD 3 0 % 2 ^ 63) (by omega)
  have h0 := hA.getD (by decide) 0
  have h01 := hA.getD (by decide) 1
  have h02 := hA.getD (by decide) 2
  have e := congrArg (val M) (list4 hA4)
  have hm : val M (digs M (19 * (2 * top + A.getD 3 0 / 2 ^ 63)) 4) = 19 * (2 * top + A.getD 3 0 / 2 ^ 63) := by
    rw [val_digs]
    refine Nat.mod_eq_of_lt ?_
    clear h4 hs e hl
    unfold M at *
    omega
  rw [hm] at h4
  clear hm
  simp only [val, Nat.mul_zero, Nat.add_zero] at e
  generalize A.getD 0 0 = a0 at *
  generalize A.getD 1 0 = a1 at *
  generalize A.getD 2 0 = a2 at *
  generalize A.getD 3 0 = a3 at *
  unfold foldN
  generalize val M (A.set 3 (a3 % 2 ^ 63)) = v1 at *
  generalize val M A = v at *
  generalize val M L = v2 at *
  obtain ⟨q, hq⟩ : ∃ q, q = a3 / 2 ^ 63 := ⟨_, rfl⟩
  obtain ⟨r, hr⟩ : ∃ r, r = a3 % 2 ^ 63 := ⟨_, rfl⟩
  rw [← hq] at h4
  rw [← hr] at hs
  have h5 : a3 = 2 ^ 63 * q + r := by rw [hq, hr]; exact (Nat.div_add_mod _ _).symm
  have hrl : r < 2 ^ 63 := by rw [hr]; exact Nat.mod_lt _ (by decide)
  have hql : q ≤ 1 := by unfold M at h3; omega
  clear hq hr
  subst h5
  have hv1 : v1 = a0 + M * a1 + M ^ 2 * a2 + M ^ 3 * r := by unfold M at *; omega
  have hv1l : v1 < 2 ^ 255 := by unfold M at *; omega
  have hv : v = v1 + 2 ^ 255 * q := by unfold M at *; omega
  have hd : v / 2 ^ 255 = q := by rw [hv]; omega
  have hm : v % 2 ^ 255 = v1 := by rw [hv]; omega
  rw [hd, hm]
  clear hs e hv1 hv hd hm h3 h0 h01 h02
  unfold M at *
  omega

set_option maxHeartbeats 4000000 in
theorem fold_any (g o t top : Nat) (pre A post : List Nat) (w : World) (hB : Blk w g t (u64s (pre ++ A ++ post))) (ho : pre.length = o) (hA4 : A.length = 4) (hA : All M A) (hg1 : g ≠ 1) (hP : PrimeAt w) (ht : top < 1099511627776) :
    Calls Tryd.prog 41 #[.pointer (some ⟨g, o, none⟩), .int .u64 (top : Int)] w (LimbEnd g t pre post (subP (foldN top (val M A)) P) w) := by
  have hal : Tryd.prog.arrayLen 26 = 4 := by kernel_rfl
  have hel : Tryd.prog.elem 26 = 23 := by kernel_rfl
  have hx : w.cell? ⟨g, o + 3, none⟩ = some (.int .u64 ((A.getD 3 0 : Nat) : Int)) := (hB.cell _).trans (u64s_mid _ _ _ _ _ ho (by omega))
  have hf := hB.frozen (o + 3)
  have hxl := hA.getD (by decide) 3
  obtain ⟨x, hX⟩ : ∃ x, Hid (x = A.getD 3 0) := ⟨_, Lib.hid rfl⟩
  rw [← hX.out] at hx hxl
  obtain ⟨q, hQ⟩ := named (x / 2 ^ 63)
  obtain ⟨r, hR⟩ := named (x % 2 ^ 63)
  obtain ⟨u, hU⟩ := named (2 * top + q)
  obtain ⟨m, hm⟩ := named (19 * u)
  have hq1 : q ≤ 1 := by rw [hQ.out]; unfold M at hxl; omega
  have hrl : r < M := by rw [hR.out]; unfold M; omega
  have hul : u ≤ 2199023255553 := by rw [hU.out]; omega
  have hml : m < M := by rw [hm.out]; unfold M; omega
  have e1 : IntKind.u64.wrap ((top : Int) * 2) = ((2 * top : Nat) : Int) := by rw [IntKind.wrap_u64]; omega
  have e2 : (x : Int) / 9223372036854775808 = (q : Int) := by rw [hQ.out]; omega
  have e3 : bits .or .u64 (2 * (top : Int)) (q : Int) = (u : Int) := by
    rw [show 2 * (top : Int) = ((2 * top : Nat) : Int) from by omega, bits_or_u64_nat _ _ (by omega) (by omega), hU.out, hQ.out, above_or _ _ hxl]
  have e4 : bits .and .u64 (x : Int) 9223372036854775807 = (r : Int) := by
    rw [show (9223372036854775807 : Int) = ((9223372036854775807 : Nat) : Int) from rfl, bits_and_u64_nat _ _ hxl (by decide), low63, hR.out]
  have e5 : IntKind.u64.wrap (19 * (u : Int)) = (m : Int) := by rw [IntKind.wrap_u64, hm.out]; omega
  have hB1 : Hid (Blk (w.setCell ⟨g, o + 3, none⟩ (.int .u64 (r : Int))) g t (u64s (pre ++ A.set 3 r ++ post))) := Lib.hid (by
    have := hB.set_ (o + 3) (.int .u64 (r : Int))
    rwa [u64s_mid_set _ _ _ _ _ _ ho (by omega)] at this)
  have hg1' : Hid (w.grownBy (w.setCell ⟨g, o + 3, none⟩ (.int .u64 (r : Int))) (some g)) := Lib.hid (grown_set w g (o + 3) _)
  have HB := Lib.hid hB
  have HP := Lib.hid ho
  have HA4 := Lib.hid hA4
  have HA := Lib.hid hA
  have HG := Lib.hid hg1
  have HPR := Lib.hid hP
  clear hB ho hA4 hA hg1 hP
  go_enter Tryd.func41, Tryd.ntmps41
  go_wp2
  go_region
  have hB2 := hB1.out.drew
  have hg2 := Lib.hid (grown_drew hg1'.out)
  generalize (w.setCell ⟨g, o + 3, none⟩ (.int .u64 (r : Int))).drew = w1 at *
  clear hB1 hg1'
  have HB2 := Lib.hid hB2
  clear hB2
  have hgl := HB2.out.lt
  have hBx := HB2.out.alloc (.cells (u64s (digs M m 4)) 26)
  have hnew := Blk.new w1 26 (u64s (digs M m 4))
  have hdm : u64s (digs M m 4) = #[.int .u64 (m : Int), .int .u64 0, .int .u64 0, .int .u64 0] := by
    have e : digs M m 4 = [m, 0, 0, 0] := by
      simp only [digs, Nat.mod_eq_of_lt hml, Nat.div_eq_of_lt hml]
      rfl
    rw [e]; rfl
  rw [hdm] at hBx hnew
  have hgb : Hid (w1.grownBy (w1.alloc (.cells #[.int .u64 (m : Int), .int .u64 0, .int .u64 0, .int .u64 0] 26)) (some g)) := Lib.hid (grown_below ((Below.refl _ _).alloc (Nat.le_refl _) _) _)
  have hprw : Hid (PrimeAt (w1.alloc (.cells #[.int .u64 (m : Int), .int .u64 0, .int .u64 0, .int .u64 0] 26))) := Lib.hid ((HPR.out.grown hg2.out HG.out).old ((Below.refl _ _).alloc (Nat.le_refl _) _))
  have HBX := Lib.hid hBx
  have HN := Lib.hid hnew
  have HDM := Lib.hid hdm
  clear hBx hnew hdm
  go_wp2_with fail
  refine (add_any g o t w1.heap.size 0 pre (A.set 3 r) (digs M m 4) post _ HBX.out HP.out (by simpa using HA4.out) (HA.out.set hrl) (digs_length _ _ _) (digs_all (by decide) _ _) ?_).mono ?_
  · intro W L' _ hb hgW j hj
    rw [Nat.zero_add, (HN.out.grown hgW (by intro e; injection e with e; omega)).cell, ← HDM.out, u64s_get _ _ (by rw [digs_length]; exact hj)]
  rintro e w2 ⟨rfl, L, c, hL, hB3, hg3⟩
  have hLe : digs M m 4 = digs M (19 * (2 * top + A.getD 3 0 / 2 ^ 63)) 4 := by rw [hm.out, hU.out, hQ.out, hX.out]
  rw [hLe, hR.out, hX.out] at hL
  obtain ⟨hv, hL4, hLa⟩ := fold_arith HA4.out HA.out ht hL
  have hpr3 := Lib.hid (hprw.out.grown hg3 HG.out)
  have HV := Lib.hid hv
  have HB3 := Lib.hid hB3
  have HG3 := Lib.hid (hg2.out.trans (hgb.out.trans hg3))
  clear hL hv hB3 hg3 hLe
  go_wp2_with fail
  refine (round_any g o t pre L post _ HB3.out HP.out hL4 hLa HG.out hpr3.out).mono ?_
  rintro e w3 ⟨rfl, hB4, hg4⟩
  rw [HV.out] at hB4
  have hfin : Hid (Blk w3 g t (u64s (pre ++ digs M (subP (foldN top (val M A)) P) 4 ++ post)) ∧ w.grownBy w3 (some g)) := Lib.hid ⟨hB4, HG3.out.trans hg4⟩
  clear hB4 hg4
  go_wp2
  go_end0
  exact ⟨rfl, hfin.out⟩
end Go.Proofs.YtphlehinjooncaaDoor
