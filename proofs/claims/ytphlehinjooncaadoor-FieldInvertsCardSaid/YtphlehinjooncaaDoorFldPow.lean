/-
  The contracts of field's squared and ones. Conditions: numbers below p; the prime's limbs stand in their variable; small counts.
-/
import Derived.Test.YtphlehinjooncaaDoorFldElem
import Derived.Test.YtphlehinjooncaaDoorFldRaw
import Derived.Test.YtphlehinjooncaaDoorFldPowM
import Derived.Deep.DeepCutAuto
import Derived.Deep.CutBlock
set_option linter.unusedVariables false
set_option linter.unusedSimpArgs false
namespace Go.Proofs.YtphlehinjooncaaDoor
open Go Go.Proofs Go.RowKit F5

abbrev Z4 : Array Value := #[.int .u64 0, .int .u64 0, .int .u64 0, .int .u64 0]
theorem Z4_size (n : Nat) : Z4.size = (limA n).size := by rw [limA_size]; rfl
/-- Blocks other than g are as they were. -/
def Far (g : Nat) (w w' : World) : Prop := ∀ g' T c, g' ≠ g → Blk w g' T c → Blk w' g' T c
theorem Far.of {g : Nat} {w w' : World} (h : Below w.heap.size w w') : Far g w w' := fun _ _ _ _ hb => hb.old h
theorem Far.row {g : Nat} {w w' : World} (h : Far g w w') (c : Array Value) : Far g w (w'.setRow g c) := fun g' T c' hne hb => (h g' T c' hne hb).rowFar hne c

/-- Elements that stand in blocks: the first and the second new one. -/
def Two2 (w : World) (a b : Array Value) (wr : World) : Prop := Blk wr w.heap.size 28 a ∧ Blk wr (w.heap.size + 1) 28 b ∧ Below w.heap.size w wr
theorem Two2.new (w : World) (a b : Array Value) : Two2 w a b ((w.alloc (.cells a 28)).alloc (.cells b 28)) := by
  refine ⟨(Blk.new w 28 a).alloc _, ?_, ((Below.refl _ _).alloc (Nat.le_refl _) _).alloc (by simp) _⟩
  have := Blk.new (w.alloc (.cells a 28)) 28 b
  rwa [show (w.alloc (.cells a 28)).heap.size = w.heap.size + 1 by simp] at this
theorem Two2.next {w wr w' : World} {a b : Array Value} (h : Two2 w a b wr) (hb : Below wr.heap.size wr w') : Two2 w a b w' := ⟨h.1.old hb, h.2.1.old hb, h.2.2.trans (hb.mono h.2.2.size)⟩
theorem Two2.drew {w wr : World} {a b : Array Value} (h : Two2 w a b wr) : Two2 w a b wr.drew := ⟨h.1.drew, h.2.1.drew, h.2.2.drew⟩
theorem Two2.fst {w wr : World} {a b : Array Value} (h : Two2 w a b wr) (c : Array Value) : Two2 w c b (wr.setRow w.heap.size c) := ⟨h.1.row c, h.2.1.rowFar (by omega) c, below_row h.2.2 (Nat.le_refl _) c⟩
theorem Two2.snd {w wr : World} {a b : Array Value} (h : Two2 w a b wr) (c : Array Value) : Two2 w a c (wr.setRow (w.heap.size + 1) c) := ⟨h.1.rowFar (by omega) c, h.2.1.row c, below_row h.2.2 (by omega) c⟩
theorem Two2.far {w wr : World} {a b : Array Value} (h : Two2 w a b wr) {g : Nat} (hg : w.heap.size + 1 < g) (c : Array Value) : Two2 w a b (wr.setRow g c) := ⟨h.1.rowFar (by omega) c, h.2.1.rowFar (by omega) c, below_row h.2.2 (by omega) c⟩
theorem Two2.lt {w wr : World} {a b : Array Value} (h : Two2 w a b wr) : w.heap.size + 1 < wr.heap.size := h.2.1.lt

set_option maxHeartbeats 4000000 in
theorem squared_any (n c : Nat) (hn : n < P) (hc : c ≤ 1000) (w : World) (hP : PrimeAt w) :
    Calls Tryd.prog 35 #[elemV n, .int .i64 (c : Int)] w fun e w' => e = .returned (elemV (pw n (2 ^ c))) ∧ Below w.heap.size w w' := by
  unfold elemV
  obtain ⟨cn, hcn⟩ : ∃ c, Hid (c = limA n) := ⟨_, Lib.hid rfl⟩
  rw [← hcn.out]
  have HP := Lib.hid hP
  have HN := Lib.hid hn
  clear hP hn
  go_enter Tryd.func35, Tryd.ntmps35
  go_wp2_with fail
  have h2 := Two2.new w cn Z4
  unfold Z4 at h2
  generalize (w.alloc (.cells cn 28)).alloc (.cells #[.int .u64 0, .int .u64 0, .int .u64 0, .int .u64 0] 28) = W at *
  rw [hcn.out] at h2
  go_loopg [6] c (fun g iv wr => ∃ i : Nat, iv = .int .i64 (i : Nat) ∧ g + i = c ∧ Two2 w (limA (pw n (2 ^ i))) #[.int .u64 0, .int .u64 0, .int .u64 0, .int .u64 0] wr)
  case atStart => exact ⟨0, rfl, rfl, by rw [show 2 ^ 0 = 1 from rfl, pw_one HN.out]; exact h2⟩
  case round =>
    obtain ⟨i, rfl, hg, hT⟩ := hrel
    clear h2
    have HT := Lib.hid hT
    clear hT
    by_cases hlt : i < c
    · obtain ⟨x, hx⟩ : ∃ x, Hid (x = limA (pw n (2 ^ i))) := ⟨_, Lib.hid rfl⟩
      have hRi := Lib.hid (limA_infoE (pw n (2 ^ i)))
      have hRi2 := Lib.hid (limA_infoE (pw n (2 ^ (i + 1))))
      have hR12 := Lib.hid (limA_one (pw n (2 ^ (i + 1))))
      have hzz : Hid ((limA (pw n (2 ^ i))).size = (limA (pw n (2 ^ (i + 1)))).size) := Lib.hid (by rw [limA_size, limA_size])
      rw [← hx.out] at HT hRi hzz
      have hmul := mul_e (pw n (2 ^ i)) (pw n (2 ^ i)) (pw_lt _ _) (pw_lt _ _) wr (HP.out.old HT.out.2.2)
      rw [pw_add, show 2 ^ i + 2 ^ i = 2 ^ (i + 1) by rw [Nat.pow_succ]; omega] at hmul
      unfold elemV at hmul
      rw [← hx.out] at hmul
      obtain ⟨y, hy⟩ : ∃ y, Hid (y = limA (pw n (2 ^ (i + 1)))) := ⟨_, Lib.hid rfl⟩
      rw [← hy.out] at hmul hRi2 hR12 hzz
      have HMUL := Lib.hid hmul
      clear hmul
      go_wp2_with (first | (refine wpList_load_row rfl 28 (.tmp 2) rfl w.heap.size rfl 28 x (0, 0) _ HT.out.1 Tryd.underlying28 rfl hRi.out ?_))
      refine HMUL.out.mono ?_
      rintro e w1 ⟨rfl, hb1⟩
      have HT1 := Lib.hid (HT.out.next hb1)
      clear hb1
      have HT2 := Lib.hid (HT1.out.fst y)
      go_wp2_with (first | (refine wpList_store_row rfl 28 (.tmp 2) (.tmp 10) rfl w.heap.size y rfl rfl 28 x HT1.out.1 hRi2.out hzz.out hR12.out ?_))
      go_roundg (gk - 1)
      case measure => omega
      case rel => exact ⟨i + 1, by go_num, by omega, by rw [← hy.out]; exact HT2.out⟩
    · obtain rfl : i = c := by omega
      obtain ⟨R, hR⟩ : ∃ R, Hid (R = limA (pw n (2 ^ i))) := ⟨_, Lib.hid rfl⟩
      have hRi := Lib.hid (limA_infoE (pw n (2 ^ i)))
      have hR1 := Lib.hid (limA_one (pw n (2 ^ i)))
      have hzz := Lib.hid (Z4_size (pw n (2 ^ i)))
      rw [← hR.out] at hRi hR1 hzz HT
      go_wp2_with (first | (refine wpList_load_row rfl 28 (.tmp 2) rfl w.heap.size rfl 28 R (0, 0) _ HT.out.1 Tryd.underlying28 rfl hRi.out ?_) |
        (refine wpList_store_row rfl 28 (.tmp 4) (.tmp 12) rfl (w.heap.size + 1) R rfl rfl 28 _ HT.out.2.1 hRi.out hzz.out hR1.out ?_))
      refine bodyPost_ret (v := .agg R) ?_ rfl ⟨by rw [hR.out], (HT.out.snd R).2.2⟩
      exact results_cell_row Tryd.results35 _ _ (w.heap.size + 1) 28 R (0, 0) _ rfl (HT.out.snd R).2.1 Tryd.underlying28 rfl hRi.out

theorem alloc_new {B : Nat} {w w' : World} (h : Below B w w') (T : TypeId) (z : Array Value) : Blk (w'.alloc (.cells z T)) w'.heap.size T z := Blk.new _ _ _
/-- A third element, in a block behind the two. -/
def Three2 (w : World) (a b c : Array Value) (g : Nat) (wr : World) : Prop := Two2 w a b wr ∧ Blk wr g 28 c ∧ w.heap.size + 1 < g
theorem Three2.next {w wr w' : World} {a b c : Array Value} {g : Nat} (h : Three2 w a b c g wr) (hb : Below wr.heap.size wr w') : Three2 w a b c g w' := ⟨h.1.next hb, h.2.1.old hb, h.2.2⟩
theorem Three2.third {w wr : World} {a b c : Array Value} {g : Nat} (h : Three2 w a b c g wr) (d : Array Value) : Three2 w a b d g (wr.setRow g d) := ⟨h.1.far h.2.2 d, h.2.1.row d, h.2.2⟩

set_option maxHeartbeats 8000000 in
theorem ones_any (c : Nat) : 1 ≤ c → c ≤ 1000 → ∀ (n : Nat) (w : World), n < P → PrimeAt w →
    Calls Tryd.prog 36 #[elemV n, .int .i64 (c : Int)] w fun e w' => e = .returned (elemV (pw n (2 ^ c - 1))) ∧ Below w.heap.size w w' := by
  induction c using Nat.strongRecOn with
  | _ c ih =>
  intro hc1 hc n w hn hP
  unfold elemV
  obtain ⟨cn, hcn⟩ : ∃ c, Hid (c = limA n) := ⟨_, Lib.hid rfl⟩
  rw [← hcn.out]
  have HP := Lib.hid hP
  have HN := Lib.hid hn
  have IH := Lib.hid ih
  have hni : Hid ((Tryd.prog.info? 28).map (·.size) = some cn.size) := by rw [hcn.out]; exact Lib.hid (limA_infoE n)
  clear hP hn ih
  by_cases h1 : c = 1
  · subst h1
    have hz : Hid (Array.size (#[.int .u64 0, .int .u64 0, .int .u64 0, .int .u64 0] : Array Value) = cn.size) := by rw [hcn.out]; exact Lib.hid (Z4_size n)
    have ho : Hid (cn.all (·.oneCell') = true) := by rw [hcn.out]; exact Lib.hid (limA_one n)
    have hR : Hid (cn = limA (pw n (2 ^ 1 - 1))) := by rw [show 2 ^ 1 - 1 = 1 from rfl, pw_one HN.out]; exact hcn
    have H2 := Lib.hid (Two2.new w cn #[.int .u64 0, .int .u64 0, .int .u64 0, .int .u64 0])
    go_enter Tryd.func36, Tryd.ntmps36
    go_wp2_with (first | (refine wpList_load_row rfl 28 (.tmp 2) rfl w.heap.size rfl 28 cn (0, 0) _ H2.out.1 Tryd.underlying28 rfl hni.out ?_) |
        (refine wpList_store_row rfl 28 (.tmp 4) (.tmp 9) rfl (w.heap.size + 1) cn rfl rfl 28 _ H2.out.2.1 hni.out hz.out ho.out ?_))
    refine bodyPost_ret (v := .agg cn) ?_ rfl ⟨by rw [hR.out], (H2.out.snd cn).2.2⟩
    exact results_cell_row Tryd.results36 _ _ (w.heap.size + 1) 28 cn (0, 0) _ rfl (H2.out.snd cn).2.1 Tryd.underlying28 rfl hni.out
  obtain ⟨h, hh⟩ := named (c / 2)
  have hcc : ((c : Int) == 1) = false := by simp; omega
  have d2 : (c : Int).tdiv 2 = (h : Int) := by rw [Int.tdiv_eq_ediv_of_nonneg (by omega), hh.out]; omega
  have d1 : (c : Int) / 2 = (h : Int) := by rw [hh.out]; omega
  have wh : IntKind.i64.wrap (h : Int) = (h : Int) := IntWalk.i64_in _ (by rw [hh.out]; omega)
  have hsml : h < c ∧ 1 ≤ h ∧ h ≤ 1000 := by rw [hh.out]; omega
  have hih := IH.out h hsml.1 hsml.2.1 hsml.2.2 n
  have HIH : Hid (∀ V, PrimeAt V → Calls Tryd.prog 36 #[.agg cn, .int .i64 (h : Int)] V fun e w' => e = .returned (.agg (limA (pw n (2 ^ h - 1)))) ∧ Below V.heap.size V w') := Lib.hid fun V hV => by rw [hcn.out]; exact hih V HN.out hV
  have HSQ : Hid (∀ V, PrimeAt V → Calls Tryd.prog 35 #[.agg (limA (pw n (2 ^ h - 1))), .int .i64 (h : Int)] V fun e w' => e = .returned (.agg (limA (pw n ((2 ^ h - 1) * 2 ^ h)))) ∧ Below V.heap.size V w') := Lib.hid fun V hV => by
    have := squared_any (pw n (2 ^ h - 1)) h (pw_lt _ _) hsml.2.2 V hV
    rwa [pw_pw] at this
  have hml1 : (2 ^ h - 1) * 2 ^ h + (2 ^ h - 1) = 2 ^ (2 * h) - 1 := by
    have hp : 1 ≤ 2 ^ h := Nat.one_le_two_pow
    rw [Nat.two_mul, Nat.pow_add]
    generalize 2 ^ h = z at *
    obtain ⟨y, rfl⟩ : ∃ y, z = y + 1 := ⟨z - 1, by omega⟩
    simp only [Nat.add_sub_cancel, Nat.mul_add, Nat.add_mul, Nat.mul_one, Nat.one_mul]
    omega
  have HML : Hid (∀ V, PrimeAt V → Calls Tryd.prog 21 #[.agg (limA (pw n ((2 ^ h - 1) * 2 ^ h))), .agg (limA (pw n (2 ^ h - 1)))] V fun e w' => e = .returned (.agg (limA (pw n (2 ^ (2 * h) - 1)))) ∧ Below V.heap.size V w') := Lib.hid fun V hV => by
    have := mul_e (pw n ((2 ^ h - 1) * 2 ^ h)) (pw n (2 ^ h - 1)) (pw_lt _ _) (pw_lt _ _) V hV
    rwa [pw_add, hml1] at this
  have HSQ1 : Hid (∀ V, PrimeAt V → Calls Tryd.prog 35 #[.agg (limA (pw n (2 ^ (2 * h) - 1))), .int .i64 1] V fun e w' => e = .returned (.agg (limA (pw n ((2 ^ (2 * h) - 1) * 2)))) ∧ Below V.heap.size V w') := Lib.hid fun V hV => by
    have := squared_any (pw n (2 ^ (2 * h) - 1)) 1 (pw_lt _ _) (by omega) V hV
    rwa [pw_pw] at this
  have hml2 : (2 ^ (2 * h) - 1) * 2 + 1 = 2 ^ (2 * h + 1) - 1 := by
    have hp : 1 ≤ 2 ^ (2 * h) := Nat.one_le_two_pow
    rw [Nat.pow_succ]
    omega
  have HML1 : Hid (∀ V, PrimeAt V → Calls Tryd.prog 21 #[.agg (limA (pw n ((2 ^ (2 * h) - 1) * 2))), .agg cn] V fun e w' => e = .returned (.agg (limA (pw n (2 ^ (2 * h + 1) - 1)))) ∧ Below V.heap.size V w') := Lib.hid fun V hV => by
    have := mul_e (pw n ((2 ^ (2 * h) - 1) * 2)) n (pw_lt _ _) HN.out V hV
    rw [pw_next HN.out, hml2] at this
    rw [hcn.out]; exact this
  obtain ⟨ch, hch⟩ : ∃ x, Hid (x = limA (pw n (2 ^ h - 1))) := ⟨_, Lib.hid rfl⟩
  obtain ⟨cq, hcq⟩ : ∃ x, Hid (x = limA (pw n ((2 ^ h - 1) * 2 ^ h))) := ⟨_, Lib.hid rfl⟩
  obtain ⟨cb, hcb⟩ : ∃ x, Hid (x = limA (pw n (2 ^ (2 * h) - 1))) := ⟨_, Lib.hid rfl⟩
  obtain ⟨cs, hcs⟩ : ∃ x, Hid (x = limA (pw n ((2 ^ (2 * h) - 1) * 2))) := ⟨_, Lib.hid rfl⟩
  obtain ⟨cd, hcd⟩ : ∃ x, Hid (x = limA (pw n (2 ^ (2 * h + 1) - 1))) := ⟨_, Lib.hid rfl⟩
  rw [← hch.out] at HIH HSQ HML
  rw [← hcq.out] at HSQ HML
  rw [← hcb.out] at HML HSQ1
  rw [← hcs.out] at HSQ1 HML1
  rw [← hcd.out] at HML1
  have okh : Hid ((Tryd.prog.info? 28).map (·.size) = some ch.size ∧ ch.all (·.oneCell') = true ∧ Array.size (#[.int .u64 0, .int .u64 0, .int .u64 0, .int .u64 0] : Array Value) = ch.size) := by rw [hch.out]; exact Lib.hid ⟨limA_infoE _, limA_one _, Z4_size _⟩
  have okb : Hid ((Tryd.prog.info? 28).map (·.size) = some cb.size ∧ cb.all (·.oneCell') = true ∧ Array.size (#[.int .u64 0, .int .u64 0, .int .u64 0, .int .u64 0] : Array Value) = cb.size ∧ cb.size = cd.size) := by rw [hcb.out, hcd.out]; exact Lib.hid ⟨limA_infoE _, limA_one _, Z4_size _, by rw [limA_size, limA_size]⟩
  have okd : Hid ((Tryd.prog.info? 28).map (·.size) = some cd.size ∧ cd.all (·.oneCell') = true ∧ Array.size (#[.int .u64 0, .int .u64 0, .int .u64 0, .int .u64 0] : Array Value) = cd.size) := by rw [hcd.out]; exact Lib.hid ⟨limA_infoE _, limA_one _, Z4_size _⟩
  have h2 := Two2.new w cn #[.int .u64 0, .int .u64 0, .int .u64 0, .int .u64 0]
  clear hih hml1 hml2
  go_enter Tryd.func36, Tryd.ntmps36
  go_upto_region 3 with fail
  generalize (w.alloc (.cells cn 28)).alloc (.cells #[.int .u64 0, .int .u64 0, .int .u64 0, .int .u64 0] 28) = W at *
  have H2 := Lib.hid h2
  clear h2
  go_upto_region 4 with (first | (refine wpList_load_row rfl 28 (.tmp 2) rfl w.heap.size rfl 28 cn (0, 0) _ H2.out.1 Tryd.underlying28 rfl hni.out ?_))
  refine (HIH.out _ (HP.out.old H2.out.2.2)).mono ?_
  rintro e w1 ⟨rfl, hb1⟩
  have H21 := Lib.hid (H2.out.next hb1)
  clear hb1
  go_upto_region 4 with (first | (refine wpList_store_row rfl 28 (.tmp 5) (.tmp 13) rfl w1.heap.size ch rfl rfl 28 _ (heap_alloc_new w1 _) okh.out.1 okh.out.2.2 okh.out.2.1 ?_; rw [setRow_alloc1]))
  have h3 : Three2 w cn #[.int .u64 0, .int .u64 0, .int .u64 0, .int .u64 0] ch w1.heap.size (w1.alloc (.cells ch 28)) := ⟨H21.out.next ((Below.refl _ _).alloc (Nat.le_refl _) _), Blk.new _ _ _, H21.out.lt⟩
  generalize w1.alloc (.cells ch 28) = W1 at *
  generalize w1.heap.size = g5 at *
  have H3 := Lib.hid h3
  clear h3
  (try simp only [Act.put, List.setIfInBounds_toArray, List.set_cons_zero, List.set_cons_succ])
  go_cut [6] (fun p6 wx => ∃ g6, p6 = .pointer (some ⟨g6, 0, none⟩) ∧ Three2 w cn #[.int .u64 0, .int .u64 0, .int .u64 0, .int .u64 0] cb g6 wx)
  case first =>
    refine wp_region_held_drew (S := fun V => Below W1.heap.size W1 V) (by kernel_rfl) (Below.refl _ _).drew (fun hHeld => ?_)
    have HB0 := Lib.hid ((Below.refl W1.heap.size W1).drew)
    generalize W1.drew = V0 at *
    refine' wpAnyH_take (i := 0) (oi := _) (v := .agg ch) ?hit1 ?hst1 ?hft1 ?hrt1 ?hQt1 ?hyt1 ?hSt1 ?_
    case hit1 => (simp only [List.getElem?_toArray, List.getElem?_cons_succ, List.getElem?_cons_zero]; rfl)
    case hst1 => kernel_rfl
    case hft1 => kernel_rfl
    case hrt1 => kernel_rfl
    case hQt1 => exact fun _ _ _ h => h
    case hSt1 => assumption
    case hyt1 =>
      refine Or.inl ⟨by rfl, ?_⟩
      intro W hS
      exact quiet_load_row 28 (.tmp 5) _ rfl 28 ch _ (H3.out.2.1.old hS) Tryd.underlying28 rfl okh.out.1 rfl
    (try simp only [Act.put, List.setIfInBounds_toArray, List.set_cons_zero, List.set_cons_succ])
    refine' wpAnyH_take (i := 1) (oi := _) (v := _) ?hit2 ?hst2 ?hft2 ?hrt2 ?hQt2 ?hyt2 ?hSt2 ?_
    case hit2 => (simp only [List.getElem?_toArray, List.getElem?_cons_succ, List.getElem?_cons_zero]; rfl)
    case hst2 => kernel_rfl
    case hft2 => kernel_rfl
    case hrt2 => kernel_rfl
    case hQt2 => exact fun _ _ _ h => h
    case hSt2 => assumption
    case hyt2 =>
      refine Or.inl ⟨by rfl, ?_⟩
      intro w hSw
      (try dsimp only at hSw)
      go_simp
      all_goals (with_reducible rfl)
    (try simp only [Act.put, List.setIfInBounds_toArray, List.set_cons_zero, List.set_cons_succ])
    refine' wpAnyH_take (i := 2) (oi := _) (v := _) ?hit3 ?hst3 ?hft3 ?hrt3 ?hQt3 ?hyt3 ?hSt3 ?_
    case hit3 => (simp only [List.getElem?_toArray, List.getElem?_cons_succ, List.getElem?_cons_zero]; rfl)
    case hst3 => kernel_rfl
    case hft3 => kernel_rfl
    case hrt3 => kernel_rfl
    case hQt3 => exact fun _ _ _ h => h
    case hSt3 => assumption
    case hyt3 =>
      refine Or.inl ⟨by rfl, ?_⟩
      intro w hSw
      (try dsimp only at hSw)
      go_simp
      all_goals (with_reducible rfl)
    (try simp only [Act.put, List.setIfInBounds_toArray, List.set_cons_zero, List.set_cons_succ])
    refine' wpAnyH_take (i := 4) (oi := _) (v := .agg ch) ?hit4 ?hst4 ?hft4 ?hrt4 ?hQt4 ?hyt4 ?hSt4 ?_
    case hit4 => (simp only [List.getElem?_toArray, List.getElem?_cons_succ, List.getElem?_cons_zero]; rfl)
    case hst4 => kernel_rfl
    case hft4 => kernel_rfl
    case hrt4 => kernel_rfl
    case hQt4 => exact fun _ _ _ h => h
    case hSt4 => assumption
    case hyt4 =>
      refine Or.inl ⟨by rfl, ?_⟩
      intro W hS
      exact quiet_load_row 28 (.tmp 5) _ rfl 28 ch _ (H3.out.2.1.old hS) Tryd.underlying28 rfl okh.out.1 rfl
    (try simp only [Act.put, List.setIfInBounds_toArray, List.set_cons_zero, List.set_cons_succ])
    refine wpAnyH_ready (rs := [3, 6]) (by kernel_rfl) (by simp) ?_
    refine' (AllReadyH.cons (o := _) ?hir5_3 (fun K hK => ?br5_3) (AllReadyH.cons (o := _) ?hir5_6 (fun K hK => ?br5_6) AllReadyH.nil))
    case hir5_3 => (simp only [List.getElem?_toArray, List.getElem?_cons_succ, List.getElem?_cons_zero]; rfl)
    case hir5_6 => (simp only [List.getElem?_toArray, List.getElem?_cons_succ, List.getElem?_cons_zero]; rfl)
    case br5_3 =>
      go_simp
      refine (HSQ.out _ (HP.out.old (H3.out.1.2.2.trans (HB0.out.mono H3.out.1.2.2.size)))).mono ?_
      rintro e w6 ⟨rfl, hb6⟩
      have H6 := Lib.hid (HB0.out.trans (hb6.mono HB0.out.size))
      clear hb6
      go_wp2_with fail
      refine hK.out _ _ ?_ (fun hHeld => ?_)
      exact H6.out
      clear hK K
      (try simp only [Act.put, List.setIfInBounds_toArray, List.set_cons_zero, List.set_cons_succ])
      refine wpAnyH_ready (rs := [5, 6]) (by kernel_rfl) (by simp) ?_
      refine' (AllReadyH.cons (o := _) ?hir7_5 (fun K hK => ?br7_5) (AllReadyH.cons (o := _) ?hir7_6 (fun K hK => ?br7_6) AllReadyH.nil))
      case hir7_5 => (simp only [List.getElem?_toArray, List.getElem?_cons_succ, List.getElem?_cons_zero]; rfl)
      case hir7_6 => (simp only [List.getElem?_toArray, List.getElem?_cons_succ, List.getElem?_cons_zero]; rfl)
      case br7_5 =>
        go_simp
        refine (HML.out _ (HP.out.old (H3.out.1.2.2.trans (H6.out.mono H3.out.1.2.2.size)))).mono ?_
        rintro e w8 ⟨rfl, hb8⟩
        have H8 := Lib.hid (H6.out.trans (hb8.mono H6.out.size))
        clear hb8
        go_wp2_with fail
        refine hK.out _ _ ?_ (fun hHeld => ?_)
        exact H8.out
        clear hK K
        (try simp only [Act.put, List.setIfInBounds_toArray, List.set_cons_zero, List.set_cons_succ])
        refine wpAnyH_ready (rs := [6]) (by kernel_rfl) (by simp) ?_
        refine' (AllReadyH.cons (o := _) ?hir9_6 (fun K hK => ?br9_6) AllReadyH.nil)
        case hir9_6 => (simp only [List.getElem?_toArray, List.getElem?_cons_succ, List.getElem?_cons_zero]; rfl)
        case br9_6 =>
          go_simp
          refine hK.out _ _ ?_ (fun hHeld => ?_)
          · exact H8.out.alloc H8.out.size _
          have H10 := Lib.hid (H8.out.alloc H8.out.size (.cells #[.int .u64 0, .int .u64 0, .int .u64 0, .int .u64 0] 28))
          have N6_10 := Lib.hid (alloc_new H8.out 28 #[.int .u64 0, .int .u64 0, .int .u64 0, .int .u64 0])
          have G6_10 := Lib.hid H8.out.size
          clear hK K
          (try simp only [Act.put, List.setIfInBounds_toArray, List.set_cons_zero, List.set_cons_succ])
          refine wpAnyH_ready (rs := [7]) (by kernel_rfl) (by simp) ?_
          refine' (AllReadyH.cons (o := _) ?hir11_7 (fun K hK => ?br11_7) AllReadyH.nil)
          case hir11_7 => (simp only [List.getElem?_toArray, List.getElem?_cons_succ, List.getElem?_cons_zero]; rfl)
          case br11_7 =>
            refine step_of_wp rfl ?_
            refine wp_store_row 28 (.tmp 6) (.tmp 19) rfl _ cb rfl rfl 28 _ N6_10.out okb.out.1 okb.out.2.2.1 okb.out.2.1 ?_
            refine hK.out _ _ ?_ (fun hHeld => ?_)
            exact below_row H10.out G6_10.out _
            clear hK K
            (try simp only [Act.put, List.setIfInBounds_toArray, List.set_cons_zero, List.set_cons_succ])
            refine wpAnyH_done (by kernel_rfl) ?_ _
            go_wp2_with fail
            go_meet
            exact ⟨_, rfl, (H3.out.1.next H10.out).far (by have := H3.out.1.lt; have := G6_10.out; omega) _, N6_10.out.row _, by have := H3.out.1.lt; have := G6_10.out; omega⟩
      case br7_6 =>
        go_simp
        refine hK.out _ _ ?_ (fun hHeld => ?_)
        · exact H6.out.alloc H6.out.size _
        have H13 := Lib.hid (H6.out.alloc H6.out.size (.cells #[.int .u64 0, .int .u64 0, .int .u64 0, .int .u64 0] 28))
        have N6_13 := Lib.hid (alloc_new H6.out 28 #[.int .u64 0, .int .u64 0, .int .u64 0, .int .u64 0])
        have G6_13 := Lib.hid H6.out.size
        clear hK K
        (try simp only [Act.put, List.setIfInBounds_toArray, List.set_cons_zero, List.set_cons_succ])
        refine wpAnyH_ready (rs := [5]) (by kernel_rfl) (by simp) ?_
        refine' (AllReadyH.cons (o := _) ?hir14_5 (fun K hK => ?br14_5) AllReadyH.nil)
        case hir14_5 => (simp only [List.getElem?_toArray, List.getElem?_cons_succ, List.getElem?_cons_zero]; rfl)
        case br14_5 =>
          go_simp
          refine (HML.out _ (HP.out.old (H3.out.1.2.2.trans (H13.out.mono H3.out.1.2.2.size)))).mono ?_
          rintro e w15 ⟨rfl, hb15⟩
          have H15 := Lib.hid (H13.out.trans (hb15.mono H13.out.size))
          have N6_15 := Lib.hid (N6_13.out.old hb15)
          clear hb15
          go_wp2_with fail
          refine hK.out _ _ ?_ (fun hHeld => ?_)
          exact H15.out
          clear hK K
          (try simp only [Act.put, List.setIfInBounds_toArray, List.set_cons_zero, List.set_cons_succ])
          refine wpAnyH_ready (rs := [7]) (by kernel_rfl) (by simp) ?_
          refine' (AllReadyH.cons (o := _) ?hir16_7 (fun K hK => ?br16_7) AllReadyH.nil)
          case hir16_7 => (simp only [List.getElem?_toArray, List.getElem?_cons_succ, List.getElem?_cons_zero]; rfl)
          case br16_7 =>
            refine step_of_wp rfl ?_
            refine wp_store_row 28 (.tmp 6) (.tmp 19) rfl _ cb rfl rfl 28 _ N6_15.out okb.out.1 okb.out.2.2.1 okb.out.2.1 ?_
            refine hK.out _ _ ?_ (fun hHeld => ?_)
            exact below_row H15.out G6_13.out _
            clear hK K
            (try simp only [Act.put, List.setIfInBounds_toArray, List.set_cons_zero, List.set_cons_succ])
            refine wpAnyH_done (by kernel_rfl) ?_ _
            go_wp2_with fail
            go_meet
            exact ⟨_, rfl, (H3.out.1.next H15.out).far (by have := H3.out.1.lt; have := G6_13.out; omega) _, N6_15.out.row _, by have := H3.out.1.lt; have := G6_13.out; omega⟩
    case br5_6 =>
      go_simp
      refine hK.out _ _ ?_ (fun hHeld => ?_)
      · exact HB0.out.alloc HB0.out.size _
      have H18 := Lib.hid (HB0.out.alloc HB0.out.size (.cells #[.int .u64 0, .int .u64 0, .int .u64 0, .int .u64 0] 28))
      have N6_18 := Lib.hid (alloc_new HB0.out 28 #[.int .u64 0, .int .u64 0, .int .u64 0, .int .u64 0])
      have G6_18 := Lib.hid HB0.out.size
      clear hK K
      (try simp only [Act.put, List.setIfInBounds_toArray, List.set_cons_zero, List.set_cons_succ])
      refine wpAnyH_ready (rs := [3]) (by kernel_rfl) (by simp) ?_
      refine' (AllReadyH.cons (o := _) ?hir19_3 (fun K hK => ?br19_3) AllReadyH.nil)
      case hir19_3 => (simp only [List.getElem?_toArray, List.getElem?_cons_succ, List.getElem?_cons_zero]; rfl)
      case br19_3 =>
        go_simp
        refine (HSQ.out _ (HP.out.old (H3.out.1.2.2.trans (H18.out.mono H3.out.1.2.2.size)))).mono ?_
        rintro e w20 ⟨rfl, hb20⟩
        have H20 := Lib.hid (H18.out.trans (hb20.mono H18.out.size))
        have N6_20 := Lib.hid (N6_18.out.old hb20)
        clear hb20
        go_wp2_with fail
        refine hK.out _ _ ?_ (fun hHeld => ?_)
        exact H20.out
        clear hK K
        (try simp only [Act.put, List.setIfInBounds_toArray, List.set_cons_zero, List.set_cons_succ])
        refine wpAnyH_ready (rs := [5]) (by kernel_rfl) (by simp) ?_
        refine' (AllReadyH.cons (o := _) ?hir21_5 (fun K hK => ?br21_5) AllReadyH.nil)
        case hir21_5 => (simp only [List.getElem?_toArray, List.getElem?_cons_succ, List.getElem?_cons_zero]; rfl)
        case br21_5 =>
          go_simp
          refine (HML.out _ (HP.out.old (H3.out.1.2.2.trans (H20.out.mono H3.out.1.2.2.size)))).mono ?_
          rintro e w22 ⟨rfl, hb22⟩
          have H22 := Lib.hid (H20.out.trans (hb22.mono H20.out.size))
          have N6_22 := Lib.hid (N6_20.out.old hb22)
          clear hb22
          go_wp2_with fail
          refine hK.out _ _ ?_ (fun hHeld => ?_)
          exact H22.out
          clear hK K
          (try simp only [Act.put, List.setIfInBounds_toArray, List.set_cons_zero, List.set_cons_succ])
          refine wpAnyH_ready (rs := [7]) (by kernel_rfl) (by simp) ?_
          refine' (AllReadyH.cons (o := _) ?hir23_7 (fun K hK => ?br23_7) AllReadyH.nil)
          case hir23_7 => (simp only [List.getElem?_toArray, List.getElem?_cons_succ, List.getElem?_cons_zero]; rfl)
          case br23_7 =>
            refine step_of_wp rfl ?_
            refine wp_store_row 28 (.tmp 6) (.tmp 19) rfl _ cb rfl rfl 28 _ N6_22.out okb.out.1 okb.out.2.2.1 okb.out.2.1 ?_
            refine hK.out _ _ ?_ (fun hHeld => ?_)
            exact below_row H22.out G6_18.out _
            clear hK K
            (try simp only [Act.put, List.setIfInBounds_toArray, List.set_cons_zero, List.set_cons_succ])
            refine wpAnyH_done (by kernel_rfl) ?_ _
            go_wp2_with fail
            go_meet
            exact ⟨_, rfl, (H3.out.1.next H22.out).far (by have := H3.out.1.lt; have := G6_18.out; omega) _, N6_22.out.row _, by have := H3.out.1.lt; have := G6_18.out; omega⟩
  case rest =>
    obtain ⟨g6, rfl, h6⟩ := hcut
    have H6 := Lib.hid h6
    clear h6
    have hcase : c = 2 * h ∨ c = 2 * h + 1 := by rw [hh.out]; omega
    rcases hcase with hce | hce
    · have m1 : (c : Int).tmod 2 = 0 := by rw [Int.tmod_eq_emod_of_nonneg (by omega)]; omega
      have m2 : (c : Int) % 2 = 0 := by omega
      have hres : Hid (cb = limA (pw n (2 ^ c - 1))) := by rw [hce]; exact hcb
      clear hce
      go_wp2_with (first | (refine wpList_load_row rfl 28 (.tmp 6) rfl g6 rfl 28 cb (0, 0) _ H6.out.2.1 Tryd.underlying28 rfl okb.out.1 ?_) |
        (refine wpList_store_row rfl 28 (.tmp 4) (.tmp 27) rfl (w.heap.size + 1) cb rfl rfl 28 _ H6.out.1.2.1 okb.out.1 okb.out.2.2.1 okb.out.2.1 ?_))
      refine bodyPost_ret (v := .agg cb) ?_ rfl ⟨by rw [hres.out], (H6.out.1.snd cb).2.2⟩
      exact results_cell_row Tryd.results36 _ _ (w.heap.size + 1) 28 cb (0, 0) _ rfl (H6.out.1.snd cb).2.1 Tryd.underlying28 rfl okb.out.1
    · have m1 : (c : Int).tmod 2 = 1 := by rw [Int.tmod_eq_emod_of_nonneg (by omega)]; omega
      have m2 : (c : Int) % 2 = 1 := by omega
      have hres : Hid (cd = limA (pw n (2 ^ c - 1))) := by rw [hce]; exact hcd
      clear hce
      go_upto_region 6 with fail
      generalize wc = W2 at *
      refine wp_region_held_drew (S := fun V => Far g6 W2 V) (by kernel_rfl) (Far.of (Below.refl _ _).drew) (fun hHeld => ?_)
      have HB1 := Lib.hid ((Below.refl W2.heap.size W2).drew)
      generalize W2.drew = V1 at *
      refine' wpAnyH_take (i := 2) (oi := _) (v := .agg cn) ?hit25 ?hst25 ?hft25 ?hrt25 ?hQt25 ?hyt25 ?hSt25 ?_
      case hit25 => (simp only [List.getElem?_toArray, List.getElem?_cons_succ, List.getElem?_cons_zero]; rfl)
      case hst25 => kernel_rfl
      case hft25 => kernel_rfl
      case hrt25 => kernel_rfl
      case hQt25 => exact fun _ _ _ h => h
      case hSt25 => assumption
      case hyt25 =>
        refine Or.inl ⟨by rfl, ?_⟩
        intro W hS
        exact quiet_load_row 28 (.tmp 2) _ rfl 28 cn _ (hS _ _ _ (by have := H6.out.2.2; omega) H6.out.1.1) Tryd.underlying28 rfl hni.out rfl
      (try simp only [Act.put, List.setIfInBounds_toArray, List.set_cons_zero, List.set_cons_succ])
      refine wpAnyH_ready (rs := [0]) (by kernel_rfl) (by simp) ?_
      refine' (AllReadyH.cons (o := _) ?hir26_0 (fun K hK => ?br26_0) AllReadyH.nil)
      case hir26_0 => (simp only [List.getElem?_toArray, List.getElem?_cons_succ, List.getElem?_cons_zero]; rfl)
      case br26_0 =>
        refine step_of_wp rfl ?_
        refine wp_load_row 28 (.tmp 6) rfl g6 rfl 28 cb (0, 0) _ (H6.out.2.1.old HB1.out) Tryd.underlying28 rfl okb.out.1 ?_
        refine hK.out _ _ ?_ (fun hHeld => ?_)
        exact Far.of HB1.out
        clear hK K
        (try simp only [Act.put, List.setIfInBounds_toArray, List.set_cons_zero, List.set_cons_succ])
        refine wpAnyH_ready (rs := [1]) (by kernel_rfl) (by simp) ?_
        refine' (AllReadyH.cons (o := _) ?hir28_1 (fun K hK => ?br28_1) AllReadyH.nil)
        case hir28_1 => (simp only [List.getElem?_toArray, List.getElem?_cons_succ, List.getElem?_cons_zero]; rfl)
        case br28_1 =>
          go_simp
          refine (HSQ1.out _ (HP.out.old (H6.out.1.2.2.trans (HB1.out.mono H6.out.1.2.2.size)))).mono ?_
          rintro e w29 ⟨rfl, hb29⟩
          have H29 := Lib.hid (HB1.out.trans (hb29.mono HB1.out.size))
          clear hb29
          go_wp2_with fail
          refine hK.out _ _ ?_ (fun hHeld => ?_)
          exact Far.of H29.out
          clear hK K
          (try simp only [Act.put, List.setIfInBounds_toArray, List.set_cons_zero, List.set_cons_succ])
          refine wpAnyH_ready (rs := [3]) (by kernel_rfl) (by simp) ?_
          refine' (AllReadyH.cons (o := _) ?hir30_3 (fun K hK => ?br30_3) AllReadyH.nil)
          case hir30_3 => (simp only [List.getElem?_toArray, List.getElem?_cons_succ, List.getElem?_cons_zero]; rfl)
          case br30_3 =>
            go_simp
            refine (HML1.out _ (HP.out.old (H6.out.1.2.2.trans (H29.out.mono H6.out.1.2.2.size)))).mono ?_
            rintro e w31 ⟨rfl, hb31⟩
            have H31 := Lib.hid (H29.out.trans (hb31.mono H29.out.size))
            clear hb31
            go_wp2_with fail
            refine hK.out _ _ ?_ (fun hHeld => ?_)
            exact Far.of H31.out
            clear hK K
            (try simp only [Act.put, List.setIfInBounds_toArray, List.set_cons_zero, List.set_cons_succ])
            refine wpAnyH_ready (rs := [4]) (by kernel_rfl) (by simp) ?_
            refine' (AllReadyH.cons (o := _) ?hir32_4 (fun K hK => ?br32_4) AllReadyH.nil)
            case hir32_4 => (simp only [List.getElem?_toArray, List.getElem?_cons_succ, List.getElem?_cons_zero]; rfl)
            case br32_4 =>
              refine step_of_wp rfl ?_
              refine wp_store_row 28 (.tmp 6) (.tmp 26) rfl g6 cd rfl rfl 28 cb (H6.out.2.1.old H31.out) okd.out.1 okb.out.2.2.2 okd.out.2.1 ?_
              refine hK.out _ _ ?_ (fun hHeld => ?_)
              exact (Far.of H31.out).row _
              clear hK K
              (try simp only [Act.put, List.setIfInBounds_toArray, List.set_cons_zero, List.set_cons_succ])
              refine wpAnyH_done (by kernel_rfl) ?_ _
              have H7 := Lib.hid ((H6.out.next H31.out).third cd)
              generalize World.setRow _ g6 cd = V2 at *
              go_wp2_with (first | (refine wpList_load_row rfl 28 (.tmp 6) rfl g6 rfl 28 cd (0, 0) _ H7.out.2.1 Tryd.underlying28 rfl okd.out.1 ?_) |
                (refine wpList_store_row rfl 28 (.tmp 4) (.tmp 27) rfl (w.heap.size + 1) cd rfl rfl 28 _ H7.out.1.2.1 okd.out.1 okd.out.2.2 okd.out.2.1 ?_))
              refine bodyPost_ret (v := .agg cd) ?_ rfl ⟨by rw [hres.out], (H7.out.1.snd cd).2.2⟩
              exact results_cell_row Tryd.results36 _ _ (w.heap.size + 1) 28 cd (0, 0) _ rfl (H7.out.1.snd cd).2.1 Tryd.underlying28 rfl okd.out.1
end Go.Proofs.YtphlehinjooncaaDoor
