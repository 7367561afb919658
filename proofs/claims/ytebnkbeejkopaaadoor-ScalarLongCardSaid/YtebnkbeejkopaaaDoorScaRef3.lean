/-
  The contract of the reference's Rest: the rest of digits, divided by L, as 32 bytes. Condition: at most 1000 digits of 16 bits.
-/
import Derived.Test.YtebnkbeejkopaaaDoorScaByt
import Derived.Deep.OwnRows
import Derived.Deep.RegionWith
import Derived.Deep.RegionHeld3
set_option linter.unusedVariables false
set_option linter.unusedSimpArgs false
namespace Go.Proofs.YtebnkbeejkopaaaDoor
open Go Go.Proofs Go.RowKit F5

theorem LL_17 : LL < B ^ 17 := by decide
theorem val17 {v : Nat} (h : v < B ^ 17) : val B (digs B v 17) = v := by rw [val_digs, Nat.mod_eq_of_lt h]
theorem lt17 {v : Nat} (h : v < 2 * LL) : v < B ^ 17 := Nat.lt_trans h (by decide)
theorem U_LL17 : U (digs B LL 16 ++ [0]) = U (digs B LL 17) := by rw [LL_digs, LL_digs17]; rfl
theorem made17 : madeCells #[Value.int .u64 0] 17 = u64s (digs B 0 17) := by
  rw [show digs B 0 17 = List.replicate 17 0 by decide +kernel]; kernel_rfl
theorem reads_lit (w : World) (l : List Nat) : Reads (w.alloc (.cells (u64s l) 32)) (w.heap.size + 1) 1 (some ⟨w.heap.size, 0, none⟩) l.length (U l) := by
  refine ⟨by rw [U_length, Nat.mul_one], fun _ => ⟨_, rfl, by simp, fun j u hj => ?_⟩⟩
  rw [show (⟨w.heap.size, 0, none⟩ : Addr).add j = ⟨w.heap.size, j, none⟩ from by unfold Addr.add; split <;> simp_all]
  rw [Lib.cell_of_heap (heap_alloc_new w _)]
  simpa [u64s, U] using hj

/-- A number's 17 digits are read of a slice. -/
def Rd17 (v : Nat) (rv : Value) (wr : World) : Prop := ∃ A c, rv = .slice A 17 c ∧ Reads wr wr.heap.size 1 A 17 (U (digs B v 17))
theorem Rd17.old {v : Nat} {rv : Value} {w w' : World} (h : Rd17 v rv w) (hb : Below w.heap.size w w') : Rd17 v rv w' := by
  obtain ⟨A, c, h1, h2⟩ := h
  exact ⟨A, c, h1, (h2.below hb).more hb.size⟩
theorem Rd17.of_own {v Bd : Nat} {rv : Value} {w : World} (h : w.ownsRow Bd 32 1 rv 17 (U (digs B v 17))) : Rd17 v rv w := by
  obtain ⟨A, c, rfl, _⟩ := own_slice h
  exact ⟨A, c, rfl, Reads.of_own h⟩

set_option maxHeartbeats 16000000 in
set_option maxRecDepth 100000 in
theorem rest_any (A : Option Addr) (n c : Nat) (d : List Nat) (w : World) (hn : n ≤ 1000) (hr : Reads w w.heap.size 1 A n (U d)) (hd : All B d) :
    Calls Tryd.prog 16 #[.slice A n c] w fun e w' => ∃ v, e = .returned v ∧ w'.ownsRow w.heap.size 5 1 v 32 (Lib.byteCells (fbytes (val B d % LL))) ∧ Below w.heap.size w w' := by
  have hld : d.length = n := by have := hr.1; rw [U_length] at this; omega
  obtain ⟨i0, hi, hz0, hz1, hz2⟩ := info_parts infoU64
  have HI := Lib.hid hi
  obtain ⟨ib, hib, hzb0, hzb1, hzb2⟩ := info_parts infoByte
  have HIB := Lib.hid hib
  have HR := Lib.hid hr
  have HD := Lib.hid hd
  have HLD := Lib.hid hld
  have CO := Lib.hid (order_any w)
  have hmk : ∀ W : World, (Instr.makeSlice 38 (.int .i64 17) (.int .i64 17)).run Tryd.prog W = .ok (.slice (some ⟨W.heap.size, 0, none⟩) 17 17) (W.alloc (.cells (u64s (digs B 0 17)) 32)) := fun W => by
    rw [← made17]
    exact run_make_row' (P := Tryd.prog) 38 32 (.int .u64 0) 8 Tryd.underlying38 infoU64 rfl .i64 .i64 17 (by omega) (by omega) W
  have w1 : IntKind.i64.wrap ((n : Int) - 1) = (n : Int) - 1 := IntWalk.i64_in _ (by omega)
  clear hr hd hld hi hib
  go_enter Tryd.func16, Tryd.ntmps16
  go_wp2_with fail
  refine CO.out.mono ?_
  rintro e wo ⟨rfl, rfl⟩
  have hown1 := own_lit w (digs B LL 16) (by rw [digs_length]; omega)
  rw [digs_length] at hown1
  have hb1 := below_new1 w (.cells (u64s (digs B LL 16)) 32)
  generalize w.alloc (.cells (u64s (digs B LL 16)) 32) = W1 at *
  have hz' := hb1.size
  have hrd := reads_u1 W1 0
  have hown2 := own_old64 hown1 (below_new1 W1 (.cells #[.int .u64 ((0 : Nat) : Int)] 32))
  go_wp2_with (at_builtin; refine wpList_append_any _ rfl (.tmp 13) (.tmp 14) 38 rfl w.heap.size 32 i0 (.int .u64 0) 1 8 Tryd.underlying38 HI.out hz0 hz1 hz2 rfl (by omega) _ 16 (U (digs B LL 16)) rfl hown2 _ _ 1 _ (U [0]) rfl hrd (U_one _) (by unfold maxLen; omega) (by omega) (by simp; omega) ?_; intro v5 w5 hown5 hg5 hv5)
  rw [← U_append, U_LL17, show 16 + 1 = 17 from rfl] at hown5
  have hb5 := own_grow hown1 (Nat.le_refl _) hb1 (below_new1 W1 _) hg5
  obtain ⟨AL, cL, rfl, _⟩ := own_slice hown5
  have hL0 := Reads.of_own hown5
  have hL1 := (hL0.below (below_new1 w5 (.cells (u64s (digs B 0 17)) 32))).more (below_new1 w5 (.cells (u64s (digs B 0 17)) 32)).size
  have hr0 := reads_lit w5 (digs B 0 17)
  rw [digs_length, show w5.heap.size + 1 = (w5.alloc (.cells (u64s (digs B 0 17)) 32)).heap.size by simp] at hr0
  have hb6 := hb5.trans ((below_new1 w5 (.cells (u64s (digs B 0 17)) 32)).mono hb5.size)
  clear hown1 hown2 hown5 hg5 hv5 hrd hb1 hb5 hL0
  go_wp2_with fail
  have hrr : Rd17 0 (.slice (some ⟨w5.heap.size, 0, none⟩) 17 17) (w5.alloc (.cells (u64s (digs B 0 17)) 32)) := ⟨_, _, rfl, hr0⟩
  clear hmk hr0
  generalize w5.alloc (.cells (u64s (digs B 0 17)) 32) = W0 at *
  generalize w5.heap.size = g4 at *
  have HL := Lib.hid hL1
  have HW0 := Lib.hid hb6
  have HZ0 := Lib.hid hb6.size
  obtain ⟨D, hDD⟩ := named (val B d)
  have hD0 : Hid (D / 2 ^ (16 * n) % LL = 0) := Lib.hid (by rw [hDD.out, ← HLD.out, rest_top HD.out, Nat.zero_mod])
  clear hL1 hb6 hz'
  go_loopg [4, 5] n (fun gg rv iv wr => ∃ j : Nat, iv = .int .i64 ((j : Int) - 1) ∧ gg = j ∧ j ≤ n ∧ Rd17 (D / 2 ^ (16 * j) % LL) rv wr ∧ Below W0.heap.size W0 wr)
  case atStart => exact ⟨n, rfl, rfl, Nat.le_refl _, by rw [hD0.out]; exact hrr, Below.refl _ _⟩
  case round =>
    obtain ⟨j, hiv, hg, hj, hrj, hbel⟩ := hrel
    clear hrr
    by_cases hlt : 0 < j
    · obtain ⟨i, rfl⟩ : ∃ i, j = i + 1 := ⟨j - 1, by omega⟩
      rw [show ((i + 1 : Nat) : Int) - 1 = (i : Int) by omega] at hiv
      subst hiv
      have hge : (0 : Int) ≤ (i : Int) := by omega
      have hin : (i : Int) < n := by omega
      have hwi : IntKind.i64.wrap ((i : Int) - 1) = (i : Int) - 1 := IntWalk.i64_in _ (by omega)
      obtain ⟨G, hG⟩ : ∃ G, Hid (gk = G + 1 ∧ G = i ∧ i + 1 ≤ n) := ⟨gk - 1, Lib.hid ⟨by omega, by omega, by omega⟩⟩
      have hin2 : i < n := by omega
      have HRJ := Lib.hid hrj
      have HBEL := Lib.hid hbel
      clear hrj hbel hg hj hlt
      go_wp2_with fail
      go_loopg [4, 6] 16 (fun gg rv kv w1 => ∃ (q K : Nat), kv = .int .u64 (K : Int) ∧ gg = q ∧ q ≤ 16 ∧ K = (if q = 0 then 0 else 2 ^ (q - 1)) ∧ Rd17 (D / 2 ^ (16 * i + q) % LL) rv w1 ∧ Below W0.heap.size W0 w1)
      case atStart => exact ⟨16, 32768, rfl, rfl, Nat.le_refl _, rfl, HRJ.out, HBEL.out⟩
      case round =>
        obtain ⟨q, K, rfl, hgq, hq16, hK, ⟨Ar, cr, rfl, hRr⟩, hbel⟩ := hrel
        clear HRJ HBEL
        by_cases hq0 : 0 < q
        · obtain ⟨j, rfl⟩ : ∃ j, q = j + 1 := ⟨q - 1, by omega⟩
          rw [if_neg (by omega), Nat.add_sub_cancel] at hK
          have hKpos : 0 < K := by rw [hK]; exact Nat.two_pow_pos j
          have hKle : K ≤ 32768 := by rw [hK]; exact Nat.pow_le_pow_right (by omega) (by omega : j ≤ 15)
          have hKi : (0 : Int) < (K : Int) := by omega
          have hKne : ((K : Int) == 0) = false := by rw [beq_eq_false_iff_ne]; omega
          have hKne' : ¬ (K : Int) = 0 := by omega
          obtain ⟨G2, hG2⟩ : ∃ G, Hid (gk = G + 1 ∧ G = j ∧ j ≤ 15) := ⟨gk - 1, Lib.hid ⟨by omega, by omega, by omega⟩⟩
          obtain ⟨ad, rfl, hadB, hx⟩ := reads_u (HR.out.below (HW0.out.trans (hbel.mono HZ0.out))) hin2
          have hbit0 := bit_at HD.out (i := i) (j := j) (by rw [HLD.out]; exact hin2) (by omega)
          have hdi : d.getD i 0 ≤ 65535 := Nat.le_of_lt_succ (HD.out.getD (by decide) i)
          rw [← hDD.out, ← hK] at hbit0
          obtain ⟨y, hy⟩ := named (d.getD i 0)
          rw [← hy.out] at hbit0 hx hdi
          obtain ⟨q1, hq1⟩ := named (y / K)
          rw [← hq1.out] at hbit0
          obtain ⟨bt, hbt⟩ := named (q1 % 2)
          rw [← hbt.out] at hbit0
          have hb1 : bt ≤ 1 := by rw [hbt.out]; omega
          have hq1l : q1 ≤ 65535 := by rw [hq1.out]; exact Nat.le_trans (Nat.div_le_self _ _) hdi
          have d1 : (y : Int) / (K : Int) = (q1 : Int) := by rw [hq1.out]; rfl
          have d2 : (y : Int).tdiv (K : Int) = (q1 : Int) := by rw [Int.tdiv_eq_ediv_of_nonneg (by omega)]; exact d1
          have d3 : (q1 : Int) % 2 = (bt : Int) := by rw [hbt.out]; omega
          have d4 : (q1 : Int).tmod 2 = (bt : Int) := by rw [Int.tmod_eq_emod_of_nonneg (by omega)]; omega
          have d5 : IntKind.u64.wrap (q1 : Int) = (q1 : Int) := by rw [IntKind.wrap_u64]; omega
          have d6 : IntKind.u64.wrap (bt : Int) = (bt : Int) := by rw [IntKind.wrap_u64]; omega
          obtain ⟨K2, hK2⟩ := named (K / 2)
          have d7 : (K : Int) / 2 = (K2 : Int) := by rw [hK2.out]; omega
          have d8 : (K : Int).tdiv 2 = (K2 : Int) := by rw [Int.tdiv_eq_ediv_of_nonneg (by omega)]; exact d7
          have d9 : IntKind.u64.wrap (K2 : Int) = (K2 : Int) := by rw [IntKind.wrap_u64, hK2.out]; omega
          have hKK : Hid (K2 = if j = 0 then 0 else 2 ^ (j - 1)) := Lib.hid (by
            rw [hK2.out, hK]
            split
            · rename_i h0; rw [h0]
            · obtain ⟨m, rfl⟩ : ∃ m, j = m + 1 := ⟨j - 1, by omega⟩
              rw [Nat.add_sub_cancel, Nat.pow_succ]; omega)
          have hstep := rest_next D (16 * i + j)
          rw [← hbit0, Nat.add_assoc] at hstep
          obtain ⟨v, hv⟩ := named (D / 2 ^ (16 * i + (j + 1)) % LL)
          rw [← hv.out] at hstep hRr
          have hvl : v < LL := by rw [hv.out]; exact Nat.mod_lt _ LL_pos
          rw [rest_step hvl hb1] at hstep
          have HST := Lib.hid hstep
          have HVL := Lib.hid hvl
          have HRr := Lib.hid hRr
          have HBEL := Lib.hid hbel
          have hbnd : Hid (2 * v + bt < 2 * LL) := Lib.hid (by omega)
          have hoe := own_emptyU wr
          have hb0 := below_new1 wr (.cells #[] 32)
          clear hRr hbel hstep hvl hK hbit0 hgq hq16 hq0 hy hv
          go_wp2_with fail
          generalize wr.alloc (.cells #[] 32) = Wn at *
          clear hx
          generalize wr = W2 at *
          go_loopg [7, 8, 38] 17 (fun gg cv nv iv w1 => ∃ (k cc : Nat) (out : List Nat), cv = .int .u64 (cc : Int) ∧ iv = .int .i64 (k : Int) ∧ gg + k = 17 ∧ DblL (digs B v 17) bt k cc out ∧ w1.ownsRow W2.heap.size 32 1 nv k (U out) ∧ Below W2.heap.size W2 w1)
          case atStart => exact ⟨0, bt, [], rfl, rfl, rfl, DblL.zero _ hb1, hoe, hb0⟩
          case round =>
            obtain ⟨k, cc, out, rfl, rfl, hgk, hO, hown, hbel⟩ := hrel
            clear hoe hb0
            by_cases hlt : k < 17
            · obtain ⟨ad, rfl, hadB, hx⟩ := reads_u (HRr.out.below hbel) hlt
              have hki : (k : Int) < 17 := by omega
              have hx1 : (digs B v 17).getD k 0 ≤ 65535 := Nat.le_of_lt_succ ((digs_all (by decide) v 17 : All B _).getD (by decide) k)
              have hcw := hO.cw
              have hnx : Hid (∀ x, x = 2 * (digs B v 17).getD k 0 + cc → DblL (digs B v 17) bt (k + 1) (x / 65536) (out ++ [x % 65536])) := Lib.hid fun x hx => hO.next (digs_all (by decide) v 17) (by rw [digs_length]; exact hlt) hx
              obtain ⟨x, hX⟩ := named ((digs B v 17).getD k 0)
              rw [← hX.out] at hnx hx hx1
              obtain ⟨m, hm⟩ := named (2 * x)
              obtain ⟨s, hs⟩ := named (m + cc)
              obtain ⟨e1, he1⟩ := named (s / 65536)
              obtain ⟨r1, hr1⟩ := named (s % 65536)
              have c1 : IntKind.u64.wrap (2 * (x : Int)) = (m : Int) := by rw [IntKind.wrap_u64, hm.out]; omega
              have c2 : IntKind.u64.wrap ((m : Int) + (cc : Int)) = (s : Int) := by rw [IntKind.wrap_u64, hs.out, hm.out]; omega
              have c3 : IntKind.u64.wrap (e1 : Int) = (e1 : Int) := by rw [IntKind.wrap_u64, he1.out, hs.out, hm.out]; omega
              have c4 : IntKind.u64.wrap (r1 : Int) = (r1 : Int) := by rw [IntKind.wrap_u64, hr1.out]; omega
              have f1 : (s : Int) / 65536 = (e1 : Int) := by rw [he1.out]; omega
              have f2 : (s : Int).tdiv 65536 = (e1 : Int) := by rw [Int.tdiv_eq_ediv_of_nonneg (by omega)]; omega
              have f3 : (s : Int) % 65536 = (r1 : Int) := by rw [hr1.out]; omega
              have f4 : (s : Int).tmod 65536 = (r1 : Int) := by rw [Int.tmod_eq_emod_of_nonneg (by omega)]; omega
              have HN : Hid (DblL (digs B v 17) bt (k + 1) e1 (out ++ [r1])) := Lib.hid (by
                rw [he1.out, hr1.out]
                exact hnx.out s (by rw [hs.out, hm.out]))
              have HB2 := Lib.hid hbel
              have HO2 := Lib.hid hown
              have hz := hbel.size
              have hrd := reads_u1 wr r1
              have hown2 := own_old64 hown (below_new1 wr (.cells #[.int .u64 (r1 : Int)] 32))
              have hwk : IntKind.i64.wrap ((k : Int) + 1) = (k : Int) + 1 := IntWalk.i64_in _ (by omega)
              clear hbel hown hO hnx hX hcw d1 d2 d3 d4 d5 d6 d7 d8 d9
              go_wp2_with (at_builtin; refine wpList_append_any _ rfl (.tmp 48) (.tmp 51) 38 rfl W2.heap.size 32 i0 (.int .u64 0) 1 8 Tryd.underlying38 HI.out hz0 hz1 hz2 rfl (by omega) _ k (U out) rfl hown2 _ _ 1 _ (U [r1]) rfl hrd (U_one _) (by unfold maxLen; omega) (by omega) (by simp; omega) ?_; intro v5 w5 hown5 hg5 hv5)
              have hb5 := Lib.hid (own_grow HO2.out (Nat.le_refl _) HB2.out (below_new1 wr _) hg5)
              rw [← U_append] at hown5
              have HOW5 := Lib.hid hown5
              clear hown5 hg5 hv5 hrd hown2
              go_wp2_with fail
              go_roundg (gk - 1)
              case measure => omega
              case rel => exact ⟨k + 1, e1, out ++ [r1], rfl, by go_num, by omega, HN.out, HOW5.out, hb5.out⟩
            · obtain rfl : k = 17 := by omega
              have hfin := hO.done (digs_length _ _ _) (by rw [val17 (lt17 (by have := HVL.out; omega))]; exact lt17 hbnd.out)
              rw [val17 (lt17 (by have := HVL.out; omega))] at hfin
              rw [hfin] at hown
              obtain ⟨u, hu⟩ := named (2 * v + bt)
              rw [← hu.out] at hown HST hbnd
              have hul := lt17 hbnd.out
              obtain ⟨An, cn, rfl, _⟩ := own_slice hown
              have hrn := Reads.of_own hown
              have HB2 := Lib.hid hbel
              have HBW := Lib.hid (HBEL.out.trans (hbel.mono HBEL.out.size))
              have hln := (HL.out.below HBW.out).more HBW.out.size
              have CB := below_any An AL 17 cn cL (digs B u 17) (digs B LL 17) wr (by omega) hrn hln (digs_all (by decide) _ _) (digs_all (by decide) _ _)
              rw [val17 hul, val17 LL_17] at CB
              have CB := Lib.hid CB
              have HRN := Lib.hid hrn
              have HLN := Lib.hid hln
              clear hbel hO hfin hgk hown hrn hln d1 d2 d3 d4 d5 d6
              by_cases hcmp : u < LL
              · rw [if_pos hcmp] at HST
                rw [decide_eq_true hcmp] at CB
                go_wp2_with fail
                refine CB.out.mono ?_
                rintro e w3 ⟨rfl, hb3⟩
                have HF := Lib.hid ((HRN.out.below hb3).more hb3.size)
                have HBF := Lib.hid (HBW.out.trans (hb3.mono HBW.out.size))
                clear hb3
                go_wp2_with fail
                go_roundg G2
                case measure => have := hG2.out; omega
                case rel => exact ⟨j, K2, rfl, hG2.out.2.1, by have := hG2.out; omega, hKK.out, ⟨_, _, rfl, by rw [HST.out]; exact HF.out⟩, HBF.out⟩
              · rw [if_neg hcmp] at HST
                rw [decide_eq_false hcmp] at CB
                go_wp2_with fail
                refine CB.out.mono ?_
                rintro e w3 ⟨rfl, hb3⟩
                have HF := Lib.hid ((HRN.out.below hb3).more hb3.size)
                have HLF := Lib.hid ((HLN.out.below hb3).more hb3.size)
                have HBF := Lib.hid (HBW.out.trans (hb3.mono HBW.out.size))
                clear hb3
                have CF := off_any An AL 17 cn cL (digs B u 17) (digs B LL 17) w3 (by omega) HF.out HLF.out (digs_all (by decide) _ _) (digs_all (by decide) _ _) (by rw [val17 hul, val17 LL_17]; omega)
                rw [val17 hul, val17 LL_17] at CF
                have CF := Lib.hid CF
                go_wp2_with fail
                refine CF.out.mono ?_
                rintro e w4 ⟨vo, rfl, hown4, hb4⟩
                have HR4 := Lib.hid (Rd17.of_own hown4)
                have HB4 := Lib.hid (HBF.out.trans (hb4.mono HBF.out.size))
                clear hown4 hb4
                go_wp2_with fail
                go_roundg G2
                case measure => have := hG2.out; omega
                case rel => exact ⟨j, K2, rfl, hG2.out.2.1, by have := hG2.out; omega, hKK.out, by rw [HST.out]; exact HR4.out, HB4.out⟩
        · obtain rfl : q = 0 := by omega
          rw [if_pos rfl] at hK
          subst hK
          rw [Nat.add_zero] at hRr
          have HRr := Lib.hid hRr
          have HBEL := Lib.hid hbel
          clear hRr hbel hgq hq16 hq0
          go_wp2_with fail
          go_roundg G
          case measure => have := hG.out; omega
          case rel => exact ⟨i, rfl, hG.out.2.1, by have := hG.out; omega, ⟨_, _, rfl, HRr.out⟩, HBEL.out⟩
    · obtain rfl : j = 0 := by omega
      subst hiv
      obtain ⟨Ar, cr, rfl, hRr⟩ := hrj
      rw [Nat.mul_zero, Nat.pow_zero, Nat.div_one, hDD.out] at hRr
      obtain ⟨v, hv⟩ := named (val B d % LL)
      rw [← hv.out] at hRr
      have HRr := Lib.hid hRr
      have HBW := Lib.hid (HW0.out.trans (hbel.mono HZ0.out))
      have hoe := owns_empty wr
      have hb0 := below_new1 wr (.cells #[] 5)
      clear hbel hRr hg hj hlt
      go_wp2_with fail
      generalize wr.alloc (.cells #[] 5) = Wn at *
      generalize wr = W2 at *
      go_loopg [11, 12] 16 (fun gg ov iv w1 => ∃ k : Nat, iv = .int .i64 (k : Int) ∧ gg + k = 16 ∧ w1.ownsRow W2.heap.size 5 1 ov (2 * k) (Lib.byteCells ((fbytes v).take (2 * k))) ∧ Below W2.heap.size W2 w1)
      case atStart => exact ⟨0, rfl, rfl, hoe, hb0⟩
      case round =>
        obtain ⟨k, rfl, hgk, hown, hbel⟩ := hrel
        clear hoe hb0
        have hsz := hbel.size
        by_cases hlt : k < 16
        · obtain ⟨ad, rfl, hadB, hx⟩ := reads_u (HRr.out.below hbel) (k := k) (by omega)
          rw [digs_getD _ _ _ _ (by omega), limb_bytes] at hx
          have hpb : (ad.add k).block < W2.heap.size := by rw [block_of_add]; exact hadB
          have hy0 := fbytes_get v (2 * k) (by omega)
          have hy1 := fbytes_get v (2 * k + 1) (by omega)
          have HT := Lib.hid (fbytes_two v k hlt)
          obtain ⟨y0, hY0⟩ : ∃ y, Hid (y = (fbytes v).getD (2 * k) 0) := ⟨_, Lib.hid rfl⟩
          obtain ⟨y1, hY1⟩ : ∃ y, Hid (y = (fbytes v).getD (2 * k + 1) 0) := ⟨_, Lib.hid rfl⟩
          rw [← hY0.out] at hy0 HT
          rw [← hY1.out] at hy1 HT
          rw [← hy0, ← hy1] at hx
          have l0 := y0.toNat_lt
          have l1 := y1.toNat_lt
          obtain ⟨x, hX⟩ := named (y0.toNat + 256 * y1.toNat)
          rw [← hX.out] at hx
          obtain ⟨p, hp⟩ := named (x / 256)
          obtain ⟨q, hq⟩ := named (x % 256)
          have d1 : (x : Int) / 256 = (p : Int) := by rw [hp.out]; omega
          have d2 : (x : Int).tdiv 256 = (p : Int) := by rw [Int.tdiv_eq_ediv_of_nonneg (by omega)]; omega
          have d3 : (x : Int) % 256 = (q : Int) := by rw [hq.out]; omega
          have d4 : (x : Int).tmod 256 = (q : Int) := by rw [Int.tmod_eq_emod_of_nonneg (by omega)]; omega
          have w0 : IntKind.u8.wrap (q : Int) = (y0.toNat : Int) := by rw [IntKind.wrap_u8', hq.out, hX.out]; omega
          have w1' : IntKind.u8.wrap (p : Int) = (y1.toNat : Int) := by rw [IntKind.wrap_u8', hp.out, hX.out]; omega
          have w2' : IntKind.u64.wrap (p : Int) = (p : Int) := by rw [IntKind.wrap_u64, hp.out, hX.out]; omega
          have w3' : IntKind.u64.wrap (q : Int) = (q : Int) := by rw [IntKind.wrap_u64, hq.out, hX.out]; omega
          have hki : (k : Int) < 17 := by omega
          have hki2 : (k : Int) < 16 := by omega
          have hwk : IntKind.i64.wrap ((k : Int) + 1) = (k : Int) + 1 := IntWalk.i64_in _ (by omega)
          have hrd := reads_two wr y0 y1
          have hwl : Hid (W2.heap.size ≤ wr.heap.size) := Lib.hid hsz
          have HPB := Lib.hid hpb
          have HB2 := Lib.hid hbel
          have hib := HIB.out
          have HK1 := Lib.hid (show gk + k = 16 ∧ k < 16 from ⟨hgk, hlt⟩)
          clear hy0 hy1 hgk
          go_wp2_with fail
          go_region_held3 (fun w' => w'.cell? (ad.add k) = some (Value.int .u64 (x : Int)))
            (first
              | go_keep
              | (rw [World.cell?_of_block (hgrow1.block (ad.add k).block (by have := hwl.out; have := HPB.out; simp; omega) (fun e => by have h9 := (hown.lt _ e.symm).1; have := HPB.out; omega))]; assumption))
            ((refine step_append_any _ (by rfl) _ _ 22 (by rfl) W2.heap.size 5 ib (.int .u8 0) 1 1 Tryd.underlying22 hib hzb0 hzb1 hzb2 rfl (by decide) _ _ _ (by rfl) ((hown.alloc _).drew) (wr.heap.size + 1) _ 2 2 (Lib.byteCells [y0, y1]) (by rfl) (by exact hrd) (Lib.byteCells_one _) (by unfold maxLen; omega) (by omega) (by have := hwl.out; simp; omega) ?_; intro v1 w1 hown1 hgrow1 hat1))
          all_goals
            have hown2 : w1.ownsRow W2.heap.size 5 1 v1 (2 * (k + 1)) (Lib.byteCells ((fbytes v).take (2 * (k + 1)))) := by
              rw [HT.out, Lib.byteCells_append, show 2 * (k + 1) = 2 * k + 2 by omega]
              exact hown1
            have hbel2 : Below W2.heap.size W2 w1 := ((hbel.alloc hsz _).drew).grown hgrow1 (by simp; omega) (fun k hk => by have := (hown.lt k hk).1; omega)
            have HO2 := Lib.hid hown2
            clear hown hown1 hown2 hgrow1 hat1 hrd
            go_wp2
            go_roundg (gk - 1)
            case measure => have := HK1.out; omega
            case rel => exact ⟨k + 1, by go_num, by have := HK1.out; omega, HO2.out, hbel2⟩
        · obtain rfl : k = 16 := by omega
          rw [show 2 * 16 = 32 from rfl, List.take_of_length_le (by rw [fbytes_length]; omega)] at hown
          have hfin := own_more64 hown HBW.out.size
          have HO := Lib.hid hfin
          have HBF := Lib.hid (HBW.out.trans (hbel.mono HBW.out.size))
          clear hown hbel hfin
          go_wp2_with fail
          go_ret
          exact ⟨_, rfl, by rw [← hv.out]; exact HO.out, HBF.out⟩
end Go.Proofs.YtebnkbeejkopaaaDoor
