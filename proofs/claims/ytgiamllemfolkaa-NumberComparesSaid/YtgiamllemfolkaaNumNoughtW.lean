/-
  The walk of the law NumberNoughts over contracts of the program's package number. Conditions: those contracts.
-/
import Derived.Test.YtgiamllemfolkaaNumMinusW
set_option linter.unusedVariables false
namespace Go.Proofs.Ytgiamllemfolkaa
open Go Go.Proofs Go.RowKit Num9

theorem named9 (n : Nat) : ∃ m : Nat, Hid (m = n) := ⟨n, Lib.hid rfl⟩

set_option maxHeartbeats 8000000 in
set_option maxRecDepth 100000 in
theorem nnoughts_walk (H : NumOk) (A : Option Addr) (n c : Nat) (l : List UInt8) (nn : UInt8) (w : World) (hr : Reads w w.heap.size 1 A n (Lib.byteCells l)) (hc : n ≤ c) :
    Calls Try.prog 6 #[.slice A n c, .int .u8 nn.toNat] w fun e w' => e = .returned (.bool true) ∧ Below w.heap.size w w' := by
  by_cases hn : 100 < n
  · go_enter Try.func6, Try.ntmps6
    go_wp2_with fail
    refine (awake9_any H w).mono ?_
    rintro e w1 ⟨rfl, hb1⟩
    go_wp2
    go_ret
    exact ⟨rfl, hb1⟩
  · obtain ⟨i0, hi, hz0, hz1, hz2⟩ := parts9 infoByte
    have hl : Hid (l.length = n) := by have := hr.1; show _ = _; simpa [Lib.byteCells_length] using this
    have hn256 := nn.toNat_lt
    obtain ⟨N, hN⟩ := named9 nn.toNat
    have hN256 : N < 256 := by rw [hN.out]; omega
    rw [← hN.out]
    obtain ⟨k, hk⟩ := named9 (N % 10)
    have hk10 : k < 10 := by rw [hk.out]; omega
    have hkI : (N : Int) % 10 = (k : Int) := by rw [hk.out]; omega
    have hkI2 : (N : Int).tmod 10 = (k : Int) := by rw [Int.tmod_eq_emod_of_nonneg (by omega), hkI]
    go_enter Try.func6, Try.ntmps6
    go_wp2_with fail
    refine (H.get A n c l w hr (by omega) hc).mono ?_
    rintro e w1 ⟨x, ok, rfl, h1, hb1⟩
    have H1 := Lib.hid h1
    have HR1 := Lib.hid ((hr.below hb1).more hb1.size)
    have HB1 := Lib.hid hb1
    clear h1 hr hb1
    have hfin : ∀ W, Below w.heap.size w W → Calls Try.prog 8 #[] W fun e w' => e = .returned (.bool true) ∧ Below w.heap.size w w' :=
      fun W hW => (awake9_any H W).mono (by rintro e w4 ⟨rfl, hb4⟩; exact ⟨rfl, hW.trans (hb4.mono hW.size)⟩)
    go_wp2_with fail
    go_loop [7, 8, 9] (fun a b d => ∃ (v : Bool) (ct i : Nat), i ≤ n ∧ ct ≤ i ∧ a = .bool v ∧ b = .int .i64 ct ∧ d = .int .i64 i ∧ Hid (((46 : UInt8) ∈ l) ↔ (v = true ∨ (46 : UInt8) ∈ l.drop i)) ∧ Hid (l.countP isDg = ct + (l.drop i).countP isDg)) (fun _ _ d => n - (intOf d).toNat)
    case atStart => exact ⟨false, 0, 0, by omega, by omega, rfl, rfl, rfl, by show _ ↔ _; simp, by show _ = _; simp⟩
    case round =>
      obtain ⟨v, ct, i, hin, hct, rfl, rfl, rfl, hv, hcnt⟩ := hrel
      by_cases hilt : i < n
      · obtain ⟨ad, y, rfl, hcc, hd, _⟩ := reads_byte HR1.out hilt
        have HD := Lib.hid hd
        clear hd
        have hy256 := y.toNat_lt
        obtain ⟨b46, hb46⟩ : ∃ b, ((y.toNat : Int) == 46) = b := ⟨_, rfl⟩
        have H46 : Hid (b46 = true ↔ y = 46) := by
          show _ ↔ _
          rw [← hb46, beq_iff_eq]
          constructor
          · intro h; exact UInt8.toNat_inj.1 (by show y.toNat = 46; omega)
          · rintro rfl; rfl
        have step1 : Hid (((46 : UInt8) ∈ l) ↔ ((v || b46) = true ∨ (46 : UInt8) ∈ l.drop (i + 1))) := by
          show _ ↔ _
          rw [hv.out, HD.out, List.mem_cons, Bool.or_eq_true, H46.out, eq_comm (a := (46 : UInt8)), or_assoc]
        by_cases hdg : 48 ≤ y.toNat ∧ y.toNat ≤ 57
        · have step2 : Hid (l.countP isDg = (ct + 1) + (l.drop (i + 1)).countP isDg) := by
            show _ = _
            rw [hcnt.out, HD.out, List.countP_cons, if_pos (by simp [isDg, hdg])]; omega
          obtain ⟨hd1, hd2⟩ := hdg
          cases v with
          | true =>
            go_wp2_with fail
            refine ⟨⟨true, ct + 1, i + 1, by omega, by omega, rfl, by simp, by simp, ?_, step2⟩, by simp [intOf]; omega⟩
            show _ ↔ _
            rw [step1.out]; simp
          | false =>
            go_wp2_with fail
            refine ⟨⟨b46, ct + 1, i + 1, by omega, by omega, rfl, by simp, by simp, ?_, step2⟩, by simp [intOf]; omega⟩
            show _ ↔ _
            rw [step1.out, Bool.false_or]
        · have step2 : Hid (l.countP isDg = ct + (l.drop (i + 1)).countP isDg) := by
            show _ = _
            rw [hcnt.out, HD.out, List.countP_cons, if_neg (by simp [isDg]; omega)]; omega
          by_cases hd1 : 48 ≤ y.toNat
          · have hd2 : 57 < y.toNat := by omega
            cases v with
            | true =>
              go_wp2_with fail
              refine ⟨⟨true, ct, i + 1, by omega, by omega, rfl, rfl, by simp, ?_, step2⟩, by simp [intOf]; omega⟩
              show _ ↔ _
              rw [step1.out]; simp
            | false =>
              go_wp2_with fail
              refine ⟨⟨b46, ct, i + 1, by omega, by omega, rfl, rfl, by simp, ?_, step2⟩, by simp [intOf]; omega⟩
              show _ ↔ _
              rw [step1.out, Bool.false_or]
          · cases v with
            | true =>
              go_wp2_with fail
              refine ⟨⟨true, ct, i + 1, by omega, by omega, rfl, rfl, by simp, ?_, step2⟩, by simp [intOf]; omega⟩
              show _ ↔ _
              rw [step1.out]; simp
            | false =>
              go_wp2_with fail
              refine ⟨⟨b46, ct, i + 1, by omega, by omega, rfl, rfl, by simp, ?_, step2⟩, by simp [intOf]; omega⟩
              show _ ↔ _
              rw [step1.out, Bool.false_or]
      · obtain rfl : i = n := by omega
        have hv2 : Hid ((46 : UInt8) ∈ l ↔ v = true) := by
          show _ ↔ _
          rw [hv.out, List.drop_of_length_le (by rw [hl.out]; exact Nat.le_refl _)]; simp
        have hc2 : Hid (l.countP isDg = ct) := by
          show _ = _
          rw [hcnt.out, List.drop_of_length_le (by rw [hl.out]; exact Nat.le_refl _)]; simp
        clear hv hcnt
        cases ok with
        | false =>
          go_wp2_with fail
          refine (hfin _ HB1.out).mono ?_
          rintro e w4 ⟨rfl, hb4⟩
          go_wp2
          go_ret
          exact ⟨rfl, hb4⟩
        | true =>
          cases v with
          | false =>
            go_wp2_with fail
            refine (hfin _ HB1.out).mono ?_
            rintro e w4 ⟨rfl, hb4⟩
            go_wp2
            go_ret
            exact ⟨rfl, hb4⟩
          | true =>
            by_cases h15 : 15 < ct + k
            · go_wp2_with fail
              refine (hfin _ HB1.out).mono ?_
              rintro e w4 ⟨rfl, hb4⟩
              go_wp2
              go_ret
              exact ⟨rfl, hb4⟩
            · have hr0 := HR1.out
              have ho := owns_empty w1
              go_wp2_with (at_builtin; refine wpList_append_any _ rfl (.tmp 66) (.tmp 67) 22 rfl w1.heap.size 5 i0 (.int .u8 0) 1 1 Try.underlying22 hi hz0 hz1 hz2 rfl (by decide) _ 0 [] rfl ho w1.heap.size A i c (Lib.byteCells l) rfl (HR1.out.alloc (Nat.le_refl _) _) (Lib.byteCells_one _) ?c3 ?c4 ?c5 ?_)
              case c3 => unfold maxLen; omega
              case c4 => omega
              intro v2 w2 ho2 hg2 _
              have hb2 : Below w1.heap.size w1 w2 := ((Below.refl _ _).alloc (Nat.le_refl _) _).grown hg2 (by simp) (fun k hk => (ho.lt k hk).1)
              obtain ⟨A2, c2, rfl, hc2'⟩ := form9 ho2
              have HB2 := Lib.hid hb2
              have HO2 : Hid (w2.ownsRow w1.heap.size 5 1 (.slice A2 (i + 0) c2) (i + 0) (Lib.byteCells (l ++ List.replicate 0 48))) := by
                show World.ownsRow _ _ _ _ _ _ _
                rw [List.replicate_zero, List.append_nil, Nat.add_zero]
                exact ho2
              clear ho ho2 hg2 hb2 hr0
              go_wp2_with fail
              go_loopw [10, 11] (fun v a wr => ∃ (j : Nat) (A3 : Option Addr) (c3 m : Nat), j ≤ k ∧ m = i + j ∧ v = .slice A3 m c3 ∧ a = .int .i64 j ∧ wr.ownsRow w1.heap.size 5 1 (.slice A3 m c3) m (Lib.byteCells (l ++ List.replicate j 48)) ∧ Below w1.heap.size w1 wr) (fun _ a _ => k - (intOf a).toNat)
              case atStart => exact ⟨0, A2, c2, i, Nat.zero_le _, rfl, rfl, rfl, HO2.out, HB2.out⟩
              case round =>
                obtain ⟨j, A3, c3, m, hjk, hm, rfl, rfl, ho3, hb3⟩ := hrel
                have hm100 : m ≤ 110 := by omega
                have HM := Lib.hid hm
                clear hm HO2 HB2
                have hs3 := hb3.size
                by_cases hlt : j < k
                · have hr3 := Lib.hid (reads_one wr 48 (0, 0))
                  go_wp2_with (at_builtin; refine wpList_append_any _ rfl (.tmp 76) (.tmp 77) 22 rfl w1.heap.size 5 i0 (.int .u8 0) 1 1 Try.underlying22 hi hz0 hz1 hz2 rfl (by decide) _ _ _ rfl (ho3.alloc _) (wr.heap.size + 1) _ 1 1 (Lib.byteCells [48]) rfl hr3.out (Lib.byteCells_one _) (by unfold maxLen; omega) (by omega) (by simp; omega) ?_)
                  intro v4 w4 ho4 hg4 _
                  have hb4 : Below w1.heap.size w1 w4 := (hb3.alloc hs3 _).grown hg4 (by simp; omega) (fun k hk => (ho3.lt k hk).1)
                  obtain ⟨A4, c4, rfl, _⟩ := form9 ho4
                  have ho5 : Hid (w4.ownsRow w1.heap.size 5 1 (.slice A4 (m + 1) c4) (m + 1) (Lib.byteCells (l ++ List.replicate (j + 1) 48))) := by
                    have e1 : l ++ List.replicate (j + 1) 48 = (l ++ List.replicate j 48) ++ [48] := by
                      rw [List.replicate_succ', List.append_assoc]
                    show World.ownsRow _ _ _ _ _ _ _
                    rw [e1, Lib.byteCells_append]; exact ho4
                  clear ho4 hg4 hr3 ho3
                  go_wp2_with fail
                  go_roundw
                  case rel => exact ⟨j + 1, A4, c4, m + 1, by omega, by have := HM.out; omega, rfl, by simp, ho5.out, hb4⟩
                  case measure => simp [intOf]; omega
                · obtain rfl : j = k := by omega
                  obtain ⟨A4, c4, e4, hc4⟩ := form9 ho3
                  injection e4 with e4 _ e5
                  subst e4 e5
                  have hr4 := Reads.of_own ho3
                  have HB5 := Lib.hid (HB1.out.trans (hb3.mono HB1.out.size))
                  clear ho3 hb3
                  go_wp2_with fail
                  refine (H.get A3 m c3 (l ++ List.replicate j 48) wr hr4 (by omega) hc4).mono ?_
                  rintro e w5 ⟨y, is, rfl, h5, hb5⟩
                  have HB6 := Lib.hid (HB5.out.trans (hb5.mono HB5.out.size))
                  obtain ⟨rfl, hxy, k1, k2⟩ := nought_same (hv2.out.2 (by simp)) (by rw [hc2.out]; omega) H1.out rfl h5
                  have HXY := Lib.hid hxy
                  have hsm : Hid ((key x).isSome ∧ x < 2 ^ 64) := ⟨k1, k2⟩
                  clear hxy k1 k2 h5 hb5 HB5 hr4
                  go_wp2_with (go_at_call 11; rw [← HXY.out]; refine (same9_any (.inr ⟨rfl, hsm.out.1, hsm.out.2⟩) _).mono ?_; rintro e w' ⟨rfl, rfl⟩)
                  refine (hfin _ HB6.out).mono ?_
                  rintro e w4 ⟨rfl, hb4⟩
                  go_wp2
                  go_ret
                  exact ⟨rfl, hb4⟩
end Go.Proofs.Ytgiamllemfolkaa
