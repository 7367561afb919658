/-
  The walk of the law NumberMinus over contracts of the program's package number. Conditions: those contracts.
-/
import Derived.Test.YtgiamllemfolkaaNumMinusM
import Derived.Test.YtgiamllemfolkaaNumLawsW
set_option linter.unusedVariables false
namespace Go.Proofs.Ytgiamllemfolkaa
open Go Go.Proofs Go.RowKit Num9

theorem parts9 {P : Program} {t : TypeId} {z : Value} {s b : Nat} (h : (P.info? t).map (fun i => (i.zero, i.size, i.bytes)) = some (some z, s, b)) : ∃ i, P.info? t = some i ∧ i.zero = some z ∧ i.size = s ∧ i.bytes = b := by
  cases hi : P.info? t with
  | none => rw [hi] at h; cases h
  | some i =>
    rw [hi] at h
    injection h with h
    injection h with h1 h2
    injection h2 with h2 h3
    exact ⟨i, rfl, h1, h2, h3⟩
theorem form9 {w : World} {base size n : Nat} {e : TypeId} {v : Value} {xs : List Value} (h : w.ownsRow base e size v n xs) : ∃ A c, v = .slice A n c ∧ n ≤ c := by
  rcases h.2 with ⟨h1, h2⟩ | ⟨g, cap, cur, hv, _, _, hc, _⟩
  · exact ⟨none, 0, by rw [h1, h2], by omega⟩
  · exact ⟨_, _, hv, hc⟩
theorem owns_one (w : World) (x : UInt8) : (w.alloc (.cells #[.int .u8 x.toNat] 5)).ownsRow w.heap.size 5 1 (.slice (some ⟨w.heap.size, 0, none⟩) 1 1) 1 (Lib.byteCells [x]) :=
  ⟨rfl, .inr ⟨_, 1, #[.int .u8 x.toNat], rfl, Nat.le_refl _, heap_alloc_new w _, Nat.le_refl _, by unfold maxLen; omega, rfl, rfl⟩⟩

set_option maxHeartbeats 4000000 in
set_option maxRecDepth 100000 in
theorem nminus_walk (H : NumOk) (A : Option Addr) (n c : Nat) (l : List UInt8) (w : World) (hr : Reads w w.heap.size 1 A n (Lib.byteCells l)) (hc : n ≤ c) :
    Calls Try.prog 7 #[.slice A n c] w fun e w' => e = .returned (.bool true) ∧ Below w.heap.size w w' := by
  by_cases hn : 100 < n
  · go_enter Try.func7, Try.ntmps7
    go_wp2_with fail
    refine (awake9_any H w).mono ?_
    rintro e w1 ⟨rfl, hb1⟩
    go_wp2
    go_ret
    exact ⟨rfl, hb1⟩
  · obtain ⟨i0, hi, hz0, hz1, hz2⟩ := parts9 infoByte
    have hl : Hid (l.length = n) := by have := hr.1; show _ = _; simpa [Lib.byteCells_length] using this
    go_enter Try.func7, Try.ntmps7
    go_wp2_with fail
    refine (H.get A n c l w hr (by omega) hc).mono ?_
    rintro e w1 ⟨x, ok, rfl, h1, hb1⟩
    have H1 := Lib.hid h1
    have HR1 := Lib.hid ((hr.below hb1).more hb1.size)
    have HB1 := Lib.hid hb1
    have ho := owns_one w1 45
    clear h1 hr
    go_wp2_with (at_builtin; refine wpList_append_any _ rfl (.tmp 17) (.tmp 18) 22 rfl w1.heap.size 5 i0 (.int .u8 0) 1 1 Try.underlying22 hi hz0 hz1 hz2 rfl (by decide) _ 1 _ rfl ho w1.heap.size A n c (Lib.byteCells l) rfl (HR1.out.alloc (Nat.le_refl _) _) (Lib.byteCells_one _) ?c3 ?c4 ?c5 ?_)
    case c3 => unfold maxLen; omega
    case c4 => omega
    case c5 => simp
    intro v2 w2 ho2 hg2 _
    have hb2 : Below w1.heap.size w1 w2 := ((Below.refl _ _).alloc (Nat.le_refl _) _).grown hg2 (by simp) (fun k hk => (ho.lt k hk).1)
    rw [← Lib.byteCells_append, Nat.add_comm] at ho2
    obtain ⟨A2, c2, rfl, hc2⟩ := form9 ho2
    have hr2 := Reads.of_own ho2
    have HB2 := Lib.hid (HB1.out.trans (hb2.mono HB1.out.size))
    have HR2 := Lib.hid ((HR1.out.below hb2).more hb2.size)
    clear ho ho2 hg2 hb1 hb2 HR1
    go_wp2_with fail
    refine (H.get A2 (n + 1) c2 (45 :: l) w2 hr2 (by omega) hc2).mono ?_
    rintro e w3 ⟨y, is, rfl, h2, hb3⟩
    have HR3 := Lib.hid ((HR2.out.below hb3).more hb3.size)
    have HB3 := Lib.hid (HB2.out.trans (hb3.mono HB2.out.size))
    have hms := Lib.hid (minus_same H1.out h2)
    clear h2 hb3 HR2 HB2 HB1 hr2 H1 hi hz0 hz1 hz2
    have hfin : Calls Try.prog 8 #[] w3 fun e w' => e = .returned (.bool true) ∧ Below w.heap.size w w' :=
      (awake9_any H w3).mono (by rintro e w4 ⟨rfl, hb4⟩; exact ⟨rfl, HB3.out.trans (hb4.mono HB3.out.size)⟩)
    rcases hms.out with ⟨rfl, hbad⟩ | ⟨rfl, rfl, ⟨c0, r0, hlc, hc0⟩, kx, x64, hy, ky, y64⟩
    · cases ok with
      | false =>
        go_wp2_with fail
        refine hfin.mono ?_
        rintro e w4 ⟨rfl, hb4⟩
        go_wp2
        go_ret
        exact ⟨rfl, hb4⟩
      | true =>
        rcases Nat.eq_zero_or_pos n with h0 | h0
        · have hk : key x = none := by
            rcases hbad with h | ⟨r, h⟩ | h
            · cases h
            · exact absurd hl.out (by rw [h, h0]; simp)
            · exact h
          have hx := self_nan hk
          subst h0
          clear hbad
          go_wp2_with fail
          refine hfin.mono ?_
          rintro e w4 ⟨rfl, hb4⟩
          go_wp2
          go_ret
          exact ⟨rfl, hb4⟩
        · obtain ⟨ad, y0, rfl, hc0, hd0, _⟩ := reads_byte HR3.out h0
          rw [add_zero] at hc0
          rw [List.drop_zero] at hd0
          by_cases hy0 : y0.toNat = 45
          · have hB : ((y0.toNat : Int) == 45) = true := by rw [beq_iff_eq]; omega
            clear hy0 hbad hd0
            go_wp2_with fail
            refine hfin.mono ?_
            rintro e w4 ⟨rfl, hb4⟩
            go_wp2
            go_ret
            exact ⟨rfl, hb4⟩
          · have hB : ((y0.toNat : Int) == 45) = false := by rw [beq_eq_false_iff_ne]; omega
            have hk : key x = none := by
              rcases hbad with h | ⟨r, h⟩ | h
              · cases h
              · rw [h] at hd0; injection hd0 with h _; exact absurd (by rw [← h]; rfl) hy0
              · exact h
            have hx := self_nan hk
            clear hy0 hbad hd0
            go_wp2_with fail
            refine hfin.mono ?_
            rintro e w4 ⟨rfl, hb4⟩
            go_wp2
            go_ret
            exact ⟨rfl, hb4⟩
    · have h0 : 0 < n := by rw [← hl.out, hlc]; simp
      obtain ⟨ad, y0, rfl, hcc, hd0, _⟩ := reads_byte HR3.out h0
      rw [add_zero] at hcc
      rw [List.drop_zero, hlc] at hd0
      injection hd0 with hd0 _
      subst hd0
      have hB : ((c0.toNat : Int) == 45) = false := by rw [beq_eq_false_iff_ne]; omega
      have hx := self_of kx
      have hng : ∀ b, Op.unary .neg (.float .f64 b) = pure (.float .f64 (Op.negFloat .f64 b)) := fun _ => rfl
      have HY := Lib.hid hy
      have hsm : Hid ((key y).isSome ∧ y < 2 ^ 64) := ⟨ky, y64⟩
      clear hc0 hlc hy kx x64 ky y64 hms
      go_wp2_with first | (simp only [hng]) | (go_at_call 11; rw [← HY.out]; refine (same9_any (.inr ⟨rfl, hsm.out.1, hsm.out.2⟩) _).mono ?_; rintro e w' ⟨rfl, rfl⟩)
      refine hfin.mono ?_
      rintro e w4 ⟨rfl, hb4⟩
      go_wp2
      go_ret
      exact ⟨rfl, hb4⟩
end Go.Proofs.Ytgiamllemfolkaa
