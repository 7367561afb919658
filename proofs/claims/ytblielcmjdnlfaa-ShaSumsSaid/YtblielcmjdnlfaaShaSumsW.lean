/-
  The walk of the law ShaSums. No conditions.
-/
import Derived.Test.YtblielcmjdnlfaaShaRowsW
set_option linter.unusedVariables false
set_option linter.unusedSimpArgs false
namespace Go.Proofs.Ytblielcmjdnlfaa
open Go Go.Proofs Go.RowKit Sha5

set_option maxHeartbeats 4000000 in
set_option maxRecDepth 100000 in
theorem sums_walk (A : Option Addr) (n c : Nat) (ls : List (List UInt8)) (w : World) (hr : RowsR w w.heap.size A n ls) (hn : n ≤ 9223372036854775807) (hl : ∀ i, i < n → (ls.getD i []).length ≤ 9223372036854775807) :
    Calls Try.prog 3 #[.slice A n c] w fun e w' => e = .returned (.bool true) ∧ Below w.heap.size w w' := by
  have HG := Lib.hid (great_any A n c w.heap.size ls w hr hn hl)
  have HR := Lib.hid hr
  clear hr hl
  obtain ⟨z, hz⟩ : ∃ z, Hid (z = (Array.replicate 64 (Value.int .u8 0))) := ⟨_, Lib.hid rfl⟩
  have hz0 : ∀ W, (zeroValue 25).run Try.prog W = .ok (.agg z) W := by
    rw [hz.out]; exact (zero_of_info (n := 64) (by kernel_rfl)).1
  have hzs : Hid (z.size = 64) := by show _ = _; rw [hz.out]; simp
  obtain ⟨D, hD⟩ : ∃ D, Hid (D = ls.flatten) := ⟨_, Lib.hid rfl⟩
  obtain ⟨R, hR⟩ : ∃ R, Hid (R = bytesA (sumOf D)) := ⟨_, Lib.hid rfl⟩
  have hbs : Hid ((Try.prog.info? 25).map (·.size) = some R.size) := by
    show _ = _; rw [hR.out, bytesA_size, sumOf_length]; exact info25
  have hb1 : Hid (R.all (·.oneCell') = true) := by show _ = _; rw [hR.out]; exact bytesA_one _
  have hzz : Hid (z.size = R.size) := by show _ = _; rw [hzs.out, hR.out, bytesA_size, sumOf_length]
  have hal : Try.prog.arrayLen 25 = 64 := by kernel_rfl
  have hel : Try.prog.elem 25 = 5 := by kernel_rfl
  obtain ⟨S0, hS0⟩ : ∃ S0 : ByteArray, Hid (S0 = ⟨(sumOf D).toArray⟩) := ⟨_, Lib.hid rfl⟩
  go_enter Try.func3, Try.ntmps3
  go_wp2_with fail
  refine HG.out.mono ?_
  rintro e w' ⟨gb, rfl, rfl, hgb⟩
  cases gb with
  | true =>
    clear hgb
    go_wp2_with fail
    refine (awake4_any _).mono ?_
    rintro e w1 ⟨rfl, hb1⟩
    go_wp2
    go_ret
    exact ⟨rfl, hb1⟩
  | false =>
    obtain ⟨hsm, hn100⟩ := hgb rfl
    have HSM := Lib.hid hsm
    clear hgb hsm
    go_wp2_with fail
    refine (of_any A n c w.heap.size ls w HR.out (Nat.le_refl _) (by have := HSM.out; omega) (by omega)).mono ?_
    rintro e w1 ⟨rfl, hbel⟩
    rw [← hD.out, ← hR.out]
    go_wp2_with (first | (refine wpList_store_row rfl 25 (.tmp 3) (.tmp 8) rfl w1.heap.size R rfl rfl 25 z (heap_alloc_new w1 _) hbs.out hzz.out hb1.out ?_; rw [setRow_alloc1]))
    have hB2 : Blk (w1.alloc (.cells R 25)) w1.heap.size 25 (bytesA (sumOf D)) := by rw [← hR.out]; exact Blk.new _ _ _
    have hbel2 := hbel.alloc hbel.size (.cells R 25)
    obtain ⟨g, hg⟩ : ∃ g, g = w1.heap.size := ⟨_, rfl⟩
    rw [← hg] at hB2 ⊢
    generalize w1.alloc (.cells R 25) = w2 at *
    have HK : Hid (∀ W, Below w2.heap.size w2 W → (convert 27 9 (.slice (some ⟨g, 0, none⟩) 64 64)).run Try.prog W = .ok (.string S0) W) :=
      Lib.hid fun W h => by rw [hS0.out]; exact back_of_blk (hB2.old h) (sumOf_length _)
    have HB2 := Lib.hid hbel2
    have HR2 := Lib.hid (HR.out.old hbel2 (Nat.le_refl _))
    have hws := hbel2.size
    clear hB2 hbel2 hbel hg hz0
    have hdr : Below w2.heap.size w2 w2.drew := (Below.refl _ _).drew
    refine wp_region_held_drew (S := fun W => (convert 27 9 (.slice (some ⟨g, 0, none⟩) 64 64)).run Try.prog W = .ok (.string S0) W) (by kernel_rfl) (HK.out _ hdr) (fun hHeld => ?_)
    have HD := Lib.hid hdr
    clear hdr
    generalize w2.drew = w3 at *
    (try simp only [Act.put, List.setIfInBounds_toArray, List.set_cons_zero, List.set_cons_succ])
    refine' wpAnyH_take (i := 0) (oi := _) (v := _) ?hit0 ?hst0 ?hft0 ?hrt0 ?hQt0 ?hyt0 ?hSt0 ?_
    case hit0 => (simp only [List.getElem?_toArray, List.getElem?_cons_succ, List.getElem?_cons_zero]; rfl)
    case hst0 => kernel_rfl
    case hft0 => kernel_rfl
    case hrt0 => kernel_rfl
    case hQt0 => exact fun _ _ _ h => h
    case hSt0 => assumption
    case hyt0 =>
      refine Or.inl ⟨by rfl, ?_⟩
      intro w hSw
      (try dsimp only at hSw)
      go_simp
      all_goals (with_reducible rfl)
    (try simp only [Act.put, List.setIfInBounds_toArray, List.set_cons_zero, List.set_cons_succ])
    refine' wpAnyH_take (i := 1) (oi := _) (v := _) ?hit1 ?hst1 ?hft1 ?hrt1 ?hQt1 ?hyt1 ?hSt1 ?_
    case hit1 => (simp only [List.getElem?_toArray, List.getElem?_cons_succ, List.getElem?_cons_zero]; rfl)
    case hst1 => kernel_rfl
    case hft1 => kernel_rfl
    case hrt1 => kernel_rfl
    case hQt1 => exact fun _ _ _ h => h
    case hSt1 => assumption
    case hyt1 =>
      refine Or.inl ⟨by rfl, ?_⟩
      intro w hSw
      (try dsimp only at hSw)
      go_simp
      all_goals (with_reducible rfl)
    (try simp only [Act.put, List.setIfInBounds_toArray, List.set_cons_zero, List.set_cons_succ])
    refine' wpAnyH_take (i := 2) (oi := _) (v := _) ?hit2 ?hst2 ?hft2 ?hrt2 ?hQt2 ?hyt2 ?hSt2 ?_
    case hit2 => (simp only [List.getElem?_toArray, List.getElem?_cons_succ, List.getElem?_cons_zero]; rfl)
    case hst2 => kernel_rfl
    case hft2 => kernel_rfl
    case hrt2 => kernel_rfl
    case hQt2 => exact fun _ _ _ h => h
    case hSt2 => assumption
    case hyt2 =>
      refine Or.inl ⟨by rfl, ?_⟩
      intro w hSw
      (try dsimp only at hSw)
      go_simp
      all_goals (with_reducible rfl)
    (try simp only [Act.put, List.setIfInBounds_toArray, List.set_cons_zero, List.set_cons_succ])
    refine wpAnyH_ready (rs := [3]) (by kernel_rfl) (by simp) ?_
    refine' AllReadyH.cons (o := _) ?hir3 (fun K hK => ?_) AllReadyH.nil
    case hir3 => (simp only [List.getElem?_toArray, List.getElem?_cons_succ, List.getElem?_cons_zero]; rfl)
    go_simp
    refine (join_any A n c w.heap.size ls w3 (HR2.out.old HD.out hws) (by have := HD.out.size; omega) (by have := HSM.out; omega) (by omega)).mono ?_
    rintro e w4 ⟨v4, rfl, ho4, hb4⟩
    rw [← hD.out] at ho4
    have hDl : D.length ≤ 2000 := by rw [hD.out]; exact HSM.out
    obtain ⟨A4, c4, rfl, hc4⟩ := own_form_cap ho4
    have hd4 := Lib.hid (HD.out.trans (hb4.mono HD.out.size))
    have HO4 := Lib.hid (Reads.of_own ho4)
    clear ho4 hb4 hc4
    go_wp2_with fail
    refine hK.out _ _ ?_ (fun hHeld => ?_)
    · exact HK.out _ hd4.out
    clear hK K
    (try simp only [Act.put, List.setIfInBounds_toArray, List.set_cons_zero, List.set_cons_succ])
    refine wpAnyH_ready (rs := [4]) (by kernel_rfl) (by simp) ?_
    refine' AllReadyH.cons (o := _) ?hir4 (fun K hK => ?_) AllReadyH.nil
    case hir4 => (simp only [List.getElem?_toArray, List.getElem?_cons_succ, List.getElem?_cons_zero]; rfl)
    go_simp
    refine (refSum_any A4 D.length c4 _ D _ HO4.out (by omega) (Nat.le_refl _)).mono ?_
    rintro e w5 ⟨v5, rfl, ho5, hb5⟩
    obtain ⟨A5, c5, rfl, hc5⟩ := own_form_cap ho5
    have hd5 := Lib.hid (hd4.out.trans (hb5.mono hd4.out.size))
    have kf := run_back (Reads.of_own ho5) (c := c5)
    rw [sumOf_length] at kf ⊢
    rw [← hS0.out] at kf
    clear ho5 hb5 hc5
    go_wp2_with fail
    refine hK.out _ _ ?_ (fun hHeld => ?_)
    · exact HK.out _ hd5.out
    clear hK K
    (try simp only [Act.put, List.setIfInBounds_toArray, List.set_cons_zero, List.set_cons_succ])
    refine wpAnyH_ready (rs := [5]) (by kernel_rfl) (by simp) ?_
    refine' AllReadyH.cons (o := _) ?hir5 (fun K hK => ?_) AllReadyH.nil
    case hir5 => (simp only [List.getElem?_toArray, List.getElem?_cons_succ, List.getElem?_cons_zero]; rfl)
    go_simp
    refine hK.out _ _ ?_ (fun hHeld => ?_)
    · exact HK.out _ hd5.out
    clear hK K
    (try simp only [Act.put, List.setIfInBounds_toArray, List.set_cons_zero, List.set_cons_succ])
    clear kf
    refine' wpAnyH_take (i := 6) (oi := _) (v := _) ?hit6 ?hst6 ?hft6 ?hrt6 ?hQt6 ?hyt6 ?hSt6 ?_
    case hit6 => (simp only [List.getElem?_toArray, List.getElem?_cons_succ, List.getElem?_cons_zero]; rfl)
    case hst6 => kernel_rfl
    case hft6 => kernel_rfl
    case hrt6 => kernel_rfl
    case hQt6 => exact fun _ _ _ h => h
    case hSt6 => assumption
    case hyt6 =>
      refine Or.inl ⟨by rfl, ?_⟩
      intro w hSw
      (try dsimp only at hSw)
      go_simp
      all_goals (with_reducible rfl)
    (try simp only [Act.put, List.setIfInBounds_toArray, List.set_cons_zero, List.set_cons_succ])
    refine' wpAnyH_take (i := 7) (oi := _) (v := _) ?hit7 ?hst7 ?hft7 ?hrt7 ?hQt7 ?hyt7 ?hSt7 ?_
    case hit7 => (simp only [List.getElem?_toArray, List.getElem?_cons_succ, List.getElem?_cons_zero]; rfl)
    case hst7 => kernel_rfl
    case hft7 => kernel_rfl
    case hrt7 => kernel_rfl
    case hQt7 => exact fun _ _ _ h => h
    case hSt7 => assumption
    case hyt7 =>
      refine Or.inl ⟨by rfl, ?_⟩
      intro w hSw
      (try dsimp only at hSw)
      go_simp
      all_goals (with_reducible rfl)
    (try simp only [Act.put, List.setIfInBounds_toArray, List.set_cons_zero, List.set_cons_succ])
    refine wpAnyH_ready (rs := [8]) (by kernel_rfl) (by simp) ?_
    refine' AllReadyH.cons (o := _) ?hir8 (fun K hK => ?_) AllReadyH.nil
    case hir8 => (simp only [List.getElem?_toArray, List.getElem?_cons_succ, List.getElem?_cons_zero]; rfl)
    go_simp
    refine (awake4_any _).mono ?_
    rintro e w6 ⟨rfl, hb6⟩
    have hd6 := Lib.hid (hd5.out.trans (hb6.mono hd5.out.size))
    clear hb6
    go_wp2_with fail
    refine hK.out _ _ ?_ (fun hHeld => ?_)
    · exact HK.out _ hd6.out
    clear hK K
    (try simp only [Act.put, List.setIfInBounds_toArray, List.set_cons_zero, List.set_cons_succ])
    refine' wpAnyH_take (i := 9) (oi := _) (v := _) ?hit9 ?hst9 ?hft9 ?hrt9 ?hQt9 ?hyt9 ?hSt9 ?_
    case hit9 => (simp only [List.getElem?_toArray, List.getElem?_cons_succ, List.getElem?_cons_zero]; rfl)
    case hst9 => kernel_rfl
    case hft9 => kernel_rfl
    case hrt9 => kernel_rfl
    case hQt9 => exact fun _ _ _ h => h
    case hSt9 => assumption
    case hyt9 =>
      refine Or.inl ⟨by rfl, ?_⟩
      intro w hSw
      (try dsimp only at hSw)
      go_simp
      all_goals (with_reducible rfl)
    (try simp only [Act.put, List.setIfInBounds_toArray, List.set_cons_zero, List.set_cons_succ])
    refine' wpAnyH_take (i := 10) (oi := _) (v := _) ?hit10 ?hst10 ?hft10 ?hrt10 ?hQt10 ?hyt10 ?hSt10 ?_
    case hit10 => (simp only [List.getElem?_toArray, List.getElem?_cons_succ, List.getElem?_cons_zero]; rfl)
    case hst10 => kernel_rfl
    case hft10 => kernel_rfl
    case hrt10 => kernel_rfl
    case hQt10 => exact fun _ _ _ h => h
    case hSt10 => assumption
    case hyt10 =>
      refine Or.inl ⟨by rfl, ?_⟩
      intro w hSw
      (try dsimp only at hSw)
      go_simp
      all_goals (with_reducible rfl)
    (try simp only [Act.put, List.setIfInBounds_toArray, List.set_cons_zero, List.set_cons_succ])
    refine wpAnyH_done (by kernel_rfl) ?_ _
    go_wp2_with fail
    go_ret
    exact ⟨rfl, HB2.out.trans (hd6.out.mono HB2.out.size)⟩
end Go.Proofs.Ytblielcmjdnlfaa
