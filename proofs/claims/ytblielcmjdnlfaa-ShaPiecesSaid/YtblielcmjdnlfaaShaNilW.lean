/-
  The walk of the law ShaNil. No conditions.
-/
import Derived.Test.YtblielcmjdnlfaaShaAwake
import Derived.Test.YtblielcmjdnlfaaShaRef3
import Derived.Test.YtblielcmjdnlfaaShaRef2
import Derived.Deep.RegionHeld3
set_option linter.unusedVariables false
set_option linter.unusedSimpArgs false
namespace Go.Proofs.Ytblielcmjdnlfaa
open Go Go.Proofs Go.RowKit Sha5

theorem reads_of_blk {w : World} {g t : Nat} {l : List UInt8} (h : Blk w g t (bytesA l)) : Reads w w.heap.size 1 (some ⟨g, 0, none⟩) l.length (Lib.byteCells l) := by
  refine ⟨by simp [Lib.byteCells_length], fun _ => ⟨_, rfl, h.lt, fun j u hj => ?_⟩⟩
  rw [show (⟨g, 0, none⟩ : Addr).add j = ⟨g, j, none⟩ from by unfold Addr.add; split <;> simp_all]
  rw [h.cell, bytesA, List.getElem?_toArray]
  exact hj
theorem back_of_blk {w : World} {g t : Nat} {l : List UInt8} (h : Blk w g t (bytesA l)) (hl : l.length = 64) : (convert 27 9 (.slice (some ⟨g, 0, none⟩) 64 64)).run Try.prog w = .ok (.string ⟨l.toArray⟩) w := by
  have := reads_of_blk h
  rw [hl] at this
  exact run_back this

set_option maxHeartbeats 4000000 in
set_option maxRecDepth 100000 in
theorem nil_walk (A : Option Addr) (n c : Nat) (l : List UInt8) (w : World) (hr : Reads w w.heap.size 1 A n (Lib.byteCells l)) (hm : n ≤ maxLen) :
    Calls Try.prog 5 #[.slice A n c] w fun e w' => e = .returned (.bool true) ∧ Below w.heap.size w w' := by
  unfold maxLen at hm
  by_cases hbig : 2000 < n
  · go_enter Try.func5, Try.ntmps5
    go_wp2_with fail
    refine (awake4_any _).mono ?_
    rintro e w1 ⟨rfl, hb1⟩
    go_wp2
    go_ret
    exact ⟨rfl, hb1⟩
  · obtain ⟨z, hz⟩ : ∃ z, Hid (z = (Array.replicate 64 (Value.int .u8 0))) := ⟨_, Lib.hid rfl⟩
    have hz0 : ∀ W, (zeroValue 25).run Try.prog W = .ok (.agg z) W := by
      rw [hz.out]; exact (zero_of_info (n := 64) (by kernel_rfl)).1
    have hzs : Hid (z.size = 64) := by show _ = _; rw [hz.out]; simp
    obtain ⟨R, hR⟩ : ∃ R, Hid (R = bytesA (sumOf [])) := ⟨_, Lib.hid rfl⟩
    have hbs : Hid ((Try.prog.info? 25).map (·.size) = some R.size) := by
      show _ = _; rw [hR.out, bytesA_size, sumOf_length]; exact info25
    have hb1 : Hid (R.all (·.oneCell') = true) := by show _ = _; rw [hR.out]; exact bytesA_one _
    have hzz : Hid (z.size = R.size) := by show _ = _; rw [hzs.out, hR.out, bytesA_size, sumOf_length]
    have hal : Try.prog.arrayLen 25 = 64 := by kernel_rfl
    have hel : Try.prog.elem 25 = 5 := by kernel_rfl
    obtain ⟨S0, hS0⟩ : ∃ S0 : ByteArray, Hid (S0 = ⟨(sumOf []).toArray⟩) := ⟨_, Lib.hid rfl⟩
    go_enter Try.func5, Try.ntmps5
    go_wp2_with fail
    refine (write_nil _ _ _ _).mono ?_
    rintro e w' ⟨rfl, rfl⟩
    go_wp2_with fail
    refine (sum_nil _).mono ?_
    rintro e w1 ⟨rfl, hbel⟩
    rw [← hR.out]
    go_wp2_with (first | (refine wpList_store_row rfl 25 (.tmp 4) (.tmp 13) rfl w1.heap.size R rfl rfl 25 z (heap_alloc_new w1 _) hbs.out hzz.out hb1.out ?_; rw [setRow_alloc1]))
    have hB2 : Blk (w1.alloc (.cells R 25)) w1.heap.size 25 (bytesA (sumOf [])) := by rw [← hR.out]; exact Blk.new _ _ _
    have hbel2 := hbel.alloc hbel.size (.cells R 25)
    obtain ⟨g, hg⟩ : ∃ g, g = w1.heap.size := ⟨_, rfl⟩
    rw [← hg] at hB2 ⊢
    generalize w1.alloc (.cells R 25) = w2 at *
    have HK : Hid (∀ W, Below w2.heap.size w2 W → (convert 27 9 (.slice (some ⟨g, 0, none⟩) 64 64)).run Try.prog W = .ok (.string S0) W) :=
      Lib.hid fun W h => by rw [hS0.out]; exact back_of_blk (hB2.old h) (sumOf_length _)
    have HB2 := Lib.hid hbel2
    clear hB2 hbel2 hbel hg hz0
    have hdr : Below w2.heap.size w2 w2.drew := (Below.refl _ _).drew
    refine wp_region_held_drew (S := fun W => (convert 27 9 (.slice (some ⟨g, 0, none⟩) 64 64)).run Try.prog W = .ok (.string S0) W) (by kernel_rfl) (HK.out _ hdr) (fun hHeld => ?_)
    have HD := Lib.hid hdr
    clear hdr
    generalize w2.drew = w3 at *
    (try simp only [Act.put, List.setIfInBounds_toArray, List.set_cons_zero, List.set_cons_succ])
    refine' wpAnyH_take (i := 0) (oi := _) (v := _) ?hit0 ?hst0 ?hft0 ?hrt0 ?hQt0 ?hyt0 ?hSt0 ?_
    case hit0 => (simp only [List.getElem?_toArray, List.getElem?_cons_succ, List.getElem?_cons_zero]; rfl)
    case hst0 => kernel_rfl
    case hft0 => kernel_rfl
    case hrt0 => kernel_rfl
    case hQt0 => exact fun _ _ _ h => h
    case hSt0 => assumption
    case hyt0 =>
      refine Or.inl ⟨by rfl, ?_⟩
      intro w hSw
      (try dsimp only at hSw)
      go_simp
      all_goals (with_reducible rfl)
    (try simp only [Act.put, List.setIfInBounds_toArray, List.set_cons_zero, List.set_cons_succ])
    refine' wpAnyH_take (i := 1) (oi := _) (v := _) ?hit1 ?hst1 ?hft1 ?hrt1 ?hQt1 ?hyt1 ?hSt1 ?_
    case hit1 => (simp only [List.getElem?_toArray, List.getElem?_cons_succ, List.getElem?_cons_zero]; rfl)
    case hst1 => kernel_rfl
    case hft1 => kernel_rfl
    case hrt1 => kernel_rfl
    case hQt1 => exact fun _ _ _ h => h
    case hSt1 => assumption
    case hyt1 =>
      refine Or.inl ⟨by rfl, ?_⟩
      intro w hSw
      (try dsimp only at hSw)
      go_simp
      all_goals (with_reducible rfl)
    (try simp only [Act.put, List.setIfInBounds_toArray, List.set_cons_zero, List.set_cons_succ])
    refine wpAnyH_ready (rs := [2]) (by kernel_rfl) (by simp) ?_
    refine' AllReadyH.cons (o := _) ?hir2 (fun K hK => ?_) AllReadyH.nil
    case hir2 => (simp only [List.getElem?_toArray, List.getElem?_cons_succ, List.getElem?_cons_zero]; rfl)
    go_simp
    refine hK.out _ _ ?_ (fun hHeld => ?_)
    · exact HK.out _ (HD.out.alloc HD.out.size _)
    clear hK K
    (try simp only [Act.put, List.setIfInBounds_toArray, List.set_cons_zero, List.set_cons_succ])
    refine wpAnyH_ready (rs := [3]) (by kernel_rfl) (by simp) ?_
    refine' AllReadyH.cons (o := _) ?hir3 (fun K hK => ?_) AllReadyH.nil
    case hir3 => (simp only [List.getElem?_toArray, List.getElem?_cons_succ, List.getElem?_cons_zero]; rfl)
    go_simp
    refine (refSum_any _ 0 0 _ [] _ (Reads.of_own (owns_empty w3)) (by omega) (Nat.le_refl _)).mono ?_
    rintro e w4 ⟨v4, rfl, ho4, hb4⟩
    obtain ⟨A4, c4, rfl, hc4⟩ := own_form_cap ho4
    have hd4 := Lib.hid ((HD.out.alloc HD.out.size (.cells #[] 5)).trans (hb4.mono (by have := HD.out.size; simp; omega)))
    have kf := run_back (Reads.of_own ho4) (c := c4)
    rw [sumOf_length] at kf ⊢
    rw [← hS0.out] at kf
    clear ho4 hb4 hc4
    go_wp2_with fail
    refine hK.out _ _ ?_ (fun hHeld => ?_)
    · exact HK.out _ hd4.out
    clear hK K
    (try simp only [Act.put, List.setIfInBounds_toArray, List.set_cons_zero, List.set_cons_succ])
    refine wpAnyH_ready (rs := [4]) (by kernel_rfl) (by simp) ?_
    refine' AllReadyH.cons (o := _) ?hir4 (fun K hK => ?_) AllReadyH.nil
    case hir4 => (simp only [List.getElem?_toArray, List.getElem?_cons_succ, List.getElem?_cons_zero]; rfl)
    go_simp
    refine hK.out _ _ ?_ (fun hHeld => ?_)
    · exact HK.out _ hd4.out
    clear hK K
    (try simp only [Act.put, List.setIfInBounds_toArray, List.set_cons_zero, List.set_cons_succ])
    clear kf
    refine' wpAnyH_take (i := 5) (oi := _) (v := _) ?hit5 ?hst5 ?hft5 ?hrt5 ?hQt5 ?hyt5 ?hSt5 ?_
    case hit5 => (simp only [List.getElem?_toArray, List.getElem?_cons_succ, List.getElem?_cons_zero]; rfl)
    case hst5 => kernel_rfl
    case hft5 => kernel_rfl
    case hrt5 => kernel_rfl
    case hQt5 => exact fun _ _ _ h => h
    case hSt5 => assumption
    case hyt5 =>
      refine Or.inl ⟨by rfl, ?_⟩
      intro w hSw
      (try dsimp only at hSw)
      go_simp
      all_goals (with_reducible rfl)
    (try simp only [Act.put, List.setIfInBounds_toArray, List.set_cons_zero, List.set_cons_succ])
    refine' wpAnyH_take (i := 6) (oi := _) (v := _) ?hit6 ?hst6 ?hft6 ?hrt6 ?hQt6 ?hyt6 ?hSt6 ?_
    case hit6 => (simp only [List.getElem?_toArray, List.getElem?_cons_succ, List.getElem?_cons_zero]; rfl)
    case hst6 => kernel_rfl
    case hft6 => kernel_rfl
    case hrt6 => kernel_rfl
    case hQt6 => exact fun _ _ _ h => h
    case hSt6 => assumption
    case hyt6 =>
      refine Or.inl ⟨by rfl, ?_⟩
      intro w hSw
      (try dsimp only at hSw)
      go_simp
      all_goals (with_reducible rfl)
    (try simp only [Act.put, List.setIfInBounds_toArray, List.set_cons_zero, List.set_cons_succ])
    refine wpAnyH_ready (rs := [7]) (by kernel_rfl) (by simp) ?_
    refine' AllReadyH.cons (o := _) ?hir7 (fun K hK => ?_) AllReadyH.nil
    case hir7 => (simp only [List.getElem?_toArray, List.getElem?_cons_succ, List.getElem?_cons_zero]; rfl)
    go_simp
    refine (awake4_any _).mono ?_
    rintro e w5 ⟨rfl, hb5⟩
    have hd5 := Lib.hid (hd4.out.trans (hb5.mono hd4.out.size))
    clear hb5
    go_wp2_with fail
    refine hK.out _ _ ?_ (fun hHeld => ?_)
    · exact HK.out _ hd5.out
    clear hK K
    (try simp only [Act.put, List.setIfInBounds_toArray, List.set_cons_zero, List.set_cons_succ])
    refine' wpAnyH_take (i := 8) (oi := _) (v := _) ?hit8 ?hst8 ?hft8 ?hrt8 ?hQt8 ?hyt8 ?hSt8 ?_
    case hit8 => (simp only [List.getElem?_toArray, List.getElem?_cons_succ, List.getElem?_cons_zero]; rfl)
    case hst8 => kernel_rfl
    case hft8 => kernel_rfl
    case hrt8 => kernel_rfl
    case hQt8 => exact fun _ _ _ h => h
    case hSt8 => assumption
    case hyt8 =>
      refine Or.inl ⟨by rfl, ?_⟩
      intro w hSw
      (try dsimp only at hSw)
      go_simp
      all_goals (with_reducible rfl)
    (try simp only [Act.put, List.setIfInBounds_toArray, List.set_cons_zero, List.set_cons_succ])
    refine' wpAnyH_take (i := 9) (oi := _) (v := _) ?hit9 ?hst9 ?hft9 ?hrt9 ?hQt9 ?hyt9 ?hSt9 ?_
    case hit9 => (simp only [List.getElem?_toArray, List.getElem?_cons_succ, List.getElem?_cons_zero]; rfl)
    case hst9 => kernel_rfl
    case hft9 => kernel_rfl
    case hrt9 => kernel_rfl
    case hQt9 => exact fun _ _ _ h => h
    case hSt9 => assumption
    case hyt9 =>
      refine Or.inl ⟨by rfl, ?_⟩
      intro w hSw
      (try dsimp only at hSw)
      go_simp
      all_goals (with_reducible rfl)
    (try simp only [Act.put, List.setIfInBounds_toArray, List.set_cons_zero, List.set_cons_succ])
    refine wpAnyH_done (by kernel_rfl) ?_ _
    go_wp2_with fail
    go_ret
    exact ⟨rfl, HB2.out.trans (hd5.out.mono HB2.out.size)⟩
end Go.Proofs.Ytblielcmjdnlfaa
