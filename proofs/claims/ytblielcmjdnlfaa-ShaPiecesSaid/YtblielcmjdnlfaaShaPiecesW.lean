/-
  The walk of the law ShaPieces. No conditions.
-/
import Derived.Test.YtblielcmjdnlfaaShaCutW
set_option linter.unusedVariables false
set_option linter.unusedSimpArgs false
namespace Go.Proofs.Ytblielcmjdnlfaa
open Go Go.Proofs Go.RowKit Sha5

theorem RowsR.front {w : World} {B n : Nat} {A : Option Addr} {ls : List (List UInt8)} (h : RowsR w B A n ls) {k : Nat} (hk : k ≤ n) : RowsR w B A k (ls.take k) :=
  ⟨by rw [List.length_take, h.1]; omega, fun i hi => by
    obtain ⟨ad, Ai, ni, ci, h1, h2, h3, h4, h5⟩ := h.2 i (by omega)
    refine ⟨ad, Ai, ni, ci, h1, h2, h3, ?_, h5⟩
    have : (ls.take k).getD i [] = ls.getD i [] := by simp [List.getD, List.getElem?_take, hi]
    rw [this]; exact h4⟩
theorem HashAt.far {w : World} {g : Nat} {D : List UInt8} (h : HashAt w g D) {p : Addr} (hp : g ≠ p.block) (u : Value) : HashAt (w.setCell p u) g D := by
  obtain ⟨s, b, h1, h2⟩ := h
  exact ⟨s, b, h1.far hp u, h2⟩

set_option maxHeartbeats 4000000 in
set_option maxRecDepth 100000 in
theorem pieces_walk (A : Option Addr) (n c : Nat) (ls : List (List UInt8)) (w : World) (hr : RowsR w w.heap.size A n ls) (hnc : n ≤ c) (hn : n ≤ 9223372036854775807) (hl : ∀ i, i < n → (ls.getD i []).length ≤ 9223372036854775807) :
    Calls Try.prog 4 #[.slice A n c] w fun e w' => e = .returned (.bool true) ∧ Below w.heap.size w w' := by
  have HG := Lib.hid (great_any A n c w.heap.size ls w hr hn hl)
  have HR := Lib.hid hr
  clear hr hl
  obtain ⟨z, hz⟩ : ∃ z, Hid (z = (Array.replicate 64 (Value.int .u8 0))) := ⟨_, Lib.hid rfl⟩
  have hz0 : ∀ W, (zeroValue 25).run Try.prog W = .ok (.agg z) W := by
    rw [hz.out]; exact (zero_of_info (n := 64) (by kernel_rfl)).1
  have hzs : Hid (z.size = 64) := by show _ = _; rw [hz.out]; simp
  have hal : Try.prog.arrayLen 25 = 64 := by kernel_rfl
  have hel : Try.prog.elem 25 = 5 := by kernel_rfl
  go_enter Try.func4, Try.ntmps4
  go_wp2_with fail
  refine HG.out.mono ?_
  rintro e w' ⟨gb, rfl, rfl, hgb⟩
  cases gb with
  | true =>
    clear hgb
    go_wp2_with fail
    refine (awake4_any _).mono ?_
    rintro e w1 ⟨rfl, hb1⟩
    go_wp2
    go_ret
    exact ⟨rfl, hb1⟩
  | false =>
    obtain ⟨hsm, hn100⟩ := hgb rfl
    have HSM := Lib.hid hsm
    clear hgb hsm
    by_cases h12 : 12 < n
    · have h12' : decide (12 < (n : Int)) = true := by simp; omega
      go_wp2_with fail
      refine (awake4_any _).mono ?_
      rintro e w1 ⟨rfl, hb1⟩
      go_wp2
      go_ret
      exact ⟨rfl, hb1⟩
    have h12' : decide (12 < (n : Int)) = false := by simp; omega
    go_wp2_with fail
    refine (new_any _).mono ?_
    rintro e w1 ⟨g, rfl, hg1, hH1, hbel1⟩
    have HH1 := Lib.hid hH1
    have HB1 := Lib.hid hbel1
    clear hH1 hbel1
    go_wp2_with fail
    obtain ⟨i0, hi, hzi0, hzi1, hzi2⟩ := info_parts infoByte
    have HLS := Lib.hid HR.out.1
    go_loopg [4] n (fun gh iv wr => ∃ k : Nat, gh + k = n ∧ iv = .int .i64 (k : Nat) ∧ HashAt wr g (ls.take k).flatten ∧ Below w.heap.size w wr)
    case atStart => exact ⟨0, by omega, rfl, HH1.out, HB1.out⟩
    case round =>
      obtain ⟨k, hk0, rfl, hHk, hbk⟩ := hrel
      have HK0 := Lib.hid hk0
      have HHK := Lib.hid hHk
      have HBK := Lib.hid hbk
      clear hk0 hHk hbk
      by_cases hlt : k < n
      · obtain ⟨ad, Ai, ni, ci, rfl, h2, h3, h4, h5, h6⟩ := (HR.out.old HBK.out (Nat.le_refl _)).reads_len k hlt
        obtain ⟨G, hG⟩ : ∃ G, Hid (gk = G + 1 ∧ G + (k + 1) = n) := ⟨gk - 1, Lib.hid ⟨by have := HK0.out; omega, by have := HK0.out; omega⟩⟩
        have hft := flatten_take ls k (by rw [HLS.out]; exact hlt)
        have hfl := flatten_le ls (k + 1)
        have hlen : (ls.take (k + 1)).flatten.length = (ls.take k).flatten.length + ni := by rw [hft, List.length_append, h6]
        rw [hlen] at hfl
        have hsm := HSM.out
        obtain ⟨l, hlk⟩ : ∃ l, Hid (l = ls.getD k []) := ⟨_, Lib.hid rfl⟩
        rw [← hlk.out] at h4 hft h6
        have HFT := Lib.hid hft
        have hoe := Lib.hid (owns_empty wr)
        have hbe : Hid (Below wr.heap.size wr (wr.alloc (.cells #[] 5))) := Lib.hid ((Below.refl _ _).alloc (Nat.le_refl _) _)
        have hsz := HBK.out.size
        have h3' := (hbe.out.cell (p := ad.add k) (by rw [block_of_add]; omega)).trans h3
        clear h3
        have HRD := Lib.hid (h4.alloc (by omega) (.cells #[] 5))
        have HFL := Lib.hid hfl
        have HLK := Lib.hid h6
        have hni : ni ≤ 2000 := by omega
        clear hft hfl hlen h4 h6 hsm
        go_wp2_with (at_builtin; refine wpList_append_any _ rfl (.tmp 23) (.tmp 27) 27 rfl wr.heap.size 5 i0 (.int .u8 0) 1 1 Try.underlying27 hi hzi0 hzi1 hzi2 rfl (by decide) _ _ _ rfl hoe.out w.heap.size Ai ni ci (Lib.byteCells l) rfl HRD.out (Lib.byteCells_one _) (by unfold maxLen; omega) (by omega) (by have := hbe.out.size; omega) ?_)
        intro v4 w4 ho4 hg4 _
        have hb4 := hbe.out.grown hg4 hbe.out.size (fun j hj => (hoe.out.lt j hj).1)
        obtain ⟨A4, c4, rfl, hc4⟩ := own_form_cap ho4
        have hglt := HHK.out.lt
        have hW := Lib.hid (write_any g _ l A4 ni c4 w4 (HHK.out.drew hb4) (src_own ho4 hglt) hc4 (by have := HFL.out; have := HSM.out; omega))
        have HO4 := Lib.hid ho4
        have HB4 := Lib.hid (HBK.out.trans (hb4.mono hsz))
        clear ho4 hg4 hb4
        go_wp2_with fail
        refine hW.out.mono ?_
        rintro e w5 ⟨rfl, hH5, hg5⟩
        rw [← HFT.out] at hH5
        have hb5 := HB4.out.grown hg5 HB4.out.size (by intro j hj; injection hj with hj; omega)
        have ho5 := HO4.out.kept hg5 (by rcases hv : (Value.slice A4 ni c4).ownBlock with _ | j; · exact Or.inl rfl
                                         · refine Or.inr ?_; intro e; injection e with e; have := (HO4.out.lt j hv).1; omega)
        have HH5 := Lib.hid hH5
        have HB5 := Lib.hid hb5
        have HO5 := Lib.hid ho5
        clear hH5 hb5 ho5 hg5
        have hltd : decide ((k : Int) < (n : Int)) = true := by simp; omega
        obtain ⟨D, hD⟩ : ∃ D, Hid (D = (ls.take (k + 1)).flatten) := ⟨_, Lib.hid rfl⟩
        rw [← hD.out] at HH5
        go_wp2_with fail
        go_loopg [6] ni (fun gj kv W => ∃ (m : Nat) (xs : List Value), gj + m = ni ∧ kv = .int .i64 (m : Nat) ∧ W.ownsRow wr.heap.size 5 1 (.slice A4 ni c4) ni xs ∧ HashAt W g D ∧ Below w.heap.size w W)
        case atStart => exact ⟨0, _, by omega, rfl, HO5.out, HH5.out, HB5.out⟩
        case round =>
          obtain ⟨m, xs, hm0, rfl, hom, hHm, hbm⟩ := hrel
          have HM0 := Lib.hid hm0
          have HHM := Lib.hid hHm
          have HBM := Lib.hid hbm
          clear hm0 hHm hbm
          by_cases hlt2 : m < ni
          · obtain ⟨g4, cc, hform, hg4a, hg4b⟩ := hom.form (by omega)
            injection hform with hf1 hf2 hf3
            subst hf1
            subst hf3
            have hcell := hom.cellAt m (by omega)
            have hxm : ∃ u, xs[m]? = some u := ⟨xs[m]'(by have := hom.1; omega), by simp⟩
            obtain ⟨u, hu⟩ := hxm
            rw [hu] at hcell
            have hfr := hom.frozenAt m
            have HST := Lib.hid (hom.stored m (.int .u8 99))
            have hHs := Lib.hid (HHM.out.far (p := ⟨g4, m, none⟩) (by show g ≠ g4; omega) (.int .u8 99))
            have hBs := Lib.hid (HBM.out.setCell (p := ⟨g4, m, none⟩) (by show w.heap.size ≤ g4; omega) (.int .u8 99))
            go_wp2_with fail
            go_roundg (gk - 1)
            case measure => have := HM0.out; omega
            case rel => exact ⟨m + 1, _, by have := HM0.out; omega, by go_num, HST.out.1, hHs.out, hBs.out⟩
          · clear hom
            obtain ⟨R, hR⟩ : ∃ R, Hid (R = bytesA (sumOf D)) := ⟨_, Lib.hid rfl⟩
            have hbs : Hid ((Try.prog.info? 25).map (·.size) = some R.size) := by
              show _ = _; rw [hR.out, bytesA_size, sumOf_length]; exact info25
            have hb1 : Hid (R.all (·.oneCell') = true) := by show _ = _; rw [hR.out]; exact bytesA_one _
            have hzz : Hid (z.size = R.size) := by show _ = _; rw [hzs.out, hR.out, bytesA_size, sumOf_length]
            obtain ⟨S0, hS0⟩ : ∃ S0 : ByteArray, Hid (S0 = ⟨(sumOf D).toArray⟩) := ⟨_, Lib.hid rfl⟩
            have hDl : D.length ≤ 2000 := by rw [hD.out]; have := flatten_le ls (k + 1); have := HSM.out; omega
            have HS := Lib.hid (sum_any g D wr HHM.out (by omega))
            rw [← hR.out] at HS
            go_wp2_with fail
            refine HS.out.mono ?_
            rintro e w6 ⟨rfl, hb6⟩
            have hbel := HBM.out.trans (hb6.mono HBM.out.size)
            have hH6 := HHM.out.drew hb6
            clear hb6
            go_wp2_with (first | (refine wpList_store_row rfl 25 (.tmp 7) (.tmp 42) rfl w6.heap.size R rfl rfl 25 z (heap_alloc_new w6 _) hbs.out hzz.out hb1.out ?_; rw [setRow_alloc1]))
            have hB2 : Blk (w6.alloc (.cells R 25)) w6.heap.size 25 (bytesA (sumOf D)) := by rw [← hR.out]; exact Blk.new _ _ _
            have hbel2 := hbel.alloc hbel.size (.cells R 25)
            have HH7 := Lib.hid (hH6.alloc (.cells R 25))
            obtain ⟨g2, hg2⟩ : ∃ g, g = w6.heap.size := ⟨_, rfl⟩
            rw [← hg2] at hB2 ⊢
            generalize w6.alloc (.cells R 25) = w7 at *
            have HKK : Hid (∀ W, Below w7.heap.size w7 W → (convert 27 9 (.slice (some ⟨g2, 0, none⟩) 64 64)).run Try.prog W = .ok (.string S0) W) :=
              Lib.hid fun W h => by rw [hS0.out]; exact back_of_blk (hB2.old h) (sumOf_length _)
            have HB7 := Lib.hid hbel2
            have HR7 := Lib.hid ((HR.out.old hbel2 (Nat.le_refl _)).front (k := k + 1) hlt)
            have hws := hbel2.size
            clear hB2 hbel2 hbel hg2 hH6
            have hdr : Below w7.heap.size w7 w7.drew := (Below.refl _ _).drew
            refine wp_region_held_drew (S := fun W => (convert 27 9 (.slice (some ⟨g2, 0, none⟩) 64 64)).run Try.prog W = .ok (.string S0) W) (by kernel_rfl) (HKK.out _ hdr) (fun hHeld => ?_)
            have HD := Lib.hid hdr
            clear hdr
            generalize w7.drew = w8 at *
            (try simp only [Act.put, List.setIfInBounds_toArray, List.set_cons_zero, List.set_cons_succ])
            refine' wpAnyH_take (i := 0) (oi := _) (v := _) ?hit0 ?hst0 ?hft0 ?hrt0 ?hQt0 ?hyt0 ?hSt0 ?_
            case hit0 => (simp only [List.getElem?_toArray, List.getElem?_cons_succ, List.getElem?_cons_zero]; rfl)
            case hst0 => kernel_rfl
            case hft0 => kernel_rfl
            case hrt0 => kernel_rfl
            case hQt0 => exact fun _ _ _ h => h
            case hSt0 => assumption
            case hyt0 =>
              refine Or.inl ⟨by rfl, ?_⟩
              intro w hSw
              (try dsimp only at hSw)
              go_simp
              all_goals (with_reducible rfl)
            (try simp only [Act.put, List.setIfInBounds_toArray, List.set_cons_zero, List.set_cons_succ])
            refine' wpAnyH_take (i := 1) (oi := _) (v := _) ?hit1 ?hst1 ?hft1 ?hrt1 ?hQt1 ?hyt1 ?hSt1 ?_
            case hit1 => (simp only [List.getElem?_toArray, List.getElem?_cons_succ, List.getElem?_cons_zero]; rfl)
            case hst1 => kernel_rfl
            case hft1 => kernel_rfl
            case hrt1 => kernel_rfl
            case hQt1 => exact fun _ _ _ h => h
            case hSt1 => assumption
            case hyt1 =>
              refine Or.inl ⟨by rfl, ?_⟩
              intro w hSw
              (try dsimp only at hSw)
              go_simp
              all_goals (with_reducible rfl)
            (try simp only [Act.put, List.setIfInBounds_toArray, List.set_cons_zero, List.set_cons_succ])
            refine' wpAnyH_take (i := 2) (oi := _) (v := _) ?hit2 ?hst2 ?hft2 ?hrt2 ?hQt2 ?hyt2 ?hSt2 ?_
            case hit2 => (simp only [List.getElem?_toArray, List.getElem?_cons_succ, List.getElem?_cons_zero]; rfl)
            case hst2 => kernel_rfl
            case hft2 => kernel_rfl
            case hrt2 => kernel_rfl
            case hQt2 => exact fun _ _ _ h => h
            case hSt2 => assumption
            case hyt2 =>
              refine Or.inl ⟨by rfl, ?_⟩
              intro w hSw
              (try dsimp only at hSw)
              go_simp
              all_goals (with_reducible rfl)
            (try simp only [Act.put, List.setIfInBounds_toArray, List.set_cons_zero, List.set_cons_succ])
            refine' wpAnyH_take (i := 3) (oi := _) (v := _) ?hit3 ?hst3 ?hft3 ?hrt3 ?hQt3 ?hyt3 ?hSt3 ?_
            case hit3 => (simp only [List.getElem?_toArray, List.getElem?_cons_succ, List.getElem?_cons_zero]; rfl)
            case hst3 => kernel_rfl
            case hft3 => kernel_rfl
            case hrt3 => kernel_rfl
            case hQt3 => exact fun _ _ _ h => h
            case hSt3 => assumption
            case hyt3 =>
              refine Or.inl ⟨by rfl, ?_⟩
              intro w hSw
              (try dsimp only at hSw)
              go_simp
              all_goals (with_reducible rfl)
            (try simp only [Act.put, List.setIfInBounds_toArray, List.set_cons_zero, List.set_cons_succ])
            have HWR : IntKind.i64.wrap ((k : Int) + 1) = (k : Int) + 1 := IntWalk.i64_in _ (by omega)
            have HTN : ((k : Int) + 1).toNat = k + 1 := by omega
            refine' wpAnyH_take (i := 4) (oi := _) (v := .int .i64 ((k : Int) + 1)) ?hit4 ?hst4 ?hft4 ?hrt4 ?hQt4 ?hyt4 ?hSt4 ?_
            case hit4 => (simp only [List.getElem?_toArray, List.getElem?_cons_succ, List.getElem?_cons_zero]; rfl)
            case hst4 => kernel_rfl
            case hft4 => kernel_rfl
            case hrt4 => kernel_rfl
            case hQt4 => exact fun _ _ _ h => h
            case hSt4 => assumption
            case hyt4 =>
              refine Or.inl ⟨by rfl, ?_⟩
              intro w hSw
              (try dsimp only at hSw)
              go_simp
              all_goals (try rw [HWR])
              all_goals (first | with_reducible rfl | rfl)
            (try simp only [Act.put, List.setIfInBounds_toArray, List.set_cons_zero, List.set_cons_succ])
            refine' wpAnyH_take (i := 5) (oi := _) (v := .slice (some ad) (k + 1) c) ?hit5 ?hst5 ?hft5 ?hrt5 ?hQt5 ?hyt5 ?hSt5 ?_
            case hit5 => (simp only [List.getElem?_toArray, List.getElem?_cons_succ, List.getElem?_cons_zero]; rfl)
            case hst5 => kernel_rfl
            case hft5 => kernel_rfl
            case hrt5 => kernel_rfl
            case hQt5 => exact fun _ _ _ h => h
            case hSt5 => assumption
            case hyt5 =>
              refine Or.inl ⟨by rfl, ?_⟩
              intro w hSw
              (try dsimp only at hSw)
              go_simp
              all_goals (first | with_reducible rfl | (intro hh; omega) | (rw [if_pos (by omega)]; first | rfl | (rw [HTN]; done) | (rw [HTN]; rfl) | (simp; done)))
            (try simp only [Act.put, List.setIfInBounds_toArray, List.set_cons_zero, List.set_cons_succ])
            refine wpAnyH_ready (rs := [6]) (by kernel_rfl) (by simp) ?_
            refine' AllReadyH.cons (o := _) ?hir6 (fun K hK => ?_) AllReadyH.nil
            case hir6 => (simp only [List.getElem?_toArray, List.getElem?_cons_succ, List.getElem?_cons_zero]; rfl)
            go_simp
            refine (join_any (some ad) (k + 1) c w.heap.size (ls.take (k + 1)) w8 (HR7.out.old HD.out hws) (by have := HD.out.size; omega) (by rw [← hD.out]; omega) (by omega)).mono ?_
            rintro e w9 ⟨v9, rfl, ho9, hb9⟩
            rw [← hD.out] at ho9
            obtain ⟨A9, c9, rfl, hc9⟩ := own_form_cap ho9
            have hd9 := Lib.hid (HD.out.trans (hb9.mono HD.out.size))
            have HO9 := Lib.hid (Reads.of_own ho9)
            clear ho9 hb9 hc9
            go_wp2_with fail
            refine hK.out _ _ ?_ (fun hHeld => ?_)
            · exact HKK.out _ hd9.out
            clear hK K
            (try simp only [Act.put, List.setIfInBounds_toArray, List.set_cons_zero, List.set_cons_succ])
            refine wpAnyH_ready (rs := [7]) (by kernel_rfl) (by simp) ?_
            refine' AllReadyH.cons (o := _) ?hir7 (fun K hK => ?_) AllReadyH.nil
            case hir7 => (simp only [List.getElem?_toArray, List.getElem?_cons_succ, List.getElem?_cons_zero]; rfl)
            go_simp
            refine (refSum_any A9 D.length c9 _ D _ HO9.out (by omega) (Nat.le_refl _)).mono ?_
            rintro e w10 ⟨v10, rfl, ho10, hb10⟩
            obtain ⟨A10, c10, rfl, hc10⟩ := own_form_cap ho10
            have hd10 := Lib.hid (hd9.out.trans (hb10.mono hd9.out.size))
            have kf := run_back (Reads.of_own ho10) (c := c10)
            rw [sumOf_length] at kf ⊢
            rw [← hS0.out] at kf
            clear ho10 hb10 hc10
            go_wp2_with fail
            refine hK.out _ _ ?_ (fun hHeld => ?_)
            · exact HKK.out _ hd10.out
            clear hK K
            (try simp only [Act.put, List.setIfInBounds_toArray, List.set_cons_zero, List.set_cons_succ])
            refine wpAnyH_ready (rs := [8]) (by kernel_rfl) (by simp) ?_
            refine' AllReadyH.cons (o := _) ?hir8 (fun K hK => ?_) AllReadyH.nil
            case hir8 => (simp only [List.getElem?_toArray, List.getElem?_cons_succ, List.getElem?_cons_zero]; rfl)
            go_simp
            refine hK.out _ _ ?_ (fun hHeld => ?_)
            · exact HKK.out _ hd10.out
            clear hK K
            (try simp only [Act.put, List.setIfInBounds_toArray, List.set_cons_zero, List.set_cons_succ])
            clear kf
            refine' wpAnyH_take (i := 9) (oi := _) (v := _) ?hit9 ?hst9 ?hft9 ?hrt9 ?hQt9 ?hyt9 ?hSt9 ?_
            case hit9 => (simp only [List.getElem?_toArray, List.getElem?_cons_succ, List.getElem?_cons_zero]; rfl)
            case hst9 => kernel_rfl
            case hft9 => kernel_rfl
            case hrt9 => kernel_rfl
            case hQt9 => exact fun _ _ _ h => h
            case hSt9 => assumption
            case hyt9 =>
              refine Or.inl ⟨by rfl, ?_⟩
              intro w hSw
              (try dsimp only at hSw)
              go_simp
              all_goals (with_reducible rfl)
            (try simp only [Act.put, List.setIfInBounds_toArray, List.set_cons_zero, List.set_cons_succ])
            refine wpAnyH_done (by kernel_rfl) ?_ _
            go_wp2_with fail
            go_roundg G
            case measure => have := hG.out; omega
            case rel => exact ⟨k + 1, by have := hG.out; omega, by go_num, by rw [← hD.out]; exact HH7.out.drew hd10.out, HB7.out.trans (hd10.out.mono HB7.out.size)⟩
      · go_wp2_with fail
        refine (awake4_any _).mono ?_
        rintro e w2 ⟨rfl, hb2⟩
        go_wp2
        go_ret
        exact ⟨rfl, HBK.out.trans (hb2.mono HBK.out.size)⟩
end Go.Proofs.Ytblielcmjdnlfaa
