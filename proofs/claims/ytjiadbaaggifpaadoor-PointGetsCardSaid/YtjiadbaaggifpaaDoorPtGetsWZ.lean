/-
  The walk of the law PointGets. Condition: the program's points are as they must be.
-/
import Derived.Test.YtjiadbaaggifpaaDoorM5
set_option linter.unusedVariables false
set_option linter.unusedSimpArgs false
namespace Go.Proofs.YtjiadbaaggifpaaDoor
open Go Go.Proofs Go.RowKit F5


set_option maxHeartbeats 32000000 in
set_option maxRecDepth 100000 in
theorem pgets_walk {Q : World → Prop} {PP : Pt → Array Value → Prop} {zv : Array Value} (H : PtOk Q PP zv) (A : Option Addr) (n c : Nat) (l : List UInt8) (w : World) (hr : Reads w w.heap.size 1 A n (Lib.byteCells l)) (hnc : n ≤ c) (hm : c ≤ maxLen) (hQ : Q w) :
    Calls Tryd.prog 3 #[.slice A n c] w fun e w' => e = .returned (.bool true) ∧ Below w.heap.size w w' := by
  have HQ := Lib.hid hQ
  obtain ⟨z, hz⟩ : ∃ z, Hid (z = pV 0 0 0) := ⟨_, Lib.hid rfl⟩
  have hz0 : ∀ W, (zeroValue 37).run Tryd.prog W = .ok (.agg z) W := by rw [hz.out]; exact zeroP
  have zs : Hid (z.size = 48) := Lib.hid (by rw [hz.out]; exact pV_size _ _ _)
  have hzp0 : ∀ W : World, (zeroValue 30).run Tryd.prog W = .ok (.agg zv) W := H.zero_run
  have hl : l.length = n := by have := hr.1; rw [Lib.byteCells_length] at this; omega
  have HR := Lib.hid hr
  have HNC := Lib.hid hnc
  have HM := Lib.hid hm
  have HL := Lib.hid hl
  have HB := Lib.hid (Below.refl w.heap.size w)
  clear hr hnc hm hl hQ
  by_cases hn : 100 < n
  · have hn' : (100 : Int) < (n : Int) := by omega
    go_enter Tryd.func3, Tryd.ntmps3
    go_wp2_with fail
    refine (awake7_any H _ (H.old HQ.out HB.out)).mono ?_
    rintro e w3 ⟨rfl, hbb⟩
    have hbe := Lib.hid (HB.out.trans (hbb.mono HB.out.size))
    clear hbb
    go_wp2
    go_ret
    exact ⟨rfl, hbe.out⟩
  have hn' : ¬ (100 : Int) < (n : Int) := by omega
  by_cases h32 : n = 32
  · obtain ⟨v, hv, rfl⟩ := fbytes_of l (by rw [HL.out]; exact h32)
    subst h32
    obtain ⟨ad, rfl, _, _⟩ := HR.out.2 (by omega)
    obtain ⟨b, hb⟩ : ∃ b, Hid (b = decide (okP v)) := ⟨_, Lib.hid rfl⟩
    have CR : Hid (∀ W, Reads W W.heap.size 1 (some ad) 32 (Lib.byteCells (fbytes v)) → Calls Tryd.prog 11 #[.slice (some ad) 32 c] W fun e w' => ∃ C, e = .returned (.tuple #[.agg C, .bool b]) ∧ (∀ h : okP v, PtAt (pget v h) C) ∧ PShape C ∧ Below W.heap.size W w') := Lib.hid fun W hr => by
      rw [hb.out]; exact refGet_any v hv ad c _ W hr (Nat.le_refl _)
    go_enter Tryd.func3, Tryd.ntmps3
    go_upto_region 4 with fail
    refine (H.get v ad c w hv HR.out HNC.out HM.out HQ.out).mono ?_
    rintro e w1 ⟨cu, er, rfl, her, hPP, i1, i2, i3, hb1⟩
    have ou := Lib.hid (show _ ∧ _ ∧ _ from ⟨i1, i2, i3⟩)
    have HPP := Lib.hid hPP
    have hcase : Hid ((b = true ∧ er = 0) ∨ (b = false ∧ er = 8)) := by
      rw [hb.out]
      by_cases h : okP v
      · rw [if_pos h] at her; exact Lib.hid (.inl ⟨by simpa using h, her⟩)
      · rw [if_neg h] at her; exact Lib.hid (.inr ⟨by simpa using h, her⟩)
    have hbc := hb1.trans (((Below.refl w1.heap.size w1).alloc (Nat.le_refl _) (.cells cu 30)).mono hb1.size)
    have E0 := Lib.hid (Blk.new w1 30 cu)
    have HB := Lib.hid (HB.out.trans hbc)
    clear her hPP i1 i2 i3 hb1 hbc
    go_upto_region 4 with (refine wpList_store_row rfl 30 (.tmp 3) (.tmp 15) rfl w1.heap.size cu rfl rfl 30 _ (heap_alloc_new w1 _) ou.out.1 ou.out.2.2 ou.out.2.1 ?_; rw [setRow_alloc1])
    generalize w1.alloc (.cells cu 30) = W1 at *
    generalize w1.heap.size = g3 at *
    have HR1 := Lib.hid ((HR.out.below HB.out).more HB.out.size)
    go_upto_region 9 with fail
    refine (CR.out _ HR1.out).mono ?_
    rintro e w2 ⟨cf, rfl, hPt, hsh, hb1⟩
    have of := Lib.hid (show _ ∧ _ ∧ z.size = cf.size from ⟨hsh.1, hsh.2.1, by rw [zs.out, hsh.2.2]⟩)
    have HPT := Lib.hid hPt
    have hbc := hb1.trans (((Below.refl w2.heap.size w2).alloc (Nat.le_refl _) (.cells cf 37)).mono hb1.size)
    have E0 := Lib.hid (E0.out.old hbc)
    have F0 := Lib.hid (Blk.new w2 37 cf)
    have HB := Lib.hid (HB.out.trans (hbc.mono HB.out.size))
    clear hPt hsh hb1 hbc
    go_upto_region 9 with (refine wpList_store_row rfl 37 (.tmp 5) (.tmp 36) rfl w2.heap.size cf rfl rfl 37 z (heap_alloc_new w2 _) of.out.1 of.out.2.2 of.out.2.1 ?_; rw [setRow_alloc1])
    generalize w2.alloc (.cells cf 37) = W2 at *
    generalize w2.heap.size = g5 at *
    rcases hcase.out with ⟨hbt, hert⟩ | ⟨hbt, hert⟩
    · have hok : okP v := by have := hb.out; rw [hbt] at this; simpa using this.symm
      obtain ⟨p, hp⟩ : ∃ p, Hid (p = pget v hok) := ⟨_, Lib.hid rfl⟩
      have PU : Hid (PP p cu) := by rw [hp.out]; exact Lib.hid (HPP.out hok)
      have PF : Hid (PtAt p cf) := by rw [hp.out]; exact Lib.hid (HPT.out hok)
      have EN : Hid (enc p = v) := by rw [hp.out]; exact Lib.hid (enc_pget hv hok)
      clear hcase hb hok hp HPP HPT
      subst hbt hert
      obtain ⟨bs, hbs⟩ : ∃ x, Hid (x = bytesA (fbytes v)) := ⟨_, Lib.hid rfl⟩
      obtain ⟨zb, hzb⟩ : ∃ z, Hid (z = bytesA (List.replicate 32 0)) := ⟨_, Lib.hid rfl⟩
      have hzb0 : ∀ W, (zeroValue 40).run Tryd.prog W = .ok (.agg zb) W := by
        rw [hzb.out]; exact (zero_of_info (n := 32) (by kernel_rfl)).1
      have CB : Hid (∀ V, Q V → Calls Tryd.prog 12 #[.agg cu] V fun e w' => e = .returned (.agg bs) ∧ Below V.heap.size V w') := Lib.hid fun V hV => by
        have := H.bytes V PU.out hV
        rwa [EN.out, ← hbs.out] at this
      have obs : Hid ((Tryd.prog.info? 40).map (·.size) = some bs.size ∧ bs.all (·.oneCell') = true ∧ zb.size = bs.size) := by rw [hbs.out, hzb.out]; exact Lib.hid ⟨fbytes_info _, bytesA_one _, by rw [bytesA_size, bytesA_size, fbytes_length]; rfl⟩
      go_upto_region 12 with (first | (refine wpList_load_row rfl 30 (.tmp 3) rfl g3 rfl 30 cu (0, 0) _ E0.out Tryd.underlying30 rfl ou.out.1 ?_))
      refine (CB.out _ (H.old HQ.out HB.out)).mono ?_
      rintro e w3 ⟨rfl, hb1⟩
      have hbc := hb1.trans (((Below.refl w3.heap.size w3).alloc (Nat.le_refl _) (.cells bs 40)).mono hb1.size)
      have E0 := Lib.hid (E0.out.old hbc)
      have F0 := Lib.hid (F0.out.old hbc)
      have X7 := Lib.hid (Blk.new w3 40 bs)
      have HB := Lib.hid (HB.out.trans (hbc.mono HB.out.size))
      clear hb1 hbc HR1
      go_upto_region 12 with (refine wpList_store_row rfl 40 (.tmp 7) (.tmp 46) rfl w3.heap.size bs rfl rfl 40 zb (heap_alloc_new w3 _) obs.out.1 obs.out.2.2 obs.out.2.1 ?_; rw [setRow_alloc1])
      generalize w3.alloc (.cells bs 40) = W3 at *
      generalize w3.heap.size = g7 at *
      have hsl := slice32 g7
      have HRB : Hid (∀ V, Below W3.heap.size W3 V → Reads V V.heap.size 1 (some ⟨g7, 0, none⟩) 32 (Lib.byteCells (fbytes v))) := Lib.hid fun V hV => by
        have := X7.out.old hV
        rw [hbs.out] at this
        have := reads_blk this
        rwa [fbytes_length] at this
      have HRA : Hid (∀ V, Below W3.heap.size W3 V → Reads V w.heap.size 1 (some ad) 32 (Lib.byteCells (fbytes v))) := Lib.hid fun V hV => HR.out.below (HB.out.trans (hV.mono HB.out.size))
      (try simp only [Act.put, List.setIfInBounds_toArray, List.set_cons_zero, List.set_cons_succ])
      refine wp_region_held_drew (S := fun V => Below W3.heap.size W3 V) (by kernel_rfl) (Below.refl _ _).drew (fun hHeld => ?_)
      have HB0 := Lib.hid ((Below.refl W3.heap.size W3).drew)
      generalize W3.drew = V0 at *
      refine' wpAnyH_take (i := 0) (oi := _) (v := _) ?hit133 ?hst133 ?hft133 ?hrt133 ?hQt133 ?hyt133 ?hSt133 ?_
      case hit133 => (simp only [List.getElem?_toArray, List.getElem?_cons_succ, List.getElem?_cons_zero]; rfl)
      case hst133 => kernel_rfl
      case hft133 => kernel_rfl
      case hrt133 => kernel_rfl
      case hQt133 => exact fun _ _ _ h => h
      case hSt133 => assumption
      case hyt133 =>
        refine Or.inl ⟨by rfl, ?_⟩
        intro w hSw
        (try dsimp only at hSw)
        go_simp
        all_goals (with_reducible rfl)
      (try simp only [Act.put, List.setIfInBounds_toArray, List.set_cons_zero, List.set_cons_succ])
      refine' wpAnyH_take (i := 1) (oi := _) (v := _) ?hit134 ?hst134 ?hft134 ?hrt134 ?hQt134 ?hyt134 ?hSt134 ?_
      case hit134 => (simp only [List.getElem?_toArray, List.getElem?_cons_succ, List.getElem?_cons_zero]; rfl)
      case hst134 => kernel_rfl
      case hft134 => kernel_rfl
      case hrt134 => kernel_rfl
      case hQt134 => exact fun _ _ _ h => h
      case hSt134 => assumption
      case hyt134 =>
        refine Or.inl ⟨by rfl, ?_⟩
        intro w hSw
        (try dsimp only at hSw)
        go_simp
        all_goals (with_reducible rfl)
      (try simp only [Act.put, List.setIfInBounds_toArray, List.set_cons_zero, List.set_cons_succ])
      refine' wpAnyH_take (i := 2) (oi := _) (v := _) ?hit135 ?hst135 ?hft135 ?hrt135 ?hQt135 ?hyt135 ?hSt135 ?_
      case hit135 => (simp only [List.getElem?_toArray, List.getElem?_cons_succ, List.getElem?_cons_zero]; rfl)
      case hst135 => kernel_rfl
      case hft135 => kernel_rfl
      case hrt135 => kernel_rfl
      case hQt135 => exact fun _ _ _ h => h
      case hSt135 => assumption
      case hyt135 =>
        refine Or.inl ⟨by rfl, ?_⟩
        intro w hSw
        (try dsimp only at hSw)
        go_simp
        all_goals (with_reducible rfl)
      (try simp only [Act.put, List.setIfInBounds_toArray, List.set_cons_zero, List.set_cons_succ])
      refine' wpAnyH_take (i := 3) (oi := _) (v := .agg cu) ?hit136 ?hst136 ?hft136 ?hrt136 ?hQt136 ?hyt136 ?hSt136 ?_
      case hit136 => (simp only [List.getElem?_toArray, List.getElem?_cons_succ, List.getElem?_cons_zero]; rfl)
      case hst136 => kernel_rfl
      case hft136 => kernel_rfl
      case hrt136 => kernel_rfl
      case hQt136 => exact fun _ _ _ h => h
      case hSt136 => assumption
      case hyt136 =>
        refine Or.inl ⟨by rfl, ?_⟩
        intro W hS
        exact quiet_load_row 30 (.tmp 3) _ rfl 30 cu _ (E0.out.old hS) Tryd.underlying30 rfl ou.out.1 rfl
      (try simp only [Act.put, List.setIfInBounds_toArray, List.set_cons_zero, List.set_cons_succ])
      refine' wpAnyH_take (i := 4) (oi := _) (v := .agg cf) ?hit137 ?hst137 ?hft137 ?hrt137 ?hQt137 ?hyt137 ?hSt137 ?_
      case hit137 => (simp only [List.getElem?_toArray, List.getElem?_cons_succ, List.getElem?_cons_zero]; rfl)
      case hst137 => kernel_rfl
      case hft137 => kernel_rfl
      case hrt137 => kernel_rfl
      case hQt137 => exact fun _ _ _ h => h
      case hSt137 => assumption
      case hyt137 =>
        refine Or.inl ⟨by rfl, ?_⟩
        intro W hS
        exact quiet_load_row 37 (.tmp 5) _ rfl 37 cf _ (F0.out.old hS) Tryd.underlying37 rfl of.out.1 rfl
      (try simp only [Act.put, List.setIfInBounds_toArray, List.set_cons_zero, List.set_cons_succ])
      refine wpAnyH_ready (rs := [5]) (by kernel_rfl) (by simp) ?_
      refine' (AllReadyH.cons (o := _) ?hir138_5 (fun K hK => ?br138_5) AllReadyH.nil)
      case hir138_5 => (simp only [List.getElem?_toArray, List.getElem?_cons_succ, List.getElem?_cons_zero]; rfl)
      case br138_5 =>
        go_simp
        refine (same_ptT H rfl PU.out PF.out _ (H.old (H.old HQ.out HB.out) HB0.out)).mono ?_
        rintro e w139 ⟨rfl, hb139⟩
        have H139 := Lib.hid (HB0.out.trans (hb139.mono HB0.out.size))
        clear hb139
        go_wp2_with fail
        refine hK.out _ _ ?_ (fun hHeld => ?_)
        exact H139.out
        clear hK K
        (try simp only [Act.put, List.setIfInBounds_toArray, List.set_cons_zero, List.set_cons_succ])
        refine' wpAnyH_take (i := 6) (oi := _) (v := _) ?hit140 ?hst140 ?hft140 ?hrt140 ?hQt140 ?hyt140 ?hSt140 ?_
        case hit140 => (simp only [List.getElem?_toArray, List.getElem?_cons_succ, List.getElem?_cons_zero]; rfl)
        case hst140 => kernel_rfl
        case hft140 => kernel_rfl
        case hrt140 => kernel_rfl
        case hQt140 => exact fun _ _ _ h => h
        case hSt140 => assumption
        case hyt140 =>
          refine Or.inl ⟨by rfl, ?_⟩
          intro w hSw
          (try dsimp only at hSw)
          go_simp
          all_goals (with_reducible rfl)
        (try simp only [Act.put, List.setIfInBounds_toArray, List.set_cons_zero, List.set_cons_succ])
        refine' wpAnyH_take (i := 7) (oi := _) (v := _) ?hit141 ?hst141 ?hft141 ?hrt141 ?hQt141 ?hyt141 ?hSt141 ?_
        case hit141 => (simp only [List.getElem?_toArray, List.getElem?_cons_succ, List.getElem?_cons_zero]; rfl)
        case hst141 => kernel_rfl
        case hft141 => kernel_rfl
        case hrt141 => kernel_rfl
        case hQt141 => exact fun _ _ _ h => h
        case hSt141 => assumption
        case hyt141 =>
          refine Or.inl ⟨by rfl, ?_⟩
          intro w hSw
          (try dsimp only at hSw)
          go_simp
          all_goals (with_reducible rfl)
        (try simp only [Act.put, List.setIfInBounds_toArray, List.set_cons_zero, List.set_cons_succ])
        refine' wpAnyH_take (i := 8) (oi := _) (v := _) ?hit142 ?hst142 ?hft142 ?hrt142 ?hQt142 ?hyt142 ?hSt142 ?_
        case hit142 => (simp only [List.getElem?_toArray, List.getElem?_cons_succ, List.getElem?_cons_zero]; rfl)
        case hst142 => kernel_rfl
        case hft142 => kernel_rfl
        case hrt142 => kernel_rfl
        case hQt142 => exact fun _ _ _ h => h
        case hSt142 => assumption
        case hyt142 =>
          refine Or.inl ⟨by rfl, ?_⟩
          intro w hSw
          (try dsimp only at hSw)
          go_simp
          all_goals (with_reducible rfl)
        (try simp only [Act.put, List.setIfInBounds_toArray, List.set_cons_zero, List.set_cons_succ])
        refine' wpAnyH_take (i := 9) (oi := _) (v := .string ⟨(fbytes v).toArray⟩) ?hit143 ?hst143 ?hft143 ?hrt143 ?hQt143 ?hyt143 ?hSt143 ?_
        case hit143 => (simp only [List.getElem?_toArray, List.getElem?_cons_succ, List.getElem?_cons_zero]; rfl)
        case hst143 => kernel_rfl
        case hft143 => kernel_rfl
        case hrt143 => kernel_rfl
        case hQt143 => exact fun _ _ _ h => h
        case hSt143 => assumption
        case hyt143 =>
          refine Or.inl ⟨by rfl, ?_⟩
          intro W hS
          exact quiet_back (.tmp 55) (some ⟨g7, 0, none⟩) 32 32 _ (fbytes v) rfl (HRB.out W hS) rfl
        (try simp only [Act.put, List.setIfInBounds_toArray, List.set_cons_zero, List.set_cons_succ])
        refine' wpAnyH_take (i := 10) (oi := _) (v := _) ?hit144 ?hst144 ?hft144 ?hrt144 ?hQt144 ?hyt144 ?hSt144 ?_
        case hit144 => (simp only [List.getElem?_toArray, List.getElem?_cons_succ, List.getElem?_cons_zero]; rfl)
        case hst144 => kernel_rfl
        case hft144 => kernel_rfl
        case hrt144 => kernel_rfl
        case hQt144 => exact fun _ _ _ h => h
        case hSt144 => assumption
        case hyt144 =>
          refine Or.inl ⟨by rfl, ?_⟩
          intro w hSw
          (try dsimp only at hSw)
          go_simp
          all_goals (with_reducible rfl)
        (try simp only [Act.put, List.setIfInBounds_toArray, List.set_cons_zero, List.set_cons_succ])
        refine' wpAnyH_take (i := 11) (oi := _) (v := .string ⟨(fbytes v).toArray⟩) ?hit145 ?hst145 ?hft145 ?hrt145 ?hQt145 ?hyt145 ?hSt145 ?_
        case hit145 => (simp only [List.getElem?_toArray, List.getElem?_cons_succ, List.getElem?_cons_zero]; rfl)
        case hst145 => kernel_rfl
        case hft145 => kernel_rfl
        case hrt145 => kernel_rfl
        case hQt145 => exact fun _ _ _ h => h
        case hSt145 => assumption
        case hyt145 =>
          refine Or.inl ⟨by rfl, ?_⟩
          intro W hS
          exact quiet_back (.tmp 57) (some ad) 32 c _ (fbytes v) rfl (HRA.out W hS) rfl
        (try simp only [Act.put, List.setIfInBounds_toArray, List.set_cons_zero, List.set_cons_succ])
        refine' wpAnyH_take (i := 12) (oi := _) (v := _) ?hit146 ?hst146 ?hft146 ?hrt146 ?hQt146 ?hyt146 ?hSt146 ?_
        case hit146 => (simp only [List.getElem?_toArray, List.getElem?_cons_succ, List.getElem?_cons_zero]; rfl)
        case hst146 => kernel_rfl
        case hft146 => kernel_rfl
        case hrt146 => kernel_rfl
        case hQt146 => exact fun _ _ _ h => h
        case hSt146 => assumption
        case hyt146 =>
          refine Or.inl ⟨by rfl, ?_⟩
          intro w hSw
          (try dsimp only at hSw)
          go_simp
          all_goals (with_reducible rfl)
        (try simp only [Act.put, List.setIfInBounds_toArray, List.set_cons_zero, List.set_cons_succ])
        refine' wpAnyH_take (i := 13) (oi := _) (v := _) ?hit147 ?hst147 ?hft147 ?hrt147 ?hQt147 ?hyt147 ?hSt147 ?_
        case hit147 => (simp only [List.getElem?_toArray, List.getElem?_cons_succ, List.getElem?_cons_zero]; rfl)
        case hst147 => kernel_rfl
        case hft147 => kernel_rfl
        case hrt147 => kernel_rfl
        case hQt147 => exact fun _ _ _ h => h
        case hSt147 => assumption
        case hyt147 =>
          refine Or.inl ⟨by rfl, ?_⟩
          intro w hSw
          (try dsimp only at hSw)
          go_simp
          all_goals (with_reducible rfl)
        (try simp only [Act.put, List.setIfInBounds_toArray, List.set_cons_zero, List.set_cons_succ])
        refine' wpAnyH_take (i := 14) (oi := _) (v := _) ?hit148 ?hst148 ?hft148 ?hrt148 ?hQt148 ?hyt148 ?hSt148 ?_
        case hit148 => (simp only [List.getElem?_toArray, List.getElem?_cons_succ, List.getElem?_cons_zero]; rfl)
        case hst148 => kernel_rfl
        case hft148 => kernel_rfl
        case hrt148 => kernel_rfl
        case hQt148 => exact fun _ _ _ h => h
        case hSt148 => assumption
        case hyt148 =>
          refine Or.inl ⟨by rfl, ?_⟩
          intro w hSw
          (try dsimp only at hSw)
          go_simp
          all_goals (with_reducible rfl)
        (try simp only [Act.put, List.setIfInBounds_toArray, List.set_cons_zero, List.set_cons_succ])
        refine wpAnyH_ready (rs := [15]) (by kernel_rfl) (by simp) ?_
        refine' (AllReadyH.cons (o := _) ?hir149_15 (fun K hK => ?br149_15) AllReadyH.nil)
        case hir149_15 => (simp only [List.getElem?_toArray, List.getElem?_cons_succ, List.getElem?_cons_zero]; rfl)
        case br149_15 =>
          go_simp
          refine (awake7_any H _ (H.old (H.old HQ.out HB.out) H139.out)).mono ?_
          rintro e w150 ⟨rfl, hb150⟩
          have H150 := Lib.hid (H139.out.trans (hb150.mono H139.out.size))
          clear hb150
          go_wp2_with fail
          refine hK.out _ _ ?_ (fun hHeld => ?_)
          exact H150.out
          clear hK K
          (try simp only [Act.put, List.setIfInBounds_toArray, List.set_cons_zero, List.set_cons_succ])
          refine' wpAnyH_take (i := 16) (oi := _) (v := _) ?hit151 ?hst151 ?hft151 ?hrt151 ?hQt151 ?hyt151 ?hSt151 ?_
          case hit151 => (simp only [List.getElem?_toArray, List.getElem?_cons_succ, List.getElem?_cons_zero]; rfl)
          case hst151 => kernel_rfl
          case hft151 => kernel_rfl
          case hrt151 => kernel_rfl
          case hQt151 => exact fun _ _ _ h => h
          case hSt151 => assumption
          case hyt151 =>
            refine Or.inl ⟨by rfl, ?_⟩
            intro w hSw
            (try dsimp only at hSw)
            go_simp
            all_goals (with_reducible rfl)
          (try simp only [Act.put, List.setIfInBounds_toArray, List.set_cons_zero, List.set_cons_succ])
          refine' wpAnyH_take (i := 17) (oi := _) (v := _) ?hit152 ?hst152 ?hft152 ?hrt152 ?hQt152 ?hyt152 ?hSt152 ?_
          case hit152 => (simp only [List.getElem?_toArray, List.getElem?_cons_succ, List.getElem?_cons_zero]; rfl)
          case hst152 => kernel_rfl
          case hft152 => kernel_rfl
          case hrt152 => kernel_rfl
          case hQt152 => exact fun _ _ _ h => h
          case hSt152 => assumption
          case hyt152 =>
            refine Or.inl ⟨by rfl, ?_⟩
            intro w hSw
            (try dsimp only at hSw)
            go_simp
            all_goals (with_reducible rfl)
          (try simp only [Act.put, List.setIfInBounds_toArray, List.set_cons_zero, List.set_cons_succ])
          refine wpAnyH_done (by kernel_rfl) ?_ _
          have hbe := Lib.hid (HB.out.trans (H150.out.mono HB.out.size))
          clear hHeld
          go_wp2_with fail
          go_ret
          exact ⟨rfl, hbe.out⟩
    · clear hcase hb HPP HPT
      subst hbt hert
      go_wp2_with fail
      refine (awake7_any H _ (H.old HQ.out HB.out)).mono ?_
      rintro e w3 ⟨rfl, hbb⟩
      have hbe := Lib.hid (HB.out.trans (hbb.mono HB.out.size))
      clear hbb
      go_wp2
      go_ret
      exact ⟨rfl, hbe.out⟩
  · obtain ⟨er, her⟩ : ∃ er : Int, Hid (er = if n < 32 then 2 else 4) := ⟨_, Lib.hid rfl⟩
    have CO : Hid (Calls Tryd.prog 10 #[.slice A n c] w fun e w' => ∃ c', e = .returned (.tuple #[.agg c', .int .i64 er]) ∧ (Tryd.prog.info? 30).map (·.size) = some c'.size ∧ c'.all (·.oneCell') = true ∧ zv.size = c'.size ∧ Below w.heap.size w w') := by
      rw [her.out]; exact Lib.hid (H.other l A n c w h32 (by omega) HNC.out HM.out HR.out HQ.out)
    go_enter Tryd.func3, Tryd.ntmps3
    go_upto_region 4 with fail
    refine CO.out.mono ?_
    rintro e w1 ⟨cu, rfl, i1, i2, i3, hb1⟩
    have ou := Lib.hid (show _ ∧ _ ∧ _ from ⟨i1, i2, i3⟩)
    have hbc := hb1.trans (((Below.refl w1.heap.size w1).alloc (Nat.le_refl _) (.cells cu 30)).mono hb1.size)
    have HB := Lib.hid (HB.out.trans hbc)
    clear i1 i2 i3 hb1 hbc
    go_upto_region 4 with (refine wpList_store_row rfl 30 (.tmp 3) (.tmp 15) rfl w1.heap.size cu rfl rfl 30 _ (heap_alloc_new w1 _) ou.out.1 ou.out.2.2 ou.out.2.1 ?_; rw [setRow_alloc1])
    generalize w1.alloc (.cells cu 30) = W1 at *
    by_cases hlt : n < 32
    · have hlt' : (n : Int) < 32 := by omega
      have he : er = 2 := by rw [her.out, if_pos hlt]
      clear her
      subst he
      go_wp2_with fail
      refine (awake7_any H _ (H.old HQ.out HB.out)).mono ?_
      rintro e w3 ⟨rfl, hbb⟩
      have hbe := Lib.hid (HB.out.trans (hbb.mono HB.out.size))
      clear hbb
      go_wp2
      go_ret
      exact ⟨rfl, hbe.out⟩
    · have hlt' : ¬ (n : Int) < 32 := by omega
      have hgt' : (32 : Int) < (n : Int) := by omega
      have he : er = 4 := by rw [her.out, if_neg hlt]
      clear her
      subst he
      go_wp2_with fail
      refine (awake7_any H _ (H.old HQ.out HB.out)).mono ?_
      rintro e w3 ⟨rfl, hbb⟩
      have hbe := Lib.hid (HB.out.trans (hbb.mono HB.out.size))
      clear hbb
      go_wp2
      go_ret
      exact ⟨rfl, hbe.out⟩
end Go.Proofs.YtjiadbaaggifpaaDoor
