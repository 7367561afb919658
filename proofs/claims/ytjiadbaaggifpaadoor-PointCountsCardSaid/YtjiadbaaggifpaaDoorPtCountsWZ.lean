/-
  The walk of the law PointCounts. Condition: the program's points are as they must be.
-/
import Derived.Test.YtjiadbaaggifpaaDoorM5
set_option linter.unusedVariables false
set_option linter.unusedSimpArgs false
namespace Go.Proofs.YtjiadbaaggifpaaDoor
open Go Go.Proofs Go.RowKit F5

theorem pt_grown {w w' : World} (h : Below w.heap.size w w') (row : Option Nat) : w.grownBy w' row := ⟨h.os, h.tape, h.output, h.size, fun k hk _ => h.block k hk⟩
theorem pt_grown_row (w : World) (g : Nat) (c : Array Value) : w.grownBy (w.setRow g c) (some g) :=
  ⟨rfl, rfl, rfl, by simp, fun k _ hk => setRow_other w g k c (fun e => hk (by rw [e]))⟩
theorem fbytes_small {m : Nat} (h : m < 256) : fbytes m = UInt8.ofNat m :: List.replicate 31 0 := by
  have e : ∀ k, digs 256 0 k = List.replicate k 0 := by
    intro k
    induction k with
    | zero => rfl
    | succ k ih => show 0 % 256 :: digs 256 (0 / 256) k = _; rw [Nat.zero_mod, Nat.zero_div, ih]; rfl
  show (m % 256 :: digs 256 (m / 256) 31).map UInt8.ofNat = _
  rw [Nat.mod_eq_of_lt h, Nat.div_eq_of_lt h, e]
  rfl
theorem built_first (x : Int) : Tryd.prog.built 40 [(0, .int .u8 x)] = some (.int .u8 x :: List.replicate 31 (.int .u8 0)).toArray := by kernel_rfl
theorem built_small {m : Nat} (h : m < 256) : Tryd.prog.built 40 [(0, .int .u8 (m : Int))] = some (bytesA (fbytes m)) := by
  rw [built_first, fbytes_small h]
  have e : (UInt8.ofNat m).toNat = m := by rw [UInt8.toNat_ofNat']; omega
  simp [bytesA, Lib.byteCells, e]

set_option maxHeartbeats 32000000 in
set_option maxRecDepth 100000 in
theorem pcounts_walk {Q : World → Prop} {PP : Pt → Array Value → Prop} {zv : Array Value} (H : PtOk Q PP zv) (v0 q : Nat) (hv0 : v0 < 2 ^ 256) (hq : q < 256) (w : World) (hQ : Q w) :
    Calls Tryd.prog 8 #[.agg (bytesA (fbytes v0)), .int .u8 (q : Int)] w fun e w' => e = .returned (.bool true) ∧ Below w.heap.size w w' := by
  have HQ := Lib.hid hQ
  obtain ⟨z, hz⟩ : ∃ z, Hid (z = pV 0 0 0) := ⟨_, Lib.hid rfl⟩
  have hz0 : ∀ W, (zeroValue 37).run Tryd.prog W = .ok (.agg z) W := by rw [hz.out]; exact zeroP
  have zs : Hid (z.size = 48) := Lib.hid (by rw [hz.out]; exact pV_size _ _ _)
  have hzp0 : ∀ W : World, (zeroValue 30).run Tryd.prog W = .ok (.agg zv) W := H.zero_run
  obtain ⟨ca0, hca0⟩ : ∃ x, Hid (x = bytesA (fbytes v0)) := ⟨_, Lib.hid rfl⟩
  have hia0 : Hid ((Tryd.prog.info? 40).map (·.size) = some ca0.size) := by rw [hca0.out]; exact Lib.hid (fbytes_info v0)
  have CT0 : Hid (∀ W, Q W → Calls Tryd.prog 14 #[.agg (bytesA (fbytes v0))] W fun e w' => ∃ cu cf, e = .returned (.tuple #[.agg cu, .agg cf, .bool (decide (okP v0))]) ∧ (∀ h : okP v0, PP (pget v0 h) cu) ∧ (∀ h : okP v0, PtAt (pget v0 h) cf) ∧ PSh zv cu ∧ PShape cf ∧ Below W.heap.size W w') := Lib.hid fun W hW => two_pt H v0 hv0 W hW
  obtain ⟨b0, hb0⟩ : ∃ b, Hid (b = decide (okP v0)) := ⟨_, Lib.hid rfl⟩
  rw [← hb0.out] at CT0
  rw [← hca0.out] at CT0
  obtain ⟨m, hm⟩ := named (q % 21)
  have hm21 : m < 21 := by rw [hm.out]; exact Nat.mod_lt _ (by decide)
  have hrem : (q : Int) % 21 = (m : Int) := by rw [hm.out]; rfl
  have hremT : Hid ((q : Int).tmod 21 = (m : Int)) := Lib.hid (by rw [hm.out]; rfl)
  have HBM := Lib.hid (built_small (show m < 256 by omega))
  have CTM : Hid (∀ {p : Pt} {a : Array Value} (V : World), PP p a → Q V → Calls Tryd.prog 21 #[.agg a, .agg (bytesA (fbytes m))] V fun e w' => ∃ c, e = .returned (.agg c) ∧ PP (pmul m p) c ∧ Below V.heap.size V w') := Lib.hid fun V h hq => H.times m V (by omega) h hq
  generalize bytesA (fbytes m) = cm at *
  rw [← hca0.out]
  obtain ⟨x0, xb⟩ := (show Blk (w.alloc (.cells ca0 40)) (w.heap.size) 40 ca0 ∧ Below w.heap.size w (w.alloc (.cells ca0 40)) by
    have h0 := Blk.new w 40 ca0
    exact ⟨h0, ((Below.refl w.heap.size w).alloc (Nat.le_refl _) _)⟩)
  clear hQ hz
  go_enter Tryd.func8, Tryd.ntmps8
  go_upto_region 1 with fail
  generalize w.alloc (.cells ca0 40) = W at *
  have X0 := Lib.hid x0
  have HB := Lib.hid xb
  clear x0 xb
  go_upto_region 2 with (first | (refine wpList_load_row rfl 40 (.tmp 2) rfl w.heap.size rfl 40 ca0 (0, 0) _ X0.out Tryd.underlying40 rfl hia0.out ?_))
  refine (CT0.out _ (H.old HQ.out HB.out)).mono ?_
  rintro e w10 ⟨cu0, cf0, rfl, hu0, hf0, hsu0, hsf0, hbb⟩
  have hge : w.heap.size ≤ w10.heap.size := by have := HB.out.size; have := hbb.size; omega
  obtain ⟨r1, r2, r3, r5, r4⟩ := pt_row w10 zv z cu0 cf0
  have hbc := hbb.trans (r4.mono hbb.size)
  have ou0 := Lib.hid hsu0
  have of0 := Lib.hid (show _ ∧ _ ∧ z.size = cf0.size from ⟨hsf0.1, hsf0.2.1, by rw [zs.out, hsf0.2.2]⟩)
  have HU0 := Lib.hid hu0
  have HF0 := Lib.hid hf0
  have X0 := Lib.hid (X0.out.old hbc)
  have E0 := Lib.hid r3
  have F0 := Lib.hid r5
  have HB := Lib.hid (HB.out.trans (hbc.mono HB.out.size))
  have R1 := Lib.hid r1
  have R2 := Lib.hid r2
  clear hbb r1 r2 r3 r4 r5 hbc hu0 hf0 hsu0 hsf0
  go_upto_region 2 with (first | (refine wpList_store_row rfl 30 (.tmp 5) (.tmp 13) rfl w10.heap.size cu0 rfl rfl 30 _ R1.out ou0.out.1 ou0.out.2.2 ou0.out.2.1 ?_) |
    (refine wpList_store_row rfl 37 (.tmp 6) (.tmp 14) rfl (w10.heap.size + 1) cf0 rfl rfl 37 z R2.out of0.out.1 of0.out.2.2 of0.out.2.1 ?_))
  clear R1 R2
  generalize (((w10.alloc (.cells zv 30)).alloc (.cells z 37)).setRow w10.heap.size cu0).setRow (w10.heap.size + 1) cf0 = W0 at *
  have HGE : Hid (w.heap.size ≤ w10.heap.size) := Lib.hid hge
  clear hge
  generalize w10.heap.size + 1 = gf0 at *
  generalize w10.heap.size = ge0 at *
  have HBb := Lib.hid HB.out
  cases hc0 : b0
  · clear hc0
    go_upto_region 4 with fail
    refine (H.base _ (H.old HQ.out HB.out)).mono ?_
    rintro e w3 ⟨cb, rfl, hpb, hbb⟩
    have ob := H.ok hpb
    have OP := Lib.hid ob
    have PC := Lib.hid hpb
    have E1 := Lib.hid (E0.out.old hbb)
    have EC := Lib.hid (E1.out.row cb)
    have hz3 : Hid (cu0.size = cb.size) := Lib.hid (by rw [← ou0.out.2.2, ob.2.2])
    have hbr := HB.out.trans (hbb.mono HB.out.size)
    have HB := Lib.hid (below_row hbr HGE.out cb)
    clear ob hpb hbb hbr
    obtain ⟨pp, hpp⟩ : ∃ p, Hid (p = pbase) := ⟨_, Lib.hid rfl⟩
    rw [← hpp.out] at PC
    clear hpp
    go_upto_region 4 with (refine wpList_store_row rfl 30 (.tmp 5) (.tmp 18) rfl ge0 cb rfl rfl 30 _ E1.out OP.out.1 hz3.out OP.out.2.1 ?_)
    generalize w3.setRow ge0 cb = Wb at *
    have HBb := Lib.hid HB.out
    go_upto_region 5 with fail
    refine (H.zero _ (H.old HQ.out HB.out)).mono ?_
    rintro e w4 ⟨cz, rfl, hpz, hbb⟩
    have oz := H.ok hpz
    have OZ := Lib.hid oz
    have PZ := Lib.hid hpz
    have hbc := hbb.trans (((Below.refl w4.heap.size w4).alloc (Nat.le_refl _) (.cells cz 30)).mono hbb.size)
    have hlt8 : ge0 < w4.heap.size := (EC.out.old hbb).lt
    have E0 := Lib.hid (EC.out.old hbc)
    have EZ := Lib.hid (Blk.new w4 30 cz)
    have HB := Lib.hid (HB.out.trans (hbc.mono HB.out.size))
    have hg8 : w.heap.size ≤ w4.heap.size := by have := HBb.out.size; have := hbb.size; omega
    have HG8 := Lib.hid hg8
    have HL8 := Lib.hid hlt8
    clear hpz oz hbb hbc hg8 hlt8
    go_upto_region 5 with (refine wpList_store_row rfl 30 (.tmp 8) (.tmp 19) rfl w4.heap.size cz rfl rfl 30 _ (heap_alloc_new w4 _) OZ.out.1 OZ.out.2.2 OZ.out.2.1 ?_; rw [setRow_alloc1])
    generalize w4.alloc (.cells cz 30) = W3 at *
    generalize w4.heap.size = g8 at *
    (try simp only [Act.put, List.setIfInBounds_toArray, List.set_cons_zero, List.set_cons_succ])
    go_wp2_with fail
    go_loopw [9] (fun iv wr => ∃ k c, k ≤ m ∧ iv = .int .i64 (k : Nat) ∧ PP (pmul k pp) c ∧ Blk wr g8 30 c ∧ W3.grownBy wr (some g8)) (fun iv _ => m - (intOf iv).toNat)
    case atStart => exact ⟨0, cz, by omega, rfl, PZ.out, EZ.out, World.grownBy.refl _ _⟩
    case round =>
      obtain ⟨k, c, hk, rfl, hpk, hbk, hg⟩ := hrel
      have okc := H.ok hpk
      have OC := Lib.hid okc
      have PK := Lib.hid hpk
      have BK := Lib.hid hbk
      have HG := Lib.hid hg
      have HBr := Lib.hid (HB.out.grown hg HB.out.size (fun j e => by injection e with e; rw [← e]; exact HG8.out))
      have EP := Lib.hid (E0.out.grown hg (fun e => by injection e with e; have := HL8.out; omega))
      clear okc hpk hbk hg
      by_cases hlt : k < m
      · have hlt' : (k : Int) < (m : Int) := by omega
        clear hlt
        go_wp2_with (first | (refine wpList_load_row rfl 30 (.tmp 8) rfl g8 rfl 30 c (0, 0) _ BK.out Tryd.underlying30 rfl OC.out.1 ?_) | (refine wpList_load_row rfl 30 (.tmp 5) rfl ge0 rfl 30 cb (0, 0) _ EP.out Tryd.underlying30 rfl OP.out.1 ?_))
        refine (H.add _ PK.out PC.out (H.old HQ.out HBr.out)).mono ?_
        rintro e w5 ⟨c5, rfl, hp5, hb5⟩
        have ok5 := H.ok hp5
        have O5 := Lib.hid ok5
        have P5 := Lib.hid hp5
        have B5 := Lib.hid (BK.out.old hb5)
        have G5 := Lib.hid ((HG.out.trans (pt_grown hb5 (some g8))).trans (pt_grown_row w5 g8 c5))
        have hz5 : Hid (c.size = c5.size) := Lib.hid (by rw [← OC.out.2.2, ok5.2.2])
        clear ok5 hp5 hb5
        go_wp2_with (refine wpList_store_row rfl 30 (.tmp 8) (.tmp 29) rfl g8 c5 rfl rfl 30 _ B5.out O5.out.1 hz5.out O5.out.2.1 ?_)
        refine ⟨⟨k + 1, c5, by omega, by go_num, P5.out, B5.out.row c5, G5.out⟩, by simp [intOf]; omega⟩
      · obtain rfl : k = m := by omega
        have hlt' : ¬ (k : Int) < (k : Int) := by omega
        have OK := Lib.hid (show _ ∧ _ ∧ _ from OC.out)
        go_upto_region 9 with fail
        (try simp only [Act.put, List.setIfInBounds_toArray, List.set_cons_zero, List.set_cons_succ])
        refine wp_region_held_drew (S := fun V => Below wr.heap.size wr V) (by kernel_rfl) (Below.refl _ _).drew (fun hHeld => ?_)
        have HB0 := Lib.hid ((Below.refl wr.heap.size wr).drew)
        generalize wr.drew = V0 at *
        refine' wpAnyH_take (i := 0) (oi := _) (v := .agg cb) ?hit1 ?hst1 ?hft1 ?hrt1 ?hQt1 ?hyt1 ?hSt1 ?_
        case hit1 => (simp only [List.getElem?_toArray, List.getElem?_cons_succ, List.getElem?_cons_zero]; rfl)
        case hst1 => kernel_rfl
        case hft1 => kernel_rfl
        case hrt1 => kernel_rfl
        case hQt1 => exact fun _ _ _ h => h
        case hSt1 => assumption
        case hyt1 =>
          refine Or.inl ⟨by rfl, ?_⟩
          intro W hS
          exact quiet_load_row 30 (.tmp 5) _ rfl 30 cb _ (EP.out.old hS) Tryd.underlying30 rfl OP.out.1 rfl
        (try simp only [Act.put, List.setIfInBounds_toArray, List.set_cons_zero, List.set_cons_succ])
        refine' wpAnyH_take (i := 1) (oi := _) (v := _) ?hit2 ?hst2 ?hft2 ?hrt2 ?hQt2 ?hyt2 ?hSt2 ?_
        case hit2 => (simp only [List.getElem?_toArray, List.getElem?_cons_succ, List.getElem?_cons_zero]; rfl)
        case hst2 => kernel_rfl
        case hft2 => kernel_rfl
        case hrt2 => kernel_rfl
        case hQt2 => exact fun _ _ _ h => h
        case hSt2 => assumption
        case hyt2 =>
          refine Or.inl ⟨by rfl, ?_⟩
          intro w hSw
          (try dsimp only at hSw)
          go_simp
          all_goals (with_reducible rfl)
        (try simp only [Act.put, List.setIfInBounds_toArray, List.set_cons_zero, List.set_cons_succ])
        refine' wpAnyH_take (i := 2) (oi := _) (v := _) ?hit3 ?hst3 ?hft3 ?hrt3 ?hQt3 ?hyt3 ?hSt3 ?_
        case hit3 => (simp only [List.getElem?_toArray, List.getElem?_cons_succ, List.getElem?_cons_zero]; rfl)
        case hst3 => kernel_rfl
        case hft3 => kernel_rfl
        case hrt3 => kernel_rfl
        case hQt3 => exact fun _ _ _ h => h
        case hSt3 => assumption
        case hyt3 =>
          refine Or.inl ⟨by rfl, ?_⟩
          intro w hSw
          (try dsimp only at hSw)
          go_simp
          all_goals (with_reducible rfl)
        (try simp only [Act.put, List.setIfInBounds_toArray, List.set_cons_zero, List.set_cons_succ])
        refine' wpAnyH_take (i := 3) (oi := _) (v := .agg cm) ?hit4 ?hst4 ?hft4 ?hrt4 ?hQt4 ?hyt4 ?hSt4 ?_
        case hit4 => (simp only [List.getElem?_toArray, List.getElem?_cons_succ, List.getElem?_cons_zero]; rfl)
        case hst4 => kernel_rfl
        case hft4 => kernel_rfl
        case hrt4 => kernel_rfl
        case hQt4 => exact fun _ _ _ h => h
        case hSt4 => assumption
        case hyt4 =>
          refine Or.inl ⟨by rfl, ?_⟩
          intro W hS
          exact quiet_build_to 40 #[(0, .tmp 32)] rfl [(0, .int .u8 (k : Int))] (by simp [Act.eval]; exact hremT.out) _ HBM.out
        (try simp only [Act.put, List.setIfInBounds_toArray, List.set_cons_zero, List.set_cons_succ])
        refine' wpAnyH_take (i := 5) (oi := _) (v := .agg c) ?hit5 ?hst5 ?hft5 ?hrt5 ?hQt5 ?hyt5 ?hSt5 ?_
        case hit5 => (simp only [List.getElem?_toArray, List.getElem?_cons_succ, List.getElem?_cons_zero]; rfl)
        case hst5 => kernel_rfl
        case hft5 => kernel_rfl
        case hrt5 => kernel_rfl
        case hQt5 => exact fun _ _ _ h => h
        case hSt5 => assumption
        case hyt5 =>
          refine Or.inl ⟨by rfl, ?_⟩
          intro W hS
          exact quiet_load_row 30 (.tmp 8) _ rfl 30 c _ (BK.out.old hS) Tryd.underlying30 rfl OK.out.1 rfl
        (try simp only [Act.put, List.setIfInBounds_toArray, List.set_cons_zero, List.set_cons_succ])
        refine wpAnyH_ready (rs := [4]) (by kernel_rfl) (by simp) ?_
        refine' (AllReadyH.cons (o := _) ?hir6_4 (fun K hK => ?br6_4) AllReadyH.nil)
        case hir6_4 => (simp only [List.getElem?_toArray, List.getElem?_cons_succ, List.getElem?_cons_zero]; rfl)
        case br6_4 =>
          go_simp
          refine (CTM.out _ PC.out (H.old (H.old HQ.out HBr.out) HB0.out)).mono ?_
          rintro e w7 ⟨c34, rfl, hp7, hb7⟩
          have P34 := Lib.hid hp7
          have H7 := Lib.hid (HB0.out.trans (hb7.mono HB0.out.size))
          clear hp7 hb7
          go_wp2_with fail
          refine hK.out _ _ ?_ (fun hHeld => ?_)
          exact H7.out
          clear hK K
          (try simp only [Act.put, List.setIfInBounds_toArray, List.set_cons_zero, List.set_cons_succ])
          refine wpAnyH_ready (rs := [6]) (by kernel_rfl) (by simp) ?_
          refine' (AllReadyH.cons (o := _) ?hir8_6 (fun K hK => ?br8_6) AllReadyH.nil)
          case hir8_6 => (simp only [List.getElem?_toArray, List.getElem?_cons_succ, List.getElem?_cons_zero]; rfl)
          case br8_6 =>
            go_simp
            refine (sameT H rfl _ P34.out PK.out (H.old (H.old HQ.out HBr.out) H7.out)).mono ?_
            rintro e w9 ⟨rfl, hb9⟩
            have H9 := Lib.hid (H7.out.trans (hb9.mono H7.out.size))
            clear hb9
            go_wp2_with fail
            refine hK.out _ _ ?_ (fun hHeld => ?_)
            exact H9.out
            clear hK K
            (try simp only [Act.put, List.setIfInBounds_toArray, List.set_cons_zero, List.set_cons_succ])
            refine' wpAnyH_take (i := 7) (oi := _) (v := _) ?hit10 ?hst10 ?hft10 ?hrt10 ?hQt10 ?hyt10 ?hSt10 ?_
            case hit10 => (simp only [List.getElem?_toArray, List.getElem?_cons_succ, List.getElem?_cons_zero]; rfl)
            case hst10 => kernel_rfl
            case hft10 => kernel_rfl
            case hrt10 => kernel_rfl
            case hQt10 => exact fun _ _ _ h => h
            case hSt10 => assumption
            case hyt10 =>
              refine Or.inl ⟨by rfl, ?_⟩
              intro w hSw
              (try dsimp only at hSw)
              go_simp
              all_goals (with_reducible rfl)
            (try simp only [Act.put, List.setIfInBounds_toArray, List.set_cons_zero, List.set_cons_succ])
            refine wpAnyH_ready (rs := [8]) (by kernel_rfl) (by simp) ?_
            refine' (AllReadyH.cons (o := _) ?hir11_8 (fun K hK => ?br11_8) AllReadyH.nil)
            case hir11_8 => (simp only [List.getElem?_toArray, List.getElem?_cons_succ, List.getElem?_cons_zero]; rfl)
            case br11_8 =>
              go_simp
              refine (awake7_any H _ (H.old (H.old HQ.out HBr.out) H9.out)).mono ?_
              rintro e w12 ⟨rfl, hb12⟩
              have H12 := Lib.hid (H9.out.trans (hb12.mono H9.out.size))
              clear hb12
              go_wp2_with fail
              refine hK.out _ _ ?_ (fun hHeld => ?_)
              exact H12.out
              clear hK K
              (try simp only [Act.put, List.setIfInBounds_toArray, List.set_cons_zero, List.set_cons_succ])
              refine' wpAnyH_take (i := 9) (oi := _) (v := _) ?hit13 ?hst13 ?hft13 ?hrt13 ?hQt13 ?hyt13 ?hSt13 ?_
              case hit13 => (simp only [List.getElem?_toArray, List.getElem?_cons_succ, List.getElem?_cons_zero]; rfl)
              case hst13 => kernel_rfl
              case hft13 => kernel_rfl
              case hrt13 => kernel_rfl
              case hQt13 => exact fun _ _ _ h => h
              case hSt13 => assumption
              case hyt13 =>
                refine Or.inl ⟨by rfl, ?_⟩
                intro w hSw
                (try dsimp only at hSw)
                go_simp
                all_goals (with_reducible rfl)
              (try simp only [Act.put, List.setIfInBounds_toArray, List.set_cons_zero, List.set_cons_succ])
              refine' wpAnyH_take (i := 10) (oi := _) (v := _) ?hit14 ?hst14 ?hft14 ?hrt14 ?hQt14 ?hyt14 ?hSt14 ?_
              case hit14 => (simp only [List.getElem?_toArray, List.getElem?_cons_succ, List.getElem?_cons_zero]; rfl)
              case hst14 => kernel_rfl
              case hft14 => kernel_rfl
              case hrt14 => kernel_rfl
              case hQt14 => exact fun _ _ _ h => h
              case hSt14 => assumption
              case hyt14 =>
                refine Or.inl ⟨by rfl, ?_⟩
                intro w hSw
                (try dsimp only at hSw)
                go_simp
                all_goals (with_reducible rfl)
              (try simp only [Act.put, List.setIfInBounds_toArray, List.set_cons_zero, List.set_cons_succ])
              refine wpAnyH_done (by kernel_rfl) ?_ _
              have hbe := Lib.hid (HBr.out.trans (H12.out.mono HBr.out.size))
              clear hHeld
              go_wp2_with fail
              go_ret
              exact ⟨rfl, hbe.out⟩
  have ok0 : okP v0 := by have := hb0.out; rw [hc0] at this; simpa using this.symm
  obtain ⟨p0, hp0⟩ : ∃ p, Hid (p = pget v0 ok0) := ⟨_, Lib.hid rfl⟩
  have PU0 : Hid (PP p0 cu0) := by rw [hp0.out]; exact Lib.hid (HU0.out ok0)
  have PF0 : Hid (PtAt p0 cf0) := by rw [hp0.out]; exact Lib.hid (HF0.out ok0)
  have EN0 : Hid (enc p0 = v0) := by rw [hp0.out]; exact Lib.hid (enc_pget hv0 ok0)
  clear hc0 ok0 hp0 hb0 HU0 HF0 CT0
  have OP := Lib.hid (H.ok PU0.out)
  have PC := PU0
  have EC := E0
  obtain ⟨pp, hpp⟩ : ∃ p, Hid (p = p0) := ⟨_, Lib.hid rfl⟩
  rw [← hpp.out] at PC
  clear hpp
  go_upto_region 5 with fail
  refine (H.zero _ (H.old HQ.out HB.out)).mono ?_
  rintro e w4 ⟨cz, rfl, hpz, hbb⟩
  have oz := H.ok hpz
  have OZ := Lib.hid oz
  have PZ := Lib.hid hpz
  have hbc := hbb.trans (((Below.refl w4.heap.size w4).alloc (Nat.le_refl _) (.cells cz 30)).mono hbb.size)
  have hlt8 : ge0 < w4.heap.size := (EC.out.old hbb).lt
  have E0 := Lib.hid (EC.out.old hbc)
  have EZ := Lib.hid (Blk.new w4 30 cz)
  have HB := Lib.hid (HB.out.trans (hbc.mono HB.out.size))
  have hg8 : w.heap.size ≤ w4.heap.size := by have := HBb.out.size; have := hbb.size; omega
  have HG8 := Lib.hid hg8
  have HL8 := Lib.hid hlt8
  clear hpz oz hbb hbc hg8 hlt8
  go_upto_region 5 with (refine wpList_store_row rfl 30 (.tmp 8) (.tmp 19) rfl w4.heap.size cz rfl rfl 30 _ (heap_alloc_new w4 _) OZ.out.1 OZ.out.2.2 OZ.out.2.1 ?_; rw [setRow_alloc1])
  generalize w4.alloc (.cells cz 30) = W3 at *
  generalize w4.heap.size = g8 at *
  (try simp only [Act.put, List.setIfInBounds_toArray, List.set_cons_zero, List.set_cons_succ])
  go_wp2_with fail
  go_loopw [9] (fun iv wr => ∃ k c, k ≤ m ∧ iv = .int .i64 (k : Nat) ∧ PP (pmul k pp) c ∧ Blk wr g8 30 c ∧ W3.grownBy wr (some g8)) (fun iv _ => m - (intOf iv).toNat)
  case atStart => exact ⟨0, cz, by omega, rfl, PZ.out, EZ.out, World.grownBy.refl _ _⟩
  case round =>
    obtain ⟨k, c, hk, rfl, hpk, hbk, hg⟩ := hrel
    have okc := H.ok hpk
    have OC := Lib.hid okc
    have PK := Lib.hid hpk
    have BK := Lib.hid hbk
    have HG := Lib.hid hg
    have HBr := Lib.hid (HB.out.grown hg HB.out.size (fun j e => by injection e with e; rw [← e]; exact HG8.out))
    have EP := Lib.hid (E0.out.grown hg (fun e => by injection e with e; have := HL8.out; omega))
    clear okc hpk hbk hg
    by_cases hlt : k < m
    · have hlt' : (k : Int) < (m : Int) := by omega
      clear hlt
      go_wp2_with (first | (refine wpList_load_row rfl 30 (.tmp 8) rfl g8 rfl 30 c (0, 0) _ BK.out Tryd.underlying30 rfl OC.out.1 ?_) | (refine wpList_load_row rfl 30 (.tmp 5) rfl ge0 rfl 30 cu0 (0, 0) _ EP.out Tryd.underlying30 rfl OP.out.1 ?_))
      refine (H.add _ PK.out PC.out (H.old HQ.out HBr.out)).mono ?_
      rintro e w5 ⟨c5, rfl, hp5, hb5⟩
      have ok5 := H.ok hp5
      have O5 := Lib.hid ok5
      have P5 := Lib.hid hp5
      have B5 := Lib.hid (BK.out.old hb5)
      have G5 := Lib.hid ((HG.out.trans (pt_grown hb5 (some g8))).trans (pt_grown_row w5 g8 c5))
      have hz5 : Hid (c.size = c5.size) := Lib.hid (by rw [← OC.out.2.2, ok5.2.2])
      clear ok5 hp5 hb5
      go_wp2_with (refine wpList_store_row rfl 30 (.tmp 8) (.tmp 29) rfl g8 c5 rfl rfl 30 _ B5.out O5.out.1 hz5.out O5.out.2.1 ?_)
      refine ⟨⟨k + 1, c5, by omega, by go_num, P5.out, B5.out.row c5, G5.out⟩, by simp [intOf]; omega⟩
    · obtain rfl : k = m := by omega
      have hlt' : ¬ (k : Int) < (k : Int) := by omega
      have OK := Lib.hid (show _ ∧ _ ∧ _ from OC.out)
      go_upto_region 9 with fail
      (try simp only [Act.put, List.setIfInBounds_toArray, List.set_cons_zero, List.set_cons_succ])
      refine wp_region_held_drew (S := fun V => Below wr.heap.size wr V) (by kernel_rfl) (Below.refl _ _).drew (fun hHeld => ?_)
      have HB0 := Lib.hid ((Below.refl wr.heap.size wr).drew)
      generalize wr.drew = V0 at *
      refine' wpAnyH_take (i := 0) (oi := _) (v := .agg cu0) ?hit15 ?hst15 ?hft15 ?hrt15 ?hQt15 ?hyt15 ?hSt15 ?_
      case hit15 => (simp only [List.getElem?_toArray, List.getElem?_cons_succ, List.getElem?_cons_zero]; rfl)
      case hst15 => kernel_rfl
      case hft15 => kernel_rfl
      case hrt15 => kernel_rfl
      case hQt15 => exact fun _ _ _ h => h
      case hSt15 => assumption
      case hyt15 =>
        refine Or.inl ⟨by rfl, ?_⟩
        intro W hS
        exact quiet_load_row 30 (.tmp 5) _ rfl 30 cu0 _ (EP.out.old hS) Tryd.underlying30 rfl OP.out.1 rfl
      (try simp only [Act.put, List.setIfInBounds_toArray, List.set_cons_zero, List.set_cons_succ])
      refine' wpAnyH_take (i := 1) (oi := _) (v := _) ?hit16 ?hst16 ?hft16 ?hrt16 ?hQt16 ?hyt16 ?hSt16 ?_
      case hit16 => (simp only [List.getElem?_toArray, List.getElem?_cons_succ, List.getElem?_cons_zero]; rfl)
      case hst16 => kernel_rfl
      case hft16 => kernel_rfl
      case hrt16 => kernel_rfl
      case hQt16 => exact fun _ _ _ h => h
      case hSt16 => assumption
      case hyt16 =>
        refine Or.inl ⟨by rfl, ?_⟩
        intro w hSw
        (try dsimp only at hSw)
        go_simp
        all_goals (with_reducible rfl)
      (try simp only [Act.put, List.setIfInBounds_toArray, List.set_cons_zero, List.set_cons_succ])
      refine' wpAnyH_take (i := 2) (oi := _) (v := _) ?hit17 ?hst17 ?hft17 ?hrt17 ?hQt17 ?hyt17 ?hSt17 ?_
      case hit17 => (simp only [List.getElem?_toArray, List.getElem?_cons_succ, List.getElem?_cons_zero]; rfl)
      case hst17 => kernel_rfl
      case hft17 => kernel_rfl
      case hrt17 => kernel_rfl
      case hQt17 => exact fun _ _ _ h => h
      case hSt17 => assumption
      case hyt17 =>
        refine Or.inl ⟨by rfl, ?_⟩
        intro w hSw
        (try dsimp only at hSw)
        go_simp
        all_goals (with_reducible rfl)
      (try simp only [Act.put, List.setIfInBounds_toArray, List.set_cons_zero, List.set_cons_succ])
      refine' wpAnyH_take (i := 3) (oi := _) (v := .agg cm) ?hit18 ?hst18 ?hft18 ?hrt18 ?hQt18 ?hyt18 ?hSt18 ?_
      case hit18 => (simp only [List.getElem?_toArray, List.getElem?_cons_succ, List.getElem?_cons_zero]; rfl)
      case hst18 => kernel_rfl
      case hft18 => kernel_rfl
      case hrt18 => kernel_rfl
      case hQt18 => exact fun _ _ _ h => h
      case hSt18 => assumption
      case hyt18 =>
        refine Or.inl ⟨by rfl, ?_⟩
        intro W hS
        exact quiet_build_to 40 #[(0, .tmp 32)] rfl [(0, .int .u8 (k : Int))] (by simp [Act.eval]; exact hremT.out) _ HBM.out
      (try simp only [Act.put, List.setIfInBounds_toArray, List.set_cons_zero, List.set_cons_succ])
      refine' wpAnyH_take (i := 5) (oi := _) (v := .agg c) ?hit19 ?hst19 ?hft19 ?hrt19 ?hQt19 ?hyt19 ?hSt19 ?_
      case hit19 => (simp only [List.getElem?_toArray, List.getElem?_cons_succ, List.getElem?_cons_zero]; rfl)
      case hst19 => kernel_rfl
      case hft19 => kernel_rfl
      case hrt19 => kernel_rfl
      case hQt19 => exact fun _ _ _ h => h
      case hSt19 => assumption
      case hyt19 =>
        refine Or.inl ⟨by rfl, ?_⟩
        intro W hS
        exact quiet_load_row 30 (.tmp 8) _ rfl 30 c _ (BK.out.old hS) Tryd.underlying30 rfl OK.out.1 rfl
      (try simp only [Act.put, List.setIfInBounds_toArray, List.set_cons_zero, List.set_cons_succ])
      refine wpAnyH_ready (rs := [4]) (by kernel_rfl) (by simp) ?_
      refine' (AllReadyH.cons (o := _) ?hir20_4 (fun K hK => ?br20_4) AllReadyH.nil)
      case hir20_4 => (simp only [List.getElem?_toArray, List.getElem?_cons_succ, List.getElem?_cons_zero]; rfl)
      case br20_4 =>
        go_simp
        refine (CTM.out _ PC.out (H.old (H.old HQ.out HBr.out) HB0.out)).mono ?_
        rintro e w21 ⟨c34, rfl, hp21, hb21⟩
        have P34 := Lib.hid hp21
        have H21 := Lib.hid (HB0.out.trans (hb21.mono HB0.out.size))
        clear hp21 hb21
        go_wp2_with fail
        refine hK.out _ _ ?_ (fun hHeld => ?_)
        exact H21.out
        clear hK K
        (try simp only [Act.put, List.setIfInBounds_toArray, List.set_cons_zero, List.set_cons_succ])
        refine wpAnyH_ready (rs := [6]) (by kernel_rfl) (by simp) ?_
        refine' (AllReadyH.cons (o := _) ?hir22_6 (fun K hK => ?br22_6) AllReadyH.nil)
        case hir22_6 => (simp only [List.getElem?_toArray, List.getElem?_cons_succ, List.getElem?_cons_zero]; rfl)
        case br22_6 =>
          go_simp
          refine (sameT H rfl _ P34.out PK.out (H.old (H.old HQ.out HBr.out) H21.out)).mono ?_
          rintro e w23 ⟨rfl, hb23⟩
          have H23 := Lib.hid (H21.out.trans (hb23.mono H21.out.size))
          clear hb23
          go_wp2_with fail
          refine hK.out _ _ ?_ (fun hHeld => ?_)
          exact H23.out
          clear hK K
          (try simp only [Act.put, List.setIfInBounds_toArray, List.set_cons_zero, List.set_cons_succ])
          refine' wpAnyH_take (i := 7) (oi := _) (v := _) ?hit24 ?hst24 ?hft24 ?hrt24 ?hQt24 ?hyt24 ?hSt24 ?_
          case hit24 => (simp only [List.getElem?_toArray, List.getElem?_cons_succ, List.getElem?_cons_zero]; rfl)
          case hst24 => kernel_rfl
          case hft24 => kernel_rfl
          case hrt24 => kernel_rfl
          case hQt24 => exact fun _ _ _ h => h
          case hSt24 => assumption
          case hyt24 =>
            refine Or.inl ⟨by rfl, ?_⟩
            intro w hSw
            (try dsimp only at hSw)
            go_simp
            all_goals (with_reducible rfl)
          (try simp only [Act.put, List.setIfInBounds_toArray, List.set_cons_zero, List.set_cons_succ])
          refine wpAnyH_ready (rs := [8]) (by kernel_rfl) (by simp) ?_
          refine' (AllReadyH.cons (o := _) ?hir25_8 (fun K hK => ?br25_8) AllReadyH.nil)
          case hir25_8 => (simp only [List.getElem?_toArray, List.getElem?_cons_succ, List.getElem?_cons_zero]; rfl)
          case br25_8 =>
            go_simp
            refine (awake7_any H _ (H.old (H.old HQ.out HBr.out) H23.out)).mono ?_
            rintro e w26 ⟨rfl, hb26⟩
            have H26 := Lib.hid (H23.out.trans (hb26.mono H23.out.size))
            clear hb26
            go_wp2_with fail
            refine hK.out _ _ ?_ (fun hHeld => ?_)
            exact H26.out
            clear hK K
            (try simp only [Act.put, List.setIfInBounds_toArray, List.set_cons_zero, List.set_cons_succ])
            refine' wpAnyH_take (i := 9) (oi := _) (v := _) ?hit27 ?hst27 ?hft27 ?hrt27 ?hQt27 ?hyt27 ?hSt27 ?_
            case hit27 => (simp only [List.getElem?_toArray, List.getElem?_cons_succ, List.getElem?_cons_zero]; rfl)
            case hst27 => kernel_rfl
            case hft27 => kernel_rfl
            case hrt27 => kernel_rfl
            case hQt27 => exact fun _ _ _ h => h
            case hSt27 => assumption
            case hyt27 =>
              refine Or.inl ⟨by rfl, ?_⟩
              intro w hSw
              (try dsimp only at hSw)
              go_simp
              all_goals (with_reducible rfl)
            (try simp only [Act.put, List.setIfInBounds_toArray, List.set_cons_zero, List.set_cons_succ])
            refine' wpAnyH_take (i := 10) (oi := _) (v := _) ?hit28 ?hst28 ?hft28 ?hrt28 ?hQt28 ?hyt28 ?hSt28 ?_
            case hit28 => (simp only [List.getElem?_toArray, List.getElem?_cons_succ, List.getElem?_cons_zero]; rfl)
            case hst28 => kernel_rfl
            case hft28 => kernel_rfl
            case hrt28 => kernel_rfl
            case hQt28 => exact fun _ _ _ h => h
            case hSt28 => assumption
            case hyt28 =>
              refine Or.inl ⟨by rfl, ?_⟩
              intro w hSw
              (try dsimp only at hSw)
              go_simp
              all_goals (with_reducible rfl)
            (try simp only [Act.put, List.setIfInBounds_toArray, List.set_cons_zero, List.set_cons_succ])
            refine wpAnyH_done (by kernel_rfl) ?_ _
            have hbe := Lib.hid (HBr.out.trans (H26.out.mono HBr.out.size))
            clear hHeld
            go_wp2_with fail
            go_ret
            exact ⟨rfl, hbe.out⟩
end Go.Proofs.YtjiadbaaggifpaaDoor
