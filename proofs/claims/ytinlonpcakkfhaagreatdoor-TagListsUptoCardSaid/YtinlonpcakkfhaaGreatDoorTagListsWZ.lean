/-
  The walk of the law TagLists over contracts of the program's package tag. Conditions: those contracts; values of at most 2^40 nodes and bytes.
-/
import Derived.Test.YtinlonpcakkfhaaGreatDoorM6
set_option linter.unusedVariables false
set_option linter.unusedSimpArgs false
open Go.Lib (hid)
open Go.Proofs.YtinlonpcakkfhaaGreatDoor (zA zB zC zD zE zF)
set_option maxRecDepth 100000
namespace Go.Proofs.YtinlonpcakkfhaaGreatDoor
open Go Go.Proofs Go.RowKit Sx _root_.Ord11 Go.Proofs.YtinlonpcakkfhaaGreatDoor.Ord11 _root_.Tag12 Sch
theorem may_list {l : List TG} (h : ∀ t ∈ l, mayT t = true) : (nodesL (valuesT l)) ≤ 512 * l.length ∧ (formL (valuesT l)).length ≤ 4096 * l.length := by
  induction l with
  | nil => simp [valuesT, nodesL, formL]
  | cons a r ih =>
    obtain ⟨h1, h2⟩ := ih fun t ht => h t (by simp [ht])
    have h3 := (put_parts (h a (by simp))).1
    unfold Sx.may at h3
    simp only [Bool.and_eq_true, decide_eq_true_eq] at h3
    simp only [valuesT, nodesL, formL, List.length_append, List.length_cons]
    omega
theorem small_list {l : List TG} (h : ∀ t ∈ l, mayT t = true) (hn : l.length ≤ 20) : SmallX (list (valuesT l)) := by
  obtain ⟨h1, h2⟩ := may_list h
  unfold SmallX list
  rw [nodes, form]
  simp only [if_true, List.length_cons, List.length_append, List.length_nil]
  omega
theorem rights_of {l : List TG} (h : ∀ t ∈ l, mayT t = true) : ∀ t ∈ l, rightT ordC t = true := fun t ht => (put_parts (h t ht)).2.1
theorem getR_list {l : List TG} (h : ∀ t ∈ l, mayT t = true) (hs : headStar l = false) (hm : Sx.may (list (valuesT l)) = true) : getR (list (valuesT l)) = (.mk 3 [] zeroR l, 0) := by
  unfold getR getA
  rw [if_pos hm, get_list l hs fun t ht => get_value t (rights_of h t ht)]
  rfl
theorem slo_nil0 {Sd : Nat → Prop} {B : Nat} {V : World} : SlO Sd B [] (.slice none 0 0) V := ⟨0, [], rfl, ⟨rfl, .inl ⟨rfl, rfl⟩⟩, fun i t h => by simp at h⟩
theorem slo_form {Sd : Nat → Prop} {B : Nat} {ks : List SX} {v : Value} {V : World} (h : SlO Sd B ks v V) : ∃ A n c, v = .slice A n c := by
  obtain ⟨n, xs, _, h2, _⟩ := h
  rcases h2.2 with ⟨rfl, rfl⟩ | ⟨g, cap, cur, rfl, _⟩
  · exact ⟨_, _, _, rfl⟩
  · exact ⟨_, _, _, rfl⟩
theorem slo_lt {Sd : Nat → Prop} {B : Nat} {ks : List SX} {v : Value} {V : World} (h : SlO Sd B ks v V) : ∀ g, v.ownBlock = some g → B ≤ g ∧ g < V.heap.size := by
  obtain ⟨n, xs, _, h2, _⟩ := h
  exact fun g hg => h2.lt g hg
theorem slo_list {Sd S0 : Nat → Prop} {B : Nat} {ks : List SX} {v : Value} {V : World} (h : SlO Sd B ks v V) (hn : ks.length ≤ 1000) (hS : ∀ b, (Sd b ∨ B ≤ b) → S0 b) : SIn V S0 (list ks) [.bool true, .bool false, .slice none 0 0, .slice none 0 0, v] := by
  obtain ⟨A, n, c, xs, rfl, h1, h2, h3, h4, h5⟩ := h.toS (Nat.le_refl _) (by omega)
  exact .mk RIn.none_ ⟨Nat.le_refl _, by omega⟩ RIn.none_ ⟨Nat.le_refl _, by omega⟩ (h4.more fun b hb => hS b (.inr hb)) ⟨h1, by omega⟩ h3 (fun i t hi => (h5 i t hi).more hS)
theorem slo_more {Sd : Nat → Prop} {g : Nat} {ks : List SX} {x : SX} {v v' : Value} {W0 V w' : World} {a b c d e : Value} {n : Nat} {xs : List Value} (h0 : SlO Sd (g + 1) ks v W0) (hk : ks.length = n) (h2 : V.ownsRow (g + 1) 34 5 v n xs)
    (h3 : Kids V (fun b => (Sd b ∨ g + 1 ≤ b) ∧ some b ≠ v.ownBlock) ks xs) (hin : SIn V (fun b => Sd b ∨ W0.heap.size ≤ b) x [a, b, c, d, e]) (hS : ∀ b, Sd b → b < g) (hW : g + 1 ≤ W0.heap.size)
    (hown : w'.ownsRow (g + 1) 34 5 v' (n + 1) (xs ++ [a, b, c, d, e])) (hgr : V.grownBy w' v.ownBlock) (hb : v'.ownBlock = v.ownBlock ∨ v'.ownBlock = some V.heap.size) : SlO Sd (g + 1) (ks ++ [x]) v' w' :=
  slo_app (S0 := Sd) (B2 := W0.heap.size) hk h2 h3 rfl (kids_one hin) (fun b hb => ⟨hb, by have := hS b hb; omega⟩) hW (fun b hb => (slo_lt h0 b hb).2) hown hgr hb
theorem slo_box {Sd : Nat → Prop} {g : Nat} {ks : List SX} {v u : Value} {w' : World} {k : Nat} (h : SlO Sd (g + 1) ks v w') (hS : ∀ b, Sd b → b < g) : SlO Sd (g + 1) ks v (w'.setCell ⟨g, k, none⟩ u) := by
  obtain ⟨n, xs, h1, h2, h3⟩ := h
  refine ⟨n, xs, h1, ownsRow_setCell_below h2 (show g < g + 1 by omega) u, fun i t hi => (h3 i t hi).keep fun p hp => World.cell?_setCell_other _ _ _ _ (fun e => ?_)⟩
  subst e
  rcases hp.1 with h | h
  · have h : g < g := hS _ h
    omega
  · have h : g + 1 ≤ g := h
    omega
set_option maxHeartbeats 1000000 in
theorem tlists_walk {Q : World → Prop} (H : TagOk Q) (l : List TG) (w : World) (S : Nat → Prop) (A : Option Addr) (n c : Nat) (hQ : Q w) (hT0 : TIn w S (.mk 3 [] zeroR l) [.int .u8 3, .slice none 0 0, .slice A n c, .int .u8 0, .bool false, .bool false, .slice none 0 0, .bool false, .bool false, .slice none 0 0]) (hz : ∀ t ∈ l, SmallX (valueT t)) :
    Calls Tryz.prog 7 #[.slice A n c] w fun e w' => e = .returned (.bool true) ∧ Below w.heap.size w w' := by
  obtain ⟨S0, hS0⟩ : ∃ S0 : Nat → Prop, S0 = fun b => S b ∧ b < w.heap.size := ⟨_, rfl⟩
  have hT : TIn w S0 (.mk 3 [] zeroR l) [.int .u8 3, .slice none 0 0, .slice A n c, .int .u8 0, .bool false, .bool false, .slice none 0 0, .bool false, .bool false, .slice none 0 0] := by rw [hS0]; exact hT0.size_
  have HSS : Hid (∀ b, S0 b → b < w.heap.size) := fun b hb => by rw [hS0] at hb; exact hb.2
  clear hS0 hT0
  have hln : l.length = n := hT.inv.2.2.2.1.2.1
  have KA : Hid (∀ W, Below w.heap.size w W → Calls Tryz.prog 9 #[] W fun e w' => e = .returned (.bool true) ∧ Below W.heap.size W w') := fun W hW => awake12_any H W (H.old hQ hW)
  have HQ : Hid (∀ W, Below w.heap.size w W → Q W) := fun W hW => H.old hQ hW
  have HO := hid H
  have HT := hid hT
  have HZ := hid hz
  have HL := hid hln
  clear hT hz H hQ hln
  by_cases h20 : 20 < n
  · have h20' : (20 : Int) < n := by omega
    go_enter Tryz.func7, Tryz.ntmps7
    go_wp2_with (go_at_call 9; (refine (KA.out _ (Below.refl _ _)).mono ?_); rintro e wA ⟨rfl, hbA⟩)
    go_ret
    exact ⟨rfl, hbA⟩
  have h20' : ¬ (20 : Int) < n := by omega
  have HN : Hid (n ≤ 20) := by show _ ≤ _; omega
  have HB0 := below_new w (.cells #[.bool true, .bool false, .slice none 0 0, .slice none 0 0, .slice none 0 0] 34)
  have BV0 : Blk (w.alloc (.cells #[.bool true, .bool false, .slice none 0 0, .slice none 0 0, .slice none 0 0] 34)) w.heap.size 34 #[.bool true, .bool false, .slice none 0 0, .slice none 0 0, .slice none 0 0] := Blk.new _ _ _
  go_enter Tryz.func7, Tryz.ntmps7
  go_upto_region 4 with fail
  generalize w.alloc (.cells #[.bool true, .bool false, .slice none 0 0, .slice none 0 0, .slice none 0 0] 34) = w0 at *
  clear h20'
  go_wp2_with fail
  go_loopw [4] (fun i wr => ∃ (q : Nat) (v : Value), q ≤ n ∧ i = .int .i64 q ∧ Hid (SlO S0 (w.heap.size + 1) (valuesT (l.take q)) v wr ∧ Blk wr w.heap.size 34 #[.bool true, .bool false, .slice none 0 0, .slice none 0 0, v] ∧ ∀ t ∈ l.take q, mayT t = true) ∧ Below w.heap.size w wr) (fun i _ => n - (intOf i).toNat)
  case atStart => exact ⟨0, .slice none 0 0, Nat.zero_le _, rfl, ⟨by rw [List.take_zero, valuesT]; exact slo_nil0, BV0, fun t ht => by rw [List.take_zero] at ht; cases ht⟩, HB0⟩
  case round =>
    obtain ⟨q, v, hqn, rfl, hI, hbw⟩ := hrel
    clear BV0
    by_cases hlt : q < n
    · obtain ⟨ad, v0, v1, v2, v3, v4, v5, v6, v7, v8, v9, t, rfl, hSa, ht0, htm, hin, d0, d1, d2, d3, d4, d5, d6, d7, d8, d9⟩ := (HT.out.old hbw).kid hlt
      obtain ⟨ke, oe, i1e, p1e, i2e, p2e, A1e, n1e, c1e, A2e, n2e, c2e, A3e, n3e, c3e, A4e, n4e, c4e, ec⟩ := hin.lets
      simp only [List.cons.injEq, and_true] at ec
      obtain ⟨rfl, rfl, rfl, rfl, rfl, rfl, rfl, rfl, rfl, rfl⟩ := ec
      have KG : Hid (Calls Tryz.prog 8 #[.agg #[.int .u8 ke, .slice A1e n1e c1e, .slice A2e n2e c2e, .int .u8 oe, .bool i1e, .bool p1e, .slice A3e n3e c3e, .bool i2e, .bool p2e, .slice A4e n4e c4e], .int .i64 0] wr fun e w' => GreatT t wr e w') := great12_any t wr _ _ 0 hin (by omega) (by omega)
      have KM : Hid (∀ W, Below wr.heap.size wr W → fineT t = true → Calls Tryz.prog 11 #[.agg #[.int .u8 ke, .slice A1e n1e c1e, .slice A2e n2e c2e, .int .u8 oe, .bool i1e, .bool p1e, .slice A3e n3e c3e, .bool i2e, .bool p2e, .slice A4e n4e c4e]] W fun e w' => e = .returned (.bool (mayT t)) ∧ Below W.heap.size W w') := fun W hW hf => refTagMay_any t W _ _ (hin.old hW) hf (HZ.out t htm).1 (HZ.out t htm).2
      have KV : Hid (∀ W, Below wr.heap.size wr W → Calls Tryz.prog 15 #[.agg #[.int .u8 ke, .slice A1e n1e c1e, .slice A2e n2e c2e, .int .u8 oe, .bool i1e, .bool p1e, .slice A3e n3e c3e, .bool i2e, .bool p2e, .slice A4e n4e c4e]] W fun e w' => ∃ v, e = .returned v ∧ SxV S0 W.heap.size (valueT t) v w' ∧ Below W.heap.size W w') := fun W hW => refValue_any t W S0 _ (hin.old hW)
      have HD : Hid (∀ W, Below wr.heap.size wr W → ∀ p u, wr.cell? p = some u → W.cell? p = some u) := fun W hW p u h => (hW.cell (World.block_lt_of_cell? _ _ h)).trans h
      have HD0 := hid d0
      have HD1 := hid d1
      have HD2 := hid d2
      have HD3 := hid d3
      have HD4 := hid d4
      have HD5 := hid d5
      have HD6 := hid d6
      have HD7 := hid d7
      have HD8 := hid d8
      have HD9 := hid d9
      have HTM : Hid (l[q]? = some t) := ht0
      obtain ⟨m, hm⟩ : ∃ m, m = mayT t := ⟨_, rfl⟩
      rw [← hm] at KM
      have HMM := hid hm
      clear hin hm htm ht0
      go_upto_region 7 with fail
      go_cut [30] (fun p wx => ∃ b : Bool, p = .bool b ∧ Hid (b = false → m = true) ∧ Below wr.heap.size wr wx)
      case first =>
        go_wp2_with first | (go_at_call 8; (refine KG.out.mono ?_); rintro e w1 ⟨b, rfl, hf1, hb1⟩; have c0 := HD.out w1 hb1 _ _ HD0.out; have c1 := HD.out w1 hb1 _ _ HD1.out; have c2 := HD.out w1 hb1 _ _ HD2.out; have c3 := HD.out w1 hb1 _ _ HD3.out; have c4 := HD.out w1 hb1 _ _ HD4.out; have c5 := HD.out w1 hb1 _ _ HD5.out; have c6 := HD.out w1 hb1 _ _ HD6.out; have c7 := HD.out w1 hb1 _ _ HD7.out; have c8 := HD.out w1 hb1 _ _ HD8.out; have c9 := HD.out w1 hb1 _ _ HD9.out; have HF1 := hid hf1; clear hf1; rcases b with _ | _) | (go_at_call 11; (refine (KM.out _ hb1 (HF1.out (by simp))).mono ?_); rintro e w2 ⟨rfl, hb2⟩; rcases m with _ | _)
        all_goals go_meet
        · exact ⟨true, rfl, (fun h => by cases h), next_below hb1 hb2⟩
        · exact ⟨false, rfl, (fun h => by simp), next_below hb1 hb2⟩
        · exact ⟨true, rfl, (fun h => by cases h), hb1⟩
      case rest =>
        obtain ⟨b, rfl, hf, hb⟩ := hcut
        clear d0 d1 d2 d3 d4 d5 d6 d7 d8 d9
        have hbwx := hbw.trans (hb.mono hbw.size)
        cases b with
        | true =>
          go_wp2_with (go_at_call 9; (refine (KA.out _ hbwx).mono ?_); rintro e wA ⟨rfl, hbA⟩)
          go_ret
          exact ⟨rfl, hbwx.trans (hbA.mono hbwx.size)⟩
        | false =>
          obtain rfl : m = true := hf.out rfl
          have hbd := hb.drew
          obtain ⟨nA, xsA, hlA, hown, hkA⟩ := hI.out.1.old hbd
          have HBX := hid (hI.out.2.1.old hbd)
          obtain ⟨Av, cv, rfl⟩ := own_form hown
          have C := hid (KV.out _ hbd)
          have HOW := hid hown
          have HKA := hid hkA
          have HLA := hid hlA
          obtain ⟨i0, hi, hz0, hz1, hz2⟩ := info_parts infoSexp
          have HI := hid hi
          have hnA : nA ≤ 20 := by have := HN.out; rw [← hlA, valuesT_len, List.length_take]; omega
          have hgw : w.heap.size + 1 ≤ wr.heap.size := hI.out.2.1.lt
          clear hown hkA hlA hi
          have c0 := HD.out _ hb _ _ HD0.out
          have c1 := HD.out _ hb _ _ HD1.out
          have c2 := HD.out _ hb _ _ HD2.out
          have c3 := HD.out _ hb _ _ HD3.out
          have c4 := HD.out _ hb _ _ HD4.out
          have c5 := HD.out _ hb _ _ HD5.out
          have c6 := HD.out _ hb _ _ HD6.out
          have c7 := HD.out _ hb _ _ HD7.out
          have c8 := HD.out _ hb _ _ HD8.out
          have c9 := HD.out _ hb _ _ HD9.out
          have b4 : wc.cell? ⟨w.heap.size, 4, none⟩ = some (.slice Av nA cv) := HBX.out.cell 4
          have bz4 : wc.frozen? ⟨w.heap.size, 4, none⟩ = false := HBX.out.frozen 4
          go_upto_region 9 with fail
          go_region_law
            ((first
              | (go_simp; (with_reducible refine C.out.mono ?_); rintro e w4 ⟨vx, rfl, hsx, hg4⟩; obtain ⟨q0, q1, D1, m1, j1, D2, m2, j2, D3, m3, j3, rfl, hsin⟩ := hsx.five; have HB4 := hid (HBX.out.old hg4); have HO4 := hid (own_old HOW.out hg4); have b5 : w4.cell? ⟨w.heap.size, 4, none⟩ = some (.slice Av nA cv) := HB4.out.cell 4; have bz5 : w4.frozen? ⟨w.heap.size, 4, none⟩ = false := HB4.out.frozen 4; have b45 : ∀ o, (w4.alloc o).cell? ⟨w.heap.size, 4, none⟩ = some (.slice Av nA cv) := fun o => (HB4.out.alloc o).cell 4)
              | (refine step_append_any _ rfl (.tmp 33) (.tmp 39) 32 rfl (w.heap.size + 1) 34 i0 _ 5 80 Tryz.underlying32 HI.out hz0 hz1 hz2 rfl (by omega) (.slice Av nA cv) nA xsA rfl (HO4.out.alloc _) _ _ 1 _ [.bool q0, .bool q1, .slice D1 m1 j1, .slice D2 m2 j2, .slice D3 m3 j3] rfl (reads_lit5 w4 _ _ _ _ _) (ones5 _ _ _ _ _ _ _ _ _ _ _) (by unfold maxLen; omega) (by omega) (by have := hg4.size; have := hbd.size; simp at *; omega) ?_; intro v' w5 hown5 hg5 hv5; obtain ⟨A5, e5, rfl⟩ := own_form hown5; have HB5 := hid ((HB4.out.alloc _).grown hg5 (fun e => by have := (HOW.out.lt _ e.symm).1; omega)); have b6 : w5.cell? ⟨w.heap.size, 4, none⟩ = some (.slice Av nA cv) := HB5.out.cell 4; have bz6 : w5.frozen? ⟨w.heap.size, 4, none⟩ = false := HB5.out.frozen 4)))
          all_goals
            have HSET : Hid (Blk (w5.setCell ⟨w.heap.size, 4, none⟩ (.slice A5 (nA + 1) e5)) w.heap.size 34 #[.bool true, .bool false, .slice none 0 0, .slice none 0 0, .slice A5 (nA + 1) e5]) := HB5.out.set_ 4 _
            have hw4 : Below w.heap.size w w4 := (hbw.trans (hbd.mono hbw.size)).trans (hg4.mono (hbw.trans (hbd.mono hbw.size)).size)
            have hwl := hw4.alloc (Nat.le_trans (Nat.le_refl _) hw4.size) (.cells #[.bool q0, .bool q1, .slice D1 m1 j1, .slice D2 m2 j2, .slice D3 m3 j3] 34)
            have HB6 : Hid (Below w.heap.size w (w5.setCell ⟨w.heap.size, 4, none⟩ (.slice A5 (nA + 1) e5))) := (hwl.grown hg5 (by have := hw4.size; simp; omega) (fun b hb => by have := (HOW.out.lt _ hb).1; omega)).setCell (Nat.le_refl _) _
            have HNEW : Hid (SlO S0 (w.heap.size + 1) (valuesT (l.take (q + 1))) (.slice A5 (nA + 1) e5) (w5.setCell ⟨w.heap.size, 4, none⟩ (.slice A5 (nA + 1) e5))) := by
              show SlO _ _ _ _ _
              rw [valuesT_take l q t HTM.out]
              refine slo_box (slo_more (hI.out.1.old hbd) HLA.out (HO4.out.alloc _) (fun i t hi => ((HKA.out i t hi).old hg4).old (below_new _ _)) ((hsin.old (below_new _ _)).more fun b hb => hb) HSS.out (by have := hbd.size; omega) hown5 hg5 hv5) HSS.out
            clear b4 bz4 b5 bz5 b45 b6 bz6 c0 c1 c2 c3 c4 c5 c6 c7 c8 c9
            generalize w5.setCell ⟨w.heap.size, 4, none⟩ (.slice A5 (nA + 1) e5) = W9 at *
            go_wp2_with fail
            refine ⟨?_, ?_⟩
            · exact ⟨q + 1, _, by omega, by go_num, ⟨HNEW.out, HSET.out, fun t' ht' => by
              rw [take_snocT HTM.out] at ht'
              rcases List.mem_append.1 ht' with h | h
              · exact hI.out.2.2 t' h
              · rw [List.mem_singleton.1 h]; exact HMM.out.symm⟩, HB6.out⟩
            · simp [intOf]; omega
    · obtain rfl : n = q := by omega
      have hslo := hI.out.1
      have hbox := hI.out.2.1
      have hmay : ∀ t ∈ l, mayT t = true := by
        have h := hI.out.2.2
        rwa [List.take_of_length_le (by rw [HL.out]; exact Nat.le_refl _)] at h
      rw [List.take_of_length_le (by rw [HL.out]; exact Nat.le_refl _)] at hslo
      have hin := slo_list hslo (S0 := fun b => S0 b ∨ w.heap.size ≤ b) (by have := HN.out; rw [valuesT_len, HL.out]; omega) (fun b hb => hb.elim .inl fun h => .inr (by omega))
      obtain ⟨Av, nv, cv, rfl⟩ := slo_form hslo
      have HMA := hid hmay
      have HIN := hid hin
      have HSM : Hid (SmallX (list (valuesT l))) := small_list hmay (by rw [HL.out]; exact HN.out)
      have KGt := HO.out.get (list (valuesT l)) wr _ _ (HQ.out wr hbw) hin HSM.out
      obtain ⟨gt, hgt⟩ : ∃ t, t = (getR (list (valuesT l))).1 := ⟨_, rfl⟩
      obtain ⟨ge, hge⟩ : ∃ t, t = (getR (list (valuesT l))).2 := ⟨_, rfl⟩
      rw [← hgt, ← hge] at KGt
      have HGT : Hid (gt = (getR (list (valuesT l))).1 ∧ ge = (getR (list (valuesT l))).2) := ⟨hgt, hge⟩
      replace KGt := hid KGt
      have x_0 := hbox.cell 0
      have x_1 := hbox.cell 1
      have x_2 := hbox.cell 2
      have x_3 := hbox.cell 3
      have x_4 := hbox.cell 4
      have HBX := hid hbox
      clear hslo hmay hin hgt hge hbox
      go_upto_region 11 with (go_at_call 14; refine KGt.out.mono ?_; rintro e w2 ⟨v0, v1, v2, v3, v4, v5, v6, v7, v8, v9, rfl, hing, hb2⟩; obtain ⟨kg, og, i1g, p1g, i2g, p2g, A1g, n1g, c1g, A2g, n2g, c2g, A3g, n3g, c3g, A4g, n4g, c4g, ec⟩ := hing.lets; simp only [List.cons.injEq, and_true] at ec; obtain ⟨rfl, rfl, rfl, rfl, rfl, rfl, rfl, rfl, rfl, rfl⟩ := ec)
      have hbn := below_new w2 (.cells #[.int .u8 kg, .slice A1g n1g c1g, .slice A2g n2g c2g, .int .u8 og, .bool i1g, .bool p1g, .slice A3g n3g c3g, .bool i2g, .bool p2g, .slice A4g n4g c4g] 29)
      have hst := next_below hb2 hbn
      have BG : Blk (w2.alloc (.cells #[.int .u8 kg, .slice A1g n1g c1g, .slice A2g n2g c2g, .int .u8 og, .bool i1g, .bool p1g, .slice A3g n3g c3g, .bool i2g, .bool p2g, .slice A4g n4g c4g] 29)) w2.heap.size 29 #[.int .u8 kg, .slice A1g n1g c1g, .slice A2g n2g c2g, .int .u8 og, .bool i1g, .bool p1g, .slice A3g n3g c3g, .bool i2g, .bool p2g, .slice A4g n4g c4g] := Blk.new _ _ _
      have HIg := hid (hing.old hbn)
      have hbw3 := hbw.trans (hst.mono hbw.size)
      have HBX3 := hid (HBX.out.old hst)
      have HIN3 := hid (HIN.out.old hst)
      clear hing hb2 hbn x_0 x_1 x_2 x_3 x_4
      generalize hgg : w2.heap.size = gg at BG ⊢
      generalize w2.alloc (.cells #[.int .u8 kg, .slice A1g n1g c1g, .slice A2g n2g c2g, .int .u8 og, .bool i1g, .bool p1g, .slice A3g n3g c3g, .bool i2g, .bool p2g, .slice A4g n4g c4g] 29) = W3 at *
      clear hgg hst
      obtain ⟨m, hm⟩ : ∃ m, m = Sx.may (list (valuesT l)) := ⟨_, rfl⟩
      have KM2 : Hid (∀ W, Below W3.heap.size W3 W → Calls Tryz.prog 22 #[.agg #[.bool true, .bool false, .slice none 0 0, .slice none 0 0, .slice Av nv cv]] W fun e w' => e = .returned (.bool m) ∧ Below W.heap.size W w') := fun W hW => by rw [hm]; exact refMay_any _ W _ _ (HIN3.out.old hW) HSM.out.1 HSM.out.2
      have HMM := hid hm
      have hr := Below.refl W3.heap.size W3
      have BX3 := HBX3.out
      have x_0 := BX3.cell 0
      have x_1 := BX3.cell 1
      have x_2 := BX3.cell 2
      have x_3 := BX3.cell 3
      have x_4 := BX3.cell 4
      clear hm BX3
      have HREC : Hid (m = true → headStar l = false → gt = .mk 3 [] zeroR l ∧ ge = 0) := by
        intro h1 h2
        rw [HGT.out.1, HGT.out.2, getR_list HMA.out h2 (HMM.out.symm.trans h1)]
        exact ⟨rfl, rfl⟩
      cases m with
      | false =>
        go_wp2_with first | (go_at_call 22; (refine (KM2.out _ hr).mono ?_); rintro e w4 ⟨rfl, hb4⟩; have hbw4 := hbw3.trans (hb4.mono hbw3.size)) | (go_at_call 9; (refine (KA.out _ hbw4).mono ?_); rintro e wA ⟨rfl, hbA⟩)
        go_ret
        exact ⟨rfl, hbw4.trans (hbA.mono hbw4.size)⟩
      | true =>
        have KF : Hid (headStar l = false → ∀ W, Below W3.heap.size W3 W → gt = .mk 3 [] zeroR l ∧ ge = 0 ∧ (Calls Tryz.prog 16 #[.agg #[.int .u8 kg, .slice A1g n1g c1g, .slice A2g n2g c2g, .int .u8 og, .bool i1g, .bool p1g, .slice A3g n3g c3g, .bool i2g, .bool p2g, .slice A4g n4g c4g], .agg #[.int .u8 3, .slice none 0 0, .slice A n c, .int .u8 0, .bool false, .bool false, .slice none 0 0, .bool false, .bool false, .slice none 0 0]] W fun e w' => e = .returned (.bool true) ∧ Below W.heap.size W w')) := by
          intro h W hW
          obtain ⟨h1, h2⟩ := HREC.out rfl h
          refine ⟨h1, h2, ?_⟩
          have hfine : fineT (.mk 3 [] zeroR l) = true := by
            rw [fineT, fineL_of fun x hx => (fine_form x (rights_of HMA.out x hx) (put_parts (HMA.out x hx)).2.2.2.2)]
            rfl
          have hg' := HIg.out
          rw [h1] at hg'
          have h := refSame12_any (.mk 3 [] zeroR l) (.mk 3 [] zeroR l) W _ _ _ _ (hg'.old hW) (HT.out.old (hbw3.trans (hW.mono hbw3.size))) hfine hfine
          rw [sameT_refl] at h; exact h
        clear HREC
        by_cases hn0 : n = 0
        · have hl0 : l = [] := List.eq_nil_of_length_eq_zero (by rw [HL.out]; exact hn0)
          have HS0 : Hid (headStar l = false) := by show _ = _; rw [hl0]; rfl
          subst hn0
          clear hl0
          go_upto_region 13 with (go_at_call 22; (refine (KM2.out _ hr).mono ?_); rintro e w4 ⟨rfl, hb4⟩)
          have KF1 := hid (KF.out HS0.out)
          obtain ⟨rfl, rfl, -⟩ := KF1.out W3 hr
          have hbw4 := hbw3.trans (hb4.mono hbw3.size)
          have KG4 : Hid (∀ W, Below w4.heap.size w4 W → Blk W gg 29 #[.int .u8 kg, .slice A1g n1g c1g, .slice A2g n2g c2g, .int .u8 og, .bool i1g, .bool p1g, .slice A3g n3g c3g, .bool i2g, .bool p2g, .slice A4g n4g c4g]) := fun W hW => (BG.old hb4).old hW
          have KS4 : Hid (∀ W, Below w4.heap.size w4 W → Calls Tryz.prog 16 #[.agg #[.int .u8 kg, .slice A1g n1g c1g, .slice A2g n2g c2g, .int .u8 og, .bool i1g, .bool p1g, .slice A3g n3g c3g, .bool i2g, .bool p2g, .slice A4g n4g c4g], .agg #[.int .u8 3, .slice none 0 0, .slice A 0 c, .int .u8 0, .bool false, .bool false, .slice none 0 0, .bool false, .bool false, .slice none 0 0]] W fun e w' => e = .returned (.bool true) ∧ Below W.heap.size W w') := fun W hW => (KF1.out W (next_below hb4 hW)).2.2
          have KA4 : Hid (∀ W, Below w4.heap.size w4 W → Calls Tryz.prog 9 #[] W fun e w' => e = .returned (.bool true) ∧ Below W.heap.size W w') := fun W hW => KA.out W (hbw4.trans (hW.mono hbw4.size))
          try simp only [Act.put]
          refine wp_R [71, 72, 73, 74, 75, 76, 77, 78, 79, 80, 81] [Rk.val (.int .i64 0), Rk.val (.bool true), Rk.val (.bool true), Rk.val (.agg #[.int .u8 kg, .slice A1g n1g c1g, .slice A2g n2g c2g, .int .u8 og, .bool i1g, .bool p1g, .slice A3g n3g c3g, .bool i2g, .bool p2g, .slice A4g n4g c4g]), Rk.val (.slice A 0 c), Rk.val (.agg #[.int .u8 3, .slice none 0 0, .slice A 0 c, .int .u8 0, .bool false, .bool false, .slice none 0 0, .bool false, .bool false, .slice none 0 0]), Rk.val (.bool true), Rk.val (.bool true), Rk.val (.bool true), Rk.val (.bool true), Rk.val (.bool true)] rfl (by kernel_rfl) (by kernel_rfl) (by kernel_rfl) (by kernel_rfl) ?hga _ (by rfl) ?hfa
          case hga =>
            refine gr_val rfl (by kernel_rfl) (fun a V H K Q hK => op_quiet (quiet_move (.tmp 6) (H.old 6 (by kernel_rfl) (by kernel_rfl)) (.inl (by kernel_rfl))) hK) ?_
            refine gr_val rfl (by kernel_rfl) (fun a V H K Q hK => op_quiet (quiet_eqlI (.tmp 71) (.const (.int .i64 0)) 0 0 true 35 35 Tryz.underlying35 rfl (H.rel 0 71 (by kernel_rfl) (by kernel_rfl) rfl) (show a.eval (.const (.int .i64 0)) = .int .i64 0 from rfl) (by kernel_rfl)) hK) ?_
            refine gr_val rfl (by kernel_rfl) (fun a V H K Q hK => op_quiet (quiet_move (.tmp 72) (H.rel 1 72 (by kernel_rfl) (by kernel_rfl) rfl) (.inl (by kernel_rfl))) hK) ?_
            refine gr_onV (j := 2) (d := 73) (want := true) (u := .bool true) rfl (by kernel_rfl) (by kernel_rfl) (fun a V H => (H.rel 2 73 (by kernel_rfl) (by kernel_rfl) rfl)) (by kernel_rfl) (fun a V H K Q hK => op_quiet (quiet_load_row 29 (.tmp 5) gg (H.old 5 (by kernel_rfl) (by kernel_rfl)) 29 #[.int .u8 kg, .slice A1g n1g c1g, .slice A2g n2g c2g, .int .u8 og, .bool i1g, .bool p1g, .slice A3g n3g c3g, .bool i2g, .bool p2g, .slice A4g n4g c4g] _ (KG4.out V H.frame) Tryz.underlying29 rfl (by kernel_rfl) (by kernel_rfl)) hK) ?_
            refine gr_onV (j := 2) (d := 73) (want := true) (u := .bool true) rfl (by kernel_rfl) (by kernel_rfl) (fun a V H => (H.rel 2 73 (by kernel_rfl) (by kernel_rfl) rfl)) (by kernel_rfl) (fun a V H K Q hK => op_quiet (quiet_move (.tmp 0) (H.old 0 (by kernel_rfl) (by kernel_rfl)) (.inl (by kernel_rfl))) hK) ?_
            refine gr_onV (j := 2) (d := 73) (want := true) (u := .bool true) rfl (by kernel_rfl) (by kernel_rfl) (fun a V H => (H.rel 2 73 (by kernel_rfl) (by kernel_rfl) rfl)) (by kernel_rfl) (fun a V H K Q hK => op_quiet (quiet_bld 29 _ _ (bld2 (a := 0) (b := 2) (show a.eval (.const (.int .u8 3)) = .int .u8 3 from rfl) (H.rel 4 75 (by kernel_rfl) (by kernel_rfl) rfl)) #[.int .u8 3, .slice none 0 0, .slice A 0 c, .int .u8 0, .bool false, .bool false, .slice none 0 0, .bool false, .bool false, .slice none 0 0] (by kernel_rfl) (by kernel_rfl)) hK) ?_
            refine gr_onV (j := 2) (d := 73) (want := true) (u := .bool true) rfl (by kernel_rfl) (by kernel_rfl) (fun a V H => (H.rel 2 73 (by kernel_rfl) (by kernel_rfl) rfl)) (by kernel_rfl) (fun a V H K Q hK => op_callK #[.tmp 74, .tmp 76] #[.agg #[.int .u8 kg, .slice A1g n1g c1g, .slice A2g n2g c2g, .int .u8 og, .bool i1g, .bool p1g, .slice A3g n3g c3g, .bool i2g, .bool p2g, .slice A4g n4g c4g], .agg #[.int .u8 3, .slice none 0 0, .slice A 0 c, .int .u8 0, .bool false, .bool false, .slice none 0 0, .bool false, .bool false, .slice none 0 0]] (by kernel_rfl) (by kernel_rfl) (by kernel_rfl) (map2 (H.rel 3 74 (by kernel_rfl) (by kernel_rfl) rfl) (H.rel 5 76 (by kernel_rfl) (by kernel_rfl) rfl)) (KS4.out V H.frame) (by kernel_rfl) hK) ?_
            refine gr_val rfl (by kernel_rfl) (fun a V H K Q hK => op_quiet (quiet_pickT (.tmp 73) (.tmp 77) (.const (.bool false)) (H.rel 2 73 (by kernel_rfl) (by kernel_rfl) rfl) (H.rel 6 77 (by kernel_rfl) (by kernel_rfl) rfl) (by kernel_rfl)) hK) ?_
            refine gr_val rfl (by kernel_rfl) (fun a V H K Q hK => op_quiet (quiet_move (.tmp 78) (H.rel 7 78 (by kernel_rfl) (by kernel_rfl) rfl) (.inl (by kernel_rfl))) hK) ?_
            refine gr_onV (j := 8) (d := 79) (want := true) (u := .bool true) rfl (by kernel_rfl) (by kernel_rfl) (fun a V H => (H.rel 8 79 (by kernel_rfl) (by kernel_rfl) rfl)) (by kernel_rfl) (fun a V H K Q hK => op_callK #[] #[] (by kernel_rfl) (by kernel_rfl) (by kernel_rfl) map0 (KA4.out V H.frame) (by kernel_rfl) hK) ?_
            refine gr_val rfl (by kernel_rfl) (fun a V H K Q hK => op_quiet (quiet_pickT (.tmp 79) (.tmp 80) (.const (.bool false)) (H.rel 8 79 (by kernel_rfl) (by kernel_rfl) rfl) (H.rel 9 80 (by kernel_rfl) (by kernel_rfl) rfl) (by kernel_rfl)) hK) ?_
            exact gr_nil
          case hfa =>
            intro xx V hF
            have ev0 : xx 0 = .int .i64 0 := hF.rel 0 _ rfl
            have ev1 : xx 1 = .bool true := hF.rel 1 _ rfl
            have ev2 : xx 2 = .bool true := hF.rel 2 _ rfl
            have ev3 : xx 3 = .agg #[.int .u8 kg, .slice A1g n1g c1g, .slice A2g n2g c2g, .int .u8 og, .bool i1g, .bool p1g, .slice A3g n3g c3g, .bool i2g, .bool p2g, .slice A4g n4g c4g] := hF.rel 3 _ rfl
            have ev4 : xx 4 = .slice A 0 c := hF.rel 4 _ rfl
            have ev5 : xx 5 = .agg #[.int .u8 3, .slice none 0 0, .slice A 0 c, .int .u8 0, .bool false, .bool false, .slice none 0 0, .bool false, .bool false, .slice none 0 0] := hF.rel 5 _ rfl
            have ev6 : xx 6 = .bool true := hF.rel 6 _ rfl
            have ev7 : xx 7 = .bool true := hF.rel 7 _ rfl
            have ev8 : xx 8 = .bool true := hF.rel 8 _ rfl
            have ev9 : xx 9 = .bool true := hF.rel 9 _ rfl
            have ev10 : xx 10 = .bool true := hF.rel 10 _ rfl
            have hbf := hF.frame
            clear hF
            simp only [Sch.finL, zA, zB, zC, ev0, ev1, ev2, ev3, ev4, ev5, ev6, ev7, ev8, ev9, ev10]
            clear ev0 ev1 ev2 ev3 ev4 ev5 ev6 ev7 ev8 ev9 ev10
            go_wp2_with fail
            go_ret
            exact ⟨rfl, hbw4.trans (hbf.mono hbw4.size)⟩
        · obtain ⟨ad, v0, v1, v2, v3, v4, v5, v6, v7, v8, v9, t, rfl, hSa, ht0, htm, hin, d0, d1, -⟩ := (HT.out.old hbw3).kid (k := 0) (by omega)
          rw [Nat.zero_mul, show ad.add 0 = ad from if_pos rfl] at d0 d1
          obtain ⟨ke, oe, i1e, p1e, i2e, p2e, A1e, n1e, c1e, A2e, n2e, c2e, A3e, n3e, c3e, A4e, n4e, c4e, ec⟩ := hin.lets
          simp only [List.cons.injEq, and_true] at ec
          obtain ⟨rfl, rfl, rfl, rfl, rfl, rfl, rfl, rfl, rfl, rfl⟩ := ec
          obtain ⟨dd, rr, kk, rfl⟩ := hin.kind
          obtain ⟨-, -, ⟨hrd, -, -⟩, -, ⟨hcd, -⟩⟩ := hin.inv
          obtain ⟨r, rfl⟩ : ∃ r, l = .mk ke dd rr kk :: r := by
            cases l with
            | nil => simp at ht0
            | cons y r => exact ⟨r, by simpa using ht0⟩
          have HCD : Hid (∀ W, Below W3.heap.size W3 W → W.cell? ad = some (.int .u8 ke) ∧ W.cell? ⟨ad.block, ad.off + 1, none⟩ = some (.slice A1e n1e c1e) ∧ (convert 22 9 (.slice A1e n1e c1e)).run Tryz.prog W = .ok (.string ⟨dd.toArray⟩) W) := fun W hW =>
            ⟨(hW.cell (World.block_lt_of_cell? _ _ d0)).trans d0, (hW.cell (World.block_lt_of_cell? _ _ d1)).trans d1, run_back (rin_reads (hrd.old (by omega) hW) (B := w.heap.size) (fun b hb => HSS.out b hb))⟩
          have hnp : ¬ n = 0 := hn0
          have hnc : n ≤ c := HT.out.inv.2.2.2.2.2.2.1
          clear hin hrd hcd htm ht0 hSa d0 d1 hn0
          by_cases hk2 : ke = 2
          · subst hk2
            have s1 : (⟨dd.toArray⟩ : ByteArray).toList = dd := bT_list dd
            obtain ⟨D, hD0⟩ : ∃ D, D = (⟨dd.toArray⟩ : ByteArray) := ⟨_, rfl⟩
            rw [← hD0] at s1 HCD
            have S0' : Hid ((⟨#[42]⟩ : ByteArray).toList = star) := bT_list [42]
            have HHS : Hid (headStar (.mk 2 dd rr kk :: r) = (D.toList == star)) := by show _ = _; rw [s1]; simp [headStar]
            clear hD0 s1
            by_cases hD : D.toList = (⟨#[42]⟩ : ByteArray).toList
            · go_wp2_with first | (go_at_call 22; (refine (KM2.out _ hr).mono ?_); rintro e w4 ⟨rfl, hb4⟩; have hbw4 := hbw3.trans (hb4.mono hbw3.size); obtain ⟨y0, y1, y2⟩ := HCD.out _ hb4) | (go_at_call 9; (refine (KA.out _ hbw4).mono ?_); rintro e wA ⟨rfl, hbA⟩)
              go_ret
              exact ⟨rfl, hbw4.trans (hbA.mono hbw4.size)⟩
            · have hD2 : (D.toList == (⟨#[42]⟩ : ByteArray).toList) = false := by rw [beq_eq_false_iff_ne]; exact hD
              have HS0 : Hid (headStar (.mk 2 dd rr kk :: r) = false) := by show _ = _; rw [HHS.out, ← S0'.out]; exact hD2
              have hD3 : (D.toList == [42]) = false := by have h := hD2; rw [S0'.out] at h; exact h
              clear HHS
              go_upto_region 13 with (go_at_call 22; (refine (KM2.out _ hr).mono ?_); rintro e w4 ⟨rfl, hb4⟩; obtain ⟨y0, y1, y2⟩ := HCD.out _ hb4)
              have KF1 := hid (KF.out HS0.out)
              obtain ⟨rfl, rfl, -⟩ := KF1.out W3 hr
              have hbw4 := hbw3.trans (hb4.mono hbw3.size)
              have KG4 : Hid (∀ W, Below w4.heap.size w4 W → Blk W gg 29 #[.int .u8 kg, .slice A1g n1g c1g, .slice A2g n2g c2g, .int .u8 og, .bool i1g, .bool p1g, .slice A3g n3g c3g, .bool i2g, .bool p2g, .slice A4g n4g c4g]) := fun W hW => (BG.old hb4).old hW
              have KS4 : Hid (∀ W, Below w4.heap.size w4 W → Calls Tryz.prog 16 #[.agg #[.int .u8 kg, .slice A1g n1g c1g, .slice A2g n2g c2g, .int .u8 og, .bool i1g, .bool p1g, .slice A3g n3g c3g, .bool i2g, .bool p2g, .slice A4g n4g c4g], .agg #[.int .u8 3, .slice none 0 0, .slice (some ad) n c, .int .u8 0, .bool false, .bool false, .slice none 0 0, .bool false, .bool false, .slice none 0 0]] W fun e w' => e = .returned (.bool true) ∧ Below W.heap.size W w') := fun W hW => (KF1.out W (next_below hb4 hW)).2.2
              have KA4 : Hid (∀ W, Below w4.heap.size w4 W → Calls Tryz.prog 9 #[] W fun e w' => e = .returned (.bool true) ∧ Below W.heap.size W w') := fun W hW => KA.out W (hbw4.trans (hW.mono hbw4.size))
              try simp only [Act.put]
              refine wp_R [71, 72, 73, 74, 75, 76, 77, 78, 79, 80, 81] [Rk.val (.int .i64 0), Rk.val (.bool true), Rk.val (.bool true), Rk.val (.agg #[.int .u8 kg, .slice A1g n1g c1g, .slice A2g n2g c2g, .int .u8 og, .bool i1g, .bool p1g, .slice A3g n3g c3g, .bool i2g, .bool p2g, .slice A4g n4g c4g]), Rk.val (.slice (some ad) n c), Rk.val (.agg #[.int .u8 3, .slice none 0 0, .slice (some ad) n c, .int .u8 0, .bool false, .bool false, .slice none 0 0, .bool false, .bool false, .slice none 0 0]), Rk.val (.bool true), Rk.val (.bool true), Rk.val (.bool true), Rk.val (.bool true), Rk.val (.bool true)] rfl (by kernel_rfl) (by kernel_rfl) (by kernel_rfl) (by kernel_rfl) ?hgb _ (by rfl) ?hfb
              case hgb =>
                refine gr_val rfl (by kernel_rfl) (fun a V H K Q hK => op_quiet (quiet_move (.tmp 6) (H.old 6 (by kernel_rfl) (by kernel_rfl)) (.inl (by kernel_rfl))) hK) ?_
                refine gr_val rfl (by kernel_rfl) (fun a V H K Q hK => op_quiet (quiet_eqlI (.tmp 71) (.const (.int .i64 0)) 0 0 true 35 35 Tryz.underlying35 rfl (H.rel 0 71 (by kernel_rfl) (by kernel_rfl) rfl) (show a.eval (.const (.int .i64 0)) = .int .i64 0 from rfl) (by kernel_rfl)) hK) ?_
                refine gr_val rfl (by kernel_rfl) (fun a V H K Q hK => op_quiet (quiet_move (.tmp 72) (H.rel 1 72 (by kernel_rfl) (by kernel_rfl) rfl) (.inl (by kernel_rfl))) hK) ?_
                refine gr_onV (j := 2) (d := 73) (want := true) (u := .bool true) rfl (by kernel_rfl) (by kernel_rfl) (fun a V H => (H.rel 2 73 (by kernel_rfl) (by kernel_rfl) rfl)) (by kernel_rfl) (fun a V H K Q hK => op_quiet (quiet_load_row 29 (.tmp 5) gg (H.old 5 (by kernel_rfl) (by kernel_rfl)) 29 #[.int .u8 kg, .slice A1g n1g c1g, .slice A2g n2g c2g, .int .u8 og, .bool i1g, .bool p1g, .slice A3g n3g c3g, .bool i2g, .bool p2g, .slice A4g n4g c4g] _ (KG4.out V H.frame) Tryz.underlying29 rfl (by kernel_rfl) (by kernel_rfl)) hK) ?_
                refine gr_onV (j := 2) (d := 73) (want := true) (u := .bool true) rfl (by kernel_rfl) (by kernel_rfl) (fun a V H => (H.rel 2 73 (by kernel_rfl) (by kernel_rfl) rfl)) (by kernel_rfl) (fun a V H K Q hK => op_quiet (quiet_move (.tmp 0) (H.old 0 (by kernel_rfl) (by kernel_rfl)) (.inl (by kernel_rfl))) hK) ?_
                refine gr_onV (j := 2) (d := 73) (want := true) (u := .bool true) rfl (by kernel_rfl) (by kernel_rfl) (fun a V H => (H.rel 2 73 (by kernel_rfl) (by kernel_rfl) rfl)) (by kernel_rfl) (fun a V H K Q hK => op_quiet (quiet_bld 29 _ _ (bld2 (a := 0) (b := 2) (show a.eval (.const (.int .u8 3)) = .int .u8 3 from rfl) (H.rel 4 75 (by kernel_rfl) (by kernel_rfl) rfl)) #[.int .u8 3, .slice none 0 0, .slice (some ad) n c, .int .u8 0, .bool false, .bool false, .slice none 0 0, .bool false, .bool false, .slice none 0 0] (by kernel_rfl) (by kernel_rfl)) hK) ?_
                refine gr_onV (j := 2) (d := 73) (want := true) (u := .bool true) rfl (by kernel_rfl) (by kernel_rfl) (fun a V H => (H.rel 2 73 (by kernel_rfl) (by kernel_rfl) rfl)) (by kernel_rfl) (fun a V H K Q hK => op_callK #[.tmp 74, .tmp 76] #[.agg #[.int .u8 kg, .slice A1g n1g c1g, .slice A2g n2g c2g, .int .u8 og, .bool i1g, .bool p1g, .slice A3g n3g c3g, .bool i2g, .bool p2g, .slice A4g n4g c4g], .agg #[.int .u8 3, .slice none 0 0, .slice (some ad) n c, .int .u8 0, .bool false, .bool false, .slice none 0 0, .bool false, .bool false, .slice none 0 0]] (by kernel_rfl) (by kernel_rfl) (by kernel_rfl) (map2 (H.rel 3 74 (by kernel_rfl) (by kernel_rfl) rfl) (H.rel 5 76 (by kernel_rfl) (by kernel_rfl) rfl)) (KS4.out V H.frame) (by kernel_rfl) hK) ?_
                refine gr_val rfl (by kernel_rfl) (fun a V H K Q hK => op_quiet (quiet_pickT (.tmp 73) (.tmp 77) (.const (.bool false)) (H.rel 2 73 (by kernel_rfl) (by kernel_rfl) rfl) (H.rel 6 77 (by kernel_rfl) (by kernel_rfl) rfl) (by kernel_rfl)) hK) ?_
                refine gr_val rfl (by kernel_rfl) (fun a V H K Q hK => op_quiet (quiet_move (.tmp 78) (H.rel 7 78 (by kernel_rfl) (by kernel_rfl) rfl) (.inl (by kernel_rfl))) hK) ?_
                refine gr_onV (j := 8) (d := 79) (want := true) (u := .bool true) rfl (by kernel_rfl) (by kernel_rfl) (fun a V H => (H.rel 8 79 (by kernel_rfl) (by kernel_rfl) rfl)) (by kernel_rfl) (fun a V H K Q hK => op_callK #[] #[] (by kernel_rfl) (by kernel_rfl) (by kernel_rfl) map0 (KA4.out V H.frame) (by kernel_rfl) hK) ?_
                refine gr_val rfl (by kernel_rfl) (fun a V H K Q hK => op_quiet (quiet_pickT (.tmp 79) (.tmp 80) (.const (.bool false)) (H.rel 8 79 (by kernel_rfl) (by kernel_rfl) rfl) (H.rel 9 80 (by kernel_rfl) (by kernel_rfl) rfl) (by kernel_rfl)) hK) ?_
                exact gr_nil
              case hfb =>
                intro xx V hF
                have ev0 : xx 0 = .int .i64 0 := hF.rel 0 _ rfl
                have ev1 : xx 1 = .bool true := hF.rel 1 _ rfl
                have ev2 : xx 2 = .bool true := hF.rel 2 _ rfl
                have ev3 : xx 3 = .agg #[.int .u8 kg, .slice A1g n1g c1g, .slice A2g n2g c2g, .int .u8 og, .bool i1g, .bool p1g, .slice A3g n3g c3g, .bool i2g, .bool p2g, .slice A4g n4g c4g] := hF.rel 3 _ rfl
                have ev4 : xx 4 = .slice (some ad) n c := hF.rel 4 _ rfl
                have ev5 : xx 5 = .agg #[.int .u8 3, .slice none 0 0, .slice (some ad) n c, .int .u8 0, .bool false, .bool false, .slice none 0 0, .bool false, .bool false, .slice none 0 0] := hF.rel 5 _ rfl
                have ev6 : xx 6 = .bool true := hF.rel 6 _ rfl
                have ev7 : xx 7 = .bool true := hF.rel 7 _ rfl
                have ev8 : xx 8 = .bool true := hF.rel 8 _ rfl
                have ev9 : xx 9 = .bool true := hF.rel 9 _ rfl
                have ev10 : xx 10 = .bool true := hF.rel 10 _ rfl
                have hbf := hF.frame
                clear hF
                simp only [Sch.finL, zA, zB, zC, ev0, ev1, ev2, ev3, ev4, ev5, ev6, ev7, ev8, ev9, ev10]
                clear ev0 ev1 ev2 ev3 ev4 ev5 ev6 ev7 ev8 ev9 ev10
                go_wp2_with fail
                go_ret
                exact ⟨rfl, hbw4.trans (hbf.mono hbw4.size)⟩
          · have hkB : ((ke : Int) == 2) = false := by rw [beq_eq_false_iff_ne]; omega
            have HS0 : Hid (headStar (.mk ke dd rr kk :: r) = false) := by show _ = _; simp [headStar, hk2]
            have HK2 := hid hk2
            clear hk2
            go_upto_region 13 with (go_at_call 22; (refine (KM2.out _ hr).mono ?_); rintro e w4 ⟨rfl, hb4⟩; obtain ⟨y0, y1, y2⟩ := HCD.out _ hb4)
            have KF1 := hid (KF.out HS0.out)
            obtain ⟨rfl, rfl, -⟩ := KF1.out W3 hr
            have hbw4 := hbw3.trans (hb4.mono hbw3.size)
            have KG4 : Hid (∀ W, Below w4.heap.size w4 W → Blk W gg 29 #[.int .u8 kg, .slice A1g n1g c1g, .slice A2g n2g c2g, .int .u8 og, .bool i1g, .bool p1g, .slice A3g n3g c3g, .bool i2g, .bool p2g, .slice A4g n4g c4g]) := fun W hW => (BG.old hb4).old hW
            have KS4 : Hid (∀ W, Below w4.heap.size w4 W → Calls Tryz.prog 16 #[.agg #[.int .u8 kg, .slice A1g n1g c1g, .slice A2g n2g c2g, .int .u8 og, .bool i1g, .bool p1g, .slice A3g n3g c3g, .bool i2g, .bool p2g, .slice A4g n4g c4g], .agg #[.int .u8 3, .slice none 0 0, .slice (some ad) n c, .int .u8 0, .bool false, .bool false, .slice none 0 0, .bool false, .bool false, .slice none 0 0]] W fun e w' => e = .returned (.bool true) ∧ Below W.heap.size W w') := fun W hW => (KF1.out W (next_below hb4 hW)).2.2
            have KA4 : Hid (∀ W, Below w4.heap.size w4 W → Calls Tryz.prog 9 #[] W fun e w' => e = .returned (.bool true) ∧ Below W.heap.size W w') := fun W hW => KA.out W (hbw4.trans (hW.mono hbw4.size))
            try simp only [Act.put]
            refine wp_R [71, 72, 73, 74, 75, 76, 77, 78, 79, 80, 81] [Rk.val (.int .i64 0), Rk.val (.bool true), Rk.val (.bool true), Rk.val (.agg #[.int .u8 kg, .slice A1g n1g c1g, .slice A2g n2g c2g, .int .u8 og, .bool i1g, .bool p1g, .slice A3g n3g c3g, .bool i2g, .bool p2g, .slice A4g n4g c4g]), Rk.val (.slice (some ad) n c), Rk.val (.agg #[.int .u8 3, .slice none 0 0, .slice (some ad) n c, .int .u8 0, .bool false, .bool false, .slice none 0 0, .bool false, .bool false, .slice none 0 0]), Rk.val (.bool true), Rk.val (.bool true), Rk.val (.bool true), Rk.val (.bool true), Rk.val (.bool true)] rfl (by kernel_rfl) (by kernel_rfl) (by kernel_rfl) (by kernel_rfl) ?hgc _ (by rfl) ?hfc
            case hgc =>
              refine gr_val rfl (by kernel_rfl) (fun a V H K Q hK => op_quiet (quiet_move (.tmp 6) (H.old 6 (by kernel_rfl) (by kernel_rfl)) (.inl (by kernel_rfl))) hK) ?_
              refine gr_val rfl (by kernel_rfl) (fun a V H K Q hK => op_quiet (quiet_eqlI (.tmp 71) (.const (.int .i64 0)) 0 0 true 35 35 Tryz.underlying35 rfl (H.rel 0 71 (by kernel_rfl) (by kernel_rfl) rfl) (show a.eval (.const (.int .i64 0)) = .int .i64 0 from rfl) (by kernel_rfl)) hK) ?_
              refine gr_val rfl (by kernel_rfl) (fun a V H K Q hK => op_quiet (quiet_move (.tmp 72) (H.rel 1 72 (by kernel_rfl) (by kernel_rfl) rfl) (.inl (by kernel_rfl))) hK) ?_
              refine gr_onV (j := 2) (d := 73) (want := true) (u := .bool true) rfl (by kernel_rfl) (by kernel_rfl) (fun a V H => (H.rel 2 73 (by kernel_rfl) (by kernel_rfl) rfl)) (by kernel_rfl) (fun a V H K Q hK => op_quiet (quiet_load_row 29 (.tmp 5) gg (H.old 5 (by kernel_rfl) (by kernel_rfl)) 29 #[.int .u8 kg, .slice A1g n1g c1g, .slice A2g n2g c2g, .int .u8 og, .bool i1g, .bool p1g, .slice A3g n3g c3g, .bool i2g, .bool p2g, .slice A4g n4g c4g] _ (KG4.out V H.frame) Tryz.underlying29 rfl (by kernel_rfl) (by kernel_rfl)) hK) ?_
              refine gr_onV (j := 2) (d := 73) (want := true) (u := .bool true) rfl (by kernel_rfl) (by kernel_rfl) (fun a V H => (H.rel 2 73 (by kernel_rfl) (by kernel_rfl) rfl)) (by kernel_rfl) (fun a V H K Q hK => op_quiet (quiet_move (.tmp 0) (H.old 0 (by kernel_rfl) (by kernel_rfl)) (.inl (by kernel_rfl))) hK) ?_
              refine gr_onV (j := 2) (d := 73) (want := true) (u := .bool true) rfl (by kernel_rfl) (by kernel_rfl) (fun a V H => (H.rel 2 73 (by kernel_rfl) (by kernel_rfl) rfl)) (by kernel_rfl) (fun a V H K Q hK => op_quiet (quiet_bld 29 _ _ (bld2 (a := 0) (b := 2) (show a.eval (.const (.int .u8 3)) = .int .u8 3 from rfl) (H.rel 4 75 (by kernel_rfl) (by kernel_rfl) rfl)) #[.int .u8 3, .slice none 0 0, .slice (some ad) n c, .int .u8 0, .bool false, .bool false, .slice none 0 0, .bool false, .bool false, .slice none 0 0] (by kernel_rfl) (by kernel_rfl)) hK) ?_
              refine gr_onV (j := 2) (d := 73) (want := true) (u := .bool true) rfl (by kernel_rfl) (by kernel_rfl) (fun a V H => (H.rel 2 73 (by kernel_rfl) (by kernel_rfl) rfl)) (by kernel_rfl) (fun a V H K Q hK => op_callK #[.tmp 74, .tmp 76] #[.agg #[.int .u8 kg, .slice A1g n1g c1g, .slice A2g n2g c2g, .int .u8 og, .bool i1g, .bool p1g, .slice A3g n3g c3g, .bool i2g, .bool p2g, .slice A4g n4g c4g], .agg #[.int .u8 3, .slice none 0 0, .slice (some ad) n c, .int .u8 0, .bool false, .bool false, .slice none 0 0, .bool false, .bool false, .slice none 0 0]] (by kernel_rfl) (by kernel_rfl) (by kernel_rfl) (map2 (H.rel 3 74 (by kernel_rfl) (by kernel_rfl) rfl) (H.rel 5 76 (by kernel_rfl) (by kernel_rfl) rfl)) (KS4.out V H.frame) (by kernel_rfl) hK) ?_
              refine gr_val rfl (by kernel_rfl) (fun a V H K Q hK => op_quiet (quiet_pickT (.tmp 73) (.tmp 77) (.const (.bool false)) (H.rel 2 73 (by kernel_rfl) (by kernel_rfl) rfl) (H.rel 6 77 (by kernel_rfl) (by kernel_rfl) rfl) (by kernel_rfl)) hK) ?_
              refine gr_val rfl (by kernel_rfl) (fun a V H K Q hK => op_quiet (quiet_move (.tmp 78) (H.rel 7 78 (by kernel_rfl) (by kernel_rfl) rfl) (.inl (by kernel_rfl))) hK) ?_
              refine gr_onV (j := 8) (d := 79) (want := true) (u := .bool true) rfl (by kernel_rfl) (by kernel_rfl) (fun a V H => (H.rel 8 79 (by kernel_rfl) (by kernel_rfl) rfl)) (by kernel_rfl) (fun a V H K Q hK => op_callK #[] #[] (by kernel_rfl) (by kernel_rfl) (by kernel_rfl) map0 (KA4.out V H.frame) (by kernel_rfl) hK) ?_
              refine gr_val rfl (by kernel_rfl) (fun a V H K Q hK => op_quiet (quiet_pickT (.tmp 79) (.tmp 80) (.const (.bool false)) (H.rel 8 79 (by kernel_rfl) (by kernel_rfl) rfl) (H.rel 9 80 (by kernel_rfl) (by kernel_rfl) rfl) (by kernel_rfl)) hK) ?_
              exact gr_nil
            case hfc =>
              intro xx V hF
              have ev0 : xx 0 = .int .i64 0 := hF.rel 0 _ rfl
              have ev1 : xx 1 = .bool true := hF.rel 1 _ rfl
              have ev2 : xx 2 = .bool true := hF.rel 2 _ rfl
              have ev3 : xx 3 = .agg #[.int .u8 kg, .slice A1g n1g c1g, .slice A2g n2g c2g, .int .u8 og, .bool i1g, .bool p1g, .slice A3g n3g c3g, .bool i2g, .bool p2g, .slice A4g n4g c4g] := hF.rel 3 _ rfl
              have ev4 : xx 4 = .slice (some ad) n c := hF.rel 4 _ rfl
              have ev5 : xx 5 = .agg #[.int .u8 3, .slice none 0 0, .slice (some ad) n c, .int .u8 0, .bool false, .bool false, .slice none 0 0, .bool false, .bool false, .slice none 0 0] := hF.rel 5 _ rfl
              have ev6 : xx 6 = .bool true := hF.rel 6 _ rfl
              have ev7 : xx 7 = .bool true := hF.rel 7 _ rfl
              have ev8 : xx 8 = .bool true := hF.rel 8 _ rfl
              have ev9 : xx 9 = .bool true := hF.rel 9 _ rfl
              have ev10 : xx 10 = .bool true := hF.rel 10 _ rfl
              have hbf := hF.frame
              clear hF
              simp only [Sch.finL, zA, zB, zC, ev0, ev1, ev2, ev3, ev4, ev5, ev6, ev7, ev8, ev9, ev10]
              clear ev0 ev1 ev2 ev3 ev4 ev5 ev6 ev7 ev8 ev9 ev10
              go_wp2_with fail
              go_ret
              exact ⟨rfl, hbw4.trans (hbf.mono hbw4.size)⟩
end Go.Proofs.YtinlonpcakkfhaaGreatDoor
