/-
  The contract of the document's answer Unbase64 (package greffierref01). Conditions: at most 2^40 bytes.
-/
import Derived.Test.YtibebghnhicmfaaDoorRefUnb64
set_option linter.unusedVariables false
namespace Go.Proofs.YtibebghnhicmfaaDoor
open Go Go.Proofs Go.RowKit Oct

theorem six_len (n : Nat) : (six n).length = 6 := rfl
theorem six_step (d t : Nat) (ht : t < 6) : (six d).take (t + 1) = (six d).take t ++ [(d / (32 / 2 ^ t) % 2).toUInt8] := by
  have h : t = 0 ∨ t = 1 ∨ t = 2 ∨ t = 3 ∨ t = 4 ∨ t = 5 := by omega
  rcases h with rfl | rfl | rfl | rfl | rfl | rfl <;> rfl
theorem pow_facts (t : Nat) (ht : t ≤ 6) : 32 / 2 ^ (t + 1) = 32 / 2 ^ t / 2 ∧ (t < 6 → 1 ≤ 32 / 2 ^ t) ∧ 32 / 2 ^ t ≤ 32 ∧ (t = 6 → 32 / 2 ^ t = 0) := by
  have h : t = 0 ∨ t = 1 ∨ t = 2 ∨ t = 3 ∨ t = 4 ∨ t = 5 ∨ t = 6 := by omega
  rcases h with rfl | rfl | rfl | rfl | rfl | rfl | rfl <;> decide
theorem bitsOf_len (l : List UInt8) : (bitsOf l).length = 6 * l.length := by
  induction l with
  | nil => rfl
  | cons c r ih => simp [bitsOf, six_len] at ih ⊢; omega
theorem bitsOf_snoc (l : List UInt8) (c : UInt8) : bitsOf (l ++ [c]) = bitsOf l ++ six (val64 c).toNat := by simp [bitsOf]
theorem accB_lt (b : List UInt8) (hb : ∀ x ∈ b, x.toNat < 2) (i : Nat) : ∀ k, accB b i k < 2 ^ k
  | 0 => by simp [accB]
  | k + 1 => by
    have h1 := accB_lt b hb i k
    have h2 : (b.getD (i + k) 0).toNat < 2 := by
      by_cases h : i + k < b.length
      · have e : b.getD (i + k) 0 = b[i + k] := by simp [List.getD, List.getElem?_eq_getElem h]
        rw [e]
        exact hb _ (List.getElem_mem h)
      · have e : b.getD (i + k) 0 = 0 := by simp [List.getD, List.getElem?_eq_none (show b.length ≤ i + k by omega)]
        rw [e]; decide
    rw [accB, Nat.pow_succ]
    omega
theorem bitsOf_bit (l : List UInt8) : ∀ x ∈ bitsOf l, x.toNat < 2 := by
  intro x hx
  simp only [bitsOf, List.mem_flatMap, six, List.mem_cons, List.mem_nil_iff, or_false] at hx
  obtain ⟨c, _, h⟩ := hx
  have hm : ∀ n : Nat, (n % 2).toUInt8.toNat < 2 := fun n => by rw [nat_byte _ (by omega)]; omega
  rcases h with rfl | rfl | rfl | rfl | rfl | rfl <;> exact hm _

theorem own_below {w w' : World} {B : Nat} {v : Value} {n : Nat} {xs : List Value} (h : w.ownsRow B 5 1 v n xs) (hb : Below w.heap.size w w') : w'.ownsRow B 5 1 v n xs := by
  refine ⟨h.1, ?_⟩
  rcases h.2 with h2 | ⟨g, cap, cur, hv, hg, hh, r⟩
  · exact Or.inl h2
  · exact Or.inr ⟨g, cap, cur, hv, hg, by rw [hb.block g (Array.getElem?_eq_some_iff.1 hh).1]; exact hh, r⟩
theorem owns_cast {w : World} {B : Nat} {v : Value} {n : Nat} {xs ys : List Value} (h : w.ownsRow B 5 1 v n xs) (e : ys = xs) : w.ownsRow B 5 1 v n ys := e ▸ h
set_option maxHeartbeats 4000000 in
set_option maxRecDepth 100000 in
theorem refUnbase64_any (s : ByteArray) (w : World) (hs : s.size ≤ 1099511627776) :
    Calls Tryd.prog 15 #[.string s] w fun e w' => RefEnd (ub64 s.data.toList) w e w' := by
  obtain ⟨i0, hi, hz0, hz1, hz2⟩ := info_parts infoByte
  have hsl : s.data.toList.length = s.size := by simp
  have hoe := owns_empty w
  have hR : Hid (ub64 s.data.toList = if b64 (cand s.data.toList) = s.data.toList then some (cand s.data.toList) else none) := by
    show _ = _
    by_cases h : b64 (cand s.data.toList) = s.data.toList
    · rw [if_pos h, cand_yes _ h]
    · rw [if_neg h, cand_no _ h]
  generalize ub64 s.data.toList = R at *
  obtain ⟨X, hX⟩ : ∃ X, X = cand s.data.toList := ⟨_, rfl⟩
  rw [← hX] at hR
  obtain ⟨L, hL⟩ : ∃ L, L = s.data.toList := ⟨_, rfl⟩
  have hsL := hsl
  rw [← hL] at hR hX hsL
  obtain ⟨V, hV⟩ : ∃ V, V = L.takeWhile isSign := ⟨_, rfl⟩
  have hXV : Hid (X = (List.range ((bitsOf V).length / 8)).map fun j => (accB (bitsOf V) (8 * j) 8).toUInt8) := by
    show _ = _
    rw [hX, cand, hV]
  have HV := Lib.hid hV; have HL := Lib.hid hL; have HSL := Lib.hid hsL
  clear hV hX hL hsl hsL
  go_enter Tryd.func15, Tryd.ntmps15
  go_wp2
  go_loopw [4, 5] (fun v i wr => ∃ (k : Nat), k ≤ s.size ∧ i = .int .i64 k ∧ wr.ownsRow w.heap.size 5 1 v (bitsOf (L.take k)).length (Lib.byteCells (bitsOf (L.take k))) ∧ V = L.take k ++ (L.drop k).takeWhile isSign ∧ Below w.heap.size w wr) (fun _ i _ => s.size - (intOf i).toNat)
  case atStart => exact ⟨0, Nat.zero_le _, rfl, hoe, by rw [HV.out]; rfl, (Below.refl _ _).alloc (Nat.le_refl _) _⟩
  case round =>
    obtain ⟨k, hk, rfl, hown, hVk, hbel⟩ := hrel
    clear hoe
    have hszr := hbel.size
    have HVK := Lib.hid hVk
    clear hVk
    by_cases hlt : k < s.size
    · have hkL : k < L.length := by rw [HSL.out]; exact hlt
      obtain ⟨c, hc⟩ : ∃ c, c = L[k] := ⟨_, rfl⟩
      have hdr : Hid (L.drop k = c :: L.drop (k + 1)) := by show _ = _; rw [hc]; exact List.drop_eq_getElem_cons hkL
      have htk : Hid (L.take (k + 1) = L.take k ++ [c]) := by show _ = _; rw [hc]; exact List.take_succ_eq_append_getElem hkL
      have hbl : (bitsOf (L.take k)).length = 6 * k := by rw [bitsOf_len, List.length_take]; omega
      have hsc : ∀ h : k < s.size, s[k] = c := by
        intro h
        rw [hc]
        have := HL.out
        subst this
        rfl
      have HC := Lib.hid hsc
      clear hsc hc hkL
      go_wp2_with fail
      rw [HC.out hlt]
      refine (sign_any c wr).mono ?_
      rintro e w' ⟨rfl, rfl⟩
      by_cases hgood : isSign c = true
      · have hv0 : 0 ≤ val64 c := by simpa [isSign] using hgood
        have hvb := val64_bound c
        have hsv : signV c = val64 c := by unfold signV; rw [if_pos hv0]
        obtain ⟨d, hd⟩ : ∃ d, d = (val64 c).toNat := ⟨_, rfl⟩
        have hdv : val64 c = (d : Int) := by omega
        have hd64 : d < 64 := by omega
        have hVn : Hid (V = L.take (k + 1) ++ (L.drop (k + 1)).takeWhile isSign) := by
          show _ = _
          rw [HVK.out, hdr.out, List.takeWhile_cons_of_pos hgood, htk.out]; simp
        have hbn : Hid (bitsOf (L.take (k + 1)) = bitsOf (L.take k) ++ six d) := by show _ = _; rw [htk.out, bitsOf_snoc, ← hd]
        rw [hsv, hdv, hgood]
        generalize bitsOf (L.take k) = bs at *
        rw [hbl] at hown
        clear hv0 hvb hsv hd hdv hgood HVK
        have HBL := Lib.hid hbl
        clear hbl
        go_wp2
        go_loopw [4, 8] (fun v b wz => ∃ (t kk : Nat), t ≤ 6 ∧ b = .int .i64 kk ∧ kk = 32 / 2 ^ t ∧ wz.ownsRow w.heap.size 5 1 v (6 * k + t) (Lib.byteCells (bs ++ (six d).take t)) ∧ Below w.heap.size w wz) (fun _ b _ => (intOf b).toNat)
        case atStart => exact ⟨0, 32, by omega, rfl, rfl, by simpa using hown, hbel⟩
        case round =>
          obtain ⟨t, kk, ht, rfl, hkk, hown2, hbel2⟩ := hrel
          obtain ⟨p1, p2, p3, p4⟩ := pow_facts t ht
          rw [← hkk] at p1 p2 p3 p4
          clear hown hbel
          have hsz2 := hbel2.size
          have HKK := Lib.hid hkk
          by_cases ht6 : t < 6
          · have hk1 := p2 ht6
            have hst : Hid ((six d).take (t + 1) = (six d).take t ++ [(d / kk % 2).toUInt8]) := by show _ = _; rw [six_step d t ht6, ← hkk]
            obtain ⟨bt, hbt⟩ : ∃ bt, bt = d / kk % 2 := ⟨_, rfl⟩
            have hbt2 : bt < 2 := by omega
            have hdk : (d : Int) / (kk : Int) % 2 = (bt : Int) := by rw [hbt]; simp
            rw [← hbt] at hst
            have HP1 := Lib.hid p1
            clear p1 p2 p4 hkk hbt
            have hrd := reads_const wr (bt : Int) bt.toUInt8 (by rw [nat_byte bt (by omega)])
            go_wp2_with (at_builtin; refine wpList_append_any _ rfl (.tmp 33) (.tmp 39) 22 rfl w.heap.size 5 i0 (.int .u8 0) 1 1 Tryd.underlying22 hi hz0 hz1 hz2 rfl (by decide) _ _ _ rfl (hown2.alloc _) (wr.heap.size + 1) _ 1 1 (Lib.byteCells [bt.toUInt8]) rfl hrd (Lib.byteCells_one _) ?c3 ?c4 ?c5 ?_)
            case c3 => unfold maxLen; omega
            case c4 => omega
            case c5 => first | omega | (simp; done) | (simp; omega)
            intro v' w2 hown' hgrow _
            have hbel3 : Below w.heap.size w w2 := (hbel2.alloc hsz2 _).grown hgrow (by simp; omega) (fun k hk => (hown2.lt k hk).1)
            have hown3 : w2.ownsRow w.heap.size 5 1 v' (6 * k + (t + 1)) (Lib.byteCells (bs ++ (six d).take (t + 1))) := by
              rw [hst.out, ← List.append_assoc, Lib.byteCells_append]
              exact hown'
            clear hown' hown2 hgrow hrd hbel2 hdk
            go_wp2
            go_roundw
            case rel => exact ⟨t + 1, kk / 2, by omega, by go_num, by rw [HP1.out], hown3, hbel3⟩
            case measure => simp [intOf]; omega
          · obtain rfl : t = 6 := by omega
            have hkk0 : kk ≤ 0 := by rw [p4 rfl]; exact Nat.le_refl _
            have hown3 : wr.ownsRow w.heap.size 5 1 u4 (bitsOf (L.take (k + 1))).length (Lib.byteCells (bitsOf (L.take (k + 1)))) := by
              have h6 : (six d).take 6 = six d := rfl
              rw [h6] at hown2
              rw [hbn.out, List.length_append, HBL.out]
              exact hown2
            clear hown2 p1 p2 p3 p4 hkk
            go_wp2
            go_roundw
            case rel => exact ⟨k + 1, by omega, by go_num, hown3, hVn.out, hbel2⟩
            case measure => simp [intOf]; omega
      · have hbad : isSign c = false := by simpa using hgood
        have hVe : Hid (V = L.take k) := by
          show _ = _
          rw [HVK.out, hdr.out, List.takeWhile_cons_of_neg (by rw [hbad]; simp), List.append_nil]
        rw [← hVe.out] at hown
        rw [hbad]
        clear hgood hbl hdr htk HVK
        obtain ⟨A4, c4, rfl, _⟩ := own_form_cap hown
        have hrb := Reads.of_own hown
        have hbit := bitsOf_bit V
        have hNb : (bitsOf V).length ≤ 6 * s.size := by
          rw [bitsOf_len, hVe.out, List.length_take]; omega
        have hacl := fun i k => accB_lt (bitsOf V) hbit i k
        generalize bitsOf V = bs at *
        have HACL : Hid (∀ i k, accB bs i k < 2 ^ k) := hacl
        have HBIT : Hid (∀ x ∈ bs, x.toNat < 2) := hbit
        clear hacl hbit
        have hoe2 := owns_empty wr
        clear hown
        go_wp2_with fail
        go_loopw [9, 10] (fun v i wz => ∃ (j i' : Nat), 8 * j ≤ bs.length ∧ i' ≤ 8 * j ∧ 8 * j ≤ i' ∧ i = .int .i64 i' ∧ wz.ownsRow wr.heap.size 5 1 v j (Lib.byteCells ((List.range j).map fun j => (accB bs (8 * j) 8).toUInt8)) ∧ Below wr.heap.size wr wz) (fun _ i _ => bs.length + 8 - (intOf i).toNat)
        case atStart => exact ⟨0, 0, by omega, by omega, by omega, rfl, hoe2, (Below.refl _ _).alloc (Nat.le_refl _) _⟩
        case round =>
          obtain ⟨j, i', hj, hi1, hi2, rfl, hown5, hbel5⟩ := hrel
          clear hoe2
          have hsz5 := hbel5.size
          have hrb5 := hrb.below hbel5
          by_cases hlt2 : i' + 8 ≤ bs.length
          · have hdec : decide ((i' : Int) + 8 ≤ (bs.length : Int)) = true := by simp; omega
            go_wp2_with fail
            clear hdec
            go_loop [11, 12] (fun a b => ∃ k2 : Nat, k2 ≤ 8 ∧ b = .int .i64 k2 ∧ a = .int .u8 (accB bs (8 * j) k2)) (fun _ b => 8 - (intOf b).toNat)
            case atStart => exact ⟨0, by omega, rfl, rfl⟩
            case round =>
              obtain ⟨k2, hk2, rfl, rfl⟩ := hrel
              have hal := HACL.out (8 * j) k2
              by_cases hk8 : k2 < 8
              · have hal2 : accB bs (8 * j) k2 < 128 := Nat.lt_of_lt_of_le hal (by
                  have : 2 ^ k2 ≤ 2 ^ 7 := Nat.pow_le_pow_right (by omega) (by omega)
                  omega)
                have hacc : accB bs (8 * j) (k2 + 1) = 2 * accB bs (8 * j) k2 + (bs.getD (8 * j + k2) 0).toNat := rfl
                have hkx : i' + k2 < bs.length := by omega
                obtain ⟨x, hx⟩ : ∃ x : UInt8, x = bs[i' + k2] := ⟨_, rfl⟩
                have hx2 : x.toNat < 2 := by rw [hx]; exact HBIT.out _ (List.getElem_mem hkx)
                have hgd : bs.getD (8 * j + k2) 0 = x := by
                  rw [show 8 * j + k2 = i' + k2 from by omega]
                  simp [List.getD, List.getElem?_eq_getElem hkx, hx]
                rw [hgd] at hacc
                obtain ⟨ad, u, rfl, hab, hu, hc⟩ := hrb5.at_ hkx
                have hu' : u = .int .u8 x.toNat := by
                  simp [Lib.byteCells, List.getElem?_map, List.getElem?_eq_getElem hkx] at hu
                  rw [hx]; exact hu.symm
                subst hu'
                generalize accB bs (8 * j) k2 = y at *
                have HA := Lib.hid hacc
                clear hacc hal hgd hu hx
                go_wp2_with fail
                go_round
                case rel => exact ⟨k2 + 1, by omega, by go_num, by rw [HA.out]; exact int_eq'' (by omega)⟩
                case measure => simp [intOf]; omega
              · obtain rfl : k2 = 8 := by omega
                have hal2 : accB bs (8 * j) 8 < 256 := hal
                have hrange : Hid (((List.range (j + 1)).map fun j => (accB bs (8 * j) 8).toUInt8) = ((List.range j).map fun j => (accB bs (8 * j) 8).toUInt8) ++ [(accB bs (8 * j) 8).toUInt8]) := range_snoc_map _ j
                generalize ((List.range j).map fun j => (accB bs (8 * j) 8).toUInt8) = base at *
                generalize accB bs (8 * j) 8 = y at *
                clear hal
                have hrd := reads_const wr (y : Int) y.toUInt8 (by rw [nat_byte y (by omega)])
                go_wp2_with (at_builtin; refine wpList_append_any _ rfl (.tmp 62) (.tmp 64) 22 rfl _ 5 i0 (.int .u8 0) 1 1 Tryd.underlying22 hi hz0 hz1 hz2 rfl (by decide) _ _ _ rfl (hown5.alloc _) (wr.heap.size + 1) _ 1 1 (Lib.byteCells [y.toUInt8]) rfl hrd (Lib.byteCells_one _) ?c3 ?c4 ?c5 ?_)
                case c3 => unfold maxLen; omega
                case c4 => omega
                case c5 => first | omega | (simp; done) | (simp; omega)
                intro v' w2 hown' hgrow _
                have hbel6 := (hbel5.alloc hsz5 _).grown hgrow (by simp; omega) (fun k hk => (hown5.lt k hk).1)
                have hown6 := owns_cast (ys := Lib.byteCells ((List.range (j + 1)).map fun j => (accB bs (8 * j) 8).toUInt8)) hown' (by rw [hrange.out, Lib.byteCells_append])
                clear hown' hown5 hgrow hrd hbel5
                go_wp2
                go_roundw
                case rel => exact ⟨j + 1, i' + 8, by omega, by omega, by omega, by go_num, hown6, hbel6⟩
                case measure => simp [intOf]; omega
          · have hdec : decide ((i' : Int) + 8 ≤ (bs.length : Int)) = false := by simp; omega
            have hj8 : bs.length / 8 = j := by omega
            have hXX := hXV.out
            rw [hj8] at hXX
            rw [← hXX] at hown5
            have hXl : X.length = j := by rw [hXX]; simp
            have hXb : X.length ≤ 1099511627776 := by omega
            clear hXX hXV HACL HBIT hj8
            obtain ⟨A6, c6, rfl, _⟩ := own_form_cap hown5
            have hr6 := Reads.of_own hown5
            clear hrb hrb5
            go_wp2_with fail
            refine (refBase64_any _ _ _ X wr hr6 (by omega)).mono ?_
            rintro e w' ⟨rfl, hb6⟩
            have hz6 := hb6.size
            have hbel7 := hbel.trans ((hbel5.trans (hb6.mono hsz5)).mono hszr)
            by_cases hc : b64 X = L
            · have hT : (!b64 X == s.toList) = false := by
                rw [Lib.toList_data, ← HL.out]
                simp [hc]
              have hRX := hR.out
              rw [if_pos hc] at hRX
              have HR := Lib.hid hRX
              clear hRX hc
              go_wp2
              go_ret2
              exact .inr ⟨X, _, HR.out, rfl, by rw [hXl]; exact owns_more (own_below hown5 hb6) hszr, hbel7⟩
            · have hT : (!b64 X == s.toList) = true := by
                rw [Lib.toList_data, ← HL.out]
                simp [hc]
              have hRX := hR.out
              rw [if_neg hc] at hRX
              have HR := Lib.hid hRX
              clear hRX hc
              go_wp2
              go_ret2
              exact .inl ⟨HR.out, _, rfl, owns_more (owns_empty w') hbel7.size, hbel7.alloc hbel7.size _⟩
    · have hVe : Hid (V = L.take k) := by
        show _ = _
        rw [HVK.out, List.drop_of_length_le (by rw [HSL.out]; omega)]; simp
      rw [← hVe.out] at hown
      clear HVK
      obtain ⟨A4, c4, rfl, _⟩ := own_form_cap hown
      have hrb := Reads.of_own hown
      have hbit := bitsOf_bit V
      have hNb : (bitsOf V).length ≤ 6 * s.size := by
        rw [bitsOf_len, hVe.out, List.length_take]; omega
      have hacl := fun i k => accB_lt (bitsOf V) hbit i k
      generalize bitsOf V = bs at *
      have HACL : Hid (∀ i k, accB bs i k < 2 ^ k) := hacl
      have HBIT : Hid (∀ x ∈ bs, x.toNat < 2) := hbit
      clear hacl hbit
      have hoe2 := owns_empty wr
      clear hown
      go_wp2_with fail
      go_loopw [9, 10] (fun v i wz => ∃ (j i' : Nat), 8 * j ≤ bs.length ∧ i' ≤ 8 * j ∧ 8 * j ≤ i' ∧ i = .int .i64 i' ∧ wz.ownsRow wr.heap.size 5 1 v j (Lib.byteCells ((List.range j).map fun j => (accB bs (8 * j) 8).toUInt8)) ∧ Below wr.heap.size wr wz) (fun _ i _ => bs.length + 8 - (intOf i).toNat)
      case atStart => exact ⟨0, 0, by omega, by omega, by omega, rfl, hoe2, (Below.refl _ _).alloc (Nat.le_refl _) _⟩
      case round =>
        obtain ⟨j, i', hj, hi1, hi2, rfl, hown5, hbel5⟩ := hrel
        clear hoe2
        have hsz5 := hbel5.size
        have hrb5 := hrb.below hbel5
        by_cases hlt2 : i' + 8 ≤ bs.length
        · have hdec : decide ((i' : Int) + 8 ≤ (bs.length : Int)) = true := by simp; omega
          go_wp2_with fail
          clear hdec
          go_loop [11, 12] (fun a b => ∃ k2 : Nat, k2 ≤ 8 ∧ b = .int .i64 k2 ∧ a = .int .u8 (accB bs (8 * j) k2)) (fun _ b => 8 - (intOf b).toNat)
          case atStart => exact ⟨0, by omega, rfl, rfl⟩
          case round =>
            obtain ⟨k2, hk2, rfl, rfl⟩ := hrel
            have hal := HACL.out (8 * j) k2
            by_cases hk8 : k2 < 8
            · have hal2 : accB bs (8 * j) k2 < 128 := Nat.lt_of_lt_of_le hal (by
                have : 2 ^ k2 ≤ 2 ^ 7 := Nat.pow_le_pow_right (by omega) (by omega)
                omega)
              have hacc : accB bs (8 * j) (k2 + 1) = 2 * accB bs (8 * j) k2 + (bs.getD (8 * j + k2) 0).toNat := rfl
              have hkx : i' + k2 < bs.length := by omega
              obtain ⟨x, hx⟩ : ∃ x : UInt8, x = bs[i' + k2] := ⟨_, rfl⟩
              have hx2 : x.toNat < 2 := by rw [hx]; exact HBIT.out _ (List.getElem_mem hkx)
              have hgd : bs.getD (8 * j + k2) 0 = x := by
                rw [show 8 * j + k2 = i' + k2 from by omega]
                simp [List.getD, List.getElem?_eq_getElem hkx, hx]
              rw [hgd] at hacc
              obtain ⟨ad, u, rfl, hab, hu, hc⟩ := hrb5.at_ hkx
              have hu' : u = .int .u8 x.toNat := by
                simp [Lib.byteCells, List.getElem?_map, List.getElem?_eq_getElem hkx] at hu
                rw [hx]; exact hu.symm
              subst hu'
              generalize accB bs (8 * j) k2 = y at *
              have HA := Lib.hid hacc
              clear hacc hal hgd hu hx
              go_wp2_with fail
              go_round
              case rel => exact ⟨k2 + 1, by omega, by go_num, by rw [HA.out]; exact int_eq'' (by omega)⟩
              case measure => simp [intOf]; omega
            · obtain rfl : k2 = 8 := by omega
              have hal2 : accB bs (8 * j) 8 < 256 := hal
              have hrange : Hid (((List.range (j + 1)).map fun j => (accB bs (8 * j) 8).toUInt8) = ((List.range j).map fun j => (accB bs (8 * j) 8).toUInt8) ++ [(accB bs (8 * j) 8).toUInt8]) := range_snoc_map _ j
              generalize ((List.range j).map fun j => (accB bs (8 * j) 8).toUInt8) = base at *
              generalize accB bs (8 * j) 8 = y at *
              clear hal
              have hrd := reads_const wr (y : Int) y.toUInt8 (by rw [nat_byte y (by omega)])
              go_wp2_with (at_builtin; refine wpList_append_any _ rfl (.tmp 62) (.tmp 64) 22 rfl _ 5 i0 (.int .u8 0) 1 1 Tryd.underlying22 hi hz0 hz1 hz2 rfl (by decide) _ _ _ rfl (hown5.alloc _) (wr.heap.size + 1) _ 1 1 (Lib.byteCells [y.toUInt8]) rfl hrd (Lib.byteCells_one _) ?c3 ?c4 ?c5 ?_)
              case c3 => unfold maxLen; omega
              case c4 => omega
              case c5 => first | omega | (simp; done) | (simp; omega)
              intro v' w2 hown' hgrow _
              have hbel6 := (hbel5.alloc hsz5 _).grown hgrow (by simp; omega) (fun k hk => (hown5.lt k hk).1)
              have hown6 := owns_cast (ys := Lib.byteCells ((List.range (j + 1)).map fun j => (accB bs (8 * j) 8).toUInt8)) hown' (by rw [hrange.out, Lib.byteCells_append])
              clear hown' hown5 hgrow hrd hbel5
              go_wp2
              go_roundw
              case rel => exact ⟨j + 1, i' + 8, by omega, by omega, by omega, by go_num, hown6, hbel6⟩
              case measure => simp [intOf]; omega
        · have hdec : decide ((i' : Int) + 8 ≤ (bs.length : Int)) = false := by simp; omega
          have hj8 : bs.length / 8 = j := by omega
          have hXX := hXV.out
          rw [hj8] at hXX
          rw [← hXX] at hown5
          have hXl : X.length = j := by rw [hXX]; simp
          have hXb : X.length ≤ 1099511627776 := by omega
          clear hXX hXV HACL HBIT hj8
          obtain ⟨A6, c6, rfl, _⟩ := own_form_cap hown5
          have hr6 := Reads.of_own hown5
          clear hrb hrb5
          go_wp2_with fail
          refine (refBase64_any _ _ _ X wr hr6 (by omega)).mono ?_
          rintro e w' ⟨rfl, hb6⟩
          have hz6 := hb6.size
          have hbel7 := hbel.trans ((hbel5.trans (hb6.mono hsz5)).mono hszr)
          by_cases hc : b64 X = L
          · have hT : (!b64 X == s.toList) = false := by
              rw [Lib.toList_data, ← HL.out]
              simp [hc]
            have hRX := hR.out
            rw [if_pos hc] at hRX
            have HR := Lib.hid hRX
            clear hRX hc
            go_wp2
            go_ret2
            exact .inr ⟨X, _, HR.out, rfl, by rw [hXl]; exact owns_more (own_below hown5 hb6) hszr, hbel7⟩
          · have hT : (!b64 X == s.toList) = true := by
              rw [Lib.toList_data, ← HL.out]
              simp [hc]
            have hRX := hR.out
            rw [if_neg hc] at hRX
            have HR := Lib.hid hRX
            clear hRX hc
            go_wp2
            go_ret2
            exact .inl ⟨HR.out, _, rfl, owns_more (owns_empty w') hbel7.size, hbel7.alloc hbel7.size _⟩
end Go.Proofs.YtibebghnhicmfaaDoor
