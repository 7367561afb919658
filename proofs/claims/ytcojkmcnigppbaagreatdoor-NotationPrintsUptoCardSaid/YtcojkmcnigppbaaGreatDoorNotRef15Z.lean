/-
  The contract of the document's answer bytes (package greffierref03): bytes as they are printed. Conditions: at most 1000000 bytes.
-/
import Derived.Test.YtcojkmcnigppbaaGreatDoorM5
import Derived.Lib.Hide
import Derived.Deep.DeepCutAuto
import Derived.Deep.CutBlock
set_option linter.unusedVariables false
set_option linter.unusedSimpArgs false
open Go.Lib (hid)
open Go.Proofs.YtcojkmcnigppbaaGreatDoor (zA zB zC zD zE zF)
set_option maxRecDepth 100000
namespace Go.Proofs.YtcojkmcnigppbaaGreatDoor
open Go Go.Proofs Go.RowKit Sx Oct
def tok0 : List UInt8 → Bool
  | [] => false
  | c :: _ => !isDig c
theorem isToken_tok0 (l : List UInt8) : isToken l = (tok0 l && l.all isTok) := by
  cases l <;> rfl
theorem all_take (f : UInt8 → Bool) (l : List UInt8) (k : Nat) (x : UInt8) (h : l[k]? = some x) : (l.take (k + 1)).all f = ((l.take k).all f && f x) := by
  rw [take_snoc l k x h, List.all_append]
  simp
theorem esc_take (l : List UInt8) (k : Nat) (x : UInt8) (h : l[k]? = some x) : esc (l.take (k + 1)) = esc (l.take k) ++ Sx.escB x := by
  rw [take_snoc l k x h]
  simp [esc]
theorem own1 (w : World) (x : UInt8) : (w.alloc (.cells #[.int .u8 x.toNat] 5)).ownsRow w.heap.size 5 1 (.slice (some ⟨w.heap.size, 0, none⟩) 1 1) 1 (Lib.byteCells [x]) :=
  ⟨rfl, .inr ⟨_, 1, #[.int .u8 x.toNat], rfl, Nat.le_refl _, heap_alloc_new w _, Nat.le_refl _, by unfold maxLen; omega, rfl, rfl⟩⟩
theorem q34 : ((34 : UInt8).toNat : Int) = 34 := rfl
theorem q92 : ((92 : UInt8).toNat : Int) = 92 := rfl
theorem isPr_split (x : UInt8) : isPr x = (decide (32 ≤ x.toNat) && decide (x.toNat ≤ 126)) := rfl
theorem join3' (k m : UInt8) (l : List UInt8) : ((⟨#[k]⟩ : ByteArray) ++ ⟨l.toArray⟩ ++ ⟨#[m]⟩) = ⟨(k :: (l ++ [m])).toArray⟩ := by
  apply ByteArray.ext; simp
set_option maxHeartbeats 8000000 in
theorem refPrBytes_any (A : Option Addr) (n c : Nat) (l : List UInt8) (w : World) (hr : Reads w w.heap.size 1 A n (Lib.byteCells l)) (hn : n ≤ 1000000) :
    Calls Tryz.prog 33 #[.slice A n c] w fun e w' => e = .returned (.string ⟨(aBytes l).toArray⟩) ∧ Below w.heap.size w w' := by
  have hl : l.length = n := by have := hr.1; simpa [Lib.byteCells_length] using this
  have HL := hid hl
  obtain ⟨i0, hi, hz0, hz1, hz2⟩ := info_parts infoByte
  have HR : Hid (∀ V, Below w.heap.size w V → Reads V V.heap.size 1 A n (Lib.byteCells l)) := hid fun V hb => (hr.keep fun q hq => hb.cell hq).more hb.size
  have CH : Hid (∀ V, Below w.heap.size w V → Calls Tryz.prog 59 #[.slice A n c] V fun e w' => e = .returned (.string ⟨(hexOf l).toArray⟩) ∧ Below V.heap.size V w') := hid fun V hb => refHex_any A n c l V (HR.out V hb) (by omega)
  have CB : Hid (∀ V, Below w.heap.size w V → Calls Tryz.prog 17 #[.slice A n c] V fun e w' => e = .returned (.string ⟨(b64 l).toArray⟩) ∧ Below V.heap.size V w') := hid fun V hb => refBase64_any A n c l V (HR.out V hb) (by omega)
  have HAT : Hid (∀ k, k < n → ∃ (ad : Addr) (x : UInt8), A = some ad ∧ l[k]? = some x ∧ ∀ V, Below w.heap.size w V → V.cell? (ad.add k) = some (.int .u8 x.toNat)) := hid fun k hk => by
    obtain ⟨ad, u, rfl, hab, hu, hc⟩ := hr.at_ hk
    have hkl : k < l.length := by omega
    refine ⟨ad, l[k], rfl, List.getElem?_eq_getElem hkl, fun V hb => ?_⟩
    have hu' : u = .int .u8 l[k].toNat := by
      simp [Lib.byteCells, List.getElem?_map, List.getElem?_eq_getElem hkl] at hu
      exact hu.symm
    rw [hb.cell (by rw [block_of_add]; exact hab), hc, hu']
  have HADB : Hid (∀ k, k < n → ∀ ad, A = some ad → ad.block < w.heap.size) := hid fun k hk ad e => by
    obtain ⟨ad2, u, rfl, hab, hu, hc⟩ := hr.at_ hk
    injection e with e
    subst e
    exact hab
  have hbl := b64_length l
  have hhl := hexOf_length l
  have hqb1 : ¬ 9223372036854775807 < 1 + (b64 l).length := by omega
  have hqb2 : ¬ 9223372036854775807 < 1 + (b64 l).length + 1 := by omega
  have hqh1 : ¬ 9223372036854775807 < 1 + (hexOf l).length := by omega
  have hqh2 : ¬ 9223372036854775807 < 1 + (hexOf l).length + 1 := by omega
  obtain ⟨T, hT⟩ : ∃ T, Hid (T = tok0 l) := ⟨_, hid rfl⟩
  have HEL : Hid (∀ k, k ≤ n → (esc (l.take k)).length ≤ 2 * k) := hid fun k hk => by
    have h1 := esc_le (l.take k)
    have h2 : (l.take k).length ≤ k := List.length_take_le _ _
    omega
  clear hl hbl hhl
  have hn0i : (0 : Int) ≤ n := by omega
  go_enter Tryz.func33, Tryz.ntmps33
  go_upto_region 1 with fail
  (try simp only [Act.put, zA, zB, zC])
  go_cut [3] (fun v3 wx => ∃ V, V = wx ∧ v3 = .bool T ∧ Below w.heap.size w V)
  case first =>
    have hT := hT.out
    cases l with
    | nil =>
      have hn0 : n = 0 := by have := HL.out; simpa using this.symm
      have hlt : ¬ (0 : Int) < n := by omega
      subst hT
      clear hn0
      clear HAT HADB HR CH CB HEL hr
      go_wp2_with fail
      go_meet
      exact ⟨_, rfl, rfl, Below.refl _ _⟩
    | cons x r =>
      have hn1 : 0 < n := by have := HL.out; simp at this; omega
      have hlt : (0 : Int) < n := by omega
      obtain ⟨ad, x', rfl, hx, hc⟩ := HAT.out 0 hn1
      have hx : x = x' := by simpa using hx
      subst hx
      have hc0 : w.cell? ad = some (.int .u8 x.toNat) := by have h := hc w (Below.refl _ _); rwa [show ad.add 0 = ad by simp [Addr.add]] at h
      have CN := hid (number_any x w)
      have hT : T = !isDig x := hT
      subst hT
      clear HAT HADB HR CH CB HEL hr hc
      go_wp2_with (first | ((with_reducible refine CN.out.mono ?_); rintro e w1 ⟨rfl, rfl⟩))
      go_meet
      exact ⟨_, rfl, rfl, Below.refl _ _⟩
  case rest =>
    obtain ⟨V0, hV0, rfl, hbV⟩ := hcut
    subst hV0
    go_wp2_with fail
    go_loopw [3, 4, 20] (fun v3 v4 i wr => ∃ k, k ≤ n ∧ i = .int .i64 k ∧ v3 = .bool (T && (l.take k).all isTok) ∧ v4 = .bool ((l.take k).all isPr) ∧ Below w.heap.size w wr) (fun _ _ i _ => n - (intOf i).toNat)
    case atStart => exact ⟨0, Nat.zero_le _, rfl, by simp, by simp, hbV⟩
    case round =>
      obtain ⟨k, hk, rfl, rfl, rfl, hbr⟩ := hrel
      clear hbV hr
      by_cases hlt : k < n
      · obtain ⟨ad, x, rfl, hx, hc⟩ := HAT.out k hlt
        replace hc := hc wr hbr
        have CT := tokSign_any x wr
        have E1 := all_take isTok l k x hx
        have E2 := all_take isPr l k x hx
        rw [isPr_split] at E2
        have HE3 : Hid ((T && (l.take (k + 1)).all isTok) = ((T && (l.take k).all isTok) && isTok x)) := hid (by rw [E1, Bool.and_assoc])
        have HE4 := hid E2
        clear E1 E2 HAT HADB CH CB HEL HR hx
        generalize isTok x = tx at *
        generalize (T && (l.take k).all isTok) = a at *
        generalize (l.take k).all isPr = b at *
        have CT := hid CT
        have hlt' : (k : Int) < n := by omega
        have hxl := x.toNat_lt
        cases a with
        | false =>
          clear CT
          cases b with
          | false =>
            go_wp2_with fail
            first | exact ⟨⟨k + 1, by omega, by go_num, congrArg Value.bool HE3.out.symm, congrArg Value.bool (by rw [HE4.out]; simp; omega), hbr⟩, by simp [intOf]; omega⟩ | exact ⟨⟨k + 1, by omega, by go_num, congrArg Value.bool HE3.out.symm, congrArg Value.bool HE4.out.symm, hbr⟩, by simp [intOf]; omega⟩
          | true =>
            by_cases h32 : (32 : Int) ≤ x.toNat
            · have d32 : decide (32 ≤ x.toNat) = true := by simp; omega
              rw [d32] at HE4
              by_cases h126 : (x.toNat : Int) ≤ 126
              · have d126 : decide (x.toNat ≤ 126) = true := by simp; omega
                rw [d126] at HE4
                clear d32 d126
                go_wp2_with fail
                first | exact ⟨⟨k + 1, by omega, by go_num, congrArg Value.bool HE3.out.symm, congrArg Value.bool (by rw [HE4.out]; simp; omega), hbr⟩, by simp [intOf]; omega⟩ | exact ⟨⟨k + 1, by omega, by go_num, congrArg Value.bool HE3.out.symm, congrArg Value.bool HE4.out.symm, hbr⟩, by simp [intOf]; omega⟩
              · have d126 : decide (x.toNat ≤ 126) = false := by simp; omega
                rw [d126] at HE4
                clear d32 d126
                go_wp2_with fail
                first | exact ⟨⟨k + 1, by omega, by go_num, congrArg Value.bool HE3.out.symm, congrArg Value.bool (by rw [HE4.out]; simp; omega), hbr⟩, by simp [intOf]; omega⟩ | exact ⟨⟨k + 1, by omega, by go_num, congrArg Value.bool HE3.out.symm, congrArg Value.bool HE4.out.symm, hbr⟩, by simp [intOf]; omega⟩
            · have d32 : decide (32 ≤ x.toNat) = false := by simp; omega
              rw [d32] at HE4
              clear d32
              go_wp2_with fail
              first | exact ⟨⟨k + 1, by omega, by go_num, congrArg Value.bool HE3.out.symm, congrArg Value.bool (by rw [HE4.out]; simp; omega), hbr⟩, by simp [intOf]; omega⟩ | exact ⟨⟨k + 1, by omega, by go_num, congrArg Value.bool HE3.out.symm, congrArg Value.bool HE4.out.symm, hbr⟩, by simp [intOf]; omega⟩
        | true =>
          cases b with
          | false =>
            go_wp2_with (first | ((with_reducible refine CT.out.mono ?_); rintro e w1 ⟨rfl, rfl⟩))
            first | exact ⟨⟨k + 1, by omega, by go_num, congrArg Value.bool HE3.out.symm, congrArg Value.bool (by rw [HE4.out]; simp; omega), hbr⟩, by simp [intOf]; omega⟩ | exact ⟨⟨k + 1, by omega, by go_num, congrArg Value.bool HE3.out.symm, congrArg Value.bool HE4.out.symm, hbr⟩, by simp [intOf]; omega⟩
          | true =>
            by_cases h32 : (32 : Int) ≤ x.toNat
            · have d32 : decide (32 ≤ x.toNat) = true := by simp; omega
              rw [d32] at HE4
              by_cases h126 : (x.toNat : Int) ≤ 126
              · have d126 : decide (x.toNat ≤ 126) = true := by simp; omega
                rw [d126] at HE4
                clear d32 d126
                go_wp2_with (first | ((with_reducible refine CT.out.mono ?_); rintro e w1 ⟨rfl, rfl⟩))
                first | exact ⟨⟨k + 1, by omega, by go_num, congrArg Value.bool HE3.out.symm, congrArg Value.bool (by rw [HE4.out]; simp; omega), hbr⟩, by simp [intOf]; omega⟩ | exact ⟨⟨k + 1, by omega, by go_num, congrArg Value.bool HE3.out.symm, congrArg Value.bool HE4.out.symm, hbr⟩, by simp [intOf]; omega⟩
              · have d126 : decide (x.toNat ≤ 126) = false := by simp; omega
                rw [d126] at HE4
                clear d32 d126
                go_wp2_with (first | ((with_reducible refine CT.out.mono ?_); rintro e w1 ⟨rfl, rfl⟩))
                first | exact ⟨⟨k + 1, by omega, by go_num, congrArg Value.bool HE3.out.symm, congrArg Value.bool (by rw [HE4.out]; simp; omega), hbr⟩, by simp [intOf]; omega⟩ | exact ⟨⟨k + 1, by omega, by go_num, congrArg Value.bool HE3.out.symm, congrArg Value.bool HE4.out.symm, hbr⟩, by simp [intOf]; omega⟩
            · have d32 : decide (32 ≤ x.toNat) = false := by simp; omega
              rw [d32] at HE4
              clear d32
              go_wp2_with (first | ((with_reducible refine CT.out.mono ?_); rintro e w1 ⟨rfl, rfl⟩))
              first | exact ⟨⟨k + 1, by omega, by go_num, congrArg Value.bool HE3.out.symm, congrArg Value.bool (by rw [HE4.out]; simp; omega), hbr⟩, by simp [intOf]; omega⟩ | exact ⟨⟨k + 1, by omega, by go_num, congrArg Value.bool HE3.out.symm, congrArg Value.bool HE4.out.symm, hbr⟩, by simp [intOf]; omega⟩
      · obtain rfl : k = n := by omega
        have hT := hT.out
        have hTk : l.take k = l := List.take_of_length_le (by rw [HL.out]; exact Nat.le_refl _)
        rw [hTk, hT, ← isToken_tok0]
        clear hT hTk
        cases ht : isToken l with
        | true =>
          have HAB : Hid (aBytes l = l) := hid (by unfold aBytes; rw [ht]; rfl)
          go_wp2_with fail
          rw [run_back (HR.out wr hbr)]
          simp only [Result.andThen]
          rw [Oper.upon_value]
          go_wp2_with fail
          go_ret
          exact ⟨by rw [HAB.out]; rfl, hbr⟩
        | false =>
          cases hp : l.all isPr with
          | true =>
            have HAB : Hid (aBytes l = 34 :: (esc l ++ [34])) := hid (by unfold aBytes; rw [ht, hp]; rfl)
            have ho := own1 wr 34
            have hb1 := hbr.trans ((below_new wr (.cells #[.int .u8 ((34 : UInt8).toNat : Nat)] 5)).mono hbr.size)
            rw [q34] at ho hb1
            have hB0 := hbr.size
            have hzW : wr.heap.size ≤ (wr.alloc (.cells #[.int .u8 34] 5)).heap.size := by simp
            clear ht hp CH CB
            go_wp2_with fail
            generalize wr.heap.size = B0 at *
            generalize wr.alloc (.cells #[.int .u8 34] 5) = W2 at *
            go_loopw [6, 54] (fun v i wr => ∃ j, j ≤ k ∧ i = .int .i64 j ∧ wr.ownsRow B0 5 1 v (34 :: esc (l.take j)).length (Lib.byteCells (34 :: esc (l.take j))) ∧ Below w.heap.size w wr ∧ B0 ≤ wr.heap.size) (fun _ i _ => k - (intOf i).toNat)
            case atStart => exact ⟨0, Nat.zero_le _, rfl, by rw [List.take_zero]; exact ho, hb1, hzW⟩
            case round =>
              obtain ⟨j, hj, rfl, hown, hbj, hBz⟩ := hrel
              clear ho hb1
              have hel := HEL.out j hj
              have hLl : (34 :: esc (l.take j)).length ≤ 2 * j + 1 := by simp; omega
              by_cases hlt : j < k
              · obtain ⟨ad, x, rfl, hx, hc⟩ := HAT.out j hlt
                replace hc := hc _ hbj
                have HE := esc_take l j x hx
                have hlt' : (j : Int) < k := by omega
                have hsz := hbj.size
                have hxl := x.toNat_lt
                by_cases hq : x = 34 ∨ x = 92
                · rw [show Sx.escB x = [92, x] by unfold Sx.escB; rw [if_pos hq]] at HE
                  have HE : Hid (34 :: esc (l.take (j + 1)) = (34 :: esc (l.take j)) ++ [92] ++ [x]) := hid (by rw [HE]; simp)
                  generalize 34 :: esc (l.take j) = L at *
                  have hab : ad.block < w.heap.size := HADB.out j hlt ad rfl
                  have hb01 : w.heap.size ≤ B0 := hB0
                  rcases hq with hq | hq
                  · have q1 : ((x.toNat : Int) == 34) = true := by rw [hq]; rfl
                    clear HAT HEL hx
                    replace hq := hid hq
                    have hrd_w3 := reads_one wr 92 (0, 0)
                    have hsz_w3 := hbj.size
                    rw [q92] at hrd_w3
                    go_wp2_with (at_builtin; refine wpList_append_any _ rfl (.tmp 69) (.tmp 70) 22 rfl B0 5 i0 (.int .u8 0) 1 1 Tryz.underlying22 hi hz0 hz1 hz2 rfl (by decide) _ _ _ rfl (hown.alloc _) (wr.heap.size + 1) _ 1 1 (Lib.byteCells [92]) rfl hrd_w3 (Lib.byteCells_one _) (by unfold maxLen; omega) (by omega) (by simp; omega) ?_)
                    intro v_w3 w3 hown_w3 hgrow_w3 _
                    have hBz_w3 : B0 ≤ w3.heap.size := by have h9 := hgrow_w3.size; simp at h9; omega
                    have hb3 : Below w.heap.size w w3 := (hbj.alloc hsz_w3 (.cells #[.int .u8 92] 5)).grown hgrow_w3 (by simp; omega) (fun k hk => Nat.le_trans hB0 (hown.lt k hk).1)
                    have ho3 : w3.ownsRow B0 5 1 v_w3 (L ++ [92]).length (Lib.byteCells (L ++ [92])) := by
                      rw [Lib.byteCells_append, List.length_append]
                      first | exact hown_w3 | (rw [List.length_append]; exact hown_w3)
                    have hc_w3 : w3.cell? (ad.add j) = some (.int .u8 x.toNat) := by
                      rw [World.cell?_of_block (hgrow_w3.block (ad.add j).block (by have := World.block_lt_of_cell? _ _ hc; simp; omega) (fun e => by have := (hown.lt _ e.symm).1; rw [block_of_add] at this; omega))]
                      exact ((below_new _ _).cell (World.block_lt_of_cell? _ _ hc)).trans hc
                    clear hown hown_w3 hgrow_w3 hrd_w3
                    have hl2 : (L ++ [92]).length ≤ 2 * j + 2 := by simp; omega
                    have hrd_w4 := reads_one w3 x (0, 0)
                    have hsz_w4 := hb3.size
                    skip
                    go_wp2_with (at_builtin; refine wpList_append_any _ rfl (.tmp 72) (.tmp 77) 22 rfl B0 5 i0 (.int .u8 0) 1 1 Tryz.underlying22 hi hz0 hz1 hz2 rfl (by decide) _ _ _ rfl (ho3.alloc _) (w3.heap.size + 1) _ 1 1 (Lib.byteCells [x]) rfl hrd_w4 (Lib.byteCells_one _) (by unfold maxLen; omega) (by omega) (by simp; omega) ?_)
                    intro v_w4 w4 hown_w4 hgrow_w4 _
                    have hBz_w4 : B0 ≤ w4.heap.size := by have h9 := hgrow_w4.size; simp at h9; omega
                    have hb4 : Below w.heap.size w w4 := (hb3.alloc hsz_w4 (.cells #[.int .u8 x.toNat] 5)).grown hgrow_w4 (by simp; omega) (fun k hk => Nat.le_trans hB0 (ho3.lt k hk).1)
                    have ho4 : w4.ownsRow B0 5 1 v_w4 (L ++ [92] ++ [x]).length (Lib.byteCells (L ++ [92] ++ [x])) := by
                      rw [Lib.byteCells_append, List.length_append]
                      first | exact hown_w4 | (rw [List.length_append]; exact hown_w4)
                    clear ho3 hown_w4 hgrow_w4 hrd_w4
                    go_wp2_with fail
                    exact ⟨⟨j + 1, by omega, by go_num, by rw [HE.out]; exact ho4, hb4, hBz_w4⟩, by simp [intOf]; omega⟩
                  · have q1 : ((x.toNat : Int) == 34) = false := by rw [hq]; rfl
                    have q2 : ((x.toNat : Int) == 92) = true := by rw [hq]; rfl
                    clear HAT HEL hx
                    replace hq := hid hq
                    have hrd_w3 := reads_one wr 92 (0, 0)
                    have hsz_w3 := hbj.size
                    rw [q92] at hrd_w3
                    go_wp2_with (at_builtin; refine wpList_append_any _ rfl (.tmp 69) (.tmp 70) 22 rfl B0 5 i0 (.int .u8 0) 1 1 Tryz.underlying22 hi hz0 hz1 hz2 rfl (by decide) _ _ _ rfl (hown.alloc _) (wr.heap.size + 1) _ 1 1 (Lib.byteCells [92]) rfl hrd_w3 (Lib.byteCells_one _) (by unfold maxLen; omega) (by omega) (by simp; omega) ?_)
                    intro v_w3 w3 hown_w3 hgrow_w3 _
                    have hBz_w3 : B0 ≤ w3.heap.size := by have h9 := hgrow_w3.size; simp at h9; omega
                    have hb3 : Below w.heap.size w w3 := (hbj.alloc hsz_w3 (.cells #[.int .u8 92] 5)).grown hgrow_w3 (by simp; omega) (fun k hk => Nat.le_trans hB0 (hown.lt k hk).1)
                    have ho3 : w3.ownsRow B0 5 1 v_w3 (L ++ [92]).length (Lib.byteCells (L ++ [92])) := by
                      rw [Lib.byteCells_append, List.length_append]
                      first | exact hown_w3 | (rw [List.length_append]; exact hown_w3)
                    have hc_w3 : w3.cell? (ad.add j) = some (.int .u8 x.toNat) := by
                      rw [World.cell?_of_block (hgrow_w3.block (ad.add j).block (by have := World.block_lt_of_cell? _ _ hc; simp; omega) (fun e => by have := (hown.lt _ e.symm).1; rw [block_of_add] at this; omega))]
                      exact ((below_new _ _).cell (World.block_lt_of_cell? _ _ hc)).trans hc
                    clear hown hown_w3 hgrow_w3 hrd_w3
                    have hl2 : (L ++ [92]).length ≤ 2 * j + 2 := by simp; omega
                    have hrd_w4 := reads_one w3 x (0, 0)
                    have hsz_w4 := hb3.size
                    skip
                    go_wp2_with (at_builtin; refine wpList_append_any _ rfl (.tmp 72) (.tmp 77) 22 rfl B0 5 i0 (.int .u8 0) 1 1 Tryz.underlying22 hi hz0 hz1 hz2 rfl (by decide) _ _ _ rfl (ho3.alloc _) (w3.heap.size + 1) _ 1 1 (Lib.byteCells [x]) rfl hrd_w4 (Lib.byteCells_one _) (by unfold maxLen; omega) (by omega) (by simp; omega) ?_)
                    intro v_w4 w4 hown_w4 hgrow_w4 _
                    have hBz_w4 : B0 ≤ w4.heap.size := by have h9 := hgrow_w4.size; simp at h9; omega
                    have hb4 : Below w.heap.size w w4 := (hb3.alloc hsz_w4 (.cells #[.int .u8 x.toNat] 5)).grown hgrow_w4 (by simp; omega) (fun k hk => Nat.le_trans hB0 (ho3.lt k hk).1)
                    have ho4 : w4.ownsRow B0 5 1 v_w4 (L ++ [92] ++ [x]).length (Lib.byteCells (L ++ [92] ++ [x])) := by
                      rw [Lib.byteCells_append, List.length_append]
                      first | exact hown_w4 | (rw [List.length_append]; exact hown_w4)
                    clear ho3 hown_w4 hgrow_w4 hrd_w4
                    go_wp2_with fail
                    exact ⟨⟨j + 1, by omega, by go_num, by rw [HE.out]; exact ho4, hb4, hBz_w4⟩, by simp [intOf]; omega⟩
                · rw [show Sx.escB x = [x] by unfold Sx.escB; rw [if_neg hq]] at HE
                  have HE : Hid (34 :: esc (l.take (j + 1)) = (34 :: esc (l.take j)) ++ [x]) := hid (by rw [HE]; simp)
                  generalize 34 :: esc (l.take j) = L at *
                  have hab : ad.block < w.heap.size := HADB.out j hlt ad rfl
                  have hb01 : w.heap.size ≤ B0 := hB0
                  have q1 : ((x.toNat : Int) == 34) = false := by rw [beq_eq_false_iff_ne]; exact fun e => hq (.inl (UInt8.toNat_inj.1 (show x.toNat = 34 by omega)))
                  have q2 : ((x.toNat : Int) == 92) = false := by rw [beq_eq_false_iff_ne]; exact fun e => hq (.inr (UInt8.toNat_inj.1 (show x.toNat = 92 by omega)))
                  clear HAT HEL hq hx
                  have hrd_w3 := reads_one wr x (0, 0)
                  have hsz_w3 := hbj.size
                  skip
                  go_wp2_with (at_builtin; refine wpList_append_any _ rfl (.tmp 72) (.tmp 77) 22 rfl B0 5 i0 (.int .u8 0) 1 1 Tryz.underlying22 hi hz0 hz1 hz2 rfl (by decide) _ _ _ rfl (hown.alloc _) (wr.heap.size + 1) _ 1 1 (Lib.byteCells [x]) rfl hrd_w3 (Lib.byteCells_one _) (by unfold maxLen; omega) (by omega) (by simp; omega) ?_)
                  intro v_w3 w3 hown_w3 hgrow_w3 _
                  have hBz_w3 : B0 ≤ w3.heap.size := by have h9 := hgrow_w3.size; simp at h9; omega
                  have hb3 : Below w.heap.size w w3 := (hbj.alloc hsz_w3 (.cells #[.int .u8 x.toNat] 5)).grown hgrow_w3 (by simp; omega) (fun k hk => Nat.le_trans hB0 (hown.lt k hk).1)
                  have ho3 : w3.ownsRow B0 5 1 v_w3 (L ++ [x]).length (Lib.byteCells (L ++ [x])) := by
                    rw [Lib.byteCells_append, List.length_append]
                    first | exact hown_w3 | (rw [List.length_append]; exact hown_w3)
                  clear hown hown_w3 hgrow_w3 hrd_w3
                  go_wp2_with fail
                  exact ⟨⟨j + 1, by omega, by go_num, by rw [HE.out]; exact ho3, hb3, hBz_w3⟩, by simp [intOf]; omega⟩
              · obtain rfl : j = k := by omega
                have hTk : l.take j = l := List.take_of_length_le (by rw [HL.out]; exact Nat.le_refl _)
                rw [hTk] at hown hLl
                clear hTk
                generalize hLL : 34 :: esc l = L at *
                have HAB2 : Hid (aBytes l = L ++ [34]) := hid (by rw [HAB.out, ← hLL]; simp)
                clear hLL HAB
                have hrd_w3 := reads_one wr 34 (0, 0)
                have hsz_w3 := hbj.size
                rw [q34] at hrd_w3
                go_wp2_with (at_builtin; refine wpList_append_any _ rfl (.tmp 80) (.tmp 81) 22 rfl B0 5 i0 (.int .u8 0) 1 1 Tryz.underlying22 hi hz0 hz1 hz2 rfl (by decide) _ _ _ rfl (hown.alloc _) (wr.heap.size + 1) _ 1 1 (Lib.byteCells [34]) rfl hrd_w3 (Lib.byteCells_one _) (by unfold maxLen; omega) (by omega) (by simp; omega) ?_)
                intro v_w3 w3 hown_w3 hgrow_w3 _
                have hBz_w3 : B0 ≤ w3.heap.size := by have h9 := hgrow_w3.size; simp at h9; omega
                have hb3 : Below w.heap.size w w3 := (hbj.alloc hsz_w3 (.cells #[.int .u8 34] 5)).grown hgrow_w3 (by simp; omega) (fun k hk => Nat.le_trans hB0 (hown.lt k hk).1)
                have ho3 : w3.ownsRow B0 5 1 v_w3 (L ++ [34]).length (Lib.byteCells (L ++ [34])) := by
                  rw [Lib.byteCells_append, List.length_append]
                  first | exact hown_w3 | (rw [List.length_append]; exact hown_w3)
                clear hown hown_w3 hgrow_w3 hrd_w3 HAT HEL HR
                obtain ⟨A2, c2, rfl, hc2⟩ := own_form_cap ho3
                have hr2 := Reads.of_own ho3
                have hr2 : Reads w3 w3.heap.size 1 A2 (L.length + 1) (Lib.byteCells (L ++ [34])) := by rw [List.length_append] at hr2; exact hr2
                clear ho3
                go_wp2_with fail
                rw [run_back (l := L ++ [34]) (n := L.length + 1) hr2]
                simp only [Result.andThen]
                rw [Oper.upon_value]
                go_wp2_with fail
                go_ret
                exact ⟨by rw [HAB2.out]; rfl, hb3⟩
          | false =>
            by_cases h16 : k ≤ 16
            · have h16' : (k : Int) ≤ 16 := by omega
              have HAB : Hid (aBytes l = 35 :: (hexOf l ++ [35])) := hid (by unfold aBytes; rw [ht, hp]; simp only [Bool.false_eq_true, if_false]; rw [if_pos (by rw [HL.out]; exact h16)])
              have C3 := hid (CH.out _ hbr)
              clear ht hp CH CB HAT HEL HR
              go_wp2_with fail
              refine C3.out.mono ?_
              rintro e w3 ⟨rfl, hb3⟩
              go_wp2_with fail
              go_ret
              refine ⟨?_, hbr.trans (hb3.mono hbr.size)⟩
              rw [HAB.out]
              exact congrArg (fun x => Ending.returned (.string x)) (join3' 35 35 (hexOf l))
            · have h16' : ¬ (k : Int) ≤ 16 := by omega
              have HAB : Hid (aBytes l = 124 :: (b64 l ++ [124])) := hid (by unfold aBytes; rw [ht, hp]; simp only [Bool.false_eq_true, if_false]; rw [if_neg (by rw [HL.out]; exact h16)])
              have C3 := hid (CB.out _ hbr)
              clear ht hp CH CB HAT HEL HR
              go_wp2_with fail
              refine C3.out.mono ?_
              rintro e w3 ⟨rfl, hb3⟩
              go_wp2_with fail
              go_ret
              refine ⟨?_, hbr.trans (hb3.mono hbr.size)⟩
              rw [HAB.out]
              exact congrArg (fun x => Ending.returned (.string x)) (join3' 124 124 (b64 l))
end Go.Proofs.YtcojkmcnigppbaaGreatDoor
