/-
  The contract of octet.Base64: the Base64 of any bytes. Conditions: at most 2^40 bytes.
-/
import Derived.Test.YtibebghnhicmfaaDoorUnhex
import Derived.Laws.CopyOwn
import Derived.Lib.BufferWrite
set_option linter.unusedVariables false
namespace Go.Proofs.YtibebghnhicmfaaDoor
open Go Go.Proofs Go.RowKit Oct

def sliceLen : Value → Nat
  | .slice _ n _ => n
  | _ => 0

/-- A builder stands behind whatever changes nothing that lies there. -/
theorem isF_above {B b : Nat} {bs : List Value} {w w' : World} (h : Lib.IsBuilderF 41 5 B b bs w) (hb : Below w.heap.size w w') : Lib.IsBuilderF 41 5 B b bs w' := by
  have key : ∀ p, Lib.BuilderAtF 41 5 B b p bs w → Lib.BuilderAtF 41 5 B b p bs w' := by
    rintro p hp
    have hlt := hp.lt
    obtain ⟨hB, v, hbk, hown, hne⟩ := hp
    refine ⟨hB, v, by rw [hb.block b hlt]; exact hbk, ?_, hne⟩
    refine ⟨hown.1, ?_⟩
    rcases hown.2 with h2 | ⟨g, cap, cur, fz, hv, hg, hh, r⟩
    · exact .inl h2
    · refine .inr ⟨g, cap, cur, fz, hv, hg, ?_, r⟩
      have hgl : g < w.heap.size := by
        rcases Nat.lt_or_ge g w.heap.size with h' | h'
        · exact h'
        · simp [Array.getElem?_eq_none h'] at hh
      rw [hb.block g hgl]
      exact hh
  rcases h with h | h
  · exact .inl (key _ h)
  · exact .inr (key _ h)

theorem splice_take (r : List UInt8) : splice [Value.int .u8 0, .int .u8 0, .int .u8 0] 0 (Lib.byteCells (r.take 3)) = [.int .u8 (r.getD 0 0).toNat, .int .u8 (r.getD 1 0).toNat, .int .u8 (r.getD 2 0).toNat] := by
  match r with
  | [] => rfl
  | [a] => rfl
  | [a, b] => rfl
  | a :: b :: c :: r => rfl

theorem b64SignAt : ∀ (n : Nat) (h : n < 64) (h' : n < (⟨#[65, 66, 67, 68, 69, 70, 71, 72, 73, 74, 75, 76, 77, 78, 79, 80, 81, 82, 83, 84, 85, 86, 87, 88, 89, 90, 97, 98, 99, 100, 101, 102, 103, 104, 105, 106, 107, 108, 109, 110, 111, 112, 113, 114, 115, 116, 117, 118, 119, 120, 121, 122, 48, 49, 50, 51, 52, 53, 54, 55, 56, 57, 43, 47]⟩ : ByteArray).size), (⟨#[65, 66, 67, 68, 69, 70, 71, 72, 73, 74, 75, 76, 77, 78, 79, 80, 81, 82, 83, 84, 85, 86, 87, 88, 89, 90, 97, 98, 99, 100, 101, 102, 103, 104, 105, 106, 107, 108, 109, 110, 111, 112, 113, 114, 115, 116, 117, 118, 119, 120, 121, 122, 48, 49, 50, 51, 52, 53, 54, 55, 56, 57, 43, 47]⟩ : ByteArray)[n]'h' = b64Sign n := by
  decide +kernel
theorem u32_join3 (x0 x1 x2 : Nat) (h0 : x0 < 256) (h1 : x1 < 256) (h2 : x2 < 256) : bits .or .u32 (bits .or .u32 ((x0 : Int) * 65536) ((x1 : Int) * 256)) (x2 : Int) = ((x0 * 65536 + x1 * 256 + x2 : Nat) : Int) := by
  rw [show ((x0 : Int) * 65536) = ((x0 * 65536 : Nat) : Int) from by omega, show ((x1 : Int) * 256) = ((x1 * 256 : Nat) : Int) from by omega, u32_or_nat _ _ (by omega) (by omega), nat_join 16 (x0 * 65536) (x1 * 256) (by omega) (by omega), u32_or_nat _ _ (by omega) (by omega), nat_join 8 _ x2 (by omega) (by omega)]
theorem u32_and63 (v e : Nat) (hv : v < 16777216) : bits .and .u32 ((v : Int) / 2 ^ e) 63 = ((v / 2 ^ e % 64 : Nat) : Int) := by
  have h1 : v / 2 ^ e ≤ v := Nat.div_le_self _ _
  rw [show ((v : Int) / 2 ^ e) = ((v / 2 ^ e : Nat) : Int) from by simp]
  have := u32_and_nat (v / 2 ^ e) 63 (by omega) (by omega)
  rw [nat_mask6] at this
  simpa using this
theorem range_snoc_map (f : Nat → UInt8) (k : Nat) : (List.range (k + 1)).map f = (List.range k).map f ++ [f k] := by rw [List.range_succ, List.map_append]; rfl

theorem pad_is (m : Nat) (h1 : 1 ≤ m) (h2 : m ≤ 3) : Lib.strCells ((⟨#[61, 61]⟩ : ByteArray).extract 0 (3 - m)) = Lib.byteCells (List.replicate (3 - m) 61) ∧ ((⟨#[61, 61]⟩ : ByteArray).extract 0 (3 - m)).size ≤ 2 := by
  have h : m = 1 ∨ m = 2 ∨ m = 3 := by omega
  rcases h with rfl | rfl | rfl <;> exact ⟨rfl, by decide⟩

theorem reads_cast {w : World} {B n n' : Nat} {A : Option Addr} {xs : List Value} (h : n = n') (hr : Reads w B 1 A n xs) : Reads w B 1 A n' xs := by subst h; exact hr

theorem info5 : (Tryd.prog.info? 5).map (·.size) = some 1 := by kernel_rfl

set_option maxHeartbeats 1000000 in
set_option maxRecDepth 100000 in
theorem base64_any (A : Option Addr) (n c : Nat) (l : List UInt8) (w : World) (hr : Reads w w.heap.size 1 A n (Lib.byteCells l)) (hn : n ≤ 1099511627776) (hnc : n ≤ c) :
    Calls Tryd.prog 9 #[.slice A n c] w fun e w' => e = .returned (.string ⟨(b64 l).toArray⟩) ∧ Below w.heap.size w w' := by
  have hl : l.length = n := by have := hr.1; simpa [Lib.byteCells_length] using this
  have hbl := b64_length l
  have H := Lib.hid hl
  go_enter Tryd.func9, Tryd.ntmps9
  go_wp2
  go_loopw [0] (fun v wr => ∃ (A' : Option Addr) (n' c' : Nat) (r out : List UInt8), v = .slice A' n' c' ∧ n' ≤ n ∧ n' ≤ c' ∧ Reads wr w.heap.size 1 A' n' (Lib.byteCells r) ∧ Lib.IsBuilderF 41 5 w.heap.size w.heap.size (Lib.byteCells out) wr ∧ b64 l = out ++ b64 r ∧ Below w.heap.size w wr) (fun v _ => sliceLen v)
  case atStart => exact ⟨A, n, c, l, [], rfl, Nat.le_refl _, hnc, hr.alloc (Nat.le_refl _) _, Lib.IsBuilderF.of (Lib.fresh_isBuilder 41 5 w), by simp, (Below.refl _ _).alloc (Nat.le_refl _) _⟩
  case round =>
    obtain ⟨A', n', c', r, out, rfl, hn', hnc', hr', hb, hout, hbel⟩ := hrel
    have hrl : r.length = n' := by have := hr'.1; simpa [Lib.byteCells_length] using this
    have hol : out.length ≤ 4 * n := by
      have := congrArg List.length hout
      rw [List.length_append] at this
      omega
    have HO := Lib.hid hout
    clear hout hl hbl
    by_cases h0 : 0 < n'
    · clear hr
      have hstep := b64_step r (by intro h; rw [h] at hrl; simp at hrl; omega)
      obtain ⟨cs, hcs⟩ : ∃ cs, cs = Lib.byteCells (r.take 3) := ⟨_, rfl⟩
      obtain ⟨m, hm⟩ : ∃ m, m = cs.length := ⟨_, rfl⟩
      have hm' : m = min n' 3 := by rw [hm, hcs, Lib.byteCells_length, List.length_take, hrl]; omega
      have hm1 : m ≤ n' := by omega
      have hm2 : m ≤ 3 := by omega
      have hm3 : 1 ≤ m := by omega
      obtain ⟨ad, rfl, hab, had⟩ := hr'.2 h0
      have hpos : ∀ j v, cs[j]? = some v → wr.cell? (ad.add j) = some v := by
        intro j v hj
        refine had j v ?_
        rw [hcs] at hj
        simp only [Lib.byteCells, List.map_take] at hj ⊢
        rw [List.getElem?_take] at hj
        split at hj
        · exact hj
        · cases hj
      have hone : ∀ v ∈ cs, v.oneCell' = true := by
        intro v hv
        rw [hcs] at hv
        exact Lib.byteCells_one _ v hv
      have hdrop : r.drop 3 = r.drop m := by
        rcases Nat.lt_or_ge 2 n' with h | h
        · rw [show m = 3 from by omega]
        · rw [List.drop_of_length_le (by omega), List.drop_of_length_le (by omega)]
      have hchunk : chunk r = (List.range (m + 1)).map (sgn (bits24 r)) ++ List.replicate (3 - m) 61 := by
        rw [chunk, show min 3 r.length = m from by omega]
      have HM := Lib.hid hm
      have HM' := Lib.hid hm'
      have HC := Lib.hid hcs
      have HS := Lib.hid hstep
      have HRL := Lib.hid hrl
      have HD := Lib.hid hdrop
      have HCH := Lib.hid hchunk
      have HAD := Lib.hid had
      clear hm hm' hcs hstep hrl hdrop hchunk had
      go_wp2_with (with_reducible refine wpList_copy_splice (o := ⟨some 13, _, _, _, _, _⟩) rfl (.tmp 11) (.tmp 12) 22 22 rfl 5 Tryd.underlying22 info5 (some ⟨wr.heap.size, 0, none⟩) (some ad) 3 3 n' c' rfl rfl wr.heap.size 0 [.int .u8 0, .int .u8 0, .int .u8 0] 47 ?hg cs ?hn ?hp ?hfit hone wr.heap.size wr ?hb (Nat.le_refl _) ?_)
      case hg => exact heap_alloc_new wr _
      case hn => show _ = min n' 3; rw [← HM.out, HM'.out]
      case hp =>
        intro _ j v hj
        rw [World.cell?_alloc_lt _ _ _ (by rw [block_of_add]; have := hbel.size; omega)]
        exact hpos j v hj
      case hfit => rw [← HM.out]; simpa using hm2
      case hb => exact (Below.refl _ _).alloc (Nat.le_refl _) _
      intro w3 hg3 hbel3
      rw [← HM.out]
      have hb4 := isF_above hb hbel3
      have hbel4 := hbel.trans (hbel3.mono hbel.size)
      have hr4 := hr'.below (hbel3.mono hbel.size)
      have hrow : w3.heap[wr.heap.size]? = some (.cells #[.int .u8 (r.getD 0 0).toNat, .int .u8 (r.getD 1 0).toNat, .int .u8 (r.getD 2 0).toNat] 47 (0, 0)) := by
        rw [hg3.out, HC.out, splice_take]
      have HX : Hid (bits24 r = (r.getD 0 0).toNat * 65536 + (r.getD 1 0).toNat * 256 + (r.getD 2 0).toNat) := rfl
      have hx0 := (r.getD 0 0).toNat_lt
      have hx1 := (r.getD 1 0).toNat_lt
      have hx2 := (r.getD 2 0).toNat_lt
      generalize (r.getD 0 0).toNat = x0 at *
      generalize (r.getD 1 0).toNat = x1 at *
      generalize (r.getD 2 0).toNat = x2 at *
      have d0 : w3.cell? ⟨wr.heap.size, 0, none⟩ = some (.int .u8 x0) := by rw [Lib.cell_of_heap hrow]; rfl
      have d1 : w3.cell? ⟨wr.heap.size, 1, none⟩ = some (.int .u8 x1) := by rw [Lib.cell_of_heap hrow]; rfl
      have d2 : w3.cell? ⟨wr.heap.size, 2, none⟩ = some (.int .u8 x2) := by rw [Lib.cell_of_heap hrow]; rfl
      have hsz4 := hbel4.size
      clear hg3 hrow hone hpos hr' hb hbel hbel3
      have hr5 := hr4.cut hm1 hnc'
      rw [Nat.mul_one] at hr5
      have hr6 : Reads w3 w.heap.size 1 (if c' = m then some ad else some (ad.add m)) (n' - m) (Lib.byteCells (r.drop 3)) := by
        rw [HD.out]
        simpa [Lib.byteCells] using hr5
      clear hr4 hr5 HAD HC HM HM'
      have hj := u32_join3 x0 x1 x2 (by omega) (by omega) (by omega)
      have hvl := bits24_lt r
      rw [← HX.out] at hj
      generalize bits24 r = v at *
      have HJ := Lib.hid hj
      clear HX hj
      by_cases hcm : c' = m
      all_goals first | rw [if_neg hcm] at hr6 | (rw [if_pos hcm] at hr6; have hcm' : m = c' := hcm.symm; clear hcm; subst hcm')
      all_goals
        go_wp2_with fail
        rw [HJ.out]
        clear d0 d1 d2
        go_loopw [32] (fun i wz => ∃ k : Nat, k ≤ m + 1 ∧ i = .int .i64 k ∧ Lib.IsBuilderF 41 5 w.heap.size w.heap.size (Lib.byteCells (out ++ (List.range k).map (sgn v))) wz ∧ Below w.heap.size w wz) (fun i _ => m + 1 - (intOf i).toNat)
        case atStart => exact ⟨0, Nat.zero_le _, rfl, by simpa using hb4, hbel4⟩
        case round =>
          obtain ⟨k, hk, rfl, hbk, hbelk⟩ := hrel
          by_cases hlt : k < m + 1
          · have EK := u32_and63 v (18 - 6 * k) hvl
            have hq : v / 2 ^ (18 - 6 * k) % 64 < 64 := Nat.mod_lt _ (by omega)
            have hsg : sgn v k = b64Sign (v / 2 ^ (18 - 6 * k) % 64) := rfl
            generalize v / 2 ^ (18 - 6 * k) % 64 = q at *
            have HQ := Lib.hid hsg
            clear hsg
            have hszk := hbelk.size
            go_wp2_with fail
            rw [b64SignAt _ hq]
            refine (writeByte_any w.heap.size w.heap.size _ _ _ hbk (by simp [Lib.byteCells_length]; omega) hszk).mono ?_
            rintro e w1 ⟨rfl, hb1, hbel1⟩
            go_wp2
            go_roundw
            case rel => exact ⟨k + 1, by omega, by go_num, isF_of (by rw [range_snoc_map, HQ.out]; simp [Lib.byteCells]) hb1, hbelk.trans hbel1⟩
            case measure => simp [intOf]; omega
          · obtain rfl : k = m + 1 := by omega
            have hszk := hbelk.size
            go_wp2_with fail
            refine (writeString_any w.heap.size w.heap.size _ _ _ hbk (by have := (pad_is m hm3 hm2).2; rw [Lib.byteCells_length, List.length_append, List.length_map, List.length_range]; omega) hszk).mono ?_
            rintro e w1 ⟨rfl, hb1, hbel1⟩
            have hb2 : Lib.IsBuilderF 41 5 w.heap.size w.heap.size (Lib.byteCells (out ++ chunk r)) w1 := by
              refine isF_of ?_ hb1
              rw [(pad_is m hm3 hm2).1, ← Lib.byteCells_append, HCH.out, List.append_assoc]
            have hr7 := (hr6.keep (w' := w) (fun p hp => (hbel4.cell hp).symm)).below (hbelk.trans hbel1)
            have hO2 : Hid (b64 l = (out ++ chunk r) ++ b64 (r.drop 3)) := by
              show _ = _
              rw [HO.out, HS.out, List.append_assoc]
            have hbel9 := hbelk.trans hbel1
            clear hb1 hbel1 hbk hbelk hr6
            go_wp2
            go_roundw
            case rel => exact ⟨_, _, _, r.drop 3, _, rfl, by omega, by omega, reads_cast (by omega) hr7, hb2, hO2.out, hbel9⟩
            case measure => simp [sliceLen]; omega
    · obtain rfl : n' = 0 := by omega
      obtain rfl : r = [] := List.eq_nil_of_length_eq_zero hrl
      have hO2 : Hid (b64 l = out) := by rw [HO.out]; show out ++ b64 [] = out; simp [b64]
      clear hrl
      go_wp2_with fail
      refine (Tryd.Builder_String_any_k w.heap.size w.heap.size _ wr hb hbel.size).mono ?_
      rintro e w1 ⟨rfl, hb1, hbel1, -⟩
      go_wp2
      go_ret
      exact ⟨congrArg (fun z : List UInt8 => Ending.returned (.string ⟨z.toArray⟩)) hO2.out.symm, hbel.trans hbel1⟩
end Go.Proofs.YtibebghnhicmfaaDoor
