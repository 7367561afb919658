/-
  The contracts of the reference's Reduce and MulAdd. Conditions: at most 1000 bytes; to multiply, 32 each.
-/
import Derived.Test.YtebnkbeejkopaaaDoorScaRef3
set_option linter.unusedVariables false
set_option linter.unusedSimpArgs false
namespace Go.Proofs.YtebnkbeejkopaaaDoor
open Go Go.Proofs Go.RowKit F5

/-- 32 new bytes. -/
def Byt32 (v : Nat) (w : World) (e : Ending) (w' : World) : Prop := ∃ r, e = .returned r ∧ w'.ownsRow w.heap.size 5 1 r 32 (Lib.byteCells (fbytes v)) ∧ Below w.heap.size w w'

theorem reduce_any (A : Option Addr) (n c : Nat) (l : List UInt8) (w : World) (hn : n ≤ 1000) (hr : Reads w w.heap.size 1 A n (Lib.byteCells l)) :
    Calls Tryd.prog 9 #[.slice A n c] w (Byt32 (bval l % LL) w) := by
  have hl : l.length = n := by have := hr.1; rw [Lib.byteCells_length] at this; omega
  have CD := Lib.hid (digits_any A n c l w hn hr)
  have HL := Lib.hid hl
  clear hr hl
  go_enter Tryd.func9, Tryd.ntmps9
  go_wp2_with fail
  refine CD.out.mono ?_
  rintro e w1 ⟨v, d, rfl, hd1, hd2, hd3, hown, hb1⟩
  obtain ⟨A1, c1, rfl, _⟩ := own_slice hown
  have CR := rest_any A1 d.length c1 d w1 (by rw [hd1, HL.out]; omega) (Reads.of_own hown) hd2
  rw [hd3] at CR
  have CR := Lib.hid CR
  have HB1 := Lib.hid hb1
  clear hown hb1 hd1 hd2 hd3
  go_wp2_with fail
  refine CR.out.mono ?_
  rintro e w2 ⟨r, rfl, ho2, hb2⟩
  have HO := Lib.hid (own_more64 ho2 HB1.out.size)
  have HB2 := Lib.hid (HB1.out.trans (hb2.mono HB1.out.size))
  clear ho2 hb2
  go_wp2_with fail
  go_ret
  exact ⟨_, rfl, HO.out, HB2.out⟩

theorem Blk.u64at {w : World} {g t : Nat} {L : List Nat} (h : Blk w g t (u64s L)) (k : Nat) (hk : k < L.length) : w.cell? ⟨g, k, none⟩ = some (.int .u64 ((L.getD k 0 : Nat) : Int)) := (h.cell k).trans (u64s_get L k hk)
theorem Blk.u64put {w : World} {g t : Nat} {L : List Nat} (h : Blk w g t (u64s L)) (i s : Nat) : Blk (w.setCell ⟨g, i, none⟩ (.int .u64 (s : Int))) g t (u64s (L.set i s)) := by
  have := h.set_ i (.int .u64 (s : Int))
  rwa [u64s_set] at this
theorem Blk.reads {w : World} {g : Nat} {L : List Nat} (h : Blk w g 32 (u64s L)) : Reads w w.heap.size 1 (some ⟨g, 0, none⟩) L.length (U L) := by
  refine ⟨by rw [U_length, Nat.mul_one], fun _ => ⟨_, rfl, h.lt, fun j u hj => ?_⟩⟩
  rw [show (⟨g, 0, none⟩ : Addr).add j = ⟨g, j, none⟩ from by unfold Addr.add; split <;> simp_all]
  rw [h.cell]
  simpa [u64s, U] using hj
theorem made34 : madeCells #[Value.int .u64 0] 34 = u64s (List.replicate 34 0) := by kernel_rfl

/-- The product's digits stand in a block; what is below it is as it was. -/
def MulAt (W : World) (g : Nat) (L : List Nat) (wr : World) : Prop := Blk wr g 32 (u64s L) ∧ Below g W wr
theorem MulAt.put {W wr : World} {g : Nat} {L : List Nat} (h : MulAt W g L wr) (i s : Nat) : MulAt W g (L.set i s) (wr.setCell ⟨g, i, none⟩ (.int .u64 (s : Int))) := ⟨h.1.u64put i s, h.2.setCell (by show g ≤ g; omega) _⟩
theorem MulAt.drew {W wr : World} {g : Nat} {L : List Nat} (h : MulAt W g L wr) : MulAt W g L wr.drew := ⟨h.1.drew, h.2.drew⟩

set_option maxHeartbeats 16000000 in
set_option maxRecDepth 100000 in
theorem muladd_any (A1 A2 A3 : Option Addr) (c1 c2 c3 : Nat) (l1 l2 l3 : List UInt8) (w : World) (hr1 : Reads w w.heap.size 1 A1 32 (Lib.byteCells l1)) (hr2 : Reads w w.heap.size 1 A2 32 (Lib.byteCells l2)) (hr3 : Reads w w.heap.size 1 A3 32 (Lib.byteCells l3)) :
    Calls Tryd.prog 13 #[.slice A1 32 c1, .slice A2 32 c2, .slice A3 32 c3] w (Byt32 ((bval l1 * bval l2 + bval l3) % LL) w) := by
  have len : ∀ {A : Option Addr} {l : List UInt8}, Reads w w.heap.size 1 A 32 (Lib.byteCells l) → l.length = 32 := fun h => by have := h.1; rw [Lib.byteCells_length] at this; omega
  have hL1 := len hr1
  have hL2 := len hr2
  have hL3 := len hr3
  have b256 : ∀ {l : List UInt8}, l.length = 32 → bval l < 2 ^ 256 := fun {l} h => by have := bval_lt l; rwa [h] at this
  have HX := Lib.hid (b256 hL1)
  have HY := Lib.hid (b256 hL2)
  have HZ := Lib.hid (b256 hL3)
  have CD1 := Lib.hid (digits_any A1 32 c1 l1 w (by omega) hr1)
  have HR2 := Lib.hid hr2
  have HR3 := Lib.hid hr3
  have HL1 := Lib.hid hL1
  have HL2 := Lib.hid hL2
  have HL3 := Lib.hid hL3
  obtain ⟨z34, hz34⟩ : ∃ z, Hid (z = u64s (List.replicate 34 0)) := ⟨_, Lib.hid rfl⟩
  have hmk : ∀ W : World, (Instr.makeSlice 38 (.int .i64 34) (.int .i64 34)).run Tryd.prog W = .ok (.slice (some ⟨W.heap.size, 0, none⟩) 34 34) (W.alloc (.cells z34 32)) := fun W => by
    rw [hz34.out, ← made34]
    exact run_make_row' (P := Tryd.prog) 38 32 (.int .u64 0) 8 Tryd.underlying38 infoU64 rfl .i64 .i64 34 (by omega) (by omega) W
  obtain ⟨X, hX⟩ := named (bval l1)
  obtain ⟨Y, hY⟩ := named (bval l2)
  obtain ⟨Z, hZ⟩ := named (bval l3)
  rw [← hX.out] at HX
  rw [← hY.out] at HY
  rw [← hZ.out] at HZ
  rw [← hX.out, ← hY.out, ← hZ.out]
  clear hr1 hr2 hr3 len b256 hL1 hL2 hL3
  go_enter Tryd.func13, Tryd.ntmps13
  go_wp2_with fail
  refine CD1.out.mono ?_
  rintro e w1 ⟨v, dx, rfl, hd1, hd2, hd3, hown, hb1⟩
  obtain ⟨B1, e1, rfl, _⟩ := own_slice hown
  rw [HL1.out] at hd1
  have hdx : dx = digs B X 16 := by rw [hX.out]; exact digs_of hd2 hd1 hd3
  rw [hd1] at hown
  have HRX := Lib.hid (Reads.of_own hown)
  have HB1 := Lib.hid hb1
  have CD2 := Lib.hid (digits_any A2 32 c2 l2 w1 (by omega) ((HR2.out.below hb1).more hb1.size))
  clear hown hb1 hd2 hd3
  rw [show dx.length = 16 from hd1]
  clear hd1
  go_wp2_with fail
  refine CD2.out.mono ?_
  rintro e w2 ⟨v, dy, rfl, hd1, hd2, hd3, hown, hb1⟩
  obtain ⟨B2, e2, rfl, _⟩ := own_slice hown
  rw [HL2.out] at hd1
  have hdy : dy = digs B Y 16 := by rw [hY.out]; exact digs_of hd2 hd1 hd3
  rw [hd1] at hown
  have HRY := Lib.hid (Reads.of_own hown)
  have HRX := Lib.hid ((HRX.out.below hb1).more hb1.size)
  have HB1 := Lib.hid (HB1.out.trans (hb1.mono HB1.out.size))
  have CD3 := Lib.hid (digits_any A3 32 c3 l3 w2 (by omega) ((HR3.out.below HB1.out).more HB1.out.size))
  clear hown hb1 hd2 hd3
  rw [show dy.length = 16 from hd1]
  clear hd1
  go_wp2_with fail
  refine CD3.out.mono ?_
  rintro e w3 ⟨v, dz, rfl, hd1, hd2, hd3, hown, hb1⟩
  obtain ⟨B3, e3, rfl, _⟩ := own_slice hown
  rw [HL3.out] at hd1
  have hdz : dz = digs B Z 16 := by rw [hZ.out]; exact digs_of hd2 hd1 hd3
  rw [hd1] at hown
  have HRZ := Lib.hid (Reads.of_own hown)
  have HRY := Lib.hid ((HRY.out.below hb1).more hb1.size)
  have HRX := Lib.hid ((HRX.out.below hb1).more hb1.size)
  have HB1 := Lib.hid (HB1.out.trans (hb1.mono HB1.out.size))
  clear hown hb1 hd2 hd3 CD1 CD2 CD3 HR2 HR3
  rw [show dz.length = 16 from hd1]
  clear hd1
  subst hdx hdy hdz
  have hm0 : MulAt w3 w3.heap.size (List.replicate 34 0) (w3.alloc (.cells z34 32)) := by
    rw [hz34.out]; exact ⟨Blk.new _ _ _, below_new1 _ _⟩
  have HM0 := Lib.hid hm0
  clear hm0
  go_wp2_with fail
  generalize w3.alloc (.cells z34 32) = W at *
  clear hmk
  obtain ⟨g, hg⟩ := named w3.heap.size
  rw [← hg.out] at HM0 HRX HRY HRZ ⊢
  go_loopg [11] 16 (fun gg iv wr => ∃ i L, iv = .int .i64 (i : Nat) ∧ gg + i = 16 ∧ MulZ X Y Z i 0 0 L ∧ MulAt w3 g L wr)
  case atStart => exact ⟨0, _, rfl, rfl, MulZ.zero, HM0.out⟩
  case round =>
    obtain ⟨i, L, rfl, hgk, hL, hT⟩ := hrel
    clear HM0
    by_cases hlt : i < 16
    · obtain ⟨G, hG⟩ : ∃ G, Hid (gk = G + 1 ∧ G + (i + 1) = 16) := ⟨gk - 1, Lib.hid ⟨by omega, by omega⟩⟩
      have hx := hT.1.u64at i (by rw [hL.1]; omega)
      obtain ⟨ad, rfl, hadB, hy⟩ := reads_u (HRZ.out.below hT.2) hlt
      rw [digs_at hlt] at hy
      have hf := hT.1.frozen i
      have hxl := hL.2.1 i
      have hyl : Z / B ^ i % B ≤ 65535 := Nat.le_of_lt_succ (lim_lt Z i)
      have hnl := hL.add hlt
      obtain ⟨x, hX⟩ := named (L.getD i 0)
      obtain ⟨y, hY⟩ := named (Z / B ^ i % B)
      rw [← hX.out, ← hY.out] at hnl
      rw [← hX.out] at hx hxl
      rw [← hY.out] at hy hyl
      obtain ⟨s, hs⟩ := named (x + y)
      have cs := wrap_sum x y s (by rw [hs.out]; unfold M; omega)
      rw [← hs.out] at hnl
      have hii : (i : Int) < 16 := by omega
      have hii2 : (i : Int) < 34 := by omega
      have hne : ad.block ≠ g := by omega
      have HNL := Lib.hid hnl
      have n1 := Lib.hid (hT.put i s)
      have n2 := Lib.hid (hT.drew.put i s)
      clear hT hL hnl hxl hyl hgk
      go_wp2
      go_region
      have hnd := Lib.hid n1.out.drew
      clear n1
      go_wp2
      go_loopg [12] 16 (fun g0 kv w1 => ∃ k L1, kv = .int .i64 (k : Nat) ∧ g0 + k = 16 ∧ MulZ X Y Z i k 1 L1 ∧ MulAt w3 g L1 w1)
      case atStart => exact ⟨0, _, rfl, rfl, HNL.out, (by first | exact hnd.out | exact n2.out)⟩
      case round =>
        obtain ⟨k, L1, rfl, hgk, hL1, hT1⟩ := hrel
        clear HNL hnd n2
        by_cases hk : k < 16
        · have ha := hT1.1.u64at (i + k) (by rw [hL1.1]; omega)
          obtain ⟨ax, rfl, _, hx⟩ := reads_u (HRX.out.below hT1.2) hlt
          obtain ⟨ay, rfl, _, hy⟩ := reads_u (HRY.out.below hT1.2) hk
          rw [digs_at hlt] at hx
          rw [digs_at hk] at hy
          have hf := hT1.1.frozen (i + k)
          have hal1 := hL1.2.1 (i + k)
          have hxl := lim_lt X i
          have hyl := lim_lt Y k
          have hnl := hL1.next hlt hk
          obtain ⟨a, hA⟩ := named (L1.getD (i + k) 0)
          obtain ⟨x, hX⟩ := named (X / B ^ i % B)
          obtain ⟨y, hY⟩ := named (Y / B ^ k % B)
          rw [← hA.out, ← hX.out, ← hY.out] at hnl
          rw [← hA.out] at ha hal1
          rw [← hX.out] at hx hxl
          rw [← hY.out] at hy hyl
          have hpl : x * y ≤ 65535 * 65535 := Nat.mul_le_mul (Nat.le_of_lt_succ hxl) (Nat.le_of_lt_succ hyl)
          obtain ⟨q, hq⟩ := named (x * y)
          rw [← hq.out] at hnl hpl
          have cq := wrap_mul x y q (by rw [hq.out] at hpl ⊢; unfold M; omega)
          obtain ⟨s, hs⟩ := named (a + q)
          have cs := wrap_sum a q s (by rw [hs.out]; unfold M; omega)
          rw [← hs.out] at hnl
          have i1 : IntKind.i64.wrap ((i : Int) + (k : Int)) = (i : Int) + (k : Int) := IntWalk.i64_in _ (by omega)
          have t0 : ((i : Int) + (k : Int)).toNat = i + k := by omega
          have q0 : (0 : Int) ≤ (i : Int) + (k : Int) := by omega
          have q2 : (i : Int) + (k : Int) < 34 := by omega
          have hki : (k : Int) < 16 := by omega
          have HNL := Lib.hid hnl
          have n1 := Lib.hid (hT1.put (i + k) s)
          have n2 := Lib.hid (hT1.drew.put (i + k) s)
          clear hT1 hL1 hnl hxl hyl hpl hal1
          go_wp2
          go_region
          have hnd := Lib.hid n1.out.drew
          clear n1
          go_wp2
          go_roundg (gk - 1)
          case measure => omega
          case rel => exact ⟨k + 1, L1.set (i + k) s, by go_num, by omega, HNL.out, (by first | exact hnd.out | exact n2.out)⟩
        · obtain rfl : k = 16 := by omega
          have HL1 := Lib.hid (hL1.row HY.out)
          have HT1 := Lib.hid hT1
          clear hL1 hT1
          go_wp2
          go_roundg G
          case measure => have := hG.out; omega
          case rel => exact ⟨i + 1, L1, by go_num, hG.out.2, HL1.out, HT1.out⟩
    · obtain rfl : i = 16 := by omega
      obtain ⟨hl, hsm, hv⟩ := hL.done HX.out HZ.out
      have HT := Lib.hid hT
      have HL := Lib.hid hl
      have HS := Lib.hid hsm
      have HV := Lib.hid hv
      clear hT hL hl hsm hv HRX HRY HRZ hgk hlt
      go_wp2
      go_loopg [13, 65] 34 (fun g0 cv iv w1 => ∃ (k cc : Nat) (L1 : List Nat), cv = .int .u64 (cc : Int) ∧ iv = .int .i64 (k : Int) ∧ g0 + k = 34 ∧ Pass L k L1 cc ∧ cc ≤ 33554432 ∧ MulAt w3 g L1 w1)
      case atStart => exact ⟨0, 0, L, rfl, rfl, rfl, Pass.zero L, by omega, HT.out⟩
      case round =>
        obtain ⟨k, cc, L1, rfl, rfl, hgk, hP, hcc, hT1⟩ := hrel
        clear HT
        by_cases hk : k < 34
        · have hl1 : L1.length = 34 := hP.1.trans HL.out
          have ha := hT1.1.u64at k (by omega)
          have hf := hT1.1.frozen k
          have hal := HS.out k
          rw [hP.2.2.1 k (Nat.le_refl _)] at ha
          have hnx : Hid (∀ s, s = L.getD k 0 + cc → Pass L (k + 1) (L1.set k (s % B)) (s / B)) := Lib.hid fun s hs => hP.next (by rw [HL.out]; exact hk) hs
          obtain ⟨x, hX⟩ := named (L.getD k 0)
          rw [← hX.out] at ha hal hnx
          obtain ⟨s, hs⟩ := named (x + cc)
          obtain ⟨e, he⟩ := named (s / 65536)
          obtain ⟨r, hr⟩ := named (s % 65536)
          have c1 := wrap_sum x cc s (by rw [hs.out]; unfold M; omega)
          have c3 : IntKind.u64.wrap (e : Int) = (e : Int) := by rw [IntKind.wrap_u64, he.out, hs.out]; omega
          have c4 : IntKind.u64.wrap (r : Int) = (r : Int) := by rw [IntKind.wrap_u64, hr.out]; omega
          have f1 : (s : Int) / 65536 = (e : Int) := by rw [he.out]; omega
          have f2 : (s : Int).tdiv 65536 = (e : Int) := by rw [Int.tdiv_eq_ediv_of_nonneg (by omega)]; omega
          have f3 : (s : Int) % 65536 = (r : Int) := by rw [hr.out]; omega
          have f4 : (s : Int).tmod 65536 = (r : Int) := by rw [Int.tmod_eq_emod_of_nonneg (by omega)]; omega
          have hel : e ≤ 33554432 := by rw [he.out, hs.out]; omega
          have HN : Hid (Pass L (k + 1) (L1.set k r) e) := Lib.hid (by
            have := hnx.out s hs.out
            rw [he.out, hr.out]; exact this)
          have n1 := Lib.hid ((hT1.put k s).put k r)
          rw [List.set_set] at n1
          have hki : (k : Int) < 34 := by omega
          have hwk : IntKind.i64.wrap ((k : Int) + 1) = (k : Int) + 1 := IntWalk.i64_in _ (by omega)
          clear hT1 hP hal hX hnx hl1
          go_wp2
          go_roundg (gk - 1)
          case measure => omega
          case rel => exact ⟨k + 1, e, L1.set k r, rfl, by go_num, by omega, HN.out, hel, n1.out⟩
        · obtain rfl : k = 34 := by omega
          have hxy : X * Y + Z < B ^ 34 := by
            have h1 := Nat.mul_le_mul (Nat.le_of_lt HX.out) (Nat.le_of_lt HY.out)
            have h2 := HZ.out
            have h3 : (2 : Nat) ^ 256 * 2 ^ 256 + 2 ^ 256 < B ^ 34 := by decide
            omega
          obtain ⟨h1, h2⟩ := hP.full HL.out (by rw [HV.out]; exact hxy)
          have hl1 : L1.length = 34 := hP.1.trans HL.out
          have hrd := hT1.1.reads
          rw [hl1] at hrd
          have CR := rest_any (some ⟨g, 0, none⟩) 34 34 L1 wr (by omega) hrd h1
          rw [h2, HV.out] at CR
          have CR := Lib.hid CR
          have HBF := Lib.hid (HB1.out.trans ((hT1.2.mono (show w.heap.size ≤ g by rw [hg.out]; exact HB1.out.size))))
          clear hP hT1 hrd h1 h2 hl1 hxy hcc
          go_wp2_with fail
          refine CR.out.mono ?_
          rintro e w5 ⟨r, rfl, ho5, hb5⟩
          have HO := Lib.hid (own_more64 ho5 HBF.out.size)
          have HB5 := Lib.hid (HBF.out.trans (hb5.mono HBF.out.size))
          clear ho5 hb5
          go_wp2_with fail
          go_ret
          exact ⟨_, rfl, HO.out, HB5.out⟩
end Go.Proofs.YtebnkbeejkopaaaDoor
