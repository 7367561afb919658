/-
  What the laws of layer 10 ask of the program's package date, and the law file's awake over it. Conditions: those contracts.
-/
import Derived.Test.YtnbmgcjlgjcejaaDoorDatGet2
import Derived.Test.YtnbmgcjlgjcejaaDoorTab
set_option linter.unusedVariables false
set_option maxRecDepth 100000
namespace Go.Proofs.YtnbmgcjlgjcejaaDoor
open Go Go.Proofs Go.RowKit Dat

/-- How Put ends: a date whose number it is, or none. -/
def PutEnd (n : Int) (w : World) (e : Ending) (w' : World) : Prop :=
  Below w.heap.size w w' ∧ (0 ≤ n ∧ n < 315569520000 → ∃ s : List UInt8, dateR s = some n.toNat ∧ e = .returned (.tuple #[.string ⟨s.toArray⟩, .bool true])) ∧ (¬ (0 ≤ n ∧ n < 315569520000) → e = .returned (.tuple #[.string ⟨#[]⟩, .bool false]))

structure DateOk : Prop where
  get : ∀ (A : Option Addr) (n c : Nat) (l : List UInt8) (w : World), Reads w w.heap.size 1 A n (Lib.byteCells l) → n ≤ 9223372036854775807 → n ≤ c → Calls Tryd.prog 9 #[.slice A n c] w fun e w' => OptEnd (dateR l) w e w'
  clock : ∀ (A : Option Addr) (n c : Nat) (l : List UInt8) (w : World), Reads w w.heap.size 1 A n (Lib.byteCells l) → n ≤ 9223372036854775807 → n ≤ c → Calls Tryd.prog 10 #[.slice A n c] w fun e w' => OptEnd (clockR l) w e w'

structure PutOk : Prop where
  put : ∀ (n : Int) (w : World), -9223372036854775808 ≤ n → n ≤ 9223372036854775807 → Tab w → Calls Tryd.prog 6 #[.int .i64 n] w fun e w' => PutEnd n w e w'

theorem conv_text (w : World) (s : List UInt8) : ∃ (w2 : World) (c : Nat), (convert 9 27 (.string ⟨s.toArray⟩)).run Tryd.prog w = .ok (.slice (some ⟨w.heap.size, 0, none⟩) s.length c) w2 ∧
    Reads w2 w2.heap.size 1 (some ⟨w.heap.size, 0, none⟩) s.length (Lib.byteCells s) ∧ Below w.heap.size w w2 ∧ s.length ≤ c := by
  have hsz : (⟨s.toArray⟩ : ByteArray).size = s.length := by simp [ByteArray.size]
  refine ⟨Lib.bytesWorld w 5 ⟨s.toArray⟩, grownCap w s.length 0 5, ?_, ?_, ?_, ?_⟩
  · rw [Lib.run_convert_string_bytes w 9 27 5 _ Tryd.underlying9 Tryd.underlying27 Tryd.underlying5, hsz]
  · refine ⟨by rw [Lib.byteCells_length, Nat.mul_one], fun h => ⟨_, rfl, by rw [Lib.bytesWorld_size]; show w.heap.size < _; omega, fun j u hj => ?_⟩⟩
    have hjl : j < s.length := by
      have := (List.getElem?_eq_some_iff.1 hj).1
      simpa [Lib.byteCells] using this
    rw [show (⟨w.heap.size, 0, none⟩ : Addr).add j = ⟨w.heap.size, j, none⟩ from by unfold Addr.add; split <;> simp_all]
    rw [Lib.bytesWorld_cell w 5 _ j (by rw [hsz]; exact hjl)]
    simp only [Lib.byteCells, List.getElem?_map, List.getElem?_eq_getElem hjl, Option.map_some, Option.some.injEq] at hj
    rw [← hj]
    simp [List.getD, List.getElem?_eq_getElem hjl]
  · exact ⟨rfl, rfl, rfl, by rw [Lib.bytesWorld_size]; omega, fun j hj => Lib.bytesWorld_at_old w _ _ j hj⟩
  · exact grownCap_ge w _ _ _

theorem dreads_built (w : World) (l : List UInt8) (n : Nat) (c : Nat × Nat) (hl : l.length = n) : Reads (w.alloc (.cells (Lib.byteCells l).toArray 5 c)) (w.heap.size + 1) 1 (some ⟨w.heap.size, 0, none⟩) n (Lib.byteCells l) := by
  refine ⟨by rw [Lib.byteCells_length, hl, Nat.mul_one], fun _ => ⟨_, rfl, by simp, fun j u hj => ?_⟩⟩
  rw [show (⟨w.heap.size, 0, none⟩ : Addr).add j = ⟨w.heap.size, j, none⟩ from by unfold Addr.add; split <;> simp_all]
  rw [Lib.cell_of_heap (heap_alloc_new w _)]
  rw [List.getElem?_toArray]
  exact hj

set_option maxHeartbeats 4000000 in
theorem awake10_any (H : DateOk) (w : World) : Calls Tryd.prog 7 #[] w fun e w' => e = .returned (.bool true) ∧ Below w.heap.size w w' := by
  have hb2 : Below w.heap.size w (w.alloc (.cells (Lib.byteCells [48, 48, 48, 48, 45, 48, 49, 45, 48, 50, 95, 48, 48, 58, 48, 48, 58, 48, 49]).toArray 5 (19, 20))) := (Below.refl _ _).alloc (Nat.le_refl _) _
  have hr2 := dreads_built w [48, 48, 48, 48, 45, 48, 49, 45, 48, 50, 95, 48, 48, 58, 48, 48, 58, 48, 49] 19 (19, 20) rfl
  have HR := Lib.hid hr2
  have HB := Lib.hid hb2
  clear hr2 hb2
  have kc := Lib.run_convert_bytes_const (P := Tryd.prog) w 27 5 #[.int .u8 48, .int .u8 48, .int .u8 48, .int .u8 48, .int .u8 45, .int .u8 48, .int .u8 49, .int .u8 45, .int .u8 48, .int .u8 50, .int .u8 95, .int .u8 48, .int .u8 48, .int .u8 58, .int .u8 48, .int .u8 48, .int .u8 58, .int .u8 48, .int .u8 49] 19 19 Tryd.underlying27 Tryd.underlying5
  have hd : Hid (dateR [48, 48, 48, 48, 45, 48, 49, 45, 48, 50, 95, 48, 48, 58, 48, 48, 58, 48, 49] = some 86401) := by show _ = _; decide
  go_enter Tryd.func7, Tryd.ntmps7
  go_wp2_with fail
  refine (H.get _ 19 19 _ _ (HR.out.more (by simp)) (by omega) (by omega)).mono ?_
  rintro e w1 ⟨h1, hb1⟩
  rw [hd.out] at h1
  have h1' : e = .returned (.tuple #[.int .i64 86401, .bool true]) := h1
  subst h1'
  go_wp2
  go_ret
  exact ⟨rfl, HB.out.trans (hb1.mono HB.out.size)⟩

theorem beq_self (k : Bool) : (k == k) = true := by cases k <;> rfl

set_option maxHeartbeats 4000000 in
set_option maxRecDepth 100000 in
theorem dback_walk (H : DateOk) (HP : PutOk) (n : Int) (w : World) (ht : Tab w) (h1 : -9223372036854775808 ≤ n) (h2 : n ≤ 9223372036854775807) :
    Calls Tryd.prog 3 #[.int .i64 n] w fun e w' => e = .returned (.bool true) ∧ Below w.heap.size w w' := by
  have HT := Lib.hid ht
  clear ht
  by_cases hn : 0 ≤ n ∧ n < 315569520000
  · obtain ⟨m, rfl⟩ := Int.eq_ofNat_of_zero_le hn.1
    have hm : m < 315569520000 := by omega
    go_enter Tryd.func3, Tryd.ntmps3
    go_wp2_with fail
    refine (HP.put m w h1 h2 HT.out).mono ?_
    rintro e w1 ⟨hb1, hp, _⟩
    obtain ⟨s, hs, rfl⟩ := hp hn
    rw [Int.toNat_natCast] at hs
    obtain ⟨w2, c2, hcv, hr2, hb2, hc2⟩ := conv_text w1 s
    have hlen : s.length ≤ 100 := by rw [date_len hs]; omega
    have HS := Lib.hid hs
    clear hs hn
    have HB2 := Lib.hid (hb1.trans (hb2.mono hb1.size))
    clear hb1 hb2
    go_wp2_with fail
    refine (refGet10_any _ s.length c2 s w2 hr2 (by omega) hc2).mono ?_
    rintro e w3 ⟨h3, hb3⟩
    rw [HS.out] at h3
    have h3' : e = .returned (.tuple #[.int .i64 (m : Int), .bool true]) := h3
    subst h3'
    have HB3 := Lib.hid (HB2.out.trans (hb3.mono HB2.out.size))
    clear h3 hb3 HB2 hr2 hcv
    go_wp2_with fail
    refine (awake10_any H _).mono ?_
    rintro e w5 ⟨rfl, hb5⟩
    go_wp2
    go_ret
    exact ⟨rfl, HB3.out.trans (hb5.mono HB3.out.size)⟩
  · go_enter Tryd.func3, Tryd.ntmps3
    go_wp2_with fail
    refine (HP.put n w h1 h2 HT.out).mono ?_
    rintro e w1 ⟨hb1, _, hp⟩
    obtain rfl := hp hn
    have HB1 := Lib.hid hb1
    clear hb1
    by_cases h0 : n < 0
    · go_wp2_with fail
      refine (awake10_any H _).mono ?_
      rintro e w5 ⟨rfl, hb5⟩
      go_wp2
      go_ret
      exact ⟨rfl, HB1.out.trans (hb5.mono HB1.out.size)⟩
    · have h9 : 315569520000 ≤ n := by omega
      clear hn
      go_wp2_with fail
      refine (awake10_any H _).mono ?_
      rintro e w5 ⟨rfl, hb5⟩
      go_wp2
      go_ret
      exact ⟨rfl, HB1.out.trans (hb5.mono HB1.out.size)⟩
end Go.Proofs.YtnbmgcjlgjcejaaDoor
