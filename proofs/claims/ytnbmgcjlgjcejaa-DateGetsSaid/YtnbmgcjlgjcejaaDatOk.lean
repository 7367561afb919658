/-
  What the laws of layer 10 ask of the program's package date, and the law file's awake over it. Conditions: those contracts.
-/
import Derived.Test.YtnbmgcjlgjcejaaDatGet2
set_option linter.unusedVariables false
set_option maxRecDepth 100000
namespace Go.Proofs.Ytnbmgcjlgjcejaa
open Go Go.Proofs Go.RowKit Dat

/-- How Put ends: a date whose number it is, or none. -/
def PutEnd (n : Int) (w : World) (e : Ending) (w' : World) : Prop :=
  Below w.heap.size w w' ∧ (0 ≤ n ∧ n < 315569520000 → ∃ s : List UInt8, dateR s = some n.toNat ∧ e = .returned (.tuple #[.string ⟨s.toArray⟩, .bool true])) ∧ (¬ (0 ≤ n ∧ n < 315569520000) → e = .returned (.tuple #[.string ⟨#[]⟩, .bool false]))

structure DateOk : Prop where
  get : ∀ (A : Option Addr) (n c : Nat) (l : List UInt8) (w : World), Reads w w.heap.size 1 A n (Lib.byteCells l) → n ≤ 140737488355328 → n ≤ c → Calls Try.prog 5 #[.slice A n c] w fun e w' => OptEnd (dateR l) w e w'
  clock : ∀ (A : Option Addr) (n c : Nat) (l : List UInt8) (w : World), Reads w w.heap.size 1 A n (Lib.byteCells l) → n ≤ 140737488355328 → n ≤ c → Calls Try.prog 7 #[.slice A n c] w fun e w' => OptEnd (clockR l) w e w'

theorem conv_text (w : World) (s : List UInt8) : ∃ (w2 : World) (c : Nat), (convert 9 22 (.string ⟨s.toArray⟩)).run Try.prog w = .ok (.slice (some ⟨w.heap.size, 0, none⟩) s.length c) w2 ∧
    Reads w2 w2.heap.size 1 (some ⟨w.heap.size, 0, none⟩) s.length (Lib.byteCells s) ∧ Below w.heap.size w w2 ∧ s.length ≤ c := by
  have hsz : (⟨s.toArray⟩ : ByteArray).size = s.length := by simp [ByteArray.size]
  refine ⟨Lib.bytesWorld w 5 ⟨s.toArray⟩, grownCap w s.length 0 5, ?_, ?_, ?_, ?_⟩
  · rw [Lib.run_convert_string_bytes w 9 22 5 _ Try.underlying9 Try.underlying22 Try.underlying5, hsz]
  · refine ⟨by rw [Lib.byteCells_length, Nat.mul_one], fun h => ⟨_, rfl, by rw [Lib.bytesWorld_size]; show w.heap.size < _; omega, fun j u hj => ?_⟩⟩
    have hjl : j < s.length := by
      have := (List.getElem?_eq_some_iff.1 hj).1
      simpa [Lib.byteCells] using this
    rw [show (⟨w.heap.size, 0, none⟩ : Addr).add j = ⟨w.heap.size, j, none⟩ from by unfold Addr.add; split <;> simp_all]
    rw [Lib.bytesWorld_cell w 5 _ j (by rw [hsz]; exact hjl)]
    simp only [Lib.byteCells, List.getElem?_map, List.getElem?_eq_getElem hjl, Option.map_some, Option.some.injEq] at hj
    rw [← hj]
    simp [List.getD, List.getElem?_eq_getElem hjl]
  · exact ⟨rfl, rfl, rfl, by rw [Lib.bytesWorld_size]; omega, fun j hj => Lib.bytesWorld_at_old w _ _ j hj⟩
  · exact grownCap_ge w _ _ _

theorem dreads_built (w : World) (l : List UInt8) (n : Nat) (c : Nat × Nat) (hl : l.length = n) : Reads (w.alloc (.cells (Lib.byteCells l).toArray 5 c)) (w.heap.size + 1) 1 (some ⟨w.heap.size, 0, none⟩) n (Lib.byteCells l) := by
  refine ⟨by rw [Lib.byteCells_length, hl, Nat.mul_one], fun _ => ⟨_, rfl, by simp, fun j u hj => ?_⟩⟩
  rw [show (⟨w.heap.size, 0, none⟩ : Addr).add j = ⟨w.heap.size, j, none⟩ from by unfold Addr.add; split <;> simp_all]
  rw [Lib.cell_of_heap (heap_alloc_new w _)]
  rw [List.getElem?_toArray]
  exact hj

set_option maxHeartbeats 4000000 in
theorem awake10_any (H : DateOk) (w : World) : Calls Try.prog 4 #[] w fun e w' => e = .returned (.bool true) ∧ Below w.heap.size w w' := by
  have hb2 : Below w.heap.size w (w.alloc (.cells (Lib.byteCells [48, 48, 48, 48, 45, 48, 49, 45, 48, 50, 95, 48, 48, 58, 48, 48, 58, 48, 49]).toArray 5 (19, 20))) := (Below.refl _ _).alloc (Nat.le_refl _) _
  have hr2 := dreads_built w [48, 48, 48, 48, 45, 48, 49, 45, 48, 50, 95, 48, 48, 58, 48, 48, 58, 48, 49] 19 (19, 20) rfl
  have HR := Lib.hid hr2
  have HB := Lib.hid hb2
  clear hr2 hb2
  have kc := Lib.run_convert_bytes_const (P := Try.prog) w 22 5 #[.int .u8 48, .int .u8 48, .int .u8 48, .int .u8 48, .int .u8 45, .int .u8 48, .int .u8 49, .int .u8 45, .int .u8 48, .int .u8 50, .int .u8 95, .int .u8 48, .int .u8 48, .int .u8 58, .int .u8 48, .int .u8 48, .int .u8 58, .int .u8 48, .int .u8 49] 19 19 Try.underlying22 Try.underlying5
  have hd : Hid (dateR [48, 48, 48, 48, 45, 48, 49, 45, 48, 50, 95, 48, 48, 58, 48, 48, 58, 48, 49] = some 86401) := by show _ = _; decide
  go_enter Try.func4, Try.ntmps4
  go_wp2_with fail
  refine (H.get _ 19 19 _ _ (HR.out.more (by simp)) (by omega) (by omega)).mono ?_
  rintro e w1 ⟨h1, hb1⟩
  rw [hd.out] at h1
  have h1' : e = .returned (.tuple #[.int .i64 86401, .bool true]) := h1
  subst h1'
  go_wp2
  go_ret
  exact ⟨rfl, HB.out.trans (hb1.mono HB.out.size)⟩

theorem beq_self (k : Bool) : (k == k) = true := by cases k <;> rfl

set_option maxHeartbeats 4000000 in
set_option maxRecDepth 100000 in
theorem dgets_walk (H : DateOk) (A : Option Addr) (n c : Nat) (l : List UInt8) (w : World) (hr : Reads w w.heap.size 1 A n (Lib.byteCells l)) (hc : n ≤ c) :
    Calls Try.prog 3 #[.slice A n c] w fun e w' => e = .returned (.bool true) ∧ Below w.heap.size w w' := by
  by_cases hn : 100 < n
  · go_enter Try.func3, Try.ntmps3
    go_wp2_with fail
    refine (awake10_any H w).mono ?_
    rintro e w1 ⟨rfl, hb1⟩
    go_wp2
    go_ret
    exact ⟨rfl, hb1⟩
  · obtain ⟨v, k, e1, h1, h10⟩ := opt_parts (dateR l)
    obtain ⟨v', k', e2, h2, h20⟩ := opt_parts (clockR l)
    have hk := beq_self k
    have hk' := beq_self k'
    have hv : v < 315569520000 := by
      cases k with
      | false => rw [h10 rfl]; omega
      | true => exact date_lt (by rw [h1]; rfl)
    have hv' : v' < 86400 := by
      cases k' with
      | false => rw [h20 rfl]; omega
      | true => exact clock_lt (by rw [h2]; rfl)
    have E1 := Lib.hid e1; have E2 := Lib.hid e2; have HR := Lib.hid hr
    clear h1 h10 h2 h20 e1 e2 hr
    go_enter Try.func3, Try.ntmps3
    go_wp2_with fail
    refine (H.get A n c l w HR.out (by omega) hc).mono ?_
    rintro e w1 ⟨h1, hb1⟩
    rw [E1.out] at h1
    subst h1
    go_wp2_with fail
    refine (refGet10_any A n c l w1 ((HR.out.below hb1).more hb1.size) (by omega) hc).mono ?_
    rintro e w2 ⟨h2, hb2⟩
    rw [E1.out] at h2
    subst h2
    have hb2' := hb1.trans (hb2.mono hb1.size)
    go_wp2_with fail
    refine (H.clock A n c l w2 ((HR.out.below hb2').more hb2'.size) (by omega) hc).mono ?_
    rintro e w3 ⟨h3, hb3⟩
    rw [E2.out] at h3
    subst h3
    have hb3' := hb2'.trans (hb3.mono hb2'.size)
    go_wp2_with fail
    refine (clock10_any A n c l w3 ((HR.out.below hb3').more hb3'.size) (by omega)).mono ?_
    rintro e w4 ⟨h4, hb4⟩
    rw [E2.out] at h4
    subst h4
    have HB4 := Lib.hid (hb3'.trans (hb4.mono hb3'.size))
    clear hb1 hb2 hb2' hb3 hb3' hb4
    go_wp2_with fail
    refine (awake10_any H _).mono ?_
    rintro e w5 ⟨rfl, hb5⟩
    go_wp2
    go_ret
    exact ⟨rfl, HB4.out.trans (hb5.mono HB4.out.size)⟩

end Go.Proofs.Ytnbmgcjlgjcejaa
