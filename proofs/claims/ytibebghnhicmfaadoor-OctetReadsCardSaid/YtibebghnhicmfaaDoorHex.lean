/-
  The contract of octet.Hex: the digits of any bytes. Conditions: at most 2^40 bytes.
-/
import Derived.Test.YtibebghnhicmfaaDoorBuilder
import Derived.Test.YtibebghnhicmfaaDoorWords
import Derived.Test.YtibebghnhicmfaaDoorShelf
import Derived.Test.YtibebghnhicmfaaDoorMath
import Derived.Lib.Hide
import Derived.Laws.BitsAllLaws
set_option linter.unusedVariables false
namespace Go.Proofs.YtibebghnhicmfaaDoor
open Go Go.Proofs Go.RowKit Oct

theorem isF_of {B b : Nat} {bs bs' : List Value} {w : World} (he : bs = bs') (h : Lib.BuilderAtF 41 5 B b (.pointer (some ⟨b, 0, none⟩)) bs w) : Lib.IsBuilderF 41 5 B b bs' w := by
  subst he; exact Or.inr h

theorem hexSign : ∀ (n : Nat) (h : n < 16) (h' : n < (⟨#[48, 49, 50, 51, 52, 53, 54, 55, 56, 57, 97, 98, 99, 100, 101, 102]⟩ : ByteArray).size), (⟨#[48, 49, 50, 51, 52, 53, 54, 55, 56, 57, 97, 98, 99, 100, 101, 102]⟩ : ByteArray)[n]'h' = hexDig n := by
  decide

set_option maxHeartbeats 1000000 in
set_option maxRecDepth 100000 in
theorem hex_any (A : Option Addr) (n c : Nat) (l : List UInt8) (w : World) (hr : Reads w w.heap.size 1 A n (Lib.byteCells l)) (hn : n ≤ 1099511627776) :
    Calls Tryd.prog 8 #[.slice A n c] w fun e w' => e = .returned (.string ⟨(hexOf l).toArray⟩) ∧ Below w.heap.size w w' := by
  have hl : l.length = n := by have := hr.1; simpa [Lib.byteCells_length] using this
  have H := Lib.hid hl; clear hl
  go_enter Tryd.func8, Tryd.ntmps8
  go_wp2
  go_loopw [8] (fun i wr => ∃ k : Nat, k ≤ n ∧ i = .int .i64 k ∧ Lib.IsBuilderF 41 5 w.heap.size w.heap.size (Lib.byteCells (hexOf (l.take k))) wr ∧ Below w.heap.size w wr) (fun i _ => n - (intOf i).toNat)
  case atStart => exact ⟨0, Nat.zero_le _, rfl, Lib.IsBuilderF.of (Lib.fresh_isBuilder 41 5 w), (Below.refl _ _).alloc (Nat.le_refl _) _⟩
  case round =>
    obtain ⟨k, hk, rfl, hb, hbel⟩ := hrel
    by_cases hlt : k < n
    · obtain ⟨ad, u, rfl, hab, hu, hc⟩ := (hr.below hbel).at_ hlt
      have hkl : k < l.length := by rw [H.out]; exact hlt
      obtain ⟨x, hx⟩ : ∃ x : UInt8, x = l[k] := ⟨_, rfl⟩
      have hu' : u = .int .u8 x.toNat := by
        simp [Lib.byteCells, List.getElem?_map, List.getElem?_eq_getElem hkl] at hu
        rw [hx]; exact hu.symm
      subst hu'
      have HT := Lib.hid (hexOf_take l k hkl)
      rw [← hx] at HT
      clear hx hu hkl
      have hx1 := x.toNat_lt
      have ha : bits .and .u8 (x.toNat : Int) 15 = (x.toNat : Int) % 16 := by
        have := u8_and_nat x.toNat 15 (by omega) (by omega)
        rw [nat_mask4] at this
        simpa using this
      have hsz := hbel.size
      have hlen := hexOf_length (l.take k)
      have hlk : (l.take k).length ≤ k := List.length_take_le _ _
      go_wp2_with fail
      rw [hexSign _ (by omega)]
      refine (writeByte_any w.heap.size w.heap.size _ _ wr hb (by rw [Lib.byteCells_length]; omega) hsz).mono ?_
      rintro e w1 ⟨rfl, hb1, hbel1⟩
      have hsz1 := hbel1.size
      go_wp2_with fail
      rw [hexSign _ (by omega)]
      refine (writeByte_any w.heap.size w.heap.size _ _ w1 (Or.inr hb1) (by simp [Lib.byteCells_length]; omega) (by omega)).mono ?_
      rintro e w2 ⟨rfl, hb2, hbel2⟩
      go_wp2
      go_roundw
      case rel => exact ⟨k + 1, by omega, by go_num, by rw [HT.out, Lib.byteCells_append]; exact isF_of (by simp [Lib.byteCells]) hb2, (hbel.trans hbel1).trans hbel2⟩
      case measure => simp [intOf]; omega
    · obtain rfl : k = n := by omega
      have hT : l.take k = l := List.take_of_length_le (by rw [H.out]; exact Nat.le_refl _)
      rw [hT] at hb
      clear hT
      go_wp2_with fail
      refine (Tryd.Builder_String_any_k w.heap.size w.heap.size _ wr hb hbel.size).mono ?_
      rintro e w1 ⟨rfl, hb1, hbel1, -⟩
      go_wp2
      go_ret
      exact ⟨rfl, hbel.trans hbel1⟩
end Go.Proofs.YtibebghnhicmfaaDoor
