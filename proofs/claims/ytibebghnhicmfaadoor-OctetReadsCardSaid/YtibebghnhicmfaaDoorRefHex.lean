/-
  The contract of the document's answer Hex (package greffierref01). Conditions: at most 2^40 bytes.
-/
import Derived.Test.YtibebghnhicmfaaDoorAwake
import Derived.Deep.RegionHeld3
import Derived.IntWalk
import Derived.Laws.BitsAllLaws
set_option linter.unusedVariables false
namespace Go.Proofs.YtibebghnhicmfaaDoor
open Go Go.Proofs Go.RowKit Oct

theorem owns_empty (w : World) : (w.alloc (.cells #[] 5)).ownsRow w.heap.size 5 1 (.slice (some ⟨w.heap.size, 0, none⟩) 0 0) 0 [] :=
  ⟨rfl, .inr ⟨_, 0, #[], rfl, Nat.le_refl _, heap_alloc_new w _, Nat.le_refl _, by unfold maxLen; omega, rfl, rfl⟩⟩
theorem own_form_cap {w : World} {base size n : Nat} {e : TypeId} {v : Value} {xs : List Value} (h : w.ownsRow base e size v n xs) : ∃ A c, v = .slice A n c ∧ n ≤ c := by
  rcases h.2 with ⟨h1, h2⟩ | ⟨g, cap, cur, hv, _, _, hc, _⟩
  · exact ⟨none, 0, by rw [h1, h2], by omega⟩
  · exact ⟨_, _, hv, hc⟩

theorem reads_two (w : World) (x y : UInt8) : Reads (w.alloc (.cells #[.int .u8 x.toNat, .int .u8 y.toNat] 5)) (w.heap.size + 1) 1 (some ⟨w.heap.size, 0, none⟩) 2 (Lib.byteCells [x, y]) := by
  refine ⟨rfl, fun _ => ⟨_, rfl, by simp, fun j u hj => ?_⟩⟩
  match j, hj with
  | 0, hj =>
    simp [Lib.byteCells] at hj
    subst hj
    show World.cell? _ ⟨w.heap.size, 0, none⟩ = _
    rw [Lib.cell_of_heap (heap_alloc_new w _)]; rfl
  | 1, hj =>
    simp [Lib.byteCells] at hj
    subst hj
    show World.cell? _ ⟨w.heap.size, 1, none⟩ = _
    rw [Lib.cell_of_heap (heap_alloc_new w _)]; rfl

set_option maxHeartbeats 1000000 in
set_option maxRecDepth 100000 in
theorem refHex_any (A : Option Addr) (n c : Nat) (l : List UInt8) (w : World) (hr : Reads w w.heap.size 1 A n (Lib.byteCells l)) (hn : n ≤ 1099511627776) :
    Calls Tryd.prog 12 #[.slice A n c] w fun e w' => e = .returned (.string ⟨(hexOf l).toArray⟩) ∧ Below w.heap.size w w' := by
  have hl : l.length = n := by have := hr.1; simpa [Lib.byteCells_length] using this
  have H := Lib.hid hl; clear hl
  obtain ⟨i0, hi, hz0, hz1, hz2⟩ := info_parts infoByte
  have hoe := owns_empty w
  go_enter Tryd.func12, Tryd.ntmps12
  go_wp2
  go_loopw [4, 9] (fun v i wr => ∃ k : Nat, k ≤ n ∧ i = .int .i64 k ∧ wr.ownsRow w.heap.size 5 1 v (hexOf (l.take k)).length (Lib.byteCells (hexOf (l.take k))) ∧ Below w.heap.size w wr) (fun _ i _ => n - (intOf i).toNat)
  case atStart => exact ⟨0, Nat.zero_le _, rfl, hoe, (Below.refl _ _).alloc (Nat.le_refl _) _⟩
  case round =>
    obtain ⟨k, hk, rfl, hown, hbel⟩ := hrel
    clear hoe
    by_cases hlt : k < n
    · obtain ⟨ad, u, rfl, hab, hu, hc⟩ := (hr.below hbel).at_ hlt
      have hkl : k < l.length := by rw [H.out]; exact hlt
      obtain ⟨x, hx⟩ : ∃ x : UInt8, x = l[k] := ⟨_, rfl⟩
      have hu' : u = .int .u8 x.toNat := by
        simp [Lib.byteCells, List.getElem?_map, List.getElem?_eq_getElem hkl] at hu
        rw [hx]; exact hu.symm
      subst hu'
      have HT := Lib.hid (hexOf_take l k hkl)
      rw [← hx] at HT
      clear hx hu hkl
      have hx1 := x.toNat_lt
      have hsz := hbel.size
      have hlen := hexOf_length (l.take k)
      have hlk : (l.take k).length ≤ k := List.length_take_le _ _
      have hll : (hexOf (l.take k)).length ≤ 2 * k := by omega
      clear hlen
      obtain ⟨p, hp⟩ : ∃ p, p = x.toNat / 16 := ⟨_, rfl⟩
      obtain ⟨q, hq⟩ : ∃ q, q = x.toNat % 16 := ⟨_, rfl⟩
      rw [← hp, ← hq] at HT
      have e1 : IntKind.u8.wrap ((x.toNat : Int) / 16) = (p : Int) := by rw [IntKind.wrap_u8']; omega
      have e2 : (x.toNat : Int).tmod 16 = (q : Int) := by rw [Int.tmod_eq_emod_of_nonneg (by omega)]; omega
      have p1 : p < 16 := by omega
      have q1 : q < 16 := by omega
      have p2 : (0 : Int) ≤ (p : Int) ∧ (p : Int) < 16 := by omega
      have q2 : (0 : Int) ≤ (q : Int) ∧ (q : Int) < 16 := by omega
      have hs1 := hexSign p p1
      have hs2 := hexSign q q1
      have hbig : hexOf (l.take k) = hexOf (l.take k) := rfl
      generalize hexOf (l.take k) = out at *
      clear hp hq hbig hlk
      have hrd := reads_two wr (hexDig p) (hexDig q)
      go_wp2_with fail
      go_region_held3 (fun w' => w'.cell? (ad.add k) = some (Value.int .u8 (x.toNat : Int)))
        (first
          | go_keep
          | (rw [World.cell?_of_block (hgrow1.block (ad.add k).block (by rw [block_of_add]; simp; omega) (fun e => by have h9 := (hown.lt _ e.symm).1; rw [block_of_add] at h9; omega))]; assumption))
        ((refine step_append_any _ (by rfl) _ _ 22 (by rfl) w.heap.size 5 i0 (.int .u8 0) 1 1 Tryd.underlying22 hi hz0 hz1 hz2 rfl (by decide) _ _ _ (by rfl) ((hown.alloc _).drew) (wr.heap.size + 1) _ 2 2 (Lib.byteCells [hexDig p, hexDig q]) (by rfl) (by exact hrd) (Lib.byteCells_one _) (by unfold maxLen; omega) (by omega) (by simp; omega) ?_; intro v1 w1 hown1 hgrow1 hat1))
      all_goals
        have hown2 : w1.ownsRow w.heap.size 5 1 v1 (hexOf (l.take (k + 1))).length (Lib.byteCells (hexOf (l.take (k + 1)))) := by
          rw [HT.out, Lib.byteCells_append, List.length_append]
          exact hown1
        have hbel2 : Below w.heap.size w w1 := ((hbel.alloc hsz _).drew).grown hgrow1 (by simp; omega) (fun k hk => (hown.lt k hk).1)
        clear hown hown1 hgrow1 hat1 hrd
        go_wp2
        go_roundw
        case rel => exact ⟨k + 1, by omega, by go_num, hown2, hbel2⟩
        case measure => simp [intOf]; omega
    · obtain rfl : k = n := by omega
      have hT : l.take k = l := List.take_of_length_le (by rw [H.out]; exact Nat.le_refl _)
      rw [hT] at hown
      clear hT
      obtain ⟨A2, c2, rfl, hc2⟩ := own_form_cap hown
      have hr2 := Reads.of_own hown
      clear hown
      go_wp2_with fail
      rw [run_back hr2]
      simp only [Result.andThen]
      rw [Oper.upon_value]
      go_wp2
      go_ret
      exact ⟨rfl, hbel⟩
end Go.Proofs.YtibebghnhicmfaaDoor
