/-
  The contracts of the law file's great and of the document's Join (package greffierref04), and rows of bytes that came in. Conditions: at most 2^38 bytes.
-/
import Derived.Test.YtblielcmjdnlfaaShaNilW
import Derived.Test.YtblielcmjdnlfaaRowBytes
import Derived.Deep.Matrix
set_option linter.unusedVariables false
set_option linter.unusedSimpArgs false
namespace Go.Proofs.Ytblielcmjdnlfaa
open Go Go.Proofs Go.RowKit Sha5

def rowsOf (len : Nat) (L : Nat → Nat) (Z : Nat → List Int) : List (List UInt8) := (List.range len).map fun r => bytesOf (L r) (Z r)
theorem rowsOf_get (len : Nat) (L : Nat → Nat) (Z : Nat → List Int) (i : Nat) (hi : i < len) : (rowsOf len L Z).getD i [] = bytesOf (L i) (Z i) := by
  simp [rowsOf, List.getD, hi]
theorem rowsR_of {w : World} {a : Addr} {len cap : Nat} {A : Nat → Option Addr} {L C : Nat → Nat} {Z : Nat → List Int} (hlc : len ≤ cap)
    (h : ∀ r, r < cap → w.cell? (a.add r) = some (.slice (A r) (L r) (C r)) ∧ L r ≤ C r ∧ C r ≤ maxLen ∧ (Z r).length = C r ∧ (∀ n ∈ Z r, (Lit.int .u8 n).wf = true) ∧ (A r = none → C r = 0) ∧
      ∀ a', A r = some a' → ∀ c, c < C r → w.cell? (a'.add c) = some (.int .u8 ((Z r).getD c 0))) : RowsR w w.heap.size (some a) len (rowsOf len L Z) := by
  refine ⟨by simp [rowsOf], fun i hi => ?_⟩
  obtain ⟨h1, h2, h3, h4, h5, h6, h7⟩ := h i (by omega)
  have hrow : IsRow .u8 w (A i) (L i) (C i) (Z i) := by
    cases hA : A i with
    | none =>
      have hC := h6 hA
      exact .inl ⟨rfl, by omega, hC, List.eq_nil_of_length_eq_zero (by omega)⟩
    | some x => exact .inr ⟨x, rfl, h2, h3, h4, fun c hc => h7 x hA c (by omega), h5⟩
  obtain ⟨r1, r2, r3⟩ := reads_of_row hrow
  have hlt := World.block_lt_of_cell? w _ h1
  rw [block_of_add] at hlt
  exact ⟨a, A i, L i, C i, rfl, hlt, h1, by rw [rowsOf_get len L Z i hi]; exact r1, r2⟩

theorem RowsR.reads_len {w : World} {B n : Nat} {A : Option Addr} {ls : List (List UInt8)} (h : RowsR w B A n ls) (i : Nat) (hi : i < n) : ∃ ad Ai ni ci, A = some ad ∧ ad.block < B ∧ w.cell? (ad.add i) = some (.slice Ai ni ci) ∧ Reads w B 1 Ai ni (Lib.byteCells (ls.getD i [])) ∧ ni ≤ ci ∧ (ls.getD i []).length = ni := by
  obtain ⟨ad, Ai, ni, ci, h1, h2, h3, h4, h5⟩ := h.2 i hi
  exact ⟨ad, Ai, ni, ci, h1, h2, h3, h4, h5, by have := h4.1; simpa [Lib.byteCells_length] using this⟩

def GreatEnd (n : Nat) (ls : List (List UInt8)) (w : World) (e : Ending) (w' : World) : Prop := ∃ b : Bool, e = .returned (.bool b) ∧ w = w' ∧ (b = false → ls.flatten.length ≤ 2000 ∧ n ≤ 100)

set_option maxHeartbeats 2000000 in
set_option maxRecDepth 100000 in
theorem great_any (A : Option Addr) (n c B : Nat) (ls : List (List UInt8)) (w : World) (hr : RowsR w B A n ls) (hn : n ≤ 9223372036854775807) (hl : ∀ i, i < n → (ls.getD i []).length ≤ 9223372036854775807) :
    Calls Try.prog 7 #[.slice A n c] w (GreatEnd n ls w) := by
  have HR := Lib.hid hr
  have HLS := Lib.hid hr.1
  have HLL := Lib.hid hl
  clear hr hl
  go_enter Try.func7, Try.ntmps7
  go_wp2_with fail
  go_loopg [3, 4] n (fun gh sv iv wr => ∃ k s : Nat, gh + k = n ∧ iv = .int .i64 (k : Nat) ∧ sv = .int .i64 (s : Nat) ∧ s ≤ 5000 ∧ (s ≤ 2000 → (ls.take k).flatten.length = s) ∧ wr = w)
  case atStart => exact ⟨0, 0, by omega, rfl, rfl, by omega, fun _ => rfl, rfl⟩
  case round =>
    obtain ⟨k, s, hk0, rfl, rfl, hs5, hs2, rfl⟩ := hrel
    have HK0 := Lib.hid hk0
    have HS2 := Lib.hid hs2
    clear hk0 hs2
    by_cases hlt : k < n
    · by_cases hs : s ≤ 2000
      · obtain ⟨ad, Ai, ni, ci, rfl, h2, h3, h4, h5, h6⟩ := HR.out.reads_len k hlt
        have hnl := HLL.out k hlt
        rw [h6] at hnl
        have hft := flatten_take ls k (by rw [HLS.out]; exact hlt)
        have HF : Hid ((ls.take (k + 1)).flatten.length = s + ni) := by
          show _ = _
          rw [hft, List.length_append, h6, HS2.out hs]
        clear hft h6 h4
        have hs20 : decide ((s : Int) ≤ 2000) = true := by simp; omega
        by_cases hm : ni ≤ 3000
        · have hmin : min (ni : Int) 3000 = (ni : Int) := by omega
          go_wp2_with fail
          go_roundg (gk - 1)
          case measure => have := HK0.out; omega
          case rel => exact ⟨k + 1, s + ni, by have := HK0.out; omega, by go_num, by go_num, by omega, fun _ => HF.out, rfl⟩
        · have hmin : min (ni : Int) 3000 = 3000 := by omega
          go_wp2_with fail
          go_roundg (gk - 1)
          case measure => have := HK0.out; omega
          case rel => exact ⟨k + 1, s + 3000, by have := HK0.out; omega, by go_num, by go_num, by omega, fun h => absurd h (by omega), rfl⟩
      · have hs20 : decide ((s : Int) ≤ 2000) = false := by simp; omega
        go_wp2
        go_ret
        exact ⟨true, rfl, rfl, fun h => by cases h⟩
    · obtain rfl : k = n := by have := HK0.out; omega
      have hall : (ls.take k).flatten = ls.flatten := by rw [List.take_of_length_le (by rw [HLS.out]; omega)]
      have HA : Hid (s ≤ 2000 → ls.flatten.length = s) := Lib.hid fun h => by rw [← hall]; exact HS2.out h
      clear hall
      by_cases hs : s ≤ 2000
      · by_cases hk : k ≤ 100
        · have hk1 : decide (100 < (k : Int)) = false := by simp; omega
          have hs1 : decide (2000 < (s : Int)) = false := by simp; omega
          go_wp2
          go_ret
          exact ⟨false, rfl, rfl, fun _ => ⟨by have := HA.out hs; omega, hk⟩⟩
        · have hk1 : decide (100 < (k : Int)) = true := by simp; omega
          have hs1 : decide (2000 < (s : Int)) = false := by simp; omega
          go_wp2
          go_ret
          exact ⟨true, rfl, rfl, fun h => by cases h⟩
      · have hs1 : decide (2000 < (s : Int)) = true := by simp; omega
        go_wp2
        go_ret
        exact ⟨true, rfl, rfl, fun h => by cases h⟩

set_option maxHeartbeats 2000000 in
set_option maxRecDepth 100000 in
theorem join_any (A : Option Addr) (n c B : Nat) (ls : List (List UInt8)) (w : World) (hr : RowsR w B A n ls) (hB : B ≤ w.heap.size) (hN : ls.flatten.length ≤ 274877906944) (hn : n ≤ 4611686018427387904) :
    Calls Try.prog 11 #[.slice A n c] w (GrowEnd w.heap.size ls.flatten w) := by
  have HR := Lib.hid hr
  have HLS := Lib.hid hr.1
  clear hr
  obtain ⟨i0, hi, hz0, hz1, hz2⟩ := info_parts infoByte
  have hoe := Lib.hid (owns_empty w)
  have hbe : Hid (Below w.heap.size w (w.alloc (.cells #[] 5))) := Lib.hid ((Below.refl _ _).alloc (Nat.le_refl _) _)
  go_enter Try.func11, Try.ntmps11
  go_wp2_with fail
  go_loopg [3, 4, 8] n (fun gh vv _ iv wr => ∃ k : Nat, gh + k = n ∧ iv = .int .i64 (k : Nat) ∧ wr.ownsRow w.heap.size 5 1 vv (ls.take k).flatten.length (Lib.byteCells (ls.take k).flatten) ∧ Below w.heap.size w wr)
  case atStart => exact ⟨0, by omega, rfl, hoe.out, hbe.out⟩
  case round =>
    obtain ⟨k, hk0, rfl, hown, hbel⟩ := hrel
    have HK0 := Lib.hid hk0
    clear hk0
    have hsz := hbel.size
    by_cases hlt : k < n
    · obtain ⟨ad, Ai, ni, ci, rfl, h2, h3, h4, h5, h6⟩ := (HR.out.old hbel hB).reads_len k hlt
      have hft := flatten_take ls k (by rw [HLS.out]; exact hlt)
      have hfl := flatten_le ls (k + 1)
      have hfl2 := hft
      have hlen : (ls.take (k + 1)).flatten.length = (ls.take k).flatten.length + ni := by rw [hft, List.length_append, h6]
      rw [hlen] at hfl
      have HFT := Lib.hid hft
      have HLEN := Lib.hid hlen
      have HRD := Lib.hid h4
      clear hft hfl2 hlen h6 h4
      go_wp2_with (at_builtin; refine wpList_append_any _ rfl (.tmp 11) (.tmp 15) 27 rfl w.heap.size 5 i0 (.int .u8 0) 1 1 Try.underlying27 hi hz0 hz1 hz2 rfl (by decide) _ _ _ rfl hown B Ai ni ci (Lib.byteCells (ls.getD k [])) rfl HRD.out (Lib.byteCells_one _) (by unfold maxLen; omega) (by omega) hsz ?_)
      intro v4 w4 ho4 hg4 _
      have hb4 : Below w.heap.size w w4 := hbel.grown hg4 hsz (fun j hj => (hown.lt j hj).1)
      have ho5 : Hid (w4.ownsRow w.heap.size 5 1 v4 (ls.take (k + 1)).flatten.length (Lib.byteCells (ls.take (k + 1)).flatten)) := by
        show World.ownsRow _ _ _ _ _ _ _
        rw [HLEN.out, HFT.out, Lib.byteCells_append, List.getD_eq_getElem?_getD, List.length_flatten, List.map_take]; exact ho4
      clear ho4 hg4 hown
      go_wp2_with fail
      go_roundg (gk - 1)
      case measure => have := HK0.out; omega
      case rel => exact ⟨k + 1, by have := HK0.out; omega, by go_num, ho5.out, hb4⟩
    · obtain rfl : k = n := by have := HK0.out; omega
      have hall : (ls.take k).flatten = ls.flatten := by rw [List.take_of_length_le (by rw [HLS.out]; omega)]
      have HO : Hid (wr.ownsRow w.heap.size 5 1 u3 ls.flatten.length (Lib.byteCells ls.flatten)) := by
        show World.ownsRow _ _ _ _ _ _ _
        rw [← hall]; exact hown
      clear hown hall
      go_wp2
      go_ret
      exact ⟨u3, rfl, HO.out, hbel⟩
end Go.Proofs.Ytblielcmjdnlfaa
