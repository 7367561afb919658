/-
  The library's bytes.Equal, HasPrefix, CutPrefix, IndexByte, Index and Cut at a prefix or a separator of one byte, over bytes that read as a list. Conditions: lengths up to 2^40.
-/
import Derived.Test.YtjdmhbfddklhnaaDoorStr
import Derived.Laws.Externs
import Derived.Shelf.Bytes.SlIndexAt
import Derived.Lib.IndexLaws
set_option linter.unusedSimpArgs false
set_option linter.unusedVariables false
namespace Go.Proofs.YtjdmhbfddklhnaaDoor
open Go Go.Proofs Go.RowKit

theorem cut_list (l : List UInt8) : (⟨l.toArray⟩ : ByteArray).toList = l := by rw [ByteArray.toList_eq]

/-- The front of what reads as a list. -/
theorem Reads.take {w : World} {B n k : Nat} {A : Option Addr} {xs : List Value} (h : Reads w B 1 A n xs) (hk : k ≤ n) : Reads w B 1 A k (xs.take k) := by
  refine ⟨by rw [List.length_take, h.1]; omega, fun h0 => ?_⟩
  obtain ⟨ad, e, hb, hc⟩ := h.2 (by omega)
  refine ⟨ad, e, hb, fun j u hu => hc j u ?_⟩
  rw [List.getElem?_take] at hu
  split at hu
  · exact hu
  · cases hu

theorem equal_any (A A' : Option Addr) (n c n' c' B B' : Nat) (l l' : List UInt8) (w : World) (h : Reads w B 1 A n (Lib.byteCells l)) (h' : Reads w B' 1 A' n' (Lib.byteCells l')) :
    Calls Tryd.prog 88 #[.slice A n c, .slice A' n' c'] w fun e w' => e = .returned (.bool (l == l')) ∧ w' = w := by
  have k1 := run_back (c := c) h
  have k2 := run_back (c := c') h'
  have s1 := cut_list l
  have s2 := cut_list l'
  generalize (⟨l.toArray⟩ : ByteArray) = S at k1 s1
  generalize (⟨l'.toArray⟩ : ByteArray) = S' at k2 s2
  obtain ⟨b, hb⟩ : ∃ b, (l == l') = b := ⟨_, rfl⟩
  have hq : (S.toList == S'.toList) = b := by rw [s1, s2]; exact hb
  rw [hb]
  clear s1 s2 hb
  go_enter Tryd.func88, Tryd.ntmps88
  go_wp2
  go_ret
  exact ⟨rfl, rfl⟩

def cutBack (A : Option Addr) (n c k : Nat) : Value := .slice (if c = k then A else A.map (·.add k)) (n - k) (c - k)

set_option maxRecDepth 100000 in
theorem hasPrefix_one (A A' : Option Addr) (n c c' B B' : Nat) (l : List UInt8) (x : UInt8) (w : World) (h : Reads w B 1 A n (Lib.byteCells l)) (h' : Reads w B' 1 A' 1 (Lib.byteCells [x])) (hn : n ≤ c) :
    Calls Tryd.prog 84 #[.slice A n c, .slice A' 1 c'] w fun e w' => e = .returned (.bool (l.head? == some x)) ∧ w' = w := by
  have hl : l.length = n := by have := h.1; simpa [Lib.byteCells_length] using this
  cases l with
  | nil =>
    obtain rfl : n = 0 := hl.symm
    go_enter Tryd.func84, Tryd.ntmps84
    go_wp2_with fail
    go_ret
    exact ⟨rfl, rfl⟩
  | cons y r =>
    have h1 : 1 ≤ n := by rw [← hl]; simp
    have ht : Reads w B 1 A 1 (Lib.byteCells [y]) := by
      have := h.take h1
      simpa [Lib.byteCells] using this
    have HT := Lib.hid ht
    clear ht
    obtain ⟨b, hb⟩ : ∃ b, (([y] : List UInt8) == [x]) = b := ⟨_, rfl⟩
    have hb2 : ((y :: r).head? == some x) = b := by
      rw [← hb]
      rw [Bool.eq_iff_iff, beq_iff_eq, beq_iff_eq]
      simp
    rw [hb2]
    have HB := Lib.hid hb
    clear hb hb2 hl
    obtain ⟨m, hm⟩ : ∃ m, n = m + 1 := ⟨n - 1, by omega⟩
    go_enter Tryd.func84, Tryd.ntmps84
    go_wp2_with (go_at_call 88; refine (equal_any A A' 1 c 1 c' B B' [y] [x] _ HT.out h').mono ?_; rintro e w1 ⟨rfl, rfl⟩; rw [HB.out])
    go_ret
    exact ⟨rfl, rfl⟩

set_option maxRecDepth 100000 in
theorem cutPrefix_one (A A' : Option Addr) (n c c' B B' : Nat) (l : List UInt8) (x : UInt8) (w : World) (h : Reads w B 1 A n (Lib.byteCells l)) (h' : Reads w B' 1 A' 1 (Lib.byteCells [x])) (hn : n ≤ c) :
    Calls Tryd.prog 76 #[.slice A n c, .slice A' 1 c'] w fun e w' => e = .returned (.tuple #[if (l.head? == some x) = true then cutBack A n c 1 else .slice A n c, .bool (l.head? == some x)]) ∧ w' = w := by
  have hl : l.length = n := by have := h.1; simpa [Lib.byteCells_length] using this
  have hp := hasPrefix_one A A' n c c' B B' l x w h h' hn
  have HP := Lib.hid hp
  clear hp
  have hb1 : (l.head? == some x) = true → 1 ≤ n := by
    intro e
    cases l with
    | nil => cases e
    | cons y r => rw [← hl]; simp
  generalize (l.head? == some x) = b at HP hb1
  clear hl
  cases b with
  | false =>
    go_enter Tryd.func76, Tryd.ntmps76
    go_wp2_with (go_at_call 84; refine HP.out.mono ?_; rintro e w1 ⟨rfl, rfl⟩)
    go_ret2
    exact ⟨rfl, rfl⟩
  | true =>
    have h1 := hb1 rfl
    clear hb1
    go_enter Tryd.func76, Tryd.ntmps76
    by_cases hc : c = 1
    · subst hc
      obtain rfl : n = 1 := by omega
      go_wp2_with (go_at_call 84; refine HP.out.mono ?_; rintro e w1 ⟨rfl, rfl⟩)
      go_ret2
      exact ⟨rfl, rfl⟩
    · have hcc := Lib.hid hc
      go_wp2_with (go_at_call 84; refine HP.out.mono ?_; rintro e w1 ⟨rfl, rfl⟩)
      go_ret2
      refine ⟨?_, rfl⟩
      have hc1 := hcc.out
      simp [cutBack, hc1, Addr.add]

theorem idx_run (A : Option Addr) (n c B : Nat) (l : List UInt8) (x : UInt8) (w : World) (h : Reads w B 1 A n (Lib.byteCells l)) :
    (callFunc 93 #[.slice A n c, .int .u8 x.toNat]).run Tryd.prog w = .ok (.value (.int .i64 (Lib.indexByte l x))) w := by
  have hl : l.length = n := by have := h.1; simpa [Lib.byteCells_length] using this
  have hxs : Lib.bytesOf (l.map fun u => (u.toNat : Int)) = l := by
    unfold Lib.bytesOf
    rw [List.map_map]
    conv => rhs; rw [← List.map_id l]
    apply List.map_congr_left
    intro u _
    simp
  rw [run_callFunc_extern Tryd.func93 (by kernel_rfl) (by kernel_rfl) (by kernel_rfl) (e := Extern.BytealgIndexByte.indexByte) (by kernel_rfl)]
  cases A with
  | none =>
    have h0 : n = 0 := by
      rcases Nat.eq_zero_or_pos n with h0 | h0
      · exact h0
      · obtain ⟨ad, e, _⟩ := h.2 h0
        cases e
    subst h0
    obtain rfl : l = [] := List.eq_nil_of_length_eq_zero hl
    rfl
  | some a =>
    have hc : ∀ i, i < n → w.cell? (a.add i) = some (.int .u8 ((l.map fun u => (u.toNat : Int)).getD i 0)) := by
      intro i hi
      obtain ⟨ad, u, e, _, hu, hcell⟩ := h.at_ hi
      injection e with e
      subst e
      rw [hcell]
      have hil : i < l.length := by omega
      simp [Lib.byteCells, List.getElem?_map, List.getElem?_eq_getElem hil] at hu
      subst hu
      simp [List.getD, List.getElem?_map, List.getElem?_eq_getElem hil]
    rw [Lib.run_indexByteAt w a n c (l.map fun u => (u.toNat : Int)) (by rw [List.length_map, hl]) hc, hxs]
    simp

theorem indexByte_any (A : Option Addr) (n c B : Nat) (l : List UInt8) (x : UInt8) (w : World) (h : Reads w B 1 A n (Lib.byteCells l)) :
    Calls Tryd.prog 89 #[.slice A n c, .int .u8 x.toNat] w fun e w' => e = .returned (.int .i64 (Lib.indexByte l x)) ∧ w' = w := by
  have hr := idx_run A n c B l x w h
  generalize Lib.indexByte l x = i at hr
  go_enter Tryd.func89, Tryd.ntmps89
  go_wp2
  go_ret
  exact ⟨rfl, rfl⟩

set_option maxHeartbeats 2000000 in
set_option maxRecDepth 1000000 in
theorem index_one (A A' : Option Addr) (n c c' B B' : Nat) (l : List UInt8) (x : UInt8) (w : World) (h : Reads w B 1 A n (Lib.byteCells l)) (h' : Reads w B' 1 A' 1 (Lib.byteCells [x])) :
    Calls Tryd.prog 85 #[.slice A n c, .slice A' 1 c'] w fun e w' => e = .returned (.int .i64 (Lib.indexByte l x)) ∧ w' = w := by
  have hi := indexByte_any A n c B l x w h
  have HI := Lib.hid hi
  clear hi
  generalize Lib.indexByte l x = i at HI
  obtain ⟨a', rfl, hcell⟩ : ∃ a', A' = some a' ∧ w.cell? a' = some (.int .u8 x.toNat) := by
    obtain ⟨ad, u, e, _, hu, hc⟩ := h'.at_ (k := 0) (by omega)
    refine ⟨ad, e, ?_⟩
    simp [Lib.byteCells] at hu
    subst hu
    rw [← hc]
    simp [Addr.add]
  clear h h'
  go_enter Tryd.func85, Tryd.ntmps85
  go_wp2_with (go_at_call 89; refine HI.out.mono ?_; rintro e w1 ⟨rfl, rfl⟩)
  go_ret
  exact ⟨rfl, rfl⟩

/-- What bytes.Cut answers at a separator of one byte. -/
inductive CutAt (A : Option Addr) (n c : Nat) (l : List UInt8) (x : UInt8) : Value → Prop where
  | whole (h : ∀ u ∈ l, u ≠ x) : CutAt A n c l x (.tuple #[.slice A n c, .slice none 0 0, .bool false])
  | parts (i : Nat) (hi : i < n) (h : ∀ u ∈ l.take i, u ≠ x) (hl : l = l.take i ++ x :: l.drop (i + 1)) : CutAt A n c l x (.tuple #[.slice A i c, cutBack A n c (i + 1), .bool true])

set_option maxHeartbeats 2000000 in
set_option maxRecDepth 1000000 in
theorem cut_one (A A' : Option Addr) (n c c' B B' : Nat) (l : List UInt8) (x : UInt8) (w : World) (h : Reads w B 1 A n (Lib.byteCells l)) (h' : Reads w B' 1 A' 1 (Lib.byteCells [x])) (hn : n ≤ c) (h40 : n ≤ 1099511627776) :
    Calls Tryd.prog 77 #[.slice A n c, .slice A' 1 c'] w fun e w' => ∃ v, e = .returned v ∧ CutAt A n c l x v ∧ Below w.heap.size w w' := by
  have hl : l.length = n := by have := h.1; simpa [Lib.byteCells_length] using this
  have hi := index_one A A' n c c' B B' l x w h h'
  have HI := Lib.hid hi
  clear hi
  rcases Int.lt_or_le (Lib.indexByte l x) 0 with h0 | h0
  · have h1 : Lib.indexByte l x = -1 := by have := Lib.indexByte_ge l x; omega
    have hne : Hid (∀ u ∈ l, u ≠ x) := by
      intro u hu e
      subst e
      obtain ⟨k, hk, hk2⟩ := List.getElem_of_mem hu
      exact Lib.indexByte_none h1 k (by rw [List.getElem?_eq_getElem hk, hk2])
    rw [h1] at HI
    clear h0 h1 hl
    go_enter Tryd.func77, Tryd.ntmps77
    go_wp2_with (go_at_call 85; refine HI.out.mono ?_; rintro e w1 ⟨rfl, rfl⟩)
    go_ret3
    exact ⟨_, rfl, .whole hne.out, Below.refl _ _⟩
  · obtain ⟨i, hie⟩ : ∃ i : Nat, Lib.indexByte l x = i := ⟨(Lib.indexByte l x).toNat, by omega⟩
    obtain ⟨k1, k2⟩ := Lib.indexByte_some hie
    have hil : i < l.length := by
      rcases Nat.lt_or_ge i l.length with h2 | h2
      · exact h2
      · rw [List.getElem?_eq_none h2] at k1; cases k1
    have hx : l[i] = x := by
      rw [List.getElem?_eq_getElem hil] at k1
      injection k1
    have H1 : Hid (∀ u ∈ l.take i, u ≠ x) := by
      intro u hu e
      subst e
      obtain ⟨k, hk, hk2⟩ := List.getElem_of_mem hu
      have hki : k < i := by rw [List.length_take] at hk; omega
      refine k2 k hki ?_
      rw [List.getElem_take] at hk2
      rw [List.getElem?_eq_getElem (by omega), hk2]
    have H2 : Hid (l = l.take i ++ x :: l.drop (i + 1)) := by
      show l = _
      have e := List.drop_eq_getElem_cons hil
      rw [hx] at e
      rw [← e, List.take_append_drop]
    have hin : i < n := by omega
    rw [hie] at HI
    clear h0 hie k1 k2 hx hil hl
    obtain ⟨j, hj⟩ : ∃ j, j = i + 1 := ⟨_, rfl⟩
    have hjn : j ≤ n := by omega
    have hj0 : 0 < j := by omega
    have hji : (i : Int) + 1 = j := by omega
    have HJ := Lib.hid hj
    clear hj
    by_cases hc : c = j
    · have hnj : n = j := by omega
      subst hnj
      subst hc
      go_enter Tryd.func77, Tryd.ntmps77
      go_wp2_with (go_at_call 85; refine HI.out.mono ?_; rintro e w1 ⟨rfl, rfl⟩)
      go_region
      all_goals go_wp2
      all_goals go_ret3
      all_goals refine ⟨_, rfl, ?_, (Below.refl _ _).drew⟩
      all_goals have hp := CutAt.parts (A := A) (c := c) i hin H1.out H2.out
      all_goals rw [← HJ.out] at hp
      all_goals simpa [cutBack] using hp
    · have hcc := Lib.hid hc
      go_enter Tryd.func77, Tryd.ntmps77
      go_wp2_with (go_at_call 85; refine HI.out.mono ?_; rintro e w1 ⟨rfl, rfl⟩)
      go_region
      all_goals go_wp2
      all_goals go_ret3
      all_goals refine ⟨_, rfl, ?_, (Below.refl _ _).drew⟩
      all_goals have hp := CutAt.parts (A := A) (c := c) i hin H1.out H2.out
      all_goals rw [← HJ.out] at hp
      all_goals unfold cutBack at hp
      all_goals rw [if_neg hcc.out] at hp
      all_goals simpa using hp
end Go.Proofs.YtjdmhbfddklhnaaDoor
