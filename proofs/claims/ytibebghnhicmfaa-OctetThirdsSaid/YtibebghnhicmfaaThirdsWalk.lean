/-
  The walk of the law OctetThirds: it returns true and changes nothing that was there, at any two rows of bytes that read as lists. Conditions: none beyond that.
-/
import Derived.Test.YtibebghnhicmfaaCaseWalk
set_option linter.unusedVariables false
namespace Go.Proofs.Ytibebghnhicmfaa
open Go Go.Proofs Go.RowKit Oct

theorem cat_toList (x y : List UInt8) : x ++ y = ((⟨x.toArray⟩ : ByteArray) ++ (⟨y.toArray⟩ : ByteArray)).toList := by
  rw [ByteArray.toList_eq]
  simp

theorem reads_take {w : World} {B n m : Nat} {A : Option Addr} {l : List UInt8} (h : Reads w B 1 A n (Lib.byteCells l)) (hm : m ≤ n) : Reads w B 1 A m (Lib.byteCells (l.take m)) := by
  have hl : l.length = n := by have := h.1; simpa [Lib.byteCells_length] using this
  refine ⟨by rw [Lib.byteCells_length, List.length_take]; omega, fun h0 => ?_⟩
  obtain ⟨ad, h1, h2, h3⟩ := h.2 (by omega)
  refine ⟨ad, h1, h2, fun j u hj => h3 j u ?_⟩
  simp only [Lib.byteCells, List.map_take] at hj ⊢
  rw [List.getElem?_take] at hj
  split at hj
  · exact hj
  · cases hj
theorem owns_empty (w : World) : (w.alloc (.cells #[] 5)).ownsRow w.heap.size 5 1 (.slice (some ⟨w.heap.size, 0, none⟩) 0 0) 0 [] :=
  ⟨rfl, .inr ⟨_, 0, #[], rfl, Nat.le_refl _, heap_alloc_new w _, Nat.le_refl _, by unfold maxLen; omega, rfl, rfl⟩⟩
theorem own_form_cap {w : World} {base size n : Nat} {e : TypeId} {v : Value} {xs : List Value} (h : w.ownsRow base e size v n xs) : ∃ A c, v = .slice A n c ∧ n ≤ c := by
  rcases h.2 with ⟨h1, h2⟩ | ⟨g, cap, cur, hv, _, _, hc, _⟩
  · exact ⟨none, 0, by rw [h1, h2], by omega⟩
  · exact ⟨_, _, hv, hc⟩

set_option maxHeartbeats 1000000 in
set_option maxRecDepth 100000 in
theorem thirds_walk (A1 A2 : Option Addr) (n1 c1 n2 c2 : Nat) (l1 l2 : List UInt8) (w : World) (hr1 : Reads w w.heap.size 1 A1 n1 (Lib.byteCells l1)) (hr2 : Reads w w.heap.size 1 A2 n2 (Lib.byteCells l2)) (hc1 : n1 ≤ c1) (hc2 : n2 ≤ c2) :
    Calls Try.prog 4 #[.slice A1 n1 c1, .slice A2 n2 c2] w fun e w' => e = .returned (.bool true) ∧ Below w.heap.size w w' := by
  by_cases hn1 : 1000 < n1
  · go_enter Try.func4, Try.ntmps4
    go_wp2_with fail
    refine (awake_any w).mono ?_
    rintro e w1 ⟨rfl, hb1⟩
    go_wp2
    go_ret
    exact ⟨rfl, hb1⟩
  · by_cases hn2 : 1000 < n2
    · go_enter Try.func4, Try.ntmps4
      go_wp2_with fail
      refine (awake_any w).mono ?_
      rintro e w1 ⟨rfl, hb1⟩
      go_wp2
      go_ret
      exact ⟨rfl, hb1⟩
    · have h1 : n1 ≤ 1000 := by omega
      have h2 : n2 ≤ 1000 := by omega
      clear hn1 hn2
      have hl1 : l1.length = n1 := by have := hr1.1; simpa [Lib.byteCells_length] using this
      have hm : n1 - n1 % 3 ≤ n1 := by omega
      have hT := reads_take hr1 hm
      have hp := Lib.hid (b64_parts (l1.take (n1 - n1 % 3)) l2 (by rw [List.length_take]; omega))
      have ht : (l1.take (n1 - n1 % 3)).length = n1 - n1 % 3 := by rw [List.length_take]; omega
      obtain ⟨i0, hi, hz0, hz1, hz2⟩ := info_parts infoByte
      generalize l1.take (n1 - n1 % 3) = t1 at *
      have hl2 : l2.length = n2 := by have := hr2.1; simpa [Lib.byteCells_length] using this
      have q1 : (b64 t1).length ≤ 4000 := by have := b64_length t1; omega
      have q2 : (b64 l2).length ≤ 4000 := by have := b64_length l2; omega
      clear hr1 hl1 ht hl2
      go_enter Try.func4, Try.ntmps4
      go_wp2_with (at_builtin; refine wpList_append_any _ rfl (.tmp 22) (.tmp 23) 22 rfl w.heap.size 5 i0 (.int .u8 0) 1 1 Try.underlying22 hi hz0 hz1 hz2 rfl (by decide) _ 0 [] rfl (owns_empty w) w.heap.size A1 (n1 - n1 % 3) c1 (Lib.byteCells t1) rfl (hT.alloc (Nat.le_refl _) _) (Lib.byteCells_one _) ?c3 ?c4 ?c5 ?_)
      case c3 => unfold maxLen; omega
      case c4 => omega
      case c5 => simp
      intro v1 w1 hown1 hgrow1 _
      have hb1 : Below w.heap.size w w1 := ((Below.refl _ _).alloc (Nat.le_refl _) _).grown hgrow1 (by simp) (fun k hk => by simp [Value.ownBlock] at hk; omega)
      clear hgrow1
      have hr3 := hr2.below hb1
      have hbz := hb1.size
      go_wp2_with (at_builtin; refine wpList_append_any _ rfl (.tmp 24) (.tmp 25) 22 rfl w.heap.size 5 i0 (.int .u8 0) 1 1 Try.underlying22 hi hz0 hz1 hz2 rfl (by decide) _ _ _ rfl hown1 w.heap.size A2 n2 c2 (Lib.byteCells l2) rfl hr3 (Lib.byteCells_one _) ?d3 ?d4 ?d5 ?_)
      case d3 => unfold maxLen; omega
      case d4 => omega
      case d5 => exact hbz
      intro v2 w2 hown2 hgrow2 _
      have hb2 : Below w.heap.size w w2 := hb1.grown hgrow2 hbz (fun k hk => (hown1.lt k hk).1)
      rw [← Lib.byteCells_append] at hown2
      clear hgrow2 hown1
      obtain ⟨A3, c3, rfl, hc3⟩ := own_form_cap hown2
      have hr5 := Reads.of_own hown2
      clear hown2
      go_wp2_with fail
      refine (base64_any _ _ _ _ _ hr5 (by omega) hc3).mono ?_
      rintro e w3 ⟨rfl, hb3⟩
      have hb4 := hb2.trans (hb3.mono hb2.size)
      have hz4 := hb4.size
      go_wp2_with fail
      refine (base64_any _ _ _ t1 _ ((hT.below hb4).more hz4) (by omega) (by omega)).mono ?_
      rintro e w5 ⟨rfl, hb5⟩
      have hb6 := hb4.trans (hb5.mono hz4)
      have hz6 := hb6.size
      go_wp2_with fail
      refine (base64_any _ _ _ l2 _ ((hr2.below hb6).more hz6) (by omega) (by omega)).mono ?_
      rintro e w7 ⟨rfl, hb7⟩
      have hb8 := hb6.trans (hb7.mono hz6)
      have hz8 := hb8.size
      rw [hp.out]
      have hcat := cat_toList (b64 t1) (b64 l2)
      go_wp2_with fail
      refine (awake_any w7).mono ?_
      rintro e w9 ⟨rfl, hb9⟩
      go_wp2
      go_ret
      exact ⟨rfl, hb8.trans (hb9.mono hz8)⟩
end Go.Proofs.Ytibebghnhicmfaa
