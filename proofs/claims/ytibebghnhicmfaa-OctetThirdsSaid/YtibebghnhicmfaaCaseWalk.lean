/-
  The walk of the law OctetCase: it returns true and changes nothing that was there, at any bytes that read as a list. Conditions: none beyond that.
-/
import Derived.Test.YtibebghnhicmfaaAwake
import Derived.Lib.SmallJoins
set_option linter.unusedVariables false
namespace Go.Proofs.Ytibebghnhicmfaa
open Go Go.Proofs Go.RowKit Oct

def HoldsBytes (g S : Nat) (L : List UInt8) (w : World) : Prop := ∃ cs : Array Value, cs.size = S ∧ L.length ≤ S ∧ w.heap[g]? = some (.cells cs 5 (S, S + 1)) ∧ ∀ j (h : j < L.length), cs[j]? = some (.int .u8 L[j].toNat)

theorem HoldsBytes.cell {g S : Nat} {L : List UInt8} {w : World} (h : HoldsBytes g S L w) {j : Nat} (hj : j < L.length) : w.cell? ⟨g, j, none⟩ = some (.int .u8 L[j].toNat) := by
  obtain ⟨cs, h1, h2, h3, h4⟩ := h
  rw [Lib.cell_of_heap h3]; exact h4 j hj
theorem HoldsBytes.frozen {g S : Nat} {L : List UInt8} {w : World} (h : HoldsBytes g S L w) {j : Nat} (hj : j < L.length) : w.frozen? ⟨g, j, none⟩ = false := by
  obtain ⟨cs, h1, h2, h3, h4⟩ := h
  simp [World.frozen?, h3]; omega
theorem HoldsBytes.set_ {g S : Nat} {L : List UInt8} {w : World} (h : HoldsBytes g S L w) {j : Nat} (hj : j < L.length) (x : UInt8) : HoldsBytes g S (L.set j x) (w.setCell ⟨g, j, none⟩ (.int .u8 x.toNat)) := by
  obtain ⟨cs, h1, h2, h3, h4⟩ := h
  refine ⟨cs.setIfInBounds j (.int .u8 x.toNat), by simpa using h1, by simpa using h2, Joins.block_setCell h3 _, ?_⟩
  intro i hi
  have hi' : i < L.length := by simpa using hi
  rw [Array.getElem?_setIfInBounds, List.getElem_set]
  by_cases e : j = i
  · subst e
    rw [if_pos rfl, if_pos rfl, if_pos (by omega)]
  · rw [if_neg e, if_neg e]
    exact h4 i hi'
theorem HoldsBytes.reads {g S : Nat} {L : List UInt8} {w : World} (h : HoldsBytes g S L w) : Reads w w.heap.size 1 (some ⟨g, 0, none⟩) L.length (Lib.byteCells L) := by
  obtain ⟨cs, h1, h2, h3, h4⟩ := h
  refine ⟨by rw [Lib.byteCells_length, Nat.mul_one], fun _ => ⟨_, rfl, ?_, ?_⟩⟩
  · rcases Nat.lt_or_ge g w.heap.size with h' | h'
    · exact h'
    · simp [Array.getElem?_eq_none h'] at h3
  · intro j u hu
    have hj : j < L.length := by
      have := (List.getElem?_eq_some_iff.1 hu).1
      simpa [Lib.byteCells_length] using this
    have hu' : u = .int .u8 L[j].toNat := by
      simp [Lib.byteCells, List.getElem?_map, List.getElem?_eq_getElem hj] at hu
      exact hu.symm
    subst hu'
    have e : (⟨g, 0, none⟩ : Addr).add j = ⟨g, j, none⟩ := by unfold Addr.add; split <;> simp_all
    rw [e, Lib.cell_of_heap h3]; exact h4 j hj
theorem HoldsBytes.new (w : World) (s : ByteArray) : HoldsBytes w.heap.size (Lib.bytesCells w 5 s).size s.data.toList (Lib.bytesWorld w 5 s) := by
  have hsz : s.data.toList.length ≤ (Lib.bytesCells w 5 s).size := by simp [Lib.bytesCells]
  refine ⟨_, rfl, hsz, Lib.bytesWorld_at_new w 5 s, ?_⟩
  intro j hj
  have hj' : j < s.size := by simpa using hj
  have := Lib.bytesWorld_cell w 5 s j hj'
  rw [Lib.cell_of_heap (Lib.bytesWorld_at_new w 5 s)] at this
  rw [this]
  simp [List.getD, List.getElem?_eq_getElem hj]
theorem bytesWorld_below (w : World) (s : ByteArray) : Below w.heap.size w (Lib.bytesWorld w 5 s) :=
  ⟨by simp [Lib.bytesWorld, World.freeze, World.alloc, World.drew, -World.alloc_eq, -World.drew_eq], by simp [Lib.bytesWorld, World.freeze, World.alloc, World.drew, -World.alloc_eq, -World.drew_eq], by simp [Lib.bytesWorld, World.freeze, World.alloc, World.drew, -World.alloc_eq, -World.drew_eq], by rw [Lib.bytesWorld_size]; omega, fun k hk => Lib.bytesWorld_at_old w 5 s k hk⟩

theorem own_form {w : World} {base size n : Nat} {e : TypeId} {v : Value} {xs : List Value} (h : w.ownsRow base e size v n xs) : ∃ A c, v = .slice A n c := by
  rcases h.2 with ⟨h1, h2⟩ | ⟨g, cap, cur, hv, _⟩
  · exact ⟨none, 0, by rw [h1, h2]⟩
  · exact ⟨_, _, hv⟩

theorem map_hexV_set (L : List UInt8) (k : Nat) (h : k < L.length) (hx : 97 ≤ L[k].toNat ∧ L[k].toNat ≤ 102) : (L.set k (L[k].toNat - 32).toUInt8).map hexV = L.map hexV := by
  rw [List.map_set, hexV_up L[k].toNat L[k].toNat_lt hx]
  have e : hexV L[k].toNat.toUInt8 = (L.map hexV)[k]'(by simpa using h) := by simp
  rw [e, List.set_getElem_self]

set_option maxHeartbeats 1000000 in
set_option maxRecDepth 100000 in
theorem case_walk (A : Option Addr) (n c : Nat) (l : List UInt8) (z : Int) (w : World) (hr : Reads w w.heap.size 1 A n (Lib.byteCells l)) (hz : 0 ≤ z) :
    Calls Try.prog 3 #[.slice A n c, .int .u64 z] w fun e w' => e = .returned (.bool true) ∧ Below w.heap.size w w' := by
  by_cases hn : 1000 < n
  · go_enter Try.func3, Try.ntmps3
    go_wp2_with fail
    refine (awake_any w).mono ?_
    rintro e w1 ⟨rfl, hb1⟩
    go_wp2
    go_ret
    exact ⟨rfl, hb1⟩
  · have hn' : n ≤ 1000 := by omega
    have hl : l.length = n := by have := hr.1; simpa [Lib.byteCells_length] using this
    have hL := hexOf_length l
    have hU := unhex_hex l
    have hBN := fun W => HoldsBytes.new W ⟨(hexOf l).toArray⟩
    have hsz : (⟨(hexOf l).toArray⟩ : ByteArray).size = 2 * n := by rw [← hl, ← hL]; rfl
    have HN := Lib.hid hn; have HL := Lib.hid hl; have HL2 := Lib.hid hL; have HU := Lib.hid hU; have HBN := Lib.hid hBN; have HSZ := Lib.hid hsz
    clear hn hl hL hU hBN hsz
    go_enter Try.func3, Try.ntmps3
    go_wp2_with fail
    refine (hex_any A n c l w hr (by omega)).mono ?_
    rintro e w1 ⟨rfl, hb1⟩
    go_wp2_with fail
    rw [Lib.run_convert_string_bytes w1 9 22 5 _ Try.underlying9 Try.underlying22 Try.underlying5]
    simp only [Result.andThen]
    rw [Oper.upon_value]
    have hB : HoldsBytes w1.heap.size _ (hexOf l) _ := HBN.out w1
    have hb2 := bytesWorld_below w1 ⟨(hexOf l).toArray⟩
    generalize (Lib.bytesCells w1 5 ⟨(hexOf l).toArray⟩).size = S at *
    generalize Lib.bytesWorld w1 5 ⟨(hexOf l).toArray⟩ = w2 at *
    generalize grownCap w1 _ 0 5 = cap at *
    rw [HSZ.out]
    have hg1 := hb1.size
    generalize w1.heap.size = g at *
    generalize hexOf l = H at *
    go_wp2_with fail
    go_loopw [6] (fun i wr => ∃ (k : Nat) (L : List UInt8), k ≤ 2 * n ∧ i = .int .i64 k ∧ HoldsBytes g S L wr ∧ L.length = 2 * n ∧ L.map hexV = H.map hexV ∧ Below w.heap.size w wr) (fun i _ => 2 * n - (intOf i).toNat)
    case atStart => exact ⟨0, H, by omega, rfl, hB, by rw [HL2.out, HL.out], rfl, hb1.trans (hb2.mono hg1)⟩
    case round =>
      obtain ⟨k, L, hk, rfl, hHB, hLl, hLv, hbel⟩ := hrel
      clear hB hb1 hb2
      by_cases hlt : k < 2 * n
      · have hkL : k < L.length := by omega
        have hc := hHB.cell hkL
        have hf := hHB.frozen hkL
        have hset := hHB.set_ hkL
        have hmap := map_hexV_set L k hkL
        obtain ⟨x, hx⟩ : ∃ x, x = L[k] := ⟨_, rfl⟩
        rw [← hx] at hc hmap
        have HX := Lib.hid hx; have HM := Lib.hid hmap; have HS := Lib.hid hset; have HLL := Lib.hid hLl; have HLV := Lib.hid hLv
        clear hx hmap hset hLl hLv
        go_wp2_with fail
        all_goals first
          | exact ⟨⟨k + 1, L, by omega, by go_num, hHB, HLL.out, HLV.out, hbel⟩, by simp [intOf]; omega⟩
          | (have h1 : (97 : Int) ≤ (x.toNat : Int) := by assumption
             have h2 : (x.toNat : Int) ≤ 102 := by assumption
             have e : (x.toNat : Int) - 97 + 65 = (((x.toNat - 32).toUInt8.toNat : Nat) : Int) := by
               have := x.toNat_lt
               simp; omega
             rw [e]
             exact ⟨⟨k + 1, L.set k (x.toNat - 32).toUInt8, by omega, by go_num, HS.out _, by rw [List.length_set]; exact HLL.out, (HM.out ⟨by omega, by omega⟩).trans HLV.out, hbel.setCell (p := ⟨g, k, none⟩) hg1 _⟩, by simp [intOf]; omega⟩)
      · have hr3 := hHB.reads
        rw [hLl] at hr3
        have hUL : Hid (unhex L = some l) := by
          show _ = _
          rw [unhex_congr L H hLv, HU.out]
        have hLsz : (⟨L.toArray⟩ : ByteArray).size ≤ 1099511627776 := by
          show L.toArray.size ≤ _
          simp; omega
        clear hLl hLv
        have hbn := hbel.size
        go_wp2_with fail
        rw [run_back hr3]
        simp only [Result.andThen]
        rw [Oper.upon_value]
        go_wp2_with fail
        refine (unhex_any _ wr hLsz).mono ?_
        rintro e w5 hend
        rcases hend with ⟨hno, -, -⟩ | ⟨out, v, hsome, rfl, hown, hbel5⟩
        · exact absurd (hno.symm.trans hUL.out) (by simp)
        · have ho : out = l := by
            have := hsome.symm.trans hUL.out
            simpa using this
          subst ho
          clear hsome
          obtain ⟨A5, c5, rfl⟩ := own_form hown
          have hr5 := Reads.of_own hown
          have hbel6 := hbel.trans (hbel5.mono hbn)
          have hr6 := hr.below hbel6
          clear hown
          go_wp2_with fail
          rw [run_back hr5]
          simp only [Result.andThen]
          rw [Oper.upon_value]
          go_wp2_with fail
          rw [run_back hr6]
          simp only [Result.andThen]
          rw [Oper.upon_value]
          go_wp2_with fail
          refine (awake_any w5).mono ?_
          rintro e w7 ⟨rfl, hb7⟩
          go_wp2
          go_ret
          exact ⟨rfl, hbel6.trans (hb7.mono hbel6.size)⟩
end Go.Proofs.Ytibebghnhicmfaa
