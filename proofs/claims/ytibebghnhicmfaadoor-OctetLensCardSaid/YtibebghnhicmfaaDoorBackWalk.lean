/-
  The contract of octet.PutLen, and the walk of the law OctetBack, in a world in which the library's table of powers of ten holds what its text lays. Conditions: that table.
-/
import Derived.Test.YtibebghnhicmfaaDoorGetLen
import Derived.Test.YtibebghnhicmfaaDoorHoldApp
import Derived.Test.YtibebghnhicmfaaDoorShelf
set_option linter.unusedVariables false
namespace Go.Proofs.YtibebghnhicmfaaDoor
open Go Go.Proofs Go.RowKit Oct

abbrev Tab (w : World) : Prop := Lib.TabIs Tryd.prog w "internal/strconv.uint64pow10" .u64 Lib.pow10Tab

theorem below_grow (w : World) (k : Nat) (os : Array Obj) : Below w.heap.size w (Sort.grow (w.drewN k) os) :=
  ⟨rfl, rfl, rfl, by simp [Sort.grow], fun i hi => by
    show (w.heap ++ os)[i]? = _
    rw [Array.getElem?_append_left hi]⟩

set_option maxHeartbeats 1000000 in
set_option maxRecDepth 100000 in
theorem putLen_any (n : Int) (w : World) (h0 : -9223372036854775808 ≤ n) (h1 : n ≤ 9223372036854775807) (htab : Tab w) :
    Calls Tryd.prog 18 #[.int .i64 n] w fun e w' => e = .returned (.string ⟨(Lib.decDigits n.toNat).toArray⟩) ∧ Below w.heap.size w w' := by
  have he : Lib.itoa (max n 0) = Lib.decDigits n.toNat := by
    unfold Lib.itoa
    rw [if_neg (by omega), show (max n 0).toNat = n.toNat from by omega]
  have HE := Lib.hid he
  have HT := Lib.hid htab
  have hb := fun k os => below_grow w k os
  have HB := Lib.hid hb
  clear he htab hb
  go_enter Tryd.func18, Tryd.ntmps18
  go_wp2_with fail
  refine (Tryd.strconv_Itoa (max n 0) (by omega) (by omega) w HT.out).mono ?_
  rintro e w1 ⟨rfl, k, os, rfl⟩
  rw [HE.out]
  have hbb := HB.out k os
  generalize Sort.grow (w.drewN k) os = w1 at *
  go_wp2
  go_ret
  exact ⟨rfl, hbb⟩

set_option maxHeartbeats 1000000 in
set_option maxRecDepth 100000 in
theorem back_walk (n : Int) (c : UInt8) (w : World) (htab : Tab w) :
    Calls Tryd.prog 6 #[.int .i64 n, .int .u8 c.toNat] w fun e w' => e = .returned (.bool true) ∧ Below w.heap.size w w' := by
  have hcb := c.toNat_lt
  have HT := Lib.hid htab
  clear htab
  by_cases hx : n < 0 ∨ 1000000000000000 < n ∨ (48 ≤ c.toNat ∧ c.toNat ≤ 57)
  · go_enter Tryd.func6, Tryd.ntmps6
    go_wp2_with fail
    all_goals
      refine (awake_any w).mono ?_
      rintro e w1 ⟨rfl, hb1⟩
      go_wp2
      go_ret
      exact ⟨rfl, hb1⟩
  · obtain ⟨u, rfl⟩ := Int.eq_ofNat_of_zero_le (show 0 ≤ n by omega)
    have hu : u ≤ 1000000000000000 := by omega
    have hc : isDig c = false := by simp [isDig]; omega
    have hgl := getLen_back u c hc
    have hdl := dec_length 15 u (by omega)
    have hun : ((u : Nat) : Int).toNat = u := by omega
    have HGL := Lib.hid hgl; have HUN := Lib.hid hun
    clear hgl hc hun
    generalize hD : Lib.decDigits u = D at *
    have HD := Lib.hid hD
    have hBN := fun W => HoldsBytes.new W ⟨D.toArray⟩
    have hsz : (⟨D.toArray⟩ : ByteArray).size = D.length := by show D.toArray.size = _; simp
    have HBN := Lib.hid hBN; have HSZ := Lib.hid hsz
    clear hD hBN hsz
    go_enter Tryd.func6, Tryd.ntmps6
    go_wp2_with fail
    all_goals
      refine (putLen_any (u : Int) w (by omega) (by omega) HT.out).mono ?_
      rintro e w1 ⟨rfl, hb1⟩
      rw [HUN.out, HD.out]
      go_wp2_with fail
      rw [Lib.run_convert_string_bytes w1 9 22 5 _ Tryd.underlying9 Tryd.underlying22 Tryd.underlying5]
      simp only [Result.andThen]
      rw [Oper.upon_value]
      have hB : HoldsBytes w1.heap.size _ D _ := HBN.out w1
      have hS : grownCap w1 (⟨D.toArray⟩ : ByteArray).size 0 5 ≤ (Lib.bytesCells w1 5 ⟨D.toArray⟩).size := bytesCells_cap w1 _
      have hb2 := bytesWorld_below w1 ⟨D.toArray⟩
      generalize (Lib.bytesCells w1 5 ⟨D.toArray⟩).size = S at *
      generalize Lib.bytesWorld w1 5 ⟨D.toArray⟩ = w2 at *
      generalize grownCap w1 _ 0 5 = cap at *
      rw [HSZ.out]
      have hg1 := hb1.size
      have hb12 := hb1.trans (hb2.mono hg1)
      have hb12s := hb12.size
      generalize w1.heap.size = g at *
      have hB3 := hB.below ((Below.refl _ _).alloc (Nat.le_refl _) (.cells #[.int .u8 c.toNat] 5)) hB.lt
      have hb13 := hb12.alloc hb12s (.cells #[.int .u8 c.toNat] 5)
      clear hB hb2 hb1
      go_wp2_with (at_builtin; refine wpList_append_hold _ rfl (.tmp 28) (.tmp 30) rfl g S D.length cap D rfl hB3 hS rfl w2.heap.size c rfl ?_ ?_ w.heap.size w hb13 hg1 ?_)
      · rw [Lib.cell_of_heap (heap_alloc_new w2 _)]; rfl
      · omega
      · rintro v' w3 ⟨A, cc, rfl, hcc, hr3, hb3⟩
        have hl1 : (D ++ [c]).length = D.length + 1 := by simp
        rw [hl1] at hr3 hcc ⊢
        clear hB3 hb13 hl1
        go_wp2_with fail
        refine (getLen_any A _ cc (D ++ [c]) _ 0 u w3 hr3 (by unfold maxLen; omega) (by omega) (by omega)).mono ?_
        rintro e w4 hend
        obtain ⟨rfl, rfl⟩ := hend
        rw [HGL.out]
        go_wp2_with fail
        refine (awake_any w4).mono ?_
        rintro e w5 ⟨rfl, hb5⟩
        go_wp2
        go_ret
        exact ⟨rfl, hb3.trans (hb5.mono hb3.size)⟩
end Go.Proofs.YtibebghnhicmfaaDoor
