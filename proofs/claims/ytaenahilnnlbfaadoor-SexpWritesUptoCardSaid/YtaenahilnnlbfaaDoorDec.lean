/-
  The contract of the document's answer Dec (package greffierref01): the decimal digits of a length. Conditions: none.
-/
import Derived.Test.YtaenahilnnlbfaaDoorStr
import Derived.Test.YtaenahilnnlbfaaDoorNumMath
import Derived.Deep.RegionWith
import Derived.Shelf.Strings.BuilderK
import Derived.IntWalk
import Derived.Laws.BitsAllLaws
set_option linter.unusedVariables false
namespace Go.Proofs.YtaenahilnnlbfaaDoor
open Go Go.Proofs Go.RowKit Oct

theorem cat_mk (x y : List UInt8) : (⟨x.toArray⟩ : ByteArray) ++ (⟨y.toArray⟩ : ByteArray) = ⟨(x ++ y).toArray⟩ := by
  apply ByteArray.ext
  simp
theorem below_drew1 (w : World) : Below w.heap.size w w.drew := (Below.refl _ _).drew

theorem run_one {W : World} {g : Nat} {y : Int} (h : W.cell? ⟨g, 0, none⟩ = some (.int .u8 y)) (h0 : 0 ≤ y) (h1 : y < 256) : (convert 22 9 (.slice (some ⟨g, 0, none⟩) 1 1)).run Tryd.prog W = .ok (.string ⟨#[UInt8.ofNat y.toNat]⟩) W := by
  have e : (((UInt8.ofNat y.toNat).toNat : Nat) : Int) = y := by simp; omega
  have hr : Reads W (g + 1) 1 (some ⟨g, 0, none⟩) 1 (Lib.byteCells [UInt8.ofNat y.toNat]) := by
    refine ⟨rfl, fun _ => ⟨_, rfl, by simp, fun j u hj => ?_⟩⟩
    match j, hj with
    | 0, hj =>
      have hj' : Value.int .u8 ((UInt8.ofNat y.toNat).toNat : Int) = u := by simpa [Lib.byteCells] using hj
      subst hj'
      show W.cell? ⟨g, 0, none⟩ = _
      rw [h, e]
  exact run_back hr

set_option maxHeartbeats 1000000 in
set_option maxRecDepth 100000 in
theorem dec_small (n : Int) (w : World) (h : n < 10) (hl : -9223372036854775808 ≤ n) : Calls Tryd.prog 40 #[.int .i64 n] w fun e w' => e = .returned (.string ⟨(Lib.decDigits n.toNat).toArray⟩) ∧ Below w.heap.size w w' := by
  have hd : Lib.decDigits n.toNat = [UInt8.ofNat ((48 : Int) + max n 0).toNat] := by
    rw [Lib.decDigits, dif_pos (by omega)]
    rw [show ((48 : Int) + max n 0).toNat = 48 + n.toNat from by omega]
  have HD := Lib.hid hd
  have h1 : 0 ≤ (48 : Int) + max n 0 := by omega
  have h2 : (48 : Int) + max n 0 < 256 := by omega
  have h3 : 0 ≤ max n 0 := by omega
  have h4 : max n 0 < 10 := by omega
  have hc := run_one (W := w.alloc (.cells #[.int .u8 (48 + max n 0)] 5)) (g := w.heap.size) (y := 48 + max n 0) (by rw [Lib.cell_of_heap (heap_alloc_new w _)]; rfl) h1 h2
  clear hd
  go_enter Tryd.func40, Tryd.ntmps40
  go_wp2
  go_ret
  exact ⟨by rw [HD.out]; rfl, (Below.refl _ _).alloc (Nat.le_refl _) _⟩

set_option maxHeartbeats 2000000 in
set_option maxRecDepth 100000 in
theorem dec_any : ∀ (u : Nat) (w : World), u ≤ 9223372036854775807 → Calls Tryd.prog 40 #[.int .i64 u] w fun e w' => e = .returned (.string ⟨(Lib.decDigits u).toArray⟩) ∧ Below w.heap.size w w' := by
  intro u
  induction u using Nat.strongRecOn with
  | ind u ih =>
    intro w hu
    by_cases h : u < 10
    · exact dec_small u w (by omega) (by omega)
    · obtain ⟨d, hdv⟩ : ∃ d, d = u / 10 := ⟨_, rfl⟩
      obtain ⟨r, hrv⟩ : ∃ r, r = u % 10 := ⟨_, rfl⟩
      have ih' := fun W => ih d (by omega) W (by omega)
      have hd : Lib.decDigits u = Lib.decDigits d ++ [UInt8.ofNat ((48 : Int) + (r : Int)).toNat] := by
        rw [Lib.decDigits, dif_neg h, hdv, hrv]
        congr 3
      have hlen := dec_length 19 d (by omega)
      generalize Lib.decDigits d = D at *
      have e1 : IntKind.i64.wrap ((u : Int) / 10) = (d : Int) := by rw [IntWalk.i64_in _ (by omega)]; omega
      have e2 : (u : Int).tmod 10 = (r : Int) := by rw [Int.tmod_eq_emod_of_nonneg (by omega)]; omega
      have hr10 : r < 10 := by omega
      have e3 : IntKind.u8.wrap (r : Int) = (r : Int) := by rw [IntKind.wrap_u8']; omega
      have e4 : IntKind.u8.wrap (48 + (r : Int)) = 48 + (r : Int) := by rw [IntKind.wrap_u8']; omega
      have k1 : (0 : Int) ≤ 48 + (r : Int) := by omega
      have k2 : (48 : Int) + (r : Int) < 256 := by omega
      have hrun := fun (W : World) (g : Nat) (hc : W.cell? ⟨g, 0, none⟩ = some (.int .u8 (48 + (r : Int)))) => run_one hc k1 k2
      have HD := Lib.hid hd
      have IH := Lib.hid ih'
      have HDV := Lib.hid hdv; have HRV := Lib.hid hrv
      have hD : D.length ≤ 20 := hlen
      clear hd ih' ih hdv hrv hlen
      go_enter Tryd.func40, Tryd.ntmps40
      go_wp2_with fail
      have hz : (48 : UInt8) + UInt8.ofNat r = UInt8.ofNat ((48 : Int) + (r : Int)).toNat := by
        rw [show ((48 : Int) + (r : Int)).toNat = 48 + r from by omega]
        simp
      have HZ := Lib.hid hz
      clear hz
      go_region_with (go_at_call 40; refine (IH.out _).mono ?_; rintro e w1 ⟨rfl, hb1⟩; have hcl := hb1.cell (p := ⟨w.heap.size, 0, none⟩))
      all_goals
        go_wp2
        go_ret
        refine ⟨?_, ?_⟩
        · rw [HD.out, ← cat_mk]
          exact congrArg (fun z : UInt8 => Ending.returned (.string ((⟨D.toArray⟩ : ByteArray) ++ (⟨#[z]⟩ : ByteArray)))) HZ.out
        · first
            | exact ((below_drew1 w).trans hb1).alloc (hb1.size) _
            | exact (((Below.refl _ _).alloc (Nat.le_refl _) _).drew).trans (hb1.mono (by simp))
            | exact (((Below.refl _ _).drew).alloc (Nat.le_refl _) _).trans (hb1.mono (by simp))
end Go.Proofs.YtaenahilnnlbfaaDoor
