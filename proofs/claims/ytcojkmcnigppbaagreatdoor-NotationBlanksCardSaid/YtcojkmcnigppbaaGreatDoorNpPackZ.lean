/-
  The contract of notation's Pack: a value's transport form, or the error. Conditions: the library's table of powers of ten holds what its text lays.
-/
import Derived.Test.YtcojkmcnigppbaaGreatDoorM5
import Derived.Test.YtcojkmcnigppbaaGreatDoorPutZ
set_option linter.unusedVariables false
set_option linter.unusedSimpArgs false
open Go.Lib (hid)
open Go.Proofs.YtcojkmcnigppbaaGreatDoor (zA zB zC zD zE zF)
set_option maxRecDepth 100000
namespace Go.Proofs.YtcojkmcnigppbaaGreatDoor.Np
open Go Go.Proofs Go.RowKit Sx Oct Nt
def pck (t : SX) : ByteArray := ⟨(aPack t).toArray⟩
set_option maxHeartbeats 4000000 in
theorem pack_any (t : SX) (w : World) (S : Nat → Prop) (cs : List Value) (hs : SIn w S t cs) (ht : Tab w) :
    Calls Tryz.prog 12 #[.agg cs.toArray] w fun e w' => e = .returned (if may t then .tuple #[.string (pck t), .int .i64 0] else .tuple #[.string ⟨#[]⟩, .int .i64 4]) ∧ Below w.heap.size w w' := by
  obtain ⟨l, h, hi, da, ks, A1, n1, c1, A2, n2, c2, A3, n3, c3, eT, rfl⟩ := hs.form_
  clear eT
  have hb0 := below_new w (.cells #[Value.bool l, Value.bool h, Value.slice A1 n1 c1, Value.slice A2 n2 c2, Value.slice A3 n3 c3] 25)
  have C1 := put_any t _ S _ (hs.old hb0) (ht.old hb0)
  have HB0 := hid hb0
  clear hs ht hb0
  cases hm : may t with
  | true =>
    have hfl : (form t).length ≤ 4096 := by unfold may at hm; simp at hm; exact hm.2
    have C1 : Hid (Calls Tryz.prog 26 #[.agg #[Value.bool l, Value.bool h, Value.slice A1 n1 c1, Value.slice A2 n2 c2, Value.slice A3 n3 c3]] (w.alloc (.cells #[Value.bool l, Value.bool h, Value.slice A1 n1 c1, Value.slice A2 n2 c2, Value.slice A3 n3 c3] 25)) fun e w' => ∃ A c, e = .returned (.tuple #[.slice A (form t).length c, .int .i64 0]) ∧ (form t).length ≤ c ∧ Reads w' w'.heap.size 1 A (form t).length (Lib.byteCells (form t)) ∧ Below (w.alloc (.cells #[Value.bool l, Value.bool h, Value.slice A1 n1 c1, Value.slice A2 n2 c2, Value.slice A3 n3 c3] 25)).heap.size (w.alloc (.cells #[Value.bool l, Value.bool h, Value.slice A1 n1 c1, Value.slice A2 n2 c2, Value.slice A3 n3 c3] 25)) w') := hid (C1.mono fun e w' hh => by
      rcases hh with ⟨_, h1⟩ | ⟨h1, _⟩
      · exact h1
      · rw [hm] at h1; cases h1)
    simp only [if_true]
    have hbl := b64_length (form t)
    have hq1 : ¬ 9223372036854775807 < 1 + (b64 (form t)).length := by omega
    have hq2 : ¬ 9223372036854775807 < 1 + (b64 (form t)).length + 1 := by omega
    have HP : Hid (pck t = (⟨#[123]⟩ : ByteArray) ++ ⟨(b64 (form t)).toArray⟩ ++ ⟨#[125]⟩) := hid (join3 123 125 (b64 (form t))).symm
    rw [HP.out]
    have CB := hid (fun A c V hr hc => Go.Proofs.YtcojkmcnigppbaaGreatDoor.base64_any A (form t).length c (form t) V hr (by omega) hc)
    clear hm hbl
    generalize hft : form t = F at *
    clear hft
    go_enter Tryz.func12, Tryz.ntmps12
    go_wp2_with fail
    refine C1.out.mono ?_
    rintro e w1 ⟨A, c, rfl, hc, hr, hb1⟩
    have CB := hid (CB.out A c w1 hr hc)
    clear hr
    go_wp2_with fail
    refine CB.out.mono ?_
    rintro e w2 ⟨rfl, hb2⟩
    have hbb := HB0.out.trans (hb1.mono HB0.out.size)
    go_wp2_with fail
    go_ret2
    exact ⟨rfl, hbb.trans (hb2.mono hbb.size)⟩
  | false =>
    have C1 : Hid (Calls Tryz.prog 26 #[.agg #[Value.bool l, Value.bool h, Value.slice A1 n1 c1, Value.slice A2 n2 c2, Value.slice A3 n3 c3]] (w.alloc (.cells #[Value.bool l, Value.bool h, Value.slice A1 n1 c1, Value.slice A2 n2 c2, Value.slice A3 n3 c3] 25)) fun e w' => e = .returned (.tuple #[.slice none 0 0, .int .i64 4]) ∧ Below (w.alloc (.cells #[Value.bool l, Value.bool h, Value.slice A1 n1 c1, Value.slice A2 n2 c2, Value.slice A3 n3 c3] 25)).heap.size (w.alloc (.cells #[Value.bool l, Value.bool h, Value.slice A1 n1 c1, Value.slice A2 n2 c2, Value.slice A3 n3 c3] 25)) w') := hid (C1.mono fun e w' hh => by
      rcases hh with ⟨h1, _⟩ | ⟨_, h1⟩
      · rw [hm] at h1; cases h1
      · exact h1)
    simp only [Bool.false_eq_true, if_false]
    clear hm
    go_enter Tryz.func12, Tryz.ntmps12
    go_wp2_with fail
    refine C1.out.mono ?_
    rintro e w1 ⟨rfl, hb1⟩
    go_wp2_with fail
    go_ret2
    exact ⟨rfl, HB0.out.trans (hb1.mono HB0.out.size)⟩
end Go.Proofs.YtcojkmcnigppbaaGreatDoor.Np
