/-
  The walk of the law EddsaVerifies. Condition: the program's signatures are as they must be.
-/
import Derived.Test.YtcfogpeinjehbaaGreatDoorM6
set_option linter.unusedVariables false
set_option linter.unusedSimpArgs false
open Go.Lib (hid)
open Go.Proofs.YtcfogpeinjehbaaGreatDoor (zA zB zC zD zE zF)
set_option maxRecDepth 100000
namespace Go.Proofs.YtcfogpeinjehbaaGreatDoor
open Go Go.Proofs Go.RowKit F5

set_option maxHeartbeats 8000000 in
theorem everifies_walk {Q : World → Prop} (H : EdOk Q) (A At As : Option Addr) (n c nt ct ns cs : Nat) (l lt ls : List UInt8) (w : World) (hr : Reads w w.heap.size 1 A n (Lib.byteCells l)) (hc : n ≤ c) (hm : c ≤ maxLen)
  (hrt : Reads w w.heap.size 1 At nt (Lib.byteCells lt)) (hct : nt ≤ ct) (hmt : ct ≤ maxLen) (hrs : Reads w w.heap.size 1 As ns (Lib.byteCells ls)) (hcs : ns ≤ cs) (hms : cs ≤ maxLen) (hQ : Q w) :
  Calls Tryz.prog 4 #[.slice A n c, .slice At nt ct, .slice As ns cs] w fun e w' => e = .returned (.bool true) ∧ Below w.heap.size w w' := by
 have HQ := hid hQ
 have HB := hid (Below.refl w.heap.size w)
 by_cases h1 : 100 < n
 ·have h1' : decide ((100 : Int) < (n : Int)) = true := by simp; omega
  clear hr hrt hrs
  go_enter Tryz.func4, Tryz.ntmps4
  go_wp2_with fail
  refine (awake8_any H _ HQ.out).mono ?_
  rintro e w9 ⟨rfl, hb9⟩
  have hbe := hid (HB.out.trans (hb9.mono HB.out.size))
  clear hb9
  go_wp2
  go_ret
  exact ⟨rfl, hbe.out⟩
 have h1' : decide ((100 : Int) < (n : Int)) = false := by simp; omega
 by_cases h2 : 100 < ns
 ·have h2' : decide ((100 : Int) < (ns : Int)) = true := by simp; omega
  clear hr hrt hrs
  go_enter Tryz.func4, Tryz.ntmps4
  go_wp2_with fail
  refine (awake8_any H _ HQ.out).mono ?_
  rintro e w9 ⟨rfl, hb9⟩
  have hbe := hid (HB.out.trans (hb9.mono HB.out.size))
  clear hb9
  go_wp2
  go_ret
  exact ⟨rfl, hbe.out⟩
 have h2' : decide ((100 : Int) < (ns : Int)) = false := by simp; omega
 by_cases h3 : 500 < nt
 ·have h3' : decide ((500 : Int) < (nt : Int)) = true := by simp; omega
  clear hr hrt hrs
  go_enter Tryz.func4, Tryz.ntmps4
  go_wp2_with fail
  refine (awake8_any H _ HQ.out).mono ?_
  rintro e w9 ⟨rfl, hb9⟩
  have hbe := hid (HB.out.trans (hb9.mono HB.out.size))
  clear hb9
  go_wp2
  go_ret
  exact ⟨rfl, hbe.out⟩
 have h3' : decide ((500 : Int) < (nt : Int)) = false := by simp; omega
 obtain ⟨b, hb⟩ : ∃ b, Hid (b = verB l lt ls) := ⟨_, hid rfl⟩
 have CV := hid (H.verify A n c l At nt ct lt As ns cs ls w (by omega) hc hm hr (by omega) hct hmt hrt (by omega) hcs hms hrs hQ)
 have CR : Hid (∀ V, Reads V V.heap.size 1 A n (Lib.byteCells l) → Reads V V.heap.size 1 At nt (Lib.byteCells lt) → Reads V V.heap.size 1 As ns (Lib.byteCells ls) → Calls Tryz.prog 11 #[.slice A n c, .slice At nt ct, .slice As ns cs] V fun e w' => e = .returned (.bool (verB l lt ls)) ∧ Below V.heap.size V w') := hid fun V r1 r2 r3 =>
  refVerify_any A At As n c nt ct ns cs l lt ls V r1 hc (by omega) r2 hct (by omega) r3 hcs (by omega)
 rw [← hb.out] at CV CR
 have HR := hid hr
 have HT := hid hrt
 have HS := hid hrs
 have hbb : (b == b) = true := by cases b <;> rfl
 clear hr hrt hrs h1 h2 h3 hb
 go_enter Tryz.func4, Tryz.ntmps4
 go_wp2_with fail
 refine CV.out.mono ?_
 rintro e w1 ⟨rfl, hb1⟩
 have HB := hid hb1
 have HR := hid ((HR.out.below hb1).more hb1.size)
 have HT := hid ((HT.out.below hb1).more hb1.size)
 have HS := hid ((HS.out.below hb1).more hb1.size)
 clear hb1
 go_wp2_with fail
 refine (CR.out _ HR.out HT.out HS.out).mono ?_
 rintro e w2 ⟨rfl, hb2⟩
 have HB := hid (HB.out.trans (hb2.mono HB.out.size))
 clear hb2
 go_wp2_with fail
 refine (awake8_any H _ (H.old HQ.out HB.out)).mono ?_
 rintro e w9 ⟨rfl, hb9⟩
 have hbe := hid (HB.out.trans (hb9.mono HB.out.size))
 clear hb9
 go_wp2
 go_ret
 exact ⟨rfl, hbe.out⟩
end Go.Proofs.YtcfogpeinjehbaaGreatDoor
