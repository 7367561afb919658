/-
  The contracts of the document's answers bytes, atom, value and Get (package greffierref02): what is read at a place. Conditions: the bytes are at most 5000.
-/
import Derived.Test.YtaenahilnnlbfaaDoorReader4
import Derived.Test.YtaenahilnnlbfaaDoorRefLen
set_option linter.unusedVariables false
namespace Go.Proofs.YtaenahilnnlbfaaDoor
open Go Go.Proofs Go.RowKit Sx Oct

theorem at_drop {w : World} {B n : Nat} {A : Option Addr} {b : List UInt8} (hr : Reads w B 1 A n (Lib.byteCells b)) {p : Nat} (hp : p < n) {x : UInt8} {s : List UInt8} (hs : b.drop p = x :: s) :
    ∃ ad, A = some ad ∧ ad.block < B ∧ w.cell? (ad.add p) = some (.int .u8 x.toNat) := by
  obtain ⟨ad, u, rfl, hB, hu, hc⟩ := hr.at_ hp
  have hb : b[p]? = some x := by
    have := congrArg List.head? hs
    rw [List.head?_drop] at this
    simpa using this
  simp [Lib.byteCells, List.getElem?_map, hb] at hu
  exact ⟨ad, rfl, hB, by rw [hc, ← hu]⟩

def RBytesEnd (w : World) (B n : Nat) (e : Ending) (w' : World) : Res (List UInt8) → Prop
  | .err k rest => ∃ A c, e = .returned (.tuple #[.slice A 0 c, .int .i64 (n - rest.length : Nat), .int .i64 k]) ∧ Below w.heap.size w w'
  | .ok l rest => ∃ A' c', e = .returned (.tuple #[.slice A' l.length c', .int .i64 (n - rest.length : Nat), .int .i64 0]) ∧ l.length ≤ c' ∧ RIn w' (fun k => k < B) 1 A' l.length (Lib.byteCells l) ∧ Below w.heap.size w w'

set_option maxHeartbeats 4000000 in
set_option maxRecDepth 100000 in
theorem refBytes_any (A : Option Addr) (n c : Nat) (p : Nat) (b : List UInt8) (B : Nat) (w : World) (hr : Reads w B 1 A n (Lib.byteCells b)) (hBw : B ≤ w.heap.size) (hp : p ≤ n) (hn : n ≤ 5000) (hc : n ≤ c) (s : List UInt8) (hs : b.drop p = s) :
    Calls Tryd.prog 50 #[.slice A n c, .int .i64 p] w fun e w' => RBytesEnd w B n e w' (pBytes s) := by
  have hl : b.length = n := by have := hr.1; simpa [Lib.byteCells_length] using this
  have hsl : s.length = n - p := by rw [← hs, List.length_drop, hl]
  have hG := getLen_pLen b s p (by omega) hs
  have C : Calls Tryd.prog 55 #[.slice A n c, .int .i64 p, .int .i64 4096] w fun e w' => e = .returned (.tuple #[.int .i64 (getLen b p 4096).1, .int .i64 (getLen b p 4096).2.1, .int .i64 (getLen b p 4096).2.2]) ∧ w' = w :=
    refLen_any A n c b B p 4096 w hr (by unfold maxLen; omega) (by omega) (by omega)
  unfold pBytes
  cases hpl : pLen s with
  | err k rest =>
    rw [hpl] at hG
    simp only at hG
    rw [hG] at C
    obtain ⟨rfl, hk⟩ := pLen_err hpl
    simp only
    have HC := Lib.hid C
    have hpp : n - rest.length = p := by omega
    rcases hk with ⟨rfl, hnil⟩ | ⟨rfl, hnil⟩ | ⟨rfl, hnil⟩
    · subst hnil
      have hpn : ((n - ([] : List UInt8).length : Nat) : Int) = n := by simp
      clear C hr hs hpl hG hpp
      go_enter Tryd.func50, Tryd.ntmps50
      go_wp2_with ((with_reducible refine HC.out.mono ?_); rintro e w2 ⟨rfl, rfl⟩)
      go_ret3
      exact ⟨_, _, rfl, below_new _ _⟩
    all_goals
      clear C hr hs hpl hG
      go_enter Tryd.func50, Tryd.ntmps50
      go_wp2_with ((with_reducible refine HC.out.mono ?_); rintro e w2 ⟨rfl, rfl⟩)
      go_ret3
      exact ⟨_, _, by rw [hpp]; rfl, below_new _ _⟩
  | ok m rest =>
    rw [hpl] at hG
    simp only at hG
    rw [hG] at C
    obtain ⟨hs1, hm⟩ := pLen_sound hpl
    obtain ⟨hd1, hq1, hq2⟩ := drop_rest (by omega) hs hs1
    rw [hl] at hd1 hq1 C
    simp only
    cases rest with
    | nil =>
      simp only
      have hpn : ((n - ([] : List UInt8).length : Nat) : Int) = n := by simp
      rw [hpn] at C
      have HC := Lib.hid C
      have HP := Lib.hid hpn
      clear C hpl hr hs hs1 hd1 hq1 hq2 hsl hl hG hpn
      go_enter Tryd.func50, Tryd.ntmps50
      go_wp2_with ((with_reducible refine HC.out.mono ?_); rintro e w2 ⟨rfl, rfl⟩)
      go_ret3
      exact ⟨_, _, by rw [HP.out]; rfl, below_new _ _⟩
    | cons c0 r2 =>
      simp only
      have hlr : (c0 :: r2).length = r2.length + 1 := by simp
      have hle : r2.length + 1 ≤ n := by have := congrArg List.length hs1; rw [List.length_append, hlr] at this; omega
      obtain ⟨q, hq⟩ : ∃ q, q = n - (c0 :: r2).length := ⟨_, rfl⟩
      have hqn : q + r2.length + 1 = n := by omega
      rw [← hq] at C hd1
      obtain ⟨ad, rfl, hadB, hcell⟩ := at_drop hr (p := q) (by omega) hd1
      have hq0 : (0 : Int) ≤ q := by omega
      have hqlt : (q : Int) < n := by omega
      have hqge : ¬ (n : Int) ≤ q := by omega
      have HC := Lib.hid C
      have HQ := Lib.hid hq
      have HR := Lib.hid hr
      have hd2 : b.drop (q + 1) = r2 := by rw [← List.drop_drop, hd1]; rfl
      have HD := Lib.hid hd2
      clear C hpl hr hs hs1 hd1 hq1 hq2 hsl hl hG hq hd2
      by_cases hc0 : c0 ≠ 58
      · rw [if_pos hc0]
        have hne : ((c0.toNat : Int) == 58) = false := by
          rw [beq_eq_false_iff_ne]
          intro e
          exact hc0 (UInt8.toNat_inj.1 (by show c0.toNat = 58; omega))
        go_enter Tryd.func50, Tryd.ntmps50
        go_wp2_with ((with_reducible refine HC.out.mono ?_); rintro e w2 ⟨rfl, rfl⟩)
        go_ret3
        exact ⟨_, _, by rw [HQ.out]; rfl, below_new _ _⟩
      · rw [if_neg hc0]
        have hc0 : c0 = 58 := Classical.not_not.1 hc0
        subst hc0
        by_cases hlt : r2.length < m
        · rw [if_pos hlt]
          have hbig : (n : Int) - q - 1 < m := by omega
          have hpn : ((n - ([] : List UInt8).length : Nat) : Int) = n := by simp
          have HP := Lib.hid hpn
          clear hpn
          go_enter Tryd.func50, Tryd.ntmps50
          go_wp2_with ((with_reducible refine HC.out.mono ?_); rintro e w2 ⟨rfl, rfl⟩)
          go_ret3
          exact ⟨_, _, by rw [HP.out]; rfl, below_new _ _⟩
        · rw [if_neg hlt]
          have hsm : ¬ (n : Int) - q - 1 < m := by omega
          have hmle : q + 1 + m ≤ n := by omega
          have hdr : n - (r2.drop m).length = q + 1 + m := by rw [List.length_drop]; omega
          have htl : (r2.take m).length = m := by rw [List.length_take]; omega
          have HDR := Lib.hid hdr
          have HTL := Lib.hid htl
          have hsub := sub_reads (q := q + 1) HR.out HD.out hmle hc
          have i1 : (q : Int) + 1 ≤ (q : Int) + 1 + m := by omega
          have i2 : (q : Int) + 1 + m ≤ c := by omega
          have i3 : (0 : Int) ≤ (q : Int) + 1 + m := by omega
          have i4 : ((q : Int) + 1 + m).toNat = q + 1 + m := by omega
          have i4' : ((q : Int) + 1).toNat = q + 1 := by omega
          have i5 : IntKind.i64.wrap ((q : Int) + 1 + m) = (q : Int) + 1 + m := IntWalk.i64_in _ (by omega)
          have i5' : IntKind.i64.wrap ((q : Int) + 1) = (q : Int) + 1 := IntWalk.i64_in _ (by omega)
          have i6 : q + 1 ≤ q + 1 + m := by omega
          have i7 : q + 1 + m ≤ c := by omega
          have i8 : q + 1 + m - (q + 1) = m := by omega
          have i9 : ((q + 1 + m : Nat) : Int) = (q : Int) + 1 + m := by omega
          clear hdr htl hlt
          by_cases hcq : c = q + 1
          · rw [if_pos hcq] at hsub
            subst hcq
            have HSU := Lib.hid hsub
            clear hsub
            go_enter Tryd.func50, Tryd.ntmps50
            go_wp2_with ((with_reducible refine HC.out.mono ?_); rintro e w2 ⟨rfl, rfl⟩)
            go_ret3
            exact ⟨_, _, by rw [HTL.out, HDR.out, i9]; rfl, by rw [HTL.out]; omega, by rw [HTL.out]; exact HSU.out, Below.refl _ _⟩
          · rw [if_neg hcq, Option.map_some] at hsub
            have e10 : ad.add (q + 1) = ⟨ad.block, ad.off + (q + 1), none⟩ := by unfold Addr.add; rw [if_neg (by omega)]
            rw [e10] at hsub
            have HSU := Lib.hid hsub
            clear hsub e10
            go_enter Tryd.func50, Tryd.ntmps50
            go_wp2_with ((with_reducible refine HC.out.mono ?_); rintro e w2 ⟨rfl, rfl⟩)
            go_ret3
            exact ⟨_, _, by rw [HTL.out, HDR.out, i9]; rfl, by rw [HTL.out]; omega, by rw [HTL.out]; exact HSU.out, Below.refl _ _⟩
end Go.Proofs.YtaenahilnnlbfaaDoor
