/-
  The contract of the reference's Digits: bytes as digits of 16 bits. Condition: at most 1000 bytes.
-/
import Derived.Test.YtebnkbeejkopaaaDoorScaRef1
set_option linter.unusedVariables false
set_option linter.unusedSimpArgs false
namespace Go.Proofs.YtebnkbeejkopaaaDoor
open Go Go.Proofs Go.RowKit F5

theorem reads_b {w : World} {Bd n k : Nat} {A : Option Addr} {l : List UInt8} (h : Reads w Bd 1 A n (Lib.byteCells l)) (hk : k < n) : ∃ ad, A = some ad ∧ ad.block < Bd ∧ w.cell? (ad.add k) = some (.int .u8 ((l.getD k 0).toNat : Int)) := by
  obtain ⟨ad, u, rfl, hb, hu, hc⟩ := h.at_ hk
  have hl : k < l.length := by have := h.1; rw [Lib.byteCells_length] at this; omega
  refine ⟨ad, rfl, hb, ?_⟩
  rw [hc, ← hu]
  simp [Lib.byteCells, List.getElem?_map, List.getD_eq_getElem?_getD, List.getElem?_eq_getElem hl]

/-- The bytes' digits: half as many. -/
def DigEnd (l : List UInt8) (w : World) (e : Ending) (w' : World) : Prop :=
  ∃ v d, e = .returned v ∧ d.length = (l.length + 1) / 2 ∧ All B d ∧ val B d = bval l ∧ w'.ownsRow w.heap.size 32 1 v d.length (U d) ∧ Below w.heap.size w w'

set_option maxHeartbeats 4000000 in
theorem digits_any (A : Option Addr) (n c : Nat) (l : List UInt8) (w : World) (hn : n ≤ 1000) (hr : Reads w w.heap.size 1 A n (Lib.byteCells l)) :
    Calls Tryd.prog 17 #[.slice A n c] w (DigEnd l w) := by
  have hl : l.length = n := by have := hr.1; rw [Lib.byteCells_length] at this; omega
  obtain ⟨i0, hi, hz0, hz1, hz2⟩ := info_parts infoU64
  have HI := Lib.hid hi
  have HR := Lib.hid hr
  have HL := Lib.hid hl
  have hoe := own_emptyU w
  have hb0 := below_new1 w (.cells #[] 32)
  clear hr hl hi
  go_enter Tryd.func17, Tryd.ntmps17
  go_wp2
  generalize w.alloc (.cells #[] 32) = W at *
  go_loopg [3, 4] ((n + 1) / 2) (fun gg ov iv wr => ∃ (k : Nat) (out : List Nat), iv = .int .i64 ((2 * k : Nat) : Int) ∧ gg + k = (n + 1) / 2 ∧ DigL l k out ∧ wr.ownsRow w.heap.size 32 1 ov k (U out) ∧ Below w.heap.size w wr)
  case atStart => exact ⟨0, [], rfl, rfl, DigL.zero l, hoe, hb0⟩
  case round =>
    obtain ⟨k, out, hiv, hg, hO, hown, hbel⟩ := hrel
    obtain ⟨p, hp⟩ := named (2 * k)
    rw [← hp.out] at hiv
    subst hiv
    clear hoe hb0
    by_cases hlt : p < n
    · obtain ⟨ad, rfl, hadB, hx⟩ := reads_b (HR.out.below hbel) hlt
      have hpi : (p : Int) < n := by omega
      obtain ⟨p1, hp1⟩ := named (p + 1)
      have hwp : IntKind.i64.wrap ((p : Int) + 1) = (p1 : Int) := by rw [IntWalk.i64_in _ (by omega), hp1.out]; rfl
      have hwp2 : IntKind.i64.wrap ((p : Int) + 2) = (p : Int) + 2 := IntWalk.i64_in _ (by omega)
      have HBEL := Lib.hid hbel
      have HOWN := Lib.hid hown
      have hz := hbel.size
      have hkk : k + 1 ≤ (n + 1) / 2 := by have := hp.out; omega
      have H2 : Hid (∀ q, q = p → 2 * (k + 1) = q + 2) := Lib.hid fun q hq => by rw [hq, hp.out]; omega
      obtain ⟨x, hX⟩ := named (l.getD p 0).toNat
      have hxl : x < 256 := by rw [hX.out]; exact (l.getD p 0).toNat_lt
      rw [← hX.out] at hx
      have cx : IntKind.u64.wrap (x : Int) = (x : Int) := by rw [IntKind.wrap_u64]; omega
      by_cases hl2 : p1 < n
      · obtain ⟨ad2, had2, _, hy⟩ := reads_b (HR.out.below hbel) hl2
        injection had2 with had2
        subst had2
        have hp1i : (p1 : Int) < n := by omega
        obtain ⟨y, hY⟩ := named (l.getD p1 0).toNat
        have hyl : y < 256 := by rw [hY.out]; exact (l.getD p1 0).toNat_lt
        rw [← hY.out] at hy
        have cy : IntKind.u64.wrap (y : Int) = (y : Int) := by rw [IntKind.wrap_u64]; omega
        obtain ⟨q, hq⟩ := named (256 * y)
        obtain ⟨s, hs⟩ := named (x + q)
        have cq : IntKind.u64.wrap (256 * (y : Int)) = (q : Int) := by rw [IntKind.wrap_u64, hq.out]; omega
        have cs : IntKind.u64.wrap ((x : Int) + (q : Int)) = (s : Int) := by rw [IntKind.wrap_u64, hs.out, hq.out]; omega
        have HN : Hid (DigL l (k + 1) (out ++ [s])) := Lib.hid (by
          have := hO.two (by rw [HL.out, ← hp.out, ← hp1.out]; exact hl2)
          rwa [← hp.out, ← hp1.out, ← hX.out, ← hY.out, ← hq.out, ← hs.out] at this)
        have hrd := reads_u1 wr s
        have hown2 := own_old64 hown (below_new1 wr (.cells #[.int .u64 (s : Int)] 32))
        clear hbel hO hown hX hY hlt
        go_wp2_with (at_builtin; refine wpList_append_any _ rfl (.tmp 32) (.tmp 34) 38 rfl w.heap.size 32 i0 (.int .u64 0) 1 8 Tryd.underlying38 HI.out hz0 hz1 hz2 rfl (by omega) _ k (U out) rfl hown2 _ _ 1 _ (U [s]) rfl hrd (U_one _) (by unfold maxLen; omega) (by omega) (by simp; omega) ?_; intro v5 w5 hown5 hg5 hv5)
        have hb5 := Lib.hid (own_grow HOWN.out (Nat.le_refl _) HBEL.out (below_new1 wr _) hg5)
        rw [← U_append] at hown5
        have HOW5 := Lib.hid hown5
        clear hown5 hg5 hv5 hrd hown2
        go_wp2_with fail
        go_roundg (gk - 1)
        case measure => omega
        case rel => exact ⟨k + 1, out ++ [s], by rw [H2.out p rfl]; go_num, by omega, HN.out, HOW5.out, hb5.out⟩
      · have hp1i : ¬ (p1 : Int) < n := by omega
        have HN : Hid (DigL l (k + 1) (out ++ [x])) := Lib.hid (by
          have := hO.one (by rw [HL.out, ← hp.out]; have := hp1.out; omega)
          rwa [← hp.out, ← hX.out] at this)
        have hrd := reads_u1 wr x
        have hown2 := own_old64 hown (below_new1 wr (.cells #[.int .u64 (x : Int)] 32))
        clear hbel hO hown hX hlt
        go_wp2_with (at_builtin; refine wpList_append_any _ rfl (.tmp 32) (.tmp 34) 38 rfl w.heap.size 32 i0 (.int .u64 0) 1 8 Tryd.underlying38 HI.out hz0 hz1 hz2 rfl (by omega) _ k (U out) rfl hown2 _ _ 1 _ (U [x]) rfl hrd (U_one _) (by unfold maxLen; omega) (by omega) (by simp; omega) ?_; intro v5 w5 hown5 hg5 hv5)
        have hb5 := Lib.hid (own_grow HOWN.out (Nat.le_refl _) HBEL.out (below_new1 wr _) hg5)
        rw [← U_append] at hown5
        have HOW5 := Lib.hid hown5
        clear hown5 hg5 hv5 hrd hown2
        go_wp2_with fail
        go_roundg (gk - 1)
        case measure => omega
        case rel => exact ⟨k + 1, out ++ [x], by rw [H2.out p rfl]; go_num, by omega, HN.out, HOW5.out, hb5.out⟩
    · have hk2 : k = (n + 1) / 2 := by have := hp.out; omega
      have hfin := Lib.hid (hO.done (by rw [HL.out, ← hp.out]; omega))
      have hln := hO.len
      have hall := Lib.hid hO.all
      have hlk : Hid (out.length = (l.length + 1) / 2) := Lib.hid (by rw [hln, HL.out, hk2])
      rw [← hln] at hown
      have HO := Lib.hid hown
      have HBEL := Lib.hid hbel
      have hpi : ¬ (p : Int) < n := by omega
      clear hbel hown hO hln hk2 hg hlt
      go_wp2_with fail
      go_ret
      exact ⟨_, out, rfl, hlk.out, hall.out, hfin.out, HO.out, HBEL.out⟩
end Go.Proofs.YtebnkbeejkopaaaDoor
