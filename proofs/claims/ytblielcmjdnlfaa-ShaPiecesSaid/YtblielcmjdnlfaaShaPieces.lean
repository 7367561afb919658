/-
  The law ShaPieces returns true at every input and leaves its argument as it was. Conditions: those of the given row alone.
-/
import Derived.Test.YtblielcmjdnlfaaRows
import Derived.Test.YtblielcmjdnlfaaRowBytes
import Derived.Test.YtblielcmjdnlfaaShaPiecesW
import Derived.Deep.Matrix
import Derived.WalkKit
import Derived.ProofKit
import Derived.OpenShut
import Derived.ShutString
import Derived.ChangeOld
import Derived.Below
namespace Go.Proofs.Ytblielcmjdnlfaa.shaPieces
open Go.ChangeShapes Go.WideShapes Go.ChangeAt Go.RowKit
open Go.ChangeMaps (open_string shut_string)
set_option linter.unusedVariables false
set_option linter.unusedSimpArgs false

theorem own : ownKnob Try.prog.godebug = none := by kernel_rfl
theorem laidOut : laidOutB Try.prog = true := by kernel_rfl

set_option maxRecDepth 100000 in
theorem lifted (os : Os) (started : os.Started) (H : Type) (enc : TypeId × Value → H) :
    ReturnsInHanded {} Try.checked os 4 .any (Rows.shaPiecesSpec.pre6 enc Try.prog Try.f4 Rows.shaPiecesRow.domain false) (Rows.shaPiecesSpec.post enc Try.prog Try.f4 false true false false) := by
  refine returnsInHanded_of_change (C := Try.checked) own started (by kernel_rfl) Try.func4
    (ChangeSpec.witness6 (enc := enc) (C := Try.checked) false ⟨#[], #[.slice none 0 0], []⟩ 8 (by kernel_rfl) (by kernel_rfl) (by kernel_rfl) (by kernel_rfl)) ?_
  intro W base args ds gs before hval0 hW hcnd _
  have hval : ∀ (j : Nat) t v, Try.f4.params[j]? = some t → args[j]? = some v → Value.okWide Try.prog W .any base t v := hval0
  have hW' := hW
  obtain ⟨p, q, hA0, hV, rfl, hfz, hnd⟩ := hW
  have hA : DataW.TrodAll enc Try.prog W 0 (fun _ => true) true Try.f4.params.toList args.toList ds p := hA0
  rw [Try.params4] at hA hval
  obtain ⟨v0, vs0, d0, ds0, p0, q0, hargs, rfl, rfl, h0, r0⟩ := trodAll_cons hA
  obtain ⟨rfl, rfl, rfl⟩ := trodAll_nil r0
  obtain rfl : args = #[v0] := by cases args; simp_all
  obtain ⟨rfl, rfl⟩ := trodVars_none hV
  have hval1 := hval 0 22 v0 rfl rfl
  have k0 := h0
  have lt0 : ∀ x ∈ p0, x.block < W.heap.size := by obtain ⟨m, hm⟩ := k0; exact DataW.trod_lt m _ _ _ hm
  obtain ⟨a0, len0, cap0, ls, rfl, hRR, hnc0, hn0, hrow⟩ : ∃ a0 len0 cap0 ls, v0 = .slice a0 len0 cap0 ∧ RowsR W W.heap.size a0 len0 ls ∧ len0 ≤ cap0 ∧ len0 ≤ 9223372036854775807 ∧ ∀ i, i < len0 → (ls.getD i []).length ≤ 9223372036854775807 := by
    obtain ⟨fuel, hf⟩ := h0
    rcases Go.Deep.open_int_rows Try.underlying22 Try.underlying27 Try.underlying5 (by kernel_rfl) (by kernel_rfl) hf with ⟨hcs, _⟩ | ⟨a, len, cap, A, L, C, Z, hcs, _, hl, hm, _, hall⟩
    · refine ⟨none, 0, 0, [], ?_, RowsR.nil_ _ _, Nat.le_refl _, by omega, fun i hi => absurd hi (by omega)⟩
      obtain ⟨a0, len0, cap0, rfl⟩ := okWide_slice Try.underlying22 hval1
      simp [Value.cells] at hcs
      obtain ⟨rfl, rfl, rfl⟩ := hcs
      rfl
    · refine ⟨some a, len, cap, rowsOf len L Z, ?_, rowsR_of (A := A) (C := C) hl fun r hr => ?_, hl, by unfold Go.maxLen at hm; omega, fun i hi => ?_⟩
      · obtain ⟨a0, len0, cap0, rfl⟩ := okWide_slice Try.underlying22 hval1
        simp [Value.cells] at hcs
        obtain ⟨rfl, rfl, rfl⟩ := hcs
        rfl
      · obtain ⟨h1, h2, h3, h4, h5, h6, h7⟩ := hall r hr
        exact ⟨h1, h2, h3, h4, h5, h6, fun a' ha => (h7 a' ha).2⟩
      · obtain ⟨h1, h2, h3, h4, h5, h6, h7⟩ := hall i (by omega)
        rw [rowsOf_get len L Z i hi]
        simp only [bytesOf, List.length_map, List.length_take]
        unfold Go.maxLen at h3
        omega
  clear hA0 hval0
  refine (pieces_walk a0 len0 cap0 ls W hRR hnc0 hn0 hrow).mono fun e W' ⟨he, bel⟩ => ?_
  subst he
  exact ⟨_, rfl, _, _, _, [], _, [], hW', trodAll_mk1 (shut_bool Try.underlying4 _), (trodAll_cons_mk (Below.trod laidOut (by kernel_rfl) (of_decide_eq_true (by kernel_rfl)) k0 bel lt0) trodAll_mk0), rfl, bel.frame _, fun h => by cases h⟩

theorem over : Rows.shaPiecesRow.holds Try.pinned (OpenSpec.ofChange Rows.shaPiecesSpec) :=
  OpenClaim.holds_of_wide 4 Try.f4 rfl rfl rfl rfl rfl rfl rfl ⟨rfl, rfl, rfl, rfl, rfl⟩ rfl rfl rfl rfl rfl (by kernel_rfl) Try.func4 (by kernel_rfl)
    (of_decide_eq_true (by kernel_rfl)) (by unfold Func.isWrapper; first | (rw [if_pos (by decide +kernel)]; kernel_rfl) | (rw [if_neg (by decide +kernel)]; exact ⟨rfl, rfl⟩))
    (fun os started H enc _ => lifted os started H enc)

theorem proved : Rows.ShaPiecesSaid := over
#print axioms proved
end Go.Proofs.Ytblielcmjdnlfaa.shaPieces
