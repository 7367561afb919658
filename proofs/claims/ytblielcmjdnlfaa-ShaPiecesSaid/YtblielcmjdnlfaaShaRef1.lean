/-
  The contracts of the document's answers first, constants and filled (package greffierref04). Conditions: at most 2^39 bytes.
-/
import Derived.Test.YtblielcmjdnlfaaShaSum
import Derived.Deep.OwnRows
set_option linter.unusedVariables false
namespace Go.Proofs.Ytblielcmjdnlfaa
open Go Go.Proofs Go.RowKit Sha5

theorem wpList_build_to {P : Program} {ops : Array Oper} {rest : List Oper} {o : Oper} {a : Act} {w : World} {Q : Exit → Act → World → Prop} (hg : o.guard = none) (t : TypeId) (parts : Array (Nat × Operand)) (ho : o.op = .build t parts)
    (cells : Array Value) (hb : P.built t (parts.map fun (i, x) => (i, a.eval x)).toList = some cells)
    (h : wpList P ops Q rest (a.put o.dst (.agg cells)) w) : wpList P ops Q (o :: rest) a w :=
  wpList_plain hg fun _ hK => wp_build t parts ho (by rw [hb]; rfl) (by rw [hb]; exact hK _ _ h)

set_option maxHeartbeats 2000000 in
set_option maxRecDepth 100000 in
theorem first_any (w : World) : Calls Try.prog 15 #[] w fun e w' => e = .returned (.agg (u64s H0.list)) ∧ Below w.heap.size w w' := by
  go_enter Try.func15, Try.ntmps15
  go_wp2
  refine bodyPost_ret (v := .agg #[.int .u64 7640891576956012808, .int .u64 13503953896175478587, .int .u64 4354685564936845355, .int .u64 11912009170470909681, .int .u64 5840696475078001361, .int .u64 11170449401992604703, .int .u64 2270897969802886507, .int .u64 6620516959819538809]) ?_ rfl ⟨rfl, ?_⟩
  · simp [results, Try.results15, go_sem]
  · exact (Below.refl _ _).alloc (Nat.le_refl _) _

set_option maxHeartbeats 2000000 in
set_option maxRecDepth 100000 in
theorem refConstants_any (w : World) : Calls Try.prog 16 #[] w fun e w' => e = .returned (.agg (u64s KS)) ∧ Below w.heap.size w w' := by
  obtain ⟨z, hz⟩ : ∃ z, Hid (z = u64s (List.replicate 80 0)) := ⟨_, Lib.hid rfl⟩
  have hz0 : ∀ W, (zeroValue 39).run Try.prog W = .ok (.agg z) W := by
    rw [hz.out]; exact (zero_of_info (n := 80) (by kernel_rfl)).1
  obtain ⟨K, hK⟩ : ∃ K, Hid (K = u64s KS) := ⟨_, Lib.hid rfl⟩
  have hKs : Hid ((Try.prog.info? 39).map (·.size) = some K.size) := by
    show _ = _; rw [hK.out, u64s_size, KS_length]; exact info39
  have hKo : Hid (K.all (·.oneCell') = true) := by show _ = _; rw [hK.out]; exact u64s_one _
  have hKz : Hid (z.size = K.size) := by show _ = _; rw [hz.out, hK.out, u64s_size, u64s_size, KS_length]; rfl
  go_enter Try.func16, Try.ntmps16
  go_wp2_with (first | (refine wpList_build_to rfl 39 _ rfl K (by rw [hK.out]; kernel_rfl) ?_) | (refine wpList_store_row rfl 39 (.tmp 0) (.tmp 1) rfl w.heap.size K rfl rfl 39 z (heap_alloc_new w _) hKs.out hKz.out hKo.out ?_; rw [setRow_alloc1]))
  refine bodyPost_ret (v := .agg K) ?_ rfl ⟨by rw [hK.out], (Below.refl _ _).alloc (Nat.le_refl _) _⟩
  exact results_cell_row Try.results16 _ _ w.heap.size 39 K (0, 0) _ rfl (heap_alloc_new w _) Try.underlying39 rfl hKs.out
end Go.Proofs.Ytblielcmjdnlfaa
