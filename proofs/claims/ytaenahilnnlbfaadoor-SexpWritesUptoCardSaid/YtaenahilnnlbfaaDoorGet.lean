/-
  The contract of sexp's Get: the value, or the place and the error. Conditions: none but that the bytes are there.
-/
import Derived.Test.YtaenahilnnlbfaaDoorReadAll
import Derived.Defers
import Derived.Recover
set_option linter.unusedVariables false
namespace Go.Proofs.YtaenahilnnlbfaaDoor
open Go Go.Proofs Go.RowKit Sx Oct

theorem ta_has (t : TypeId) (d : TypeDesc) (hu : Tryd.prog.underlying t = some d) (hd : ∀ x, d ≠ .interface x) (v : Value) (x : TypeId) (w : World) :
    (Instr.typeAssert (.iface t v) x t true).run Tryd.prog w = .ok (.tuple #[v, .bool true]) w := by
  cases d <;> first | exact absurd rfl (hd _) | simp [Instr.typeAssert, run_underlying hu, go_sem, Result.andThen]
theorem ta_lacks (t t' : TypeId) (d : TypeDesc) (hu : Tryd.prog.underlying t = some d) (hd : ∀ x, d ≠ .interface x) (hi : (Tryd.prog.info? t).map (fun i => i.zero) = some (some (.int .i64 0))) (hne : t' ≠ t) (v : Value) (x : TypeId) (w : World) :
    (Instr.typeAssert (.iface t' v) x t true).run Tryd.prog w = .ok (.tuple #[.int .i64 0, .bool false]) w := by
  obtain ⟨i, h1, h2⟩ := Option.map_eq_some_iff.1 hi
  cases d <;> first | exact absurd rfl (hd _) | simp [Instr.typeAssert, run_underlying hu, go_sem, Result.andThen, hne, zeroValue, typeInfo, h1, h2]
theorem kinds_info : ∀ k, 2 ≤ k → k ≤ 5 → Tryd.prog.underlying (kindT k) = some (.int .i64) ∧ (Tryd.prog.info? (kindT k)).map (fun i => i.zero) = some (some (.int .i64 0)) := by
  intro k h1 h2
  have hk4 : k = 2 ∨ k = 3 ∨ k = 4 ∨ k = 5 := by omega
  rcases hk4 with rfl | rfl | rfl | rfl <;> exact ⟨by kernel_rfl, by kernel_rfl⟩
theorem ta_kind (k j : Nat) (hk : 2 ≤ k ∧ k ≤ 5) (hj : 2 ≤ j ∧ j ≤ 5) (v : Value) (x : TypeId) (w : World) :
    (Instr.typeAssert (.iface (kindT k) v) x (kindT j) true).run Tryd.prog w = .ok (.tuple #[if k = j then v else .int .i64 0, .bool (decide (k = j))]) w := by
  obtain ⟨h1, h2⟩ := kinds_info j hj.1 hj.2
  by_cases h : k = j
  · subst h
    rw [if_pos rfl, decide_eq_true rfl]
    exact ta_has _ _ h1 (fun _ e => by cases e) v x w
  · rw [if_neg h, decide_eq_false h]
    refine ta_lacks _ _ _ h1 (fun _ e => by cases e) h2 ?_ v x w
    have a : k = 2 ∨ k = 3 ∨ k = 4 ∨ k = 5 := by omega
    have b : j = 2 ∨ j = 3 ∨ j = 4 ∨ j = 5 := by omega
    rcases a with rfl | rfl | rfl | rfl <;> rcases b with rfl | rfl | rfl | rfl <;> first | exact absurd rfl h | decide

set_option maxHeartbeats 4000000 in
set_option maxRecDepth 100000 in
theorem catch_throw (k : Nat) (hk : 2 ≤ k ∧ k ≤ 5) (p : Nat) (a1 a2 : Nat) (hne : a1 ≠ a2) (w : World) (hc1 : w.cell? ⟨a1, 0, none⟩ = some (.int .i64 0)) (hz1 : w.frozen? ⟨a1, 0, none⟩ = false) (hc2 : w.cell? ⟨a2, 0, none⟩ = some (.int .i64 0)) (hz2 : w.frozen? ⟨a2, 0, none⟩ = false) :
    CallsD Tryd.prog 27 #[.pointer (some ⟨a1, 0, none⟩), .pointer (some ⟨a2, 0, none⟩)] (.panicking [{ v := .iface (kindT k) (.int .i64 p), recovered := false }]) w fun e u' w' =>
      e = .returned (.tuple #[]) ∧ u' = .panicking [{ v := .iface (kindT k) (.int .i64 p), recovered := true }] ∧ w' = (w.setCell ⟨a1, 0, none⟩ (.int .i64 p)).setCell ⟨a2, 0, none⟩ (.int .i64 k) := by
  have t2 := ta_kind k 2 hk (by omega) (.int .i64 p)
  have t3 := ta_kind k 3 hk (by omega) (.int .i64 p)
  have t4 := ta_kind k 4 hk (by omega) (.int .i64 p)
  have t5 := ta_kind k 5 hk (by omega) (.int .i64 p)
  have hk4 : k = 2 ∨ k = 3 ∨ k = 4 ∨ k = 5 := by omega
  have hne' : ¬ a2 = a1 := fun h => hne h.symm
  rcases hk4 with rfl | rfl | rfl | rfl
  all_goals
    simp [kindT] at t2 t3 t4 t5
    refine callsD_of_wpS Tryd.func27 rfl fun c₀ cs hu => ?_
    apply wpS_seq
    apply wpS_region
    simp [wpOpsS, go_sem, recoverD, hu, Tryd.ntmps27, Exit.thenS, kindT]
    refine wpS_of_wp ?_
    simp only [Array.replicate]
    go_wp2_with fail
    simp [bodyPostS, results, Tryd.results27]

set_option maxHeartbeats 4000000 in
set_option maxRecDepth 100000 in
theorem catch_idle (a1 a2 : Addr) (w : World) :
    CallsD Tryd.prog 27 #[.pointer (some a1), .pointer (some a2)] .returning w fun e u' w' => e = .returned (.tuple #[]) ∧ u' = .returning ∧ w' = w := by
  refine callsD_of_wpS Tryd.func27 rfl fun c₀ cs hu => ?_
  apply wpS_seq
  apply wpS_region
  simp [wpOpsS, go_sem, recoverD, hu, Tryd.ntmps27, Exit.thenS]
  refine wpS_of_wp ?_
  simp only [Array.replicate]
  go_wp2_with fail
  cases c₀
  simp_all [bodyPostS, results, Tryd.results27]

def GetEnd (w : World) (e : Ending) (w' : World) (x : SX × Nat × Nat) : Prop :=
  ∃ v0 v1 v2 v3 v4, e = .returned (.tuple #[.agg #[v0, v1, v2, v3, v4], .int .i64 x.2.1, .int .i64 x.2.2]) ∧ SIn w' (fun k => w.heap.size ≤ k) x.1 [v0, v1, v2, v3, v4] ∧ Below w.heap.size w w'

set_option maxHeartbeats 4000000 in
set_option maxRecDepth 100000 in
theorem get_any (A : Option Addr) (n c : Nat) (b : List UInt8) (w : World) (hr : Reads w w.heap.size 1 A n (Lib.byteCells b)) (hc : n ≤ c) :
    Calls Tryd.prog 14 #[.slice A n c] w fun e w' => GetEnd w e w' (pGet b) := by
  have hmf : ∀ (fn : Fn) (first cap : Array Value) (w : World), (Instr.makeFunc fn first cap).run Tryd.prog w = .ok (.func fn first cap) w := fun _ _ _ _ => rfl
  generalize hPG : pGet b = PG
  have hz1 : (w.alloc (.cells #[.bool false, .bool false, .slice none 0 0, .slice none 0 0, .slice none 0 0] 25)).heap.size = w.heap.size + 1 := by simp
  have hz2 : ((w.alloc (.cells #[.bool false, .bool false, .slice none 0 0, .slice none 0 0, .slice none 0 0] 25)).alloc (.cells #[.int .i64 0] 3)).heap.size = w.heap.size + 1 + 1 := by simp
  have hz3 : (((w.alloc (.cells #[.bool false, .bool false, .slice none 0 0, .slice none 0 0, .slice none 0 0] 25)).alloc (.cells #[.int .i64 0] 3)).alloc (.cells #[.int .i64 0] 28)).heap.size = w.heap.size + 1 + 1 + 1 := by simp
  have b1 := below_new w (.cells #[.bool false, .bool false, .slice none 0 0, .slice none 0 0, .slice none 0 0] 25)
  have b2 := below_new (w.alloc (.cells #[.bool false, .bool false, .slice none 0 0, .slice none 0 0, .slice none 0 0] 25)) (.cells #[.int .i64 0] 3)
  have b3 := below_new ((w.alloc (.cells #[.bool false, .bool false, .slice none 0 0, .slice none 0 0, .slice none 0 0] 25)).alloc (.cells #[.int .i64 0] 3)) (.cells #[.int .i64 0] 28)
  have hb0 := b1.trans ((b2.mono (by omega)).trans (b3.mono (by omega)))
  have X1 : Box (((w.alloc (.cells #[.bool false, .bool false, .slice none 0 0, .slice none 0 0, .slice none 0 0] 25)).alloc (.cells #[.int .i64 0] 3)).alloc (.cells #[.int .i64 0] 28)) w.heap.size (.bool false) (.bool false) (.slice none 0 0) (.slice none 0 0) (.slice none 0 0) := below_at b3 (below_at b2 (heap_alloc_new w _))
  have X2 : (((w.alloc (.cells #[.bool false, .bool false, .slice none 0 0, .slice none 0 0, .slice none 0 0] 25)).alloc (.cells #[.int .i64 0] 3)).alloc (.cells #[.int .i64 0] 28)).heap[w.heap.size + 1]? = some (Obj.cells #[.int .i64 0] 3 (0, 0)) := by
    have := heap_alloc_new (w.alloc (.cells #[.bool false, .bool false, .slice none 0 0, .slice none 0 0, .slice none 0 0] 25)) (.cells #[.int .i64 0] 3)
    rw [hz1] at this
    exact below_at b3 this
  have X3 : (((w.alloc (.cells #[.bool false, .bool false, .slice none 0 0, .slice none 0 0, .slice none 0 0] 25)).alloc (.cells #[.int .i64 0] 3)).alloc (.cells #[.int .i64 0] 28)).heap[w.heap.size + 1 + 1]? = some (Obj.cells #[.int .i64 0] 28 (0, 0)) := by
    have := heap_alloc_new ((w.alloc (.cells #[.bool false, .bool false, .slice none 0 0, .slice none 0 0, .slice none 0 0] 25)).alloc (.cells #[.int .i64 0] 3)) (.cells #[.int .i64 0] 28)
    rw [hz2] at this
    exact this
  go_enter_defers Tryd.func14, Tryd.ntmps14
  go_wp2_with fail
  clear b1 b2 b3 hz1 hz2
  generalize (((w.alloc (.cells #[.bool false, .bool false, .slice none 0 0, .slice none 0 0, .slice none 0 0] 25)).alloc (.cells #[.int .i64 0] 3)).alloc (.cells #[.int .i64 0] 28)) = W at *
  have C := readAll_any A n c b W ((hr.keep (fun q hq => hb0.cell hq)).more hb0.size) hc
  rw [hPG] at C
  refine C.mono ?_
  intro e w3 hE
  obtain ⟨t, p, k⟩ := PG
  cases k with
  | zero =>
    obtain ⟨rfl, v0, v1, v2, v3, v4, rfl, hin, hb3⟩ := hE
    obtain ⟨l', h', hi', da', ks', B1, m1, j1, B2, m2, j2, B3, m3, j3, _, eE⟩ := hin.form_
    injection eE with eE0 eE; injection eE with eE1 eE; injection eE with eE2 eE; injection eE with eE3 eE; injection eE with eE4 eE
    subst eE0 eE1 eE2 eE3 eE4
    have hz4 := hb3.size
    obtain ⟨⟨d0, d1, d2, d3, d4⟩, dz⟩ := (X1.old hb3).all
    have dz0 := dz 0
    have dz1 := dz 1
    have dz2 := dz 2
    have dz3 := dz 3
    have dz4 := dz 4
    have Y2 := below_at hb3 X2
    have Y3 := below_at hb3 X3
    have g2 : w3.cell? ⟨w.heap.size + 1, 0, none⟩ = some (.int .i64 0) := by rw [Lib.cell_of_heap Y2]; rfl
    have g3 : w3.cell? ⟨w.heap.size + 1 + 1, 0, none⟩ = some (.int .i64 0) := by rw [Lib.cell_of_heap Y3]; rfl
    have gz2 : w3.frozen? ⟨w.heap.size + 1, 0, none⟩ = false := by simp [World.frozen?, Y2]
    have gz3 : w3.frozen? ⟨w.heap.size + 1 + 1, 0, none⟩ = false := by simp [World.frozen?, Y3]
    have hbF := ((put5_below (hb0.trans (hb3.mono hb0.size)) (Nat.le_refl _) (.bool l') (.bool h') (.slice B1 m1 j1) (.slice B2 m2 j2) (.slice B3 m3 j3)).setCell (p := ⟨w.heap.size + 1, 0, none⟩) (by show w.heap.size ≤ w.heap.size + 1; omega) (.int .i64 0)).setCell (p := ⟨w.heap.size + 1 + 1, 0, none⟩) (by show w.heap.size ≤ w.heap.size + 1 + 1; omega) (.int .i64 0)
    have hiF : SIn (((put5 w3 w.heap.size (.bool l') (.bool h') (.slice B1 m1 j1) (.slice B2 m2 j2) (.slice B3 m3 j3)).setCell ⟨w.heap.size + 1, 0, none⟩ (.int .i64 0)).setCell ⟨w.heap.size + 1 + 1, 0, none⟩ (.int .i64 0)) (fun k => w.heap.size ≤ k) t [.bool l', .bool h', .slice B1 m1 j1, .slice B2 m2 j2, .slice B3 m3 j3] :=
      (((((hin.more (S' := fun k => w.heap.size + 1 + 1 + 1 ≤ k) fun k hk => by omega).keep fun q hq => put5_far q (by omega)).far (p := ⟨w.heap.size + 1, 0, none⟩) (fun k hk => by show k ≠ w.heap.size + 1; omega) _).far (p := ⟨w.heap.size + 1 + 1, 0, none⟩) (fun k hk => by show k ≠ w.heap.size + 1 + 1; omega) _)).more fun k hk => by omega
    have HF := Lib.hid (And.intro hiF hbF)
    clear hiF hbF hin hb3 hb0 X1 X2 X3 Y2 Y3 dz
    go_wp2_with fail
    refine leaves_cons (f := 27) (args := #[.pointer (some ⟨w.heap.size + 1, 0, none⟩), .pointer (some ⟨w.heap.size + 1 + 1, 0, none⟩)]) (by simp) (by simp [go_sem]) ?_
    refine (catch_idle _ _ _).mono ?_
    rintro e u' w'' ⟨rfl, rfl, rfl⟩
    simp [Leaves, settle, results, Tryd.results14, go_sem, d0, d1, d2, d3, d4, g2, g3]
    exact ⟨_, _, _, _, _, rfl, HF.out⟩
  | succ k =>
    obtain ⟨rfl, hk1, hk2, hp, hth, hb3⟩ := hE
    have hth : e = .panicked [{ v := .iface (kindT (k + 1)) (.int .i64 (p : Nat)), recovered := false }] := hth
    subst hth
    have hz4 := hb3.size
    have Y1 := X1.old hb3
    have Y2 := below_at hb3 X2
    have Y3 := below_at hb3 X3
    have g2 : w3.cell? ⟨w.heap.size + 1, 0, none⟩ = some (.int .i64 0) := by rw [Lib.cell_of_heap Y2]; rfl
    have g3 : w3.cell? ⟨w.heap.size + 1 + 1, 0, none⟩ = some (.int .i64 0) := by rw [Lib.cell_of_heap Y3]; rfl
    have gz2 : w3.frozen? ⟨w.heap.size + 1, 0, none⟩ = false := by simp [World.frozen?, Y2]
    have gz3 : w3.frozen? ⟨w.heap.size + 1 + 1, 0, none⟩ = false := by simp [World.frozen?, Y3]
    obtain ⟨⟨d0, d1, d2, d3, d4⟩, -⟩ := Y1.all
    have hbF := ((hb0.trans (hb3.mono hb0.size)).setCell (p := ⟨w.heap.size + 1, 0, none⟩) (by show w.heap.size ≤ w.heap.size + 1; omega) (.int .i64 p)).setCell (p := ⟨w.heap.size + 1 + 1, 0, none⟩) (by show w.heap.size ≤ w.heap.size + 1 + 1; omega) (.int .i64 ((k + 1 : Nat) : Int))
    have hiF : SIn ((w3.setCell ⟨w.heap.size + 1, 0, none⟩ (.int .i64 p)).setCell ⟨w.heap.size + 1 + 1, 0, none⟩ (.int .i64 ((k + 1 : Nat) : Int))) (fun k => w.heap.size ≤ k) zeroS [.bool false, .bool false, .slice none 0 0, .slice none 0 0, .slice none 0 0] :=
      .mk (xs := []) RIn.none_ ⟨Nat.le_refl _, by omega⟩ RIn.none_ ⟨Nat.le_refl _, by omega⟩ RIn.none_ ⟨Nat.le_refl _, by omega⟩ rfl (fun i t hit => by simp at hit)
    have HF := Lib.hid (And.intro hiF hbF)
    clear hiF hbF hb3 hb0 X1 X2 X3 Y1 Y2 Y3
    go_wp2_with fail
    refine leaves_cons (f := 27) (args := #[.pointer (some ⟨w.heap.size + 1, 0, none⟩), .pointer (some ⟨w.heap.size + 1 + 1, 0, none⟩)]) (by simp) (by simp [go_sem]) ?_
    refine (catch_throw (k + 1) ⟨hk1, hk2⟩ p _ _ (by omega) _ g2 gz2 g3 gz3).mono ?_
    rintro e u' w'' ⟨rfl, rfl, rfl⟩
    simp [Leaves, settle, results, Tryd.results14, go_sem, d0, d1, d2, d3, d4, g2, g3]
    exact ⟨_, _, _, _, _, rfl, HF.out⟩
end Go.Proofs.YtaenahilnnlbfaaDoor
