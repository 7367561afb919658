/-
  The contracts of sha's tables. Conditions: those that each states.
-/
import Derived.Test.YtblielcmjdnlfaaShaRoot
import Derived.Deep.WholeRow
import Derived.WalkMore
import Derived.Deep.LoopGhost
set_option linter.unusedVariables false
namespace Go.Proofs.Ytblielcmjdnlfaa
open Go Go.Proofs Go.RowKit Sha5

def u64v (n : Nat) : Value := .int .u64 (n : Int)
def u64s (l : List Nat) : Array Value := (l.map u64v).toArray
theorem u64s_size (l : List Nat) : (u64s l).size = l.length := by simp [u64s]
theorem u64s_get (l : List Nat) (k : Nat) (h : k < l.length) : (u64s l)[k]? = some (.int .u64 ((l.getD k 0 : Nat) : Int)) := by
  simp [u64s, u64v, List.getD, List.getElem?_eq_getElem h]
theorem u64s_one (l : List Nat) : (u64s l).all (·.oneCell') = true := by
  simp only [u64s, Array.all_eq_true]
  intro i hi
  simp [u64v, Value.oneCell']

/-- a table, its first k entries told. -/
def part (l : List Nat) (n k : Nat) : List Nat := l.take k ++ List.replicate (n - k) 0
theorem part_length (l : List Nat) (n k : Nat) (h : l.length = n) (hk : k ≤ n) : (part l n k).length = n := by
  simp [part]; omega
theorem part_set (l : List Nat) (n k : Nat) (h : l.length = n) (hk : k < n) : (u64s (part l n k)).setIfInBounds k (.int .u64 ((l.getD k 0 : Nat) : Int)) = u64s (part l n (k + 1)) := by
  have e : (part l n k).set k (l.getD k 0) = part l n (k + 1) := by
    unfold part
    have e1 : (l.take k).length = k := by simp; omega
    rw [List.set_append_right _ _ (by omega), e1, Nat.sub_self, show n - k = (n - (k + 1)) + 1 by omega, List.replicate_succ, List.set_cons_zero]
    have hkl : k < l.length := by omega
    rw [List.take_succ_eq_append_getElem hkl, List.getD_eq_getElem?_getD, List.getElem?_eq_getElem hkl, List.append_assoc]
    rfl
  rw [← e]
  simp [u64s, u64v, List.map_set]
theorem part_zero (l : List Nat) (n : Nat) : part l n 0 = List.replicate n 0 := by simp [part]
theorem part_all (l : List Nat) (n : Nat) (h : l.length = n) : part l n n = l := by simp [part, ← h]

theorem sq_at (k : Nat) (hk : k < 8) : rootOk sqHigh (PRIMES.getD k 0) (isqrt (PRIMES.getD k 0)) (H0.list.getD k 0) = true := by
  have := sq_ok
  rw [List.all_eq_true] at this
  exact this k (List.mem_range.2 hk)
theorem cube_at (k : Nat) (hk : k < 80) : rootOk cube (PRIMES.getD k 0) (icbrt (PRIMES.getD k 0)) (KS.getD k 0) = true := by
  have := cube_ok
  rw [List.all_eq_true] at this
  exact this k (List.mem_range.2 hk)
theorem primes_lt (k : Nat) : PRIMES.getD k 0 < 512 := by
  rw [List.getD_eq_getElem?_getD]
  cases h : PRIMES[k]? with
  | none => decide
  | some x =>
    have := List.mem_of_getElem? h
    have hall : PRIMES.all (· < 512) = true := by decide +kernel
    rw [List.all_eq_true] at hall
    simpa using hall x this
theorem KS_lt (k : Nat) : KS.getD k 0 < M := by
  rw [List.getD_eq_getElem?_getD]
  cases h : KS[k]? with
  | none => decide
  | some x =>
    have := List.mem_of_getElem? h
    have hall : KS.all (· < M) = true := by decide +kernel
    rw [List.all_eq_true] at hall
    simpa using hall x this
theorem H0_lt (k : Nat) : H0.list.getD k 0 < M := by
  rw [List.getD_eq_getElem?_getD]
  cases h : H0.list[k]? with
  | none => decide
  | some x =>
    have := List.mem_of_getElem? h
    have hall : H0.list.all (· < M) = true := by decide +kernel
    rw [List.all_eq_true] at hall
    simpa using hall x this
theorem isqrt_lt (p : Nat) : isqrt p < 32 := by
  unfold isqrt
  have := List.length_filter_le (fun v => decide (0 < v) && decide (v * v < p)) (List.range 25)
  simp at this; omega
theorem icbrt_lt (p : Nat) : icbrt p < 32 := by
  unfold icbrt
  have := List.length_filter_le (fun v => decide (0 < v) && decide (v * v * v < p)) (List.range 25)
  simp at this; omega
theorem PRIMES_length : PRIMES.length = 80 := by decide +kernel
theorem KS_length : KS.length = 80 := by decide +kernel
theorem info37 : (Try.prog.info? 37).map (·.size) = some 8 := by kernel_rfl
theorem info39 : (Try.prog.info? 39).map (·.size) = some 80 := by kernel_rfl

theorem run_index_one {P : Program} {t e : TypeId} {len : Nat} (ht : P.underlying t = some (.array len e)) (ha : ∀ w, (isAgg e).run P w = .ok false w) (hs : ∀ w, (sizeOf e).run P w = .ok 1 w)
    (c : Array Value) (k : Nat) (v : Value) (hk : k < len) (hc : c[k]? = some v) (w : World) : (Instr.index t (.agg c) (.int .i64 (k : Int))).run P w = .ok v w := by
  unfold Instr.index
  simp [asIntOf, run_underlying ht, Result.andThen, Go.part, ha, hs, hc, hk]

theorem setRow_alloc1 (w : World) (c c' : Array Value) (t : TypeId) : (w.alloc (.cells c t)).setRow w.heap.size c' = w.alloc (.cells c' t) := World.setRow_alloc_new w c c' t
theorem setRow_alloc2 (w : World) (A : Obj) (c c' : Array Value) (t : TypeId) : ((w.alloc A).alloc (.cells c t)).setRow (w.heap.size + 1) c' = (w.alloc A).alloc (.cells c' t) := by
  have e : (w.alloc A).heap.size = w.heap.size + 1 := by
    show (w.heap.push A).size = _
    simp
  rw [← e]; exact World.setRow_alloc_new _ c c' t

set_option maxHeartbeats 2000000 in
set_option maxRecDepth 100000 in
theorem firstWords_any (w : World) :
    Calls Try.prog 20 #[.agg (u64s PRIMES)] w fun e w' => e = .returned (.agg (u64s H0.list)) ∧ Below w.heap.size w w' := by
  obtain ⟨c, hc⟩ : ∃ c, Hid (c = u64s PRIMES) := ⟨_, Lib.hid rfl⟩
  rw [← hc.out]
  go_enter Try.func20, Try.ntmps20
  go_wp2
  go_loopw [3, 4] (fun _ i wr => ∃ k d, k ≤ 8 ∧ i = .int .i64 (k : Nat) ∧ Hid (d = u64s (part H0.list 8 k)) ∧ wr = (w.alloc (.cells c 39)).alloc (.cells d 37)) (fun _ i _ => 8 - (intOf i).toNat)
  case atStart => exact ⟨0, _, Nat.zero_le _, rfl, Lib.hid (by rfl), rfl⟩
  case round =>
    obtain ⟨k, d, hk, rfl, hd, rfl⟩ := hrel
    have hds : Hid (d.size = 8) := by show _ = _; rw [hd.out, u64s_size, part_length H0.list 8 k rfl hk]
    by_cases hlt : k < 8
    · have hck : c[k]? = some (.int .u64 ((PRIMES.getD k 0 : Nat) : Int)) := by rw [hc.out]; exact u64s_get _ _ (by rw [PRIMES_length]; omega)
      have hR := Lib.hid (sq_at k hlt)
      have hP := primes_lt k
      have hF := H0_lt k
      have hI := isqrt_lt (PRIMES.getD k 0)
      have hset := part_set H0.list 8 k rfl hlt
      rw [← hd.out] at hset
      have HS := Lib.hid hset
      clear hset
      generalize isqrt (PRIMES.getD k 0) = W at *
      generalize PRIMES.getD k 0 = p at *
      generalize H0.list.getD k 0 = F at *
      have hdk : ∃ u, d[k]? = some u := ⟨_, Array.getElem?_eq_getElem (by rw [hds.out]; exact hlt)⟩
      obtain ⟨u, hdk⟩ := hdk
      go_wp2_with fail
      refine (rootSq_any p W F hP hI hF hR.out _).mono ?_
      rintro e w' ⟨rfl, rfl⟩
      go_wp2
      exact ⟨⟨k + 1, _, by omega, by go_num, HS.out, rfl⟩, by simp [intOf]; omega⟩
    · obtain rfl : k = 8 := by omega
      have hd8 : d = #[.int .u64 7640891576956012808, .int .u64 13503953896175478587, .int .u64 4354685564936845355, .int .u64 11912009170470909681, .int .u64 5840696475078001361, .int .u64 11170449401992604703, .int .u64 2270897969802886507, .int .u64 6620516959819538809] := by
        rw [hd.out]; rfl
      subst hd8
      clear hd hds
      go_wp2
      refine bodyPost_ret (v := .agg #[.int .u64 7640891576956012808, .int .u64 13503953896175478587, .int .u64 4354685564936845355, .int .u64 11912009170470909681, .int .u64 5840696475078001361, .int .u64 11170449401992604703, .int .u64 2270897969802886507, .int .u64 6620516959819538809]) ?_ rfl ⟨rfl, ?_⟩
      · simp [results, Try.results20, go_sem]
      · exact ((Below.refl _ _).alloc (Nat.le_refl _) _).alloc (by simp) _

set_option maxHeartbeats 2000000 in
set_option maxRecDepth 100000 in
theorem constants_any (w : World) :
    Calls Try.prog 21 #[.agg (u64s PRIMES)] w fun e w' => e = .returned (.agg (u64s KS)) ∧ Below w.heap.size w w' := by
  obtain ⟨c, hc⟩ : ∃ c, Hid (c = u64s PRIMES) := ⟨_, Lib.hid rfl⟩
  obtain ⟨z, hz⟩ : ∃ z, Hid (z = u64s (List.replicate 80 0)) := ⟨_, Lib.hid rfl⟩
  have hz0 : ∀ W, (zeroValue 39).run Try.prog W = .ok (.agg z) W := by
    rw [hz.out]; exact (zero_of_info (n := 80) (by kernel_rfl)).1
  rw [← hc.out]
  have hcs : Hid (c.size = 80) := by show _ = _; rw [hc.out, u64s_size, PRIMES_length]
  go_enter Try.func21, Try.ntmps21
  go_wp2_with (first | (refine wpList_load_row rfl 39 (.tmp 1) rfl w.heap.size rfl 39 c (0, 0) _ (heap_alloc2_old w _ _) Try.underlying39 rfl (by rw [hcs.out]; exact info39) ?_))
  clear hcs hz0
  go_loopw [3, 4, 6] (fun _ _ i wr => ∃ k d, k ≤ 80 ∧ i = .int .i64 (k : Nat) ∧ Hid (d = u64s (part KS 80 k)) ∧ wr = (w.alloc (.cells c 39)).alloc (.cells d 39)) (fun _ _ i _ => 80 - (intOf i).toNat)
  case atStart => exact ⟨0, _, Nat.zero_le _, rfl, Lib.hid (by rw [hz.out, part_zero]), rfl⟩
  case round =>
    obtain ⟨k, d, hk, rfl, hd, rfl⟩ := hrel
    have hds : Hid (d.size = 80) := by show _ = _; rw [hd.out, u64s_size, part_length KS 80 k KS_length hk]
    by_cases hlt : k < 80
    · have hck : c[k]? = some (.int .u64 ((PRIMES.getD k 0 : Nat) : Int)) := by rw [hc.out]; exact u64s_get _ _ (by rw [PRIMES_length]; omega)
      have hR := Lib.hid (cube_at k hlt)
      have hP := primes_lt k
      have hF := KS_lt k
      have hI := icbrt_lt (PRIMES.getD k 0)
      have hset := part_set KS 80 k KS_length hlt
      rw [← hd.out] at hset
      have HS := Lib.hid hset
      clear hset
      generalize icbrt (PRIMES.getD k 0) = W at *
      generalize PRIMES.getD k 0 = p at *
      generalize KS.getD k 0 = F at *
      have hdk : ∃ u, d[k]? = some u := ⟨_, Array.getElem?_eq_getElem (by rw [hds.out]; exact hlt)⟩
      obtain ⟨u, hdk⟩ := hdk
      have hix := run_index_one (P := Try.prog) Try.underlying39 Try.isAgg36 Try.sizeOf36 c k _ hlt hck
      go_wp2_with fail
      refine (rootCu_any p W F hP hI hF hR.out _).mono ?_
      rintro e w' ⟨rfl, rfl⟩
      go_wp2
      exact ⟨⟨k + 1, _, by omega, by go_num, HS.out, rfl⟩, by simp [intOf]; omega⟩
    · obtain rfl : k = 80 := by omega
      have hd8 : Hid (d = u64s KS) := by show _ = _; rw [hd.out, part_all _ _ KS_length]
      have hdo : Hid (d.all (·.oneCell') = true) := by show _ = _; rw [hd8.out]; exact u64s_one _
      go_wp2_with (first | (refine wpList_load_row rfl 39 (.tmp 2) rfl (w.heap.size + 1) rfl 39 d (0, 0) _ (heap_alloc2_new w _ _) Try.underlying39 rfl (by rw [hds.out]; exact info39) ?_) |
        (refine wpList_store_row rfl 39 (.tmp 2) (.tmp 15) rfl (w.heap.size + 1) d rfl rfl 39 d (heap_alloc2_new w _ _) (by rw [hds.out]; exact info39) rfl hdo.out ?_; rw [setRow_alloc2]))
      refine bodyPost_ret (v := .agg d) ?_ rfl ⟨by rw [hd8.out], ?_⟩
      · exact results_cell_row Try.results21 _ _ (w.heap.size + 1) 39 d (0, 0) _ rfl (heap_alloc2_new w _ _) Try.underlying39 rfl (by rw [hds.out]; exact info39)
      · exact ((Below.refl _ _).alloc (Nat.le_refl _) _).alloc (by simp) _

theorem scan_at (k n : Nat) (hk : k < 80) (h1 : (if k = 0 then 2 else PRIMES.getD (k - 1) 0 + 1) ≤ n) (h2 : n ≤ PRIMES.getD k 0) : scan n (PRIMES.take k) = decide (n = PRIMES.getD k 0) := by
  have := primes_ok
  unfold primesOk at this
  rw [List.all_eq_true] at this
  have h := this k (List.mem_range.2 hk)
  rw [List.all_eq_true] at h
  have hb : PRIMES.getD k 0 < 420 := by
    have hall : (List.range 80).all (fun k => decide (PRIMES.getD k 0 < 420)) = true := by decide +kernel
    rw [List.all_eq_true] at hall
    simpa using hall k (List.mem_range.2 hk)
  have h3 := h n (List.mem_range.2 (by omega))
  rw [decide_eq_true h1, decide_eq_true h2] at h3
  simpa using h3

def low (k : Nat) : Nat := if k = 0 then 2 else PRIMES.getD (k - 1) 0 + 1
theorem low_next (k : Nat) : low (k + 1) = PRIMES.getD k 0 + 1 := by simp [low]
theorem low_le (k : Nat) (hk : k < 80) : low k ≤ PRIMES.getD k 0 := by
  have hall : (List.range 80).all (fun k => decide (low k ≤ PRIMES.getD k 0)) = true := by decide +kernel
  rw [List.all_eq_true] at hall
  simpa using hall k (List.mem_range.2 hk)
theorem primes_le (k : Nat) (hk : k < 80) : PRIMES.getD k 0 ≤ 409 := by
  have hall : (List.range 80).all (fun k => decide (PRIMES.getD k 0 ≤ 409)) = true := by decide +kernel
  rw [List.all_eq_true] at hall
  simpa using hall k (List.mem_range.2 hk)
theorem part_get (l : List Nat) (n k i : Nat) (hi : i < k) (hk : k ≤ l.length) : (u64s (part l n k))[i]? = some (.int .u64 ((l.getD i 0 : Nat) : Int)) := by
  rw [u64s_get _ _ (by simp [part]; omega)]
  have : (part l n k).getD i 0 = l.getD i 0 := by
    rw [List.getD_eq_getElem?_getD, List.getD_eq_getElem?_getD, part, List.getElem?_append_left (by simp; omega), List.getElem?_take, if_pos hi]
  rw [this]

def Outer (w : World) (k n : Nat) (wr : World) : Prop :=
  ∃ d, wr = w.alloc (.cells d 39) ∧ d = u64s (part PRIMES 80 k) ∧ k ≤ 80 ∧ (k < 80 → low k ≤ n ∧ n ≤ PRIMES.getD k 0) ∧ n ≤ 410

theorem outer_new {w : World} {k n : Nat} {d : Array Value} (hd : d = u64s (part PRIMES 80 k)) (hk : k < 80) (h1 : low k ≤ n) (h2 : n ≤ PRIMES.getD k 0) (hs : scan n (PRIMES.take k) = true) :
    Outer w (k + 1) (n + 1) (w.alloc (.cells (d.setIfInBounds k (.int .u64 (n : Int))) 39)) := by
  rw [scan_at k n hk h1 h2] at hs
  have e : n = PRIMES.getD k 0 := by simpa using hs
  have hp := primes_le k hk
  refine ⟨_, rfl, ?_, by omega, fun h => ?_, by omega⟩
  · rw [hd, e]; exact part_set PRIMES 80 k PRIMES_length hk
  · have := low_le (k + 1) h
    have e2 := low_next k
    omega
theorem outer_no {w : World} {k n : Nat} {d : Array Value} (hd : d = u64s (part PRIMES 80 k)) (hk : k < 80) (h1 : low k ≤ n) (h2 : n ≤ PRIMES.getD k 0) (hs : scan n (PRIMES.take k) = false) :
    Outer w k (n + 1) (w.alloc (.cells d 39)) := by
  rw [scan_at k n hk h1 h2] at hs
  have e : ¬ n = PRIMES.getD k 0 := by simpa using hs
  have hp := primes_le k hk
  exact ⟨_, rfl, hd, by omega, fun h => by omega, by omega⟩
theorem scan_drop (n k i : Nat) (hi : i < k) (hk : k ≤ 80) : scan n ((PRIMES.take k).drop i) =
    if n < PRIMES.getD i 0 * PRIMES.getD i 0 then true else if n % PRIMES.getD i 0 = 0 then false else scan n ((PRIMES.take k).drop (i + 1)) := by
  have hl : i < (PRIMES.take k).length := by simp [PRIMES_length]; omega
  rw [List.drop_eq_getElem_cons hl]
  have e : (PRIMES.take k)[i] = PRIMES.getD i 0 := by
    rw [List.getElem_take, List.getD_eq_getElem?_getD, List.getElem?_eq_getElem (by rw [PRIMES_length]; omega)]; rfl
  rw [e]; rfl
theorem scan_end (n k : Nat) (hk : k ≤ 80) : scan n ((PRIMES.take k).drop k) = true := by
  rw [List.drop_of_length_le (by simp; omega)]; rfl
theorem primes_pos (i : Nat) (hi : i < 80) : 2 ≤ PRIMES.getD i 0 := by
  have hall : (List.range 80).all (fun k => decide (2 ≤ PRIMES.getD k 0)) = true := by decide +kernel
  rw [List.all_eq_true] at hall
  simpa using hall i (List.mem_range.2 hi)

set_option maxHeartbeats 4000000 in
set_option maxRecDepth 100000 in
theorem primes_any (w : World) :
    Calls Try.prog 19 #[] w fun e w' => e = .returned (.agg (u64s PRIMES)) ∧ Below w.heap.size w w' := by
  obtain ⟨z, hz⟩ : ∃ z, Hid (z = u64s (List.replicate 80 0)) := ⟨_, Lib.hid rfl⟩
  have hz0 : ∀ W, (zeroValue 39).run Try.prog W = .ok (.agg z) W := by
    rw [hz.out]; exact (zero_of_info (n := 80) (by kernel_rfl)).1
  have hal : Try.prog.arrayLen 39 = 80 := by kernel_rfl
  have hel : Try.prog.elem 39 = 36 := by kernel_rfl
  go_enter Try.func19, Try.ntmps19
  go_wp2
  go_step3
  go_wp2
  go_step3
  go_wp2
  clear hz0
  go_loopg [1, 2] 500 (fun g kv nv wr => ∃ k n, kv = .int .i64 (k : Nat) ∧ nv = .int .u64 (n : Nat) ∧ Outer w k n wr ∧ g + n = 502)
  case atStart => exact ⟨0, 2, rfl, rfl, ⟨z, rfl, by rw [hz.out, part_zero], by omega, fun _ => ⟨by decide, by decide⟩, by omega⟩, rfl⟩
  case round =>
    obtain ⟨k, n, rfl, rfl, ⟨d, rfl, hd, hk, hb, hn⟩, hg⟩ := hrel
    have HD := Lib.hid hd
    have hds : Hid (d.size = 80) := by show _ = _; rw [hd, u64s_size, part_length PRIMES 80 k PRIMES_length hk]
    have HG := Lib.hid hg
    obtain ⟨G, hG⟩ : ∃ G, Hid (gk = G + 1 ∧ G + (n + 1) = 502) := ⟨gk - 1, Lib.hid ⟨by omega, by omega⟩⟩
    clear hd hg
    by_cases hlt : k < 80
    · obtain ⟨hb1, hb2⟩ := hb hlt
      clear hb
      have hk80 : (k : Int) ≤ 80 := by omega
      go_wp2
      clear hal hel
      go_loopg [4, 12] k (fun g _ iv w1 => ∃ i, iv = .int .i64 (i : Nat) ∧ i ≤ k ∧ w1 = w.alloc (.cells d 39) ∧ Hid (scan n ((PRIMES.take k).drop i) = scan n (PRIMES.take k)) ∧ Hid (g + i = k))
      case atStart => exact ⟨0, rfl, Nat.zero_le _, rfl, Lib.hid rfl, Lib.hid rfl⟩
      case round =>
        obtain ⟨i, rfl, hik, rfl, hsc, hgi⟩ := hrel
        have hdk : ∃ u, d[k]? = some u := ⟨_, Array.getElem?_eq_getElem (by rw [hds.out]; exact hlt)⟩
        obtain ⟨u, hdk⟩ := hdk
        by_cases hi : i < k
        · have hsd := scan_drop n k i hi hk
          have hcell : d[i]? = some (.int .u64 ((PRIMES.getD i 0 : Nat) : Int)) := by rw [HD.out]; exact part_get PRIMES 80 k i hi (by rw [PRIMES_length]; omega)
          have hp1 := primes_pos i (by omega)
          have hp2 := primes_le i (by omega)
          generalize PRIMES.getD i 0 = p at *
          have HSD := Lib.hid hsd
          clear hsd
          have hpp : p * p ≤ 409 * 409 := Nat.mul_le_mul hp2 hp2
          obtain ⟨q, hq⟩ := named (p * p)
          rw [← hq.out] at hpp
          have hw := wrap_mul p p q (by rw [hq.out] at hpp ⊢; exact (Nat.mod_eq_of_lt (by unfold M; omega)).symm)
          by_cases hpn : n < q
          · have hT : Hid (scan n (PRIMES.take k) = true) := by
              show _ = _
              rw [← hsc.out, HSD.out, if_pos (by rw [← hq.out]; exact hpn)]
            go_wp2
            go_roundg G
            case measure => have := hG.out; omega
            case rel => exact ⟨k + 1, n + 1, by go_num, by go_num, outer_new HD.out hlt hb1 hb2 hT.out, hG.out.2⟩
          · obtain ⟨r, hr⟩ := named (n % p)
            have hrm : ((n : Int) % (p : Int)) = (r : Int) := by rw [hr.out]; simp
            by_cases hr0 : r = 0
            · have hF : Hid (scan n (PRIMES.take k) = false) := by
                show _ = _
                rw [← hsc.out, HSD.out, if_neg (by rw [← hq.out]; exact hpn), if_pos (by rw [← hr.out]; exact hr0)]
              subst hr0
              go_wp2
              go_roundg G
              case measure => have := hG.out; omega
              case rel => exact ⟨k, n + 1, rfl, by go_num, outer_no HD.out hlt hb1 hb2 hF.out, hG.out.2⟩
            · have hS : Hid (scan n ((PRIMES.take k).drop (i + 1)) = scan n (PRIMES.take k)) := by
                show _ = _
                rw [← hsc.out, HSD.out, if_neg (by rw [← hq.out]; exact hpn), if_neg (by rw [← hr.out]; exact hr0)]
              have hrz : ((r : Int) == 0) = false := by simp; omega
              go_wp2
              go_roundg (gk - 1)
              case measure => have := hgi.out; omega
              case rel => exact ⟨i + 1, by go_num, by omega, rfl, hS, Lib.hid (by have := hgi.out; omega)⟩
        · obtain rfl : i = k := by omega
          have hT : Hid (scan n (PRIMES.take i) = true) := by
            show _ = _
            rw [← hsc.out, scan_end n i hk]
          go_wp2
          go_roundg G
          case measure => have := hG.out; omega
          case rel => exact ⟨i + 1, n + 1, by go_num, by go_num, outer_new HD.out hlt hb1 hb2 hT.out, hG.out.2⟩
    · obtain rfl : k = 80 := by omega
      have hd8 : Hid (d = u64s PRIMES) := by show _ = _; rw [HD.out, part_all _ _ PRIMES_length]
      have hdo : Hid (d.all (·.oneCell') = true) := by show _ = _; rw [hd8.out]; exact u64s_one _
      clear hal hel
      go_wp2_with (first | (refine wpList_load_row rfl 39 (.tmp 0) rfl w.heap.size rfl 39 d (0, 0) _ (heap_alloc_new w _) Try.underlying39 rfl (by rw [hds.out]; exact info39) ?_) |
        (refine wpList_store_row rfl 39 (.tmp 0) (.tmp 31) rfl w.heap.size d rfl rfl 39 d (heap_alloc_new w _) (by rw [hds.out]; exact info39) rfl hdo.out ?_; rw [setRow_alloc1]))
      rw [Exit.noGoto_ret]
      refine bodyPost_ret (v := .agg d) ?_ rfl ⟨by rw [hd8.out], ?_⟩
      · exact results_cell_row Try.results19 _ _ w.heap.size 39 d (0, 0) _ rfl (heap_alloc_new w _) Try.underlying39 rfl (by rw [hds.out]; exact info39)
      · exact (Below.refl _ _).alloc (Nat.le_refl _) _
end Go.Proofs.Ytblielcmjdnlfaa
