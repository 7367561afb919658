/-
  The contract of sha's schedule: the words of a block. Condition: the block has 128 bytes.
-/
import Derived.Test.YtblielcmjdnlfaaShaBlk
import Derived.Test.YtblielcmjdnlfaaShaSchedM
import Derived.Deep.RegionHeld3
set_option linter.unusedVariables false
set_option linter.unusedSimpArgs false
namespace Go.Proofs.Ytblielcmjdnlfaa
open Go Go.Proofs Go.RowKit Sha5

theorem u64s_set (l : List Nat) (k x : Nat) : (u64s l).setIfInBounds k (.int .u64 (x : Int)) = u64s (l.set k x) := by
  simp [u64s, u64v, List.map_set]

theorem Drew.refl (w : World) : Drew w w := ⟨0, rfl⟩
theorem Drew.one (w : World) : Drew w w.drew := ⟨1, rfl⟩
theorem drewN_add (w : World) (m : Nat) : ∀ n, (w.drewN m).drewN n = w.drewN (m + n)
  | 0 => rfl
  | n + 1 => by rw [← Nat.add_assoc]; show ((w.drewN m).drewN n).drew = (w.drewN (m + n)).drew; rw [drewN_add w m n]
theorem Drew.trans {w w' w'' : World} (h : Drew w w') (h' : Drew w' w'') : Drew w w'' := by
  obtain ⟨m, rfl⟩ := h
  obtain ⟨n, rfl⟩ := h'
  exact ⟨m + n, drewN_add w m n⟩
theorem Drew.cell {w w' : World} (h : Drew w w') (p : Addr) : w'.cell? p = w.cell? p := by obtain ⟨n, rfl⟩ := h; rfl
theorem Drew.frozen {w w' : World} (h : Drew w w') (p : Addr) : w'.frozen? p = w.frozen? p := by obtain ⟨n, rfl⟩ := h; rfl

/-- The table lies whole in its block, as it was or with the one entry stored. -/
def Kept (w : World) (g T : Nat) (d : Array Value) (m : Nat) (v : Value) (W : World) : Prop := ∃ e, Blk W g T e ∧ (e = d ∨ e = d.setIfInBounds m v) ∧ Below w.heap.size w W
theorem Kept.drew {w W W' : World} {g T m : Nat} {d : Array Value} {v : Value} (h : Kept w g T d m v W) (hd : Drew W W') : Kept w g T d m v W' := by
  obtain ⟨n, rfl⟩ := hd
  obtain ⟨e, h1, h2, h3⟩ := h
  refine ⟨e, h1.drewN n, h2, ?_⟩
  clear h1 h2
  induction n with
  | zero => exact h3
  | succ n ih => exact ih.drew
theorem Kept.set {w W : World} {g T m : Nat} {d : Array Value} {v : Value} (h : Kept w g T d m v W) (hg : w.heap.size ≤ g) :
    Blk (W.setCell ⟨g, m, none⟩ v) g T (d.setIfInBounds m v) ∧ Below w.heap.size w (W.setCell ⟨g, m, none⟩ v) := by
  obtain ⟨e, h1, h2, h3⟩ := h
  refine ⟨?_, h3.setCell (p := ⟨g, m, none⟩) hg v⟩
  have := h1.set_ m v
  rcases h2 with rfl | rfl
  · exact this
  · rw [Array.setIfInBounds_setIfInBounds] at this
    exact this
theorem Kept.cell {w W : World} {g T m : Nat} {d : Array Value} {v u : Value} (h : Kept w g T d m v W) (j : Nat) (hj : m ≠ j) (hu : d[j]? = some u) : W.cell? ⟨g, j, none⟩ = some u := by
  obtain ⟨e, h1, h2, h3⟩ := h
  rw [h1.cell]
  rcases h2 with rfl | rfl
  · exact hu
  · rw [Array.getElem?_setIfInBounds_ne hj]; exact hu
theorem Kept.at_ {w W : World} {g T m : Nat} {d : Array Value} {v : Value} (h : Kept w g T d m v W) (hm : m < d.size) : (∃ u, W.cell? ⟨g, m, none⟩ = some u) ∧ W.frozen? ⟨g, m, none⟩ = false := by
  obtain ⟨e, h1, h2, h3⟩ := h
  refine ⟨?_, h1.frozen m⟩
  rw [h1.cell]
  rcases h2 with rfl | rfl
  · exact ⟨_, Array.getElem?_eq_getElem hm⟩
  · exact ⟨_, Array.getElem?_eq_getElem (by simpa using hm)⟩

theorem setRow_self {w : World} {g t : Nat} {c : Array Value} (h : Blk w g t c) : w.setRow g c = w := by
  have e : (w.setRow g c).heap = w.heap := by
    apply Array.ext_getElem?
    intro i
    unfold World.setRow
    rw [Array.getElem?_modify]
    by_cases hi : g = i
    · subst hi
      unfold Blk at h
      rw [if_pos rfl, h]; rfl
    · rw [if_neg hi]
  show { w with heap := (w.setRow g c).heap } = w
  rw [e]

theorem step_store_run {P : Program} {ops : Array Oper} {o : Oper} {a : Act} {K : Act → World → Prop} {Q : Exit → Act → World → Prop} {E : Prop} {w w' : World} (hgd : o.guard = none) (t : TypeId) (x y : Operand)
    (ho : o.op = .store t x y) (p : Addr) (v : Value) (hx : a.eval x = .pointer (some p)) (hy : a.eval y = v) (hrun : (Instr.storeAt t (.pointer (some p)) v).run P w = .ok () w')
    (h : K (a.put o.dst undef) w') : if Region.wanted o (yielded ops a.tmps) = true then Oper.wp P o a w K Q else E := by
  have hw : Region.wanted o (yielded ops a.tmps) = true := by simp [Region.wanted, hgd]
  rw [if_pos hw]
  unfold Oper.wp execOp
  simp only [ho, hx, hy, Sem.run_bind, hrun, Result.andThen_ok]
  exact h
theorem store_u64_run (w : World) (p : Addr) (n : Int) (u : Value) (hc : w.cell? p = some u) (hf : w.frozen? p = false) :
    (Instr.storeAt 36 (.pointer (some p)) (.int .u64 n)).run Try.prog w = .ok () (w.setCell p (.int .u64 n)) := by
  have h1 := Try.isAgg36
  have h2 := Try.sizeOf36
  simp [go_sem, hc, hf]

def SchedAt (w : World) (b : List UInt8) (n : Nat) (wr : World) : Prop := ∃ d, Blk wr (w.heap.size + 1) 39 d ∧ d = u64s (grownW b n) ∧ Below w.heap.size w wr

set_option maxHeartbeats 4000000 in
set_option maxRecDepth 100000 in
theorem schedule_any (b : List UInt8) (hb : b.length = 128) (w : World) :
    Calls Try.prog 29 #[.agg (bytesA b)] w fun e w' => e = .returned (.agg (u64s (sched b))) ∧ Below w.heap.size w w' := by
  obtain ⟨c, hc⟩ : ∃ c, Hid (c = bytesA b) := ⟨_, Lib.hid rfl⟩
  obtain ⟨z, hz⟩ : ∃ z, Hid (z = u64s (List.replicate 80 0)) := ⟨_, Lib.hid rfl⟩
  have hz0 : ∀ W, (zeroValue 39).run Try.prog W = .ok (.agg z) W := by
    rw [hz.out]; exact (zero_of_info (n := 80) (by kernel_rfl)).1
  have hcs : Hid (c.size = 128) := by show _ = _; rw [hc.out, bytesA_size, hb]
  have HB := Lib.hid hb
  rw [← hc.out]
  clear hb
  have i46 : (Try.prog.info? 46).map (·.size) = some 128 := by kernel_rfl
  have I46 := Lib.hid i46
  clear i46
  go_enter Try.func29, Try.ntmps29
  go_wp2_with (first | (refine wpList_load_row rfl 46 (.tmp 1) rfl w.heap.size rfl 46 c (0, 0) _ (heap_alloc2_old w _ _) Try.underlying46 rfl (by rw [hcs.out]; exact I46.out) ?_))
  clear hz0
  go_loopw [3, 4, 7] (fun _ _ i wr => ∃ k d, k ≤ 128 ∧ i = .int .i64 (k : Nat) ∧ Hid (d = u64s (partW b k)) ∧ wr = (w.alloc (.cells c 46)).alloc (.cells d 39)) (fun _ _ i _ => 128 - (intOf i).toNat)
  case atStart => exact ⟨0, _, Nat.zero_le _, rfl, Lib.hid (by rw [hz.out, partW_zero]), rfl⟩
  case round =>
    obtain ⟨k, d, hk, rfl, hd, rfl⟩ := hrel
    have hds : Hid (d.size = 80) := by show _ = _; rw [hd.out, u64s_size, partW_length]
    by_cases hlt : k < 128
    · have hck : c[k]? = some (.int .u8 ((b.getD k 0).toNat : Int)) := by rw [hc.out]; exact bytesA_get _ _ (by rw [HB.out]; omega)
      have hstep := partW_step b k (by rw [HB.out]; exact hlt) (by rw [HB.out]; omega)
      have hdk : d[k / 8]? = some (.int .u64 (((partW b k).getD (k / 8) 0 : Nat) : Int)) := by
        rw [hd.out]; exact u64s_get _ _ (by rw [partW_length]; omega)
      have hxl : (partW b k).getD (k / 8) 0 < M := by rw [partW_get b k _ (by omega)]; exact wordOf_lt _
      have hor := word_or ((partW b k).getD (k / 8) 0) (b.getD k 0)
      have hyl := (b.getD k 0).toNat_lt
      rw [← hor] at hstep
      clear hor
      generalize (b.getD k 0).toNat = y at *
      generalize (partW b k).getD (k / 8) 0 = x at *
      obtain ⟨x2, hx2⟩ := named (x * 2 ^ 8 % M)
      have hwx : IntKind.u64.wrap ((x : Int) * 256) = (x2 : Int) := wrap_mul x 256 x2 hx2.out
      have hx2l : x2 < M := by rw [hx2.out]; exact Nat.mod_lt _ (by decide)
      have hor2 := bits_or_u64_nat x2 y hx2l (by omega)
      obtain ⟨o, ho⟩ := named (x2 ||| y)
      rw [← ho.out] at hor2
      have hset : Hid (d.setIfInBounds (k / 8) (.int .u64 (o : Int)) = u64s (partW b (k + 1))) := by
        show _ = _
        rw [hd.out, u64s_set, ho.out, hx2.out, hstep]
      clear hstep
      obtain ⟨q, hq⟩ := named (k / 8)
      have hq2 : (k : Int) / 8 = (q : Int) := by have := hq.out; omega
      have hq3 : q < 80 := by have := hq.out; omega
      rw [← hq.out] at hdk hset
      have hix := run_index_one (P := Try.prog) Try.underlying46 Try.isAgg5 Try.sizeOf5 c k _ hlt hck
      go_wp2
      exact ⟨⟨k + 1, _, by omega, by go_num, hset.out, rfl⟩, by simp [intOf]; omega⟩
    · obtain rfl : k = 128 := by omega
      have hd2 : d = u64s (grownW b 0) := by rw [hd.out, partW_all b HB.out, grownW_zero]
      have hsb : SchedAt w b 0 ((w.alloc (.cells c 46)).alloc (.cells d 39)) := ⟨d, heap_alloc2_new w _ _, hd2, ((Below.refl _ _).alloc (Nat.le_refl _) _).alloc (by simp) _⟩
      clear hd hd2 hds
      go_wp2_with fail
      generalize ((w.alloc (.cells c 46)).alloc (.cells d 39)) = w0 at *
      rw [show ((128 : Nat) : Int) = 128 from rfl]
      go_loopw [5] (fun i wr => ∃ m, 16 ≤ m ∧ m ≤ 80 ∧ i = .int .i64 (m : Nat) ∧ SchedAt w b (m - 16) wr) (fun i _ => 80 - (intOf i).toNat)
      case atStart => exact ⟨16, by omega, by omega, rfl, hsb⟩
      case round =>
        obtain ⟨m, hm1, hm2, rfl, d', hB, hd', hbel⟩ := hrel
        have hds : Hid (d'.size = 80) := by show _ = _; rw [hd', u64s_size, grownW_length _ _ (by omega)]
        by_cases hlt : m < 80
        · have hstep := grownW_step b (m - 16) (by omega)
          rw [show 14 + (m - 16) = m - 2 by omega, show 9 + (m - 16) = m - 7 by omega, show 1 + (m - 16) = m - 15 by omega, show 16 + (m - 16) = m by omega, show m - 16 + 1 = m + 1 - 16 by omega] at hstep
          have hl : ∀ t, (grownW b (m - 16)).getD t 0 < M := fun t => getD_lt (fun x hx => by
            rw [grownW, List.mem_append] at hx
            rcases hx with h | h
            · exact schedN_lt b _ x h
            · rw [(List.mem_replicate.1 h).2]; decide) t
          have hg : ∀ t, t < 80 → wr.cell? ⟨w.heap.size + 1, t, none⟩ = some (.int .u64 (((grownW b (m - 16)).getD t 0 : Nat) : Int)) := fun t ht => by
            rw [hB.cell, hd']; exact u64s_get _ _ (by rw [grownW_length _ _ (by omega)]; exact ht)
          have h2 := hg (m - 2) (by omega)
          have h7 := hg (m - 7) (by omega)
          have h15 := hg (m - 15) (by omega)
          have h16 := hg (m - 16) (by omega)
          have h0 := hg m (by omega)
          have hf := hB.frozen m
          have l2 := hl (m - 2)
          have l7 := hl (m - 7)
          have l15 := hl (m - 15)
          have l16 := hl (m - 16)
          generalize (grownW b (m - 16)).getD (m - 2) 0 = x2 at *
          generalize (grownW b (m - 16)).getD (m - 7) 0 = x7 at *
          generalize (grownW b (m - 16)).getD (m - 15) 0 = x15 at *
          generalize (grownW b (m - 16)).getD (m - 16) 0 = x16 at *
          generalize (grownW b (m - 16)).getD m 0 = x0 at *
          obtain ⟨a1, ha1⟩ := named (s1 x2)
          obtain ⟨a2, ha2⟩ := named ((a1 + x7) % M)
          obtain ⟨a3, ha3⟩ := named (s0 x15)
          obtain ⟨a4, ha4⟩ := named ((a2 + a3) % M)
          obtain ⟨a5, ha5⟩ := named ((a4 + x16) % M)
          have e1 := wrap_sum a1 x7 a2 ha2.out
          have e2 := wrap_sum a2 a3 a4 ha4.out
          have e3 := wrap_sum a4 x16 a5 ha5.out
          have hset : Hid (u64s ((grownW b (m - 16)).set m a5) = u64s (grownW b (m + 1 - 16))) := by
            show _ = _
            rw [← hstep, ha5.out, ha4.out, ha3.out, ha2.out, ha1.out]
            congr 2
            simp only [Nat.mod_add_mod, Nat.add_mod_mod]
          clear hstep hl hg
          have HBk := Lib.hid hB
          have HD := Lib.hid hd'
          clear hB hd'
          have c1 : ∀ W : World, Calls Try.prog 37 #[.int .u64 (x2 : Int), .int .i64 19, .int .i64 61, .int .i64 6] W fun e w' => e = .returned (.int .u64 (a1 : Int)) ∧ Drew W w' := fun W =>
            (moved_any x2 19 61 6 l2 (by omega) (by omega) (by omega) W).mono fun e w' ⟨h, h'⟩ => ⟨by rw [h, ha1.out]; rfl, h'⟩
          have c2 : ∀ W : World, Calls Try.prog 37 #[.int .u64 (x15 : Int), .int .i64 1, .int .i64 8, .int .i64 7] W fun e w' => e = .returned (.int .u64 (a3 : Int)) ∧ Drew W w' := fun W =>
            (moved_any x15 1 8 7 l15 (by omega) (by omega) (by omega) W).mono fun e w' ⟨h, h'⟩ => ⟨by rw [h, ha3.out]; rfl, h'⟩
          have C1 := Lib.hid c1
          have C2 := Lib.hid c2
          clear c1 c2
          have k2 : ((m : Int) - 2).toNat = m - 2 := by omega
          have k7 : ((m : Int) - 7).toNat = m - 7 := by omega
          have k15 : ((m : Int) - 15).toNat = m - 15 := by omega
          have k16 : ((m : Int) - 16).toNat = m - 16 := by omega
          have w2 : IntKind.i64.wrap ((m : Int) - 2) = (m : Int) - 2 := IntWalk.i64_in _ (by omega)
          have p2 : (0 : Int) ≤ (m : Int) - 2 := by omega
          have q2 : (2 : Int) ≤ (m : Int) := by omega
          have r2 : (m : Int) - 2 < 80 := by omega
          have w7 : IntKind.i64.wrap ((m : Int) - 7) = (m : Int) - 7 := IntWalk.i64_in _ (by omega)
          have p7 : (0 : Int) ≤ (m : Int) - 7 := by omega
          have q7 : (7 : Int) ≤ (m : Int) := by omega
          have r7 : (m : Int) - 7 < 80 := by omega
          have w15 : IntKind.i64.wrap ((m : Int) - 15) = (m : Int) - 15 := IntWalk.i64_in _ (by omega)
          have p15 : (0 : Int) ≤ (m : Int) - 15 := by omega
          have q15 : (15 : Int) ≤ (m : Int) := by omega
          have r15 : (m : Int) - 15 < 80 := by omega
          have w16 : IntKind.i64.wrap ((m : Int) - 16) = (m : Int) - 16 := IntWalk.i64_in _ (by omega)
          have p16 : (0 : Int) ≤ (m : Int) - 16 := by omega
          have q16 : (16 : Int) ≤ (m : Int) := by omega
          have r16 : (m : Int) - 16 < 80 := by omega
          have pm : (0 : Int) ≤ (m : Int) := by omega
          have rm : (m : Int) < 80 := by omega
          have hK0 : Kept w (w.heap.size + 1) 39 d' m (.int .u64 (a5 : Int)) wr := ⟨d', HBk.out, .inl rfl, hbel⟩
          have hde : ∀ t, t < 80 → d'[t]? = some (.int .u64 (((grownW b (m - 16)).getD t 0 : Nat) : Int)) := fun t ht => by
            rw [HD.out]; exact u64s_get _ _ (by rw [grownW_length _ _ (by omega)]; exact ht)
          have HK : Hid (∀ W, Kept w (w.heap.size + 1) 39 d' m (.int .u64 (a5 : Int)) W → (Kept w (w.heap.size + 1) 39 d' m (.int .u64 (a5 : Int)) W ∧ W.cell? ⟨w.heap.size + 1, m - 2, none⟩ = some (.int .u64 (x2 : Int)) ∧ W.cell? ⟨w.heap.size + 1, m - 7, none⟩ = some (.int .u64 (x7 : Int)) ∧ W.cell? ⟨w.heap.size + 1, m - 15, none⟩ = some (.int .u64 (x15 : Int)) ∧ W.cell? ⟨w.heap.size + 1, m - 16, none⟩ = some (.int .u64 (x16 : Int)))) :=
            Lib.hid fun W h => ⟨h, h.cell _ (by omega) ((HBk.out.cell _).symm.trans h2), h.cell _ (by omega) ((HBk.out.cell _).symm.trans h7), h.cell _ (by omega) ((HBk.out.cell _).symm.trans h15), h.cell _ (by omega) ((HBk.out.cell _).symm.trans h16)⟩
          have HR : Hid (∀ W, Kept w (w.heap.size + 1) 39 d' m (.int .u64 (a5 : Int)) W → (Instr.storeAt 36 (.pointer (some ⟨w.heap.size + 1, m, none⟩)) (.int .u64 (a5 : Int))).run Try.prog W = .ok () (W.setCell ⟨w.heap.size + 1, m, none⟩ (.int .u64 (a5 : Int)))) :=
            Lib.hid fun W h => by
              obtain ⟨⟨u, hu⟩, hf⟩ := h.at_ (by rw [hds.out]; exact hlt)
              exact store_u64_run W _ _ u hu hf
          have HS2 : Hid (∀ W, Kept w (w.heap.size + 1) 39 d' m (.int .u64 (a5 : Int)) W → Kept w (w.heap.size + 1) 39 d' m (.int .u64 (a5 : Int)) (W.setCell ⟨w.heap.size + 1, m, none⟩ (.int .u64 (a5 : Int)))) :=
            Lib.hid fun W h => ⟨_, (h.set (by omega)).1, .inr rfl, (h.set (by omega)).2⟩
          clear h2 h7 h15 h16 h0 hf hde hbel
          have HK0 := Lib.hid hK0
          clear hK0
          go_wp2_with fail
          refine wp_region_held_drew (S := fun w' => Kept w (w.heap.size + 1) 39 d' m (.int .u64 (a5 : Int)) w' ∧ w'.cell? ⟨w.heap.size + 1, m - 2, none⟩ = some (.int .u64 (x2 : Int)) ∧ w'.cell? ⟨w.heap.size + 1, m - 7, none⟩ = some (.int .u64 (x7 : Int)) ∧ w'.cell? ⟨w.heap.size + 1, m - 15, none⟩ = some (.int .u64 (x15 : Int)) ∧ w'.cell? ⟨w.heap.size + 1, m - 16, none⟩ = some (.int .u64 (x16 : Int))) (by kernel_rfl) (HK.out _ (HK0.out.drew (Drew.one _))) (fun hHeld => ?_)
          generalize wr.drew = wd at *
          refine' wpAnyH_take (i := 0) (oi := _) (v := _) ?hit0 ?hst0 ?hft0 ?hrt0 ?hQt0 ?hyt0 ?hSt0 ?_
          case hit0 => (simp only [List.getElem?_toArray, List.getElem?_cons_succ, List.getElem?_cons_zero]; rfl)
          case hst0 => kernel_rfl
          case hft0 => kernel_rfl
          case hrt0 => kernel_rfl
          case hQt0 => exact fun _ _ _ h => h
          case hSt0 => assumption
          case hyt0 =>
            refine Or.inl ⟨by rfl, ?_⟩
            intro w hSw
            (try dsimp only at hSw)
            go_simp
            all_goals (with_reducible rfl)
          (try simp only [Act.put, List.setIfInBounds_toArray, List.set_cons_zero, List.set_cons_succ])
          refine' wpAnyH_take (i := 1) (oi := _) (v := _) ?hit1 ?hst1 ?hft1 ?hrt1 ?hQt1 ?hyt1 ?hSt1 ?_
          case hit1 => (simp only [List.getElem?_toArray, List.getElem?_cons_succ, List.getElem?_cons_zero]; rfl)
          case hst1 => kernel_rfl
          case hft1 => kernel_rfl
          case hrt1 => kernel_rfl
          case hQt1 => exact fun _ _ _ h => h
          case hSt1 => assumption
          case hyt1 =>
            refine Or.inl ⟨by rfl, ?_⟩
            intro w hSw
            (try dsimp only at hSw)
            go_simp
            all_goals (with_reducible rfl)
          (try simp only [Act.put, List.setIfInBounds_toArray, List.set_cons_zero, List.set_cons_succ])
          refine' wpAnyH_take (i := 2) (oi := _) (v := _) ?hit2 ?hst2 ?hft2 ?hrt2 ?hQt2 ?hyt2 ?hSt2 ?_
          case hit2 => (simp only [List.getElem?_toArray, List.getElem?_cons_succ, List.getElem?_cons_zero]; rfl)
          case hst2 => kernel_rfl
          case hft2 => kernel_rfl
          case hrt2 => kernel_rfl
          case hQt2 => exact fun _ _ _ h => h
          case hSt2 => assumption
          case hyt2 =>
            refine Or.inl ⟨by rfl, ?_⟩
            intro w hSw
            (try dsimp only at hSw)
            go_simp
            all_goals (with_reducible rfl)
          (try simp only [Act.put, List.setIfInBounds_toArray, List.set_cons_zero, List.set_cons_succ])
          refine' wpAnyH_take (i := 3) (oi := _) (v := _) ?hit3 ?hst3 ?hft3 ?hrt3 ?hQt3 ?hyt3 ?hSt3 ?_
          case hit3 => (simp only [List.getElem?_toArray, List.getElem?_cons_succ, List.getElem?_cons_zero]; rfl)
          case hst3 => kernel_rfl
          case hft3 => kernel_rfl
          case hrt3 => kernel_rfl
          case hQt3 => exact fun _ _ _ h => h
          case hSt3 => assumption
          case hyt3 =>
            refine Or.inl ⟨by rfl, ?_⟩
            intro w hSw
            (try dsimp only at hSw)
            go_simp
            all_goals (with_reducible rfl)
          (try simp only [Act.put, List.setIfInBounds_toArray, List.set_cons_zero, List.set_cons_succ])
          refine' wpAnyH_take (i := 4) (oi := _) (v := _) ?hit4 ?hst4 ?hft4 ?hrt4 ?hQt4 ?hyt4 ?hSt4 ?_
          case hit4 => (simp only [List.getElem?_toArray, List.getElem?_cons_succ, List.getElem?_cons_zero]; rfl)
          case hst4 => kernel_rfl
          case hft4 => kernel_rfl
          case hrt4 => kernel_rfl
          case hQt4 => exact fun _ _ _ h => h
          case hSt4 => assumption
          case hyt4 =>
            refine Or.inl ⟨by rfl, ?_⟩
            intro w hSw
            (try dsimp only at hSw)
            go_simp
            all_goals (with_reducible rfl)
          (try simp only [Act.put, List.setIfInBounds_toArray, List.set_cons_zero, List.set_cons_succ])
          refine' wpAnyH_take (i := 6) (oi := _) (v := _) ?hit6 ?hst6 ?hft6 ?hrt6 ?hQt6 ?hyt6 ?hSt6 ?_
          case hit6 => (simp only [List.getElem?_toArray, List.getElem?_cons_succ, List.getElem?_cons_zero]; rfl)
          case hst6 => kernel_rfl
          case hft6 => kernel_rfl
          case hrt6 => kernel_rfl
          case hQt6 => exact fun _ _ _ h => h
          case hSt6 => assumption
          case hyt6 =>
            refine Or.inl ⟨by rfl, ?_⟩
            intro w hSw
            (try dsimp only at hSw)
            go_simp
            all_goals (with_reducible rfl)
          (try simp only [Act.put, List.setIfInBounds_toArray, List.set_cons_zero, List.set_cons_succ])
          refine' wpAnyH_take (i := 7) (oi := _) (v := _) ?hit7 ?hst7 ?hft7 ?hrt7 ?hQt7 ?hyt7 ?hSt7 ?_
          case hit7 => (simp only [List.getElem?_toArray, List.getElem?_cons_succ, List.getElem?_cons_zero]; rfl)
          case hst7 => kernel_rfl
          case hft7 => kernel_rfl
          case hrt7 => kernel_rfl
          case hQt7 => exact fun _ _ _ h => h
          case hSt7 => assumption
          case hyt7 =>
            refine Or.inl ⟨by rfl, ?_⟩
            intro w hSw
            (try dsimp only at hSw)
            go_simp
            all_goals (with_reducible rfl)
          (try simp only [Act.put, List.setIfInBounds_toArray, List.set_cons_zero, List.set_cons_succ])
          refine' wpAnyH_take (i := 8) (oi := _) (v := _) ?hit8 ?hst8 ?hft8 ?hrt8 ?hQt8 ?hyt8 ?hSt8 ?_
          case hit8 => (simp only [List.getElem?_toArray, List.getElem?_cons_succ, List.getElem?_cons_zero]; rfl)
          case hst8 => kernel_rfl
          case hft8 => kernel_rfl
          case hrt8 => kernel_rfl
          case hQt8 => exact fun _ _ _ h => h
          case hSt8 => assumption
          case hyt8 =>
            refine Or.inl ⟨by rfl, ?_⟩
            intro w hSw
            (try dsimp only at hSw)
            go_simp
            all_goals (with_reducible rfl)
          (try simp only [Act.put, List.setIfInBounds_toArray, List.set_cons_zero, List.set_cons_succ])
          refine' wpAnyH_take (i := 9) (oi := _) (v := _) ?hit9 ?hst9 ?hft9 ?hrt9 ?hQt9 ?hyt9 ?hSt9 ?_
          case hit9 => (simp only [List.getElem?_toArray, List.getElem?_cons_succ, List.getElem?_cons_zero]; rfl)
          case hst9 => kernel_rfl
          case hft9 => kernel_rfl
          case hrt9 => kernel_rfl
          case hQt9 => exact fun _ _ _ h => h
          case hSt9 => assumption
          case hyt9 =>
            refine Or.inl ⟨by rfl, ?_⟩
            intro w hSw
            (try dsimp only at hSw)
            go_simp
            all_goals (with_reducible rfl)
          (try simp only [Act.put, List.setIfInBounds_toArray, List.set_cons_zero, List.set_cons_succ])
          refine' wpAnyH_take (i := 11) (oi := _) (v := _) ?hit11 ?hst11 ?hft11 ?hrt11 ?hQt11 ?hyt11 ?hSt11 ?_
          case hit11 => (simp only [List.getElem?_toArray, List.getElem?_cons_succ, List.getElem?_cons_zero]; rfl)
          case hst11 => kernel_rfl
          case hft11 => kernel_rfl
          case hrt11 => kernel_rfl
          case hQt11 => exact fun _ _ _ h => h
          case hSt11 => assumption
          case hyt11 =>
            refine Or.inl ⟨by rfl, ?_⟩
            intro w hSw
            (try dsimp only at hSw)
            go_simp
            all_goals (with_reducible rfl)
          (try simp only [Act.put, List.setIfInBounds_toArray, List.set_cons_zero, List.set_cons_succ])
          refine' wpAnyH_take (i := 12) (oi := _) (v := _) ?hit12 ?hst12 ?hft12 ?hrt12 ?hQt12 ?hyt12 ?hSt12 ?_
          case hit12 => (simp only [List.getElem?_toArray, List.getElem?_cons_succ, List.getElem?_cons_zero]; rfl)
          case hst12 => kernel_rfl
          case hft12 => kernel_rfl
          case hrt12 => kernel_rfl
          case hQt12 => exact fun _ _ _ h => h
          case hSt12 => assumption
          case hyt12 =>
            refine Or.inl ⟨by rfl, ?_⟩
            intro w hSw
            (try dsimp only at hSw)
            go_simp
            all_goals (with_reducible rfl)
          (try simp only [Act.put, List.setIfInBounds_toArray, List.set_cons_zero, List.set_cons_succ])
          refine' wpAnyH_take (i := 13) (oi := _) (v := _) ?hit13 ?hst13 ?hft13 ?hrt13 ?hQt13 ?hyt13 ?hSt13 ?_
          case hit13 => (simp only [List.getElem?_toArray, List.getElem?_cons_succ, List.getElem?_cons_zero]; rfl)
          case hst13 => kernel_rfl
          case hft13 => kernel_rfl
          case hrt13 => kernel_rfl
          case hQt13 => exact fun _ _ _ h => h
          case hSt13 => assumption
          case hyt13 =>
            refine Or.inl ⟨by rfl, ?_⟩
            intro w hSw
            (try dsimp only at hSw)
            go_simp
            all_goals (with_reducible rfl)
          (try simp only [Act.put, List.setIfInBounds_toArray, List.set_cons_zero, List.set_cons_succ])
          refine' wpAnyH_take (i := 14) (oi := _) (v := _) ?hit14 ?hst14 ?hft14 ?hrt14 ?hQt14 ?hyt14 ?hSt14 ?_
          case hit14 => (simp only [List.getElem?_toArray, List.getElem?_cons_succ, List.getElem?_cons_zero]; rfl)
          case hst14 => kernel_rfl
          case hft14 => kernel_rfl
          case hrt14 => kernel_rfl
          case hQt14 => exact fun _ _ _ h => h
          case hSt14 => assumption
          case hyt14 =>
            refine Or.inl ⟨by rfl, ?_⟩
            intro w hSw
            (try dsimp only at hSw)
            go_simp
            all_goals (with_reducible rfl)
          (try simp only [Act.put, List.setIfInBounds_toArray, List.set_cons_zero, List.set_cons_succ])
          refine' wpAnyH_take (i := 17) (oi := _) (v := _) ?hit17 ?hst17 ?hft17 ?hrt17 ?hQt17 ?hyt17 ?hSt17 ?_
          case hit17 => (simp only [List.getElem?_toArray, List.getElem?_cons_succ, List.getElem?_cons_zero]; rfl)
          case hst17 => kernel_rfl
          case hft17 => kernel_rfl
          case hrt17 => kernel_rfl
          case hQt17 => exact fun _ _ _ h => h
          case hSt17 => assumption
          case hyt17 =>
            refine Or.inl ⟨by rfl, ?_⟩
            intro w hSw
            (try dsimp only at hSw)
            go_simp
            all_goals (with_reducible rfl)
          (try simp only [Act.put, List.setIfInBounds_toArray, List.set_cons_zero, List.set_cons_succ])
          refine' wpAnyH_take (i := 18) (oi := _) (v := _) ?hit18 ?hst18 ?hft18 ?hrt18 ?hQt18 ?hyt18 ?hSt18 ?_
          case hit18 => (simp only [List.getElem?_toArray, List.getElem?_cons_succ, List.getElem?_cons_zero]; rfl)
          case hst18 => kernel_rfl
          case hft18 => kernel_rfl
          case hrt18 => kernel_rfl
          case hQt18 => exact fun _ _ _ h => h
          case hSt18 => assumption
          case hyt18 =>
            refine Or.inl ⟨by rfl, ?_⟩
            intro w hSw
            (try dsimp only at hSw)
            go_simp
            all_goals (with_reducible rfl)
          (try simp only [Act.put, List.setIfInBounds_toArray, List.set_cons_zero, List.set_cons_succ])
          refine' wpAnyH_take (i := 19) (oi := _) (v := _) ?hit19 ?hst19 ?hft19 ?hrt19 ?hQt19 ?hyt19 ?hSt19 ?_
          case hit19 => (simp only [List.getElem?_toArray, List.getElem?_cons_succ, List.getElem?_cons_zero]; rfl)
          case hst19 => kernel_rfl
          case hft19 => kernel_rfl
          case hrt19 => kernel_rfl
          case hQt19 => exact fun _ _ _ h => h
          case hSt19 => assumption
          case hyt19 =>
            refine Or.inl ⟨by rfl, ?_⟩
            intro w hSw
            (try dsimp only at hSw)
            go_simp
            all_goals (with_reducible rfl)
          (try simp only [Act.put, List.setIfInBounds_toArray, List.set_cons_zero, List.set_cons_succ])
          refine' wpAnyH_take (i := 20) (oi := _) (v := _) ?hit20 ?hst20 ?hft20 ?hrt20 ?hQt20 ?hyt20 ?hSt20 ?_
          case hit20 => (simp only [List.getElem?_toArray, List.getElem?_cons_succ, List.getElem?_cons_zero]; rfl)
          case hst20 => kernel_rfl
          case hft20 => kernel_rfl
          case hrt20 => kernel_rfl
          case hQt20 => exact fun _ _ _ h => h
          case hSt20 => assumption
          case hyt20 =>
            refine Or.inl ⟨by rfl, ?_⟩
            intro w hSw
            (try dsimp only at hSw)
            go_simp
            all_goals (with_reducible rfl)
          (try simp only [Act.put, List.setIfInBounds_toArray, List.set_cons_zero, List.set_cons_succ])
          refine wpAnyH_ready (rs := [5]) (by kernel_rfl) (by simp) ?_
          refine' AllReadyH.cons (o := _) ?hir5 (fun K hK => ?_) AllReadyH.nil
          case hir5 => (simp only [List.getElem?_toArray, List.getElem?_cons_succ, List.getElem?_cons_zero]; rfl)
          go_simp
          refine (C1.out _).mono ?_
          rintro e w1 ⟨rfl, hdr⟩
          have hk1 := hHeld.1.drew hdr
          go_wp2_with fail
          refine hK.out _ _ ?_ (fun hHeld => ?_)
          · exact HK.out _ hk1
          clear hK K
          (try simp only [Act.put, List.setIfInBounds_toArray, List.set_cons_zero, List.set_cons_succ])
          refine' wpAnyH_take (i := 10) (oi := _) (v := _) ?hit10 ?hst10 ?hft10 ?hrt10 ?hQt10 ?hyt10 ?hSt10 ?_
          case hit10 => (simp only [List.getElem?_toArray, List.getElem?_cons_succ, List.getElem?_cons_zero]; rfl)
          case hst10 => kernel_rfl
          case hft10 => kernel_rfl
          case hrt10 => kernel_rfl
          case hQt10 => exact fun _ _ _ h => h
          case hSt10 => assumption
          case hyt10 =>
            refine Or.inl ⟨by rfl, ?_⟩
            intro w hSw
            (try dsimp only at hSw)
            go_simp
            all_goals (with_reducible rfl)
          (try simp only [Act.put, List.setIfInBounds_toArray, List.set_cons_zero, List.set_cons_succ])
          refine wpAnyH_ready (rs := [15]) (by kernel_rfl) (by simp) ?_
          refine' AllReadyH.cons (o := _) ?hir15 (fun K hK => ?_) AllReadyH.nil
          case hir15 => (simp only [List.getElem?_toArray, List.getElem?_cons_succ, List.getElem?_cons_zero]; rfl)
          go_simp
          refine (C2.out _).mono ?_
          rintro e w2 ⟨rfl, hdr⟩
          have hk2 := hHeld.1.drew hdr
          go_wp2_with fail
          refine hK.out _ _ ?_ (fun hHeld => ?_)
          · exact HK.out _ hk2
          clear hK K
          (try simp only [Act.put, List.setIfInBounds_toArray, List.set_cons_zero, List.set_cons_succ])
          refine' wpAnyH_take (i := 16) (oi := _) (v := _) ?hit16 ?hst16 ?hft16 ?hrt16 ?hQt16 ?hyt16 ?hSt16 ?_
          case hit16 => (simp only [List.getElem?_toArray, List.getElem?_cons_succ, List.getElem?_cons_zero]; rfl)
          case hst16 => kernel_rfl
          case hft16 => kernel_rfl
          case hrt16 => kernel_rfl
          case hQt16 => exact fun _ _ _ h => h
          case hSt16 => assumption
          case hyt16 =>
            refine Or.inl ⟨by rfl, ?_⟩
            intro w hSw
            (try dsimp only at hSw)
            go_simp
            all_goals (with_reducible rfl)
          (try simp only [Act.put, List.setIfInBounds_toArray, List.set_cons_zero, List.set_cons_succ])
          refine' wpAnyH_take (i := 21) (oi := _) (v := _) ?hit21 ?hst21 ?hft21 ?hrt21 ?hQt21 ?hyt21 ?hSt21 ?_
          case hit21 => (simp only [List.getElem?_toArray, List.getElem?_cons_succ, List.getElem?_cons_zero]; rfl)
          case hst21 => kernel_rfl
          case hft21 => kernel_rfl
          case hrt21 => kernel_rfl
          case hQt21 => exact fun _ _ _ h => h
          case hSt21 => assumption
          case hyt21 =>
            refine Or.inl ⟨by rfl, ?_⟩
            intro w hSw
            (try dsimp only at hSw)
            go_simp
            all_goals (with_reducible rfl)
          (try simp only [Act.put, List.setIfInBounds_toArray, List.set_cons_zero, List.set_cons_succ])
          refine' wpAnyH_take (i := 22) (oi := _) (v := _) ?hit22 ?hst22 ?hft22 ?hrt22 ?hQt22 ?hyt22 ?hSt22 ?_
          case hit22 => (simp only [List.getElem?_toArray, List.getElem?_cons_succ, List.getElem?_cons_zero]; rfl)
          case hst22 => kernel_rfl
          case hft22 => kernel_rfl
          case hrt22 => kernel_rfl
          case hQt22 => exact fun _ _ _ h => h
          case hSt22 => assumption
          case hyt22 =>
            refine Or.inl ⟨by rfl, ?_⟩
            intro w hSw
            (try dsimp only at hSw)
            go_simp
            all_goals (with_reducible rfl)
          (try simp only [Act.put, List.setIfInBounds_toArray, List.set_cons_zero, List.set_cons_succ])
          refine wpAnyH_ready (rs := [23]) (by kernel_rfl) (by simp) ?_
          refine' AllReadyH.cons (o := _) ?hir23 (fun K hK => ?_) AllReadyH.nil
          case hir23 => (simp only [List.getElem?_toArray, List.getElem?_cons_succ, List.getElem?_cons_zero]; rfl)
          have hq := hk2.set (by omega)
          refine step_store_run rfl 36 _ _ rfl ⟨w.heap.size + 1, m, none⟩ (.int .u64 (a5 : Int)) (by rfl) (by rfl) (HR.out _ hk2) ?_
          refine hK.out _ _ ?_ (fun hHeld => ?_)
          · exact HK.out _ (HS2.out _ hk2)
          clear hK K
          (try simp only [Act.put, List.setIfInBounds_toArray, List.set_cons_zero, List.set_cons_succ])
          refine wpAnyH_done (by kernel_rfl) ?_ _
          go_wp2_with fail
          go_roundw
          case rel => exact ⟨m + 1, by omega, by omega, by go_num, _, hq.1, by rw [HD.out, u64s_set, hset.out], hq.2⟩
          case measure => simp [intOf]; omega
        · obtain rfl : m = 80 := by omega
          have hd8 : Hid (d' = u64s (sched b)) := by show _ = _; rw [hd', ← grownW_all]
          have hdo : Hid (d'.all (·.oneCell') = true) := by show _ = _; rw [hd8.out]; exact u64s_one _
          have HBk := Lib.hid hB
          clear hd' hB
          go_wp2_with (first | (refine wpList_load_row rfl 39 (.tmp 2) rfl (w.heap.size + 1) rfl 39 d' (0, 0) _ HBk.out Try.underlying39 rfl (by rw [hds.out]; exact info39) ?_) |
            (refine wpList_store_row rfl 39 (.tmp 2) (.tmp 50) rfl (w.heap.size + 1) d' rfl rfl 39 d' HBk.out (by rw [hds.out]; exact info39) rfl hdo.out ?_; rw [setRow_self HBk.out]))
          refine bodyPost_ret (v := .agg d') ?_ rfl ⟨by rw [hd8.out], hbel⟩
          exact results_cell_row Try.results29 _ _ (w.heap.size + 1) 39 d' (0, 0) _ rfl HBk.out Try.underlying39 rfl (by rw [hds.out]; exact info39)
end Go.Proofs.Ytblielcmjdnlfaa
