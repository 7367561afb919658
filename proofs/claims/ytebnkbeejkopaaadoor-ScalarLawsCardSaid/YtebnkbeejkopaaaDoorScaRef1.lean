/-
  The contracts of the reference's order, below and off. Conditions: as many digits on both sides, at most 1000; what is taken off isn't above.
-/
import Derived.Test.YtebnkbeejkopaaaDoorScaBlk
import Derived.Test.YtebnkbeejkopaaaDoorScaM
import Derived.Test.YtebnkbeejkopaaaDoorStr
set_option linter.unusedVariables false
set_option linter.unusedSimpArgs false
namespace Go.Proofs.YtebnkbeejkopaaaDoor
open Go Go.Proofs Go.RowKit F5

/-- Numbers of 64 bits, as cells. -/
def U (l : List Nat) : List Value := l.map u64v
theorem U_length (l : List Nat) : (U l).length = l.length := by simp [U]
theorem U_append (a b : List Nat) : U (a ++ b) = U a ++ U b := by simp [U]
theorem U_one (l : List Nat) : ∀ u ∈ U l, u.oneCell' = true := by
  intro u hu
  obtain ⟨x, _, rfl⟩ := List.mem_map.1 hu
  rfl
theorem reads_u {w : World} {Bd n k : Nat} {A : Option Addr} {l : List Nat} (h : Reads w Bd 1 A n (U l)) (hk : k < n) : ∃ ad, A = some ad ∧ ad.block < Bd ∧ w.cell? (ad.add k) = some (.int .u64 ((l.getD k 0 : Nat) : Int)) := by
  obtain ⟨ad, u, rfl, hb, hu, hc⟩ := h.at_ hk
  have hl : k < l.length := by have := h.1; rw [U_length] at this; omega
  refine ⟨ad, rfl, hb, ?_⟩
  rw [hc, ← hu]
  simp [U, u64v, List.getElem?_map, List.getD_eq_getElem?_getD, List.getElem?_eq_getElem hl]
theorem reads_u1 (w : World) (x : Nat) : Reads (w.alloc (.cells #[.int .u64 (x : Int)] 32)) (w.heap.size + 1) 1 (some ⟨w.heap.size, 0, none⟩) 1 (U [x]) := by
  refine ⟨rfl, fun _ => ⟨_, rfl, by simp, fun j u hj => ?_⟩⟩
  match j, hj with
  | 0, hj =>
    simp [U, u64v] at hj
    subst hj
    show World.cell? _ ⟨w.heap.size, 0, none⟩ = _
    rw [Lib.cell_of_heap (heap_alloc_new w _)]; rfl
theorem own_lit (w : World) (l : List Nat) (h : l.length ≤ 1000) : (w.alloc (.cells (u64s l) 32)).ownsRow w.heap.size 32 1 (.slice (some ⟨w.heap.size, 0, none⟩) l.length l.length) l.length (U l) :=
  ⟨by rw [U_length, Nat.mul_one], .inr ⟨w.heap.size, l.length, u64s l, rfl, Nat.le_refl _, heap_alloc_new w _, Nat.le_refl _, by unfold maxLen; omega, by rw [u64s_size, Nat.mul_one], by
    rw [Nat.mul_one, List.take_of_length_le (by simp [u64s])]; simp [u64s, U]⟩⟩
theorem infoU64 : (Tryd.prog.info? 32).map (fun i => (i.zero, i.size, i.bytes)) = some (some (.int .u64 0), 1, 8) := by kernel_rfl
theorem own_old64 {w w' : World} {Bd : Nat} {v : Value} {n : Nat} {xs : List Value} {e : TypeId} (h : w.ownsRow Bd e 1 v n xs) (hb : Below w.heap.size w w') : w'.ownsRow Bd e 1 v n xs := by
  refine ⟨h.1, ?_⟩
  rcases h.2 with h2 | ⟨g, cap, cur, hv, hg, hh, r⟩
  · exact Or.inl h2
  · have hlt : g < w.heap.size := by
      rcases Nat.lt_or_ge g w.heap.size with h | h
      · exact h
      · rw [Array.getElem?_eq_none h] at hh; cases hh
    exact Or.inr ⟨g, cap, cur, hv, hg, (hb.block g hlt).trans hh, r⟩
theorem own_more64 {w : World} {B B' : Nat} {v : Value} {n : Nat} {xs : List Value} {e : TypeId} (h : w.ownsRow B e 1 v n xs) (hB : B' ≤ B) : w.ownsRow B' e 1 v n xs :=
  ⟨h.1, h.2.elim Or.inl (fun ⟨g, cap, cur, hv, hg, r⟩ => Or.inr ⟨g, cap, cur, hv, Nat.le_trans hB hg, r⟩)⟩
theorem own_slice {w : World} {base size n : Nat} {e : TypeId} {v : Value} {xs : List Value} (h : w.ownsRow base e size v n xs) : ∃ A c, v = .slice A n c ∧ n ≤ c ∧ c ≤ maxLen := by
  rcases h.2 with ⟨h1, h2⟩ | ⟨g, cap, cur, hv, _, _, hc, hm, _⟩
  · exact ⟨none, 0, by rw [h1, h2], by omega, by unfold maxLen; omega⟩
  · exact ⟨_, _, hv, hc, hm⟩
theorem own_emptyU (w : World) : (w.alloc (.cells #[] 32)).ownsRow w.heap.size 32 1 (.slice (some ⟨w.heap.size, 0, none⟩) 0 0) 0 (U []) :=
  own_lit w [] (by simp)

theorem order_lit : (#[.int .u64 54253, .int .u64 23797, .int .u64 25370, .int .u64 22546, .int .u64 40150, .int .u64 41719, .int .u64 63966, .int .u64 5342, .int .u64 0, .int .u64 0, .int .u64 0, .int .u64 0, .int .u64 0, .int .u64 0, .int .u64 0, .int .u64 4096] : Array Value) = u64s (digs B LL 16) := by
  rw [LL_digs]; rfl
theorem order_any (w : World) : Calls Tryd.prog 20 #[] w fun e w' => e = .returned (.slice (some ⟨w.heap.size, 0, none⟩) 16 16) ∧ w' = w.alloc (.cells (u64s (digs B LL 16)) 32) := by
  go_enter Tryd.func20, Tryd.ntmps20
  go_wp2
  go_ret
  exact ⟨rfl, by rw [← order_lit]⟩

theorem below_new1 (w : World) (o : Obj) : Below w.heap.size w (w.alloc o) := (Below.refl _ _).alloc (Nat.le_refl _) o
theorem below_drewNs (w : World) (k : Nat) : Below w.heap.size w (w.drewN k) := ⟨rfl, rfl, rfl, Nat.le_refl _, fun _ _ => rfl⟩
set_option maxHeartbeats 4000000 in
theorem below_any (A A' : Option Addr) (n c c' : Nat) (a b : List Nat) (w : World) (hn : n ≤ 1000) (ha : Reads w w.heap.size 1 A n (U a)) (hb : Reads w w.heap.size 1 A' n (U b)) (haa : All B a) (hba : All B b) :
    Calls Tryd.prog 21 #[.slice A n c, .slice A' n c'] w fun e w' => e = .returned (.bool (decide (val B a < val B b))) ∧ Below w.heap.size w w' := by
  have hla : a.length = n := by have := ha.1; rw [U_length] at this; omega
  have hlb : b.length = n := by have := hb.1; rw [U_length] at this; omega
  have HA := Lib.hid ha
  have HB := Lib.hid hb
  have HLA := Lib.hid hla
  have HLB := Lib.hid hlb
  have HAA := Lib.hid haa
  have HBA := Lib.hid hba
  have w1 : IntKind.i64.wrap ((n : Int) - 1) = (n : Int) - 1 := IntWalk.i64_in _ (by omega)
  clear ha hb hla hlb haa hba
  go_enter Tryd.func21, Tryd.ntmps21
  go_wp2
  go_loopg [5] n (fun gg iv wr => ∃ j : Nat, iv = .int .i64 ((j : Int) - 1) ∧ gg = j ∧ j ≤ n ∧ (∀ k, j ≤ k → k < n → a.getD k 0 = b.getD k 0) ∧ Below w.heap.size w wr)
  case atStart => exact ⟨n, rfl, rfl, Nat.le_refl _, fun k h1 h2 => by omega, Below.refl _ _⟩
  case round =>
    obtain ⟨j, hiv, hg, hj, heq, hbel⟩ := hrel
    by_cases hlt : 0 < j
    · obtain ⟨i, rfl⟩ : ∃ i, j = i + 1 := ⟨j - 1, by omega⟩
      rw [show ((i + 1 : Nat) : Int) - 1 = (i : Int) by omega] at hiv
      subst hiv
      have hge : (0 : Int) ≤ (i : Int) := by omega
      have hin : (i : Int) < n := by omega
      have hwi : IntKind.i64.wrap ((i : Int) - 1) = (i : Int) - 1 := IntWalk.i64_in _ (by omega)
      obtain ⟨ad, rfl, hadB, hx⟩ := reads_u (HA.out.below hbel) (k := i) (by omega)
      obtain ⟨ad', rfl, hadB', hy⟩ := reads_u (HB.out.below hbel) (k := i) (by omega)
      have hst : Hid (a.getD i 0 ≠ b.getD i 0 → (val B a < val B b) = (a.getD i 0 < b.getD i 0)) := Lib.hid fun hne => below_step HAA.out HBA.out HLA.out HLB.out (by omega) (fun k h1 h2 => heq k (by omega) h2) hne
      have hnx : Hid (a.getD i 0 = b.getD i 0 → ∀ k, i ≤ k → k < n → a.getD k 0 = b.getD k 0) := Lib.hid fun h k h1 h2 => by
        by_cases hk : k = i
        · subst hk; exact h
        · exact heq k (by omega) h2
      obtain ⟨x, hX⟩ := named (a.getD i 0)
      obtain ⟨y, hY⟩ := named (b.getD i 0)
      rw [← hX.out, ← hY.out] at hst hnx
      rw [← hX.out] at hx
      rw [← hY.out] at hy
      have HBEL := Lib.hid hbel
      have hz := hbel.size
      have ij : i + 1 ≤ n := hj
      have hgk : gk = i + 1 := hg
      clear hbel heq hX hY hj hg hlt
      by_cases hxy : x = y
      · have NX := Lib.hid (hnx.out hxy)
        have hne : ((x : Int) != (y : Int)) = false := by rw [hxy]; simp
        have heq' : (x : Int) = (y : Int) := by rw [hxy]
        clear hst hnx hxy
        go_wp2_with fail
        go_quiet (fail)
        go_wp2_with fail
        go_roundg (gk - 1)
        case measure => omega
        case rel => exact ⟨i, rfl, by omega, by omega, NX.out, HBEL.out.trans ((below_drewNs _ _).mono hz)⟩
      · have hres := hst.out hxy
        have hne : ((x : Int) != (y : Int)) = true := by rw [bne_iff_ne]; omega
        have hne' : ¬ (x : Int) = (y : Int) := by omega
        clear hst hnx
        obtain ⟨r, hr⟩ : ∃ r, Hid (r = decide (val B a < val B b)) := ⟨_, Lib.hid rfl⟩
        rcases Nat.lt_or_gt_of_ne hxy with h | h
        · have hl : (x : Int) < (y : Int) := by omega
          have HR : Hid (decide (val B a < val B b) = true) := Lib.hid (decide_eq_true (Eq.mpr hres h))
          clear hres hxy h
          go_wp2_with fail
          go_quiet (fail)
          go_wp2_with fail
          have hx' : (wr.drewN nq).cell? (ad.add i) = some (.int .u64 (x : Int)) := hx
          have hy' : (wr.drewN nq).cell? (ad'.add i) = some (.int .u64 (y : Int)) := hy
          have hb1 := HBEL.out.trans ((below_drewNs wr nq).mono hz)
          clear hx hy
          generalize wr.drewN nq = w2 at *
          go_quiet (fail)
          go_wp2_with fail
          go_ret
          exact ⟨by rw [HR.out]; rfl, hb1.trans ((below_drewNs _ _).mono hb1.size)⟩
        · have hl : ¬ (x : Int) < (y : Int) := by omega
          have HN := Lib.hid (show ¬ x < y by omega)
          have HR : Hid (decide (val B a < val B b) = false) := Lib.hid (decide_eq_false fun hh => by have := Eq.mp hres hh; omega)
          clear hres hxy h
          go_wp2_with fail
          go_quiet (fail)
          go_wp2_with fail
          have hx' : (wr.drewN nq).cell? (ad.add i) = some (.int .u64 (x : Int)) := hx
          have hy' : (wr.drewN nq).cell? (ad'.add i) = some (.int .u64 (y : Int)) := hy
          have hb1 := HBEL.out.trans ((below_drewNs wr nq).mono hz)
          clear hx hy
          generalize wr.drewN nq = w2 at *
          go_quiet (fail)
          go_wp2_with fail
          go_ret
          exact ⟨by rw [HR.out]; show Ending.returned (.bool (decide (x < y))) = _; rw [decide_eq_false HN.out], hb1.trans ((below_drewNs _ _).mono hb1.size)⟩
    · obtain rfl : j = 0 := by omega
      subst hiv
      have HR : Hid (decide (val B a < val B b) = false) := Lib.hid (decide_eq_false (below_same HLA.out HLB.out fun k hk => heq k (by omega) hk))
      have HBEL := Lib.hid hbel
      clear hbel heq hlt
      go_wp2_with fail
      go_ret
      exact ⟨by rw [HR.out]; rfl, HBEL.out⟩

theorem own_grow {w wr w1 w5 : World} {Bd : Nat} {v : Value} {n : Nat} {xs : List Value} {e : TypeId} (h : wr.ownsRow Bd e 1 v n xs) (hB : w.heap.size ≤ Bd) (h1 : Below w.heap.size w wr) (h2 : Below wr.heap.size wr w1) (hg : w1.grownBy w5 v.ownBlock) : Below w.heap.size w w5 :=
  (h1.trans (h2.mono h1.size)).grown hg (by have := h1.size; have := h2.size; omega) (fun k hk => by have := (h.lt k hk).1; omega)

set_option maxHeartbeats 4000000 in
theorem off_any (A A' : Option Addr) (n c c' : Nat) (a b : List Nat) (w : World) (hn : n ≤ 1000) (ha : Reads w w.heap.size 1 A n (U a)) (hb : Reads w w.heap.size 1 A' n (U b)) (haa : All B a) (hba : All B b) (hle : val B b ≤ val B a) :
    Calls Tryd.prog 22 #[.slice A n c, .slice A' n c'] w fun e w' => ∃ v, e = .returned v ∧ w'.ownsRow w.heap.size 32 1 v n (U (digs B (val B a - val B b) n)) ∧ Below w.heap.size w w' := by
  have hla : a.length = n := by have := ha.1; rw [U_length] at this; omega
  have hlb : b.length = n := by have := hb.1; rw [U_length] at this; omega
  obtain ⟨i0, hi, hz0, hz1, hz2⟩ := info_parts infoU64
  have HI := Lib.hid hi
  have HA := Lib.hid ha
  have HB := Lib.hid hb
  have HLA := Lib.hid hla
  have HLB := Lib.hid hlb
  have HAA := Lib.hid haa
  have HBA := Lib.hid hba
  have HLE := Lib.hid hle
  have hoe := own_emptyU w
  have hb0 := below_new1 w (.cells #[] 32)
  clear ha hb hla hlb haa hba hle hi
  go_enter Tryd.func22, Tryd.ntmps22
  go_wp2
  generalize w.alloc (.cells #[] 32) = W at *
  go_loopg [5, 6, 12] n (fun gg ov bv iv wr => ∃ (k cc : Nat) (out : List Nat), bv = .int .u64 (cc : Int) ∧ iv = .int .i64 (k : Int) ∧ gg + k = n ∧ OffL a b k cc out ∧ wr.ownsRow w.heap.size 32 1 ov k (U out) ∧ Below w.heap.size w wr)
  case atStart => exact ⟨0, 0, [], rfl, rfl, rfl, OffL.zero a b, hoe, hb0⟩
  case round =>
    obtain ⟨k, cc, out, rfl, rfl, hg, hO, hown, hbel⟩ := hrel
    clear hoe hb0
    by_cases hlt : k < n
    · obtain ⟨ad, rfl, hadB, hx⟩ := reads_u (HA.out.below hbel) hlt
      obtain ⟨ad', rfl, hadB', hy⟩ := reads_u (HB.out.below hbel) hlt
      have hki : (k : Int) < n := by omega
      have hx1 := HAA.out.getD (by decide) k
      have hy1 := HBA.out.getD (by decide) k
      have hcw := hO.bw
      have hnx : Hid (∀ q, q + b.getD k 0 + cc = 65536 + a.getD k 0 → OffL a b (k + 1) (1 - q / 65536) (out ++ [q % 65536])) := Lib.hid fun q hq => hO.next HAA.out HBA.out (by rw [HLA.out]; exact hlt) (by rw [HLB.out]; exact hlt) hq
      obtain ⟨x, hX⟩ := named (a.getD k 0)
      obtain ⟨y, hY⟩ := named (b.getD k 0)
      rw [← hX.out, ← hY.out] at hnx
      rw [← hX.out] at hx hx1
      rw [← hY.out] at hy hy1
      have hx1 : x ≤ 65535 := Nat.le_of_lt_succ hx1
      have hy1 : y ≤ 65535 := Nat.le_of_lt_succ hy1
      obtain ⟨q1, hq1⟩ := named (65536 + x)
      obtain ⟨q2, hq2⟩ := named (q1 - y)
      obtain ⟨q, hq⟩ := named (q2 - cc)
      obtain ⟨d, hd⟩ := named (q / 65536)
      obtain ⟨r, hr⟩ := named (q % 65536)
      obtain ⟨c2, hc2⟩ := named (1 - d)
      have c1 : IntKind.u64.wrap (65536 + (x : Int)) = (q1 : Int) := by rw [IntKind.wrap_u64, hq1.out]; omega
      have c2' : IntKind.u64.wrap ((q1 : Int) - (y : Int)) = (q2 : Int) := by rw [IntKind.wrap_u64, hq2.out, hq1.out]; omega
      have c3 : IntKind.u64.wrap ((q2 : Int) - (cc : Int)) = (q : Int) := by rw [IntKind.wrap_u64, hq.out, hq2.out, hq1.out]; omega
      have c4 : IntKind.u64.wrap (1 - (d : Int)) = (c2 : Int) := by rw [IntKind.wrap_u64, hc2.out, hd.out, hq.out, hq2.out, hq1.out]; omega
      have c5 : IntKind.u64.wrap (d : Int) = (d : Int) := by rw [IntKind.wrap_u64, hd.out, hq.out, hq2.out, hq1.out]; omega
      have c6 : IntKind.u64.wrap (r : Int) = (r : Int) := by rw [IntKind.wrap_u64, hr.out]; omega
      have d1 : (q : Int) / 65536 = (d : Int) := by rw [hd.out]; omega
      have d2 : (q : Int).tdiv 65536 = (d : Int) := by rw [Int.tdiv_eq_ediv_of_nonneg (by omega)]; omega
      have d3 : (q : Int) % 65536 = (r : Int) := by rw [hr.out]; omega
      have d4 : (q : Int).tmod 65536 = (r : Int) := by rw [Int.tmod_eq_emod_of_nonneg (by omega)]; omega
      have HN : Hid (OffL a b (k + 1) c2 (out ++ [r])) := Lib.hid (by
        rw [hc2.out, hd.out, hr.out]
        exact hnx.out q (by rw [hq.out, hq2.out, hq1.out]; omega))
      have HBEL := Lib.hid hbel
      have HOWN := Lib.hid hown
      have hwk : IntKind.i64.wrap ((k : Int) + 1) = (k : Int) + 1 := IntWalk.i64_in _ (by omega)
      have hz := hbel.size
      clear hbel hown hO hnx hx1 hy1 hcw
      go_wp2_with fail
      go_quiet (fail)
      have hown1 : (wr.drewN nq).ownsRow w.heap.size 32 1 _ k (U out) := HOWN.out
      have hb1 := HBEL.out.trans ((below_drewNs wr nq).mono hz)
      have hz1' := hb1.size
      clear hx hy
      generalize wr.drewN nq = w2 at *
      have hrd := reads_u1 w2 r
      have HB1 := Lib.hid hb1
      have HOW1 := Lib.hid hown1
      have hown2 := own_old64 hown1 (below_new1 w2 (.cells #[.int .u64 (r : Int)] 32))
      clear hb1 hown1
      go_wp2_with (at_builtin; refine wpList_append_any _ rfl (.tmp 30) (.tmp 33) 38 rfl w.heap.size 32 i0 (.int .u64 0) 1 8 Tryd.underlying38 HI.out hz0 hz1 hz2 rfl (by omega) _ k (U out) rfl hown2 _ _ 1 _ (U [r]) rfl hrd (U_one _) (by unfold maxLen; omega) (by omega) (by simp; omega) ?_; intro v5 w5 hown5 hg5 hv5)
      have hb5 := Lib.hid (own_grow HOW1.out (Nat.le_refl _) HB1.out (below_new1 w2 _) hg5)
      rw [← U_append] at hown5
      have HOW5 := Lib.hid hown5
      clear hown5 hg5 hv5 hrd hown2
      go_wp2_with fail
      go_roundg (gk - 1)
      case measure => omega
      case rel => exact ⟨k + 1, c2, out ++ [r], rfl, by go_num, by omega, HN.out, HOW5.out, hb5.out⟩
    · obtain rfl : k = n := by omega
      have hfin := hO.done HLA.out HLB.out HLE.out
      rw [hfin] at hown
      have HF := Lib.hid hown
      have HBEL := Lib.hid hbel
      clear hbel hown hO hfin
      go_wp2_with fail
      go_ret
      exact ⟨_, rfl, HF.out, HBEL.out⟩
end Go.Proofs.YtebnkbeejkopaaaDoor
