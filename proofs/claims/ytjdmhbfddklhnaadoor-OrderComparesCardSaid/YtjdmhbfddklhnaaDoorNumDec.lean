/-
  The program's package number: decimal. Conditions: at most 2^40 bytes.
-/
import Derived.Test.YtjdmhbfddklhnaaDoorNumDig
set_option linter.unusedSimpArgs false
set_option linter.unusedVariables false
namespace Go.Proofs.YtjdmhbfddklhnaaDoor
open Go Go.Proofs Go.RowKit Num9

namespace Num9
theorem areD_at {l : List UInt8} {j : Nat} {y : UInt8} (h : areD l = true) (hj : l[j]? = some y) : 48 ≤ y.toNat ∧ y.toNat ≤ 57 := by
  unfold areD at h
  rw [List.all_eq_true] at h
  have := h y (List.mem_of_getElem? hj)
  exact of_decide_eq_true this
theorem areD_take {l : List UInt8} (h : areD l = true) (j : Nat) : areD (l.take j) = true := by
  unfold areD at h ⊢
  rw [List.all_eq_true] at h ⊢
  exact fun x hx => h x (List.mem_of_mem_take hx)
theorem fold_step {l : List UInt8} {j : Nat} {y : UInt8} (n : Nat) (hj : l[j]? = some y) : foldD n (l.take (j + 1)) = 10 * foldD n (l.take j) + (y.toNat - 48) := by
  rw [List.take_add_one, hj, foldD_app]
  rfl
/-- The parts of a text, and what they are. -/
def Parts (s : Bool) (r lw lb : List UInt8) (st : Bool) : Prop :=
  (st = false → lb = []) ∧ digitsR s r = if lw.length + lb.length ≤ 15 ∧ (areD lw = true ∧ 0 < lw.length) ∧ (st = true → areD lb = true ∧ 0 < lb.length) then .val s (foldD (foldD 0 lw) lb) lb.length else .none
theorem parts_whole (s : Bool) {r : List UInt8} (h : ∀ c ∈ r, c ≠ (46 : UInt8)) : Parts s r r [] false := by
  refine ⟨fun _ => rfl, ?_⟩
  rw [digits_whole s r (fun c hc e => h c hc (by apply UInt8.toNat_inj.1; rw [e]; rfl))]
  by_cases hp : r.length ≤ 15 ∧ areD r = true ∧ 0 < r.length
  · rw [if_pos hp, if_pos ⟨by simpa using hp.1, hp.2, fun e => by cases e⟩]; rfl
  · rw [if_neg hp, if_neg (fun h => hp ⟨by simpa using h.1, h.2.1⟩)]
theorem parts_two (s : Bool) {r a b : List UInt8} (e : r = a ++ (46 : UInt8) :: b) (h : ∀ c ∈ a, c ≠ (46 : UInt8)) : Parts s r a b true := by
  refine ⟨fun e => (by cases e), ?_⟩
  rw [e, digits_parts s a b 46 rfl (fun c hc e => h c hc (by apply UInt8.toNat_inj.1; rw [e]; rfl))]
  by_cases hp : a.length + b.length ≤ 15 ∧ (areD a = true ∧ 0 < a.length) ∧ (areD b = true ∧ 0 < b.length)
  · rw [if_pos hp, if_pos ⟨hp.1, hp.2.1, fun _ => hp.2.2⟩]
  · rw [if_neg hp, if_neg (fun h => hp ⟨h.1, h.2.1, h.2.2 rfl⟩)]
theorem conv_ten : conv 10 = 4621819117588971520 := by decide
theorem conv_one : conv 1 = 4607182418800017408 := by decide
theorem lt53 {m k : Nat} (h : m < 10 ^ k) (hk : k ≤ 15) : m < 1000000000000000 := Nat.lt_of_lt_of_le h (pow15 hk)
end Num9

/-- The sign and the rest of a text. -/
def signOf (l : List UInt8) : Bool := l.head? == some 45
def restOf (l : List UInt8) : List UInt8 := if signOf l then l.tail else l

theorem times_ten (m : Nat) (h : 10 * m < 2 ^ 53) (t : TypeId) (w : World) : (binOp .mul t (.float .f64 4621819117588971520) (.float .f64 (conv m))).run Tryd.prog w = .ok (.float .f64 (conv (10 * m))) w :=
  run_float_arith w .mul t .f64 _ _ _ (by rw [← conv_ten]; exact mul_conv (by omega) (by omega) h)
theorem plus_small (a b : Nat) (h : a + b < 2 ^ 53) (t : TypeId) (w : World) : (binOp .add t (.float .f64 (conv a)) (.float .f64 (conv b))).run Tryd.prog w = .ok (.float .f64 (conv (a + b))) w :=
  run_float_arith w .add t .f64 _ _ _ (add_conv (by omega) (by omega) h)

/-- How decimal ends. -/
def DecEnd (s : Bool) (r : List UInt8) (w : World) (e : Ending) (w' : World) : Prop :=
  ∃ x ok, e = .returned (.tuple #[.float .f64 x, .bool ok]) ∧ (digitsR s r).Is x ok ∧ Below w.heap.size w w'

set_option maxHeartbeats 8000000 in
set_option maxRecDepth 100000 in
theorem decimal_any (A : Option Addr) (n c : Nat) (l : List UInt8) (w : World) (hr : Reads w w.heap.size 1 A n (Lib.byteCells l)) (hn : n ≤ 1099511627776) (hc : n ≤ c) :
    Calls Tryd.prog 66 #[.slice A n c] w fun e w' => DecEnd (signOf l) (restOf l) w e w' := by
  have hl : Hid (l.length = n) := by have := hr.1; show _ = _; simpa [Lib.byteCells_length] using this
  have kc := Lib.run_convert_bytes_const (P := Tryd.prog) w 22 5 #[.int .u8 45] 1 1 Tryd.underlying22 Tryd.underlying5
  have h1 := reads_one w 45 (1, 2)
  have hb1 : Below w.heap.size w (w.alloc (.cells #[.int .u8 45] 5 (1, 2))) := (Below.refl _ _).alloc (Nat.le_refl _) _
  have H1 := Lib.hid h1
  have HB1 := Lib.hid hb1
  have HR1 := Lib.hid (hr.below hb1)
  clear h1 hb1
  obtain ⟨s, hs⟩ : ∃ s, s = signOf l := ⟨_, rfl⟩
  obtain ⟨r, hr'⟩ : ∃ r, r = restOf l := ⟨_, rfl⟩
  rw [← hs, ← hr']
  have HS := Lib.hid hs
  have HRR := Lib.hid hr'
  clear hs hr'
  go_enter Tryd.func66, Tryd.ntmps66
  go_upto_region 1 with fail
  go_cut [0, 4] (fun p0 p4 wx => ∃ (A1 : Option Addr) (n1 c1 : Nat), p0 = .slice A1 n1 c1 ∧ p4 = .bool s ∧ n1 ≤ c1 ∧ n1 ≤ 1099511627776 ∧ Below w.heap.size w wx ∧ Reads wx w.heap.size 1 A1 n1 (Lib.byteCells r))
  case first =>
    cases s with
    | true =>
      have hn1 : 1 ≤ n := by
        have h := HS.out
        have hl1 := hl.out
        cases l with
        | nil => cases h
        | cons y q => rw [← hl1]; simp
      have hrr : (Lib.byteCells l).drop 1 = Lib.byteCells r := by
        rw [HRR.out]; unfold restOf; rw [← HS.out]
        simp [Lib.byteCells, List.drop_one]
      have hcut := HR1.out.cut (k := 1) (cap := c) hn1 hc
      rw [Nat.mul_one, hrr] at hcut
      have HC := Lib.hid hcut
      clear hcut hrr
      go_wp2_with (go_at_call 76; refine (cutPrefix_one A _ n c 1 _ _ l 45 _ HR1.out H1.out hc).mono ?_; rintro e w1 ⟨rfl, rfl⟩; rw [show (l.head? == some (45 : UInt8)) = true from HS.out.symm])
      go_meet
      exact ⟨_, _, _, rfl, rfl, by omega, by omega, HB1.out, HC.out⟩
    | false =>
      have hrr : l = r := by rw [HRR.out]; unfold restOf; rw [← HS.out]; rfl
      have hx := HR1.out
      rw [hrr] at hx
      have HX := Lib.hid hx
      clear hx hrr
      go_wp2_with (go_at_call 76; refine (cutPrefix_one A _ n c 1 _ _ l 45 _ HR1.out H1.out hc).mono ?_; rintro e w1 ⟨rfl, rfl⟩; rw [show (l.head? == some (45 : UInt8)) = false from HS.out.symm])
      go_meet
      exact ⟨_, _, _, rfl, rfl, hc, hn, HB1.out, HX.out⟩
  case rest =>
    obtain ⟨A1, n1, c1, rfl, rfl, hc1, hn1, hbw, hr1⟩ := hcut
    clear hr hl H1 HB1 HR1 HS HRR kc
    have kc := Lib.run_convert_bytes_const (P := Tryd.prog) wc 22 5 #[.int .u8 46] 1 1 Tryd.underlying22 Tryd.underlying5
    have h1 := reads_one wc 46 (1, 2)
    have hb1 : Below wc.heap.size wc (wc.alloc (.cells #[.int .u8 46] 5 (1, 2))) := (Below.refl _ _).alloc (Nat.le_refl _) _
    have H1 := Lib.hid h1
    have HB1 := Lib.hid (hbw.trans (hb1.mono hbw.size))
    have HR1 := Lib.hid (hr1.below (hb1.mono hbw.size))
    have hsz : w.heap.size ≤ wc.heap.size + 1 := by have := hbw.size; omega
    clear h1 hb1 hr1 hbw
    go_upto_region 2 with fail
    go_cut [5, 6, 7] (fun p5 p6 p7 wx => ∃ (A2 A3 : Option Addr) (n2 c2 n3 c3 : Nat) (lw lb : List UInt8) (st : Bool), p5 = .slice A2 n2 c2 ∧ p6 = .slice A3 n3 c3 ∧ p7 = .bool st ∧ n2 ≤ 1099511627776 ∧ n3 ≤ 1099511627776 ∧ Below w.heap.size w wx ∧ Reads wx w.heap.size 1 A2 n2 (Lib.byteCells lw) ∧ Reads wx w.heap.size 1 A3 n3 (Lib.byteCells lb) ∧ Hid (Parts s r lw lb st))
    case first =>
      go_wp2_with (go_at_call 77; refine (cut_one A1 _ n1 c1 1 _ _ r 46 _ HR1.out H1.out hc1 hn1).mono ?_; rintro e w1 ⟨v, rfl, hv, hb2⟩; have HB2 := Lib.hid hb2; clear hb2; cases hv)
      · rename_i hw
        have HP := Lib.hid (parts_whole s hw)
        go_meet
        exact ⟨A1, none, n1, c1, 0, 0, r, [], false, rfl, rfl, rfl, hn1, by omega, HB1.out.trans (HB2.out.mono (by simpa using hsz)), HR1.out.below (HB2.out.mono (by simpa using hsz)), Reads.none_, HP.out⟩
      · rename_i i hi hw hl2
        have HP := Lib.hid (parts_two s hl2 hw)
        have hlr : r.length = n1 := by have := HR1.out.1; simpa [Lib.byteCells_length] using this
        have HW := Lib.hid (HR1.out.take (k := i) (by omega))
        have hcut := HR1.out.cut (k := i + 1) (cap := c1) (by omega) hc1
        rw [Nat.mul_one] at hcut
        have e1 : (Lib.byteCells r).drop (i + 1) = Lib.byteCells (r.drop (i + 1)) := by simp [Lib.byteCells, List.map_drop]
        have e2 : (Lib.byteCells r).take i = Lib.byteCells (r.take i) := by simp [Lib.byteCells, List.map_take]
        rw [e1] at hcut
        rw [e2] at HW
        have HC := Lib.hid hcut
        clear hcut e1 e2
        unfold cutBack
        go_meet
        exact ⟨A1, _, i, c1, n1 - (i + 1), c1 - (i + 1), r.take i, r.drop (i + 1), true, rfl, rfl, rfl, by omega, by omega, HB1.out.trans (HB2.out.mono (by simpa using hsz)), HW.out.below (HB2.out.mono (by simpa using hsz)), HC.out.below (HB2.out.mono (by simpa using hsz)), HP.out⟩
    case rest =>
      obtain ⟨A2, A3, n2, c2, n3, c3, lw, lb, st, rfl, rfl, rfl, hn2, hn3, hbw, hr2, hr3, HP⟩ := hcut
      have HBW := Lib.hid hbw
      have L2 : Hid (lw.length = n2) := by have := hr2.1; show _ = _; simpa [Lib.byteCells_length] using this
      have L3 : Hid (lb.length = n3) := by have := hr3.1; show _ = _; simpa [Lib.byteCells_length] using this
      clear H1 HB1 HR1 kc hsz hbw hc1 hn1
      go_upto_region 3 with fail
      go_cut [48] (fun p48 wx => wx = wc ∧ ∃ b : Bool, p48 = .bool b ∧ Hid (b = !decide (lw.length + lb.length ≤ 15 ∧ (areD lw = true ∧ 0 < lw.length) ∧ (st = true → areD lb = true ∧ 0 < lb.length))))
      case first =>
        obtain ⟨u2, hu2⟩ : ∃ u, u = (areD lw && decide (0 < lw.length)) := ⟨_, rfl⟩
        obtain ⟨u3, hu3⟩ : ∃ u, u = (areD lb && decide (0 < lb.length)) := ⟨_, rfl⟩
        have U2 := Lib.hid hu2
        have U3 := Lib.hid hu3
        clear hu2 hu3
        have e2 : Hid ((areD lw = true ∧ 0 < lw.length) ↔ u2 = true) := by
          show _ ↔ _
          rw [U2.out, Bool.and_eq_true, decide_eq_true_eq]
        have e3 : Hid ((areD lb = true ∧ 0 < lb.length) ↔ u3 = true) := by
          show _ ↔ _
          rw [U3.out, Bool.and_eq_true, decide_eq_true_eq]
        have eL : Hid (lw.length + lb.length ≤ 15 ↔ n2 + n3 ≤ 15) := by show _ ↔ _; rw [L2.out, L3.out]
        by_cases h15 : n2 + n3 ≤ 15
        · have hB : decide ((15 : Int) < (n2 : Int) + (n3 : Int)) = false := decide_eq_false (by omega)
          cases u2 with
          | false =>
            go_wp2_with (go_at_call 78; (with_reducible refine (areDigits_any A2 n2 c2 _ lw _ hr2 hn2).mono ?_); rintro e w1 ⟨rfl, rfl⟩; rw [← U2.out])
            go_meet
            refine ⟨rfl, true, rfl, ?_⟩
            show _ = _
            rw [decide_eq_false (fun h => by have := e2.out.1 h.2.1; cases this)]; rfl
          | true =>
            have HW := e2.out.2 rfl
            cases st with
            | false =>
              go_wp2_with (go_at_call 78; (with_reducible refine (areDigits_any A2 n2 c2 _ lw _ hr2 hn2).mono ?_); rintro e w1 ⟨rfl, rfl⟩; rw [← U2.out])
              go_meet
              refine ⟨rfl, false, rfl, ?_⟩
              show _ = _
              rw [decide_eq_true ⟨eL.out.2 h15, HW, fun h => by cases h⟩]; rfl
            | true =>
              go_wp2_with first | (go_at_call 78; (with_reducible refine (areDigits_any A2 n2 c2 _ lw _ hr2 hn2).mono ?_); rintro e w1 ⟨rfl, rfl⟩; rw [← U2.out]) | (go_at_call 78; (with_reducible refine (areDigits_any A3 n3 c3 _ lb _ hr3 hn3).mono ?_); rintro e w1 ⟨rfl, rfl⟩; rw [← U3.out])
              go_meet
              refine ⟨rfl, !u3, rfl, ?_⟩
              show _ = _
              cases u3 with
              | false =>
                have hF : ¬ (lw.length + lb.length ≤ 15 ∧ (areD lw = true ∧ 0 < lw.length) ∧ (True → areD lb = true ∧ 0 < lb.length)) := by
                  intro h
                  have h2 := e3.out.1 (h.2.2 trivial)
                  cases h2
                rw [decide_eq_false hF]
              | true =>
                have hT : lw.length + lb.length ≤ 15 ∧ (areD lw = true ∧ 0 < lw.length) ∧ (True → areD lb = true ∧ 0 < lb.length) := ⟨eL.out.2 h15, HW, fun _ => e3.out.2 rfl⟩
                rw [decide_eq_true hT]
        · have hB : decide ((15 : Int) < (n2 : Int) + (n3 : Int)) = true := decide_eq_true (by omega)
          have hF : Hid (decide (lw.length + lb.length ≤ 15 ∧ (areD lw = true ∧ 0 < lw.length) ∧ (st = true → areD lb = true ∧ 0 < lb.length)) = false) := decide_eq_false (fun h => h15 (eL.out.1 h.1))
          have HH := Lib.hid h15
          clear h15
          go_wp2_with fail
          go_meet
          refine ⟨rfl, true, rfl, ?_⟩
          show _ = _
          rw [hF.out]; rfl
      case rest =>
        obtain ⟨rfl, b, rfl, hb⟩ := hcut
        cases b with
        | true =>
          have hd : Hid (digitsR s r = .none) := by
            show _ = _
            rw [HP.out.2, if_neg]
            intro h
            have := hb.out
            rw [decide_eq_true h] at this
            cases this
          go_wp2_with fail
          go_ret2
          refine ⟨_, _, rfl, ?_, HBW.out⟩
          rw [hd.out]; exact ⟨rfl, rfl⟩
        | false =>
          have hcond : lw.length + lb.length ≤ 15 ∧ (areD lw = true ∧ 0 < lw.length) ∧ (st = true → areD lb = true ∧ 0 < lb.length) := by
            by_cases h : lw.length + lb.length ≤ 15 ∧ (areD lw = true ∧ 0 < lw.length) ∧ (st = true → areD lb = true ∧ 0 < lb.length)
            · exact h
            · have := hb.out
              rw [decide_eq_false h] at this
              cases this
          have hd : Hid (digitsR s r = .val s (foldD (foldD 0 lw) lb) lb.length) := by
            show _ = _
            rw [HP.out.2, if_pos hcond]
          have hD2 : Hid (areD lw = true) := hcond.2.1.1
          have hD3 : Hid (areD lb = true) := by
            show _ = _
            cases st with
            | false => rw [HP.out.1 rfl]; rfl
            | true => exact (hcond.2.2 rfl).1
          have h15 : n2 + n3 ≤ 15 := by have := hcond.1; rw [L2.out, L3.out] at this; exact this
          clear hcond hb HP
          go_wp2_with fail
          go_loop [8, 51] (fun a d => ∃ i : Nat, i ≤ n2 ∧ (∃ q, a = .float .f64 q ∧ Hid (q = conv (foldD 0 (lw.take i)))) ∧ d = .int .i64 i) (fun _ d => n2 - (intOf d).toNat)
          case atStart => exact ⟨0, Nat.zero_le _, ⟨0, rfl, by show _ = _; rw [List.take_zero]; rfl⟩, rfl⟩
          case round =>
            obtain ⟨i, hi2, ⟨q, rfl, hq⟩, rfl⟩ := hrel
            by_cases hi : i < n2
            · obtain ⟨ad, y, rfl, hcell, _, hy⟩ := reads_byteN hr2 hi
              obtain ⟨m, hm⟩ : ∃ m, m = foldD 0 (lw.take i) := ⟨_, rfl⟩
              obtain ⟨d1, d2⟩ := areD_at hD2.out hy
              have hfs := fold_step 0 hy
              have hm15 : foldD 0 (lw.take (i + 1)) < 1000000000000000 := by
                refine lt53 (foldD_lt _ 0 0 (areD_take hD2.out _) (by decide)) ?_
                rw [List.length_take]; omega
              rw [hfs, ← hm] at hm15
              have HFS : Hid (conv (10 * m + (y.toNat - 48)) = conv (foldD 0 (lw.take (i + 1)))) := by show _ = _; rw [hfs, ← hm]
              have k1 := fun t w => times_ten m (by omega) t w
              have k2 := fun t w => plus_small (10 * m) (y.toNat - 48) (by omega) t w
              have k3 := fun w => worth_any y d1 d2 w
              have K3 := Lib.hid k3
              have hq' := hq.out
              rw [← hm] at hq'
              subst hq'
              clear hfs hm hq k3
              obtain ⟨e1, he1⟩ : ∃ e1, e1 = conv m := ⟨_, rfl⟩
              obtain ⟨e2, he2⟩ : ∃ e2, e2 = conv (10 * m) := ⟨_, rfl⟩
              obtain ⟨e3, he3⟩ : ∃ e3, e3 = conv (y.toNat - 48) := ⟨_, rfl⟩
              obtain ⟨e4, he4⟩ : ∃ e4, e4 = conv (10 * m + (y.toNat - 48)) := ⟨_, rfl⟩
              rw [← he4] at HFS
              rw [← he1, ← he2] at k1
              rw [← he2, ← he3, ← he4] at k2
              rw [← he3] at K3
              rw [← he1]
              clear he1 he2 he3 he4 d1 d2 hm15
              go_wp2_with first | (go_at_call 79; refine (K3.out _).mono ?_; rintro e w1 ⟨rfl, rfl⟩) | (simp only [k1]) | (simp only [k2])
              exact ⟨⟨i + 1, by omega, ⟨e4, rfl, HFS⟩, by simp⟩, by simp [intOf]; omega⟩
            · obtain rfl : i = n2 := by omega
              have HW : Hid (q = conv (foldD 0 lw)) := by
                have h := hq.out
                rw [List.take_of_length_le (by rw [L2.out]; exact Nat.le_refl _)] at h
                exact h
              clear hq
              obtain ⟨N, hN⟩ : ∃ N, N = foldD 0 lw := ⟨_, rfl⟩
              rw [← hN] at HW hd
              have hNb := foldD_lt lw 0 0 hD2.out (by decide)
              rw [← hN, Nat.zero_add] at hNb
              have HNB := Lib.hid hNb
              clear hN hNb
              go_wp2_with fail
              go_loop [8, 9, 63] (fun a b d => ∃ j : Nat, j ≤ n3 ∧ (∃ q, a = .float .f64 q ∧ Hid (q = conv (foldD N (lb.take j)))) ∧ (∃ q, b = .float .f64 q ∧ Hid (q = conv (10 ^ j))) ∧ d = .int .i64 j) (fun _ _ d => n3 - (intOf d).toNat)
              case atStart => exact ⟨0, Nat.zero_le _, ⟨q, rfl, by show _ = _; rw [List.take_zero]; exact HW.out⟩, ⟨4607182418800017408, rfl, by show _ = _; rw [← conv_one]⟩, rfl⟩
              case round =>
                obtain ⟨j, hj3, ⟨q2, rfl, hq2⟩, ⟨q3, rfl, hq3⟩, rfl⟩ := hrel
                by_cases hj : j < n3
                · obtain ⟨ad, y, rfl, hcell, _, hy⟩ := reads_byteN hr3 hj
                  obtain ⟨m, hm⟩ : ∃ m, m = foldD N (lb.take j) := ⟨_, rfl⟩
                  obtain ⟨T, hT⟩ : ∃ T, T = 10 ^ j := ⟨_, rfl⟩
                  obtain ⟨d1, d2⟩ := areD_at hD3.out hy
                  have hfs := fold_step N hy
                  have hm15 : foldD N (lb.take (j + 1)) < 1000000000000000 := by
                    refine lt53 (foldD_lt _ N lw.length (areD_take hD3.out _) HNB.out) ?_
                    rw [List.length_take, L2.out]; omega
                  rw [hfs, ← hm] at hm15
                  have hT15 : 10 * T ≤ 1000000000000000 := by
                    have := pow15 (k := j + 1) (by omega)
                    rw [hT, Nat.mul_comm]
                    rw [Nat.pow_succ] at this
                    exact this
                  have HFS : Hid (conv (10 * m + (y.toNat - 48)) = conv (foldD N (lb.take (j + 1)))) := by show _ = _; rw [hfs, ← hm]
                  have HFT : Hid (conv (10 * T) = conv (10 ^ (j + 1))) := by show _ = _; rw [hT, Nat.pow_succ, Nat.mul_comm]
                  have k1 := fun t w => times_ten m (by omega) t w
                  have k2 := fun t w => plus_small (10 * m) (y.toNat - 48) (by omega) t w
                  have k4 := fun t w => times_ten T (by omega) t w
                  have k3 := fun w => worth_any y d1 d2 w
                  have K3 := Lib.hid k3
                  have hq' := hq2.out
                  rw [← hm] at hq'
                  subst hq'
                  have hq' := hq3.out
                  rw [← hT] at hq'
                  subst hq'
                  clear hfs hm hq2 hq3 k3 hT
                  obtain ⟨e1, he1⟩ : ∃ e1, e1 = conv m := ⟨_, rfl⟩
                  obtain ⟨e2, he2⟩ : ∃ e2, e2 = conv (10 * m) := ⟨_, rfl⟩
                  obtain ⟨e3, he3⟩ : ∃ e3, e3 = conv (y.toNat - 48) := ⟨_, rfl⟩
                  obtain ⟨e4, he4⟩ : ∃ e4, e4 = conv (10 * m + (y.toNat - 48)) := ⟨_, rfl⟩
                  obtain ⟨e5, he5⟩ : ∃ e5, e5 = conv T := ⟨_, rfl⟩
                  obtain ⟨e6, he6⟩ : ∃ e6, e6 = conv (10 * T) := ⟨_, rfl⟩
                  rw [← he4] at HFS
                  rw [← he6] at HFT
                  rw [← he1, ← he2] at k1
                  rw [← he2, ← he3, ← he4] at k2
                  rw [← he3] at K3
                  rw [← he5, ← he6] at k4
                  rw [← he1, ← he5]
                  clear he1 he2 he3 he4 he5 he6 d1 d2 hm15 hT15
                  go_wp2_with first | (go_at_call 79; refine (K3.out _).mono ?_; rintro e w1 ⟨rfl, rfl⟩) | (simp only [k1]) | (simp only [k2]) | (simp only [k4])
                  exact ⟨⟨j + 1, by omega, ⟨e4, rfl, HFS⟩, ⟨e6, rfl, HFT⟩, by simp⟩, by simp [intOf]; omega⟩
                · obtain rfl : j = n3 := by omega
                  have hx := hq2.out
                  rw [List.take_of_length_le (by rw [L3.out]; exact Nat.le_refl _)] at hx
                  have hNb := foldD_lt lb N lw.length hD3.out HNB.out
                  rw [L2.out, L3.out] at hNb
                  have hN15 := lt53 hNb h15
                  have hT15 := pow15 (k := j) (by omega)
                  obtain ⟨z, hz⟩ := quo_some (n := foldD N lb) (t := 10 ^ j) (by omega) (pow_pos10 _) (by omega)
                  have hzl := quo_le (by omega) (pow_pos10 _) (by omega) hz
                  have hz63 : z < 2 ^ 63 := by omega
                  have hop : ∀ t w, (binOp .quo t (.float .f64 q2) (.float .f64 q3)).run Tryd.prog w = .ok (.float .f64 z) w := fun t w => run_float_arith w .quo t .f64 _ _ _ (by rw [hx, hq3.out]; exact hz)
                  have HZ := Lib.hid hz
                  have K5 := Lib.hid (fun w => copysign_any z hz63 w)
                  have hlb : Hid (lb.length = j) := L3.out
                  clear hx hq2 hq3 hNb hN15 hT15 hz hzl hz63
                  cases s with
                  | true =>
                    go_wp2_with first | (go_at_call 80; refine (K5.out _).mono ?_; rintro e w1 ⟨rfl, rfl⟩) | (simp only [hop])
                    go_ret2
                    refine ⟨_, _, rfl, ?_, HBW.out⟩
                    rw [hd.out, hlb.out]
                    exact ⟨⟨z, HZ.out, rfl⟩, rfl⟩
                  | false =>
                    go_wp2_with (simp only [hop])
                    go_ret2
                    refine ⟨_, _, rfl, ?_, HBW.out⟩
                    rw [hd.out, hlb.out]
                    exact ⟨⟨z, HZ.out, rfl⟩, rfl⟩
end Go.Proofs.YtjdmhbfddklhnaaDoor
