/-
  What the program's package order calls of Go's library: bytes.Compare, bytes.TrimLeft of noughts, cmp.Compare at float64, int64 and int. Conditions: those that each states.
-/
import Derived.Test.YtjdmhbfddklhnaaDoorOrdRef2
import Derived.Lib.BytesEntry
import Derived.Laws.Externs
import Derived.Lib.Bytealg
set_option linter.unusedSimpArgs false
set_option linter.unusedVariables false
set_option maxRecDepth 100000
namespace Go.Proofs.YtjdmhbfddklhnaaDoor
open Go Go.Proofs Go.RowKit _root_.Ord11 Go.Proofs.YtjdmhbfddklhnaaDoor.Ord11 Num9

theorem bytesOf_reads {w : World} {B n c : Nat} {A : Option Addr} {l : List UInt8} (h : Reads w B 1 A n (Lib.byteCells l)) : (Extern.Bytes.bytesOf (.slice A n c)).run Tryd.prog w = .ok ⟨l.toArray⟩ w := by
  have hl : l.length = n := by have := h.1; simpa [Lib.byteCells_length] using this
  cases A with
  | none =>
    have h0 : n = 0 := by
      rcases Nat.eq_zero_or_pos n with h0 | h0
      · exact h0
      · obtain ⟨ad, e, _⟩ := h.2 h0
        cases e
    subst h0
    obtain rfl : l = [] := List.eq_nil_of_length_eq_zero hl
    rfl
  | some a =>
    have hxs : Lib.bytesOf (l.map fun u => (u.toNat : Int)) = l := by
      unfold Lib.bytesOf
      rw [List.map_map]
      conv => rhs; rw [← List.map_id l]
      apply List.map_congr_left
      intro u _
      simp
    have h2 := Lib.run_loadBytesX (P := Tryd.prog) w (l.map fun u => (u.toNat : Int)) a .empty (fun j x hj => by
      rw [List.getElem?_map, Option.map_eq_some_iff] at hj
      obtain ⟨u, hu, rfl⟩ := hj
      have hj' : j < n := by
        rw [← hl]
        exact (List.getElem?_eq_some_iff.1 hu).1
      obtain ⟨ad, v, e, _, hv, hcell⟩ := h.at_ hj'
      injection e with e
      subst e
      rw [hcell]
      simp [Lib.byteCells, hu] at hv
      rw [hv])
    rw [List.length_map, hl, hxs] at h2
    show (Extern.Bytes.loadBytes a n .empty).run Tryd.prog w = _
    rw [h2]
    simp [ByteArray.empty, ByteArray.emptyWithCapacity]
    rfl
theorem compare_three : ∀ (a b : List UInt8), Lib.compareBytes a b = Go.Proofs.YtjdmhbfddklhnaaDoor.Ord11.three (Op.bytesLess a b) (Op.bytesLess b a)
  | [], [] => rfl
  | [], _ :: _ => rfl
  | _ :: _, [] => rfl
  | x :: a, y :: b => by
    unfold Lib.compareBytes Op.bytesLess
    rw [compare_three a b]
    by_cases h1 : x < y
    · have h2 : ¬ y < x := by rw [UInt8.lt_iff_toNat_lt] at h1 ⊢; omega
      have h3 : (x == y) = false := by rw [beq_eq_false_iff_ne]; rintro rfl; exact h2 h1
      have h4 : (y == x) = false := by rw [beq_eq_false_iff_ne]; rintro rfl; exact h2 h1
      simp [h1, h2, h3, h4, Go.Proofs.YtjdmhbfddklhnaaDoor.Ord11.three]
    · by_cases h2 : y < x
      · have h3 : (x == y) = false := by rw [beq_eq_false_iff_ne]; rintro rfl; exact h1 h2
        have h4 : (y == x) = false := by rw [beq_eq_false_iff_ne]; rintro rfl; exact h1 h2
        simp [h1, h2, h3, h4, Go.Proofs.YtjdmhbfddklhnaaDoor.Ord11.three]
      · have h3 : x = y := by
          apply UInt8.toNat_inj.1
          rw [UInt8.lt_iff_toNat_lt] at h1 h2; omega
        subst h3
        simp [h1, Go.Proofs.YtjdmhbfddklhnaaDoor.Ord11.three]
theorem cmpB_run {w : World} {B B' n c n' c' : Nat} {A A' : Option Addr} {l l' : List UInt8} (h : Reads w B 1 A n (Lib.byteCells l)) (h' : Reads w B' 1 A' n' (Lib.byteCells l')) :
    (callFunc 62 #[.slice A n c, .slice A' n' c']).run Tryd.prog w = .ok (.value (.int .i64 (Go.Proofs.YtjdmhbfddklhnaaDoor.Ord11.three (Op.bytesLess l l') (Op.bytesLess l' l)))) w := by
  rw [run_callFunc_extern Tryd.func62 (by kernel_rfl) (by kernel_rfl) (by kernel_rfl) (e := Extern.BytealgCompare.compare) (by kernel_rfl)]
  change (Sem.run Tryd.prog (do pure (goInt (Extern.BytealgCompare.cmp (← Extern.Bytes.bytesOf (.slice A n c)) (← Extern.Bytes.bytesOf (.slice A' n' c'))))) w).andThen _ = _
  simp only [Sem.run_bind, Sem.run_pure, bytesOf_reads h, bytesOf_reads h', Result.andThen]
  rw [Lib.cmp_eq, ← compare_three]
  rfl
theorem cmpBytes_any {w : World} {B B' n c n' c' : Nat} {A A' : Option Addr} {l l' : List UInt8} (h : Reads w B 1 A n (Lib.byteCells l)) (h' : Reads w B' 1 A' n' (Lib.byteCells l')) :
    Calls Tryd.prog 50 #[.slice A n c, .slice A' n' c'] w fun e w' => e = .returned (.int .i64 (textC l l').1) ∧ w' = w := by
  have hr := cmpB_run (c := c) (c' := c') h h'
  show Calls _ _ _ _ fun e w' => e = .returned (.int .i64 (Go.Proofs.YtjdmhbfddklhnaaDoor.Ord11.three (Op.bytesLess l l') (Op.bytesLess l' l))) ∧ w' = w
  generalize Go.Proofs.YtjdmhbfddklhnaaDoor.Ord11.three (Op.bytesLess l l') (Op.bytesLess l' l) = i at hr
  go_enter Tryd.func50, Tryd.ntmps50
  go_wp2
  go_ret
  exact ⟨rfl, rfl⟩

theorem isNaN_i64 (x : Nat) (w : World) : Calls Tryd.prog 67 #[.int .i64 x] w fun e w' => e = .returned (.bool false) ∧ w' = w := by
  go_enter Tryd.func67, Tryd.ntmps67
  go_wp2
  go_ret
  exact ⟨by simp, rfl⟩
theorem isNaN_int (x : Nat) (w : World) : Calls Tryd.prog 72 #[.int .i64 x] w fun e w' => e = .returned (.bool false) ∧ w' = w := by
  go_enter Tryd.func72, Tryd.ntmps72
  go_wp2
  go_ret
  exact ⟨by simp, rfl⟩
theorem isNaN_f64 (x : Nat) (hx : (key x).isSome = true) (w : World) : Calls Tryd.prog 63 #[.float .f64 x] w fun e w' => e = .returned (.bool false) ∧ w' = w := by
  have h1 : FloatKind.f64.format.order x x = if (key x).isSome then some .eq else none := order_self x
  rw [if_pos hx] at h1
  go_enter Tryd.func63, Tryd.ntmps63
  go_wp2
  go_ret
  exact ⟨rfl, rfl⟩

theorem cmp_i64 (x y : Nat) (w : World) : Calls Tryd.prog 56 #[.int .i64 x, .int .i64 y] w fun e w' => e = .returned (.int .i64 (Go.Proofs.YtjdmhbfddklhnaaDoor.Ord11.three (decide (x < y)) (decide (y < x)))) ∧ w' = w := by
  have K : Hid (∀ x : Nat, Calls Tryd.prog 67 #[.int .i64 x] w fun e w' => e = .returned (.bool false) ∧ w' = w) := fun x => isNaN_i64 x w
  by_cases h1 : x < y
  · have f1 : decide (x < y) = true := decide_eq_true h1
    rw [f1]
    go_enter Tryd.func56, Tryd.ntmps56
    go_wp2_with (go_at_call 67; refine (K.out _).mono ?_; rintro e w1 ⟨rfl, rfl⟩)
    go_ret
    exact ⟨rfl, rfl⟩
  · have f1 : decide (x < y) = false := decide_eq_false h1
    rw [f1]
    obtain ⟨u, hu⟩ : ∃ u, decide (y < x) = u := ⟨_, rfl⟩
    have H1 := Lib.hid h1
    clear h1
    rw [hu]
    cases u
    all_goals go_enter Tryd.func56, Tryd.ntmps56
    all_goals go_wp2_with (go_at_call 67; refine (K.out _).mono ?_; rintro e w1 ⟨rfl, rfl⟩)
    all_goals go_ret
    all_goals exact ⟨rfl, rfl⟩
theorem cmp_int (x y : Nat) (w : World) : Calls Tryd.prog 60 #[.int .i64 x, .int .i64 y] w fun e w' => e = .returned (.int .i64 (Go.Proofs.YtjdmhbfddklhnaaDoor.Ord11.three (decide (x < y)) (decide (y < x)))) ∧ w' = w := by
  have K : Hid (∀ x : Nat, Calls Tryd.prog 72 #[.int .i64 x] w fun e w' => e = .returned (.bool false) ∧ w' = w) := fun x => isNaN_int x w
  by_cases h1 : x < y
  · have f1 : decide (x < y) = true := decide_eq_true h1
    rw [f1]
    go_enter Tryd.func60, Tryd.ntmps60
    go_wp2_with (go_at_call 72; refine (K.out _).mono ?_; rintro e w1 ⟨rfl, rfl⟩)
    go_ret
    exact ⟨rfl, rfl⟩
  · have f1 : decide (x < y) = false := decide_eq_false h1
    rw [f1]
    obtain ⟨u, hu⟩ : ∃ u, decide (y < x) = u := ⟨_, rfl⟩
    have H1 := Lib.hid h1
    clear h1
    rw [hu]
    cases u
    all_goals go_enter Tryd.func60, Tryd.ntmps60
    all_goals go_wp2_with (go_at_call 72; refine (K.out _).mono ?_; rintro e w1 ⟨rfl, rfl⟩)
    all_goals go_ret
    all_goals exact ⟨rfl, rfl⟩
theorem cmp_f64 (x y : Nat) (hx : (key x).isSome = true) (hy : (key y).isSome = true) (w : World) : Calls Tryd.prog 52 #[.float .f64 x, .float .f64 y] w fun e w' => e = .returned (.int .i64 (cmpI (Ieee.double.order x y))) ∧ w' = w := by
  have K1 : Hid (Calls Tryd.prog 63 #[.float .f64 x] w fun e w' => e = .returned (.bool false) ∧ w' = w) := isNaN_f64 x hx w
  have K2 : Hid (Calls Tryd.prog 63 #[.float .f64 y] w fun e w' => e = .returned (.bool false) ∧ w' = w) := isNaN_f64 y hy w
  have h : Hid (Ieee.double.order x y = FloatKind.f64.format.order x y) := rfl
  have hs : (Ieee.double.order x y).isSome = true := by
    rw [order_key]
    obtain ⟨a, ha⟩ := Option.isSome_iff_exists.1 hx
    obtain ⟨b, hb⟩ := Option.isSome_iff_exists.1 hy
    rw [ha, hb]; rfl
  rw [h.out] at hs ⊢
  clear hx hy
  rcases ho : FloatKind.f64.format.order x y with _ | o
  · rw [ho] at hs; cases hs
  · clear hs
    cases o
    all_goals go_enter Tryd.func52, Tryd.ntmps52
    all_goals go_wp2_with (go_at_call 63; (first | (with_reducible refine K1.out.mono ?_) | (with_reducible refine K2.out.mono ?_)); rintro e w1 ⟨rfl, rfl⟩)
    all_goals go_ret
    all_goals exact ⟨rfl, rfl⟩

/-- A slice that reads what is left. -/
def TrimEnd (B : Nat) (X : List UInt8) (w : World) (e : Ending) (w' : World) : Prop := ∃ A n c, e = .returned (.slice A n c) ∧ SlAt w B A n c X ∧ w' = w

set_option maxHeartbeats 4000000 in
theorem trimByte_any (A : Option Addr) (n c B : Nat) (l : List UInt8) (w : World) (h : SlAt w B A n c l) :
    Calls Tryd.prog 68 #[.slice A n c, .int .u8 0] w fun e w' => TrimEnd B (Go.Proofs.YtjdmhbfddklhnaaDoor.Ord11.bare l) w e w' := by
  obtain ⟨X, hX⟩ : ∃ X, X = Go.Proofs.YtjdmhbfddklhnaaDoor.Ord11.bare l := ⟨_, rfl⟩
  rw [← hX]
  have HX := Lib.hid hX
  have H0 := Lib.hid h
  clear hX h
  go_enter Tryd.func68, Tryd.ntmps68
  go_wp2_with fail
  go_loop [0] (fun a => ∃ (A' : Option Addr) (n' c' : Nat) (l' : List UInt8), a = .slice A' n' c' ∧ Hid (SlAt w B A' n' c' l' ∧ X = Go.Proofs.YtjdmhbfddklhnaaDoor.Ord11.bare l')) (fun a => match a with | .slice _ m _ => m | _ => 0)
  case atStart => exact ⟨A, n, c, l, rfl, H0.out, HX.out⟩
  case round =>
    obtain ⟨A', n', c', l', rfl, hI⟩ := hrel
    have hr := hI.out.1.rd
    have hfit := hI.out.1.fit
    have hcap := hI.out.1.cap
    have hlen := hI.out.1.len
    by_cases hn : 0 < n'
    · obtain ⟨ad, y, rfl, hcell, hd, _⟩ := dbyte hr hn
      have hcell : w.cell? ad = some (.int .u8 y.toNat) := by simpa [Addr.add] using hcell
      rw [List.drop_zero] at hd
      by_cases hy : y.toNat = 0
      · have hyB : ((y.toNat : Int) == 0) = true := by rw [beq_iff_eq]; omega
        have HN : Hid (X = Go.Proofs.YtjdmhbfddklhnaaDoor.Ord11.bare (l'.drop 1)) := by
          show _ = _
          have hy0 : y = 0 := UInt8.toNat_inj.1 hy
          rw [hI.out.2, hd]
          conv => lhs; unfold Go.Proofs.YtjdmhbfddklhnaaDoor.Ord11.bare
          rw [List.dropWhile_cons, if_pos (by rw [hy0]; rfl)]
          rfl
        have hcut := hr.cut (k := 1) (cap := c') (by omega) hcap
        rw [Nat.mul_one] at hcut
        have e1 : (Lib.byteCells l').drop 1 = Lib.byteCells (l'.drop 1) := by simp [Lib.byteCells, List.map_drop]
        rw [e1] at hcut
        have HC := Lib.hid hcut
        clear hcut e1 hd hlen
        by_cases hc1 : c' = 1
        · subst hc1
          rw [if_pos rfl] at HC
          rw [show n' - 1 = 0 by omega] at HC
          go_wp2_with fail
          exact ⟨⟨_, _, _, l'.drop 1, rfl, ⟨HC.out, by omega, by omega⟩, HN.out⟩, by simp <;> omega⟩
        · rw [if_neg hc1] at HC
          go_wp2_with fail
          exact ⟨⟨_, _, _, l'.drop 1, rfl, ⟨HC.out, by omega, by omega⟩, HN.out⟩, by simp <;> omega⟩
      · have hyB : ((y.toNat : Int) == 0) = false := by rw [beq_eq_false_iff_ne]; omega
        have HN : Hid (X = l') := by
          show _ = _
          rw [hI.out.2, hd]
          unfold Go.Proofs.YtjdmhbfddklhnaaDoor.Ord11.bare
          rw [List.dropWhile_cons, if_neg (by rw [beq_iff_eq]; intro e; rw [e] at hy; exact hy rfl)]
        clear hd hlen
        go_wp2_with fail
        go_ret
        exact ⟨_, _, _, rfl, by rw [HN.out]; exact hI.out.1, rfl⟩
    · obtain rfl : n' = 0 := by omega
      have h0 : l' = [] := List.eq_nil_of_length_eq_zero hlen
      have HN : Hid (X = []) := by show _ = _; rw [hI.out.2, h0]; rfl
      go_wp2_with fail
      go_ret
      exact ⟨_, _, _, rfl, by rw [HN.out]; exact ⟨Reads.none_, by omega, by omega⟩, rfl⟩

theorem trimLeft_any (A : Option Addr) (n c B : Nat) (l : List UInt8) (w : World) (h : SlAt w B A n c l) :
    Calls Tryd.prog 59 #[.slice A n c, .string ⟨#[0]⟩] w fun e w' => TrimEnd B (Go.Proofs.YtjdmhbfddklhnaaDoor.Ord11.bare l) w e w' := by
  have HT := Lib.hid (trimByte_any A n c B l w h)
  have hlen := h.len
  by_cases hn : 0 < n
  · clear hlen h
    go_enter Tryd.func59, Tryd.ntmps59
    go_wp2_with (go_at_call 68; refine HT.out.mono ?_; rintro e w1 ⟨A', n', c', rfl, h2, rfl⟩)
    go_ret
    exact ⟨_, _, _, rfl, h2, rfl⟩
  · obtain rfl : n = 0 := by omega
    have h0 : l = [] := List.eq_nil_of_length_eq_zero hlen
    subst h0
    clear hlen h
    go_enter Tryd.func59, Tryd.ntmps59
    go_wp2
    go_ret
    exact ⟨_, _, _, rfl, ⟨Reads.none_, by omega, by omega⟩, rfl⟩
end Go.Proofs.YtjdmhbfddklhnaaDoor
