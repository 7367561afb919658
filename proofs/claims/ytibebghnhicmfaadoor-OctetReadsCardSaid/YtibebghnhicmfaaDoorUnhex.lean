/-
  The contract of octet.hexDigit and octet.Unhex: the bytes of any text, or the error. Conditions: at most 2^40 bytes.
-/
import Derived.Test.YtibebghnhicmfaaDoorHex
import Derived.Deep.QuietTactic
import Derived.BigQuiet
import Derived.IntWalk
import Derived.WalkSmall
set_option linter.unusedVariables false
namespace Go.Proofs.YtibebghnhicmfaaDoor
open Go Go.Proofs Go.RowKit Oct

theorem indexHex : ∀ n : Nat, n < 256 → Lib.indexByte [48, 49, 50, 51, 52, 53, 54, 55, 56, 57, 97, 98, 99, 100, 101, 102] (if 65 ≤ n ∧ n ≤ 70 then (n + 32).toUInt8 else n.toUInt8) = hexV n.toUInt8 := by
  decide +kernel

theorem ret_int {k : IntKind} {a b : Int} (h : a = b) : Ending.returned (.int k a) = .returned (.int k b) := by rw [h]

theorem indexHex_up (x : UInt8) (h : 65 ≤ x.toNat ∧ x.toNat ≤ 70) : Lib.indexByte [48, 49, 50, 51, 52, 53, 54, 55, 56, 57, 97, 98, 99, 100, 101, 102] ((x.toNat : Int) + 32).toNat.toUInt8 = hexV x := by
  have := indexHex x.toNat (by have := x.toNat_lt; omega)
  rw [if_pos h] at this
  rw [show ((x.toNat : Int) + 32).toNat = x.toNat + 32 from by omega, this]
  simp
theorem indexHex_low (x : UInt8) (h : ¬ (65 ≤ x.toNat ∧ x.toNat ≤ 70)) : Lib.indexByte [48, 49, 50, 51, 52, 53, 54, 55, 56, 57, 97, 98, 99, 100, 101, 102] x = hexV x := by
  have := indexHex x.toNat (by have := x.toNat_lt; omega)
  rw [if_neg h] at this
  simpa using this

set_option maxHeartbeats 1000000 in
set_option maxRecDepth 100000 in
theorem hexDigit_any (x : UInt8) (w : World) :
    Calls Tryd.prog 23 #[.int .u8 x.toNat] w fun e w' => e = .returned (.int .i64 (hexV x)) ∧ w' = w := by
  have hx := x.toNat_lt
  by_cases h1 : 65 ≤ x.toNat ∧ x.toNat ≤ 70
  · have hI := Lib.hid (indexHex_up x h1)
    obtain ⟨h2, h3⟩ := h1
    go_enter Tryd.func23, Tryd.ntmps23
    go_wp2_with fail
    refine (Tryd.strings_IndexByte _ _ w).mono ?_
    rintro e w1 ⟨rfl, rfl⟩
    go_wp2
    go_ret
    exact ⟨ret_int hI.out, rfl⟩
  · have hI := Lib.hid (indexHex_low x h1)
    go_enter Tryd.func23, Tryd.ntmps23
    go_wp2_with fail
    all_goals
      refine (Tryd.strings_IndexByte _ _ w).mono ?_
      rintro e w1 ⟨rfl, rfl⟩
      go_wp2
      go_ret
      exact ⟨ret_int hI.out, rfl⟩

theorem ofInt_i64 (a : Nat) (ha : a < 9223372036854775808) : (BitVec.ofInt 64 (a : Int)).toNat = a := by
  rw [BitVec.ofInt_natCast, BitVec.toNat_ofNat]; exact Nat.mod_eq_of_lt (by omega)
theorem i64_or_nat (a b : Nat) (ha : a < 9223372036854775808) (hb : b < 9223372036854775808) : bits .or .i64 (a : Int) (b : Int) = ((a ||| b : Nat) : Int) := by
  have hx : a ||| b < 2 ^ 63 := Nat.or_lt_two_pow (by omega) (by omega)
  show IntKind.i64.wrap ((BitVec.ofInt 64 (a : Int) ||| BitVec.ofInt 64 (b : Int)).toNat : Int) = _
  rw [BitVec.toNat_or, ofInt_i64 a ha, ofInt_i64 b hb, IntKind.wrap_i64]
  omega
theorem i64_join (a b : Int) (ha : -1 ≤ a ∧ a ≤ 15) (hb : -1 ≤ b ∧ b ≤ 15) (h0 : 0 ≤ a) (h1 : 0 ≤ b) : bits .or .i64 (a * 16) b = 16 * a + b := by
  obtain ⟨m, rfl⟩ := Int.eq_ofNat_of_zero_le h0
  obtain ⟨n, rfl⟩ := Int.eq_ofNat_of_zero_le h1
  have := i64_or_nat (m * 16) n (by omega) (by omega)
  rw [nat_join 4 (m * 16) n (by omega) (by omega)] at this
  rw [show ((m : Int) * 16) = ((m * 16 : Nat) : Int) from by omega, this]
  omega

theorem byteCells_snoc_int (l : List UInt8) {a : Int} (h0 : 0 ≤ a) (h : a < 256) : Lib.byteCells (l ++ [a.toNat.toUInt8]) = Lib.byteCells l ++ [.int .u8 a] := by
  rw [Lib.byteCells_append]
  simp only [Lib.byteCells, List.map_cons, List.map_nil]
  have e : ((a.toNat.toUInt8.toNat : Nat) : Int) = a := by simp; omega
  rw [e]

/-- How Unhex ends. -/
def UnhexEnd (r : Option (List UInt8)) (w : World) (e : Ending) (w' : World) : Prop :=
  (r = none ∧ e = .returned (.tuple #[.slice none 0 0, .int .i64 3]) ∧ Below w.heap.size w w') ∨
    ∃ out v, r = some out ∧ e = .returned (.tuple #[v, .int .i64 0]) ∧ w'.ownsRow w.heap.size 5 1 v out.length (Lib.byteCells out) ∧ Below w.heap.size w w'

set_option maxHeartbeats 1000000 in
set_option maxRecDepth 100000 in
theorem unhex_any (s : ByteArray) (w : World) (hs : s.size ≤ 1099511627776) :
    Calls Tryd.prog 10 #[.string s] w fun e w' => UnhexEnd (unhex s.data.toList) w e w' := by
  obtain ⟨i0, hi, hz0, hz1, hz2⟩ := info_parts infoByte
  have hsl : s.data.toList.length = s.size := by simp
  by_cases ho : s.size % 2 = 0
  · go_enter Tryd.func10, Tryd.ntmps10
    go_wp2_with (at_make; refine wpList_make_own _ rfl _ _ 22 rfl w.heap.size 5 i0 (.int .u8 0) 1 Tryd.underlying22 hi hz0 hz1 _ _ _ (s.size / 2) rfl rfl (by omega) ?b2 ?b3 (Nat.le_refl _) ?_)
    case b2 => rw [hz2]; omega
    case b3 => unfold maxLen; omega
    intro w0 hown0 hgrow0
    have hbel0 : Below w.heap.size w w0 := (Below.refl _ _).grown hgrow0 (Nat.le_refl _) (fun k hk => by cases hk)
    clear hgrow0
    go_wp2
    go_loopw [4, 5] (fun v i wr => ∃ (j : Nat) (out : List UInt8), j ≤ s.size ∧ j % 2 = 0 ∧ i = .int .i64 j ∧ out.length ≤ j ∧ wr.ownsRow w.heap.size 5 1 v out.length (Lib.byteCells out) ∧ unhex s.data.toList = (unhex (s.data.toList.drop j)).map (out ++ ·) ∧ Below w.heap.size w wr) (fun _ i _ => s.size - (intOf i).toNat)
    case atStart => exact ⟨0, [], Nat.zero_le _, rfl, rfl, Nat.zero_le _, hown0, by simp, hbel0⟩
    case round =>
      obtain ⟨j, out, hj, hj2, rfl, hol, hown, hun, hbel⟩ := hrel
      by_cases hlt : j < s.size
      · have h1 : j + 1 < s.size := by omega
        clear hown0 hbel0
        have hun' := Lib.hid hun
        clear hun
        have q1 : IntKind.i64.wrap ((j : Int) + 1) = (j : Int) + 1 := IntWalk.i64_in _ (by omega)
        have q2 : (0 : Int) ≤ (j : Int) + 1 := by omega
        have q3 : ((j : Int) + 1).toNat = j + 1 := by omega
        have q4 : (j : Int) + 1 < (s.size : Int) := by omega
        have q5 : (0 : Int) ≤ (j : Int) + 1 ∧ (j : Int) + 1 < (s.size : Int) := ⟨q2, q4⟩
        go_wp2_with fail
        go_quiet ((go_at_call 23; exact Calls.quiet_of_same (hexDigit_any _ _)))
        have hownq : (wr.drewN nq).ownsRow w.heap.size 5 1 u4 out.length (Lib.byteCells out) := hown
        have hbelq := below_drewN hbel nq
        clear hown hbel
        generalize wr.drewN nq = wq at *
        generalize hx : s[j] = x at *
        generalize hy : s[j + 1] = y at *
        have hx' : s.data.toList[j]'(by omega) = x := by rw [← hx]; rfl
        have hy' : s.data.toList[j + 1]'(by omega) = y := by rw [← hy]; rfl
        have hj1 : j + 1 < s.data.toList.length := by omega
        have HS := fun p => Lib.hid (unhex_stop s.data.toList j hj1 p out hun'.out)
        have HT := fun p p' => Lib.hid (unhex_step s.data.toList j hj1 p p' out hun'.out)
        rw [hx', hy'] at HS HT
        clear hx hy hx' hy' hj1 hun' q1 q2 q3 q4 q5 hsl
        have hb0 := hexV_bound x
        have hb1 := hexV_bound y
        generalize hexV x = a at *
        generalize hexV y = b at *
        by_cases hv : a < 0 ∨ b < 0
        · have HS' := HS hv
          clear HS HT
          rcases hv with hv | hv
          · go_wp2
            go_ret2
            exact .inl ⟨HS'.out, rfl, hbelq⟩
          · by_cases hv' : a < 0
            · go_wp2
              go_ret2
              exact .inl ⟨HS'.out, rfl, hbelq⟩
            · go_wp2
              go_ret2
              exact .inl ⟨HS'.out, rfl, hbelq⟩
        · have h0 : 0 ≤ a := by omega
          have h2 : 0 ≤ b := by omega
          clear hv HS
          have HT' := HT h0 h2
          clear HT
          have hor := i64_join a b hb0 hb1 h0 h2
          go_wp2_with (at_builtin; refine wpList_append_own _ rfl _ _ 22 rfl w.heap.size 5 i0 (.int .u8 0) 1 1 Tryd.underlying22 hi hz0 hz1 hz2 rfl (by decide) _ _ _ rfl (hownq.alloc _) ⟨wq.heap.size, 0, none⟩ 1 1 [.int .u8 (16 * a + b)] rfl rfl ?c1 ?c2 ?c3 ?c4 ?c5 ?_)
          case c1 =>
            intro j u hj
            match j, hj with
            | 0, hj => simp at hj; subst hj; simp [Addr.add]
          case c2 => intro u hu; simp at hu; subst hu; rfl
          case c3 => unfold maxLen; omega
          case c4 => omega
          case c5 => have := hbelq.size; simp; omega
          intro v' w2 hown' hgrow _
          have hbel2 : Below w.heap.size w w2 := (hbelq.alloc hbelq.size _).grown hgrow (by have := hbelq.size; simp; omega) (fun k hk => (hownq.lt k hk).1)
          have hown2 : w2.ownsRow w.heap.size 5 1 v' (out ++ [(16 * a + b).toNat.toUInt8]).length (Lib.byteCells (out ++ [(16 * a + b).toNat.toUInt8])) := by
            rw [byteCells_snoc_int out (by omega) (by omega), List.length_append]
            exact hown'
          clear hown' hgrow hownq hbelq hor
          go_wp2
          go_roundw
          case rel => exact ⟨j + 2, _, by omega, by omega, by go_num, by simp; omega, hown2, HT'.out, hbel2⟩
          case measure => simp [intOf]; omega
      · obtain rfl : j = s.size := by omega
        have hun' : Hid (unhex s.data.toList = some out) := by
          rw [hun, List.drop_of_length_le (by omega)]
          show Option.map _ (unhex []) = _
          simp [unhex]
        clear hun hsl
        go_wp2
        go_ret2
        exact .inr ⟨out, _, hun'.out, rfl, hown, hbel⟩
  · have hno := Lib.hid (unhex_odd (s.size / 2) s.data.toList (by omega))
    clear hsl
    go_enter Tryd.func10, Tryd.ntmps10
    go_wp2
    go_ret2
    exact .inl ⟨hno.out, rfl, Below.refl _ _⟩
end Go.Proofs.YtibebghnhicmfaaDoor
