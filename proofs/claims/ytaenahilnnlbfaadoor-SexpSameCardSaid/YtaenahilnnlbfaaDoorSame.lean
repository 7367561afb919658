/-
  The contract of sexp's Same: whether two trees are the same. Conditions: none.
-/
import Derived.Test.YtaenahilnnlbfaaDoorRefSame
import Derived.Test.YtaenahilnnlbfaaDoorClone
import Derived.Test.YtaenahilnnlbfaaDoorSexpListsW
import Derived.Deep.RegionHeld3
set_option linter.unusedVariables false
namespace Go.Proofs.YtaenahilnnlbfaaDoor
open Go Go.Proofs Go.RowKit Sx

theorem bytesOf_ints (l : List UInt8) : Lib.bytesOf (ints l) = l := by
  induction l with
  | nil => rfl
  | cons a r ih =>
    show UInt8.ofNat ((a.toNat : Int).toNat) :: Lib.bytesOf (ints r) = _
    rw [ih]
    simp
theorem bytesIn_of {w : World} {S : Nat → Prop} {A : Option Addr} {n : Nat} {l : List UInt8} (hr : RIn w S 1 A n (Lib.byteCells l)) : Lib.BytesIn w A n (ints l) := by
  have hl : l.length = n := by have := hr.1; simpa [Lib.byteCells_length] using this
  rcases A with _ | ad
  · have h0 : n = 0 := by
      rcases Nat.eq_zero_or_pos n with h | h
      · exact h
      · obtain ⟨_, h, _⟩ := hr.2 h; cases h
    subst h0
    exact Lib.BytesIn.nil _ _ _
  · refine Lib.BytesIn.of_cells fun i hi => ?_
    obtain ⟨ad', h1, _, h3⟩ := hr.2 (by omega)
    injection h1 with h1
    subst h1
    refine h3 i _ ?_
    have hi' : i < l.length := by omega
    simp [Lib.byteCells, ints, List.getD, List.getElem?_eq_getElem hi']
theorem bytesEqual_any (A A' : Option Addr) (n c n' c' : Nat) (l l' : List UInt8) (S S' : Nat → Prop) (w : World) (hr : RIn w S 1 A n (Lib.byteCells l)) (hr' : RIn w S' 1 A' n' (Lib.byteCells l')) :
    Calls Tryd.prog 33 #[.slice A n c, .slice A' n' c'] w fun e w' => e = .returned (.bool (l == l')) ∧ w' = w := by
  have hl : (ints l).length = n := by have := hr.1; simpa [Lib.byteCells_length, ints] using this
  have hl' : (ints l').length = n' := by have := hr'.1; simpa [Lib.byteCells_length, ints] using this
  have h := Tryd.bytes_Equal_all A A' n c n' c' (ints l) (ints l') w hl hl' (bytesIn_of hr) (bytesIn_of hr')
  rw [bytesOf_ints, bytesOf_ints] at h
  exact h

def SameSpec (t : SX) : Prop := ∀ (t' : SX) (w : World) (S S' : Nat → Prop) (cs cs' : List Value), SIn w S t cs → SIn w S' t' cs' →
  Calls Tryd.prog 19 #[.agg cs.toArray, .agg cs'.toArray] w fun e w' => e = .returned (.bool (same t t')) ∧ Below w.heap.size w w'

set_option maxHeartbeats 4000000 in
set_option maxRecDepth 100000 in
theorem eqFunc_any (ks ks' : List SX) (IH : ∀ k ∈ ks, SameSpec k) (A A' : Option Addr) (n c n' c' : Nat) (xs xs' : List Value) (S S' : Nat → Prop) (w : World) (hr : RIn w S 5 A n xs) (hk : ks.length = n) (hs : Kids w S ks xs) (hc : n ≤ c) (hn80 : n * 80 ≤ 140737488355328)
    (hr' : RIn w S' 5 A' n' xs') (hk' : ks'.length = n') (hs' : Kids w S' ks' xs') (hc' : n' ≤ c') (hn80' : n' * 80 ≤ 140737488355328) :
    Calls Tryd.prog 34 #[.slice A n c, .slice A' n' c', .func (.func 19) #[] #[]] w fun e w' => e = .returned (.bool (sameL ks ks')) ∧ Below w.heap.size w w' := by
  by_cases q : ¬ n = n'
  · have HQ := Lib.hid (sameL_len ks ks' (by rw [hk, hk']; exact q))
    have q' : ((n : Int) != (n' : Int)) = true := by rw [bne_iff_ne]; omega
    clear q hr hs hr' hs'
    go_enter Tryd.func34, Tryd.ntmps34
    go_wp2_with fail
    go_ret
    exact ⟨ret_bool (by rw [HQ.out]), Below.refl _ _⟩
  · have q : n = n' := Classical.not_not.1 q
    subst q
    have HR := Lib.hid (fun W (hb : Below w.heap.size w W) => hr.old (w' := W) (by omega) hb)
    have HS := Lib.hid (fun W (hb : Below w.heap.size w W) i t h => (hs i t h).old (w' := W) hb)
    have HR' := Lib.hid (fun W (hb : Below w.heap.size w W) => hr'.old (w' := W) (by omega) hb)
    have HS' := Lib.hid (fun W (hb : Below w.heap.size w W) i t h => (hs' i t h).old (w' := W) hb)
    have HK := Lib.hid hk
    have HK' := Lib.hid hk'
    have IH := Lib.hid IH
    clear hr hs hk hr' hs' hk'
    go_enter Tryd.func34, Tryd.ntmps34
    go_wp2_with fail
    go_loopw [17] (fun i wr => ∃ k : Nat, k ≤ n ∧ i = .int .i64 k ∧ Hid (sameL (ks.take k) (ks'.take k) = true) ∧ Below w.heap.size w wr) (fun i _ => n - (intOf i).toNat)
    case atStart => exact ⟨0, Nat.zero_le _, rfl, rfl, Below.refl _ _⟩
    case round =>
      obtain ⟨k, hkn, rfl, hcl, hbel⟩ := hrel
      by_cases hlt : k < n
      · obtain ⟨ad, v0, v1, v2, v3, v4, t, rfl, hS, hks, hm, hin, d0, d1, d2, d3, d4⟩ := Kids.at_ (HR.out _ hbel) HK.out (HS.out _ hbel) hlt
        obtain ⟨ad', v0', v1', v2', v3', v4', t', rfl, hS', hks', hm', hin', d0', d1', d2', d3', d4'⟩ := Kids.at_ (HR'.out _ hbel) HK'.out (HS'.out _ hbel) hlt
        have hlt' : (k : Int) < n := by omega
        have HM := Lib.hid hm
        have HTK := Lib.hid (sameL_take ks ks' k t t' hks hks')
        have HBad := Lib.hid (sameL_bad ks ks' k t t' hks hks')
        obtain ⟨l1, h1, hi1, da1, kk1, B1, m1, j1, B2, m2, j2, B3, m3, j3, eZ, eE⟩ := hin.form_
        injection eE with eE0 eE; injection eE with eE1 eE; injection eE with eE2 eE; injection eE with eE3 eE; injection eE with eE4 eE
        subst eE0 eE1 eE2 eE3 eE4
        clear eE eZ
        obtain ⟨l2, h2, hi2, da2, kk2, D1, o1, i1, D2, o2, i2, D3, o3, i3, eZ, eE⟩ := hin'.form_
        injection eE with eE0 eE; injection eE with eE1 eE; injection eE with eE2 eE; injection eE with eE3 eE; injection eE with eE4 eE
        subst eE0 eE1 eE2 eE3 eE4
        clear eE eZ
        have hbx := below_new wr (.cells #[.bool l1, .bool h1, .slice B1 m1 j1, .slice B2 m2 j2, .slice B3 m3 j3] 25)
        have hby := below_new (wr.alloc (.cells #[.bool l1, .bool h1, .slice B1 m1 j1, .slice B2 m2 j2, .slice B3 m3 j3] 25)) (.cells #[.bool l2, .bool h2, .slice D1 o1 i1, .slice D2 o2 i2, .slice D3 o3 i3] 25)
        have hbxy := hbx.trans (hby.mono hbx.size)
        obtain ⟨f0, f1, f2, f3, f4⟩ := five_old hbx ⟨d0', d1', d2', d3', d4'⟩
        obtain ⟨g0, g1, g2, g3, g4⟩ := box5b (below_at hby (heap_alloc_new wr (.cells #[.bool l1, .bool h1, .slice B1 m1 j1, .slice B2 m2 j2, .slice B3 m3 j3] 25)))
        have hinA := hin.old hbxy
        have hinB := hin'.old hbxy
        have hbd := hbel.trans (hbxy.mono hbel.size)
        have C := Lib.hid (IH.out t HM.out t' _ S S' _ _ hinA hinB)
        clear hks hks' hm hm' hin hin' d0' d1' d2' d3' d4' hinA hinB hbx hby hbxy hbel
        cases hct : same t t' with
        | true =>
          have hct' := Lib.hid hct
          rw [hct] at C
          clear hct
          go_wp2_with fail
          refine C.out.mono ?_
          rintro e w2 ⟨rfl, hb2⟩
          go_wp2_with fail
          go_roundw
          case rel => exact ⟨k + 1, by omega, by go_num, (show _ = _ by rw [HTK.out, hcl.out, hct'.out]; rfl), hbd.trans (hb2.mono hbd.size)⟩
          case measure => simp [intOf]; omega
        | false =>
          have hct' := Lib.hid hct
          rw [hct] at C
          clear hct
          go_wp2_with fail
          refine C.out.mono ?_
          rintro e w2 ⟨rfl, hb2⟩
          go_wp2_with fail
          go_ret
          exact ⟨ret_bool (by rw [HBad.out hct'.out]), hbd.trans (hb2.mono hbd.size)⟩
      · obtain rfl : k = n := by omega
        have hall : Hid (sameL ks ks' = true) := by
          have h := hcl.out
          rw [List.take_of_length_le (by rw [HK.out]; exact Nat.le_refl _), List.take_of_length_le (by rw [HK'.out]; exact Nat.le_refl _)] at h
          exact h
        go_wp2_with fail
        go_ret
        exact ⟨ret_bool (by rw [hall.out]), hbel⟩
theorem sin_kids {w : World} {S : Nat → Prop} {l h l' h' : Bool} {hi da : List UInt8} {ks : List SX} {V1 V2 : Value} {A3 : Option Addr} {n3 c3 : Nat} (hs : SIn w S (.mk l h hi da ks) [.bool l', .bool h', V1, V2, .slice A3 n3 c3]) :
    ∃ xs, RIn w S 5 A3 n3 xs ∧ Kids w S ks xs := by
  cases hs with
  | mk h1 b1 h2 b2 h3 b3 hk hs => exact ⟨_, h3, hs⟩

set_option maxHeartbeats 4000000 in
set_option maxRecDepth 100000 in
theorem sexpSame_any (t : SX) : SameSpec t := by
  induction t using SX.ind with
  | H l h hi da ks ih =>
    intro t' w S S' cs cs' hs hs'
    obtain ⟨_, _, _, _, _, A1, n1, c1, A2, n2, c2, A3, n3, c3, e, rfl⟩ := hs.form_
    cases e
    obtain ⟨l', h', hi', da', ks', A1', n1', c1', A2', n2', c2', A3', n3', c3', e, rfl⟩ := hs'.form_
    subst e
    have IH := Lib.hid ih
    have hM : Hid (same (.mk l h hi da ks) (.mk l' h' hi' da' ks') = (l == l' && h == h' && hi == hi' && da == da' && sameL ks ks')) := by show _ = _; rw [same]
    have hb0 := (below_new w (.cells #[Value.bool l, Value.bool h, Value.slice A1 n1 c1, Value.slice A2 n2 c2, Value.slice A3 n3 c3] 25)).trans ((below_new (w.alloc (.cells #[Value.bool l, Value.bool h, Value.slice A1 n1 c1, Value.slice A2 n2 c2, Value.slice A3 n3 c3] 25)) (.cells #[Value.bool l', Value.bool h', Value.slice A1' n1' c1', Value.slice A2' n2' c2', Value.slice A3' n3' c3'] 25)).mono (by simp))
    obtain ⟨_, _, r1, r2, g1, g2, hk, b11, b12, b21, b22, b31, b32⟩ := (hs.old hb0).inv
    obtain ⟨_, _, r1', r2', g1', g2', hk', b11', b12', b21', b22', b31', b32'⟩ := (hs'.old hb0).inv
    obtain ⟨xs, r3, hks⟩ := sin_kids (hs.old hb0)
    obtain ⟨xs', r3', hks'⟩ := sin_kids (hs'.old hb0)
    have CH := bytesEqual_any A1 A1' n1 c1 n1' c1' hi hi' _ _ _ r1 r1'
    have CD := bytesEqual_any A2 A2' n2 c2 n2' c2' da da' _ _ _ r2 r2'
    have CK := Lib.hid (eqFunc_any ks ks' IH.out A3 A3' n3 c3 n3' c3' xs xs' _ _ _ r3 hk hks b31 b32 r3' hk' hks' b31' b32')
    clear hs hs' ih r1 r2 r3 r1' r2' r3' g1 g2 g1' g2' hk hk' hks hks'
    by_cases q1 : ¬ l = l'
    · have HQ := Lib.hid q1
      have q1' : (l == l') = false := by simpa using q1
      clear q1 CH CD
      go_enter Tryd.func19, Tryd.ntmps19
      go_wp2_with fail
      go_ret
      exact ⟨ret_bool (by rw [hM.out]; simp [HQ.out]), hb0⟩
    have q1 : l = l' := Classical.not_not.1 q1
    subst q1
    by_cases q2 : ¬ h = h'
    · have HQ := Lib.hid q2
      have q2' : (h == h') = false := by simpa using q2
      clear q2 CH CD
      go_enter Tryd.func19, Tryd.ntmps19
      go_wp2_with fail
      go_ret
      exact ⟨ret_bool (by rw [hM.out]; simp [HQ.out]), hb0⟩
    have q2 : h = h' := Classical.not_not.1 q2
    subst q2
    by_cases q3 : ¬ hi = hi'
    · have HQ := Lib.hid q3
      have q3' : (hi == hi') = false := by simpa using q3
      rw [q3'] at CH
      have CH := Lib.hid CH
      have CD := Lib.hid CD
      clear q3 q3'
      go_enter Tryd.func19, Tryd.ntmps19
      go_wp2_with (first
        | ((with_reducible refine CH.out.mono ?_); rintro e wh ⟨rfl, rfl⟩)
        | ((with_reducible refine CD.out.mono ?_); rintro e wd ⟨rfl, rfl⟩))
      go_ret
      exact ⟨ret_bool (by rw [hM.out]; simp [HQ.out]), hb0⟩
    have q3 : hi = hi' := Classical.not_not.1 q3
    subst q3
    rw [beq_self_eq_true] at CH
    have CH := Lib.hid CH
    by_cases q4 : ¬ da = da'
    · have HQ := Lib.hid q4
      have q4' : (da == da') = false := by simpa using q4
      rw [q4'] at CD
      have CD := Lib.hid CD
      clear q4 q4'
      go_enter Tryd.func19, Tryd.ntmps19
      go_wp2_with (first
        | ((with_reducible refine CH.out.mono ?_); rintro e wh ⟨rfl, rfl⟩)
        | ((with_reducible refine CD.out.mono ?_); rintro e wd ⟨rfl, rfl⟩))
      go_ret
      exact ⟨ret_bool (by rw [hM.out]; simp [HQ.out]), hb0⟩
    have q4 : da = da' := Classical.not_not.1 q4
    subst q4
    rw [beq_self_eq_true] at CD
    have CD := Lib.hid CD
    have hM' : Hid (same (.mk l h hi da ks) (.mk l h hi da ks') = sameL ks ks') := by show _ = _; rw [hM.out]; simp
    clear hM
    go_enter Tryd.func19, Tryd.ntmps19
    go_wp2_with (first
      | ((with_reducible refine CH.out.mono ?_); rintro e wh ⟨rfl, rfl⟩)
      | ((with_reducible refine CD.out.mono ?_); rintro e wd ⟨rfl, rfl⟩)
      | ((with_reducible refine CK.out.mono ?_); rintro e wk ⟨rfl, hbk⟩))
    go_ret
    exact ⟨ret_bool (by rw [hM'.out]), hb0.trans (hbk.mono hb0.size)⟩
end Go.Proofs.YtaenahilnnlbfaaDoor
