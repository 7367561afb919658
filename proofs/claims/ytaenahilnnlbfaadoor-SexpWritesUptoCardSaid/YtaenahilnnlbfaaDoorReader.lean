/-
  The contracts of sexp's (*reader).peek, expect, length and bytes: what they answer, or throw. Conditions: the bytes lie in other blocks than the reader; they are at most 5000.
-/
import Derived.Test.YtaenahilnnlbfaaDoorGetLen
import Derived.Test.YtaenahilnnlbfaaDoorClone
import Derived.Test.YtaenahilnnlbfaaDoorMay
import Derived.Test.YtaenahilnnlbfaaDoorParse3
import Derived.WalkLawsBesides
import Derived.StillTailTactics
set_option linter.unusedVariables false
namespace Go.Proofs.YtaenahilnnlbfaaDoor
open Go Go.Proofs Go.RowKit Sx Oct

/-- The reader's state. -/
def RdAt (w : World) (r : Nat) (A : Option Addr) (n c : Nat) (p nd : Int) : Prop := w.heap[r]? = some (Obj.cells #[.slice A n c, .int .i64 p, .int .i64 nd] 64 (0, 0))
theorem RdAt.all {w : World} {r : Nat} {A : Option Addr} {n c : Nat} {p nd : Int} (h : RdAt w r A n c p nd) :
    w.cell? ⟨r, 0, none⟩ = some (.slice A n c) ∧ w.cell? ⟨r, 1, none⟩ = some (.int .i64 p) ∧ w.cell? ⟨r, 2, none⟩ = some (.int .i64 nd) ∧ w.frozen? ⟨r, 1, none⟩ = false ∧ w.frozen? ⟨r, 2, none⟩ = false := by
  refine ⟨?_, ?_, ?_, ?_, ?_⟩
  · rw [Lib.cell_of_heap h]; rfl
  · rw [Lib.cell_of_heap h]; rfl
  · rw [Lib.cell_of_heap h]; rfl
  · unfold RdAt at h; simp [World.frozen?, h]
  · unfold RdAt at h; simp [World.frozen?, h]
theorem RdAt.lt {w : World} {r : Nat} {A : Option Addr} {n c : Nat} {p nd : Int} (h : RdAt w r A n c p nd) : r < w.heap.size := by
  rcases Nat.lt_or_ge r w.heap.size with h' | h'
  · exact h'
  · unfold RdAt at h; rw [Array.getElem?_eq_none h'] at h; cases h
theorem RdAt.old {w w' : World} {r : Nat} {A : Option Addr} {n c : Nat} {p nd : Int} (h : RdAt w r A n c p nd) (hb : Below w.heap.size w w') : RdAt w' r A n c p nd := below_at hb h
theorem RdAt.set1 {w : World} {r : Nat} {A : Option Addr} {n c : Nat} {p nd : Int} (h : RdAt w r A n c p nd) (q : Int) : RdAt (w.setCell ⟨r, 1, none⟩ (.int .i64 q)) r A n c q nd := Joins.block_setCell h _
theorem RdAt.set2 {w : World} {r : Nat} {A : Option Addr} {n c : Nat} {p nd : Int} (h : RdAt w r A n c p nd) (q : Int) : RdAt (w.setCell ⟨r, 2, none⟩ (.int .i64 q)) r A n c p q := Joins.block_setCell h _

/-- What is thrown, by the error's number: where. -/
def kindT : Nat → TypeId
  | 2 => 48
  | 3 => 49
  | 4 => 50
  | _ => 51
def Thrown (k : Nat) (p : Nat) (e : Ending) : Prop := e = .panicked [{ v := .iface (kindT k) (.int .i64 (p : Nat)), recovered := false }]

theorem below_drewN (w : World) (k : Nat) : Below w.heap.size w (w.drewN k) := ⟨rfl, rfl, rfl, Nat.le_refl _, fun _ _ => rfl⟩

set_option maxHeartbeats 1000000 in
set_option maxRecDepth 100000 in
theorem peek_end (r : Nat) (A : Option Addr) (n c : Nat) (p : Nat) (nd : Int) (w : World) (h : RdAt w r A n c p nd) (hp : n ≤ p) (hn : n ≤ 5000) (hp2 : p ≤ 5000) :
    Calls Tryd.prog 45 #[.pointer (some ⟨r, 0, none⟩)] w fun e w' => Thrown 2 n e ∧ Below w.heap.size w w' := by
  obtain ⟨c0, c1, c2, f1, f2⟩ := h.all
  go_enter Tryd.func45, Tryd.ntmps45
  go_wp2_with fail
  go_quiet (fail)
  go_wp2_with fail
  exact ⟨rfl, rfl, below_drewN _ _⟩
set_option maxHeartbeats 1000000 in
set_option maxRecDepth 100000 in
theorem peek_at (r : Nat) (A : Option Addr) (n c : Nat) (p : Nat) (nd : Int) (b : List UInt8) (B : Nat) (w : World) (h : RdAt w r A n c p nd) (hr : Reads w B 1 A n (Lib.byteCells b)) (hp : p < n) (hn : n ≤ 5000) (x : UInt8) (s : List UInt8) (hs : b.drop p = x :: s) :
    Calls Tryd.prog 45 #[.pointer (some ⟨r, 0, none⟩)] w fun e w' => e = .returned (.int .u8 x.toNat) ∧ Below w.heap.size w w' := by
  obtain ⟨c0, c1, c2, f1, f2⟩ := h.all
  obtain ⟨ad, u, rfl, _, hu, hc⟩ := hr.at_ hp
  have hu' : u = .int .u8 x.toNat := by
    have hb : b[p]? = some x := by
      have := congrArg List.head? hs
      rw [List.head?_drop] at this
      simpa using this
    simp [Lib.byteCells, List.getElem?_map, hb] at hu
    exact hu.symm
  subst hu'
  have hpi : (p : Int) < n := by omega
  have hxl := x.toNat_lt
  clear hu hs hr h
  go_enter Tryd.func45, Tryd.ntmps45
  go_wp2_with fail
  go_quiet (fail)
  go_wp2_with fail
  have c0' : (w.drewN nq).cell? ⟨r, 0, none⟩ = _ := c0
  have c1' : (w.drewN nq).cell? ⟨r, 1, none⟩ = _ := c1
  have hc' : (w.drewN nq).cell? (ad.add p) = _ := hc
  have hb := below_drewN w nq
  clear c0 c1 c2 f1 f2 hc
  generalize w.drewN nq = w1 at *
  go_quiet (fail)
  go_wp2_with fail
  go_ret
  exact ⟨rfl, hb.trans ((below_drewN _ _).mono hb.size)⟩

set_option maxHeartbeats 1000000 in
set_option maxRecDepth 100000 in
theorem expect_end (r : Nat) (A : Option Addr) (n c : Nat) (p : Nat) (nd : Int) (k : Int) (w : World) (h : RdAt w r A n c p nd) (hp : n ≤ p) (hn : n ≤ 5000) (hp2 : p ≤ 5000) :
    Calls Tryd.prog 53 #[.pointer (some ⟨r, 0, none⟩), .int .u8 k] w fun e w' => Thrown 2 n e ∧ Below w.heap.size w w' := by
  have C := Lib.hid (peek_end r A n c p nd w h hp hn hp2)
  clear h
  go_enter Tryd.func53, Tryd.ntmps53
  go_wp2_with ((with_reducible refine C.out.mono ?_); rintro e w2 ⟨rfl, hb2⟩)
  exact ⟨rfl, rfl, hb2⟩
set_option maxHeartbeats 1000000 in
set_option maxRecDepth 100000 in
theorem expect_bad (r : Nat) (A : Option Addr) (n c : Nat) (p : Nat) (nd : Int) (b : List UInt8) (B : Nat) (w : World) (h : RdAt w r A n c p nd) (hr : Reads w B 1 A n (Lib.byteCells b)) (hp : p < n) (hn : n ≤ 5000) (x : UInt8) (s : List UInt8) (hs : b.drop p = x :: s) (k : Int) (hk : (x.toNat : Int) ≠ k) :
    Calls Tryd.prog 53 #[.pointer (some ⟨r, 0, none⟩), .int .u8 k] w fun e w' => Thrown 3 p e ∧ Below w.heap.size w w' := by
  have C := Lib.hid (peek_at r A n c p nd b B w h hr hp hn x s hs)
  have HR := Lib.hid h
  have hne : ((x.toNat : Int) != k) = true := by rw [bne_iff_ne]; exact hk
  clear h hr hs hk
  go_enter Tryd.func53, Tryd.ntmps53
  go_wp2_with ((with_reducible refine C.out.mono ?_); rintro e w2 ⟨rfl, hb2⟩; obtain ⟨c0, c1, c2, f1, f2⟩ := (HR.out.old hb2).all)
  exact ⟨rfl, rfl, hb2⟩
set_option maxHeartbeats 1000000 in
set_option maxRecDepth 100000 in
theorem expect_good (r : Nat) (A : Option Addr) (n c : Nat) (p : Nat) (nd : Int) (b : List UInt8) (B : Nat) (w : World) (h : RdAt w r A n c p nd) (hr : Reads w B 1 A n (Lib.byteCells b)) (hp : p < n) (hn : n ≤ 5000) (x : UInt8) (s : List UInt8) (hs : b.drop p = x :: s) (k : Int) (hk : (x.toNat : Int) = k) :
    Calls Tryd.prog 53 #[.pointer (some ⟨r, 0, none⟩), .int .u8 k] w fun e w' => e = .returned (.tuple #[]) ∧ RdAt w' r A n c (p + 1 : Nat) nd ∧ w.grownBy w' (some r) := by
  have C := Lib.hid (peek_at r A n c p nd b B w h hr hp hn x s hs)
  have HR := Lib.hid h
  rw [hk] at C
  have hne : (k != k) = false := by simp
  clear h hr hs hk
  go_enter Tryd.func53, Tryd.ntmps53
  go_wp2_with ((with_reducible refine C.out.mono ?_); rintro e w2 ⟨rfl, hb2⟩; obtain ⟨c0, c1, c2, f1, f2⟩ := (HR.out.old hb2).all)
  go_end0
  exact ⟨rfl, (HR.out.old hb2).set1 _, (grown_below hb2 _).trans (grown_set _ _ _ _)⟩

def LenEnd (w : World) (r : Nat) (A : Option Addr) (n c : Nat) (p : Nat) (nd : Int) (e : Ending) (w' : World) : Res Nat → Prop
  | .err k _ => Thrown k p e ∧ w.grownBy w' (some r)
  | .ok m rest => e = .returned (.int .i64 m) ∧ RdAt w' r A n c (n - rest.length : Nat) nd ∧ w.grownBy w' (some r)

set_option maxHeartbeats 2000000 in
set_option maxRecDepth 100000 in
theorem length_any (r : Nat) (A : Option Addr) (n c : Nat) (p : Nat) (nd : Int) (b : List UInt8) (B : Nat) (w : World) (h : RdAt w r A n c p nd) (hr : Reads w B 1 A n (Lib.byteCells b)) (hp : p ≤ n) (hn : n ≤ 5000) (s : List UInt8) (hs : b.drop p = s) :
    Calls Tryd.prog 54 #[.pointer (some ⟨r, 0, none⟩)] w fun e w' => LenEnd w r A n c p nd e w' (pLen s) := by
  have hl : b.length = n := by have := hr.1; simpa [Lib.byteCells_length] using this
  have hG := getLen_pLen b s p (by omega) hs
  have C : ∀ W, Reads W B 1 A n (Lib.byteCells b) → Calls Tryd.prog 58 #[.slice A n c, .int .i64 p, .int .i64 4096] W fun e w' => e = .returned (.tuple #[.int .i64 (getLen b p 4096).1, .int .i64 (getLen b p 4096).2.1, .int .i64 (getLen b p 4096).2.2]) ∧ w' = W :=
    fun W hW => getLen_any A n c b B p 4096 W hW (by unfold maxLen; omega) (by omega) (by omega)
  have hrd := fun k => hr.drewN k
  obtain ⟨c0, c1, c2, f1, f2⟩ := h.all
  have HR := Lib.hid h
  cases hpl : pLen s with
  | err k rest =>
    rw [hpl] at hG
    simp only at hG
    rw [hG] at C
    obtain ⟨rfl, hk⟩ := pLen_err hpl
    have HC := Lib.hid (fun k => C _ (hrd k))
    clear C hG hpl hrd hr hs hl
    rcases hk with ⟨rfl, _⟩ | ⟨rfl, _⟩ | ⟨rfl, _⟩
    all_goals
      go_enter Tryd.func54, Tryd.ntmps54
      go_wp2_with fail
      go_quiet ((go_at_call 58; exact Calls.quiet_of_same (HC.out _)))
      have hb := below_drewN w nq
      have hR2 := HR.out.old hb
      obtain ⟨c0', c1', c2', f1', f2'⟩ := hR2.all
      clear c0 c1 c2 f1 f2 hR2
      generalize w.drewN nq = w1 at *
      go_wp2_with fail
      exact ⟨rfl, rfl, grown_below hb _⟩
  | ok m rest =>
    rw [hpl] at hG
    simp only at hG
    rw [hG] at C
    have HC := Lib.hid (fun k => C _ (hrd k))
    have hq : b.length - rest.length = n - rest.length := by rw [hl]
    rw [hq] at HC
    have hq2 : n - rest.length ≤ 5000 := by omega
    obtain ⟨q, hq3⟩ : ∃ q, q = n - rest.length := ⟨_, rfl⟩
    rw [← hq3] at HC hq2
    have HQ3 := Lib.hid hq3
    clear C hG hpl hrd hr hs hl hq hq3
    go_enter Tryd.func54, Tryd.ntmps54
    go_wp2_with fail
    go_quiet ((go_at_call 58; exact Calls.quiet_of_same (HC.out _)))
    have hb := below_drewN w nq
    have hR2 := HR.out.old hb
    obtain ⟨c0', c1', c2', f1', f2'⟩ := hR2.all
    clear c0 c1 c2 f1 f2
    generalize w.drewN nq = w1 at *
    have hR3 := hR2.set1 q
    have HR3 := Lib.hid hR3
    clear hR2 hR3 h
    go_wp2_with fail
    go_ret
    exact ⟨rfl, by rw [← HQ3.out]; exact HR3.out, (grown_below hb _).trans (grown_set _ _ _ _)⟩

def BytesEnd (w : World) (r : Nat) (A : Option Addr) (n c : Nat) (nd : Int) (e : Ending) (w' : World) : Res (List UInt8) → Prop
  | .err k rest => Thrown k (n - rest.length) e ∧ w.grownBy w' (some r)
  | .ok l rest => ∃ A' c', e = .returned (.slice A' l.length c') ∧ l.length ≤ c' ∧ RIn w' (fun k => w.heap.size ≤ k) 1 A' l.length (Lib.byteCells l) ∧ RdAt w' r A n c (n - rest.length : Nat) nd ∧ w.grownBy w' (some r)

theorem reads_grown {w w' : World} {B n r : Nat} {A : Option Addr} {l : List UInt8} (h : Reads w B 1 A n (Lib.byteCells l)) (hg : w.grownBy w' (some r)) (hB : B ≤ r) : Reads w' B 1 A n (Lib.byteCells l) := by
  have h1 := (RIn.of_reads h).grown (by omega) hg (fun b hb e => by injection e with e; omega)
  exact h1

theorem sub_reads {w : World} {B n c q m : Nat} {A : Option Addr} {b r2 : List UInt8} (h : Reads w B 1 A n (Lib.byteCells b)) (hd : b.drop q = r2) (hq : q + m ≤ n) (hc : n ≤ c) :
    RIn w (fun k => k < B) 1 (if c = q then A else Option.map (fun x => x.add q) A) m (Lib.byteCells (r2.take m)) := by
  have h1 := h.cut (k := q) (cap := c) (by omega) hc
  rw [Nat.mul_one] at h1
  have e : (Lib.byteCells b).drop q = Lib.byteCells r2 := by rw [← hd]; simp [Lib.byteCells]
  rw [e] at h1
  have hl : r2.length = n - q := by have := h1.1; simpa [Lib.byteCells_length] using this
  refine ⟨by rw [Lib.byteCells_length, List.length_take]; omega, fun hm => ?_⟩
  obtain ⟨ad, h2, h3, h4⟩ := h1.2 (by omega)
  refine ⟨ad, h2, h3, fun j u hu => h4 j u ?_⟩
  have hj : j < m := by
    have := (List.getElem?_eq_some_iff.1 hu).1
    rw [Lib.byteCells_length, List.length_take] at this
    omega
  have e2 : Lib.byteCells (r2.take m) = (Lib.byteCells r2).take m := by simp [Lib.byteCells]
  rw [e2, List.getElem?_take, if_pos hj] at hu
  exact hu

set_option maxHeartbeats 4000000 in
set_option maxRecDepth 100000 in
theorem bytes_any (r : Nat) (A : Option Addr) (n c : Nat) (p : Nat) (nd : Int) (b : List UInt8) (B : Nat) (w : World) (h : RdAt w r A n c p nd) (hr : Reads w B 1 A n (Lib.byteCells b)) (hB : B ≤ r) (hp : p ≤ n) (hn : n ≤ 5000) (hc : n ≤ c) (s : List UInt8) (hs : b.drop p = s) :
    Calls Tryd.prog 49 #[.pointer (some ⟨r, 0, none⟩)] w fun e w' => BytesEnd w r A n c nd e w' (pBytes s) := by
  have hl : b.length = n := by have := hr.1; simpa [Lib.byteCells_length] using this
  have hsl : s.length = n - p := by rw [← hs, List.length_drop, hl]
  have C := length_any r A n c p nd b B w h hr hp hn s hs
  unfold pBytes
  cases hpl : pLen s with
  | err k rest =>
    rw [hpl] at C
    obtain ⟨rfl, hk⟩ := pLen_err hpl
    simp only
    have HC := Lib.hid C
    have hpp : n - rest.length = p := by omega
    clear C h hr hs hpl
    go_enter Tryd.func49, Tryd.ntmps49
    go_wp2_with ((with_reducible refine HC.out.mono ?_); rintro e w2 ⟨rfl, hg2⟩)
    exact ⟨rfl, by rw [hpp]; rfl, hg2⟩
  | ok m rest =>
    rw [hpl] at C
    obtain ⟨hs1, hm⟩ := pLen_sound hpl
    obtain ⟨hd1, hq1, hq2⟩ := drop_rest (by omega) hs hs1
    rw [hl] at hd1 hq1
    have HC := Lib.hid C
    have HR0 := Lib.hid hr
    simp only
    cases rest with
    | nil =>
      simp only
      have C2 := Lib.hid (fun W hW => expect_end r A n c (n - ([] : List UInt8).length) nd 58 W hW (by simp) hn (by omega))
      clear C hpl h hr hs hs1 hd1 hq1 hq2 hsl hl
      go_enter Tryd.func49, Tryd.ntmps49
      go_wp2_with (first
        | ((with_reducible refine HC.out.mono ?_); rintro e w2 ⟨rfl, hR2, hg2⟩)
        | ((with_reducible refine (C2.out w2 hR2).mono ?_); rintro e w3 ⟨rfl, hb3⟩))
      exact ⟨rfl, rfl, hg2.trans (grown_below hb3 _)⟩
    | cons c0 r2 =>
      simp only
      have hlr : (c0 :: r2).length = r2.length + 1 := by simp
      have hle : r2.length + 1 ≤ n := by have := congrArg List.length hs1; rw [List.length_append, hlr] at this; omega
      have hpn : n - (c0 :: r2).length < n := by rw [hlr]; omega
      by_cases hc0 : c0 ≠ 58
      · rw [if_pos hc0]
        have C2 := Lib.hid (fun W hW hW2 => expect_bad r A n c (n - (c0 :: r2).length) nd b B W hW hW2 hpn hn c0 r2 hd1 58 (fun e => hc0 (UInt8.toNat_inj.1 (by show c0.toNat = 58; omega))))
        have HRG := Lib.hid (fun W (hg : w.grownBy W (some r)) => reads_grown HR0.out hg hB)
        clear C hpl h hr hs hs1 hd1 hq1 hq2 hsl hl hlr
        go_enter Tryd.func49, Tryd.ntmps49
        go_wp2_with (first
          | ((with_reducible refine HC.out.mono ?_); rintro e w2 ⟨rfl, hR2, hg2⟩)
          | ((with_reducible refine (C2.out w2 hR2 (HRG.out w2 hg2)).mono ?_); rintro e w3 ⟨rfl, hb3⟩))
        exact ⟨rfl, rfl, hg2.trans (grown_below hb3 _)⟩
      · rw [if_neg hc0]
        have hc0 : c0 = 58 := Classical.not_not.1 hc0
        subst hc0
        have C2 := Lib.hid (fun W hW hW2 => expect_good r A n c (n - (58 :: r2).length) nd b B W hW hW2 hpn hn 58 r2 hd1 58 rfl)
        have HRG := Lib.hid (fun W (hg : w.grownBy W (some r)) => reads_grown HR0.out hg hB)
        have hp2 : n - (58 :: r2 : List UInt8).length + 1 = n - r2.length := by rw [hlr]; omega
        rw [hp2] at C2
        have hd2 : b.drop (n - r2.length) = r2 := by
          rw [← hp2, ← List.drop_drop, hd1]; rfl
        have hm5 : m ≤ 4096 := hm
        have HD := Lib.hid hd2
        obtain ⟨q, hq3⟩ : ∃ q, q = n - r2.length := ⟨_, rfl⟩
        rw [← hq3] at C2 HD
        have hqn : q + r2.length = n := by omega
        have HQ := Lib.hid hq3
        clear hpl hs hs1 hd1 hd2 hq1 hq2 hsl hlr hpn hp2 hr h hq3 C
        by_cases hlt : r2.length < m
        · rw [if_pos hlt]
          have hbig : (n : Int) - q < m := by omega
          go_enter Tryd.func49, Tryd.ntmps49
          go_wp2_with (first
            | ((with_reducible refine HC.out.mono ?_); rintro e w2 ⟨rfl, hR2, hg2⟩)
            | ((with_reducible refine (C2.out w2 hR2 (HRG.out w2 hg2)).mono ?_); rintro e w3 ⟨rfl, hR3, hg3⟩; obtain ⟨c0, c1, c2, f1, f2⟩ := hR3.all))
          go_quiet (fail)
          have hb := below_drewN w3 nq
          obtain ⟨c0', c1', c2', f1', f2'⟩ := (hR3.old hb).all
          clear c0 c1 c2 f1 f2
          generalize w3.drewN nq = w4 at *
          go_wp2_with fail
          exact ⟨rfl, rfl, (hg2.trans hg3).trans (grown_below hb _)⟩
        · rw [if_neg hlt]
          have hsm : ¬ (n : Int) - q < m := by omega
          have hmle : q + m ≤ n := by omega
          have hdr : n - (r2.drop m).length = q + m := by rw [List.length_drop]; omega
          have htl : (r2.take m).length = m := by rw [List.length_take]; omega
          have HDR := Lib.hid hdr
          have HTL := Lib.hid htl
          clear hdr hlt
          obtain ⟨L, hL⟩ : ∃ L, L = r2.take m := ⟨_, rfl⟩
          rw [← hL] at htl HTL ⊢
          have HL := Lib.hid hL
          clear hL htl
          go_enter Tryd.func49, Tryd.ntmps49
          go_wp2_with (first
            | ((with_reducible refine HC.out.mono ?_); rintro e w2 ⟨rfl, hR2, hg2⟩)
            | ((with_reducible refine (C2.out w2 hR2 (HRG.out w2 hg2)).mono ?_); rintro e w3 ⟨rfl, hR3, hg3⟩; obtain ⟨c0, c1, c2, f1, f2⟩ := hR3.all))
          go_quiet (fail)
          have hb := below_drewN w3 nq
          have hR4 := hR3.old hb
          have hg4 := (hg2.trans hg3).trans (grown_below hb (some r))
          obtain ⟨c0', c1', c2', f1', f2'⟩ := hR4.all
          clear c0 c1 c2 f1 f2 hR3 hg2 hg3 hR2
          generalize w3.drewN nq = w4 at *
          have i1 : (q : Int) ≤ (q : Int) + m := by omega
          have i2 : (q : Int) + m ≤ c := by omega
          have i3 : (0 : Int) ≤ (q : Int) + m := by omega
          have i4 : ((q : Int) + m).toNat = q + m := by omega
          have i5 : IntKind.i64.wrap ((q : Int) + m) = (q : Int) + m := IntWalk.i64_in _ (by omega)
          have i6 : q ≤ q + m := by omega
          have i7 : q + m ≤ c := by omega
          have i8 : q + m - q = m := by omega
          go_wp2_with fail
          go_still_tail 15, (by kernel_rfl)
          change wpList _ _ _ _ _ w4.drew
          have hbd : Below w4.heap.size w4 w4.drew := (Below.refl _ _).drew
          have hR5 := hR4.old hbd
          have hg5 := hg4.trans (grown_below hbd (some r))
          have hz5 : w.heap.size ≤ w4.drew.heap.size := hg5.size
          have hsub := sub_reads (HRG.out _ hg5) HD.out hmle hc
          rw [← HL.out] at hsub
          have C3 := Lib.hid (bytesClone_any _ m (c - q) L _ _ hsub (by omega))
          clear c0' c1' c2' f1' f2' hR4 hg4 hsub hbd
          generalize w4.drew = w5 at *
          generalize (if c = q then A else Option.map (fun x => x.add q) A) = A2 at *
          go_wp2_with ((with_reducible refine C3.out.mono ?_); rintro e w6 ⟨A', c', rfl, hc', hr', hb6⟩; obtain ⟨c0, c1, c2, f1, f2⟩ := (hR5.old hb6).all)
          have hR7 := (hR5.old hb6).set1 ((q : Int) + m)
          have hrl : r ≠ w5.heap.size := by have := hR5.lt; omega
          have hr7 := (hr'.more (S' := fun k => r < k ∧ w.heap.size ≤ k) (fun k hk => ⟨by have := hR5.lt; omega, by omega⟩)).far (p := ⟨r, 1, none⟩) (fun k hk => by show k ≠ r; omega) (.int .i64 ((q : Int) + m))
          have hg7 := (hg5.trans (grown_below hb6 (some r))).trans (grown_set w6 r 1 (.int .i64 ((q : Int) + m)))
          have H7 := Lib.hid (And.intro hR7 (And.intro hr7 hg7))
          clear hR7 hr7 hg7 hr' hb6 hR5 hg5
          go_wp2_with fail
          go_ret
          obtain ⟨hR8, hr8, hg8⟩ := H7.out
          refine ⟨A', c', rfl, hc', hr8.more (fun k hk => hk.2), ?_, hg8⟩
          rw [HDR.out]
          have e9 : ((q + m : Nat) : Int) = (q : Int) + m := by omega
          rw [e9]
          exact hR8
end Go.Proofs.YtaenahilnnlbfaaDoor
