/-
  Several texts in one: NtAtom1, Builder, Hex, Unhex, NtDig, NtEsc, NtQuo, NtWr, Base64, Unb64, NtSgn, NtHx, NtPlR, NtPl, NtBeg, RefHex. Conditions: those that each theorem states.
-/
import Derived.Test.YtcojkmcnigppbaaGreatDoorM2
import Derived.Shelf.Strings.BuilderK
import Derived.Test.YtcojkmcnigppbaaGreatDoorProg
import Derived.Lib.Hide
import Derived.Laws.BitsAllLaws
import Derived.Deep.QuietTactic
import Derived.BigQuiet
import Derived.IntWalk
import Derived.WalkSmall
import Derived.Laws.CopyOwn
import Derived.Lib.BufferWrite
import Derived.Deep.RegionHeld3
set_option linter.unusedVariables false
set_option linter.unusedSimpArgs false
open Go.Lib (hid)
open Go.Proofs.YtcojkmcnigppbaaGreatDoor (zA zB zC zD zE zF)

section
set_option maxRecDepth 100000
namespace Go.Proofs.YtcojkmcnigppbaaGreatDoor.Nt
open Go Go.Proofs Go.RowKit Sx Oct
open Sch (wp_R gr_val gr_is gr_fresh gr_nil gr_on gr_onV gr_offV op_callR Rk)
def AtomEnd (w : World) (r : Nat) (A : Option Addr) (n c : Nat) (nd : Int) (e : Ending) (w' : World) : Res (List UInt8) → Prop
  | .err k rest => Thrown k (n - rest.length) e ∧ w.grownBy w' (some r)
  | .ok l rest => ∃ A' c', e = .returned (.slice A' l.length c') ∧ l.length ≤ c' ∧ RIn w' (fun k => w.heap.size ≤ k) 1 A' l.length (Lib.byteCells l) ∧ RdAt w' r A n c (n - rest.length : Nat) nd ∧ w.grownBy w' (some r)
set_option maxHeartbeats 2000000 in
theorem token_any (r : Nat) (A : Option Addr) (n c p : Nat) (nd : Int) (b : List UInt8) (B : Nat) (w : World) (h : RdAt w r A n c p nd) (hr : Reads w B 1 A n (Lib.byteCells b)) (hB : B ≤ r) (hp : p ≤ n) (hn : n ≤ 20000) (hc : n ≤ c) (q : List UInt8) (hs : b.drop p = q) :
    Calls Tryz.prog 126 #[.pointer (some ⟨r, 0, none⟩)] w fun e w' => AtomEnd w r A n c nd e w' (.ok (q.takeWhile isTok) (q.dropWhile isTok)) := by
  have C1 := hid (oneOf_any tokS w)
  have C2 := hid (one_run tokS r A n c p nd b B w h hr hB hp hn hc q hs)
  rw [tok_sign] at C2
  clear h hr hs
  go_enter Tryz.func126, Tryz.ntmps126
  go_wp2_with fail
  refine C1.out.mono ?_
  rintro e w1 ⟨rfl, rfl⟩
  go_wp2_with fail
  refine C2.out.mono ?_
  rintro e w2 ⟨A', c', rfl, h1, h2, hR2, hg2⟩
  go_wp2_with fail
  go_ret
  exact ⟨A', c', rfl, h1, h2, hR2, hg2⟩
set_option maxHeartbeats 8000000 in
theorem counted_any (r : Nat) (A : Option Addr) (n c p : Nat) (nd : Int) (b : List UInt8) (B : Nat) (w : World) (h : RdAt w r A n c p nd) (hr : Reads w B 1 A n (Lib.byteCells b)) (hB : B ≤ r) (hp : p ≤ n) (hn : n ≤ 20000) (hc : n ≤ c) (x : UInt8) (q : List UInt8) (hs : b.drop p = x :: q) (hx : isDig x = true) :
    Calls Tryz.prog 125 #[.pointer (some ⟨r, 0, none⟩)] w fun e w' => AtomEnd w r A n c nd e w' (pBytes (x :: q)) := by
  have hl : b.length = n := by have := hr.1; simpa [Lib.byteCells_length] using this
  have hG := getLen_pLen b (x :: q) p (by omega) hs
  have HR := hid hr
  have H0 := hid h
  have CG0 : ∀ V, Below w.heap.size w V → Calls Tryz.prog 135 #[.slice A n c, .int .i64 (p : Nat), .int .i64 4096] V fun e w' => e = .returned (.tuple #[.int .i64 (getLen b p 4096).1, .int .i64 (getLen b p 4096).2.1, .int .i64 (getLen b p 4096).2.2]) ∧ Below V.heap.size V w' := fun V hV =>
    (getLen_any A n c b B p 4096 V (reads_grown hr (grown_below hV (some r)) hB) (by unfold maxLen; omega) (by omega) (by omega)).mono fun e w' ⟨h1, h2⟩ => ⟨h1, by rw [h2]; exact Below.refl _ _⟩
  cases hpl : pLen (x :: q) with
  | err k rest =>
    rw [hpl] at hG
    simp only at hG
    rw [hG] at CG0
    obtain ⟨rfl, hk⟩ := pLen_err hpl
    have hk4 : k = 4 := by
      rcases hk with ⟨_, h2⟩ | ⟨h2, _⟩ | ⟨h2, _⟩
      · cases h2
      · exfalso
        unfold pLen at hpl
        simp only [hx] at hpl
        rw [if_neg (by simp)] at hpl
        split at hpl
        · cases hpl
        · split at hpl
          · injection hpl with h1 _; omega
          · cases hpl
      · exact h2
    subst hk4
    have CG := hid CG0
    have hpp : n - (x :: q).length = p := by
      have := congrArg List.length hs
      rw [List.length_drop, hl] at this
      omega
    have hpb : pBytes (x :: q) = .err 4 (x :: q) := by unfold pBytes; rw [hpl]
    rw [hpb]
    clear h hr hs hG CG0 hpl hk hpb
    go_enter Tryz.func125, Tryz.ntmps125
    go_upto_region 1 with fail
    (try simp only [Act.put, zA, zB, zC])
    refine wp_R [8, 9, 10, 11, 12, 13, 14, 15, 16, 7, 17, 18, 19, 3, 4, 5] [Rk.val (.pointer (some ⟨r, 0, none⟩)), Rk.val (.pointer (some ⟨r, 0, none⟩)), Rk.val (.pointer (some ⟨r, 0, none⟩)), Rk.val (.slice A n c), Rk.val (.pointer (some ⟨r, 0, none⟩)), Rk.val (.pointer (some ⟨r, 0, none⟩)), Rk.val (.pointer (some ⟨r, 1, none⟩)), Rk.val (.int .i64 (p : Nat)), Rk.val (.tuple #[.int .i64 0, .int .i64 (p : Nat), .int .i64 ((4 : Nat) : Int)]), Rk.val (.tuple #[.int .i64 0, .int .i64 (p : Nat), .int .i64 ((4 : Nat) : Int)]), Rk.val (.int .i64 0), Rk.val (.int .i64 (p : Nat)), Rk.val (.int .i64 ((4 : Nat) : Int)), Rk.val (.int .i64 0), Rk.val (.int .i64 (p : Nat)), Rk.val (.int .i64 ((4 : Nat) : Int))] rfl (by kernel_rfl) (by kernel_rfl) (by kernel_rfl) (by kernel_rfl) ?hg1 _ (by rfl) ?hf1
    case hg1 =>
      refine gr_val rfl (by kernel_rfl) (fun a V H K Q hK => op_quiet (quiet_move (.tmp 0) (H.old 0 (by kernel_rfl) (by kernel_rfl)) (.inl (by kernel_rfl))) hK) ?_
      refine gr_val rfl (by kernel_rfl) (fun a V H K Q hK => op_quiet (quiet_nilCheck (.tmp 8) _ (H.rel 0 8 (by kernel_rfl) (by kernel_rfl) rfl) (by kernel_rfl)) hK) ?_
      refine gr_val rfl (by kernel_rfl) (fun a V H K Q hK => op_quiet (quiet_field _ (.tmp 9) 0 _ _ (H.rel 1 9 (by kernel_rfl) (by kernel_rfl) rfl) (fr0 _) rfl) hK) ?_
      refine gr_val rfl (by kernel_rfl) (fun a V H K Q hK => op_quiet (quiet_cell 22 (.tmp 10) _ (H.rel 2 10 (by kernel_rfl) (by kernel_rfl) rfl) Tryz.underlying22 rfl ((H0.out.old H.frame).all.1) (by kernel_rfl)) hK) ?_
      refine gr_val rfl (by kernel_rfl) (fun a V H K Q hK => op_quiet (quiet_move (.tmp 0) (H.old 0 (by kernel_rfl) (by kernel_rfl)) (.inl (by kernel_rfl))) hK) ?_
      refine gr_val rfl (by kernel_rfl) (fun a V H K Q hK => op_quiet (quiet_nilCheck (.tmp 12) _ (H.rel 4 12 (by kernel_rfl) (by kernel_rfl) rfl) (by kernel_rfl)) hK) ?_
      refine gr_val rfl (by kernel_rfl) (fun a V H K Q hK => op_quiet (quiet_field _ (.tmp 13) 1 _ _ (H.rel 5 13 (by kernel_rfl) (by kernel_rfl) rfl) (fr1 _) rfl) hK) ?_
      refine gr_val rfl (by kernel_rfl) (fun a V H K Q hK => op_quiet (quiet_cell 3 (.tmp 14) _ (H.rel 6 14 (by kernel_rfl) (by kernel_rfl) rfl) Tryz.underlying3 rfl ((H0.out.old H.frame).all.2.1) (by kernel_rfl)) hK) ?_
      refine gr_val rfl (by kernel_rfl) (fun a V H K Q hK => op_callK #[.tmp 11, .tmp 15, .const (.int .i64 4096)] #[.slice A n c, .int .i64 (p : Nat), .int .i64 4096] (by kernel_rfl) (by kernel_rfl) (by kernel_rfl) (map3N (H.rel 3 11 (by kernel_rfl) (by kernel_rfl) rfl) (H.rel 7 15 (by kernel_rfl) (by kernel_rfl) rfl) rfl) (CG.out V H.frame) (by kernel_rfl) hK) ?_
      refine gr_val rfl (by kernel_rfl) (fun a V H K Q hK => op_quiet (quiet_move (.tmp 16) (H.rel 8 16 (by kernel_rfl) (by kernel_rfl) rfl) (.inl (by kernel_rfl))) hK) ?_
      refine gr_val rfl (by kernel_rfl) (fun a V H K Q hK => op_quiet (quiet_extract (t := #[.int .i64 0, .int .i64 (p : Nat), .int .i64 ((4 : Nat) : Int)]) (.tmp 7) 0 (H.rel 9 7 (by kernel_rfl) (by kernel_rfl) rfl) rfl (by kernel_rfl)) hK) ?_
      refine gr_val rfl (by kernel_rfl) (fun a V H K Q hK => op_quiet (quiet_extract (t := #[.int .i64 0, .int .i64 (p : Nat), .int .i64 ((4 : Nat) : Int)]) (.tmp 7) 1 (H.rel 9 7 (by kernel_rfl) (by kernel_rfl) rfl) rfl (by kernel_rfl)) hK) ?_
      refine gr_val rfl (by kernel_rfl) (fun a V H K Q hK => op_quiet (quiet_extract (t := #[.int .i64 0, .int .i64 (p : Nat), .int .i64 ((4 : Nat) : Int)]) (.tmp 7) 2 (H.rel 9 7 (by kernel_rfl) (by kernel_rfl) rfl) rfl (by kernel_rfl)) hK) ?_
      refine gr_val rfl (by kernel_rfl) (fun a V H K Q hK => op_quiet (quiet_move (.tmp 17) (H.rel 10 17 (by kernel_rfl) (by kernel_rfl) rfl) (.inr (by kernel_rfl))) hK) ?_
      refine gr_val rfl (by kernel_rfl) (fun a V H K Q hK => op_quiet (quiet_move (.tmp 18) (H.rel 11 18 (by kernel_rfl) (by kernel_rfl) rfl) (.inr (by kernel_rfl))) hK) ?_
      refine gr_val rfl (by kernel_rfl) (fun a V H K Q hK => op_quiet (quiet_move (.tmp 19) (H.rel 12 19 (by kernel_rfl) (by kernel_rfl) rfl) (.inr (by kernel_rfl))) hK) ?_
      exact gr_nil
    case hf1 =>
    intro x_ V hF
    have e0 : x_ 0 = .pointer (some ⟨r, 0, none⟩) := hF.rel 0 _ rfl
    have e1 : x_ 1 = .pointer (some ⟨r, 0, none⟩) := hF.rel 1 _ rfl
    have e2 : x_ 2 = .pointer (some ⟨r, 0, none⟩) := hF.rel 2 _ rfl
    have e3 : x_ 3 = .slice A n c := hF.rel 3 _ rfl
    have e4 : x_ 4 = .pointer (some ⟨r, 0, none⟩) := hF.rel 4 _ rfl
    have e5 : x_ 5 = .pointer (some ⟨r, 0, none⟩) := hF.rel 5 _ rfl
    have e6 : x_ 6 = .pointer (some ⟨r, 1, none⟩) := hF.rel 6 _ rfl
    have e7 : x_ 7 = .int .i64 (p : Nat) := hF.rel 7 _ rfl
    have e8 : x_ 8 = .tuple #[.int .i64 0, .int .i64 (p : Nat), .int .i64 ((4 : Nat) : Int)] := hF.rel 8 _ rfl
    have e9 : x_ 9 = .tuple #[.int .i64 0, .int .i64 (p : Nat), .int .i64 ((4 : Nat) : Int)] := hF.rel 9 _ rfl
    have e10 : x_ 10 = .int .i64 0 := hF.rel 10 _ rfl
    have e11 : x_ 11 = .int .i64 (p : Nat) := hF.rel 11 _ rfl
    have e12 : x_ 12 = .int .i64 ((4 : Nat) : Int) := hF.rel 12 _ rfl
    have e13 : x_ 13 = .int .i64 0 := hF.rel 13 _ rfl
    have e14 : x_ 14 = .int .i64 (p : Nat) := hF.rel 14 _ rfl
    have e15 : x_ 15 = .int .i64 ((4 : Nat) : Int) := hF.rel 15 _ rfl
    have hbf := hF.frame
    clear hF
    simp only [Sch.finL, zA, zB, zC, e0, e1, e2, e3, e4, e5, e6, e7, e8, e9, e10, e11, e12, e13, e14, e15]
    clear e0 e1 e2 e3 e4 e5 e6 e7 e8 e9 e10 e11 e12 e13 e14 e15
    refine tail_nil ?_
    have HR1 := hid (H0.out.old hbf)
    have HG1 := hid (grown_below hbf (some r))
    clear hbf
    generalize V = W1 at *
    obtain ⟨c0, c1, c2, f1, f2⟩ := HR1.out.all
    go_wp2_with fail
    refine ⟨rfl, ?_, HG1.out⟩
    rw [hpp]
    rfl
  | ok m rest =>
    rw [hpl] at hG
    simp only at hG
    rw [hG, hl] at CG0
    obtain ⟨hs1, hm⟩ := pLen_sound hpl
    obtain ⟨hd1, hq1, hq2⟩ := drop_rest (by omega) hs hs1
    rw [hl] at hd1 hq1
    have hm2 : m ≤ 4096 := hm
    have hrl : rest.length ≤ n := by
      have := congrArg List.length hs
      rw [List.length_drop, hl, hs1, List.length_append] at this
      omega
    obtain ⟨qq, hqq⟩ := namedN (n - rest.length)
    rw [← hqq.out] at CG0 hd1
    have hqn : qq + rest.length = n := by rw [hqq.out]; omega
    have CG := hid CG0
    have HD1 := hid hd1
    have HM := hid hm2
    have HPL := hid hpl
    clear h hr hs hG CG0 hpl hs1 hm hm2 hq1 hq2 hd1
    cases rest with
    | nil =>
      have hpb : pBytes (x :: q) = .err 2 [] := by unfold pBytes; rw [HPL.out]
      rw [hpb]
      have CN : Hid (∀ W, RdAt W r A n c (qq : Nat) nd → Calls Tryz.prog 85 #[.pointer (some ⟨r, 0, none⟩)] W fun e w' => Thrown 2 n e ∧ Below W.heap.size W w') := hid fun W hW => next_end r A n c _ nd W hW (by simp at hqn; omega) hn (by omega)
      clear hpb HPL
      go_enter Tryz.func125, Tryz.ntmps125
      go_upto_region 1 with fail
      (try simp only [Act.put, zA, zB, zC])
      refine wp_R [8, 9, 10, 11, 12, 13, 14, 15, 16, 7, 17, 18, 19, 3, 4, 5] [Rk.val (.pointer (some ⟨r, 0, none⟩)), Rk.val (.pointer (some ⟨r, 0, none⟩)), Rk.val (.pointer (some ⟨r, 0, none⟩)), Rk.val (.slice A n c), Rk.val (.pointer (some ⟨r, 0, none⟩)), Rk.val (.pointer (some ⟨r, 0, none⟩)), Rk.val (.pointer (some ⟨r, 1, none⟩)), Rk.val (.int .i64 (p : Nat)), Rk.val (.tuple #[.int .i64 (m : Nat), .int .i64 (qq : Nat), .int .i64 0]), Rk.val (.tuple #[.int .i64 (m : Nat), .int .i64 (qq : Nat), .int .i64 0]), Rk.val (.int .i64 (m : Nat)), Rk.val (.int .i64 (qq : Nat)), Rk.val (.int .i64 0), Rk.val (.int .i64 (m : Nat)), Rk.val (.int .i64 (qq : Nat)), Rk.val (.int .i64 0)] rfl (by kernel_rfl) (by kernel_rfl) (by kernel_rfl) (by kernel_rfl) ?hg2 _ (by rfl) ?hf2
      case hg2 =>
        refine gr_val rfl (by kernel_rfl) (fun a V H K Q hK => op_quiet (quiet_move (.tmp 0) (H.old 0 (by kernel_rfl) (by kernel_rfl)) (.inl (by kernel_rfl))) hK) ?_
        refine gr_val rfl (by kernel_rfl) (fun a V H K Q hK => op_quiet (quiet_nilCheck (.tmp 8) _ (H.rel 0 8 (by kernel_rfl) (by kernel_rfl) rfl) (by kernel_rfl)) hK) ?_
        refine gr_val rfl (by kernel_rfl) (fun a V H K Q hK => op_quiet (quiet_field _ (.tmp 9) 0 _ _ (H.rel 1 9 (by kernel_rfl) (by kernel_rfl) rfl) (fr0 _) rfl) hK) ?_
        refine gr_val rfl (by kernel_rfl) (fun a V H K Q hK => op_quiet (quiet_cell 22 (.tmp 10) _ (H.rel 2 10 (by kernel_rfl) (by kernel_rfl) rfl) Tryz.underlying22 rfl ((H0.out.old H.frame).all.1) (by kernel_rfl)) hK) ?_
        refine gr_val rfl (by kernel_rfl) (fun a V H K Q hK => op_quiet (quiet_move (.tmp 0) (H.old 0 (by kernel_rfl) (by kernel_rfl)) (.inl (by kernel_rfl))) hK) ?_
        refine gr_val rfl (by kernel_rfl) (fun a V H K Q hK => op_quiet (quiet_nilCheck (.tmp 12) _ (H.rel 4 12 (by kernel_rfl) (by kernel_rfl) rfl) (by kernel_rfl)) hK) ?_
        refine gr_val rfl (by kernel_rfl) (fun a V H K Q hK => op_quiet (quiet_field _ (.tmp 13) 1 _ _ (H.rel 5 13 (by kernel_rfl) (by kernel_rfl) rfl) (fr1 _) rfl) hK) ?_
        refine gr_val rfl (by kernel_rfl) (fun a V H K Q hK => op_quiet (quiet_cell 3 (.tmp 14) _ (H.rel 6 14 (by kernel_rfl) (by kernel_rfl) rfl) Tryz.underlying3 rfl ((H0.out.old H.frame).all.2.1) (by kernel_rfl)) hK) ?_
        refine gr_val rfl (by kernel_rfl) (fun a V H K Q hK => op_callK #[.tmp 11, .tmp 15, .const (.int .i64 4096)] #[.slice A n c, .int .i64 (p : Nat), .int .i64 4096] (by kernel_rfl) (by kernel_rfl) (by kernel_rfl) (map3N (H.rel 3 11 (by kernel_rfl) (by kernel_rfl) rfl) (H.rel 7 15 (by kernel_rfl) (by kernel_rfl) rfl) rfl) (CG.out V H.frame) (by kernel_rfl) hK) ?_
        refine gr_val rfl (by kernel_rfl) (fun a V H K Q hK => op_quiet (quiet_move (.tmp 16) (H.rel 8 16 (by kernel_rfl) (by kernel_rfl) rfl) (.inl (by kernel_rfl))) hK) ?_
        refine gr_val rfl (by kernel_rfl) (fun a V H K Q hK => op_quiet (quiet_extract (t := #[.int .i64 (m : Nat), .int .i64 (qq : Nat), .int .i64 0]) (.tmp 7) 0 (H.rel 9 7 (by kernel_rfl) (by kernel_rfl) rfl) rfl (by kernel_rfl)) hK) ?_
        refine gr_val rfl (by kernel_rfl) (fun a V H K Q hK => op_quiet (quiet_extract (t := #[.int .i64 (m : Nat), .int .i64 (qq : Nat), .int .i64 0]) (.tmp 7) 1 (H.rel 9 7 (by kernel_rfl) (by kernel_rfl) rfl) rfl (by kernel_rfl)) hK) ?_
        refine gr_val rfl (by kernel_rfl) (fun a V H K Q hK => op_quiet (quiet_extract (t := #[.int .i64 (m : Nat), .int .i64 (qq : Nat), .int .i64 0]) (.tmp 7) 2 (H.rel 9 7 (by kernel_rfl) (by kernel_rfl) rfl) rfl (by kernel_rfl)) hK) ?_
        refine gr_val rfl (by kernel_rfl) (fun a V H K Q hK => op_quiet (quiet_move (.tmp 17) (H.rel 10 17 (by kernel_rfl) (by kernel_rfl) rfl) (.inr (by kernel_rfl))) hK) ?_
        refine gr_val rfl (by kernel_rfl) (fun a V H K Q hK => op_quiet (quiet_move (.tmp 18) (H.rel 11 18 (by kernel_rfl) (by kernel_rfl) rfl) (.inr (by kernel_rfl))) hK) ?_
        refine gr_val rfl (by kernel_rfl) (fun a V H K Q hK => op_quiet (quiet_move (.tmp 19) (H.rel 12 19 (by kernel_rfl) (by kernel_rfl) rfl) (.inr (by kernel_rfl))) hK) ?_
        exact gr_nil
      case hf2 =>
      intro x_ V hF
      have e0 : x_ 0 = .pointer (some ⟨r, 0, none⟩) := hF.rel 0 _ rfl
      have e1 : x_ 1 = .pointer (some ⟨r, 0, none⟩) := hF.rel 1 _ rfl
      have e2 : x_ 2 = .pointer (some ⟨r, 0, none⟩) := hF.rel 2 _ rfl
      have e3 : x_ 3 = .slice A n c := hF.rel 3 _ rfl
      have e4 : x_ 4 = .pointer (some ⟨r, 0, none⟩) := hF.rel 4 _ rfl
      have e5 : x_ 5 = .pointer (some ⟨r, 0, none⟩) := hF.rel 5 _ rfl
      have e6 : x_ 6 = .pointer (some ⟨r, 1, none⟩) := hF.rel 6 _ rfl
      have e7 : x_ 7 = .int .i64 (p : Nat) := hF.rel 7 _ rfl
      have e8 : x_ 8 = .tuple #[.int .i64 (m : Nat), .int .i64 (qq : Nat), .int .i64 0] := hF.rel 8 _ rfl
      have e9 : x_ 9 = .tuple #[.int .i64 (m : Nat), .int .i64 (qq : Nat), .int .i64 0] := hF.rel 9 _ rfl
      have e10 : x_ 10 = .int .i64 (m : Nat) := hF.rel 10 _ rfl
      have e11 : x_ 11 = .int .i64 (qq : Nat) := hF.rel 11 _ rfl
      have e12 : x_ 12 = .int .i64 0 := hF.rel 12 _ rfl
      have e13 : x_ 13 = .int .i64 (m : Nat) := hF.rel 13 _ rfl
      have e14 : x_ 14 = .int .i64 (qq : Nat) := hF.rel 14 _ rfl
      have e15 : x_ 15 = .int .i64 0 := hF.rel 15 _ rfl
      have hbf := hF.frame
      clear hF
      simp only [Sch.finL, zA, zB, zC, e0, e1, e2, e3, e4, e5, e6, e7, e8, e9, e10, e11, e12, e13, e14, e15]
      clear e0 e1 e2 e3 e4 e5 e6 e7 e8 e9 e10 e11 e12 e13 e14 e15
      refine tail_nil ?_
      have HR1 := hid (H0.out.old hbf)
      have HG1 := hid (grown_below hbf (some r))
      clear hbf
      generalize V = W1 at *
      obtain ⟨c0, c1, c2, f1, f2⟩ := HR1.out.all
      have HR2 := hid (HR1.out.set1 ((qq : Nat) : Int))
      have HG2 := hid (HG1.out.trans (grown_set W1 r 1 (.int .i64 ((qq : Nat) : Int))))
      go_upto_region 5 with fail
      generalize W1.setCell ⟨r, 1, none⟩ (.int .i64 ((qq : Nat) : Int)) = W2 at *
      (try simp only [Act.put, zA, zB, zC])
      clear c0 c1 c2 f1 f2 HR1 HG1
      go_wp2_with ((with_reducible refine (CN.out _ HR2.out).mono ?_); rintro e w3 ⟨rfl, hb3⟩)
      exact ⟨rfl, rfl, HG2.out.trans (grown_below hb3 _)⟩
    | cons c0' r2 =>
      have hlr : (c0' :: r2).length = r2.length + 1 := rfl
      rw [hlr] at hqn hrl hqq
      have CN : Hid (∀ W, RdAt W r A n c (qq : Nat) nd → w.grownBy W (some r) → Calls Tryz.prog 85 #[.pointer (some ⟨r, 0, none⟩)] W fun e w' => e = .returned (.int .u8 c0'.toNat) ∧ Below W.heap.size W w') := hid fun W hW hg =>
        next_at r A n c _ nd b B W hW (reads_grown HR.out hg hB) (by omega) hn c0' r2 HD1.out
      by_cases hc0 : c0' ≠ 58
      · have hpb : pBytes (x :: q) = .err 3 (c0' :: r2) := by unfold pBytes; rw [HPL.out]; simp only; rw [if_pos hc0]
        rw [hpb]
        have hne : ((c0'.toNat : Int) != 58) = true := by rw [bne_iff_ne]; exact fun e => hc0 (UInt8.toNat_inj.1 (by show c0'.toNat = 58; omega))
        clear hpb HPL hc0
        go_enter Tryz.func125, Tryz.ntmps125
        go_upto_region 1 with fail
        (try simp only [Act.put, zA, zB, zC])
        refine wp_R [8, 9, 10, 11, 12, 13, 14, 15, 16, 7, 17, 18, 19, 3, 4, 5] [Rk.val (.pointer (some ⟨r, 0, none⟩)), Rk.val (.pointer (some ⟨r, 0, none⟩)), Rk.val (.pointer (some ⟨r, 0, none⟩)), Rk.val (.slice A n c), Rk.val (.pointer (some ⟨r, 0, none⟩)), Rk.val (.pointer (some ⟨r, 0, none⟩)), Rk.val (.pointer (some ⟨r, 1, none⟩)), Rk.val (.int .i64 (p : Nat)), Rk.val (.tuple #[.int .i64 (m : Nat), .int .i64 (qq : Nat), .int .i64 0]), Rk.val (.tuple #[.int .i64 (m : Nat), .int .i64 (qq : Nat), .int .i64 0]), Rk.val (.int .i64 (m : Nat)), Rk.val (.int .i64 (qq : Nat)), Rk.val (.int .i64 0), Rk.val (.int .i64 (m : Nat)), Rk.val (.int .i64 (qq : Nat)), Rk.val (.int .i64 0)] rfl (by kernel_rfl) (by kernel_rfl) (by kernel_rfl) (by kernel_rfl) ?hg3 _ (by rfl) ?hf3
        case hg3 =>
          refine gr_val rfl (by kernel_rfl) (fun a V H K Q hK => op_quiet (quiet_move (.tmp 0) (H.old 0 (by kernel_rfl) (by kernel_rfl)) (.inl (by kernel_rfl))) hK) ?_
          refine gr_val rfl (by kernel_rfl) (fun a V H K Q hK => op_quiet (quiet_nilCheck (.tmp 8) _ (H.rel 0 8 (by kernel_rfl) (by kernel_rfl) rfl) (by kernel_rfl)) hK) ?_
          refine gr_val rfl (by kernel_rfl) (fun a V H K Q hK => op_quiet (quiet_field _ (.tmp 9) 0 _ _ (H.rel 1 9 (by kernel_rfl) (by kernel_rfl) rfl) (fr0 _) rfl) hK) ?_
          refine gr_val rfl (by kernel_rfl) (fun a V H K Q hK => op_quiet (quiet_cell 22 (.tmp 10) _ (H.rel 2 10 (by kernel_rfl) (by kernel_rfl) rfl) Tryz.underlying22 rfl ((H0.out.old H.frame).all.1) (by kernel_rfl)) hK) ?_
          refine gr_val rfl (by kernel_rfl) (fun a V H K Q hK => op_quiet (quiet_move (.tmp 0) (H.old 0 (by kernel_rfl) (by kernel_rfl)) (.inl (by kernel_rfl))) hK) ?_
          refine gr_val rfl (by kernel_rfl) (fun a V H K Q hK => op_quiet (quiet_nilCheck (.tmp 12) _ (H.rel 4 12 (by kernel_rfl) (by kernel_rfl) rfl) (by kernel_rfl)) hK) ?_
          refine gr_val rfl (by kernel_rfl) (fun a V H K Q hK => op_quiet (quiet_field _ (.tmp 13) 1 _ _ (H.rel 5 13 (by kernel_rfl) (by kernel_rfl) rfl) (fr1 _) rfl) hK) ?_
          refine gr_val rfl (by kernel_rfl) (fun a V H K Q hK => op_quiet (quiet_cell 3 (.tmp 14) _ (H.rel 6 14 (by kernel_rfl) (by kernel_rfl) rfl) Tryz.underlying3 rfl ((H0.out.old H.frame).all.2.1) (by kernel_rfl)) hK) ?_
          refine gr_val rfl (by kernel_rfl) (fun a V H K Q hK => op_callK #[.tmp 11, .tmp 15, .const (.int .i64 4096)] #[.slice A n c, .int .i64 (p : Nat), .int .i64 4096] (by kernel_rfl) (by kernel_rfl) (by kernel_rfl) (map3N (H.rel 3 11 (by kernel_rfl) (by kernel_rfl) rfl) (H.rel 7 15 (by kernel_rfl) (by kernel_rfl) rfl) rfl) (CG.out V H.frame) (by kernel_rfl) hK) ?_
          refine gr_val rfl (by kernel_rfl) (fun a V H K Q hK => op_quiet (quiet_move (.tmp 16) (H.rel 8 16 (by kernel_rfl) (by kernel_rfl) rfl) (.inl (by kernel_rfl))) hK) ?_
          refine gr_val rfl (by kernel_rfl) (fun a V H K Q hK => op_quiet (quiet_extract (t := #[.int .i64 (m : Nat), .int .i64 (qq : Nat), .int .i64 0]) (.tmp 7) 0 (H.rel 9 7 (by kernel_rfl) (by kernel_rfl) rfl) rfl (by kernel_rfl)) hK) ?_
          refine gr_val rfl (by kernel_rfl) (fun a V H K Q hK => op_quiet (quiet_extract (t := #[.int .i64 (m : Nat), .int .i64 (qq : Nat), .int .i64 0]) (.tmp 7) 1 (H.rel 9 7 (by kernel_rfl) (by kernel_rfl) rfl) rfl (by kernel_rfl)) hK) ?_
          refine gr_val rfl (by kernel_rfl) (fun a V H K Q hK => op_quiet (quiet_extract (t := #[.int .i64 (m : Nat), .int .i64 (qq : Nat), .int .i64 0]) (.tmp 7) 2 (H.rel 9 7 (by kernel_rfl) (by kernel_rfl) rfl) rfl (by kernel_rfl)) hK) ?_
          refine gr_val rfl (by kernel_rfl) (fun a V H K Q hK => op_quiet (quiet_move (.tmp 17) (H.rel 10 17 (by kernel_rfl) (by kernel_rfl) rfl) (.inr (by kernel_rfl))) hK) ?_
          refine gr_val rfl (by kernel_rfl) (fun a V H K Q hK => op_quiet (quiet_move (.tmp 18) (H.rel 11 18 (by kernel_rfl) (by kernel_rfl) rfl) (.inr (by kernel_rfl))) hK) ?_
          refine gr_val rfl (by kernel_rfl) (fun a V H K Q hK => op_quiet (quiet_move (.tmp 19) (H.rel 12 19 (by kernel_rfl) (by kernel_rfl) rfl) (.inr (by kernel_rfl))) hK) ?_
          exact gr_nil
        case hf3 =>
        intro x_ V hF
        have e0 : x_ 0 = .pointer (some ⟨r, 0, none⟩) := hF.rel 0 _ rfl
        have e1 : x_ 1 = .pointer (some ⟨r, 0, none⟩) := hF.rel 1 _ rfl
        have e2 : x_ 2 = .pointer (some ⟨r, 0, none⟩) := hF.rel 2 _ rfl
        have e3 : x_ 3 = .slice A n c := hF.rel 3 _ rfl
        have e4 : x_ 4 = .pointer (some ⟨r, 0, none⟩) := hF.rel 4 _ rfl
        have e5 : x_ 5 = .pointer (some ⟨r, 0, none⟩) := hF.rel 5 _ rfl
        have e6 : x_ 6 = .pointer (some ⟨r, 1, none⟩) := hF.rel 6 _ rfl
        have e7 : x_ 7 = .int .i64 (p : Nat) := hF.rel 7 _ rfl
        have e8 : x_ 8 = .tuple #[.int .i64 (m : Nat), .int .i64 (qq : Nat), .int .i64 0] := hF.rel 8 _ rfl
        have e9 : x_ 9 = .tuple #[.int .i64 (m : Nat), .int .i64 (qq : Nat), .int .i64 0] := hF.rel 9 _ rfl
        have e10 : x_ 10 = .int .i64 (m : Nat) := hF.rel 10 _ rfl
        have e11 : x_ 11 = .int .i64 (qq : Nat) := hF.rel 11 _ rfl
        have e12 : x_ 12 = .int .i64 0 := hF.rel 12 _ rfl
        have e13 : x_ 13 = .int .i64 (m : Nat) := hF.rel 13 _ rfl
        have e14 : x_ 14 = .int .i64 (qq : Nat) := hF.rel 14 _ rfl
        have e15 : x_ 15 = .int .i64 0 := hF.rel 15 _ rfl
        have hbf := hF.frame
        clear hF
        simp only [Sch.finL, zA, zB, zC, e0, e1, e2, e3, e4, e5, e6, e7, e8, e9, e10, e11, e12, e13, e14, e15]
        clear e0 e1 e2 e3 e4 e5 e6 e7 e8 e9 e10 e11 e12 e13 e14 e15
        refine tail_nil ?_
        have HR1 := hid (H0.out.old hbf)
        have HG1 := hid (grown_below hbf (some r))
        clear hbf
        generalize V = W1 at *
        obtain ⟨c0, c1, c2, f1, f2⟩ := HR1.out.all
        have HR2 := hid (HR1.out.set1 ((qq : Nat) : Int))
        have HG2 := hid (HG1.out.trans (grown_set W1 r 1 (.int .i64 ((qq : Nat) : Int))))
        go_upto_region 5 with fail
        generalize W1.setCell ⟨r, 1, none⟩ (.int .i64 ((qq : Nat) : Int)) = W2 at *
        (try simp only [Act.put, zA, zB, zC])
        clear c0 c1 c2 f1 f2 HR1 HG1
        go_wp2_with ((with_reducible refine (CN.out _ HR2.out HG2.out).mono ?_); rintro e w3 ⟨rfl, hb3⟩; obtain ⟨c0, c1, c2, f1, f2⟩ := (HR2.out.old hb3).all)
        refine ⟨rfl, ?_, HG2.out.trans (grown_below hb3 _)⟩
        rw [hlr, ← hqq.out]
        rfl
      · have hc0 : c0' = 58 := Classical.not_not.1 hc0
        subst hc0
        have hd2 : b.drop (qq + 1) = r2 := by rw [← List.drop_drop, HD1.out]; rfl
        have HD2 := hid hd2
        clear hd2
        by_cases hlt : r2.length < m
        · have hpb : pBytes (x :: q) = .err 2 [] := by unfold pBytes; rw [HPL.out]; simp only; rw [if_neg (by simp), if_pos hlt]
          rw [hpb]
          have hgt : Hid (decide (((n : Int) - ((qq + 1 : Nat) : Int)) < (m : Int)) = true) := hid (by simp; omega)
          clear hpb HPL
          go_enter Tryz.func125, Tryz.ntmps125
          go_upto_region 1 with fail
          (try simp only [Act.put, zA, zB, zC])
          refine wp_R [8, 9, 10, 11, 12, 13, 14, 15, 16, 7, 17, 18, 19, 3, 4, 5] [Rk.val (.pointer (some ⟨r, 0, none⟩)), Rk.val (.pointer (some ⟨r, 0, none⟩)), Rk.val (.pointer (some ⟨r, 0, none⟩)), Rk.val (.slice A n c), Rk.val (.pointer (some ⟨r, 0, none⟩)), Rk.val (.pointer (some ⟨r, 0, none⟩)), Rk.val (.pointer (some ⟨r, 1, none⟩)), Rk.val (.int .i64 (p : Nat)), Rk.val (.tuple #[.int .i64 (m : Nat), .int .i64 (qq : Nat), .int .i64 0]), Rk.val (.tuple #[.int .i64 (m : Nat), .int .i64 (qq : Nat), .int .i64 0]), Rk.val (.int .i64 (m : Nat)), Rk.val (.int .i64 (qq : Nat)), Rk.val (.int .i64 0), Rk.val (.int .i64 (m : Nat)), Rk.val (.int .i64 (qq : Nat)), Rk.val (.int .i64 0)] rfl (by kernel_rfl) (by kernel_rfl) (by kernel_rfl) (by kernel_rfl) ?hg4 _ (by rfl) ?hf4
          case hg4 =>
            refine gr_val rfl (by kernel_rfl) (fun a V H K Q hK => op_quiet (quiet_move (.tmp 0) (H.old 0 (by kernel_rfl) (by kernel_rfl)) (.inl (by kernel_rfl))) hK) ?_
            refine gr_val rfl (by kernel_rfl) (fun a V H K Q hK => op_quiet (quiet_nilCheck (.tmp 8) _ (H.rel 0 8 (by kernel_rfl) (by kernel_rfl) rfl) (by kernel_rfl)) hK) ?_
            refine gr_val rfl (by kernel_rfl) (fun a V H K Q hK => op_quiet (quiet_field _ (.tmp 9) 0 _ _ (H.rel 1 9 (by kernel_rfl) (by kernel_rfl) rfl) (fr0 _) rfl) hK) ?_
            refine gr_val rfl (by kernel_rfl) (fun a V H K Q hK => op_quiet (quiet_cell 22 (.tmp 10) _ (H.rel 2 10 (by kernel_rfl) (by kernel_rfl) rfl) Tryz.underlying22 rfl ((H0.out.old H.frame).all.1) (by kernel_rfl)) hK) ?_
            refine gr_val rfl (by kernel_rfl) (fun a V H K Q hK => op_quiet (quiet_move (.tmp 0) (H.old 0 (by kernel_rfl) (by kernel_rfl)) (.inl (by kernel_rfl))) hK) ?_
            refine gr_val rfl (by kernel_rfl) (fun a V H K Q hK => op_quiet (quiet_nilCheck (.tmp 12) _ (H.rel 4 12 (by kernel_rfl) (by kernel_rfl) rfl) (by kernel_rfl)) hK) ?_
            refine gr_val rfl (by kernel_rfl) (fun a V H K Q hK => op_quiet (quiet_field _ (.tmp 13) 1 _ _ (H.rel 5 13 (by kernel_rfl) (by kernel_rfl) rfl) (fr1 _) rfl) hK) ?_
            refine gr_val rfl (by kernel_rfl) (fun a V H K Q hK => op_quiet (quiet_cell 3 (.tmp 14) _ (H.rel 6 14 (by kernel_rfl) (by kernel_rfl) rfl) Tryz.underlying3 rfl ((H0.out.old H.frame).all.2.1) (by kernel_rfl)) hK) ?_
            refine gr_val rfl (by kernel_rfl) (fun a V H K Q hK => op_callK #[.tmp 11, .tmp 15, .const (.int .i64 4096)] #[.slice A n c, .int .i64 (p : Nat), .int .i64 4096] (by kernel_rfl) (by kernel_rfl) (by kernel_rfl) (map3N (H.rel 3 11 (by kernel_rfl) (by kernel_rfl) rfl) (H.rel 7 15 (by kernel_rfl) (by kernel_rfl) rfl) rfl) (CG.out V H.frame) (by kernel_rfl) hK) ?_
            refine gr_val rfl (by kernel_rfl) (fun a V H K Q hK => op_quiet (quiet_move (.tmp 16) (H.rel 8 16 (by kernel_rfl) (by kernel_rfl) rfl) (.inl (by kernel_rfl))) hK) ?_
            refine gr_val rfl (by kernel_rfl) (fun a V H K Q hK => op_quiet (quiet_extract (t := #[.int .i64 (m : Nat), .int .i64 (qq : Nat), .int .i64 0]) (.tmp 7) 0 (H.rel 9 7 (by kernel_rfl) (by kernel_rfl) rfl) rfl (by kernel_rfl)) hK) ?_
            refine gr_val rfl (by kernel_rfl) (fun a V H K Q hK => op_quiet (quiet_extract (t := #[.int .i64 (m : Nat), .int .i64 (qq : Nat), .int .i64 0]) (.tmp 7) 1 (H.rel 9 7 (by kernel_rfl) (by kernel_rfl) rfl) rfl (by kernel_rfl)) hK) ?_
            refine gr_val rfl (by kernel_rfl) (fun a V H K Q hK => op_quiet (quiet_extract (t := #[.int .i64 (m : Nat), .int .i64 (qq : Nat), .int .i64 0]) (.tmp 7) 2 (H.rel 9 7 (by kernel_rfl) (by kernel_rfl) rfl) rfl (by kernel_rfl)) hK) ?_
            refine gr_val rfl (by kernel_rfl) (fun a V H K Q hK => op_quiet (quiet_move (.tmp 17) (H.rel 10 17 (by kernel_rfl) (by kernel_rfl) rfl) (.inr (by kernel_rfl))) hK) ?_
            refine gr_val rfl (by kernel_rfl) (fun a V H K Q hK => op_quiet (quiet_move (.tmp 18) (H.rel 11 18 (by kernel_rfl) (by kernel_rfl) rfl) (.inr (by kernel_rfl))) hK) ?_
            refine gr_val rfl (by kernel_rfl) (fun a V H K Q hK => op_quiet (quiet_move (.tmp 19) (H.rel 12 19 (by kernel_rfl) (by kernel_rfl) rfl) (.inr (by kernel_rfl))) hK) ?_
            exact gr_nil
          case hf4 =>
          intro x_ V hF
          have e0 : x_ 0 = .pointer (some ⟨r, 0, none⟩) := hF.rel 0 _ rfl
          have e1 : x_ 1 = .pointer (some ⟨r, 0, none⟩) := hF.rel 1 _ rfl
          have e2 : x_ 2 = .pointer (some ⟨r, 0, none⟩) := hF.rel 2 _ rfl
          have e3 : x_ 3 = .slice A n c := hF.rel 3 _ rfl
          have e4 : x_ 4 = .pointer (some ⟨r, 0, none⟩) := hF.rel 4 _ rfl
          have e5 : x_ 5 = .pointer (some ⟨r, 0, none⟩) := hF.rel 5 _ rfl
          have e6 : x_ 6 = .pointer (some ⟨r, 1, none⟩) := hF.rel 6 _ rfl
          have e7 : x_ 7 = .int .i64 (p : Nat) := hF.rel 7 _ rfl
          have e8 : x_ 8 = .tuple #[.int .i64 (m : Nat), .int .i64 (qq : Nat), .int .i64 0] := hF.rel 8 _ rfl
          have e9 : x_ 9 = .tuple #[.int .i64 (m : Nat), .int .i64 (qq : Nat), .int .i64 0] := hF.rel 9 _ rfl
          have e10 : x_ 10 = .int .i64 (m : Nat) := hF.rel 10 _ rfl
          have e11 : x_ 11 = .int .i64 (qq : Nat) := hF.rel 11 _ rfl
          have e12 : x_ 12 = .int .i64 0 := hF.rel 12 _ rfl
          have e13 : x_ 13 = .int .i64 (m : Nat) := hF.rel 13 _ rfl
          have e14 : x_ 14 = .int .i64 (qq : Nat) := hF.rel 14 _ rfl
          have e15 : x_ 15 = .int .i64 0 := hF.rel 15 _ rfl
          have hbf := hF.frame
          clear hF
          simp only [Sch.finL, zA, zB, zC, e0, e1, e2, e3, e4, e5, e6, e7, e8, e9, e10, e11, e12, e13, e14, e15]
          clear e0 e1 e2 e3 e4 e5 e6 e7 e8 e9 e10 e11 e12 e13 e14 e15
          refine tail_nil ?_
          have HR1 := hid (H0.out.old hbf)
          have HG1 := hid (grown_below hbf (some r))
          clear hbf
          generalize V = W1 at *
          obtain ⟨c0, c1, c2, f1, f2⟩ := HR1.out.all
          have HR2 := hid (HR1.out.set1 ((qq : Nat) : Int))
          have HG2 := hid (HG1.out.trans (grown_set W1 r 1 (.int .i64 ((qq : Nat) : Int))))
          go_upto_region 5 with fail
          generalize W1.setCell ⟨r, 1, none⟩ (.int .i64 ((qq : Nat) : Int)) = W2 at *
          (try simp only [Act.put, zA, zB, zC])
          clear c0 c1 c2 f1 f2 HR1 HG1
          have hwp : IntKind.i64.wrap ((qq : Int) + 1) = (qq : Int) + 1 := IntWalk.i64_in _ (by omega)
          go_upto_region 7 with ((with_reducible refine (CN.out _ HR2.out HG2.out).mono ?_); rintro e w3 ⟨rfl, hb3⟩)
          have HR3 := hid (HR2.out.old hb3)
          have HG3 := hid (HG2.out.trans (grown_below hb3 (some r)))
          clear HR2 HG2 hb3
          obtain ⟨c0, c1, c2, f1, f2⟩ := HR3.out.all
          have HR4 := hid (HR3.out.set1 ((qq : Int) + 1))
          have HG4 := hid (HG3.out.trans (grown_set w3 r 1 (.int .i64 ((qq : Int) + 1))))
          go_upto_region 8 with fail
          generalize w3.setCell ⟨r, 1, none⟩ (.int .i64 ((qq : Int) + 1)) = W4 at *
          (try simp only [Act.put, zA, zB, zC])
          clear c0 c1 c2 f1 f2 HR3 HG3
          obtain ⟨q1, hq1⟩ := namedN (qq + 1)
          rw [show (qq : Int) + 1 = ((qq + 1 : Nat) : Int) from rfl, ← hq1.out] at HR4
          rw [← hq1.out] at hgt HD2
          refine wp_R [46, 47, 48, 49, 50, 51, 52, 53, 54, 55, 56, 57] [Rk.val (.int .i64 (m : Nat)), Rk.val (.pointer (some ⟨r, 0, none⟩)), Rk.val (.pointer (some ⟨r, 0, none⟩)), Rk.val (.pointer (some ⟨r, 0, none⟩)), Rk.val (.slice A n c), Rk.val (.int .i64 (n : Nat)), Rk.val (.pointer (some ⟨r, 0, none⟩)), Rk.val (.pointer (some ⟨r, 0, none⟩)), Rk.val (.pointer (some ⟨r, 1, none⟩)), Rk.val (.int .i64 (q1 : Nat)), Rk.val (.int .i64 ((n : Int) - (q1 : Int))), Rk.val (.bool true)] rfl (by kernel_rfl) (by kernel_rfl) (by kernel_rfl) (by kernel_rfl) ?hg5 _ (by rfl) ?hf5
          case hg5 =>
            refine gr_val rfl (by kernel_rfl) (fun a V H K Q hK => op_quiet (quiet_move (.tmp 3) (H.old 3 (by kernel_rfl) (by kernel_rfl)) (.inl (by kernel_rfl))) hK) ?_
            refine gr_val rfl (by kernel_rfl) (fun a V H K Q hK => op_quiet (quiet_move (.tmp 0) (H.old 0 (by kernel_rfl) (by kernel_rfl)) (.inl (by kernel_rfl))) hK) ?_
            refine gr_val rfl (by kernel_rfl) (fun a V H K Q hK => op_quiet (quiet_nilCheck (.tmp 47) _ (H.rel 1 47 (by kernel_rfl) (by kernel_rfl) rfl) (by kernel_rfl)) hK) ?_
            refine gr_val rfl (by kernel_rfl) (fun a V H K Q hK => op_quiet (quiet_field _ (.tmp 48) 0 _ _ (H.rel 2 48 (by kernel_rfl) (by kernel_rfl) rfl) (fr0 _) rfl) hK) ?_
            refine gr_val rfl (by kernel_rfl) (fun a V H K Q hK => op_quiet (quiet_cell 22 (.tmp 49) _ (H.rel 3 49 (by kernel_rfl) (by kernel_rfl) rfl) Tryz.underlying22 rfl ((HR4.out.old H.frame).all.1) (by kernel_rfl)) hK) ?_
            refine gr_val rfl (by kernel_rfl) (fun a V H K Q hK => op_quiet (quiet_len (.tmp 50) A n c 22 5 (H.rel 4 50 (by kernel_rfl) (by kernel_rfl) rfl) Tryz.underlying22 (by kernel_rfl)) hK) ?_
            refine gr_val rfl (by kernel_rfl) (fun a V H K Q hK => op_quiet (quiet_move (.tmp 0) (H.old 0 (by kernel_rfl) (by kernel_rfl)) (.inl (by kernel_rfl))) hK) ?_
            refine gr_val rfl (by kernel_rfl) (fun a V H K Q hK => op_quiet (quiet_nilCheck (.tmp 52) _ (H.rel 6 52 (by kernel_rfl) (by kernel_rfl) rfl) (by kernel_rfl)) hK) ?_
            refine gr_val rfl (by kernel_rfl) (fun a V H K Q hK => op_quiet (quiet_field _ (.tmp 53) 1 _ _ (H.rel 7 53 (by kernel_rfl) (by kernel_rfl) rfl) (fr1 _) rfl) hK) ?_
            refine gr_val rfl (by kernel_rfl) (fun a V H K Q hK => op_quiet (quiet_cell 3 (.tmp 54) _ (H.rel 8 54 (by kernel_rfl) (by kernel_rfl) rfl) Tryz.underlying3 rfl ((HR4.out.old H.frame).all.2.1) (by kernel_rfl)) hK) ?_
            refine gr_val rfl (by kernel_rfl) (fun a V H K Q hK => op_quiet (quiet_subI (.tmp 51) (.tmp 55) (n : Int) (q1 : Int) 3 3 (by have := hq1.out; omega) (H.rel 5 51 (by kernel_rfl) (by kernel_rfl) rfl) (H.rel 9 55 (by kernel_rfl) (by kernel_rfl) rfl) Tryz.underlying3 (by kernel_rfl)) hK) ?_
            refine gr_val rfl (by kernel_rfl) (fun a V H K Q hK => op_quiet (quiet_gtrB (.tmp 46) (.tmp 56) (m : Int) ((n : Int) - (q1 : Int)) 3 3 true hgt.out (H.rel 0 46 (by kernel_rfl) (by kernel_rfl) rfl) (H.rel 10 56 (by kernel_rfl) (by kernel_rfl) rfl) Tryz.underlying3 (by kernel_rfl)) hK) ?_
            exact gr_nil
          case hf5 =>
          intro x_ V hF
          have e0 : x_ 0 = .int .i64 (m : Nat) := hF.rel 0 _ rfl
          have e1 : x_ 1 = .pointer (some ⟨r, 0, none⟩) := hF.rel 1 _ rfl
          have e2 : x_ 2 = .pointer (some ⟨r, 0, none⟩) := hF.rel 2 _ rfl
          have e3 : x_ 3 = .pointer (some ⟨r, 0, none⟩) := hF.rel 3 _ rfl
          have e4 : x_ 4 = .slice A n c := hF.rel 4 _ rfl
          have e5 : x_ 5 = .int .i64 (n : Nat) := hF.rel 5 _ rfl
          have e6 : x_ 6 = .pointer (some ⟨r, 0, none⟩) := hF.rel 6 _ rfl
          have e7 : x_ 7 = .pointer (some ⟨r, 0, none⟩) := hF.rel 7 _ rfl
          have e8 : x_ 8 = .pointer (some ⟨r, 1, none⟩) := hF.rel 8 _ rfl
          have e9 : x_ 9 = .int .i64 (q1 : Nat) := hF.rel 9 _ rfl
          have e10 : x_ 10 = .int .i64 ((n : Int) - (q1 : Int)) := hF.rel 10 _ rfl
          have e11 : x_ 11 = .bool true := hF.rel 11 _ rfl
          have hbf := hF.frame
          clear hF
          simp only [Sch.finL, zA, zB, zC, e0, e1, e2, e3, e4, e5, e6, e7, e8, e9, e10, e11]
          clear e0 e1 e2 e3 e4 e5 e6 e7 e8 e9 e10 e11
          refine tail_nil ?_
          have HR5 := hid (HR4.out.old hbf)
          have HG5 := hid (HG4.out.trans (grown_below hbf (some r)))
          clear hbf HR4 HG4
          generalize V = W5 at *
          obtain ⟨c0, c1, c2, f1, f2⟩ := HR5.out.all
          go_wp2_with fail
          exact ⟨rfl, rfl, HG5.out⟩
        · obtain ⟨L, hL⟩ : ∃ L, Hid (L = r2.take m) := ⟨_, hid rfl⟩
          have hpb : pBytes (x :: q) = .ok L (r2.drop m) := by unfold pBytes; rw [HPL.out]; simp only; rw [if_neg (by simp), if_neg hlt, hL.out]
          rw [hpb]
          have hgt : Hid (decide (((n : Int) - ((qq + 1 : Nat) : Int)) < (m : Int)) = false) := hid (by simp; omega)
          have HLL : Hid (L.length = m) := hid (by rw [hL.out, List.length_take]; omega)
          have HDR : Hid ((n - (r2.drop m).length : Nat) = qq + 1 + m) := hid (by rw [List.length_drop]; omega)
          have hmle : qq + 1 + m ≤ n := by omega
          clear hpb HPL
          go_enter Tryz.func125, Tryz.ntmps125
          go_upto_region 1 with fail
          (try simp only [Act.put, zA, zB, zC])
          refine wp_R [8, 9, 10, 11, 12, 13, 14, 15, 16, 7, 17, 18, 19, 3, 4, 5] [Rk.val (.pointer (some ⟨r, 0, none⟩)), Rk.val (.pointer (some ⟨r, 0, none⟩)), Rk.val (.pointer (some ⟨r, 0, none⟩)), Rk.val (.slice A n c), Rk.val (.pointer (some ⟨r, 0, none⟩)), Rk.val (.pointer (some ⟨r, 0, none⟩)), Rk.val (.pointer (some ⟨r, 1, none⟩)), Rk.val (.int .i64 (p : Nat)), Rk.val (.tuple #[.int .i64 (m : Nat), .int .i64 (qq : Nat), .int .i64 0]), Rk.val (.tuple #[.int .i64 (m : Nat), .int .i64 (qq : Nat), .int .i64 0]), Rk.val (.int .i64 (m : Nat)), Rk.val (.int .i64 (qq : Nat)), Rk.val (.int .i64 0), Rk.val (.int .i64 (m : Nat)), Rk.val (.int .i64 (qq : Nat)), Rk.val (.int .i64 0)] rfl (by kernel_rfl) (by kernel_rfl) (by kernel_rfl) (by kernel_rfl) ?hg6 _ (by rfl) ?hf6
          case hg6 =>
            refine gr_val rfl (by kernel_rfl) (fun a V H K Q hK => op_quiet (quiet_move (.tmp 0) (H.old 0 (by kernel_rfl) (by kernel_rfl)) (.inl (by kernel_rfl))) hK) ?_
            refine gr_val rfl (by kernel_rfl) (fun a V H K Q hK => op_quiet (quiet_nilCheck (.tmp 8) _ (H.rel 0 8 (by kernel_rfl) (by kernel_rfl) rfl) (by kernel_rfl)) hK) ?_
            refine gr_val rfl (by kernel_rfl) (fun a V H K Q hK => op_quiet (quiet_field _ (.tmp 9) 0 _ _ (H.rel 1 9 (by kernel_rfl) (by kernel_rfl) rfl) (fr0 _) rfl) hK) ?_
            refine gr_val rfl (by kernel_rfl) (fun a V H K Q hK => op_quiet (quiet_cell 22 (.tmp 10) _ (H.rel 2 10 (by kernel_rfl) (by kernel_rfl) rfl) Tryz.underlying22 rfl ((H0.out.old H.frame).all.1) (by kernel_rfl)) hK) ?_
            refine gr_val rfl (by kernel_rfl) (fun a V H K Q hK => op_quiet (quiet_move (.tmp 0) (H.old 0 (by kernel_rfl) (by kernel_rfl)) (.inl (by kernel_rfl))) hK) ?_
            refine gr_val rfl (by kernel_rfl) (fun a V H K Q hK => op_quiet (quiet_nilCheck (.tmp 12) _ (H.rel 4 12 (by kernel_rfl) (by kernel_rfl) rfl) (by kernel_rfl)) hK) ?_
            refine gr_val rfl (by kernel_rfl) (fun a V H K Q hK => op_quiet (quiet_field _ (.tmp 13) 1 _ _ (H.rel 5 13 (by kernel_rfl) (by kernel_rfl) rfl) (fr1 _) rfl) hK) ?_
            refine gr_val rfl (by kernel_rfl) (fun a V H K Q hK => op_quiet (quiet_cell 3 (.tmp 14) _ (H.rel 6 14 (by kernel_rfl) (by kernel_rfl) rfl) Tryz.underlying3 rfl ((H0.out.old H.frame).all.2.1) (by kernel_rfl)) hK) ?_
            refine gr_val rfl (by kernel_rfl) (fun a V H K Q hK => op_callK #[.tmp 11, .tmp 15, .const (.int .i64 4096)] #[.slice A n c, .int .i64 (p : Nat), .int .i64 4096] (by kernel_rfl) (by kernel_rfl) (by kernel_rfl) (map3N (H.rel 3 11 (by kernel_rfl) (by kernel_rfl) rfl) (H.rel 7 15 (by kernel_rfl) (by kernel_rfl) rfl) rfl) (CG.out V H.frame) (by kernel_rfl) hK) ?_
            refine gr_val rfl (by kernel_rfl) (fun a V H K Q hK => op_quiet (quiet_move (.tmp 16) (H.rel 8 16 (by kernel_rfl) (by kernel_rfl) rfl) (.inl (by kernel_rfl))) hK) ?_
            refine gr_val rfl (by kernel_rfl) (fun a V H K Q hK => op_quiet (quiet_extract (t := #[.int .i64 (m : Nat), .int .i64 (qq : Nat), .int .i64 0]) (.tmp 7) 0 (H.rel 9 7 (by kernel_rfl) (by kernel_rfl) rfl) rfl (by kernel_rfl)) hK) ?_
            refine gr_val rfl (by kernel_rfl) (fun a V H K Q hK => op_quiet (quiet_extract (t := #[.int .i64 (m : Nat), .int .i64 (qq : Nat), .int .i64 0]) (.tmp 7) 1 (H.rel 9 7 (by kernel_rfl) (by kernel_rfl) rfl) rfl (by kernel_rfl)) hK) ?_
            refine gr_val rfl (by kernel_rfl) (fun a V H K Q hK => op_quiet (quiet_extract (t := #[.int .i64 (m : Nat), .int .i64 (qq : Nat), .int .i64 0]) (.tmp 7) 2 (H.rel 9 7 (by kernel_rfl) (by kernel_rfl) rfl) rfl (by kernel_rfl)) hK) ?_
            refine gr_val rfl (by kernel_rfl) (fun a V H K Q hK => op_quiet (quiet_move (.tmp 17) (H.rel 10 17 (by kernel_rfl) (by kernel_rfl) rfl) (.inr (by kernel_rfl))) hK) ?_
            refine gr_val rfl (by kernel_rfl) (fun a V H K Q hK => op_quiet (quiet_move (.tmp 18) (H.rel 11 18 (by kernel_rfl) (by kernel_rfl) rfl) (.inr (by kernel_rfl))) hK) ?_
            refine gr_val rfl (by kernel_rfl) (fun a V H K Q hK => op_quiet (quiet_move (.tmp 19) (H.rel 12 19 (by kernel_rfl) (by kernel_rfl) rfl) (.inr (by kernel_rfl))) hK) ?_
            exact gr_nil
          case hf6 =>
          intro x_ V hF
          have e0 : x_ 0 = .pointer (some ⟨r, 0, none⟩) := hF.rel 0 _ rfl
          have e1 : x_ 1 = .pointer (some ⟨r, 0, none⟩) := hF.rel 1 _ rfl
          have e2 : x_ 2 = .pointer (some ⟨r, 0, none⟩) := hF.rel 2 _ rfl
          have e3 : x_ 3 = .slice A n c := hF.rel 3 _ rfl
          have e4 : x_ 4 = .pointer (some ⟨r, 0, none⟩) := hF.rel 4 _ rfl
          have e5 : x_ 5 = .pointer (some ⟨r, 0, none⟩) := hF.rel 5 _ rfl
          have e6 : x_ 6 = .pointer (some ⟨r, 1, none⟩) := hF.rel 6 _ rfl
          have e7 : x_ 7 = .int .i64 (p : Nat) := hF.rel 7 _ rfl
          have e8 : x_ 8 = .tuple #[.int .i64 (m : Nat), .int .i64 (qq : Nat), .int .i64 0] := hF.rel 8 _ rfl
          have e9 : x_ 9 = .tuple #[.int .i64 (m : Nat), .int .i64 (qq : Nat), .int .i64 0] := hF.rel 9 _ rfl
          have e10 : x_ 10 = .int .i64 (m : Nat) := hF.rel 10 _ rfl
          have e11 : x_ 11 = .int .i64 (qq : Nat) := hF.rel 11 _ rfl
          have e12 : x_ 12 = .int .i64 0 := hF.rel 12 _ rfl
          have e13 : x_ 13 = .int .i64 (m : Nat) := hF.rel 13 _ rfl
          have e14 : x_ 14 = .int .i64 (qq : Nat) := hF.rel 14 _ rfl
          have e15 : x_ 15 = .int .i64 0 := hF.rel 15 _ rfl
          have hbf := hF.frame
          clear hF
          simp only [Sch.finL, zA, zB, zC, e0, e1, e2, e3, e4, e5, e6, e7, e8, e9, e10, e11, e12, e13, e14, e15]
          clear e0 e1 e2 e3 e4 e5 e6 e7 e8 e9 e10 e11 e12 e13 e14 e15
          refine tail_nil ?_
          have HR1 := hid (H0.out.old hbf)
          have HG1 := hid (grown_below hbf (some r))
          clear hbf
          generalize V = W1 at *
          obtain ⟨c0, c1, c2, f1, f2⟩ := HR1.out.all
          have HR2 := hid (HR1.out.set1 ((qq : Nat) : Int))
          have HG2 := hid (HG1.out.trans (grown_set W1 r 1 (.int .i64 ((qq : Nat) : Int))))
          go_upto_region 5 with fail
          generalize W1.setCell ⟨r, 1, none⟩ (.int .i64 ((qq : Nat) : Int)) = W2 at *
          (try simp only [Act.put, zA, zB, zC])
          clear c0 c1 c2 f1 f2 HR1 HG1
          have hwp : IntKind.i64.wrap ((qq : Int) + 1) = (qq : Int) + 1 := IntWalk.i64_in _ (by omega)
          go_upto_region 7 with ((with_reducible refine (CN.out _ HR2.out HG2.out).mono ?_); rintro e w3 ⟨rfl, hb3⟩)
          have HR3 := hid (HR2.out.old hb3)
          have HG3 := hid (HG2.out.trans (grown_below hb3 (some r)))
          clear HR2 HG2 hb3
          obtain ⟨c0, c1, c2, f1, f2⟩ := HR3.out.all
          have HR4 := hid (HR3.out.set1 ((qq : Int) + 1))
          have HG4 := hid (HG3.out.trans (grown_set w3 r 1 (.int .i64 ((qq : Int) + 1))))
          go_upto_region 8 with fail
          generalize w3.setCell ⟨r, 1, none⟩ (.int .i64 ((qq : Int) + 1)) = W4 at *
          (try simp only [Act.put, zA, zB, zC])
          clear c0 c1 c2 f1 f2 HR3 HG3
          obtain ⟨q1, hq1⟩ := namedN (qq + 1)
          rw [show (qq : Int) + 1 = ((qq + 1 : Nat) : Int) from rfl, ← hq1.out] at HR4
          rw [← hq1.out] at hgt HD2
          refine wp_R [46, 47, 48, 49, 50, 51, 52, 53, 54, 55, 56, 57] [Rk.val (.int .i64 (m : Nat)), Rk.val (.pointer (some ⟨r, 0, none⟩)), Rk.val (.pointer (some ⟨r, 0, none⟩)), Rk.val (.pointer (some ⟨r, 0, none⟩)), Rk.val (.slice A n c), Rk.val (.int .i64 (n : Nat)), Rk.val (.pointer (some ⟨r, 0, none⟩)), Rk.val (.pointer (some ⟨r, 0, none⟩)), Rk.val (.pointer (some ⟨r, 1, none⟩)), Rk.val (.int .i64 (q1 : Nat)), Rk.val (.int .i64 ((n : Int) - (q1 : Int))), Rk.val (.bool false)] rfl (by kernel_rfl) (by kernel_rfl) (by kernel_rfl) (by kernel_rfl) ?hg7 _ (by rfl) ?hf7
          case hg7 =>
            refine gr_val rfl (by kernel_rfl) (fun a V H K Q hK => op_quiet (quiet_move (.tmp 3) (H.old 3 (by kernel_rfl) (by kernel_rfl)) (.inl (by kernel_rfl))) hK) ?_
            refine gr_val rfl (by kernel_rfl) (fun a V H K Q hK => op_quiet (quiet_move (.tmp 0) (H.old 0 (by kernel_rfl) (by kernel_rfl)) (.inl (by kernel_rfl))) hK) ?_
            refine gr_val rfl (by kernel_rfl) (fun a V H K Q hK => op_quiet (quiet_nilCheck (.tmp 47) _ (H.rel 1 47 (by kernel_rfl) (by kernel_rfl) rfl) (by kernel_rfl)) hK) ?_
            refine gr_val rfl (by kernel_rfl) (fun a V H K Q hK => op_quiet (quiet_field _ (.tmp 48) 0 _ _ (H.rel 2 48 (by kernel_rfl) (by kernel_rfl) rfl) (fr0 _) rfl) hK) ?_
            refine gr_val rfl (by kernel_rfl) (fun a V H K Q hK => op_quiet (quiet_cell 22 (.tmp 49) _ (H.rel 3 49 (by kernel_rfl) (by kernel_rfl) rfl) Tryz.underlying22 rfl ((HR4.out.old H.frame).all.1) (by kernel_rfl)) hK) ?_
            refine gr_val rfl (by kernel_rfl) (fun a V H K Q hK => op_quiet (quiet_len (.tmp 50) A n c 22 5 (H.rel 4 50 (by kernel_rfl) (by kernel_rfl) rfl) Tryz.underlying22 (by kernel_rfl)) hK) ?_
            refine gr_val rfl (by kernel_rfl) (fun a V H K Q hK => op_quiet (quiet_move (.tmp 0) (H.old 0 (by kernel_rfl) (by kernel_rfl)) (.inl (by kernel_rfl))) hK) ?_
            refine gr_val rfl (by kernel_rfl) (fun a V H K Q hK => op_quiet (quiet_nilCheck (.tmp 52) _ (H.rel 6 52 (by kernel_rfl) (by kernel_rfl) rfl) (by kernel_rfl)) hK) ?_
            refine gr_val rfl (by kernel_rfl) (fun a V H K Q hK => op_quiet (quiet_field _ (.tmp 53) 1 _ _ (H.rel 7 53 (by kernel_rfl) (by kernel_rfl) rfl) (fr1 _) rfl) hK) ?_
            refine gr_val rfl (by kernel_rfl) (fun a V H K Q hK => op_quiet (quiet_cell 3 (.tmp 54) _ (H.rel 8 54 (by kernel_rfl) (by kernel_rfl) rfl) Tryz.underlying3 rfl ((HR4.out.old H.frame).all.2.1) (by kernel_rfl)) hK) ?_
            refine gr_val rfl (by kernel_rfl) (fun a V H K Q hK => op_quiet (quiet_subI (.tmp 51) (.tmp 55) (n : Int) (q1 : Int) 3 3 (by have := hq1.out; omega) (H.rel 5 51 (by kernel_rfl) (by kernel_rfl) rfl) (H.rel 9 55 (by kernel_rfl) (by kernel_rfl) rfl) Tryz.underlying3 (by kernel_rfl)) hK) ?_
            refine gr_val rfl (by kernel_rfl) (fun a V H K Q hK => op_quiet (quiet_gtrB (.tmp 46) (.tmp 56) (m : Int) ((n : Int) - (q1 : Int)) 3 3 false hgt.out (H.rel 0 46 (by kernel_rfl) (by kernel_rfl) rfl) (H.rel 10 56 (by kernel_rfl) (by kernel_rfl) rfl) Tryz.underlying3 (by kernel_rfl)) hK) ?_
            exact gr_nil
          case hf7 =>
          intro x_ V hF
          have e0 : x_ 0 = .int .i64 (m : Nat) := hF.rel 0 _ rfl
          have e1 : x_ 1 = .pointer (some ⟨r, 0, none⟩) := hF.rel 1 _ rfl
          have e2 : x_ 2 = .pointer (some ⟨r, 0, none⟩) := hF.rel 2 _ rfl
          have e3 : x_ 3 = .pointer (some ⟨r, 0, none⟩) := hF.rel 3 _ rfl
          have e4 : x_ 4 = .slice A n c := hF.rel 4 _ rfl
          have e5 : x_ 5 = .int .i64 (n : Nat) := hF.rel 5 _ rfl
          have e6 : x_ 6 = .pointer (some ⟨r, 0, none⟩) := hF.rel 6 _ rfl
          have e7 : x_ 7 = .pointer (some ⟨r, 0, none⟩) := hF.rel 7 _ rfl
          have e8 : x_ 8 = .pointer (some ⟨r, 1, none⟩) := hF.rel 8 _ rfl
          have e9 : x_ 9 = .int .i64 (q1 : Nat) := hF.rel 9 _ rfl
          have e10 : x_ 10 = .int .i64 ((n : Int) - (q1 : Int)) := hF.rel 10 _ rfl
          have e11 : x_ 11 = .bool false := hF.rel 11 _ rfl
          have hbf := hF.frame
          clear hF
          simp only [Sch.finL, zA, zB, zC, e0, e1, e2, e3, e4, e5, e6, e7, e8, e9, e10, e11]
          clear e0 e1 e2 e3 e4 e5 e6 e7 e8 e9 e10 e11
          refine tail_nil ?_
          have HR5 := hid (HR4.out.old hbf)
          have HG5 := hid (HG4.out.trans (grown_below hbf (some r)))
          clear hbf HR4 HG4
          generalize V = W5 at *
          go_upto_region 10 with fail
          (try simp only [Act.put, zA, zB, zC])
          have hsub := sub_reads (m := m) (reads_grown HR.out HG5.out hB) HD2.out (by have := hq1.out; omega) hc
          rw [← hL.out] at hsub
          have HSUB := hid hsub
          obtain ⟨q2, hq2⟩ := namedN (q1 + m)
          have CL : Hid (∀ V, Below W5.heap.size W5 V → Calls Tryz.prog 108 #[.slice (if c = q1 then A else A.map (·.add q1)) (q2 - q1) (c - q1)] V fun e w' => ∃ v, e = .returned v ∧ (∃ A' c', v = .slice A' m c' ∧ m ≤ c' ∧ RIn w' (fun k => w.heap.size ≤ k) 1 A' m (Lib.byteCells L)) ∧ Below V.heap.size V w') := hid fun V hV => by
            have hz : w.heap.size ≤ V.heap.size := Nat.le_trans HG5.out.size hV.size
            rw [show q2 - q1 = m by rw [hq2.out]; omega]
            refine (bytesClone_any _ m (c - q1) L _ V (HSUB.out.old (by omega) hV) (by omega)).mono ?_
            rintro e w' ⟨A', c', h1, h2, h3, h4⟩
            rw [HLL.out] at h1 h2 h3
            exact ⟨_, h1, ⟨A', c', rfl, h2, h3.more (fun _ hk => Nat.le_trans hz hk)⟩, h4⟩
          clear hsub
          refine wp_R [64, 65, 66, 67, 68, 69, 70, 71, 72, 73, 74, 75, 76, 77, 78, 79] [Rk.val (.pointer (some ⟨r, 0, none⟩)), Rk.val (.pointer (some ⟨r, 0, none⟩)), Rk.val (.pointer (some ⟨r, 0, none⟩)), Rk.val (.slice A n c), Rk.val (.pointer (some ⟨r, 0, none⟩)), Rk.val (.pointer (some ⟨r, 0, none⟩)), Rk.val (.pointer (some ⟨r, 1, none⟩)), Rk.val (.int .i64 (q1 : Nat)), Rk.val (.pointer (some ⟨r, 0, none⟩)), Rk.val (.pointer (some ⟨r, 0, none⟩)), Rk.val (.pointer (some ⟨r, 1, none⟩)), Rk.val (.int .i64 (q1 : Nat)), Rk.val (.int .i64 (m : Nat)), Rk.val (.int .i64 (q2 : Nat)), Rk.val (.slice (if c = q1 then A else A.map (·.add q1)) (q2 - q1) (c - q1)), Rk.is (fun v V => ∃ A' c', v = .slice A' m c' ∧ m ≤ c' ∧ RIn V (fun k => w.heap.size ≤ k) 1 A' m (Lib.byteCells L)) (fun _ _ _ ⟨A', c', e, h1, h2⟩ hb => ⟨A', c', e, h1, h2.old (by omega) hb⟩)] rfl (by kernel_rfl) (by kernel_rfl) (by kernel_rfl) (by kernel_rfl) ?hg8 _ (by rfl) ?hf8
          case hg8 =>
            refine gr_val rfl (by kernel_rfl) (fun a V H K Q hK => op_quiet (quiet_move (.tmp 0) (H.old 0 (by kernel_rfl) (by kernel_rfl)) (.inl (by kernel_rfl))) hK) ?_
            refine gr_val rfl (by kernel_rfl) (fun a V H K Q hK => op_quiet (quiet_nilCheck (.tmp 64) _ (H.rel 0 64 (by kernel_rfl) (by kernel_rfl) rfl) (by kernel_rfl)) hK) ?_
            refine gr_val rfl (by kernel_rfl) (fun a V H K Q hK => op_quiet (quiet_field _ (.tmp 65) 0 _ _ (H.rel 1 65 (by kernel_rfl) (by kernel_rfl) rfl) (fr0 _) rfl) hK) ?_
            refine gr_val rfl (by kernel_rfl) (fun a V H K Q hK => op_quiet (quiet_cell 22 (.tmp 66) _ (H.rel 2 66 (by kernel_rfl) (by kernel_rfl) rfl) Tryz.underlying22 rfl ((HR5.out.old H.frame).all.1) (by kernel_rfl)) hK) ?_
            refine gr_val rfl (by kernel_rfl) (fun a V H K Q hK => op_quiet (quiet_move (.tmp 0) (H.old 0 (by kernel_rfl) (by kernel_rfl)) (.inl (by kernel_rfl))) hK) ?_
            refine gr_val rfl (by kernel_rfl) (fun a V H K Q hK => op_quiet (quiet_nilCheck (.tmp 68) _ (H.rel 4 68 (by kernel_rfl) (by kernel_rfl) rfl) (by kernel_rfl)) hK) ?_
            refine gr_val rfl (by kernel_rfl) (fun a V H K Q hK => op_quiet (quiet_field _ (.tmp 69) 1 _ _ (H.rel 5 69 (by kernel_rfl) (by kernel_rfl) rfl) (fr1 _) rfl) hK) ?_
            refine gr_val rfl (by kernel_rfl) (fun a V H K Q hK => op_quiet (quiet_cell 3 (.tmp 70) _ (H.rel 6 70 (by kernel_rfl) (by kernel_rfl) rfl) Tryz.underlying3 rfl ((HR5.out.old H.frame).all.2.1) (by kernel_rfl)) hK) ?_
            refine gr_val rfl (by kernel_rfl) (fun a V H K Q hK => op_quiet (quiet_move (.tmp 0) (H.old 0 (by kernel_rfl) (by kernel_rfl)) (.inl (by kernel_rfl))) hK) ?_
            refine gr_val rfl (by kernel_rfl) (fun a V H K Q hK => op_quiet (quiet_nilCheck (.tmp 72) _ (H.rel 8 72 (by kernel_rfl) (by kernel_rfl) rfl) (by kernel_rfl)) hK) ?_
            refine gr_val rfl (by kernel_rfl) (fun a V H K Q hK => op_quiet (quiet_field _ (.tmp 73) 1 _ _ (H.rel 9 73 (by kernel_rfl) (by kernel_rfl) rfl) (fr1 _) rfl) hK) ?_
            refine gr_val rfl (by kernel_rfl) (fun a V H K Q hK => op_quiet (quiet_cell 3 (.tmp 74) _ (H.rel 10 74 (by kernel_rfl) (by kernel_rfl) rfl) Tryz.underlying3 rfl ((HR5.out.old H.frame).all.2.1) (by kernel_rfl)) hK) ?_
            refine gr_val rfl (by kernel_rfl) (fun a V H K Q hK => op_quiet (quiet_move (.tmp 3) (H.old 3 (by kernel_rfl) (by kernel_rfl)) (.inl (by kernel_rfl))) hK) ?_
            refine gr_val rfl (by kernel_rfl) (fun a V H K Q hK => op_quiet (quiet_addN (.tmp 75) (.tmp 76) q1 m q2 3 3 hq2.out (by have := hq2.out; have := hq1.out; omega) (H.rel 11 75 (by kernel_rfl) (by kernel_rfl) rfl) (H.rel 12 76 (by kernel_rfl) (by kernel_rfl) rfl) Tryz.underlying3 (by kernel_rfl)) hK) ?_
            refine gr_val rfl (by kernel_rfl) (fun a V H K Q hK => op_quiet (quiet_sliceLH (.tmp 67) (.tmp 71) (.tmp 77) A n c q1 q2 (H.rel 3 67 (by kernel_rfl) (by kernel_rfl) rfl) (H.rel 7 71 (by kernel_rfl) (by kernel_rfl) rfl) (H.rel 13 77 (by kernel_rfl) (by kernel_rfl) rfl) (by have := hq2.out; omega) (by have := hq2.out; have := hq1.out; omega) (by kernel_rfl)) hK) ?_
            refine gr_is rfl (by kernel_rfl) (fun a V H K Q hK => op_callR #[.tmp 78] #[_] (by kernel_rfl) (by kernel_rfl) (by kernel_rfl) (map1 (H.rel 14 78 (by kernel_rfl) (by kernel_rfl) rfl)) (CL.out V H.frame) (by kernel_rfl) hK) ?_
            exact gr_nil
          case hf8 =>
          intro x_ V hF
          have e0 : x_ 0 = .pointer (some ⟨r, 0, none⟩) := hF.rel 0 _ rfl
          have e1 : x_ 1 = .pointer (some ⟨r, 0, none⟩) := hF.rel 1 _ rfl
          have e2 : x_ 2 = .pointer (some ⟨r, 0, none⟩) := hF.rel 2 _ rfl
          have e3 : x_ 3 = .slice A n c := hF.rel 3 _ rfl
          have e4 : x_ 4 = .pointer (some ⟨r, 0, none⟩) := hF.rel 4 _ rfl
          have e5 : x_ 5 = .pointer (some ⟨r, 0, none⟩) := hF.rel 5 _ rfl
          have e6 : x_ 6 = .pointer (some ⟨r, 1, none⟩) := hF.rel 6 _ rfl
          have e7 : x_ 7 = .int .i64 (q1 : Nat) := hF.rel 7 _ rfl
          have e8 : x_ 8 = .pointer (some ⟨r, 0, none⟩) := hF.rel 8 _ rfl
          have e9 : x_ 9 = .pointer (some ⟨r, 0, none⟩) := hF.rel 9 _ rfl
          have e10 : x_ 10 = .pointer (some ⟨r, 1, none⟩) := hF.rel 10 _ rfl
          have e11 : x_ 11 = .int .i64 (q1 : Nat) := hF.rel 11 _ rfl
          have e12 : x_ 12 = .int .i64 (m : Nat) := hF.rel 12 _ rfl
          have e13 : x_ 13 = .int .i64 (q2 : Nat) := hF.rel 13 _ rfl
          have e14 : x_ 14 = .slice (if c = q1 then A else A.map (·.add q1)) (q2 - q1) (c - q1) := hF.rel 14 _ rfl
          obtain ⟨A9, c9, e15, h91, h92⟩ : ∃ A' c', x_ 15 = .slice A' m c' ∧ m ≤ c' ∧ RIn V (fun k => w.heap.size ≤ k) 1 A' m (Lib.byteCells L) := hF.rel 15 _ rfl
          have hbf := hF.frame
          clear hF
          simp only [Sch.finL, zA, zB, zC, e0, e1, e2, e3, e4, e5, e6, e7, e8, e9, e10, e11, e12, e13, e14, e15]
          clear e0 e1 e2 e3 e4 e5 e6 e7 e8 e9 e10 e11 e12 e13 e14 e15
          have HR6 := hid (HR5.out.old hbf)
          have HG6 := hid (HG5.out.trans (grown_below hbf (some r)))
          have H92 := hid h92
          have hrA : Hid (∀ W, RIn V (fun k => w.heap.size ≤ k) 1 A9 m (Lib.byteCells L) → RIn (V.setCell ⟨r, 1, none⟩ W) (fun k => w.heap.size ≤ k) 1 A9 m (Lib.byteCells L)) := hid fun W h => h.far (p := ⟨r, 1, none⟩) (fun k hk => by show k ≠ r; have := H0.out.lt; omega) W
          clear hbf h92 HR5 HG5
          generalize (if c = q1 then A else A.map (·.add q1)) = A5 at *
          obtain ⟨c0, c1, c2, f1, f2⟩ := HR6.out.all
          have hw6 : IntKind.i64.wrap ((q1 : Int) + (m : Int)) = (q2 : Int) := by rw [IntWalk.i64_in _ (by have := hq1.out; have := HM.out; omega), hq2.out]; rfl
          go_wp2_with fail
          go_ret
          refine ⟨A9, c9, ?_, by rw [HLL.out]; exact h91, by rw [HLL.out]; exact hrA.out _ H92.out, ?_, HG6.out.trans (grown_set _ _ _ _)⟩
          · rw [HLL.out]; rfl
          · rw [HDR.out, show qq + 1 + m = q2 by rw [hq2.out, hq1.out]]
            exact HR6.out.set1 _
end Go.Proofs.YtcojkmcnigppbaaGreatDoor.Nt
end
section
namespace Go.Proofs.YtcojkmcnigppbaaGreatDoor
open Go Go.Proofs Go.RowKit
theorem sizeBuilder : (Tryz.prog.info? 74).map (·.size) = some 2 := by kernel_rfl
theorem liesBuilder : liesAt Tryz.prog Tryz.prog.depth 74 (2 / Tryz.prog.cellsOf 74) 0 74 1 = true := by kernel_rfl
set_option maxHeartbeats 1000000 in
set_option maxRecDepth 100000 in
theorem copyCheck_used (b : Nat) (w : World) (h0 : w.cell? ⟨b, 0, none⟩ = some (.pointer (some ⟨b, 0, none⟩))) :
    Calls Tryz.prog 78 #[.pointer (some ⟨b, 0, none⟩)] w fun e w' => e = .returned (.tuple #[]) ∧ w' = w := by
  obtain ⟨j, hj, _⟩ := Option.map_eq_some_iff.1 sizeBuilder
  go_enter Tryz.func78, Tryz.ntmps78
  go_wp2
  rw [Lib.run_neq_ptr_same w _ Tryz.underlying72 hj]
  go_wp2
  go_end0
  exact ⟨rfl, rfl⟩
set_option maxHeartbeats 1000000 in
set_option maxRecDepth 100000 in
theorem copyCheck_fresh (b : Nat) (w : World) (h0 : w.cell? ⟨b, 0, none⟩ = some (.pointer none)) (hsh : w.shape? b = some (74, 2)) (hfz : w.frozen? ⟨b, 0, none⟩ = false) :
    Calls Tryz.prog 78 #[.pointer (some ⟨b, 0, none⟩)] w fun e w' => e = .returned (.tuple #[]) ∧ w' = w.setCell ⟨b, 0, none⟩ (.pointer (some ⟨b, 0, none⟩)) := by
  obtain ⟨j, hj, hjs⟩ := Option.map_eq_some_iff.1 sizeBuilder
  go_enter Tryz.func78, Tryz.ntmps78
  go_wp2
  rw [Lib.run_to_unsafe w ⟨b, 0, none⟩ Tryz.underlying72 Tryz.underlying129 hj (by rw [hjs]; decide) hsh (Nat.zero_lt_succ 1)]
  simp only [Result.andThen]
  rw [Oper.upon_value]
  go_wp2
  rw [run_callFunc_extern Tryz.func107 (by kernel_rfl) (by kernel_rfl) (by kernel_rfl) (e := Extern.AbiNoEscape.same) (by kernel_rfl)]
  rw [Lib.run_noEscape]
  simp only [Result.andThen]
  rw [Oper.upon_value]
  go_wp2
  rw [Lib.run_from_unsafe w ⟨b, 0, none⟩ Tryz.underlying129 Tryz.underlying72 hj hsh liesBuilder]
  simp only [Result.andThen]
  rw [Oper.upon_value]
  go_wp2
  go_end0
  exact ⟨rfl, rfl⟩
theorem copyCheck_any (B b : Nat) (bs : List Value) (w : World) (h : Lib.IsBuilderF 74 5 B b bs w) :
    Calls Tryz.prog 78 #[.pointer (some ⟨b, 0, none⟩)] w fun e w' => e = .returned (.tuple #[]) ∧ (Lib.BuilderAtF 74 5 B b (.pointer (some ⟨b, 0, none⟩)) bs w' ∧ Below B w w') := by
  rcases h with h | h
  · refine (copyCheck_fresh b w h.cell0 h.shape h.frozen0).mono ?_
    rintro e w' ⟨rfl, rfl⟩
    exact ⟨rfl, h.used _, (Below.refl B w).setCell (p := ⟨b, 0, none⟩) h.1 _⟩
  · refine (copyCheck_used b w h.cell0).mono ?_
    rintro e w' ⟨rfl, rfl⟩
    exact ⟨rfl, h, Below.refl B _⟩
set_option maxHeartbeats 2000000 in
set_option maxRecDepth 100000 in
theorem writeByte_any (B b : Nat) (bs : List Value) (c : Int) (w : World) (h : Lib.IsBuilderF 74 5 B b bs w) (hlen : bs.length + 1 ≤ 140737488355328) (hBw : B ≤ w.heap.size) :
    Calls Tryz.prog 47 #[.pointer (some ⟨b, 0, none⟩), .int .u8 c] w fun e w' => e = .returned .nilIface ∧ (Lib.BuilderAtF 74 5 B b (.pointer (some ⟨b, 0, none⟩)) (bs ++ [.int .u8 c]) w' ∧ Below B w w') := by
  obtain ⟨i0, hi, hz0, hz1, hz2⟩ := info_parts infoByte
  go_enter Tryz.func47, Tryz.ntmps47
  go_wp2_with (go_at_call 78; refine (copyCheck_any B b bs _ h).mono ?_)
  rintro e w1 ⟨rfl, h1, hb1⟩
  obtain ⟨hB, v, hbk, hown, hne⟩ := h1
  have c0 : w1.cell? ⟨b, 0, none⟩ = some (.pointer (some ⟨b, 0, none⟩)) := by rw [Lib.cell_of_heap hbk]; rfl
  have c1 : w1.cell? ⟨b, 1, none⟩ = some v := by rw [Lib.cell_of_heap hbk]; rfl
  go_wp2_with (at_builtin; refine wpList_append_ownF _ rfl _ _ 22 rfl B 5 i0 (.int .u8 0) 1 1 Tryz.underlying22 hi hz0 hz1 hz2 rfl (by decide) _ _ _ rfl (hown.alloc _) ⟨w1.heap.size, 0, none⟩ 1 1 [.int .u8 c] rfl rfl ?c1 ?c2 ?c3 ?c4 ?c5 ?_)
  case c1 =>
    intro j u hj
    match j, hj with
    | 0, hj => simp at hj; subst hj; simp [Addr.add]
  case c2 => intro u hu; simp at hu; subst hu; rfl
  case c3 => unfold maxLen; omega
  case c4 => omega
  case c5 => have := hb1.size; simp; omega
  intro v' w2 hown' hgrow _
  have hlt : b < w1.heap.size := by
    rcases Nat.lt_or_ge b w1.heap.size with h' | h'
    · exact h'
    · simp [Array.getElem?_eq_none h'] at hbk
  have hb2 : w2.heap[b]? = some (.cells #[.pointer (some ⟨b, 0, none⟩), v] 74 (0, 0)) := by
    rw [hgrow.block b (by simp; omega) (fun e => hne e.symm), Lib.alloc_old w1 _ b hlt]
    exact hbk
  have d0 : w2.cell? ⟨b, 0, none⟩ = some (.pointer (some ⟨b, 0, none⟩)) := by rw [Lib.cell_of_heap hb2]; rfl
  have d1 : w2.cell? ⟨b, 1, none⟩ = some v := by rw [Lib.cell_of_heap hb2]; rfl
  have f1 : w2.frozen? ⟨b, 1, none⟩ = false := Lib.frozen_of_heap hb2 1
  obtain ⟨g, cap, rfl⟩ : ∃ g cap, v' = .slice (some ⟨g, 0, none⟩) (bs.length + 1) cap := by
    rcases hown'.2 with ⟨_, h0⟩ | ⟨g, cap, cur, fz, hv, _⟩
    · omega
    · exact ⟨g, cap, hv⟩
  go_wp2
  go_ret
  refine ⟨rfl, ?_, ?_⟩
  · exact Lib.BuilderAtF.put (T := 74) (e := 5) hB hb2 (bs' := bs ++ [.int .u8 c]) (by simpa using hown') (by decide)
  · exact ((hb1.alloc (by have := hb1.size; omega) _).grown hgrow (by have := hb1.size; simp; omega) (fun k hk => (hown.lt k hk).1)).setCell (p := ⟨b, 1, none⟩) hB _
set_option maxHeartbeats 2000000 in
set_option maxRecDepth 100000 in
theorem writeString_any (B b : Nat) (bs : List Value) (s : ByteArray) (w : World) (h : Lib.IsBuilderF 74 5 B b bs w) (hlen : bs.length + s.size ≤ 140737488355328) (hBw : B ≤ w.heap.size) :
    Calls Tryz.prog 48 #[.pointer (some ⟨b, 0, none⟩), .string s] w fun e w' => e = .returned (.tuple #[.int .i64 s.size, .nilIface]) ∧ (Lib.BuilderAtF 74 5 B b (.pointer (some ⟨b, 0, none⟩)) (bs ++ Lib.strCells s) w' ∧ Below B w w') := by
  obtain ⟨i0, hi, hz0, hz1, hz2⟩ := info_parts infoByte
  go_enter Tryz.func48, Tryz.ntmps48
  go_wp2_with (go_at_call 78; refine (copyCheck_any B b bs _ h).mono ?_)
  rintro e w1 ⟨rfl, h1, hb1⟩
  obtain ⟨hB, v, hbk, hown, hne⟩ := h1
  have c0 : w1.cell? ⟨b, 0, none⟩ = some (.pointer (some ⟨b, 0, none⟩)) := by rw [Lib.cell_of_heap hbk]; rfl
  have c1 : w1.cell? ⟨b, 1, none⟩ = some v := by rw [Lib.cell_of_heap hbk]; rfl
  go_wp2_with (at_builtin; refine Lib.wpList_append_own_stringF _ rfl _ _ 22 9 rfl B 5 i0 Tryz.underlying22 Tryz.underlying9 hi hz0 hz1 hz2 _ _ _ rfl hown s rfl ?c3 ?c4 ?c5 ?_)
  case c3 => unfold maxLen; omega
  case c4 => omega
  case c5 => have := hb1.size; omega
  intro v' w2 hown' hgrow _
  have hlt : b < w1.heap.size := by
    rcases Nat.lt_or_ge b w1.heap.size with h' | h'
    · exact h'
    · simp [Array.getElem?_eq_none h'] at hbk
  have hb2 : w2.heap[b]? = some (.cells #[.pointer (some ⟨b, 0, none⟩), v] 74 (0, 0)) := by
    rw [hgrow.block b hlt (fun e => hne e.symm)]
    exact hbk
  have d0 : w2.cell? ⟨b, 0, none⟩ = some (.pointer (some ⟨b, 0, none⟩)) := by rw [Lib.cell_of_heap hb2]; rfl
  have d1 : w2.cell? ⟨b, 1, none⟩ = some v := by rw [Lib.cell_of_heap hb2]; rfl
  have f1 : w2.frozen? ⟨b, 1, none⟩ = false := Lib.frozen_of_heap hb2 1
  obtain ⟨ao, n', cap, rfl⟩ : ∃ ao n' cap, v' = .slice ao n' cap := by
    rcases hown'.2 with ⟨hv, _⟩ | ⟨g, cap, cur, fz, hv, _⟩
    · exact ⟨_, _, _, hv⟩
    · exact ⟨_, _, _, hv⟩
  go_wp2
  go_ret2
  refine ⟨rfl, ?_, ?_⟩
  · exact Lib.BuilderAtF.put (T := 74) (e := 5) hB hb2 (bs' := bs ++ Lib.strCells s) (by simpa [Lib.strCells_length] using hown') (by decide)
  · exact (hb1.grown hgrow (by have := hb1.size; omega) (fun k hk => (hown.lt k hk).1)).setCell (p := ⟨b, 1, none⟩) hB _
end Go.Proofs.YtcojkmcnigppbaaGreatDoor
end
section
namespace Go.Proofs.YtcojkmcnigppbaaGreatDoor
open Go Go.Proofs Go.RowKit Oct
theorem isF_of {B b : Nat} {bs bs' : List Value} {w : World} (he : bs = bs') (h : Lib.BuilderAtF 74 5 B b (.pointer (some ⟨b, 0, none⟩)) bs w) : Lib.IsBuilderF 74 5 B b bs' w := by
  subst he; exact Or.inr h
theorem hexSign : ∀ (n : Nat) (h : n < 16) (h' : n < (⟨#[48, 49, 50, 51, 52, 53, 54, 55, 56, 57, 97, 98, 99, 100, 101, 102]⟩ : ByteArray).size), (⟨#[48, 49, 50, 51, 52, 53, 54, 55, 56, 57, 97, 98, 99, 100, 101, 102]⟩ : ByteArray)[n]'h' = hexDig n := by
  decide
set_option maxHeartbeats 1000000 in
set_option maxRecDepth 100000 in
theorem hex_any (A : Option Addr) (n c : Nat) (l : List UInt8) (w : World) (hr : Reads w w.heap.size 1 A n (Lib.byteCells l)) (hn : n ≤ 1099511627776) :
    Calls Tryz.prog 76 #[.slice A n c] w fun e w' => e = .returned (.string ⟨(hexOf l).toArray⟩) ∧ Below w.heap.size w w' := by
  have hl : l.length = n := by have := hr.1; simpa [Lib.byteCells_length] using this
  have H := hid hl; clear hl
  go_enter Tryz.func76, Tryz.ntmps76
  go_wp2
  go_loopw [8] (fun i wr => ∃ k : Nat, k ≤ n ∧ i = .int .i64 k ∧ Lib.IsBuilderF 74 5 w.heap.size w.heap.size (Lib.byteCells (hexOf (l.take k))) wr ∧ Below w.heap.size w wr) (fun i _ => n - (intOf i).toNat)
  case atStart => exact ⟨0, Nat.zero_le _, rfl, Lib.IsBuilderF.of (Lib.fresh_isBuilder 74 5 w), (Below.refl _ _).alloc (Nat.le_refl _) _⟩
  case round =>
    obtain ⟨k, hk, rfl, hb, hbel⟩ := hrel
    by_cases hlt : k < n
    · obtain ⟨ad, u, rfl, hab, hu, hc⟩ := (hr.below hbel).at_ hlt
      have hkl : k < l.length := by rw [H.out]; exact hlt
      obtain ⟨x, hx⟩ : ∃ x : UInt8, x = l[k] := ⟨_, rfl⟩
      have hu' : u = .int .u8 x.toNat := by
        simp [Lib.byteCells, List.getElem?_map, List.getElem?_eq_getElem hkl] at hu
        rw [hx]; exact hu.symm
      subst hu'
      have HT := hid (hexOf_take l k hkl)
      rw [← hx] at HT
      clear hx hu hkl
      have hx1 := x.toNat_lt
      have ha : bits .and .u8 (x.toNat : Int) 15 = (x.toNat : Int) % 16 := by
        have := u8_and_nat x.toNat 15 (by omega) (by omega)
        rw [nat_mask4] at this
        simpa using this
      have hsz := hbel.size
      have hlen := hexOf_length (l.take k)
      have hlk : (l.take k).length ≤ k := List.length_take_le _ _
      go_wp2_with fail
      rw [hexSign _ (by omega)]
      refine (writeByte_any w.heap.size w.heap.size _ _ wr hb (by rw [Lib.byteCells_length]; omega) hsz).mono ?_
      rintro e w1 ⟨rfl, hb1, hbel1⟩
      have hsz1 := hbel1.size
      go_wp2_with fail
      rw [hexSign _ (by omega)]
      refine (writeByte_any w.heap.size w.heap.size _ _ w1 (Or.inr hb1) (by simp [Lib.byteCells_length]; omega) (by omega)).mono ?_
      rintro e w2 ⟨rfl, hb2, hbel2⟩
      go_wp2
      go_roundw
      case rel => exact ⟨k + 1, by omega, by go_num, by rw [HT.out, Lib.byteCells_append]; exact isF_of (by simp [Lib.byteCells]) hb2, (hbel.trans hbel1).trans hbel2⟩
      case measure => simp [intOf]; omega
    · obtain rfl : k = n := by omega
      have hT : l.take k = l := List.take_of_length_le (by rw [H.out]; exact Nat.le_refl _)
      rw [hT] at hb
      clear hT
      go_wp2_with fail
      refine (Tryz.Builder_String_any_k w.heap.size w.heap.size _ wr hb hbel.size).mono ?_
      rintro e w1 ⟨rfl, hb1, hbel1, -⟩
      go_wp2
      go_ret
      exact ⟨rfl, hbel.trans hbel1⟩
end Go.Proofs.YtcojkmcnigppbaaGreatDoor
end
section
namespace Go.Proofs.YtcojkmcnigppbaaGreatDoor
open Go Go.Proofs Go.RowKit Oct
theorem indexHex : ∀ n : Nat, n < 256 → Lib.indexByte [48, 49, 50, 51, 52, 53, 54, 55, 56, 57, 97, 98, 99, 100, 101, 102] (if 65 ≤ n ∧ n ≤ 70 then (n + 32).toUInt8 else n.toUInt8) = hexV n.toUInt8 := by
  decide +kernel
theorem ret_int {k : IntKind} {a b : Int} (h : a = b) : Ending.returned (.int k a) = .returned (.int k b) := by rw [h]
theorem indexHex_up (x : UInt8) (h : 65 ≤ x.toNat ∧ x.toNat ≤ 70) : Lib.indexByte [48, 49, 50, 51, 52, 53, 54, 55, 56, 57, 97, 98, 99, 100, 101, 102] ((x.toNat : Int) + 32).toNat.toUInt8 = hexV x := by
  have := indexHex x.toNat (by have := x.toNat_lt; omega)
  rw [if_pos h] at this
  rw [show ((x.toNat : Int) + 32).toNat = x.toNat + 32 from by omega, this]
  simp
theorem indexHex_low (x : UInt8) (h : ¬ (65 ≤ x.toNat ∧ x.toNat ≤ 70)) : Lib.indexByte [48, 49, 50, 51, 52, 53, 54, 55, 56, 57, 97, 98, 99, 100, 101, 102] x = hexV x := by
  have := indexHex x.toNat (by have := x.toNat_lt; omega)
  rw [if_neg h] at this
  simpa using this
set_option maxHeartbeats 1000000 in
set_option maxRecDepth 100000 in
theorem hexDigit_any (x : UInt8) (w : World) :
    Calls Tryz.prog 154 #[.int .u8 x.toNat] w fun e w' => e = .returned (.int .i64 (hexV x)) ∧ w' = w := by
  have hx := x.toNat_lt
  by_cases h1 : 65 ≤ x.toNat ∧ x.toNat ≤ 70
  · have hI := hid (indexHex_up x h1)
    obtain ⟨h2, h3⟩ := h1
    go_enter Tryz.func154, Tryz.ntmps154
    go_wp2_with fail
    refine (Tryz.strings_IndexByte _ _ w).mono ?_
    rintro e w1 ⟨rfl, rfl⟩
    go_wp2
    go_ret
    exact ⟨ret_int hI.out, rfl⟩
  · have hI := hid (indexHex_low x h1)
    go_enter Tryz.func154, Tryz.ntmps154
    go_wp2_with fail
    all_goals
      refine (Tryz.strings_IndexByte _ _ w).mono ?_
      rintro e w1 ⟨rfl, rfl⟩
      go_wp2
      go_ret
      exact ⟨ret_int hI.out, rfl⟩
theorem ofInt_i64 (a : Nat) (ha : a < 9223372036854775808) : (BitVec.ofInt 64 (a : Int)).toNat = a := by
  rw [BitVec.ofInt_natCast, BitVec.toNat_ofNat]; exact Nat.mod_eq_of_lt (by omega)
theorem i64_or_nat (a b : Nat) (ha : a < 9223372036854775808) (hb : b < 9223372036854775808) : bits .or .i64 (a : Int) (b : Int) = ((a ||| b : Nat) : Int) := by
  have hx : a ||| b < 2 ^ 63 := Nat.or_lt_two_pow (by omega) (by omega)
  show IntKind.i64.wrap ((BitVec.ofInt 64 (a : Int) ||| BitVec.ofInt 64 (b : Int)).toNat : Int) = _
  rw [BitVec.toNat_or, ofInt_i64 a ha, ofInt_i64 b hb, IntKind.wrap_i64]
  omega
theorem i64_join (a b : Int) (ha : -1 ≤ a ∧ a ≤ 15) (hb : -1 ≤ b ∧ b ≤ 15) (h0 : 0 ≤ a) (h1 : 0 ≤ b) : bits .or .i64 (a * 16) b = 16 * a + b := by
  obtain ⟨m, rfl⟩ := Int.eq_ofNat_of_zero_le h0
  obtain ⟨n, rfl⟩ := Int.eq_ofNat_of_zero_le h1
  have := i64_or_nat (m * 16) n (by omega) (by omega)
  rw [nat_join 4 (m * 16) n (by omega) (by omega)] at this
  rw [show ((m : Int) * 16) = ((m * 16 : Nat) : Int) from by omega, this]
  omega
theorem byteCells_snoc_int (l : List UInt8) {a : Int} (h0 : 0 ≤ a) (h : a < 256) : Lib.byteCells (l ++ [a.toNat.toUInt8]) = Lib.byteCells l ++ [.int .u8 a] := by
  rw [Lib.byteCells_append]
  simp only [Lib.byteCells, List.map_cons, List.map_nil]
  have e : ((a.toNat.toUInt8.toNat : Nat) : Int) = a := by simp; omega
  rw [e]
def UnhexEnd (r : Option (List UInt8)) (w : World) (e : Ending) (w' : World) : Prop :=
  (r = none ∧ e = .returned (.tuple #[.slice none 0 0, .int .i64 3]) ∧ Below w.heap.size w w') ∨
    ∃ out v, r = some out ∧ e = .returned (.tuple #[v, .int .i64 0]) ∧ w'.ownsRow w.heap.size 5 1 v out.length (Lib.byteCells out) ∧ Below w.heap.size w w'
set_option maxHeartbeats 1000000 in
set_option maxRecDepth 100000 in
theorem unhex_any (s : ByteArray) (w : World) (hs : s.size ≤ 1099511627776) :
    Calls Tryz.prog 141 #[.string s] w fun e w' => UnhexEnd (unhex s.data.toList) w e w' := by
  obtain ⟨i0, hi, hz0, hz1, hz2⟩ := info_parts infoByte
  have hsl : s.data.toList.length = s.size := by simp
  by_cases ho : s.size % 2 = 0
  · go_enter Tryz.func141, Tryz.ntmps141
    go_wp2_with (at_make; refine wpList_make_own _ rfl _ _ 22 rfl w.heap.size 5 i0 (.int .u8 0) 1 Tryz.underlying22 hi hz0 hz1 _ _ _ (s.size / 2) rfl rfl (by omega) ?b2 ?b3 (Nat.le_refl _) ?_)
    case b2 => rw [hz2]; omega
    case b3 => unfold maxLen; omega
    intro w0 hown0 hgrow0
    have hbel0 : Below w.heap.size w w0 := (Below.refl _ _).grown hgrow0 (Nat.le_refl _) (fun k hk => by cases hk)
    clear hgrow0
    go_wp2
    go_loopw [4, 5] (fun v i wr => ∃ (j : Nat) (out : List UInt8), j ≤ s.size ∧ j % 2 = 0 ∧ i = .int .i64 j ∧ out.length ≤ j ∧ wr.ownsRow w.heap.size 5 1 v out.length (Lib.byteCells out) ∧ unhex s.data.toList = (unhex (s.data.toList.drop j)).map (out ++ ·) ∧ Below w.heap.size w wr) (fun _ i _ => s.size - (intOf i).toNat)
    case atStart => exact ⟨0, [], Nat.zero_le _, rfl, rfl, Nat.zero_le _, hown0, by simp, hbel0⟩
    case round =>
      obtain ⟨j, out, hj, hj2, rfl, hol, hown, hun, hbel⟩ := hrel
      by_cases hlt : j < s.size
      · have h1 : j + 1 < s.size := by omega
        clear hown0 hbel0
        have hun' := hid hun
        clear hun
        have q1 : IntKind.i64.wrap ((j : Int) + 1) = (j : Int) + 1 := IntWalk.i64_in _ (by omega)
        have q2 : (0 : Int) ≤ (j : Int) + 1 := by omega
        have q3 : ((j : Int) + 1).toNat = j + 1 := by omega
        have q4 : (j : Int) + 1 < (s.size : Int) := by omega
        have q5 : (0 : Int) ≤ (j : Int) + 1 ∧ (j : Int) + 1 < (s.size : Int) := ⟨q2, q4⟩
        go_wp2_with fail
        go_quiet ((go_at_call 154; exact Calls.quiet_of_same (hexDigit_any _ _)))
        have hownq : (wr.drewN nq).ownsRow w.heap.size 5 1 u4 out.length (Lib.byteCells out) := hown
        have hbelq : Below w.heap.size w (wr.drewN nq) := hbel.trans ⟨rfl, rfl, rfl, Nat.le_refl _, fun _ _ => rfl⟩
        clear hown hbel
        generalize wr.drewN nq = wq at *
        generalize hx : s[j] = x at *
        generalize hy : s[j + 1] = y at *
        have hx' : s.data.toList[j]'(by omega) = x := by rw [← hx]; rfl
        have hy' : s.data.toList[j + 1]'(by omega) = y := by rw [← hy]; rfl
        have hj1 : j + 1 < s.data.toList.length := by omega
        have HS := fun p => hid (unhex_stop s.data.toList j hj1 p out hun'.out)
        have HT := fun p p' => hid (unhex_step s.data.toList j hj1 p p' out hun'.out)
        rw [hx', hy'] at HS HT
        clear hx hy hx' hy' hj1 hun' q1 q2 q3 q4 q5 hsl
        have hb0 := hexV_bound x
        have hb1 := hexV_bound y
        generalize hexV x = a at *
        generalize hexV y = b at *
        by_cases hv : a < 0 ∨ b < 0
        · have HS' := HS hv
          clear HS HT
          rcases hv with hv | hv
          · go_wp2
            go_ret2
            exact .inl ⟨HS'.out, rfl, hbelq⟩
          · by_cases hv' : a < 0
            · go_wp2
              go_ret2
              exact .inl ⟨HS'.out, rfl, hbelq⟩
            · go_wp2
              go_ret2
              exact .inl ⟨HS'.out, rfl, hbelq⟩
        · have h0 : 0 ≤ a := by omega
          have h2 : 0 ≤ b := by omega
          clear hv HS
          have HT' := HT h0 h2
          clear HT
          have hor := i64_join a b hb0 hb1 h0 h2
          go_wp2_with (at_builtin; refine wpList_append_own _ rfl _ _ 22 rfl w.heap.size 5 i0 (.int .u8 0) 1 1 Tryz.underlying22 hi hz0 hz1 hz2 rfl (by decide) _ _ _ rfl (hownq.alloc _) ⟨wq.heap.size, 0, none⟩ 1 1 [.int .u8 (16 * a + b)] rfl rfl ?c1 ?c2 ?c3 ?c4 ?c5 ?_)
          case c1 =>
            intro j u hj
            match j, hj with
            | 0, hj => simp at hj; subst hj; simp [Addr.add]
          case c2 => intro u hu; simp at hu; subst hu; rfl
          case c3 => unfold maxLen; omega
          case c4 => omega
          case c5 => have := hbelq.size; simp; omega
          intro v' w2 hown' hgrow _
          have hbel2 : Below w.heap.size w w2 := (hbelq.alloc hbelq.size _).grown hgrow (by have := hbelq.size; simp; omega) (fun k hk => (hownq.lt k hk).1)
          have hown2 : w2.ownsRow w.heap.size 5 1 v' (out ++ [(16 * a + b).toNat.toUInt8]).length (Lib.byteCells (out ++ [(16 * a + b).toNat.toUInt8])) := by
            rw [byteCells_snoc_int out (by omega) (by omega), List.length_append]
            exact hown'
          clear hown' hgrow hownq hbelq hor
          go_wp2
          go_roundw
          case rel => exact ⟨j + 2, _, by omega, by omega, by go_num, by simp; omega, hown2, HT'.out, hbel2⟩
          case measure => simp [intOf]; omega
      · obtain rfl : j = s.size := by omega
        have hun' : Hid (unhex s.data.toList = some out) := by
          rw [hun, List.drop_of_length_le (by omega)]
          show Option.map _ (unhex []) = _
          simp [unhex]
        clear hun hsl
        go_wp2
        go_ret2
        exact .inr ⟨out, _, hun'.out, rfl, hown, hbel⟩
  · have hno := hid (unhex_odd (s.size / 2) s.data.toList (by omega))
    clear hsl
    go_enter Tryz.func141, Tryz.ntmps141
    go_wp2
    go_ret2
    exact .inl ⟨hno.out, rfl, Below.refl _ _⟩
end Go.Proofs.YtcojkmcnigppbaaGreatDoor
end
section
set_option maxRecDepth 100000
namespace Go.Proofs.YtcojkmcnigppbaaGreatDoor.Nt
open Go Go.Proofs Go.RowKit Sx Oct
open Sch (wp_R gr_val gr_is gr_fresh gr_nil gr_on gr_onV gr_offV op_callR Rk)
theorem quiet_neq0E {o : Oper} {ev : Operand → Value} {V : World} (x : Operand) (hx : ev x = .int .i64 0) (hc : ev (.const (.int .i64 0)) = .int .i64 0) (ho : o.op = .binOp .neq 28 x (.const (.int .i64 0)) 28) : (execOp ev o).run Tryz.prog V = .ok (.value (.bool false)) V := by
  unfold execOp
  simp only [ho, hx, hc]
  go_simp
theorem infoB : (Tryz.prog.info? 5).map (fun i => (i.zero, i.size, i.bytes)) = some (some (.int .u8 0), 1, 1) := by kernel_rfl
theorem op_two {o : Oper} {a : Act} {V : World} {K : Act → World → Prop} {Q : Exit → Act → World → Prop} (x : UInt8) (y : Operand) (hy : a.eval y = .int .u8 (x.toNat : Nat)) (ho : o.op = .buildSlice 22 2 #[(0, .const (.int .u8 48)), (1, y)])
    (hK : ∀ v V', Below V.heap.size V V' → (∃ g, v = .slice (some ⟨g, 0, none⟩) 2 2 ∧ Reads V' V'.heap.size 1 (some ⟨g, 0, none⟩) 2 (Lib.byteCells [48, x])) → K (a.put o.dst v) V') : o.wp Tryz.prog a V K Q := by
  obtain ⟨ib, hib, h0, h1, h2⟩ := info_parts infoB
  have he : a.eval (.const (.int .u8 48)) = .int .u8 48 := rfl
  refine wp_buildSlice 22 5 2 _ ho #[.int .u8 48, .int .u8 (x.toNat : Nat)] ib (.int .u8 0) Tryz.underlying22 hib h0 (by rw [h1]; decide) (by rw [h1]; decide) (by rw [h1]; simp only [List.map_toArray, List.map_cons, List.map_nil, hy, he]; exact Great.fill_flat [.int .u8 48, .int .u8 (x.toNat : Nat)] _ (by simp [Value.cells]) (by simp)) ?_
  refine hK _ _ ((Below.refl V.heap.size V).alloc (Nat.le_refl _) _) ⟨_, rfl, by simp [Lib.byteCells], fun _ => ⟨_, rfl, by simp, fun j u hj => ?_⟩⟩
  have e2 : (⟨V.heap.size, 0, none⟩ : Addr).add j = ⟨V.heap.size, j, none⟩ := by unfold Addr.add; split <;> simp_all
  rw [e2]
  refine (Lib.cell_of_heap (heap_alloc_new V _) j).trans ?_
  simpa [Lib.byteCells] using hj
theorem quiet_str2 {o : Oper} {ev : Operand → Value} {V : World} (x : Operand) (g B : Nat) (l : List UInt8) (n : Nat) (hx : ev x = .slice (some ⟨g, 0, none⟩) n n) (hr : Reads V B 1 (some ⟨g, 0, none⟩) n (Lib.byteCells l)) (ho : o.op = .convert 22 9 x) :
    (execOp ev o).run Tryz.prog V = .ok (.value (.string ⟨l.toArray⟩)) V := by
  unfold execOp
  simp only [ho, hx, Sem.run_bind, run_back hr, Result.andThen_ok, Sem.run_pure]
theorem unhex_two (x : UInt8) : unhex [48, x] = if hexV x < 0 then none else some [(hexV x).toNat.toUInt8] := by
  have h : ∀ y : Fin 256, unhex [48, UInt8.ofNat y.val] = if hexV (UInt8.ofNat y.val) < 0 then none else some [(hexV (UInt8.ofNat y.val)).toNat.toUInt8] := by decide +kernel
  have := h ⟨x.toNat, x.toNat_lt⟩
  simpa using this
def DigEnd (bound : Nat) (w : World) (r : Nat) (A : Option Addr) (n c : Nat) (nd : Int) (q : List UInt8) (e : Ending) (w' : World) : Prop :=
  match q with
  | [] => Thrown 2 n e ∧ w.grownBy w' (some r)
  | x :: q' => if 0 ≤ hexV x ∧ hexV x < bound then e = .returned (.int .u8 (hexV x)) ∧ RdAt w' r A n c (n - q'.length : Nat) nd ∧ w.grownBy w' (some r) else Thrown 3 (n - (x :: q').length) e ∧ w.grownBy w' (some r)
set_option maxHeartbeats 8000000 in
theorem digit_any (bound : Nat) (hbd : bound ≤ 16) (r : Nat) (A : Option Addr) (n c p : Nat) (nd : Int) (b : List UInt8) (B : Nat) (w : World) (h : RdAt w r A n c p nd) (hr : Reads w B 1 A n (Lib.byteCells b)) (hB : B ≤ r) (hp : p ≤ n) (hn : n ≤ 20000) (hc : n ≤ c) (q : List UInt8) (hs : b.drop p = q) :
    Calls Tryz.prog 153 #[.pointer (some ⟨r, 0, none⟩), .int .u8 (bound : Nat)] w (DigEnd bound w r A n c nd q) := by
  have hl : b.length = n := by have := hr.1; simpa [Lib.byteCells_length] using this
  have hql : q.length = n - p := by rw [← hs, List.length_drop, hl]
  unfold DigEnd
  cases q with
  | nil =>
    simp only
    have CN := hid (next_end r A n c p nd w h (by simp at hql; omega) hn (by omega))
    clear h hr hs hl hql
    go_enter Tryz.func153, Tryz.ntmps153
    go_wp2_with ((with_reducible refine CN.out.mono ?_); rintro e w3 ⟨rfl, hb3⟩)
    exact ⟨rfl, rfl, grown_below hb3 _⟩
  | cons x q' =>
    simp only
    have hlr : (x :: q').length = q'.length + 1 := rfl
    rw [hlr] at hql
    have hpn : p < n := by omega
    have H0 := hid h
    have HR := hid hr
    have CN : Hid (∀ V, Below w.heap.size w V → Calls Tryz.prog 85 #[.pointer (some ⟨r, 0, none⟩)] V fun e w' => e = .returned (.int .u8 (x.toNat : Nat)) ∧ Below V.heap.size V w') := hid fun V hV =>
      next_at r A n c p nd b B V (H0.out.old hV) (reads_grown HR.out (grown_below hV (some r)) hB) hpn hn x q' hs
    have HPP : Hid (n - (q'.length + 1) = p) := hid (by omega)
    have HQL := hid hql
    clear h hr hs hl hql hlr
    by_cases hneg : hexV x < 0
    · simp only [if_neg (show ¬ (0 ≤ hexV x ∧ hexV x < (bound : Int)) from fun e => by omega)]
      have CU : Hid (∀ V, Calls Tryz.prog 141 #[.string ⟨[48, x].toArray⟩] V fun e w' => e = .returned (.tuple #[.slice none 0 0, .int .i64 3]) ∧ Below V.heap.size V w') := hid fun V => by
        refine (unhex_any _ V (by simp [ByteArray.size])).mono ?_
        intro e w' hu
        rw [show (⟨[48, x].toArray⟩ : ByteArray).data.toList = [48, x] from rfl, unhex_two, if_pos hneg] at hu
        rcases hu with ⟨_, h1, h2⟩ | ⟨_, _, h1, _⟩
        · exact ⟨h1, h2⟩
        · cases h1
      go_enter Tryz.func153, Tryz.ntmps153
      go_upto_region 1 with fail
      (try simp only [Act.put, zA, zB, zC])
      refine wp_R [8, 9, 10, 11, 12, 7, 13, 14, 5, 6] [Rk.val (.pointer (some ⟨r, 0, none⟩)), Rk.val (.int .u8 (x.toNat : Nat)), Rk.is (fun v V => ∃ g, v = .slice (some ⟨g, 0, none⟩) 2 2 ∧ Reads V V.heap.size 1 (some ⟨g, 0, none⟩) 2 (Lib.byteCells [48, x])) (fun _ _ _ ⟨g, e, h⟩ hb => ⟨g, e, (h.below hb).more hb.size⟩), Rk.val (.string ⟨[48, x].toArray⟩), Rk.val (.tuple #[.slice none 0 0, .int .i64 3]), Rk.val (.tuple #[.slice none 0 0, .int .i64 3]), Rk.val (.slice none 0 0), Rk.val (.int .i64 3), Rk.val (.slice none 0 0), Rk.val (.int .i64 3)] rfl (by kernel_rfl) (by kernel_rfl) (by kernel_rfl) (by kernel_rfl) ?hg1 _ (by rfl) ?hf1
      case hg1 =>
        refine gr_val rfl (by kernel_rfl) (fun a V H K Q hK => op_quiet (quiet_move (.tmp 0) (H.old 0 (by kernel_rfl) (by kernel_rfl)) (.inl (by kernel_rfl))) hK) ?_
        refine gr_val rfl (by kernel_rfl) (fun a V H K Q hK => op_callK #[.tmp 8] #[.pointer (some ⟨r, 0, none⟩)] (by kernel_rfl) (by kernel_rfl) (by kernel_rfl) (map1 (H.rel 0 8 (by kernel_rfl) (by kernel_rfl) rfl)) (CN.out V H.frame) (by kernel_rfl) hK) ?_
        refine gr_is rfl (by kernel_rfl) (fun a V H K Q hK => op_two x (.tmp 9) (H.rel 1 9 (by kernel_rfl) (by kernel_rfl) rfl) (by kernel_rfl) hK) ?_
        refine gr_val rfl (by kernel_rfl) (fun a V H K Q hK => by
                obtain ⟨g9, e9, h9⟩ : ∃ g, a.eval (.tmp 10) = .slice (some ⟨g, 0, none⟩) 2 2 ∧ Reads V V.heap.size 1 (some ⟨g, 0, none⟩) 2 (Lib.byteCells [48, x]) := (H.rel 2 10 (by kernel_rfl) (by kernel_rfl) rfl)
                exact op_quiet (quiet_str2 (.tmp 10) g9 _ [48, x] 2 e9 h9 (by kernel_rfl)) hK) ?_
        refine gr_val rfl (by kernel_rfl) (fun a V H K Q hK => op_callK #[.tmp 11] #[.string ⟨[48, x].toArray⟩] (by kernel_rfl) (by kernel_rfl) (by kernel_rfl) (map1 (H.rel 3 11 (by kernel_rfl) (by kernel_rfl) rfl)) (CU.out V) (by kernel_rfl) hK) ?_
        refine gr_val rfl (by kernel_rfl) (fun a V H K Q hK => op_quiet (quiet_move (.tmp 12) (H.rel 4 12 (by kernel_rfl) (by kernel_rfl) rfl) (.inl (by kernel_rfl))) hK) ?_
        refine gr_val rfl (by kernel_rfl) (fun a V H K Q hK => op_quiet (quiet_extract (t := #[.slice none 0 0, .int .i64 3]) (.tmp 7) 0 (H.rel 5 7 (by kernel_rfl) (by kernel_rfl) rfl) rfl (by kernel_rfl)) hK) ?_
        refine gr_val rfl (by kernel_rfl) (fun a V H K Q hK => op_quiet (quiet_extract (t := #[.slice none 0 0, .int .i64 3]) (.tmp 7) 1 (H.rel 5 7 (by kernel_rfl) (by kernel_rfl) rfl) rfl (by kernel_rfl)) hK) ?_
        refine gr_val rfl (by kernel_rfl) (fun a V H K Q hK => op_quiet (quiet_move (.tmp 13) (H.rel 6 13 (by kernel_rfl) (by kernel_rfl) rfl) (.inr (by kernel_rfl))) hK) ?_
        refine gr_val rfl (by kernel_rfl) (fun a V H K Q hK => op_quiet (quiet_move (.tmp 14) (H.rel 7 14 (by kernel_rfl) (by kernel_rfl) rfl) (.inr (by kernel_rfl))) hK) ?_
        exact gr_nil
      case hf1 =>
      intro x_ V hF
      have e0 : x_ 0 = .pointer (some ⟨r, 0, none⟩) := hF.rel 0 _ rfl
      have e1 : x_ 1 = .int .u8 (x.toNat : Nat) := hF.rel 1 _ rfl
      obtain ⟨g10, e2, _⟩ : ∃ g, x_ 2 = .slice (some ⟨g, 0, none⟩) 2 2 ∧ Reads V V.heap.size 1 (some ⟨g, 0, none⟩) 2 (Lib.byteCells [48, x]) := hF.rel 2 _ rfl
      have e3 : x_ 3 = .string ⟨[48, x].toArray⟩ := hF.rel 3 _ rfl
      have e4 : x_ 4 = .tuple #[.slice none 0 0, .int .i64 3] := hF.rel 4 _ rfl
      have e5 : x_ 5 = .tuple #[.slice none 0 0, .int .i64 3] := hF.rel 5 _ rfl
      have e6 : x_ 6 = .slice none 0 0 := hF.rel 6 _ rfl
      have e7 : x_ 7 = .int .i64 3 := hF.rel 7 _ rfl
      have e8 : x_ 8 = .slice none 0 0 := hF.rel 8 _ rfl
      have e9 : x_ 9 = .int .i64 3 := hF.rel 9 _ rfl
      have hbf := hF.frame
      clear hF
      simp only [Sch.finL, zA, zB, zC, e0, e1, e2, e3, e4, e5, e6, e7, e8, e9]
      clear e0 e1 e2 e3 e4 e5 e6 e7 e8 e9
      refine tail_nil ?_
      have HR1 := hid (H0.out.old hbf)
      have HG1 := hid (grown_below hbf (some r))
      clear hbf
      generalize V = W1 at *
      obtain ⟨c0, c1, c2, f1, f2⟩ := HR1.out.all
      go_wp2_with fail
      refine ⟨rfl, ?_, HG1.out⟩
      rw [HPP.out]
      rfl
    · obtain ⟨d, hd⟩ := namedN (hexV x).toNat
      have hdv : Hid (hexV x = (d : Int)) := hid (by rw [hd.out]; omega)
      have hd16 : d ≤ 15 := by have := hexV_bound x; have := hdv.out; omega
      have CU : Hid (∀ V, Below w.heap.size w V → Calls Tryz.prog 141 #[.string ⟨[48, x].toArray⟩] V fun e w' => ∃ v, e = .returned v ∧ (∃ ad c', v = .tuple #[.slice (some ad) 1 c', .int .i64 0] ∧ r < ad.block ∧ ad.block < w'.heap.size ∧ w'.cell? (ad.add 0) = some (.int .u8 (d : Nat))) ∧ Below V.heap.size V w') := hid fun V hV => by
        refine (unhex_any _ V (by simp [ByteArray.size])).mono ?_
        intro e w' hu
        rw [show (⟨[48, x].toArray⟩ : ByteArray).data.toList = [48, x] from rfl, unhex_two, if_neg hneg, ← hd.out] at hu
        rcases hu with ⟨h1, _⟩ | ⟨out, v, h1, h2, h3, h4⟩
        · cases h1
        · injection h1 with h1
          subst h1
          rcases h3.2 with ⟨_, h5⟩ | ⟨g, cap, cur, rfl, hg, hh, _⟩
          · simp at h5
          · have hrd := Reads.of_own h3
            have hlt : g < w'.heap.size := (Array.getElem?_eq_some_iff.1 hh).1
            obtain ⟨ad, u, e1, e2, e3, e4⟩ := hrd.at_ (k := 0) (by simp)
            injection e1 with e1
            subst e1
            refine ⟨_, h2, ⟨⟨g, 0, none⟩, cap, rfl, by have := H0.out.lt; have := hV.size; show r < g; omega, hlt, ?_⟩, h4⟩
            rw [e4]
            simp [Lib.byteCells] at e3
            have hm : (d : Int) % 256 = (d : Int) := by omega
            rw [← e3, hm]
      have hsz : Hid (r < w.heap.size) := hid H0.out.lt
      by_cases hlt : hexV x < (bound : Int)
      · simp only [if_pos (show 0 ≤ hexV x ∧ hexV x < (bound : Int) from ⟨by omega, hlt⟩)]
        have hge : Hid (decide ((bound : Int) ≤ (d : Int)) = false) := hid (by have := hdv.out; simp; omega)
        go_enter Tryz.func153, Tryz.ntmps153
        go_upto_region 1 with fail
        (try simp only [Act.put, zA, zB, zC])
        refine wp_R [8, 9, 10, 11, 12, 7, 13, 14, 5, 6] [Rk.val (.pointer (some ⟨r, 0, none⟩)), Rk.val (.int .u8 (x.toNat : Nat)), Rk.is (fun v V => ∃ g, v = .slice (some ⟨g, 0, none⟩) 2 2 ∧ Reads V V.heap.size 1 (some ⟨g, 0, none⟩) 2 (Lib.byteCells [48, x])) (fun _ _ _ ⟨g, e, h⟩ hb => ⟨g, e, (h.below hb).more hb.size⟩), Rk.val (.string ⟨[48, x].toArray⟩), Rk.is (fun v V => ∃ ad c', v = .tuple #[.slice (some ad) 1 c', .int .i64 0] ∧ r < ad.block ∧ ad.block < V.heap.size ∧ V.cell? (ad.add 0) = some (.int .u8 (d : Nat))) (fun _ _ _ ⟨ad, c', e, h1, h2, h3⟩ hb => ⟨ad, c', e, h1, Nat.lt_of_lt_of_le h2 hb.size, (hb.cell (by rw [block_of_add]; exact h2)).trans h3⟩), Rk.is (fun v V => ∃ ad c', v = .tuple #[.slice (some ad) 1 c', .int .i64 0] ∧ r < ad.block ∧ ad.block < V.heap.size ∧ V.cell? (ad.add 0) = some (.int .u8 (d : Nat))) (fun _ _ _ ⟨ad, c', e, h1, h2, h3⟩ hb => ⟨ad, c', e, h1, Nat.lt_of_lt_of_le h2 hb.size, (hb.cell (by rw [block_of_add]; exact h2)).trans h3⟩), Rk.is (fun v V => ∃ ad c', v = .slice (some ad) 1 c' ∧ r < ad.block ∧ ad.block < V.heap.size ∧ V.cell? (ad.add 0) = some (.int .u8 (d : Nat))) (fun _ _ _ ⟨ad, c', e, h1, h2, h3⟩ hb => ⟨ad, c', e, h1, Nat.lt_of_lt_of_le h2 hb.size, (hb.cell (by rw [block_of_add]; exact h2)).trans h3⟩), Rk.val (.int .i64 0), Rk.is (fun v V => ∃ ad c', v = .slice (some ad) 1 c' ∧ r < ad.block ∧ ad.block < V.heap.size ∧ V.cell? (ad.add 0) = some (.int .u8 (d : Nat))) (fun _ _ _ ⟨ad, c', e, h1, h2, h3⟩ hb => ⟨ad, c', e, h1, Nat.lt_of_lt_of_le h2 hb.size, (hb.cell (by rw [block_of_add]; exact h2)).trans h3⟩), Rk.val (.int .i64 0)] rfl (by kernel_rfl) (by kernel_rfl) (by kernel_rfl) (by kernel_rfl) ?hg2 _ (by rfl) ?hf2
        case hg2 =>
          refine gr_val rfl (by kernel_rfl) (fun a V H K Q hK => op_quiet (quiet_move (.tmp 0) (H.old 0 (by kernel_rfl) (by kernel_rfl)) (.inl (by kernel_rfl))) hK) ?_
          refine gr_val rfl (by kernel_rfl) (fun a V H K Q hK => op_callK #[.tmp 8] #[.pointer (some ⟨r, 0, none⟩)] (by kernel_rfl) (by kernel_rfl) (by kernel_rfl) (map1 (H.rel 0 8 (by kernel_rfl) (by kernel_rfl) rfl)) (CN.out V H.frame) (by kernel_rfl) hK) ?_
          refine gr_is rfl (by kernel_rfl) (fun a V H K Q hK => op_two x (.tmp 9) (H.rel 1 9 (by kernel_rfl) (by kernel_rfl) rfl) (by kernel_rfl) hK) ?_
          refine gr_val rfl (by kernel_rfl) (fun a V H K Q hK => by
                  obtain ⟨g9, e9, h9⟩ : ∃ g, a.eval (.tmp 10) = .slice (some ⟨g, 0, none⟩) 2 2 ∧ Reads V V.heap.size 1 (some ⟨g, 0, none⟩) 2 (Lib.byteCells [48, x]) := (H.rel 2 10 (by kernel_rfl) (by kernel_rfl) rfl)
                  exact op_quiet (quiet_str2 (.tmp 10) g9 _ [48, x] 2 e9 h9 (by kernel_rfl)) hK) ?_
          refine gr_is rfl (by kernel_rfl) (fun a V H K Q hK => op_callR #[.tmp 11] #[.string ⟨[48, x].toArray⟩] (by kernel_rfl) (by kernel_rfl) (by kernel_rfl) (map1 (H.rel 3 11 (by kernel_rfl) (by kernel_rfl) rfl)) (CU.out V H.frame) (by kernel_rfl) hK) ?_
          refine gr_is rfl (by kernel_rfl) (fun a V H K Q hK => by
                  obtain ⟨ad, c', e9, h1, h2, h3⟩ : ∃ ad c', a.eval (.tmp 12) = .tuple #[.slice (some ad) 1 c', .int .i64 0] ∧ r < ad.block ∧ ad.block < V.heap.size ∧ V.cell? (ad.add 0) = some (.int .u8 (d : Nat)) := (H.rel 4 12 (by kernel_rfl) (by kernel_rfl) rfl)
                  exact op_quiet (quiet_move (.tmp 12) e9 (.inl (by kernel_rfl))) fun V' hb => hK _ V' hb ⟨ad, c', rfl, h1, Nat.lt_of_lt_of_le h2 hb.size, (hb.cell (by rw [block_of_add]; exact h2)).trans h3⟩) ?_
          refine gr_is rfl (by kernel_rfl) (fun a V H K Q hK => by
                  obtain ⟨ad, c', e9, h1, h2, h3⟩ : ∃ ad c', a.eval (.tmp 7) = .tuple #[.slice (some ad) 1 c', .int .i64 0] ∧ r < ad.block ∧ ad.block < V.heap.size ∧ V.cell? (ad.add 0) = some (.int .u8 (d : Nat)) := (H.rel 5 7 (by kernel_rfl) (by kernel_rfl) rfl)
                  exact op_quiet (quiet_extract (t := #[.slice (some ad) 1 c', .int .i64 0]) (.tmp 7) 0 e9 rfl (by kernel_rfl)) fun V' hb => hK _ V' hb ⟨ad, c', rfl, h1, Nat.lt_of_lt_of_le h2 hb.size, (hb.cell (by rw [block_of_add]; exact h2)).trans h3⟩) ?_
          refine gr_val rfl (by kernel_rfl) (fun a V H K Q hK => by
                  obtain ⟨ad, c', e9, h1, h2, h3⟩ : ∃ ad c', a.eval (.tmp 7) = .tuple #[.slice (some ad) 1 c', .int .i64 0] ∧ r < ad.block ∧ ad.block < V.heap.size ∧ V.cell? (ad.add 0) = some (.int .u8 (d : Nat)) := (H.rel 5 7 (by kernel_rfl) (by kernel_rfl) rfl)
                  exact op_quiet (quiet_extract (t := #[.slice (some ad) 1 c', .int .i64 0]) (.tmp 7) 1 e9 rfl (by kernel_rfl)) hK) ?_
          refine gr_is rfl (by kernel_rfl) (fun a V H K Q hK => by
                  obtain ⟨ad, c', e9, h1, h2, h3⟩ : ∃ ad c', a.eval (.tmp 13) = .slice (some ad) 1 c' ∧ r < ad.block ∧ ad.block < V.heap.size ∧ V.cell? (ad.add 0) = some (.int .u8 (d : Nat)) := (H.rel 6 13 (by kernel_rfl) (by kernel_rfl) rfl)
                  exact op_quiet (quiet_move (.tmp 13) e9 (.inr (by kernel_rfl))) fun V' hb => hK _ V' hb ⟨ad, c', rfl, h1, Nat.lt_of_lt_of_le h2 hb.size, (hb.cell (by rw [block_of_add]; exact h2)).trans h3⟩) ?_
          refine gr_val rfl (by kernel_rfl) (fun a V H K Q hK => op_quiet (quiet_move (.tmp 14) (H.rel 7 14 (by kernel_rfl) (by kernel_rfl) rfl) (.inr (by kernel_rfl))) hK) ?_
          exact gr_nil
        case hf2 =>
        intro x_ V hF
        have e0 : x_ 0 = .pointer (some ⟨r, 0, none⟩) := hF.rel 0 _ rfl
        have e1 : x_ 1 = .int .u8 (x.toNat : Nat) := hF.rel 1 _ rfl
        obtain ⟨g10, e2, _⟩ : ∃ g, x_ 2 = .slice (some ⟨g, 0, none⟩) 2 2 ∧ Reads V V.heap.size 1 (some ⟨g, 0, none⟩) 2 (Lib.byteCells [48, x]) := hF.rel 2 _ rfl
        have e3 : x_ 3 = .string ⟨[48, x].toArray⟩ := hF.rel 3 _ rfl
        obtain ⟨ad4, c4', e4, l41, l42, l43⟩ : ∃ ad c', x_ 4 = .tuple #[.slice (some ad) 1 c', .int .i64 0] ∧ r < ad.block ∧ ad.block < V.heap.size ∧ V.cell? (ad.add 0) = some (.int .u8 (d : Nat)) := hF.rel 4 _ rfl
        obtain ⟨ad5, c5', e5, l51, l52, l53⟩ : ∃ ad c', x_ 5 = .tuple #[.slice (some ad) 1 c', .int .i64 0] ∧ r < ad.block ∧ ad.block < V.heap.size ∧ V.cell? (ad.add 0) = some (.int .u8 (d : Nat)) := hF.rel 5 _ rfl
        obtain ⟨ad6, c6', e6, l61, l62, l63⟩ : ∃ ad c', x_ 6 = .slice (some ad) 1 c' ∧ r < ad.block ∧ ad.block < V.heap.size ∧ V.cell? (ad.add 0) = some (.int .u8 (d : Nat)) := hF.rel 6 _ rfl
        have e7 : x_ 7 = .int .i64 0 := hF.rel 7 _ rfl
        obtain ⟨ad8, c8', e8, l81, l82, l83⟩ : ∃ ad c', x_ 8 = .slice (some ad) 1 c' ∧ r < ad.block ∧ ad.block < V.heap.size ∧ V.cell? (ad.add 0) = some (.int .u8 (d : Nat)) := hF.rel 8 _ rfl
        have e9 : x_ 9 = .int .i64 0 := hF.rel 9 _ rfl
        have hbf := hF.frame
        clear hF
        simp only [Sch.finL, zA, zB, zC, e0, e1, e2, e3, e4, e5, e6, e7, e8, e9]
        clear e0 e1 e2 e3 e4 e5 e6 e7 e8 e9
        have L81 := hid l81
        have L82 := hid l82
        have L83 := hid l83
        clear l41 l42 l43 l51 l52 l53 l61 l62 l63 l81 l82 l83
        refine tail_nil ?_
        have HR1 := hid (H0.out.old hbf)
        have HG1 := hid (grown_below hbf (some r))
        clear hbf
        generalize V = W1 at *
        go_upto_region 2 with fail
        (try simp only [Act.put, zA, zB, zC])
        refine wp_R [15, 16, 17, 18, 19, 20, 21, 22, 23] [Rk.val (.int .i64 0), Rk.val (.bool false), Rk.val (.bool false), Rk.val ((.slice (some ad8) 1 c8')), Rk.val (.pointer (some (ad8.add 0))), Rk.val (.int .u8 (d : Nat)), Rk.val (.int .u8 (bound : Nat)), Rk.val (.bool false), Rk.val (.bool false)] rfl (by kernel_rfl) (by kernel_rfl) (by kernel_rfl) (by kernel_rfl) ?hg3 _ (by rfl) ?hf3
        case hg3 =>
          refine gr_val rfl (by kernel_rfl) (fun a V H K Q hK => op_quiet (quiet_move (.tmp 6) (H.old 6 (by kernel_rfl) (by kernel_rfl)) (.inl (by kernel_rfl))) hK) ?_
          refine gr_val rfl (by kernel_rfl) (fun a V H K Q hK => op_quiet (quiet_neq0E (.tmp 15) (H.rel 0 15 (by kernel_rfl) (by kernel_rfl) rfl) rfl (by kernel_rfl)) hK) ?_
          refine gr_val rfl (by kernel_rfl) (fun a V H K Q hK => op_quiet (quiet_move (.tmp 16) (H.rel 1 16 (by kernel_rfl) (by kernel_rfl) rfl) (.inl (by kernel_rfl))) hK) ?_
          refine gr_onV (j := 2) (d := 17) (want := false) (u := .bool false) rfl (by kernel_rfl) (by kernel_rfl) (fun a V H => (H.rel 2 17 (by kernel_rfl) (by kernel_rfl) rfl)) (by kernel_rfl) (fun a V H K Q hK => op_quiet (quiet_move (.tmp 5) (H.old 5 (by kernel_rfl) (by kernel_rfl)) (.inl (by kernel_rfl))) hK) ?_
          refine gr_onV (j := 2) (d := 17) (want := false) (u := .bool false) rfl (by kernel_rfl) (by kernel_rfl) (fun a V H => (H.rel 2 17 (by kernel_rfl) (by kernel_rfl) rfl)) (by kernel_rfl) (fun a V H K Q hK => op_quiet (quiet_index (.tmp 18) (.const (.int .i64 0)) ad8 1 c8' 0 22 5 (H.rel 3 18 (by kernel_rfl) (by kernel_rfl) rfl) rfl (by omega) Tryz.underlying22 (by kernel_rfl) (by kernel_rfl)) hK) ?_
          refine gr_onV (j := 2) (d := 17) (want := false) (u := .bool false) rfl (by kernel_rfl) (by kernel_rfl) (fun a V H => (H.rel 2 17 (by kernel_rfl) (by kernel_rfl) rfl)) (by kernel_rfl) (fun a V H K Q hK => op_quiet (quiet_cell 5 (.tmp 19) _ (H.rel 4 19 (by kernel_rfl) (by kernel_rfl) rfl) Tryz.underlying5 rfl ((H.frame.cell (by rw [block_of_add]; exact L82.out)).trans L83.out) (by kernel_rfl)) hK) ?_
          refine gr_onV (j := 2) (d := 17) (want := false) (u := .bool false) rfl (by kernel_rfl) (by kernel_rfl) (fun a V H => (H.rel 2 17 (by kernel_rfl) (by kernel_rfl) rfl)) (by kernel_rfl) (fun a V H K Q hK => op_quiet (quiet_move (.tmp 1) (H.old 1 (by kernel_rfl) (by kernel_rfl)) (.inl (by kernel_rfl))) hK) ?_
          refine gr_onV (j := 2) (d := 17) (want := false) (u := .bool false) rfl (by kernel_rfl) (by kernel_rfl) (fun a V H => (H.rel 2 17 (by kernel_rfl) (by kernel_rfl) rfl)) (by kernel_rfl) (fun a V H K Q hK => op_quiet (quiet_geqB (.tmp 20) (.tmp 21) (d : Int) (bound : Int) .u8 5 5 false hge.out (H.rel 5 20 (by kernel_rfl) (by kernel_rfl) rfl) (H.rel 6 21 (by kernel_rfl) (by kernel_rfl) rfl) Tryz.underlying5 (by kernel_rfl)) hK) ?_
          refine gr_val rfl (by kernel_rfl) (fun a V H K Q hK => op_quiet (quiet_pickF (.tmp 17) (.const (.bool true)) (.tmp 22) (H.rel 2 17 (by kernel_rfl) (by kernel_rfl) rfl) (H.rel 7 22 (by kernel_rfl) (by kernel_rfl) rfl) (by kernel_rfl)) hK) ?_
          exact gr_nil
        case hf3 =>
        intro x_ V hF
        have e0 : x_ 0 = .int .i64 0 := hF.rel 0 _ rfl
        have e1 : x_ 1 = .bool false := hF.rel 1 _ rfl
        have e2 : x_ 2 = .bool false := hF.rel 2 _ rfl
        have e3 : x_ 3 = (.slice (some ad8) 1 c8') := hF.rel 3 _ rfl
        have e4 : x_ 4 = .pointer (some (ad8.add 0)) := hF.rel 4 _ rfl
        have e5 : x_ 5 = .int .u8 (d : Nat) := hF.rel 5 _ rfl
        have e6 : x_ 6 = .int .u8 (bound : Nat) := hF.rel 6 _ rfl
        have e7 : x_ 7 = .bool false := hF.rel 7 _ rfl
        have e8 : x_ 8 = .bool false := hF.rel 8 _ rfl
        have hbf := hF.frame
        clear hF
        simp only [Sch.finL, zA, zB, zC, e0, e1, e2, e3, e4, e5, e6, e7, e8]
        clear e0 e1 e2 e3 e4 e5 e6 e7 e8
        refine tail_nil ?_
        have HR2 := hid (HR1.out.old hbf)
        have HG2 := hid (HG1.out.trans (grown_below hbf (some r)))
        have L2 := hid ((hbf.cell (by rw [block_of_add]; exact L82.out)).trans L83.out)
        clear hbf HR1 HG1 L83 L82
        generalize V = W2 at *
        obtain ⟨c0, c1, c2, f1, f2⟩ := HR2.out.all
        have hwp : IntKind.i64.wrap ((p : Int) + 1) = (p : Int) + 1 := IntWalk.i64_in _ (by omega)
        have HR3 := hid (HR2.out.set1 ((p : Int) + 1))
        have HG3 := hid (HG2.out.trans (grown_set W2 r 1 (.int .i64 ((p : Int) + 1))))
        have L3 : Hid ((W2.setCell ⟨r, 1, none⟩ (.int .i64 ((p : Int) + 1))).cell? (ad8.add 0) = some (.int .u8 (d : Nat))) := hid ((World.cell?_setCell_other _ _ _ _ (fun e => by
          have := congrArg Addr.block e
          rw [block_of_add] at this
          have h8 := L81.out
          simp only at this
          omega)).trans L2.out)
        go_upto_region 5 with fail
        generalize W2.setCell ⟨r, 1, none⟩ (.int .i64 ((p : Int) + 1)) = W3 at *
        (try simp only [Act.put, zA, zB, zC])
        clear c0 c1 c2 f1 f2 HR2 HG2 L2
        refine wp_R [36, 37, 38, 4] [Rk.val ((.slice (some ad8) 1 c8')), Rk.val (.pointer (some (ad8.add 0))), Rk.val (.int .u8 (d : Nat)), Rk.val (.int .u8 (d : Nat))] rfl (by kernel_rfl) (by kernel_rfl) (by kernel_rfl) (by kernel_rfl) ?hg4 _ (by rfl) ?hf4
        case hg4 =>
          refine gr_val rfl (by kernel_rfl) (fun a V H K Q hK => op_quiet (quiet_move (.tmp 5) (H.old 5 (by kernel_rfl) (by kernel_rfl)) (.inl (by kernel_rfl))) hK) ?_
          refine gr_val rfl (by kernel_rfl) (fun a V H K Q hK => op_quiet (quiet_index (.tmp 36) (.const (.int .i64 0)) ad8 1 c8' 0 22 5 (H.rel 0 36 (by kernel_rfl) (by kernel_rfl) rfl) rfl (by omega) Tryz.underlying22 (by kernel_rfl) (by kernel_rfl)) hK) ?_
          refine gr_val rfl (by kernel_rfl) (fun a V H K Q hK => op_quiet (quiet_cell 5 (.tmp 37) _ (H.rel 1 37 (by kernel_rfl) (by kernel_rfl) rfl) Tryz.underlying5 rfl ((H.frame.cell (World.block_lt_of_cell? _ _ L3.out)).trans L3.out) (by kernel_rfl)) hK) ?_
          refine gr_val rfl (by kernel_rfl) (fun a V H K Q hK => op_quiet (quiet_move (.tmp 38) (H.rel 2 38 (by kernel_rfl) (by kernel_rfl) rfl) (.inr (by kernel_rfl))) hK) ?_
          exact gr_nil
        case hf4 =>
        intro x_ V hF
        have e0 : x_ 0 = (.slice (some ad8) 1 c8') := hF.rel 0 _ rfl
        have e1 : x_ 1 = .pointer (some (ad8.add 0)) := hF.rel 1 _ rfl
        have e2 : x_ 2 = .int .u8 (d : Nat) := hF.rel 2 _ rfl
        have e3 : x_ 3 = .int .u8 (d : Nat) := hF.rel 3 _ rfl
        have hbf := hF.frame
        clear hF
        simp only [Sch.finL, zA, zB, zC, e0, e1, e2, e3]
        clear e0 e1 e2 e3
        refine tail_nil ?_
        have HR4 := hid (HR3.out.old hbf)
        have HG4 := hid (HG3.out.trans (grown_below hbf (some r)))
        clear hbf
        go_wp2_with fail
        go_ret
        refine ⟨by rw [hdv.out]; rfl, ?_, HG4.out⟩
        rw [show n - q'.length = p + 1 by have := HQL.out; omega]
        exact HR4.out
      · simp only [if_neg (show ¬ (0 ≤ hexV x ∧ hexV x < (bound : Int)) from fun e => hlt e.2)]
        have hge : Hid (decide ((bound : Int) ≤ (d : Int)) = true) := hid (by have := hdv.out; simp; omega)
        go_enter Tryz.func153, Tryz.ntmps153
        go_upto_region 1 with fail
        (try simp only [Act.put, zA, zB, zC])
        refine wp_R [8, 9, 10, 11, 12, 7, 13, 14, 5, 6] [Rk.val (.pointer (some ⟨r, 0, none⟩)), Rk.val (.int .u8 (x.toNat : Nat)), Rk.is (fun v V => ∃ g, v = .slice (some ⟨g, 0, none⟩) 2 2 ∧ Reads V V.heap.size 1 (some ⟨g, 0, none⟩) 2 (Lib.byteCells [48, x])) (fun _ _ _ ⟨g, e, h⟩ hb => ⟨g, e, (h.below hb).more hb.size⟩), Rk.val (.string ⟨[48, x].toArray⟩), Rk.is (fun v V => ∃ ad c', v = .tuple #[.slice (some ad) 1 c', .int .i64 0] ∧ r < ad.block ∧ ad.block < V.heap.size ∧ V.cell? (ad.add 0) = some (.int .u8 (d : Nat))) (fun _ _ _ ⟨ad, c', e, h1, h2, h3⟩ hb => ⟨ad, c', e, h1, Nat.lt_of_lt_of_le h2 hb.size, (hb.cell (by rw [block_of_add]; exact h2)).trans h3⟩), Rk.is (fun v V => ∃ ad c', v = .tuple #[.slice (some ad) 1 c', .int .i64 0] ∧ r < ad.block ∧ ad.block < V.heap.size ∧ V.cell? (ad.add 0) = some (.int .u8 (d : Nat))) (fun _ _ _ ⟨ad, c', e, h1, h2, h3⟩ hb => ⟨ad, c', e, h1, Nat.lt_of_lt_of_le h2 hb.size, (hb.cell (by rw [block_of_add]; exact h2)).trans h3⟩), Rk.is (fun v V => ∃ ad c', v = .slice (some ad) 1 c' ∧ r < ad.block ∧ ad.block < V.heap.size ∧ V.cell? (ad.add 0) = some (.int .u8 (d : Nat))) (fun _ _ _ ⟨ad, c', e, h1, h2, h3⟩ hb => ⟨ad, c', e, h1, Nat.lt_of_lt_of_le h2 hb.size, (hb.cell (by rw [block_of_add]; exact h2)).trans h3⟩), Rk.val (.int .i64 0), Rk.is (fun v V => ∃ ad c', v = .slice (some ad) 1 c' ∧ r < ad.block ∧ ad.block < V.heap.size ∧ V.cell? (ad.add 0) = some (.int .u8 (d : Nat))) (fun _ _ _ ⟨ad, c', e, h1, h2, h3⟩ hb => ⟨ad, c', e, h1, Nat.lt_of_lt_of_le h2 hb.size, (hb.cell (by rw [block_of_add]; exact h2)).trans h3⟩), Rk.val (.int .i64 0)] rfl (by kernel_rfl) (by kernel_rfl) (by kernel_rfl) (by kernel_rfl) ?hg5 _ (by rfl) ?hf5
        case hg5 =>
          refine gr_val rfl (by kernel_rfl) (fun a V H K Q hK => op_quiet (quiet_move (.tmp 0) (H.old 0 (by kernel_rfl) (by kernel_rfl)) (.inl (by kernel_rfl))) hK) ?_
          refine gr_val rfl (by kernel_rfl) (fun a V H K Q hK => op_callK #[.tmp 8] #[.pointer (some ⟨r, 0, none⟩)] (by kernel_rfl) (by kernel_rfl) (by kernel_rfl) (map1 (H.rel 0 8 (by kernel_rfl) (by kernel_rfl) rfl)) (CN.out V H.frame) (by kernel_rfl) hK) ?_
          refine gr_is rfl (by kernel_rfl) (fun a V H K Q hK => op_two x (.tmp 9) (H.rel 1 9 (by kernel_rfl) (by kernel_rfl) rfl) (by kernel_rfl) hK) ?_
          refine gr_val rfl (by kernel_rfl) (fun a V H K Q hK => by
                  obtain ⟨g9, e9, h9⟩ : ∃ g, a.eval (.tmp 10) = .slice (some ⟨g, 0, none⟩) 2 2 ∧ Reads V V.heap.size 1 (some ⟨g, 0, none⟩) 2 (Lib.byteCells [48, x]) := (H.rel 2 10 (by kernel_rfl) (by kernel_rfl) rfl)
                  exact op_quiet (quiet_str2 (.tmp 10) g9 _ [48, x] 2 e9 h9 (by kernel_rfl)) hK) ?_
          refine gr_is rfl (by kernel_rfl) (fun a V H K Q hK => op_callR #[.tmp 11] #[.string ⟨[48, x].toArray⟩] (by kernel_rfl) (by kernel_rfl) (by kernel_rfl) (map1 (H.rel 3 11 (by kernel_rfl) (by kernel_rfl) rfl)) (CU.out V H.frame) (by kernel_rfl) hK) ?_
          refine gr_is rfl (by kernel_rfl) (fun a V H K Q hK => by
                  obtain ⟨ad, c', e9, h1, h2, h3⟩ : ∃ ad c', a.eval (.tmp 12) = .tuple #[.slice (some ad) 1 c', .int .i64 0] ∧ r < ad.block ∧ ad.block < V.heap.size ∧ V.cell? (ad.add 0) = some (.int .u8 (d : Nat)) := (H.rel 4 12 (by kernel_rfl) (by kernel_rfl) rfl)
                  exact op_quiet (quiet_move (.tmp 12) e9 (.inl (by kernel_rfl))) fun V' hb => hK _ V' hb ⟨ad, c', rfl, h1, Nat.lt_of_lt_of_le h2 hb.size, (hb.cell (by rw [block_of_add]; exact h2)).trans h3⟩) ?_
          refine gr_is rfl (by kernel_rfl) (fun a V H K Q hK => by
                  obtain ⟨ad, c', e9, h1, h2, h3⟩ : ∃ ad c', a.eval (.tmp 7) = .tuple #[.slice (some ad) 1 c', .int .i64 0] ∧ r < ad.block ∧ ad.block < V.heap.size ∧ V.cell? (ad.add 0) = some (.int .u8 (d : Nat)) := (H.rel 5 7 (by kernel_rfl) (by kernel_rfl) rfl)
                  exact op_quiet (quiet_extract (t := #[.slice (some ad) 1 c', .int .i64 0]) (.tmp 7) 0 e9 rfl (by kernel_rfl)) fun V' hb => hK _ V' hb ⟨ad, c', rfl, h1, Nat.lt_of_lt_of_le h2 hb.size, (hb.cell (by rw [block_of_add]; exact h2)).trans h3⟩) ?_
          refine gr_val rfl (by kernel_rfl) (fun a V H K Q hK => by
                  obtain ⟨ad, c', e9, h1, h2, h3⟩ : ∃ ad c', a.eval (.tmp 7) = .tuple #[.slice (some ad) 1 c', .int .i64 0] ∧ r < ad.block ∧ ad.block < V.heap.size ∧ V.cell? (ad.add 0) = some (.int .u8 (d : Nat)) := (H.rel 5 7 (by kernel_rfl) (by kernel_rfl) rfl)
                  exact op_quiet (quiet_extract (t := #[.slice (some ad) 1 c', .int .i64 0]) (.tmp 7) 1 e9 rfl (by kernel_rfl)) hK) ?_
          refine gr_is rfl (by kernel_rfl) (fun a V H K Q hK => by
                  obtain ⟨ad, c', e9, h1, h2, h3⟩ : ∃ ad c', a.eval (.tmp 13) = .slice (some ad) 1 c' ∧ r < ad.block ∧ ad.block < V.heap.size ∧ V.cell? (ad.add 0) = some (.int .u8 (d : Nat)) := (H.rel 6 13 (by kernel_rfl) (by kernel_rfl) rfl)
                  exact op_quiet (quiet_move (.tmp 13) e9 (.inr (by kernel_rfl))) fun V' hb => hK _ V' hb ⟨ad, c', rfl, h1, Nat.lt_of_lt_of_le h2 hb.size, (hb.cell (by rw [block_of_add]; exact h2)).trans h3⟩) ?_
          refine gr_val rfl (by kernel_rfl) (fun a V H K Q hK => op_quiet (quiet_move (.tmp 14) (H.rel 7 14 (by kernel_rfl) (by kernel_rfl) rfl) (.inr (by kernel_rfl))) hK) ?_
          exact gr_nil
        case hf5 =>
        intro x_ V hF
        have e0 : x_ 0 = .pointer (some ⟨r, 0, none⟩) := hF.rel 0 _ rfl
        have e1 : x_ 1 = .int .u8 (x.toNat : Nat) := hF.rel 1 _ rfl
        obtain ⟨g10, e2, _⟩ : ∃ g, x_ 2 = .slice (some ⟨g, 0, none⟩) 2 2 ∧ Reads V V.heap.size 1 (some ⟨g, 0, none⟩) 2 (Lib.byteCells [48, x]) := hF.rel 2 _ rfl
        have e3 : x_ 3 = .string ⟨[48, x].toArray⟩ := hF.rel 3 _ rfl
        obtain ⟨ad4, c4', e4, l41, l42, l43⟩ : ∃ ad c', x_ 4 = .tuple #[.slice (some ad) 1 c', .int .i64 0] ∧ r < ad.block ∧ ad.block < V.heap.size ∧ V.cell? (ad.add 0) = some (.int .u8 (d : Nat)) := hF.rel 4 _ rfl
        obtain ⟨ad5, c5', e5, l51, l52, l53⟩ : ∃ ad c', x_ 5 = .tuple #[.slice (some ad) 1 c', .int .i64 0] ∧ r < ad.block ∧ ad.block < V.heap.size ∧ V.cell? (ad.add 0) = some (.int .u8 (d : Nat)) := hF.rel 5 _ rfl
        obtain ⟨ad6, c6', e6, l61, l62, l63⟩ : ∃ ad c', x_ 6 = .slice (some ad) 1 c' ∧ r < ad.block ∧ ad.block < V.heap.size ∧ V.cell? (ad.add 0) = some (.int .u8 (d : Nat)) := hF.rel 6 _ rfl
        have e7 : x_ 7 = .int .i64 0 := hF.rel 7 _ rfl
        obtain ⟨ad8, c8', e8, l81, l82, l83⟩ : ∃ ad c', x_ 8 = .slice (some ad) 1 c' ∧ r < ad.block ∧ ad.block < V.heap.size ∧ V.cell? (ad.add 0) = some (.int .u8 (d : Nat)) := hF.rel 8 _ rfl
        have e9 : x_ 9 = .int .i64 0 := hF.rel 9 _ rfl
        have hbf := hF.frame
        clear hF
        simp only [Sch.finL, zA, zB, zC, e0, e1, e2, e3, e4, e5, e6, e7, e8, e9]
        clear e0 e1 e2 e3 e4 e5 e6 e7 e8 e9
        have L81 := hid l81
        have L82 := hid l82
        have L83 := hid l83
        clear l41 l42 l43 l51 l52 l53 l61 l62 l63 l81 l82 l83
        refine tail_nil ?_
        have HR1 := hid (H0.out.old hbf)
        have HG1 := hid (grown_below hbf (some r))
        clear hbf
        generalize V = W1 at *
        go_upto_region 2 with fail
        (try simp only [Act.put, zA, zB, zC])
        refine wp_R [15, 16, 17, 18, 19, 20, 21, 22, 23] [Rk.val (.int .i64 0), Rk.val (.bool false), Rk.val (.bool false), Rk.val ((.slice (some ad8) 1 c8')), Rk.val (.pointer (some (ad8.add 0))), Rk.val (.int .u8 (d : Nat)), Rk.val (.int .u8 (bound : Nat)), Rk.val (.bool true), Rk.val (.bool true)] rfl (by kernel_rfl) (by kernel_rfl) (by kernel_rfl) (by kernel_rfl) ?hg6 _ (by rfl) ?hf6
        case hg6 =>
          refine gr_val rfl (by kernel_rfl) (fun a V H K Q hK => op_quiet (quiet_move (.tmp 6) (H.old 6 (by kernel_rfl) (by kernel_rfl)) (.inl (by kernel_rfl))) hK) ?_
          refine gr_val rfl (by kernel_rfl) (fun a V H K Q hK => op_quiet (quiet_neq0E (.tmp 15) (H.rel 0 15 (by kernel_rfl) (by kernel_rfl) rfl) rfl (by kernel_rfl)) hK) ?_
          refine gr_val rfl (by kernel_rfl) (fun a V H K Q hK => op_quiet (quiet_move (.tmp 16) (H.rel 1 16 (by kernel_rfl) (by kernel_rfl) rfl) (.inl (by kernel_rfl))) hK) ?_
          refine gr_onV (j := 2) (d := 17) (want := false) (u := .bool false) rfl (by kernel_rfl) (by kernel_rfl) (fun a V H => (H.rel 2 17 (by kernel_rfl) (by kernel_rfl) rfl)) (by kernel_rfl) (fun a V H K Q hK => op_quiet (quiet_move (.tmp 5) (H.old 5 (by kernel_rfl) (by kernel_rfl)) (.inl (by kernel_rfl))) hK) ?_
          refine gr_onV (j := 2) (d := 17) (want := false) (u := .bool false) rfl (by kernel_rfl) (by kernel_rfl) (fun a V H => (H.rel 2 17 (by kernel_rfl) (by kernel_rfl) rfl)) (by kernel_rfl) (fun a V H K Q hK => op_quiet (quiet_index (.tmp 18) (.const (.int .i64 0)) ad8 1 c8' 0 22 5 (H.rel 3 18 (by kernel_rfl) (by kernel_rfl) rfl) rfl (by omega) Tryz.underlying22 (by kernel_rfl) (by kernel_rfl)) hK) ?_
          refine gr_onV (j := 2) (d := 17) (want := false) (u := .bool false) rfl (by kernel_rfl) (by kernel_rfl) (fun a V H => (H.rel 2 17 (by kernel_rfl) (by kernel_rfl) rfl)) (by kernel_rfl) (fun a V H K Q hK => op_quiet (quiet_cell 5 (.tmp 19) _ (H.rel 4 19 (by kernel_rfl) (by kernel_rfl) rfl) Tryz.underlying5 rfl ((H.frame.cell (by rw [block_of_add]; exact L82.out)).trans L83.out) (by kernel_rfl)) hK) ?_
          refine gr_onV (j := 2) (d := 17) (want := false) (u := .bool false) rfl (by kernel_rfl) (by kernel_rfl) (fun a V H => (H.rel 2 17 (by kernel_rfl) (by kernel_rfl) rfl)) (by kernel_rfl) (fun a V H K Q hK => op_quiet (quiet_move (.tmp 1) (H.old 1 (by kernel_rfl) (by kernel_rfl)) (.inl (by kernel_rfl))) hK) ?_
          refine gr_onV (j := 2) (d := 17) (want := false) (u := .bool false) rfl (by kernel_rfl) (by kernel_rfl) (fun a V H => (H.rel 2 17 (by kernel_rfl) (by kernel_rfl) rfl)) (by kernel_rfl) (fun a V H K Q hK => op_quiet (quiet_geqB (.tmp 20) (.tmp 21) (d : Int) (bound : Int) .u8 5 5 true hge.out (H.rel 5 20 (by kernel_rfl) (by kernel_rfl) rfl) (H.rel 6 21 (by kernel_rfl) (by kernel_rfl) rfl) Tryz.underlying5 (by kernel_rfl)) hK) ?_
          refine gr_val rfl (by kernel_rfl) (fun a V H K Q hK => op_quiet (quiet_pickF (.tmp 17) (.const (.bool true)) (.tmp 22) (H.rel 2 17 (by kernel_rfl) (by kernel_rfl) rfl) (H.rel 7 22 (by kernel_rfl) (by kernel_rfl) rfl) (by kernel_rfl)) hK) ?_
          exact gr_nil
        case hf6 =>
        intro x_ V hF
        have e0 : x_ 0 = .int .i64 0 := hF.rel 0 _ rfl
        have e1 : x_ 1 = .bool false := hF.rel 1 _ rfl
        have e2 : x_ 2 = .bool false := hF.rel 2 _ rfl
        have e3 : x_ 3 = (.slice (some ad8) 1 c8') := hF.rel 3 _ rfl
        have e4 : x_ 4 = .pointer (some (ad8.add 0)) := hF.rel 4 _ rfl
        have e5 : x_ 5 = .int .u8 (d : Nat) := hF.rel 5 _ rfl
        have e6 : x_ 6 = .int .u8 (bound : Nat) := hF.rel 6 _ rfl
        have e7 : x_ 7 = .bool true := hF.rel 7 _ rfl
        have e8 : x_ 8 = .bool true := hF.rel 8 _ rfl
        have hbf := hF.frame
        clear hF
        simp only [Sch.finL, zA, zB, zC, e0, e1, e2, e3, e4, e5, e6, e7, e8]
        clear e0 e1 e2 e3 e4 e5 e6 e7 e8
        refine tail_nil ?_
        have HR2 := hid (HR1.out.old hbf)
        have HG2 := hid (HG1.out.trans (grown_below hbf (some r)))
        have L2 := hid ((hbf.cell (by rw [block_of_add]; exact L82.out)).trans L83.out)
        clear hbf HR1 HG1 L83 L82
        generalize V = W2 at *
        obtain ⟨c0, c1, c2, f1, f2⟩ := HR2.out.all
        go_wp2_with fail
        refine ⟨rfl, ?_, HG2.out⟩
        rw [HPP.out]
        rfl
end Go.Proofs.YtcojkmcnigppbaaGreatDoor.Nt
end
section
set_option maxRecDepth 100000
namespace Go.Proofs.YtcojkmcnigppbaaGreatDoor.Nt
open Go Go.Proofs Go.RowKit Sx Oct
theorem fin_of {P : UInt8 → Prop} (h : ∀ y : Fin 256, P (UInt8.ofNat y.val)) (x : UInt8) : P x := by
  have := h ⟨x.toNat, x.toNat_lt⟩
  simpa using this
theorem oct_hex4 (x : UInt8) : isOct 4 x = decide (0 ≤ hexV x ∧ hexV x < ((4 : Nat) : Int)) := fin_of (P := fun x => isOct 4 x = decide (0 ≤ hexV x ∧ hexV x < ((4 : Nat) : Int))) (by decide +kernel) x
theorem oct_hex8 (x : UInt8) : isOct 8 x = decide (0 ≤ hexV x ∧ hexV x < ((8 : Nat) : Int)) := fin_of (P := fun x => isOct 8 x = decide (0 ≤ hexV x ∧ hexV x < ((8 : Nat) : Int))) (by decide +kernel) x
theorem hex_hex16 (x : UInt8) : isHexS x = decide (0 ≤ hexV x ∧ hexV x < ((16 : Nat) : Int)) := fin_of (P := fun x => isHexS x = decide (0 ≤ hexV x ∧ hexV x < ((16 : Nat) : Int))) (by decide +kernel) x
theorem oct_val (x : UInt8) : isOct 8 x = true → hexV x = ((x.toNat - 48 : Nat) : Int) := fin_of (P := fun x => isOct 8 x = true → hexV x = ((x.toNat - 48 : Nat) : Int)) (by decide +kernel) x
theorem oct_val4 (x : UInt8) : isOct 4 x = true → hexV x = ((x.toNat - 48 : Nat) : Int) ∧ x.toNat - 48 < 4 := fin_of (P := fun x => isOct 4 x = true → hexV x = ((x.toNat - 48 : Nat) : Int) ∧ x.toNat - 48 < 4) (by decide +kernel) x
theorem hex_or : ∀ u v : Fin 16, bits .or .u8 ((u.val : Int) * 16) (v.val : Int) = ((16 * u.val + v.val : Nat) : Int) := by decide +kernel
theorem oct_or : ∀ (u : Fin 4) (v x : Fin 8), bits .or .u8 (bits .or .u8 ((u.val : Int) * 64) ((v.val : Int) * 8)) (x.val : Int) = ((64 * u.val + 8 * v.val + x.val : Nat) : Int) := by decide +kernel
def EscEnd (w : World) (r : Nat) (A : Option Addr) (n c : Nat) (nd : Int) (e : Ending) (w' : World) : Res UInt8 → Prop
  | .err k rest => Thrown k (n - rest.length) e ∧ w.grownBy w' (some r)
  | .ok y rest => e = .returned (.int .u8 (y.toNat : Nat)) ∧ RdAt w' r A n c (n - rest.length : Nat) nd ∧ w.grownBy w' (some r)
abbrev escS : ByteArray := ⟨#[98, 116, 118, 110, 102, 114, 34, 39, 92]⟩
abbrev mntS : ByteArray := ⟨#[8, 9, 11, 10, 12, 13, 34, 39, 92]⟩
theorem named_ix (x : UInt8) : (named x = none ∧ Lib.indexByte escS.data.toList x = -1) ∨ ∃ i : Nat, i < 9 ∧ Lib.indexByte escS.data.toList x = (i : Int) ∧ named x = some (mntS.data.toList.getD i 0) := by
  have h : ∀ y : Fin 256, (named (UInt8.ofNat y.val) = none ∧ Lib.indexByte escS.data.toList (UInt8.ofNat y.val) = -1) ∨ ∃ i : Fin 9, Lib.indexByte escS.data.toList (UInt8.ofNat y.val) = (i.val : Int) ∧ named (UInt8.ofNat y.val) = some (mntS.data.toList.getD i.val 0) := by decide +kernel
  have := h ⟨x.toNat, x.toNat_lt⟩
  simp only [UInt8.ofNat_toNat] at this
  rcases this with h | ⟨i, h1, h2⟩
  · exact .inl h
  · exact .inr ⟨i.val, i.isLt, h1, h2⟩
set_option maxHeartbeats 8000000 in
theorem escaped_any (r : Nat) (A : Option Addr) (n c p : Nat) (nd : Int) (b : List UInt8) (B : Nat) (w : World) (h : RdAt w r A n c p nd) (hr : Reads w B 1 A n (Lib.byteCells b)) (hB : B ≤ r) (hp : p ≤ n) (hn : n ≤ 20000) (hc : n ≤ c) (q : List UInt8) (hs : b.drop p = q) :
    Calls Tryz.prog 140 #[.pointer (some ⟨r, 0, none⟩)] w fun e w' => EscEnd w r A n c nd e w' (aEsc q) := by
  have hl : b.length = n := by have := hr.1; simpa [Lib.byteCells_length] using this
  have hql : q.length = n - p := by rw [← hs, List.length_drop, hl]
  unfold aEsc
  cases q with
  | nil =>
    simp only
    have CN := hid (next_end r A n c p nd w h (by simp at hql; omega) hn (by omega))
    clear h hr hs hl hql
    go_enter Tryz.func140, Tryz.ntmps140
    go_wp2_with ((with_reducible refine CN.out.mono ?_); rintro e w3 ⟨rfl, hb3⟩)
    exact ⟨rfl, rfl, grown_below hb3 _⟩
  | cons x q' =>
    simp only
    have hlr : (x :: q').length = q'.length + 1 := rfl
    rw [hlr] at hql
    have hpn : p < n := by omega
    have H0 := hid h
    have HR := hid hr
    have CN := hid (next_at r A n c p nd b B w h hr hpn hn x q' hs)
    have HQL := hid hql
    have HS := hid hs
    have DG : Hid (∀ (m : Nat) (V : World) (pp : Nat) (l : List UInt8), m ≤ 16 → RdAt V r A n c (pp : Nat) nd → w.grownBy V (some r) → pp ≤ n → b.drop pp = l → Calls Tryz.prog 153 #[.pointer (some ⟨r, 0, none⟩), .int .u8 (m : Nat)] V (DigEnd m V r A n c nd l)) := hid fun m V pp l hm hV hg hpp hl =>
      digit_any m hm r A n c pp nd b B V hV (reads_grown HR.out hg hB) hB hpp hn hc l hl
    have CI := hid (fun V => indexByte_any escS x V)
    clear h hr hs hl hql
    rcases named_ix x with ⟨hno, hix⟩ | ⟨i, hi9, hix, hna⟩
    · rw [hno]
      rw [hix] at CI
      simp only
      by_cases hx : x = 120
      · simp only [if_pos hx]
        have HX := hid hx
        clear hx
        have e120 : ((x.toNat : Int) == 120) = true := by rw [HX.out]; rfl
        have hwp : IntKind.i64.wrap ((p : Int) + 1) = (p : Int) + 1 := IntWalk.i64_in _ (by omega)
        have hdr : b.drop (p + 1) = q' := by rw [← List.drop_drop, HS.out]; rfl
        unfold aHexa
        cases q' with
        | nil =>
          simp only
          go_enter Tryz.func140, Tryz.ntmps140
          go_upto_region 8 with (first
            | ((with_reducible refine CN.out.mono ?_); rintro e w1 ⟨rfl, hb1⟩; obtain ⟨c0, c1, c2, f1, f2⟩ := (H0.out.old hb1).all)
            | ((with_reducible refine (CI.out _).mono ?_); rintro e w2 ⟨rfl, h2⟩; have h2 := h2.symm; subst h2))
          have HRp : RdAt (w1.setCell ⟨r, 1, none⟩ (.int .i64 ((p : Int) + 1))) r A n c ((p + 1 : Nat) : Int) nd := (H0.out.old hb1).set1 _
          have HGp : w.grownBy (w1.setCell ⟨r, 1, none⟩ (.int .i64 ((p : Int) + 1))) (some r) := (grown_below hb1 _).trans (grown_set _ _ _ _)
          clear c0 c1 c2 f1 f2
          generalize w1.setCell ⟨r, 1, none⟩ (.int .i64 ((p : Int) + 1)) = W2 at *
          go_wp2_with fail
          have D0 := DG.out 16 W2 (p + 1) [] (by omega) HRp HGp (by have := HQL.out; (try simp only [List.length_cons, List.length_nil] at this); omega) hdr
          unfold DigEnd at D0
          simp only at D0
          refine D0.mono ?_
          rintro e w9 ⟨rfl, hg9⟩
          go_wp2_with fail
          exact ⟨rfl, rfl, HGp.trans hg9⟩
        | cons a0 l0 =>
          simp only
          by_cases hd0 : isHexS a0 = false
          · simp only [if_pos hd0]
            have hn0 := hd0
            rw [hex_hex16, decide_eq_false_iff_not] at hn0
            go_enter Tryz.func140, Tryz.ntmps140
            go_upto_region 8 with (first
              | ((with_reducible refine CN.out.mono ?_); rintro e w1 ⟨rfl, hb1⟩; obtain ⟨c0, c1, c2, f1, f2⟩ := (H0.out.old hb1).all)
              | ((with_reducible refine (CI.out _).mono ?_); rintro e w2 ⟨rfl, h2⟩; have h2 := h2.symm; subst h2))
            have HRp : RdAt (w1.setCell ⟨r, 1, none⟩ (.int .i64 ((p : Int) + 1))) r A n c ((p + 1 : Nat) : Int) nd := (H0.out.old hb1).set1 _
            have HGp : w.grownBy (w1.setCell ⟨r, 1, none⟩ (.int .i64 ((p : Int) + 1))) (some r) := (grown_below hb1 _).trans (grown_set _ _ _ _)
            clear c0 c1 c2 f1 f2
            generalize w1.setCell ⟨r, 1, none⟩ (.int .i64 ((p : Int) + 1)) = W2 at *
            go_wp2_with fail
            have D0 := DG.out 16 W2 (p + 1) (a0 :: l0) (by omega) HRp HGp (by have := HQL.out; (try simp only [List.length_cons, List.length_nil] at this); omega) hdr
            unfold DigEnd at D0
            simp only at D0
            simp only [if_neg hn0] at D0
            refine D0.mono ?_
            rintro e w9 ⟨rfl, hg9⟩
            go_wp2_with fail
            exact ⟨rfl, rfl, HGp.trans hg9⟩
          · simp only [if_neg hd0]
            have hy0 : isHexS a0 = true := by simpa using hd0
            have hn0 := hy0
            rw [hex_hex16, decide_eq_true_iff] at hn0
            cases l0 with
            | nil =>
              simp only
              go_enter Tryz.func140, Tryz.ntmps140
              go_upto_region 8 with (first
                | ((with_reducible refine CN.out.mono ?_); rintro e w1 ⟨rfl, hb1⟩; obtain ⟨c0, c1, c2, f1, f2⟩ := (H0.out.old hb1).all)
                | ((with_reducible refine (CI.out _).mono ?_); rintro e w2 ⟨rfl, h2⟩; have h2 := h2.symm; subst h2))
              have HRp : RdAt (w1.setCell ⟨r, 1, none⟩ (.int .i64 ((p : Int) + 1))) r A n c ((p + 1 : Nat) : Int) nd := (H0.out.old hb1).set1 _
              have HGp : w.grownBy (w1.setCell ⟨r, 1, none⟩ (.int .i64 ((p : Int) + 1))) (some r) := (grown_below hb1 _).trans (grown_set _ _ _ _)
              clear c0 c1 c2 f1 f2
              generalize w1.setCell ⟨r, 1, none⟩ (.int .i64 ((p : Int) + 1)) = W2 at *
              go_wp2_with fail
              have D0 := DG.out 16 W2 (p + 1) (a0 :: []) (by omega) HRp HGp (by have := HQL.out; (try simp only [List.length_cons, List.length_nil] at this); omega) hdr
              unfold DigEnd at D0
              simp only at D0
              simp only [if_pos hn0] at D0
              refine D0.mono ?_
              rintro e w20 ⟨rfl, hR0, hg0⟩
              have HG0 := HGp.trans hg0
              have hpe0 : n - ([] : List UInt8).length = p + 1 + 1 := by have := HQL.out; (try simp only [List.length_cons, List.length_nil] at this ⊢); omega
              rw [hpe0] at hR0
              have hdr0 : b.drop (p + 1 + 1) = [] := by rw [← List.drop_drop, hdr]; rfl
              go_wp2_with fail
              have D1 := DG.out 16 w20 (p + 1 + 1) [] (by omega) hR0 HG0 (by have := HQL.out; (try simp only [List.length_cons, List.length_nil] at this); omega) hdr0
              unfold DigEnd at D1
              simp only at D1
              refine D1.mono ?_
              rintro e w9 ⟨rfl, hg9⟩
              go_wp2_with fail
              exact ⟨rfl, rfl, HG0.trans hg9⟩
            | cons a1 l1 =>
              simp only
              by_cases hd1 : isHexS a1 = false
              · simp only [if_pos hd1]
                have hn1 := hd1
                rw [hex_hex16, decide_eq_false_iff_not] at hn1
                go_enter Tryz.func140, Tryz.ntmps140
                go_upto_region 8 with (first
                  | ((with_reducible refine CN.out.mono ?_); rintro e w1 ⟨rfl, hb1⟩; obtain ⟨c0, c1, c2, f1, f2⟩ := (H0.out.old hb1).all)
                  | ((with_reducible refine (CI.out _).mono ?_); rintro e w2 ⟨rfl, h2⟩; have h2 := h2.symm; subst h2))
                have HRp : RdAt (w1.setCell ⟨r, 1, none⟩ (.int .i64 ((p : Int) + 1))) r A n c ((p + 1 : Nat) : Int) nd := (H0.out.old hb1).set1 _
                have HGp : w.grownBy (w1.setCell ⟨r, 1, none⟩ (.int .i64 ((p : Int) + 1))) (some r) := (grown_below hb1 _).trans (grown_set _ _ _ _)
                clear c0 c1 c2 f1 f2
                generalize w1.setCell ⟨r, 1, none⟩ (.int .i64 ((p : Int) + 1)) = W2 at *
                go_wp2_with fail
                have D0 := DG.out 16 W2 (p + 1) (a0 :: (a1 :: l1)) (by omega) HRp HGp (by have := HQL.out; (try simp only [List.length_cons, List.length_nil] at this); omega) hdr
                unfold DigEnd at D0
                simp only at D0
                simp only [if_pos hn0] at D0
                refine D0.mono ?_
                rintro e w20 ⟨rfl, hR0, hg0⟩
                have HG0 := HGp.trans hg0
                have hpe0 : n - ((a1 :: l1) : List UInt8).length = p + 1 + 1 := by have := HQL.out; (try simp only [List.length_cons, List.length_nil] at this ⊢); omega
                rw [hpe0] at hR0
                have hdr0 : b.drop (p + 1 + 1) = (a1 :: l1) := by rw [← List.drop_drop, hdr]; rfl
                go_wp2_with fail
                have D1 := DG.out 16 w20 (p + 1 + 1) (a1 :: l1) (by omega) hR0 HG0 (by have := HQL.out; (try simp only [List.length_cons, List.length_nil] at this); omega) hdr0
                unfold DigEnd at D1
                simp only at D1
                simp only [if_neg hn1] at D1
                refine D1.mono ?_
                rintro e w9 ⟨rfl, hg9⟩
                go_wp2_with fail
                exact ⟨rfl, rfl, HG0.trans hg9⟩
              · simp only [if_neg hd1]
                have hy1 : isHexS a1 = true := by simpa using hd1
                have hn1 := hy1
                rw [hex_hex16, decide_eq_true_iff] at hn1
                go_enter Tryz.func140, Tryz.ntmps140
                go_upto_region 8 with (first
                  | ((with_reducible refine CN.out.mono ?_); rintro e w1 ⟨rfl, hb1⟩; obtain ⟨c0, c1, c2, f1, f2⟩ := (H0.out.old hb1).all)
                  | ((with_reducible refine (CI.out _).mono ?_); rintro e w2 ⟨rfl, h2⟩; have h2 := h2.symm; subst h2))
                have HRp : RdAt (w1.setCell ⟨r, 1, none⟩ (.int .i64 ((p : Int) + 1))) r A n c ((p + 1 : Nat) : Int) nd := (H0.out.old hb1).set1 _
                have HGp : w.grownBy (w1.setCell ⟨r, 1, none⟩ (.int .i64 ((p : Int) + 1))) (some r) := (grown_below hb1 _).trans (grown_set _ _ _ _)
                clear c0 c1 c2 f1 f2
                generalize w1.setCell ⟨r, 1, none⟩ (.int .i64 ((p : Int) + 1)) = W2 at *
                go_wp2_with fail
                have D0 := DG.out 16 W2 (p + 1) (a0 :: (a1 :: l1)) (by omega) HRp HGp (by have := HQL.out; (try simp only [List.length_cons, List.length_nil] at this); omega) hdr
                unfold DigEnd at D0
                simp only at D0
                simp only [if_pos hn0] at D0
                refine D0.mono ?_
                rintro e w20 ⟨rfl, hR0, hg0⟩
                have HG0 := HGp.trans hg0
                have hpe0 : n - ((a1 :: l1) : List UInt8).length = p + 1 + 1 := by have := HQL.out; (try simp only [List.length_cons, List.length_nil] at this ⊢); omega
                rw [hpe0] at hR0
                have hdr0 : b.drop (p + 1 + 1) = (a1 :: l1) := by rw [← List.drop_drop, hdr]; rfl
                go_wp2_with fail
                have D1 := DG.out 16 w20 (p + 1 + 1) (a1 :: l1) (by omega) hR0 HG0 (by have := HQL.out; (try simp only [List.length_cons, List.length_nil] at this); omega) hdr0
                unfold DigEnd at D1
                simp only at D1
                simp only [if_pos hn1] at D1
                refine D1.mono ?_
                rintro e w21 ⟨rfl, hR1, hg1⟩
                have HG1 := HG0.trans hg1
                have hpe1 : n - (l1 : List UInt8).length = p + 1 + 1 + 1 := by have := HQL.out; (try simp only [List.length_cons, List.length_nil] at this ⊢); omega
                rw [hpe1] at hR1
                have hdr1 : b.drop (p + 1 + 1 + 1) = l1 := by rw [← List.drop_drop, hdr0]; rfl
                obtain ⟨u0, e0, z0⟩ : ∃ u : Nat, hexV a0 = (u : Int) ∧ u < 16 := ⟨(hexV a0).toNat, by omega, by omega⟩
                obtain ⟨u1, e1, z1⟩ : ∃ u : Nat, hexV a1 = (u : Int) ∧ u < 16 := ⟨(hexV a1).toNat, by omega, by omega⟩
                rw [e0, e1]
                go_wp2_with fail
                go_ret
                have ev : (16 * hexV a0 + hexV a1).toNat = 16 * u0 + u1 := by rw [e0, e1]; omega
                refine ⟨?_, by rw [hpe1]; exact hR1, HG1⟩
                rw [ev]
                show Ending.returned (.int .u8 (bits .or .u8 ((u0 : Int) * 16) (u1 : Int))) = Ending.returned (.int .u8 (((UInt8.ofNat (16 * u0 + u1)).toNat : Nat) : Int))
                rw [hex_or ⟨u0, z0⟩ ⟨u1, z1⟩, UInt8.toNat_ofNat', Nat.mod_eq_of_lt (by omega)]
      · simp only [if_neg hx]
        have e120 : ((x.toNat : Int) == 120) = false := by
          rw [beq_eq_false_iff_ne]; exact fun e => hx (UInt8.toNat_inj.1 (by show x.toNat = 120; omega))
        have hdr := HS.out
        unfold aOctal
        simp only
        by_cases hd0 : isOct 4 x = false
        · simp only [if_pos hd0]
          have hn0 := hd0
          rw [oct_hex4, decide_eq_false_iff_not] at hn0
          go_enter Tryz.func140, Tryz.ntmps140
          go_upto_region 9 with (first
            | ((with_reducible refine CN.out.mono ?_); rintro e w1 ⟨rfl, hb1⟩)
            | ((with_reducible refine (CI.out _).mono ?_); rintro e w2 ⟨rfl, h2⟩; have h2 := h2.symm; subst h2))
          have HRp := H0.out.old hb1
          have HGp : w.grownBy w1 (some r) := grown_below hb1 _
          generalize w1 = W2 at *
          go_wp2_with fail
          have D0 := DG.out 4 W2 (p) (x :: q') (by omega) HRp HGp (by have := HQL.out; (try simp only [List.length_cons, List.length_nil] at this); omega) hdr
          unfold DigEnd at D0
          simp only at D0
          simp only [if_neg hn0] at D0
          refine D0.mono ?_
          rintro e w9 ⟨rfl, hg9⟩
          go_wp2_with fail
          exact ⟨rfl, rfl, HGp.trans hg9⟩
        · simp only [if_neg hd0]
          have hy0 : isOct 4 x = true := by simpa using hd0
          have hn0 := hy0
          rw [oct_hex4, decide_eq_true_iff] at hn0
          cases q' with
          | nil =>
            simp only
            go_enter Tryz.func140, Tryz.ntmps140
            go_upto_region 9 with (first
              | ((with_reducible refine CN.out.mono ?_); rintro e w1 ⟨rfl, hb1⟩)
              | ((with_reducible refine (CI.out _).mono ?_); rintro e w2 ⟨rfl, h2⟩; have h2 := h2.symm; subst h2))
            have HRp := H0.out.old hb1
            have HGp : w.grownBy w1 (some r) := grown_below hb1 _
            generalize w1 = W2 at *
            go_wp2_with fail
            have D0 := DG.out 4 W2 (p) (x :: []) (by omega) HRp HGp (by have := HQL.out; (try simp only [List.length_cons, List.length_nil] at this); omega) hdr
            unfold DigEnd at D0
            simp only at D0
            simp only [if_pos hn0] at D0
            refine D0.mono ?_
            rintro e w20 ⟨rfl, hR0, hg0⟩
            have HG0 := HGp.trans hg0
            have hpe0 : n - ([] : List UInt8).length = p + 1 := by have := HQL.out; (try simp only [List.length_cons, List.length_nil] at this ⊢); omega
            rw [hpe0] at hR0
            have hdr0 : b.drop (p + 1) = [] := by rw [← List.drop_drop, hdr]; rfl
            go_wp2_with fail
            have D1 := DG.out 8 w20 (p + 1) [] (by omega) hR0 HG0 (by have := HQL.out; (try simp only [List.length_cons, List.length_nil] at this); omega) hdr0
            unfold DigEnd at D1
            simp only at D1
            refine D1.mono ?_
            rintro e w9 ⟨rfl, hg9⟩
            go_wp2_with fail
            exact ⟨rfl, rfl, HG0.trans hg9⟩
          | cons a1 l1 =>
            simp only
            by_cases hd1 : isOct 8 a1 = false
            · simp only [if_pos hd1]
              have hn1 := hd1
              rw [oct_hex8, decide_eq_false_iff_not] at hn1
              go_enter Tryz.func140, Tryz.ntmps140
              go_upto_region 9 with (first
                | ((with_reducible refine CN.out.mono ?_); rintro e w1 ⟨rfl, hb1⟩)
                | ((with_reducible refine (CI.out _).mono ?_); rintro e w2 ⟨rfl, h2⟩; have h2 := h2.symm; subst h2))
              have HRp := H0.out.old hb1
              have HGp : w.grownBy w1 (some r) := grown_below hb1 _
              generalize w1 = W2 at *
              go_wp2_with fail
              have D0 := DG.out 4 W2 (p) (x :: (a1 :: l1)) (by omega) HRp HGp (by have := HQL.out; (try simp only [List.length_cons, List.length_nil] at this); omega) hdr
              unfold DigEnd at D0
              simp only at D0
              simp only [if_pos hn0] at D0
              refine D0.mono ?_
              rintro e w20 ⟨rfl, hR0, hg0⟩
              have HG0 := HGp.trans hg0
              have hpe0 : n - ((a1 :: l1) : List UInt8).length = p + 1 := by have := HQL.out; (try simp only [List.length_cons, List.length_nil] at this ⊢); omega
              rw [hpe0] at hR0
              have hdr0 : b.drop (p + 1) = (a1 :: l1) := by rw [← List.drop_drop, hdr]; rfl
              go_wp2_with fail
              have D1 := DG.out 8 w20 (p + 1) (a1 :: l1) (by omega) hR0 HG0 (by have := HQL.out; (try simp only [List.length_cons, List.length_nil] at this); omega) hdr0
              unfold DigEnd at D1
              simp only at D1
              simp only [if_neg hn1] at D1
              refine D1.mono ?_
              rintro e w9 ⟨rfl, hg9⟩
              go_wp2_with fail
              exact ⟨rfl, rfl, HG0.trans hg9⟩
            · simp only [if_neg hd1]
              have hy1 : isOct 8 a1 = true := by simpa using hd1
              have hn1 := hy1
              rw [oct_hex8, decide_eq_true_iff] at hn1
              cases l1 with
              | nil =>
                simp only
                go_enter Tryz.func140, Tryz.ntmps140
                go_upto_region 9 with (first
                  | ((with_reducible refine CN.out.mono ?_); rintro e w1 ⟨rfl, hb1⟩)
                  | ((with_reducible refine (CI.out _).mono ?_); rintro e w2 ⟨rfl, h2⟩; have h2 := h2.symm; subst h2))
                have HRp := H0.out.old hb1
                have HGp : w.grownBy w1 (some r) := grown_below hb1 _
                generalize w1 = W2 at *
                go_wp2_with fail
                have D0 := DG.out 4 W2 (p) (x :: (a1 :: [])) (by omega) HRp HGp (by have := HQL.out; (try simp only [List.length_cons, List.length_nil] at this); omega) hdr
                unfold DigEnd at D0
                simp only at D0
                simp only [if_pos hn0] at D0
                refine D0.mono ?_
                rintro e w20 ⟨rfl, hR0, hg0⟩
                have HG0 := HGp.trans hg0
                have hpe0 : n - ((a1 :: []) : List UInt8).length = p + 1 := by have := HQL.out; (try simp only [List.length_cons, List.length_nil] at this ⊢); omega
                rw [hpe0] at hR0
                have hdr0 : b.drop (p + 1) = (a1 :: []) := by rw [← List.drop_drop, hdr]; rfl
                go_wp2_with fail
                have D1 := DG.out 8 w20 (p + 1) (a1 :: []) (by omega) hR0 HG0 (by have := HQL.out; (try simp only [List.length_cons, List.length_nil] at this); omega) hdr0
                unfold DigEnd at D1
                simp only at D1
                simp only [if_pos hn1] at D1
                refine D1.mono ?_
                rintro e w21 ⟨rfl, hR1, hg1⟩
                have HG1 := HG0.trans hg1
                have hpe1 : n - ([] : List UInt8).length = p + 1 + 1 := by have := HQL.out; (try simp only [List.length_cons, List.length_nil] at this ⊢); omega
                rw [hpe1] at hR1
                have hdr1 : b.drop (p + 1 + 1) = [] := by rw [← List.drop_drop, hdr0]; rfl
                go_wp2_with fail
                have D2 := DG.out 8 w21 (p + 1 + 1) [] (by omega) hR1 HG1 (by have := HQL.out; (try simp only [List.length_cons, List.length_nil] at this); omega) hdr1
                unfold DigEnd at D2
                simp only at D2
                refine D2.mono ?_
                rintro e w9 ⟨rfl, hg9⟩
                go_wp2_with fail
                exact ⟨rfl, rfl, HG1.trans hg9⟩
              | cons a2 l2 =>
                simp only
                by_cases hd2 : isOct 8 a2 = false
                · simp only [if_pos hd2]
                  have hn2 := hd2
                  rw [oct_hex8, decide_eq_false_iff_not] at hn2
                  go_enter Tryz.func140, Tryz.ntmps140
                  go_upto_region 9 with (first
                    | ((with_reducible refine CN.out.mono ?_); rintro e w1 ⟨rfl, hb1⟩)
                    | ((with_reducible refine (CI.out _).mono ?_); rintro e w2 ⟨rfl, h2⟩; have h2 := h2.symm; subst h2))
                  have HRp := H0.out.old hb1
                  have HGp : w.grownBy w1 (some r) := grown_below hb1 _
                  generalize w1 = W2 at *
                  go_wp2_with fail
                  have D0 := DG.out 4 W2 (p) (x :: (a1 :: (a2 :: l2))) (by omega) HRp HGp (by have := HQL.out; (try simp only [List.length_cons, List.length_nil] at this); omega) hdr
                  unfold DigEnd at D0
                  simp only at D0
                  simp only [if_pos hn0] at D0
                  refine D0.mono ?_
                  rintro e w20 ⟨rfl, hR0, hg0⟩
                  have HG0 := HGp.trans hg0
                  have hpe0 : n - ((a1 :: (a2 :: l2)) : List UInt8).length = p + 1 := by have := HQL.out; (try simp only [List.length_cons, List.length_nil] at this ⊢); omega
                  rw [hpe0] at hR0
                  have hdr0 : b.drop (p + 1) = (a1 :: (a2 :: l2)) := by rw [← List.drop_drop, hdr]; rfl
                  go_wp2_with fail
                  have D1 := DG.out 8 w20 (p + 1) (a1 :: (a2 :: l2)) (by omega) hR0 HG0 (by have := HQL.out; (try simp only [List.length_cons, List.length_nil] at this); omega) hdr0
                  unfold DigEnd at D1
                  simp only at D1
                  simp only [if_pos hn1] at D1
                  refine D1.mono ?_
                  rintro e w21 ⟨rfl, hR1, hg1⟩
                  have HG1 := HG0.trans hg1
                  have hpe1 : n - ((a2 :: l2) : List UInt8).length = p + 1 + 1 := by have := HQL.out; (try simp only [List.length_cons, List.length_nil] at this ⊢); omega
                  rw [hpe1] at hR1
                  have hdr1 : b.drop (p + 1 + 1) = (a2 :: l2) := by rw [← List.drop_drop, hdr0]; rfl
                  go_wp2_with fail
                  have D2 := DG.out 8 w21 (p + 1 + 1) (a2 :: l2) (by omega) hR1 HG1 (by have := HQL.out; (try simp only [List.length_cons, List.length_nil] at this); omega) hdr1
                  unfold DigEnd at D2
                  simp only at D2
                  simp only [if_neg hn2] at D2
                  refine D2.mono ?_
                  rintro e w9 ⟨rfl, hg9⟩
                  go_wp2_with fail
                  exact ⟨rfl, rfl, HG1.trans hg9⟩
                · simp only [if_neg hd2]
                  have hy2 : isOct 8 a2 = true := by simpa using hd2
                  have hn2 := hy2
                  rw [oct_hex8, decide_eq_true_iff] at hn2
                  go_enter Tryz.func140, Tryz.ntmps140
                  go_upto_region 9 with (first
                    | ((with_reducible refine CN.out.mono ?_); rintro e w1 ⟨rfl, hb1⟩)
                    | ((with_reducible refine (CI.out _).mono ?_); rintro e w2 ⟨rfl, h2⟩; have h2 := h2.symm; subst h2))
                  have HRp := H0.out.old hb1
                  have HGp : w.grownBy w1 (some r) := grown_below hb1 _
                  generalize w1 = W2 at *
                  go_wp2_with fail
                  have D0 := DG.out 4 W2 (p) (x :: (a1 :: (a2 :: l2))) (by omega) HRp HGp (by have := HQL.out; (try simp only [List.length_cons, List.length_nil] at this); omega) hdr
                  unfold DigEnd at D0
                  simp only at D0
                  simp only [if_pos hn0] at D0
                  refine D0.mono ?_
                  rintro e w20 ⟨rfl, hR0, hg0⟩
                  have HG0 := HGp.trans hg0
                  have hpe0 : n - ((a1 :: (a2 :: l2)) : List UInt8).length = p + 1 := by have := HQL.out; (try simp only [List.length_cons, List.length_nil] at this ⊢); omega
                  rw [hpe0] at hR0
                  have hdr0 : b.drop (p + 1) = (a1 :: (a2 :: l2)) := by rw [← List.drop_drop, hdr]; rfl
                  go_wp2_with fail
                  have D1 := DG.out 8 w20 (p + 1) (a1 :: (a2 :: l2)) (by omega) hR0 HG0 (by have := HQL.out; (try simp only [List.length_cons, List.length_nil] at this); omega) hdr0
                  unfold DigEnd at D1
                  simp only at D1
                  simp only [if_pos hn1] at D1
                  refine D1.mono ?_
                  rintro e w21 ⟨rfl, hR1, hg1⟩
                  have HG1 := HG0.trans hg1
                  have hpe1 : n - ((a2 :: l2) : List UInt8).length = p + 1 + 1 := by have := HQL.out; (try simp only [List.length_cons, List.length_nil] at this ⊢); omega
                  rw [hpe1] at hR1
                  have hdr1 : b.drop (p + 1 + 1) = (a2 :: l2) := by rw [← List.drop_drop, hdr0]; rfl
                  go_wp2_with fail
                  have D2 := DG.out 8 w21 (p + 1 + 1) (a2 :: l2) (by omega) hR1 HG1 (by have := HQL.out; (try simp only [List.length_cons, List.length_nil] at this); omega) hdr1
                  unfold DigEnd at D2
                  simp only at D2
                  simp only [if_pos hn2] at D2
                  refine D2.mono ?_
                  rintro e w22 ⟨rfl, hR2, hg2⟩
                  have HG2 := HG1.trans hg2
                  have hpe2 : n - (l2 : List UInt8).length = p + 1 + 1 + 1 := by have := HQL.out; (try simp only [List.length_cons, List.length_nil] at this ⊢); omega
                  rw [hpe2] at hR2
                  have hdr2 : b.drop (p + 1 + 1 + 1) = l2 := by rw [← List.drop_drop, hdr1]; rfl
                  obtain ⟨u0, e0, z0⟩ : ∃ u : Nat, hexV x = (u : Int) ∧ u < 4 := ⟨(hexV x).toNat, by omega, by omega⟩
                  obtain ⟨u1, e1, z1⟩ : ∃ u : Nat, hexV a1 = (u : Int) ∧ u < 8 := ⟨(hexV a1).toNat, by omega, by omega⟩
                  obtain ⟨u2, e2, z2⟩ : ∃ u : Nat, hexV a2 = (u : Int) ∧ u < 8 := ⟨(hexV a2).toNat, by omega, by omega⟩
                  rw [e0, e1, e2]
                  go_wp2_with fail
                  go_ret
                  have v0 := (oct_val4 x hy0).1
                  have v1 := oct_val a1 hy1
                  have v2 := oct_val a2 hy2
                  have ev : 64 * (x.toNat - 48) + 8 * (a1.toNat - 48) + (a2.toNat - 48) = 64 * u0 + 8 * u1 + u2 := by omega
                  refine ⟨?_, by rw [hpe2]; exact hR2, HG2⟩
                  rw [ev]
                  show Ending.returned (.int .u8 (bits .or .u8 (bits .or .u8 ((u0 : Int) * 64) ((u1 : Int) * 8)) (u2 : Int))) = Ending.returned (.int .u8 (((UInt8.ofNat (64 * u0 + 8 * u1 + u2)).toNat : Nat) : Int))
                  rw [oct_or ⟨u0, z0⟩ ⟨u1, z1⟩ ⟨u2, z2⟩, UInt8.toNat_ofNat', Nat.mod_eq_of_lt (by omega)]
    · rw [hna]
      rw [hix] at CI
      simp only
      have hwp : IntKind.i64.wrap ((p : Int) + 1) = (p : Int) + 1 := IntWalk.i64_in _ (by omega)
      have hfin : n - q'.length = p + 1 := by have := HQL.out; omega
      rcases (show i = 0 ∨ i = 1 ∨ i = 2 ∨ i = 3 ∨ i = 4 ∨ i = 5 ∨ i = 6 ∨ i = 7 ∨ i = 8 by omega) with rfl | rfl | rfl | rfl | rfl | rfl | rfl | rfl | rfl
      · have CJ : Hid (∀ V, Calls Tryz.prog 88 #[.string escS, .int .u8 x.toNat] V fun e w' => e = .returned (.int .i64 0) ∧ w' = V) := CI
        clear CI hix
        go_enter Tryz.func140, Tryz.ntmps140
        go_wp2_with (first
          | ((with_reducible refine CN.out.mono ?_); rintro e w1 ⟨rfl, hb1⟩; obtain ⟨c0, c1, c2, f1, f2⟩ := (H0.out.old hb1).all)
          | ((with_reducible refine (CJ.out _).mono ?_); rintro e w2 ⟨rfl, h2⟩; have h2 := h2.symm; subst h2))
        go_ret
        refine ⟨rfl, ?_, (grown_below hb1 _).trans (grown_set _ _ _ _)⟩
        rw [hfin]
        exact (H0.out.old hb1).set1 _
      · have CJ : Hid (∀ V, Calls Tryz.prog 88 #[.string escS, .int .u8 x.toNat] V fun e w' => e = .returned (.int .i64 1) ∧ w' = V) := CI
        clear CI hix
        go_enter Tryz.func140, Tryz.ntmps140
        go_wp2_with (first
          | ((with_reducible refine CN.out.mono ?_); rintro e w1 ⟨rfl, hb1⟩; obtain ⟨c0, c1, c2, f1, f2⟩ := (H0.out.old hb1).all)
          | ((with_reducible refine (CJ.out _).mono ?_); rintro e w2 ⟨rfl, h2⟩; have h2 := h2.symm; subst h2))
        go_ret
        refine ⟨rfl, ?_, (grown_below hb1 _).trans (grown_set _ _ _ _)⟩
        rw [hfin]
        exact (H0.out.old hb1).set1 _
      · have CJ : Hid (∀ V, Calls Tryz.prog 88 #[.string escS, .int .u8 x.toNat] V fun e w' => e = .returned (.int .i64 2) ∧ w' = V) := CI
        clear CI hix
        go_enter Tryz.func140, Tryz.ntmps140
        go_wp2_with (first
          | ((with_reducible refine CN.out.mono ?_); rintro e w1 ⟨rfl, hb1⟩; obtain ⟨c0, c1, c2, f1, f2⟩ := (H0.out.old hb1).all)
          | ((with_reducible refine (CJ.out _).mono ?_); rintro e w2 ⟨rfl, h2⟩; have h2 := h2.symm; subst h2))
        go_ret
        refine ⟨rfl, ?_, (grown_below hb1 _).trans (grown_set _ _ _ _)⟩
        rw [hfin]
        exact (H0.out.old hb1).set1 _
      · have CJ : Hid (∀ V, Calls Tryz.prog 88 #[.string escS, .int .u8 x.toNat] V fun e w' => e = .returned (.int .i64 3) ∧ w' = V) := CI
        clear CI hix
        go_enter Tryz.func140, Tryz.ntmps140
        go_wp2_with (first
          | ((with_reducible refine CN.out.mono ?_); rintro e w1 ⟨rfl, hb1⟩; obtain ⟨c0, c1, c2, f1, f2⟩ := (H0.out.old hb1).all)
          | ((with_reducible refine (CJ.out _).mono ?_); rintro e w2 ⟨rfl, h2⟩; have h2 := h2.symm; subst h2))
        go_ret
        refine ⟨rfl, ?_, (grown_below hb1 _).trans (grown_set _ _ _ _)⟩
        rw [hfin]
        exact (H0.out.old hb1).set1 _
      · have CJ : Hid (∀ V, Calls Tryz.prog 88 #[.string escS, .int .u8 x.toNat] V fun e w' => e = .returned (.int .i64 4) ∧ w' = V) := CI
        clear CI hix
        go_enter Tryz.func140, Tryz.ntmps140
        go_wp2_with (first
          | ((with_reducible refine CN.out.mono ?_); rintro e w1 ⟨rfl, hb1⟩; obtain ⟨c0, c1, c2, f1, f2⟩ := (H0.out.old hb1).all)
          | ((with_reducible refine (CJ.out _).mono ?_); rintro e w2 ⟨rfl, h2⟩; have h2 := h2.symm; subst h2))
        go_ret
        refine ⟨rfl, ?_, (grown_below hb1 _).trans (grown_set _ _ _ _)⟩
        rw [hfin]
        exact (H0.out.old hb1).set1 _
      · have CJ : Hid (∀ V, Calls Tryz.prog 88 #[.string escS, .int .u8 x.toNat] V fun e w' => e = .returned (.int .i64 5) ∧ w' = V) := CI
        clear CI hix
        go_enter Tryz.func140, Tryz.ntmps140
        go_wp2_with (first
          | ((with_reducible refine CN.out.mono ?_); rintro e w1 ⟨rfl, hb1⟩; obtain ⟨c0, c1, c2, f1, f2⟩ := (H0.out.old hb1).all)
          | ((with_reducible refine (CJ.out _).mono ?_); rintro e w2 ⟨rfl, h2⟩; have h2 := h2.symm; subst h2))
        go_ret
        refine ⟨rfl, ?_, (grown_below hb1 _).trans (grown_set _ _ _ _)⟩
        rw [hfin]
        exact (H0.out.old hb1).set1 _
      · have CJ : Hid (∀ V, Calls Tryz.prog 88 #[.string escS, .int .u8 x.toNat] V fun e w' => e = .returned (.int .i64 6) ∧ w' = V) := CI
        clear CI hix
        go_enter Tryz.func140, Tryz.ntmps140
        go_wp2_with (first
          | ((with_reducible refine CN.out.mono ?_); rintro e w1 ⟨rfl, hb1⟩; obtain ⟨c0, c1, c2, f1, f2⟩ := (H0.out.old hb1).all)
          | ((with_reducible refine (CJ.out _).mono ?_); rintro e w2 ⟨rfl, h2⟩; have h2 := h2.symm; subst h2))
        go_ret
        refine ⟨rfl, ?_, (grown_below hb1 _).trans (grown_set _ _ _ _)⟩
        rw [hfin]
        exact (H0.out.old hb1).set1 _
      · have CJ : Hid (∀ V, Calls Tryz.prog 88 #[.string escS, .int .u8 x.toNat] V fun e w' => e = .returned (.int .i64 7) ∧ w' = V) := CI
        clear CI hix
        go_enter Tryz.func140, Tryz.ntmps140
        go_wp2_with (first
          | ((with_reducible refine CN.out.mono ?_); rintro e w1 ⟨rfl, hb1⟩; obtain ⟨c0, c1, c2, f1, f2⟩ := (H0.out.old hb1).all)
          | ((with_reducible refine (CJ.out _).mono ?_); rintro e w2 ⟨rfl, h2⟩; have h2 := h2.symm; subst h2))
        go_ret
        refine ⟨rfl, ?_, (grown_below hb1 _).trans (grown_set _ _ _ _)⟩
        rw [hfin]
        exact (H0.out.old hb1).set1 _
      · have CJ : Hid (∀ V, Calls Tryz.prog 88 #[.string escS, .int .u8 x.toNat] V fun e w' => e = .returned (.int .i64 8) ∧ w' = V) := CI
        clear CI hix
        go_enter Tryz.func140, Tryz.ntmps140
        go_wp2_with (first
          | ((with_reducible refine CN.out.mono ?_); rintro e w1 ⟨rfl, hb1⟩; obtain ⟨c0, c1, c2, f1, f2⟩ := (H0.out.old hb1).all)
          | ((with_reducible refine (CJ.out _).mono ?_); rintro e w2 ⟨rfl, h2⟩; have h2 := h2.symm; subst h2))
        go_ret
        refine ⟨rfl, ?_, (grown_below hb1 _).trans (grown_set _ _ _ _)⟩
        rw [hfin]
        exact (H0.out.old hb1).set1 _
end Go.Proofs.YtcojkmcnigppbaaGreatDoor.Nt
end
section
set_option maxRecDepth 100000
namespace Go.Proofs.YtcojkmcnigppbaaGreatDoor.Nt
open Go Go.Proofs Go.RowKit Sx Oct
def addQ (acc : List UInt8) (x : Res (List UInt8)) : Res (List UInt8) := match x with
  | .ok l q => .ok (acc ++ l) q
  | .err e q => .err e q
theorem addQ_more (acc : List UInt8) (y : UInt8) (x : Res (List UInt8)) : addQ acc (match x with | .err e q => .err e q | .ok l q => .ok (y :: l) q) = addQ (acc ++ [y]) x := by
  cases x <;> simp [addQ]
def QHas (w wr : World) (r : Nat) (A : Option Addr) (n c : Nat) (nd : Int) (b : List UInt8) (acc : List UInt8) (v : Value) (p : Nat) (s : List UInt8) : Prop :=
  wr.ownsRow w.heap.size 5 1 v acc.length (Lib.byteCells acc) ∧ RdAt wr r A n c (p : Nat) nd ∧ w.grownBy wr (some r) ∧ b.drop p = s ∧ p + s.length = n ∧ acc.length ≤ p
theorem QHas.next {w wr w' : World} {r : Nat} {A : Option Addr} {n c : Nat} {nd : Int} {b acc : List UInt8} {v : Value} {p : Nat} {s : List UInt8} (h : QHas w wr r A n c nd b acc v p s) (hr : r < w.heap.size) (hb : Below wr.heap.size wr w') : QHas w w' r A n c nd b acc v p s :=
  ⟨own_grown h.1 (grown_below hb (some r)) hr, h.2.1.old hb, h.2.2.1.trans (grown_below hb (some r)), h.2.2.2⟩
theorem QHas.move {w wr w' : World} {r : Nat} {A : Option Addr} {n c : Nat} {nd : Int} {b acc : List UInt8} {v : Value} {p q : Nat} {s l : List UInt8} (h : QHas w wr r A n c nd b acc v p s) (hr : r < w.heap.size) (hg : wr.grownBy w' (some r)) (hR : RdAt w' r A n c (q : Nat) nd)
    (hd : b.drop q = l) (hq : q + l.length = n) (ha : acc.length ≤ q) : QHas w w' r A n c nd b acc v q l :=
  ⟨own_grown h.1 hg hr, hR, h.2.2.1.trans hg, hd, hq, ha⟩
theorem grown_own2 {w wr w' : World} {r : Nat} {row : Option Nat} (hg : w.grownBy wr (some r)) (h : wr.grownBy w' row) (hrow : ∀ k, row = some k → w.heap.size ≤ k) : w.grownBy w' (some r) :=
  ⟨h.os.trans hg.os, h.tape.trans hg.tape, h.output.trans hg.output, Nat.le_trans hg.size h.size, fun k hk hne => (h.block k (Nat.lt_of_lt_of_le hk hg.size) (fun e => by have := hrow k e.symm; omega)).trans (hg.block k hk hne)⟩
theorem RdAt.grown {w w' : World} {r : Nat} {A : Option Addr} {n c : Nat} {p nd : Int} {row : Option Nat} (h : RdAt w r A n c p nd) (hg : w.grownBy w' row) (hr : some r ≠ row) : RdAt w' r A n c p nd := (hg.block r h.lt hr).trans h
set_option maxHeartbeats 8000000 in
theorem quoted_any (r : Nat) (A : Option Addr) (n c p : Nat) (nd : Int) (b : List UInt8) (B : Nat) (w : World) (h : RdAt w r A n c p nd) (hr : Reads w B 1 A n (Lib.byteCells b)) (hB : B ≤ r) (hp : p ≤ n) (hn : n ≤ 20000) (hc : n ≤ c) (q : List UInt8) (hs : b.drop p = 34 :: q) :
    Calls Tryz.prog 127 #[.pointer (some ⟨r, 0, none⟩)] w fun e w' => AtomEnd w r A n c nd e w' (aQuoted (q.length + 1) q) := by
  have hl : b.length = n := by have := hr.1; simpa [Lib.byteCells_length] using this
  have hql : q.length + 1 = n - p := by have := congrArg List.length hs; rw [List.length_drop, hl] at this; simpa using this.symm
  have hrl := hid h.lt
  have HR := hid hr
  have CE := expect_any 34 r A n c p nd b B w h hr hB hp hn hc (34 :: q) hs
  unfold ExpEnd at CE
  rw [show skip (34 :: q) = 34 :: q by simp [Sx.skip, List.dropWhile, isBlank]] at CE
  simp only [if_true] at CE
  have CE := hid CE
  have hpe : n - q.length = p + 1 := by omega
  rw [hpe] at CE
  have CE : Hid (Calls Tryz.prog 53 #[.pointer (some ⟨r, 0, none⟩), .int .u8 34] w fun e w' => e = .returned (.tuple #[]) ∧ RdAt w' r A n c ((p + 1 : Nat) : Int) nd ∧ w.grownBy w' (some r)) := CE
  have hd1 : b.drop (p + 1) = q := by rw [← List.drop_drop, hs]; rfl
  have hL1 : p + 1 + q.length = n := by omega
  have HD1 := hid hd1
  have NA : Hid (∀ W pp x l, RdAt W r A n c (pp : Nat) nd → w.grownBy W (some r) → b.drop pp = x :: l → pp + (x :: l).length = n → Calls Tryz.prog 85 #[.pointer (some ⟨r, 0, none⟩)] W fun e w' => e = .returned (.int .u8 x.toNat) ∧ Below W.heap.size W w') := hid fun W pp x l hW hg hd hlen =>
    next_at r A n c pp nd b B W hW (reads_grown HR.out hg hB) (by simp at hlen; omega) hn x l hd
  have NE : Hid (∀ W pp, RdAt W r A n c (pp : Nat) nd → pp + ([] : List UInt8).length = n → Calls Tryz.prog 85 #[.pointer (some ⟨r, 0, none⟩)] W fun e w' => Thrown 2 n e ∧ Below W.heap.size W w') := hid fun W pp hW hlen =>
    next_end r A n c pp nd W hW (by simp at hlen; omega) hn (by simp at hlen; omega)
  have ES : Hid (∀ W pp l, RdAt W r A n c (pp : Nat) nd → w.grownBy W (some r) → b.drop pp = l → pp + l.length = n → Calls Tryz.prog 140 #[.pointer (some ⟨r, 0, none⟩)] W fun e w' => EscEnd W r A n c nd e w' (aEsc l)) := hid fun W pp l hW hg hd hlen =>
    escaped_any r A n c pp nd b B W hW (reads_grown HR.out hg hB) hB (by omega) hn hc l hd
  obtain ⟨ib, hib, hzb0, hzb1, hzb2⟩ := info_parts infoB
  have HIB := hid hib
  have hpn : p ≤ 20000 := by omega
  obtain ⟨R, hR⟩ : ∃ R, Hid (R = aQuoted (q.length + 1) q) := ⟨_, hid rfl⟩
  rw [← hR.out]
  clear h hr hs hl hd1 hib hql hpe
  go_enter Tryz.func127, Tryz.ntmps127
  go_wp2_with ((with_reducible refine CE.out.mono ?_); rintro e w1 ⟨rfl, hR1, hg1⟩)
  have HQ1 : Hid (QHas w w1 r A n c nd b [] (.slice none 0 0) (p + 1) q) := hid ⟨⟨rfl, .inl ⟨rfl, rfl⟩⟩, hR1, hg1, HD1.out, hL1, by simp⟩
  have HRQ : Hid (R = addQ [] (aQuoted (q.length + 1) q)) := hid (by rw [hR.out]; cases aQuoted (q.length + 1) q <;> simp [addQ])
  clear hR1 hg1 CE HD1 hR
  go_loopg [3] (q.length + 1) (fun gg v wr => ∃ (acc s : List UInt8) (pp f : Nat), Hid (QHas w wr r A n c nd b acc v pp s) ∧ Hid (R = addQ acc (aQuoted f s)) ∧ s.length < f ∧ gg = s.length + 1)
  case atStart => exact ⟨[], q, p + 1, q.length + 1, HQ1, HRQ, by omega, rfl⟩
  case round =>
    obtain ⟨acc, s, pp, f, HQ, HRR, hf, hgk⟩ := hrel
    clear HQ1 HRQ
    obtain ⟨f', rfl⟩ : ∃ f', f = f' + 1 := ⟨f - 1, by omega⟩
    cases s with
    | nil =>
      have C := hid (NE.out wr pp HQ.out.2.1 HQ.out.2.2.2.2.1)
      have HRe : Hid (R = .err 2 []) := hid (by rw [HRR.out]; rfl)
      go_wp2_with ((with_reducible refine C.out.mono ?_); rintro e w3 ⟨rfl, hb3⟩)
      rw [HRe.out]
      exact ⟨rfl, rfl, HQ.out.2.2.1.trans (grown_below hb3 _)⟩
    | cons x l =>
      have C := hid (NA.out wr pp x l HQ.out.2.1 HQ.out.2.2.1 HQ.out.2.2.2.1 HQ.out.2.2.2.2.1)
      have hlen : pp + (l.length + 1) = n := HQ.out.2.2.2.2.1
      by_cases hx : x = 34
      · have HX := hid hx
        have hne : ((x.toNat : Int) != 34) = false := by rw [hx]; rfl
        have HRe : Hid (R = .ok acc l) := hid (by rw [HRR.out]; unfold aQuoted; rw [if_pos hx]; simp [addQ])
        clear hx
        go_wp2_with ((with_reducible refine C.out.mono ?_); rintro e w3 ⟨rfl, hb3⟩; have HQ3 := hid (HQ.out.next hrl.out hb3); obtain ⟨c0, c1, c2, f1, f2⟩ := HQ3.out.2.1.all)
        have hwp : IntKind.i64.wrap ((pp : Int) + 1) = (pp : Int) + 1 := IntWalk.i64_in _ (by omega)
        go_wp2_with fail
        go_ret
        obtain ⟨o1, o2, o3, _⟩ := HQ3.out
        obtain ⟨A', c', rfl, h1, h2⟩ := RIn.of_own o1
        rw [HRe.out]
        refine ⟨A', c', rfl, h1, h2.far (p := ⟨r, 1, none⟩) (fun k hk => by show k ≠ r; have := hrl.out; omega) _, ?_, o3.trans (grown_set _ _ _ _)⟩
        rw [show n - l.length = pp + 1 by omega]
        exact o2.set1 _
      · have hne : ((x.toNat : Int) != 34) = true := by rw [bne_iff_ne]; exact fun e => hx (UInt8.toNat_inj.1 (by show x.toNat = 34; omega))
        have hpp : pp ≤ 20000 := by omega
        have hdl : Hid (b.drop (pp + 1) = l) := hid (by rw [← List.drop_drop, HQ.out.2.2.2.1]; rfl)
        have hwp : IntKind.i64.wrap ((pp : Int) + 1) = (pp : Int) + 1 := IntWalk.i64_in _ (by omega)
        have hac := HQ.out.2.2.2.2.2
        by_cases hx2 : x = 92
        · skip
          have h92 : ((x.toNat : Int) == 92) = true := by rw [hx2]; rfl
          have HX2 := hid hx2
          go_wp2_with ((with_reducible refine C.out.mono ?_); rintro e w3 ⟨rfl, hb3⟩)
          have HQ3 := hid (HQ.out.next hrl.out hb3)
          have C2 := hid (NA.out w3 pp x l HQ3.out.2.1 HQ3.out.2.2.1 HQ3.out.2.2.2.1 HQ3.out.2.2.2.2.1)
          clear hb3
          refine C2.out.mono ?_
          rintro e w4 ⟨rfl, hb4⟩
          have HQ4 := hid (HQ3.out.next hrl.out hb4)
          clear hb4
          obtain ⟨c0, c1, c2, f1, f2⟩ := HQ4.out.2.1.all
          have HQ5 : Hid (QHas w (w4.setCell ⟨r, 1, none⟩ (.int .i64 ((pp : Int) + 1))) r A n c nd b acc _ (pp + 1) l) := hid (HQ4.out.move hrl.out (grown_set _ _ _ _) (HQ4.out.2.1.set1 _) hdl.out (by omega) (by omega))
          go_upto_region 7 with fail
          generalize w4.setCell ⟨r, 1, none⟩ (.int .i64 ((pp : Int) + 1)) = W5 at *
          (try simp only [Act.put, zA, zB, zC])
          clear c0 c1 c2 f1 f2 HQ3 HQ4
          have hfine := aEsc_fine l
          go_wp2_with fail
          have CX := ES.out W5 (pp + 1) l HQ5.out.2.1 HQ5.out.2.2.1 HQ5.out.2.2.2.1 HQ5.out.2.2.2.2.1
          cases hae : aEsc l with
          | err k rest =>
            rw [hae] at CX
            have HRe : Hid (R = .err k rest) := hid (by rw [HRR.out, aQuoted, if_neg hx, if_pos HX2.out, hae]; rfl)
            refine CX.mono ?_
            rintro e w6 ⟨rfl, hg6⟩
            go_wp2_with fail
            rw [HRe.out]
            exact ⟨rfl, rfl, HQ5.out.2.2.1.trans hg6⟩
          | ok y rest =>
            rw [hae] at CX hfine
            have HRe : Hid (R = addQ (acc ++ [y]) (aQuoted f' rest)) := hid (by rw [HRR.out, aQuoted, if_neg hx, if_pos HX2.out, hae]; exact addQ_more acc y _)
            have htl : Tail rest l := hfine
            have hrl2 := htl.le
            obtain ⟨pr, hpr⟩ := namedN (n - rest.length)
            have hdr : b.drop pr = rest := by
              have h1 : l.drop (l.length - rest.length) = rest := htl.at_
              have h2 : b.drop (pp + 1 + (l.length - rest.length)) = rest := by rw [← List.drop_drop, hdl.out]; exact h1
              have h3 : pr = pp + 1 + (l.length - rest.length) := by rw [hpr.out]; have := HQ5.out.2.2.2.2.1; omega
              rw [h3]; exact h2
            refine CX.mono ?_
            rintro e w6 ⟨rfl, hR6, hg6⟩
            rw [← hpr.out] at hR6
            have hpn2 : pr + rest.length = n := by rw [hpr.out]; omega
            have HQ6 := hid (HQ5.out.move hrl.out hg6 hR6 hdr hpn2 (by omega))
            clear hR6 hg6
            go_upto_region 8 with fail
            (try simp only [Act.put, zA, zB, zC])
            have hnb := below_new w6 (.cells #[.int .u8 (y.toNat : Nat)] 5)
            have hown2 := own_grown HQ6.out.1 (grown_below hnb (some r)) hrl.out
            have hrd : Reads (w6.alloc (.cells #[.int .u8 (y.toNat : Nat)] 5)) (w6.heap.size + 1) 1 (some ⟨w6.heap.size, 0, none⟩) 1 (Lib.byteCells [y]) := by
              refine ⟨rfl, fun _ => ⟨_, rfl, by simp, fun j u hj => ?_⟩⟩
              have e2 : (⟨w6.heap.size, 0, none⟩ : Addr).add j = ⟨w6.heap.size, j, none⟩ := by unfold Addr.add; split <;> simp_all
              rw [e2]
              exact (Lib.cell_of_heap (heap_alloc_new w6 _) j).trans (by simpa [Lib.byteCells] using hj)
            have HRD := HQ6.out.2.1.old hnb
            have HGD := HQ6.out.2.2.1.trans (grown_below hnb (some r))
            have hzz : w.heap.size ≤ (w6.alloc (.cells #[.int .u8 (y.toNat : Nat)] 5)).heap.size := HGD.size
            have hal2 : acc.length ≤ 20000 := by omega
            have HRD2 := hid HRD
            have HGD2 := hid HGD
            have HOW := hid hown2
            clear HRD HGD hnb
            go_wp2_with (at_builtin; refine wpList_append_any _ rfl (.tmp 23) (.tmp 25) 22 rfl w.heap.size 5 ib (.int .u8 0) 1 1 Tryz.underlying22 HIB.out hzb0 hzb1 hzb2 rfl (by omega) _ acc.length (Lib.byteCells acc) rfl hown2 _ _ 1 _ (Lib.byteCells [y]) rfl hrd (Lib.byteCells_one _) (by unfold maxLen; omega) (by omega) (by exact hzz) ?_; intro v5 w5 hown5 hg5 hv5)
            rw [← Lib.byteCells_append] at hown5
            have HQF : Hid (QHas w w5 r A n c nd b (acc ++ [y]) v5 (pr) rest) := hid ⟨by simpa using hown5, HRD2.out.grown hg5 (fun e => by have := own_lt HOW.out e.symm; have := hrl.out; omega), grown_own2 HGD2.out hg5 (fun k hk => (own_lt HOW.out hk).1), HQ6.out.2.2.2.1, HQ6.out.2.2.2.2.1, by have := HQ6.out.2.2.2.2.2; simp; omega⟩
            clear hown5 hg5 hv5 hrd hown2 HRD2 HGD2 HOW
            go_wp2_with fail
            go_roundg (rest.length + 1)
            case measure => simp only [List.length_cons] at hf hgk; omega
            case rel => exact ⟨acc ++ [y], rest, pr, f', HQF, HRe, by simp only [List.length_cons] at hf hgk; omega, rfl⟩
        · have HRe : Hid (R = addQ (acc ++ [x]) (aQuoted f' l)) := hid (by rw [HRR.out, aQuoted, if_neg hx, if_neg hx2]; exact addQ_more acc x _)
          have h92 : ((x.toNat : Int) == 92) = false := by
            rw [beq_eq_false_iff_ne]; exact fun e => hx2 (UInt8.toNat_inj.1 (by show x.toNat = 92; omega))
          go_wp2_with ((with_reducible refine C.out.mono ?_); rintro e w3 ⟨rfl, hb3⟩)
          have HQ3 := hid (HQ.out.next hrl.out hb3)
          have C2 := hid (NA.out w3 pp x l HQ3.out.2.1 HQ3.out.2.2.1 HQ3.out.2.2.2.1 HQ3.out.2.2.2.2.1)
          clear hb3
          refine C2.out.mono ?_
          rintro e w4 ⟨rfl, hb4⟩
          have HQ4 := hid (HQ3.out.next hrl.out hb4)
          clear hb4
          obtain ⟨c0, c1, c2, f1, f2⟩ := HQ4.out.2.1.all
          have HQ5 : Hid (QHas w (w4.setCell ⟨r, 1, none⟩ (.int .i64 ((pp : Int) + 1))) r A n c nd b acc _ (pp + 1) l) := hid (HQ4.out.move hrl.out (grown_set _ _ _ _) (HQ4.out.2.1.set1 _) hdl.out (by omega) (by omega))
          go_upto_region 8 with fail
          generalize w4.setCell ⟨r, 1, none⟩ (.int .i64 ((pp : Int) + 1)) = W5 at *
          (try simp only [Act.put, zA, zB, zC])
          clear c0 c1 c2 f1 f2 HQ3 HQ4
          have hnb := below_new W5 (.cells #[.int .u8 (x.toNat : Nat)] 5)
          have hown2 := own_grown HQ5.out.1 (grown_below hnb (some r)) hrl.out
          have hrd : Reads (W5.alloc (.cells #[.int .u8 (x.toNat : Nat)] 5)) (W5.heap.size + 1) 1 (some ⟨W5.heap.size, 0, none⟩) 1 (Lib.byteCells [x]) := by
            refine ⟨rfl, fun _ => ⟨_, rfl, by simp, fun j u hj => ?_⟩⟩
            have e2 : (⟨W5.heap.size, 0, none⟩ : Addr).add j = ⟨W5.heap.size, j, none⟩ := by unfold Addr.add; split <;> simp_all
            rw [e2]
            exact (Lib.cell_of_heap (heap_alloc_new W5 _) j).trans (by simpa [Lib.byteCells] using hj)
          have HRD := HQ5.out.2.1.old hnb
          have HGD := HQ5.out.2.2.1.trans (grown_below hnb (some r))
          have hzz : w.heap.size ≤ (W5.alloc (.cells #[.int .u8 (x.toNat : Nat)] 5)).heap.size := HGD.size
          have hal2 : acc.length ≤ 20000 := by omega
          have HRD2 := hid HRD
          have HGD2 := hid HGD
          have HOW := hid hown2
          clear HRD HGD hnb
          go_wp2_with (at_builtin; refine wpList_append_any _ rfl (.tmp 23) (.tmp 25) 22 rfl w.heap.size 5 ib (.int .u8 0) 1 1 Tryz.underlying22 HIB.out hzb0 hzb1 hzb2 rfl (by omega) _ acc.length (Lib.byteCells acc) rfl hown2 _ _ 1 _ (Lib.byteCells [x]) rfl hrd (Lib.byteCells_one _) (by unfold maxLen; omega) (by omega) (by exact hzz) ?_; intro v5 w5 hown5 hg5 hv5)
          rw [← Lib.byteCells_append] at hown5
          have HQF : Hid (QHas w w5 r A n c nd b (acc ++ [x]) v5 (pp + 1) l) := hid ⟨by simpa using hown5, HRD2.out.grown hg5 (fun e => by have := own_lt HOW.out e.symm; have := hrl.out; omega), grown_own2 HGD2.out hg5 (fun k hk => (own_lt HOW.out hk).1), HQ5.out.2.2.2.1, HQ5.out.2.2.2.2.1, by have := HQ5.out.2.2.2.2.2; simp; omega⟩
          clear hown5 hg5 hv5 hrd hown2 HRD2 HGD2 HOW
          go_wp2_with fail
          go_roundg (l.length + 1)
          case measure => simp only [List.length_cons] at hf hgk; omega
          case rel => exact ⟨acc ++ [x], l, pp + 1, f', HQF, HRe, by simp only [List.length_cons] at hf hgk; omega, rfl⟩
end Go.Proofs.YtcojkmcnigppbaaGreatDoor.Nt
end
section
set_option maxRecDepth 100000
namespace Go.Proofs.YtcojkmcnigppbaaGreatDoor.Nt
open Go Go.Proofs Go.RowKit Sx Oct
set_option maxHeartbeats 2000000 in
theorem write_any (B b : Nat) (bs : List Value) (ad : Addr) (m c : Nat) (news : List Value) (w : World) (h : Lib.IsBuilderF 74 5 B b bs w) (hl : news.length = m * 1) (hnews : ∀ j u, news[j]? = some u → w.cell? (ad.add j) = some u) (h1 : ∀ u ∈ news, u.oneCell' = true) (had : ad.block ≠ b) (had2 : ad.block < w.heap.size)
    (hlen : bs.length + m ≤ 140737488355328) (hBw : B ≤ w.heap.size) :
    Calls Tryz.prog 86 #[.pointer (some ⟨b, 0, none⟩), .slice (some ad) m c] w fun e w' => e = .returned (.tuple #[.int .i64 m, .nilIface]) ∧ (Lib.IsBuilderF 74 5 B b (bs ++ news) w' ∧ Below B w w') := by
  obtain ⟨i0, hi, hz0, hz1, hz2⟩ := info_parts infoByte
  have C : Hid (∃ w1 : World, Lib.BuilderAtF 74 5 B b (.pointer (some ⟨b, 0, none⟩)) bs w1 ∧ Below B w w1 ∧ (∀ j u, news[j]? = some u → w1.cell? (ad.add j) = some u) ∧ Calls Tryz.prog 78 #[.pointer (some ⟨b, 0, none⟩)] w fun e w' => e = .returned (.tuple #[]) ∧ w' = w1) := hid (by
    rcases h with h | h
    · refine ⟨_, h.used _, (Below.refl B w).setCell (p := ⟨b, 0, none⟩) h.1 _, fun j u hj => ?_, copyCheck_fresh b w h.cell0 h.shape h.frozen0⟩
      rw [World.cell?_of_block (Below.heap_setCell w ⟨b, 0, none⟩ _ (ad.add j).block (by rw [block_of_add]; exact had))]
      exact hnews j u hj
    · exact ⟨w, h, Below.refl B _, hnews, copyCheck_used b w h.cell0⟩)
  obtain ⟨w1, hx1, hb1, hnews1, CC⟩ := C.out
  have CC := hid CC
  clear C h hnews
  obtain ⟨hB, v, hbk, hown, hne⟩ := hx1
  have c0 : w1.cell? ⟨b, 0, none⟩ = some (.pointer (some ⟨b, 0, none⟩)) := by rw [Lib.cell_of_heap hbk]; rfl
  have c1 : w1.cell? ⟨b, 1, none⟩ = some v := by rw [Lib.cell_of_heap hbk]; rfl
  go_enter Tryz.func86, Tryz.ntmps86
  go_wp2_with (go_at_call 78; refine CC.out.mono ?_)
  rintro e w1 ⟨rfl, h2⟩
  have h2 := h2.symm; subst h2
  go_wp2_with (at_builtin; refine wpList_append_ownF _ rfl _ _ 22 rfl B 5 i0 (.int .u8 0) 1 1 Tryz.underlying22 hi hz0 hz1 hz2 rfl (by decide) _ _ _ rfl hown ad m c news rfl hl hnews1 h1 ?c3 ?c4 ?c5 ?_)
  case c3 => unfold maxLen; omega
  case c4 => omega
  case c5 => have := hb1.size; omega
  intro v' w2 hown' hgrow _
  have hlt : b < w1.heap.size := by
    rcases Nat.lt_or_ge b w1.heap.size with h' | h'
    · exact h'
    · simp [Array.getElem?_eq_none h'] at hbk
  have hb2 : w2.heap[b]? = some (.cells #[.pointer (some ⟨b, 0, none⟩), v] 74 (0, 0)) := by
    rw [hgrow.block b hlt (fun e => hne e.symm)]
    exact hbk
  have d0 : w2.cell? ⟨b, 0, none⟩ = some (.pointer (some ⟨b, 0, none⟩)) := by rw [Lib.cell_of_heap hb2]; rfl
  have d1 : w2.cell? ⟨b, 1, none⟩ = some v := by rw [Lib.cell_of_heap hb2]; rfl
  have f1 : w2.frozen? ⟨b, 1, none⟩ = false := Lib.frozen_of_heap hb2 1
  obtain ⟨ao, n', cap, rfl⟩ : ∃ ao n' cap, v' = .slice ao n' cap := by
    rcases hown'.2 with ⟨hv, _⟩ | ⟨g, cap, cur, fz, hv, _⟩
    · exact ⟨_, _, _, hv⟩
    · exact ⟨_, _, _, hv⟩
  go_wp2
  go_ret2
  refine ⟨rfl, ?_, ?_⟩
  · exact .inr (Lib.BuilderAtF.put (T := 74) (e := 5) hB hb2 (bs' := bs ++ news) (by simpa [hl] using hown') (by decide))
  · exact (hb1.grown hgrow (by have := hb1.size; omega) (fun k hk => (hown.lt k hk).1)).setCell (p := ⟨b, 1, none⟩) hB _
theorem aSome_skip {may : UInt8 → Bool} {stop : UInt8} (hs : isBlank stop = false) : ∀ s, aSome may stop s = aSome may stop (skip s)
  | [] => rfl
  | c :: r => by
    by_cases hb : isBlank c = true
    · have hne : c ≠ stop := fun e => by rw [e, hs] at hb; cases hb
      have e1 : skip (c :: r) = skip r := by unfold Sx.skip; rw [List.dropWhile_cons, if_pos hb]
      rw [e1, ← aSome_skip hs r, aSome, if_neg hne, if_pos hb]
    · have e1 : skip (c :: r) = c :: r := by unfold Sx.skip; rw [List.dropWhile_cons, if_neg hb]
      rw [e1]
theorem aSome_run {may : UInt8 → Bool} {stop : UInt8} (hs : may stop = false) (hb : ∀ x, isBlank x = true → may x = false) : ∀ s, aSome may stop s = (match aSome may stop (s.dropWhile may) with | .ok l q => .ok (s.takeWhile may ++ l) q | .err e q => .err e q)
  | [] => rfl
  | c :: r => by
    by_cases hm : may c = true
    · have hne : c ≠ stop := fun e => by rw [e, hs] at hm; cases hm
      have hnb : ¬ isBlank c = true := fun e => by rw [hb c e] at hm; cases hm
      have ih := aSome_run hs hb r
      rw [List.dropWhile_cons, if_pos hm, List.takeWhile_cons, if_pos hm, aSome, if_neg hne, if_neg hnb, if_neg (by rw [hm]; simp), ih]
      cases aSome may stop (r.dropWhile may) <;> rfl
    · rw [List.dropWhile_cons, if_neg hm, List.takeWhile_cons, if_neg hm]
      cases aSome may stop (c :: r) <;> rfl
theorem aSome_stop {may : UInt8 → Bool} {stop : UInt8} : ∀ {s l q}, aSome may stop s = .ok l q → ∃ t, q = stop :: t
  | [], l, q, h => by cases h
  | c :: r, l, q, h => by
    rw [aSome] at h
    split at h
    · next hc => injection h with h1 h2; exact ⟨r, by rw [← h2, hc]⟩
    · split at h
      · exact aSome_stop h
      · split at h
        · cases h
        · split at h
          · next l' q' h' => injection h with h1 h2; obtain ⟨t, ht⟩ := aSome_stop h'; exact ⟨t, by rw [← h2, ht]⟩
          · cases h
theorem aSome_len {may : UInt8 → Bool} {stop : UInt8} : ∀ {s l q}, aSome may stop s = .ok l q → l.length ≤ s.length
  | [], l, q, h => by cases h
  | c :: r, l, q, h => by
    rw [aSome] at h
    split at h
    · injection h with h1 h2; rw [← h1]; simp
    · split at h
      · have := aSome_len h; simp; omega
      · split at h
        · cases h
        · split at h
          · next l' q' h' => injection h with h1 h2; have := aSome_len h'; rw [← h1]; simp; omega
          · cases h
end Go.Proofs.YtcojkmcnigppbaaGreatDoor.Nt
end
section
namespace Go.Proofs.YtcojkmcnigppbaaGreatDoor
open Go Go.Proofs Go.RowKit Oct
def sliceLen : Value → Nat
  | .slice _ n _ => n
  | _ => 0
theorem isF_above {B b : Nat} {bs : List Value} {w w' : World} (h : Lib.IsBuilderF 74 5 B b bs w) (hb : Below w.heap.size w w') : Lib.IsBuilderF 74 5 B b bs w' := by
  have key : ∀ p, Lib.BuilderAtF 74 5 B b p bs w → Lib.BuilderAtF 74 5 B b p bs w' := by
    rintro p hp
    have hlt := hp.lt
    obtain ⟨hB, v, hbk, hown, hne⟩ := hp
    refine ⟨hB, v, by rw [hb.block b hlt]; exact hbk, ?_, hne⟩
    refine ⟨hown.1, ?_⟩
    rcases hown.2 with h2 | ⟨g, cap, cur, fz, hv, hg, hh, r⟩
    · exact .inl h2
    · refine .inr ⟨g, cap, cur, fz, hv, hg, ?_, r⟩
      have hgl : g < w.heap.size := by
        rcases Nat.lt_or_ge g w.heap.size with h' | h'
        · exact h'
        · simp [Array.getElem?_eq_none h'] at hh
      rw [hb.block g hgl]
      exact hh
  rcases h with h | h
  · exact .inl (key _ h)
  · exact .inr (key _ h)
theorem splice_take (r : List UInt8) : splice [Value.int .u8 0, .int .u8 0, .int .u8 0] 0 (Lib.byteCells (r.take 3)) = [.int .u8 (r.getD 0 0).toNat, .int .u8 (r.getD 1 0).toNat, .int .u8 (r.getD 2 0).toNat] := by
  match r with
  | [] => rfl
  | [a] => rfl
  | [a, b] => rfl
  | a :: b :: c :: r => rfl
theorem b64SignAt : ∀ (n : Nat) (h : n < 64) (h' : n < (⟨#[65, 66, 67, 68, 69, 70, 71, 72, 73, 74, 75, 76, 77, 78, 79, 80, 81, 82, 83, 84, 85, 86, 87, 88, 89, 90, 97, 98, 99, 100, 101, 102, 103, 104, 105, 106, 107, 108, 109, 110, 111, 112, 113, 114, 115, 116, 117, 118, 119, 120, 121, 122, 48, 49, 50, 51, 52, 53, 54, 55, 56, 57, 43, 47]⟩ : ByteArray).size), (⟨#[65, 66, 67, 68, 69, 70, 71, 72, 73, 74, 75, 76, 77, 78, 79, 80, 81, 82, 83, 84, 85, 86, 87, 88, 89, 90, 97, 98, 99, 100, 101, 102, 103, 104, 105, 106, 107, 108, 109, 110, 111, 112, 113, 114, 115, 116, 117, 118, 119, 120, 121, 122, 48, 49, 50, 51, 52, 53, 54, 55, 56, 57, 43, 47]⟩ : ByteArray)[n]'h' = b64Sign n := by
  decide +kernel
theorem u32_join3 (x0 x1 x2 : Nat) (h0 : x0 < 256) (h1 : x1 < 256) (h2 : x2 < 256) : bits .or .u32 (bits .or .u32 ((x0 : Int) * 65536) ((x1 : Int) * 256)) (x2 : Int) = ((x0 * 65536 + x1 * 256 + x2 : Nat) : Int) := by
  rw [show ((x0 : Int) * 65536) = ((x0 * 65536 : Nat) : Int) from by omega, show ((x1 : Int) * 256) = ((x1 * 256 : Nat) : Int) from by omega, u32_or_nat _ _ (by omega) (by omega), nat_join 16 (x0 * 65536) (x1 * 256) (by omega) (by omega), u32_or_nat _ _ (by omega) (by omega), nat_join 8 _ x2 (by omega) (by omega)]
theorem u32_and63 (v e : Nat) (hv : v < 16777216) : bits .and .u32 ((v : Int) / 2 ^ e) 63 = ((v / 2 ^ e % 64 : Nat) : Int) := by
  have h1 : v / 2 ^ e ≤ v := Nat.div_le_self _ _
  rw [show ((v : Int) / 2 ^ e) = ((v / 2 ^ e : Nat) : Int) from by simp]
  have := u32_and_nat (v / 2 ^ e) 63 (by omega) (by omega)
  rw [nat_mask6] at this
  simpa using this
theorem range_snoc_map (f : Nat → UInt8) (k : Nat) : (List.range (k + 1)).map f = (List.range k).map f ++ [f k] := by rw [List.range_succ, List.map_append]; rfl
theorem pad_is (m : Nat) (h1 : 1 ≤ m) (h2 : m ≤ 3) : Lib.strCells ((⟨#[61, 61]⟩ : ByteArray).extract 0 (3 - m)) = Lib.byteCells (List.replicate (3 - m) 61) ∧ ((⟨#[61, 61]⟩ : ByteArray).extract 0 (3 - m)).size ≤ 2 := by
  have h : m = 1 ∨ m = 2 ∨ m = 3 := by omega
  rcases h with rfl | rfl | rfl <;> exact ⟨rfl, by decide⟩
theorem reads_cast {w : World} {B n n' : Nat} {A : Option Addr} {xs : List Value} (h : n = n') (hr : Reads w B 1 A n xs) : Reads w B 1 A n' xs := by subst h; exact hr
theorem info5 : (Tryz.prog.info? 5).map (·.size) = some 1 := by kernel_rfl
set_option maxHeartbeats 1000000 in
set_option maxRecDepth 100000 in
theorem base64_any (A : Option Addr) (n c : Nat) (l : List UInt8) (w : World) (hr : Reads w w.heap.size 1 A n (Lib.byteCells l)) (hn : n ≤ 1099511627776) (hnc : n ≤ c) :
    Calls Tryz.prog 27 #[.slice A n c] w fun e w' => e = .returned (.string ⟨(b64 l).toArray⟩) ∧ Below w.heap.size w w' := by
  have hl : l.length = n := by have := hr.1; simpa [Lib.byteCells_length] using this
  have hbl := b64_length l
  have H := hid hl
  go_enter Tryz.func27, Tryz.ntmps27
  go_wp2
  go_loopw [0] (fun v wr => ∃ (A' : Option Addr) (n' c' : Nat) (r out : List UInt8), v = .slice A' n' c' ∧ n' ≤ n ∧ n' ≤ c' ∧ Reads wr w.heap.size 1 A' n' (Lib.byteCells r) ∧ Lib.IsBuilderF 74 5 w.heap.size w.heap.size (Lib.byteCells out) wr ∧ b64 l = out ++ b64 r ∧ Below w.heap.size w wr) (fun v _ => sliceLen v)
  case atStart => exact ⟨A, n, c, l, [], rfl, Nat.le_refl _, hnc, hr.alloc (Nat.le_refl _) _, Lib.IsBuilderF.of (Lib.fresh_isBuilder 74 5 w), by simp, (Below.refl _ _).alloc (Nat.le_refl _) _⟩
  case round =>
    obtain ⟨A', n', c', r, out, rfl, hn', hnc', hr', hb, hout, hbel⟩ := hrel
    have hrl : r.length = n' := by have := hr'.1; simpa [Lib.byteCells_length] using this
    have hol : out.length ≤ 4 * n := by
      have := congrArg List.length hout
      rw [List.length_append] at this
      omega
    have HO := hid hout
    clear hout hl hbl
    by_cases h0 : 0 < n'
    · clear hr
      have hstep := b64_step r (by intro h; rw [h] at hrl; simp at hrl; omega)
      obtain ⟨cs, hcs⟩ : ∃ cs, cs = Lib.byteCells (r.take 3) := ⟨_, rfl⟩
      obtain ⟨m, hm⟩ : ∃ m, m = cs.length := ⟨_, rfl⟩
      have hm' : m = min n' 3 := by rw [hm, hcs, Lib.byteCells_length, List.length_take, hrl]; omega
      have hm1 : m ≤ n' := by omega
      have hm2 : m ≤ 3 := by omega
      have hm3 : 1 ≤ m := by omega
      obtain ⟨ad, rfl, hab, had⟩ := hr'.2 h0
      have hpos : ∀ j v, cs[j]? = some v → wr.cell? (ad.add j) = some v := by
        intro j v hj
        refine had j v ?_
        rw [hcs] at hj
        simp only [Lib.byteCells, List.map_take] at hj ⊢
        rw [List.getElem?_take] at hj
        split at hj
        · exact hj
        · cases hj
      have hone : ∀ v ∈ cs, v.oneCell' = true := by
        intro v hv
        rw [hcs] at hv
        exact Lib.byteCells_one _ v hv
      have hdrop : r.drop 3 = r.drop m := by
        rcases Nat.lt_or_ge 2 n' with h | h
        · rw [show m = 3 from by omega]
        · rw [List.drop_of_length_le (by omega), List.drop_of_length_le (by omega)]
      have hchunk : chunk r = (List.range (m + 1)).map (sgn (bits24 r)) ++ List.replicate (3 - m) 61 := by
        rw [chunk, show min 3 r.length = m from by omega]
      have HM := hid hm
      have HM' := hid hm'
      have HC := hid hcs
      have HS := hid hstep
      have HRL := hid hrl
      have HD := hid hdrop
      have HCH := hid hchunk
      have HAD := hid had
      clear hm hm' hcs hstep hrl hdrop hchunk had
      go_wp2_with (with_reducible refine wpList_copy_splice (o := ⟨some 13, _, _, _, _, _⟩) rfl (.tmp 11) (.tmp 12) 22 22 rfl 5 Tryz.underlying22 info5 (some ⟨wr.heap.size, 0, none⟩) (some ad) 3 3 n' c' rfl rfl wr.heap.size 0 [.int .u8 0, .int .u8 0, .int .u8 0] 75 ?hg cs ?hn ?hp ?hfit hone wr.heap.size wr ?hb (Nat.le_refl _) ?_)
      case hg => exact heap_alloc_new wr _
      case hn => show _ = min n' 3; rw [← HM.out, HM'.out]
      case hp =>
        intro _ j v hj
        rw [World.cell?_alloc_lt _ _ _ (by rw [block_of_add]; have := hbel.size; omega)]
        exact hpos j v hj
      case hfit => rw [← HM.out]; simpa using hm2
      case hb => exact (Below.refl _ _).alloc (Nat.le_refl _) _
      intro w3 hg3 hbel3
      rw [← HM.out]
      have hb4 := isF_above hb hbel3
      have hbel4 := hbel.trans (hbel3.mono hbel.size)
      have hr4 := hr'.below (hbel3.mono hbel.size)
      have hrow : w3.heap[wr.heap.size]? = some (.cells #[.int .u8 (r.getD 0 0).toNat, .int .u8 (r.getD 1 0).toNat, .int .u8 (r.getD 2 0).toNat] 75 (0, 0)) := by
        rw [hg3.out, HC.out, splice_take]
      have HX : Hid (bits24 r = (r.getD 0 0).toNat * 65536 + (r.getD 1 0).toNat * 256 + (r.getD 2 0).toNat) := rfl
      have hx0 := (r.getD 0 0).toNat_lt
      have hx1 := (r.getD 1 0).toNat_lt
      have hx2 := (r.getD 2 0).toNat_lt
      generalize (r.getD 0 0).toNat = x0 at *
      generalize (r.getD 1 0).toNat = x1 at *
      generalize (r.getD 2 0).toNat = x2 at *
      have d0 : w3.cell? ⟨wr.heap.size, 0, none⟩ = some (.int .u8 x0) := by rw [Lib.cell_of_heap hrow]; rfl
      have d1 : w3.cell? ⟨wr.heap.size, 1, none⟩ = some (.int .u8 x1) := by rw [Lib.cell_of_heap hrow]; rfl
      have d2 : w3.cell? ⟨wr.heap.size, 2, none⟩ = some (.int .u8 x2) := by rw [Lib.cell_of_heap hrow]; rfl
      have hsz4 := hbel4.size
      clear hg3 hrow hone hpos hr' hb hbel hbel3
      have hr5 := hr4.cut hm1 hnc'
      rw [Nat.mul_one] at hr5
      have hr6 : Reads w3 w.heap.size 1 (if c' = m then some ad else some (ad.add m)) (n' - m) (Lib.byteCells (r.drop 3)) := by
        rw [HD.out]
        simpa [Lib.byteCells] using hr5
      clear hr4 hr5 HAD HC HM HM'
      have hj := u32_join3 x0 x1 x2 (by omega) (by omega) (by omega)
      have hvl := bits24_lt r
      rw [← HX.out] at hj
      generalize bits24 r = v at *
      have HJ := hid hj
      clear HX hj
      by_cases hcm : c' = m
      all_goals first | rw [if_neg hcm] at hr6 | (rw [if_pos hcm] at hr6; have hcm' : m = c' := hcm.symm; clear hcm; subst hcm')
      all_goals
        go_wp2_with fail
        rw [HJ.out]
        clear d0 d1 d2
        go_loopw [32] (fun i wz => ∃ k : Nat, k ≤ m + 1 ∧ i = .int .i64 k ∧ Lib.IsBuilderF 74 5 w.heap.size w.heap.size (Lib.byteCells (out ++ (List.range k).map (sgn v))) wz ∧ Below w.heap.size w wz) (fun i _ => m + 1 - (intOf i).toNat)
        case atStart => exact ⟨0, Nat.zero_le _, rfl, by simpa using hb4, hbel4⟩
        case round =>
          obtain ⟨k, hk, rfl, hbk, hbelk⟩ := hrel
          by_cases hlt : k < m + 1
          · have EK := u32_and63 v (18 - 6 * k) hvl
            have hq : v / 2 ^ (18 - 6 * k) % 64 < 64 := Nat.mod_lt _ (by omega)
            have hsg : sgn v k = b64Sign (v / 2 ^ (18 - 6 * k) % 64) := rfl
            generalize v / 2 ^ (18 - 6 * k) % 64 = q at *
            have HQ := hid hsg
            clear hsg
            have hszk := hbelk.size
            go_wp2_with fail
            rw [b64SignAt _ hq]
            refine (writeByte_any w.heap.size w.heap.size _ _ _ hbk (by simp [Lib.byteCells_length]; omega) hszk).mono ?_
            rintro e w1 ⟨rfl, hb1, hbel1⟩
            go_wp2
            go_roundw
            case rel => exact ⟨k + 1, by omega, by go_num, isF_of (by rw [range_snoc_map, HQ.out]; simp [Lib.byteCells]) hb1, hbelk.trans hbel1⟩
            case measure => simp [intOf]; omega
          · obtain rfl : k = m + 1 := by omega
            have hszk := hbelk.size
            go_wp2_with fail
            refine (writeString_any w.heap.size w.heap.size _ _ _ hbk (by have := (pad_is m hm3 hm2).2; rw [Lib.byteCells_length, List.length_append, List.length_map, List.length_range]; omega) hszk).mono ?_
            rintro e w1 ⟨rfl, hb1, hbel1⟩
            have hb2 : Lib.IsBuilderF 74 5 w.heap.size w.heap.size (Lib.byteCells (out ++ chunk r)) w1 := by
              refine isF_of ?_ hb1
              rw [(pad_is m hm3 hm2).1, ← Lib.byteCells_append, HCH.out, List.append_assoc]
            have hr7 := (hr6.keep (w' := w) (fun p hp => (hbel4.cell hp).symm)).below (hbelk.trans hbel1)
            have hO2 : Hid (b64 l = (out ++ chunk r) ++ b64 (r.drop 3)) := by
              show _ = _
              rw [HO.out, HS.out, List.append_assoc]
            have hbel9 := hbelk.trans hbel1
            clear hb1 hbel1 hbk hbelk hr6
            go_wp2
            go_roundw
            case rel => exact ⟨_, _, _, r.drop 3, _, rfl, by omega, by omega, reads_cast (by omega) hr7, hb2, hO2.out, hbel9⟩
            case measure => simp [sliceLen]; omega
    · obtain rfl : n' = 0 := by omega
      obtain rfl : r = [] := List.eq_nil_of_length_eq_zero hrl
      have hO2 : Hid (b64 l = out) := by rw [HO.out]; show out ++ b64 [] = out; simp [b64]
      clear hrl
      go_wp2_with fail
      refine (Tryz.Builder_String_any_k w.heap.size w.heap.size _ wr hb hbel.size).mono ?_
      rintro e w1 ⟨rfl, hb1, hbel1, -⟩
      go_wp2
      go_ret
      exact ⟨congrArg (fun z : List UInt8 => Ending.returned (.string ⟨z.toArray⟩)) hO2.out.symm, hbel.trans hbel1⟩
end Go.Proofs.YtcojkmcnigppbaaGreatDoor
end
section
namespace Go.Proofs.YtcojkmcnigppbaaGreatDoor
open Go Go.Proofs Go.RowKit Oct
theorem int_eq'' {k : IntKind} {a b : Int} (h : a = b) : Value.int k a = Value.int k b := by rw [h]
theorem reads_const (w : World) (x : Int) (c : UInt8) (h : x = (c.toNat : Int)) : Reads (w.alloc (.cells #[.int .u8 x] 5)) (w.heap.size + 1) 1 (some ⟨w.heap.size, 0, none⟩) 1 (Lib.byteCells [c]) := by
  subst h
  exact reads_one w c (0, 0)
theorem i64_join6 (a d : Nat) (ha : a < 64) (hd : d < 64) : bits .or .i64 ((a : Int) * 64) (d : Int) = ((a * 64 + d : Nat) : Int) := by
  have := i64_or_nat (a * 64) d (by omega) (by omega)
  rw [nat_join 6 (a * 64) d (by omega) (by omega)] at this
  rw [show ((a : Int) * 64) = ((a * 64 : Nat) : Int) from by omega, this]
theorem i64_and_nat (a b : Nat) (ha : a < 9223372036854775808) (hb : b < 9223372036854775808) : bits .and .i64 (a : Int) (b : Int) = ((a &&& b : Nat) : Int) := by
  have hx : a &&& b < 2 ^ 63 := Nat.and_lt_two_pow _ (by omega)
  show IntKind.i64.wrap ((BitVec.ofInt 64 (a : Int) &&& BitVec.ofInt 64 (b : Int)).toNat : Int) = _
  rw [BitVec.toNat_and, ofInt_i64 a ha, ofInt_i64 b hb, IntKind.wrap_i64]
  omega
theorem and_mask (B : Nat) (h : B < 4096) : bits .and .i64 (B : Int) 0 = 0 ∧ bits .and .i64 (B : Int) 3 = ((B % 4 : Nat) : Int) ∧ bits .and .i64 (B : Int) 15 = ((B % 16 : Nat) : Int) := by
  refine ⟨?_, ?_, ?_⟩
  · have := i64_and_nat B 0 (by omega) (by omega)
    simpa using this
  · have := i64_and_nat B 3 (by omega) (by omega)
    rw [nat_mask2] at this
    simpa using this
  · have := i64_and_nat B 15 (by omega) (by omega)
    rw [nat_mask4] at this
    simpa using this
theorem index64_any (c : UInt8) (w : World) : Calls Tryz.prog 88 #[.string ⟨#[65, 66, 67, 68, 69, 70, 71, 72, 73, 74, 75, 76, 77, 78, 79, 80, 81, 82, 83, 84, 85, 86, 87, 88, 89, 90, 97, 98, 99, 100, 101, 102, 103, 104, 105, 106, 107, 108, 109, 110, 111, 112, 113, 114, 115, 116, 117, 118, 119, 120, 121, 122, 48, 49, 50, 51, 52, 53, 54, 55, 56, 57, 43, 47]⟩, .int .u8 c.toNat] w fun e w' => e = .returned (.int .i64 (val64 c)) ∧ w = w' := by
  refine (Tryz.strings_IndexByte _ (c.toNat : Int) w).mono ?_
  rintro e w' ⟨rfl, rfl⟩
  refine ⟨?_, rfl⟩
  have hc : (c.toNat : Int).toNat.toUInt8 = c := by simp
  rw [hc]
  rfl
theorem trim_le (l : List UInt8) : (Lib.trimRightB l 61).length ≤ l.length := by
  have := congrArg List.length (trim_split l)
  rw [List.length_append] at this
  omega
set_option maxHeartbeats 2000000 in
set_option maxRecDepth 100000 in
theorem unbase64_any (s : ByteArray) (w : World) (hs : s.size ≤ 1099511627776) :
    Calls Tryz.prog 56 #[.string s] w fun e w' => UnhexEnd (ub64 s.data.toList) w e w' := by
  obtain ⟨i0, hi, hz0, hz1, hz2⟩ := info_parts infoByte
  have hsl : s.data.toList.length = s.size := by simp
  have hub : ub64 s.data.toList = ub64 s.data.toList := rfl
  have htl := trim_le s.data.toList
  obtain ⟨T, hT⟩ : ∃ T, T = Lib.trimRightB s.data.toList 61 := ⟨_, rfl⟩
  have hdef : ub64 s.data.toList = if s.size % 4 ≠ 0 ∨ s.size - T.length > 2 then none else match urun T ⟨0, 0, []⟩ with | none => none | some u => if u.bits ≠ 0 then none else some u.out := by
    rw [hT, ← hsl]; rfl
  rw [← hT] at htl
  have hTl : T.length ≤ s.size := by omega
  have htr := Tryz.strings_TrimRight_one s 61 (by decide) w (by omega)
  rw [← hT] at htr
  generalize ub64 s.data.toList = R at *
  have HR := hid hdef
  clear hdef hub hT hsl htl
  have hsz : (⟨T.toArray⟩ : ByteArray).size = T.length := by show T.toArray.size = _; simp
  have hsz' := hid hsz
  clear hsz
  by_cases h4 : s.size % 4 = 0
  · by_cases h2 : s.size - T.length > 2
    · have hno : Hid (R = none) := by show _ = _; rw [HR.out, if_pos (Or.inr h2)]
      go_enter Tryz.func56, Tryz.ntmps56
      go_wp2_with fail
      refine htr.mono ?_
      rintro e w1 ⟨rfl, rfl⟩
      go_wp2
      go_ret2
      exact .inl ⟨hno.out, rfl, Below.refl _ _⟩
    · have hyes : Hid (R = match urun T ⟨0, 0, []⟩ with | none => none | some u => if u.bits ≠ 0 then none else some u.out) := by show _ = _; rw [HR.out, if_neg (by omega)]
      have hdec : decide (2 < (s.size : Int) - (T.length : Int)) = false := by simp; omega
      go_enter Tryz.func56, Tryz.ntmps56
      go_wp2_with fail
      refine htr.mono ?_
      rintro e w1 ⟨rfl, hw⟩
      subst hw
      clear htr
      go_wp2_with (at_make; refine wpList_make_own _ rfl _ _ 22 rfl w1.heap.size 5 i0 (.int .u8 0) 1 Tryz.underlying22 hi hz0 hz1 _ _ _ (s.size / 4 * 3) rfl rfl (by omega) ?b2 ?b3 (Nat.le_refl _) ?_)
      case b2 => rw [hz2]; omega
      case b3 => unfold maxLen; omega
      intro w0 hown0 hgrow0
      have hbel0 : Below w1.heap.size w1 w0 := (Below.refl _ _).grown hgrow0 (Nat.le_refl _) (fun k hk => by cases hk)
      clear hgrow0
      go_wp2
      go_loopw [5, 6, 7, 31] (fun v a b i wr => ∃ (k : Nat) (u : U), k ≤ T.length ∧ i = .int .i64 k ∧ a = .int .i64 u.bits ∧ b = .int .i64 u.count ∧ (u.count = 0 ∨ u.count = 2 ∨ u.count = 4 ∨ u.count = 6) ∧ u.bits < 2 ^ u.count ∧ u.out.length ≤ k ∧ wr.ownsRow w1.heap.size 5 1 v u.out.length (Lib.byteCells u.out) ∧ urun T ⟨0, 0, []⟩ = urun (T.drop k) u ∧ Below w1.heap.size w1 wr) (fun _ _ _ i _ => T.length - (intOf i).toNat)
      case atStart => exact ⟨0, ⟨0, 0, []⟩, Nat.zero_le _, rfl, rfl, rfl, .inl rfl, by decide, Nat.zero_le _, hown0, rfl, hbel0⟩
      case round =>
        obtain ⟨k, ⟨ub, uc, uo⟩, hk, rfl, rfl, rfl, hcnt, hbits, hol, hown, hrun, hbel⟩ := hrel
        dsimp only at hcnt hbits hol hown hrun
        clear hown0 hbel0
        have HRUN := hid hrun
        clear hrun
        have hszr := hbel.size
        by_cases hlt : k < T.length
        · have hdr : T.drop k = T[k] :: T.drop (k + 1) := List.drop_eq_getElem_cons hlt
          have HDR := hid hdr
          clear hdr
          go_wp2_with fail
          generalize hx : (⟨T.toArray⟩ : ByteArray)[k] = c
          have hxT : T[k] = c := by rw [← hx]; rfl
          rw [hxT] at HDR
          clear hx hxT
          refine (index64_any c wr).mono ?_
          rintro e w' ⟨rfl, rfl⟩
          have hvb := val64_bound c
          by_cases hv : val64 c < 0
          · have hno : Hid (R = none) := by
              show _ = _
              rw [hyes.out, HRUN.out, HDR.out, urun, if_pos hv]
            go_wp2
            go_ret2
            exact .inl ⟨hno.out, rfl, hbel⟩
          · obtain ⟨d, hd⟩ : ∃ d, d = (val64 c).toNat := ⟨_, rfl⟩
            have hdv : val64 c = (d : Int) := by omega
            have hd64 : d < 64 := by omega
            have hnext : Hid (urun T ⟨0, 0, []⟩ = urun (T.drop (k + 1)) (ustep ⟨ub, uc, uo⟩ d)) := by
              show _ = _
              rw [HRUN.out, HDR.out, urun, if_neg hv, hd]
            rw [hdv]
            clear hv hvb hdv hd HRUN HDR
            have hub : ub < 64 := Nat.lt_of_lt_of_le hbits (by
              rcases hcnt with rfl | rfl | rfl | rfl <;> decide)
            have hor := i64_join6 ub d hub hd64
            obtain ⟨B, hB⟩ : ∃ B, B = ub * 64 + d := ⟨_, rfl⟩
            rw [← hB] at hor
            have hm := and_mask B (by omega)
            obtain ⟨m0, m3, m15⟩ := hm
            rcases hcnt with rfl | rfl | rfl | rfl
            · have hub0 : ub < 1 := hbits
              rw [step0] at hnext
              rw [← hB] at hnext
              have HB := hid hB
              clear hB m0 m3 m15
              go_wp2
              exact ⟨⟨k + 1, ⟨B, 6, uo⟩, by omega, by go_num, rfl, rfl, by simp, show B < 64 by have := HB.out; omega, show uo.length ≤ k + 1 by omega, hown, hnext.out, hbel⟩, by simp [intOf]; omega⟩
            · have hub0 : ub < 4 := hbits
              rw [step2] at hnext
              rw [← hB] at hnext
              have hB1 : B < 256 := by omega
              clear hB hbits
              have hby := nat_byte B (by omega)
              have hrd := reads_const wr (B : Int) B.toUInt8 (by rw [hby])
              have hcat : Hid (Lib.byteCells uo ++ Lib.byteCells [B.toUInt8] = Lib.byteCells (uo ++ [B.toUInt8])) := (Lib.byteCells_append _ _).symm
              clear hby
              go_wp2_with (at_builtin; refine wpList_append_any _ rfl (.tmp 50) (.tmp 55) 22 rfl w1.heap.size 5 i0 (.int .u8 0) 1 1 Tryz.underlying22 hi hz0 hz1 hz2 rfl (by decide) _ _ _ rfl (hown.alloc _) (wr.heap.size + 1) _ 1 1 (Lib.byteCells [B.toUInt8]) rfl hrd (Lib.byteCells_one _) ?a1 ?a2 ?a3 ?_)
              case a1 => unfold maxLen; omega
              case a2 => omega
              case a3 => first | omega | (simp; done) | (simp; omega)
              intro v' w2 hown' hgrow _
              have hbel2 : Below w1.heap.size w1 w2 := (hbel.alloc hszr _).grown hgrow (by simp; omega) (fun k hk => (hown.lt k hk).1)
              rw [hcat.out] at hown'
              clear hown hgrow hrd hbel
              go_wp2
              exact ⟨⟨k + 1, ⟨0, 0, uo ++ [B.toUInt8]⟩, by omega, by go_num, by first | rfl | exact int_eq'' (by omega), rfl, by simp, by show _ < _; first | omega | (simp; done) | (simp; omega), by show (uo ++ [_]).length ≤ k + 1; simp; omega, by show World.ownsRow _ _ _ _ _ (uo ++ [_]).length _; rw [List.length_append]; exact hown', hnext.out, hbel2⟩, by simp [intOf]; omega⟩
            · have hub0 : ub < 16 := hbits
              rw [step4] at hnext
              rw [← hB] at hnext
              have hB1 : B < 1024 := by omega
              clear hB hbits
              have hby := nat_byte (B / 4) (by omega)
              have hrd := reads_const wr ((B : Int) / 4) (B / 4).toUInt8 (by rw [hby]; omega)
              have hcat : Hid (Lib.byteCells uo ++ Lib.byteCells [(B / 4).toUInt8] = Lib.byteCells (uo ++ [(B / 4).toUInt8])) := (Lib.byteCells_append _ _).symm
              clear hby
              go_wp2_with (at_builtin; refine wpList_append_any _ rfl (.tmp 50) (.tmp 55) 22 rfl w1.heap.size 5 i0 (.int .u8 0) 1 1 Tryz.underlying22 hi hz0 hz1 hz2 rfl (by decide) _ _ _ rfl (hown.alloc _) (wr.heap.size + 1) _ 1 1 (Lib.byteCells [(B / 4).toUInt8]) rfl hrd (Lib.byteCells_one _) ?b1 ?b2 ?b3 ?_)
              case b1 => unfold maxLen; omega
              case b2 => omega
              case b3 => first | omega | (simp; done) | (simp; omega)
              intro v' w2 hown' hgrow _
              have hbel2 : Below w1.heap.size w1 w2 := (hbel.alloc hszr _).grown hgrow (by simp; omega) (fun k hk => (hown.lt k hk).1)
              rw [hcat.out] at hown'
              clear hown hgrow hrd hbel
              go_wp2
              exact ⟨⟨k + 1, ⟨B % 4, 2, uo ++ [(B / 4).toUInt8]⟩, by omega, by go_num, by first | rfl | exact int_eq'' (by omega), rfl, by simp, by show _ < _; first | omega | (simp; done) | (simp; omega), by show (uo ++ [_]).length ≤ k + 1; simp; omega, by show World.ownsRow _ _ _ _ _ (uo ++ [_]).length _; rw [List.length_append]; exact hown', hnext.out, hbel2⟩, by simp [intOf]; omega⟩
            · have hub0 : ub < 64 := hbits
              rw [step6] at hnext
              rw [← hB] at hnext
              have hB1 : B < 4096 := by omega
              clear hB hbits
              have hby := nat_byte (B / 16) (by omega)
              have hrd := reads_const wr ((B : Int) / 16) (B / 16).toUInt8 (by rw [hby]; omega)
              have hcat : Hid (Lib.byteCells uo ++ Lib.byteCells [(B / 16).toUInt8] = Lib.byteCells (uo ++ [(B / 16).toUInt8])) := (Lib.byteCells_append _ _).symm
              clear hby
              go_wp2_with (at_builtin; refine wpList_append_any _ rfl (.tmp 50) (.tmp 55) 22 rfl w1.heap.size 5 i0 (.int .u8 0) 1 1 Tryz.underlying22 hi hz0 hz1 hz2 rfl (by decide) _ _ _ rfl (hown.alloc _) (wr.heap.size + 1) _ 1 1 (Lib.byteCells [(B / 16).toUInt8]) rfl hrd (Lib.byteCells_one _) ?c1 ?c2 ?c3 ?_)
              case c1 => unfold maxLen; omega
              case c2 => omega
              case c3 => first | omega | (simp; done) | (simp; omega)
              intro v' w2 hown' hgrow _
              have hbel2 : Below w1.heap.size w1 w2 := (hbel.alloc hszr _).grown hgrow (by simp; omega) (fun k hk => (hown.lt k hk).1)
              rw [hcat.out] at hown'
              clear hown hgrow hrd hbel
              go_wp2
              exact ⟨⟨k + 1, ⟨B % 16, 4, uo ++ [(B / 16).toUInt8]⟩, by omega, by go_num, by first | rfl | exact int_eq'' (by omega), rfl, by simp, by show _ < _; first | omega | (simp; done) | (simp; omega), by show (uo ++ [_]).length ≤ k + 1; simp; omega, by show World.ownsRow _ _ _ _ _ (uo ++ [_]).length _; rw [List.length_append]; exact hown', hnext.out, hbel2⟩, by simp [intOf]; omega⟩
        · obtain rfl : k = T.length := by omega
          have hend : Hid (R = if ub ≠ 0 then none else some uo) := by
            show _ = _
            rw [hyes.out, HRUN.out, List.drop_of_length_le (Nat.le_refl _), urun]
          by_cases hz : ub = 0
          · have hR : Hid (R = some uo) := by show _ = _; rw [hend.out, if_neg (by simpa using hz)]
            subst hz
            go_wp2
            go_ret2
            exact .inr ⟨uo, _, hR.out, rfl, hown, hbel⟩
          · have hR : Hid (R = none) := by show _ = _; rw [hend.out, if_pos hz]
            have hzb : ((ub : Int) != 0) = true := by simpa using hz
            go_wp2
            go_ret2
            exact .inl ⟨hR.out, rfl, hbel⟩
  · have hno : Hid (R = none) := by show _ = _; rw [HR.out, if_pos (Or.inl h4)]
    go_enter Tryz.func56, Tryz.ntmps56
    go_wp2_with fail
    refine htr.mono ?_
    rintro e w1 ⟨rfl, rfl⟩
    go_wp2
    go_ret2
    exact .inl ⟨hno.out, rfl, Below.refl _ _⟩
end Go.Proofs.YtcojkmcnigppbaaGreatDoor
end
section
set_option maxRecDepth 100000
namespace Go.Proofs.YtcojkmcnigppbaaGreatDoor.Nt
open Go Go.Proofs Go.RowKit Sx Oct
def aSgn (mean : List UInt8 → Option (List UInt8)) (x : Res (List UInt8)) : Res (List UInt8) :=
  match x with
  | .err e q => .err e q
  | .ok l q => match mean l with
    | none => .err 3 q
    | some b => .ok b q
theorem addQ_addQ (acc t : List UInt8) (x : Res (List UInt8)) : addQ acc (addQ t x) = addQ (acc ++ t) x := by
  cases x <;> simp [addQ]
theorem aSome_runQ {may : UInt8 → Bool} {stop : UInt8} (hs : may stop = false) (hb : ∀ x, isBlank x = true → may x = false) (s : List UInt8) : aSome may stop s = addQ (s.takeWhile may) (aSome may stop (s.dropWhile may)) := by
  rw [aSome_run hs hb]
  cases aSome may stop (s.dropWhile may) <;> rfl
theorem drop_tw (f : UInt8 → Bool) : ∀ l : List UInt8, l.drop (l.takeWhile f).length = l.dropWhile f
  | [] => rfl
  | c :: r => by
    rw [List.takeWhile_cons, List.dropWhile_cons]
    split
    · simpa using drop_tw f r
    · rfl
theorem buildF_grown {T e : TypeId} {B b r : Nat} {bs : List Value} {w w' : World} (h : Lib.IsBuilderF T e B b bs w) (hg : w.grownBy w' (some r)) (hr : r < B) : Lib.IsBuilderF T e B b bs w' := by
  have H : ∀ p, Lib.BuilderAtF T e B b p bs w → Lib.BuilderAtF T e B b p bs w' := fun p hb => by
    have hlt := hb.lt
    obtain ⟨hB, v, hb, hown, hne⟩ := hb
    refine ⟨hB, v, (hg.block b hlt (fun e => by injection e with e; omega)).trans hb, hown.kept hg ?_, hne⟩
    cases hv : v.ownBlock with
    | none => exact .inl rfl
    | some k => exact .inr (fun e => by injection e with e; have := (hown.lt k hv).1; omega)
  exact h.elim (fun h => .inl (H _ h)) (fun h => .inr (H _ h))
def SHas (w wr : World) (r : Nat) (A : Option Addr) (n c : Nat) (nd : Int) (b acc : List UInt8) (p : Nat) (s : List UInt8) : Prop :=
  Lib.IsBuilderF 74 5 w.heap.size w.heap.size (Lib.byteCells acc) wr ∧ RdAt wr r A n c (p : Nat) nd ∧ w.grownBy wr (some r) ∧ b.drop p = s ∧ p + s.length = n ∧ acc.length ≤ p
theorem SHas.move {w wr w' : World} {r : Nat} {A : Option Addr} {n c : Nat} {nd : Int} {b acc : List UInt8} {p q : Nat} {s l : List UInt8} (h : SHas w wr r A n c nd b acc p s) (hr : r < w.heap.size) (hg : wr.grownBy w' (some r)) (hR : RdAt w' r A n c (q : Nat) nd)
    (hd : b.drop q = l) (hq : q + l.length = n) (ha : acc.length ≤ q) : SHas w w' r A n c nd b acc q l :=
  ⟨buildF_grown h.1 hg hr, hR, h.2.2.1.trans hg, hd, hq, ha⟩
theorem SHas.next {w wr w' : World} {r : Nat} {A : Option Addr} {n c : Nat} {nd : Int} {b acc : List UInt8} {p : Nat} {s : List UInt8} (h : SHas w wr r A n c nd b acc p s) (hr : r < w.heap.size) (hb : Below wr.heap.size wr w') : SHas w w' r A n c nd b acc p s :=
  h.move hr (grown_below hb (some r)) (h.2.1.old hb) h.2.2.2.1 h.2.2.2.2.1 h.2.2.2.2.2
theorem grown_below2 {w w1 w2 : World} {row : Option Nat} (hg : w.grownBy w1 row) (hb : Below w.heap.size w1 w2) : w.grownBy w2 row :=
  ⟨hb.os.trans hg.os, hb.tape.trans hg.tape, hb.output.trans hg.output, Nat.le_trans hg.size hb.size, fun k hk hne => (hb.block k hk).trans (hg.block k hk hne)⟩
theorem skip_head : ∀ {s l : List UInt8} {x : UInt8}, skip s = x :: l → isBlank x = false
  | c :: r, l, x, h => by
    unfold Sx.skip at h
    rw [List.dropWhile_cons] at h
    split at h
    · exact skip_head h
    · next hc => injection h with h1 h2; subst h1; simpa using hc
theorem drop_skip {b s : List UInt8} {p : Nat} (hd : b.drop p = s) (hl : p + s.length = b.length) : b.drop (b.length - (skip s).length) = skip s := by
  have h1 := (Tail.skip s).at_
  have h2 := (Tail.skip s).le
  rw [← hd, List.drop_drop, List.length_drop, hd] at h1
  rw [show b.length - (skip s).length = p + (b.length - p - (skip s).length) by omega]
  exact h1
set_option maxHeartbeats 8000000 in
theorem signs_hex (S : ByteArray) (k : UInt8) (hk1 : isBlank k = false) (hk2 : oneB S k = false) (hbl : ∀ x, isBlank x = true → oneB S x = false) (bk r : Nat) (A : Option Addr) (n c p : Nat) (nd : Int) (b : List UInt8) (B : Nat) (w : World) (h : RdAt w r A n c p nd) (hr : Reads w B 1 A n (Lib.byteCells b)) (hB : B ≤ r)
    (hbk : w.cell? ⟨bk, 0, none⟩ = some (.string S)) (hbr : bk ≠ r) (hp : p ≤ n) (hn : n ≤ 20000) (hc : n ≤ c) (q : List UInt8) (hs : b.drop p = q) :
    Calls Tryz.prog 54 #[.pointer (some ⟨r, 0, none⟩), .int .u8 k.toNat, .func (.func 87) #[] #[.pointer (some ⟨bk, 0, none⟩)], .func (.func 141) #[] #[]] w fun e w' => AtomEnd w r A n c nd e w' (aSgn unhex (aSome (oneB S) k q)) := by
  have hl : b.length = n := by have := hr.1; simpa [Lib.byteCells_length] using this
  have hql : p + q.length = n := by have := congrArg List.length hs; rw [List.length_drop, hl] at this; omega
  have hrl := hid h.lt
  have HR := hid hr
  have HL := hid hl
  have HK1 := hid hk1
  have HK2 := hid hk2
  have HBL := hid hbl
  have hbkl := hid (World.block_lt_of_cell? _ _ hbk)
  have BK : Hid (∀ W, w.grownBy W (some r) → W.cell? ⟨bk, 0, none⟩ = some (.string S)) := hid fun W hg => (World.cell?_of_block (hg.block bk hbkl.out (fun e => hbr (by injection e)))).trans hbk
  have PA : Hid (∀ W pp l, RdAt W r A n c (pp : Nat) nd → w.grownBy W (some r) → b.drop pp = l → pp + l.length = n → Calls Tryz.prog 80 #[.pointer (some ⟨r, 0, none⟩)] W (PartEnd W r A n c nd l)) := hid fun W pp l hW hg hd hlen =>
    part_any r A n c pp nd b B W hW (reads_grown HR.out hg hB) hB (by omega) hn hc l hd
  have NA : Hid (∀ W pp x l, RdAt W r A n c (pp : Nat) nd → w.grownBy W (some r) → b.drop pp = x :: l → pp + (x :: l).length = n → Calls Tryz.prog 85 #[.pointer (some ⟨r, 0, none⟩)] W fun e w' => e = .returned (.int .u8 x.toNat) ∧ Below W.heap.size W w') := hid fun W pp x l hW hg hd hlen =>
    next_at r A n c pp nd b B W hW (reads_grown HR.out hg hB) (by simp at hlen; omega) hn x l hd
  have RU : Hid (∀ W pp l, RdAt W r A n c (pp : Nat) nd → w.grownBy W (some r) → b.drop pp = l → pp + l.length = n → Calls Tryz.prog 79 #[.pointer (some ⟨r, 0, none⟩), .func (.func 87) #[] #[.pointer (some ⟨bk, 0, none⟩)]] W (RunEnd W r A n c nd (oneB S) l)) := hid fun W pp l hW hg hd hlen =>
    run_any S bk r A n c pp nd b B W hW (reads_grown HR.out hg hB) hB (BK.out W hg) hbr (by omega) hn hc l hd
  obtain ⟨R, hR⟩ : ∃ R, Hid (R = aSgn unhex (aSome (oneB S) k q)) := ⟨_, hid rfl⟩
  rw [← hR.out]
  have hpl : p ≤ 20000 := by omega
  have hw0 : Hid (SHas w (w.alloc (.cells #[.pointer none, .slice none 0 0] 74)) r A n c nd b [] p q) := hid ⟨Lib.IsBuilderF.of (Lib.fresh_isBuilder 74 5 w), h.old (below_new w _), grown_below (below_new w _) _, hs, hql, by simp⟩
  have HRQ : Hid (R = aSgn unhex (addQ [] (aSome (oneB S) k q))) := hid (by rw [hR.out]; cases aSome (oneB S) k q <;> simp [addQ])
  clear h hr hs hl hql hbk hR hk1 hk2 hbl
  go_enter Tryz.func54, Tryz.ntmps54
  go_wp2_with fail
  go_loopg [] (q.length + 1) (fun gg wr => ∃ (acc s : List UInt8) (pp : Nat), Hid (SHas w wr r A n c nd b acc pp s) ∧ Hid (R = aSgn unhex (addQ acc (aSome (oneB S) k s))) ∧ gg = s.length + 1)
  case atStart => exact ⟨[], q, p, hw0, HRQ, rfl⟩
  case round =>
    obtain ⟨acc, s, pp, HS, HRR, hgk⟩ := hrel
    clear hw0 HRQ
    have C := PA.out wr pp s HS.out.2.1 HS.out.2.2.1 HS.out.2.2.2.1 HS.out.2.2.2.2.1
    have hds := drop_skip HS.out.2.2.2.1 (by rw [HL.out]; exact HS.out.2.2.2.2.1)
    rw [HL.out] at hds
    have hsl := (Tail.skip s).le
    have HSK := hid (aSome_skip (may := oneB S) HK1.out s)
    unfold PartEnd at C
    cases hsk : skip s with
    | nil =>
      rw [hsk] at C HSK
      simp only at C
      have C := hid C
      have HRe : Hid (R = .err 2 []) := hid (by rw [HRR.out, HSK.out]; rfl)
      clear hds hsl hsk
      go_wp2_with ((with_reducible refine C.out.mono ?_); rintro e w3 ⟨rfl, hg3⟩)
      rw [HRe.out]
      exact ⟨rfl, rfl, HS.out.2.2.1.trans hg3⟩
    | cons x l =>
      rw [hsk] at C HSK hds hsl
      simp only at C
      have hgle := HS.out.2.2.2.2.1
      have hacl := HS.out.2.2.2.2.2
      have hxle : (x :: l).length ≤ n := by omega
      obtain ⟨pk, hpk⟩ := namedN (n - (x :: l).length)
      rw [← hpk.out] at C hds
      have hpkn : pk + (x :: l).length = n := by rw [hpk.out]; omega
      have hpk2 : pk ≤ 20000 := by omega
      have hppk : pp ≤ pk := by omega
      have C := hid C
      have HDS := hid hds
      have hxl := x.toNat_lt
      have hlen1 : (x :: l).length = l.length + 1 := rfl
      have HNB := hid (skip_head hsk)
      clear hds hsk
      by_cases hx : x = k
      · have hne : ((x.toNat : Int) != k.toNat) = false := by rw [hx]; simp
        have HRe : Hid (R = aSgn unhex (.ok acc (x :: l))) := hid (by rw [HRR.out, HSK.out, aSome, if_pos hx]; simp [addQ])
        clear hx
        go_wp2_with ((with_reducible refine C.out.mono ?_); rintro e w3 ⟨rfl, hR3, hg3⟩)
        have HS3 := hid (HS.out.move hrl.out hg3 hR3 HDS.out hpkn (by omega))
        clear hR3 hg3
        go_upto_region 6 with fail
        go_wp2_with (go_at_call 49; refine (Tryz.Builder_String_any_k w.heap.size w.heap.size _ w3 HS3.out.1 HS3.out.2.2.1.size).mono ?_)
        rintro e w4 ⟨rfl, -, hb4, -⟩
        have HR4 : Hid (RdAt w4 r A n c (pk : Nat) nd) := hid ((hb4.block r hrl.out).trans HS3.out.2.1)
        have HG4 : Hid (w.grownBy w4 (some r)) := hid (grown_below2 HS3.out.2.2.1 hb4)
        clear hb4
        have CM := unhex_any ⟨acc.toArray⟩ w4 (by show acc.toArray.size ≤ _; simp; omega)
        rw [show (⟨acc.toArray⟩ : ByteArray).data.toList = acc by simp] at CM
        have CM := hid CM
        obtain ⟨d0, d1, d2, z1, z2⟩ := HR4.out.all
        cases hm : unhex acc with
        | none =>
          have HRf : Hid (R = .err 3 (x :: l)) := hid (by rw [HRe.out, aSgn, hm])
          rw [hm] at CM
          have CM : Hid (Calls Tryz.prog 141 #[.string ⟨acc.toArray⟩] w4 fun e w' => e = .returned (.tuple #[.slice none 0 0, .int .i64 3]) ∧ Below w4.heap.size w4 w') := hid (CM.out.mono fun e w' hh => by
            rcases hh with ⟨_, h1, h2⟩ | ⟨_, _, h1, _⟩
            · exact ⟨h1, h2⟩
            · exact absurd h1 (by simp))
          clear d0 d1 d2 z1 z2
          go_wp2_with ((with_reducible refine CM.out.mono ?_); rintro e w5 ⟨rfl, hb5⟩; obtain ⟨d0, d1, d2, z1, z2⟩ := (HR4.out.old hb5).all)
          rw [HRf.out]
          exact ⟨rfl, by rw [← hpk.out]; exact rfl, HG4.out.trans (grown_below hb5 _)⟩
        | some bs =>
          have HRf : Hid (R = .ok bs (x :: l)) := hid (by rw [HRe.out, aSgn, hm])
          rw [hm] at CM
          have CM : Hid (Calls Tryz.prog 141 #[.string ⟨acc.toArray⟩] w4 fun e w' => ∃ A' c', e = .returned (.tuple #[.slice A' bs.length c', .int .i64 0]) ∧ (bs.length ≤ c' ∧ RIn w' (fun k => w4.heap.size ≤ k) 1 A' bs.length (Lib.byteCells bs)) ∧ Below w4.heap.size w4 w') := hid (CM.out.mono fun e w' hh => by
            rcases hh with ⟨h1, _⟩ | ⟨out, v, h1, h2, hown, hb5⟩
            · exact absurd h1 (by simp)
            · injection h1 with h1
              subst h1
              obtain ⟨A', c', rfl, h3, h4⟩ := RIn.of_own hown
              exact ⟨A', c', h2, ⟨h3, h4⟩, hb5⟩)
          go_wp2_with ((with_reducible refine CM.out.mono ?_); rintro e w5 ⟨A', c', rfl, ⟨h1, h2⟩, hb5⟩)
          go_ret
          rw [HRf.out]
          exact ⟨A', c', rfl, h1, h2.more (fun k hk => Nat.le_trans HG4.out.size hk), by rw [← hpk.out]; exact HR4.out.old hb5, HG4.out.trans (grown_below hb5 _)⟩
      · have hne : ((x.toNat : Int) != k.toNat) = true := by rw [bne_iff_ne]; exact fun e => hx (UInt8.toNat_inj.1 (by omega))
        have hnb : isBlank x = false := HNB.out
        go_wp2_with ((with_reducible refine C.out.mono ?_); rintro e w3 ⟨rfl, hR3, hg3⟩)
        have HS3 := hid (HS.out.move hrl.out hg3 hR3 HDS.out hpkn (by omega))
        clear hR3 hg3
        have C2 := hid (NA.out w3 pk x l HS3.out.2.1 HS3.out.2.2.1 HS3.out.2.2.2.1 HS3.out.2.2.2.2.1)
        refine C2.out.mono ?_
        rintro e w4 ⟨rfl, hb4⟩
        have HS4 := hid (HS3.out.next hrl.out hb4)
        clear hb4 HS3
        have C3 := hid (oneOf1_any S bk x w4 (BK.out w4 HS4.out.2.2.1))
        cases hmx : oneB S x with
        | false =>
          rw [hmx] at C3
          have HRf : Hid (R = .err 3 (x :: l)) := hid (by rw [HRR.out, HSK.out, aSome, if_neg hx, if_neg (by rw [hnb]; simp), if_pos hmx]; rfl)
          obtain ⟨d0, d1, d2, z1, z2⟩ := HS4.out.2.1.all
          go_wp2_with (go_at_call 87; refine C3.out.mono ?_; rintro e w5 ⟨rfl, h5⟩; have h5 := h5.symm; subst h5)
          rw [HRf.out]
          exact ⟨rfl, by rw [← hpk.out]; exact rfl, HS4.out.2.2.1⟩
        | true =>
          rw [hmx] at C3
          go_wp2_with (go_at_call 87; refine C3.out.mono ?_; rintro e w5 ⟨rfl, h5⟩; have h5 := h5.symm; subst h5)
          clear C C2 C3
          have HRU := hid (RU.out w4 pk (x :: l) HS4.out.2.1 HS4.out.2.2.1 HS4.out.2.2.2.1 HS4.out.2.2.2.2.1)
          obtain ⟨tk, htk⟩ : ∃ tk, Hid (tk = (x :: l).takeWhile (oneB S)) := ⟨_, hid rfl⟩
          obtain ⟨dk, hdk⟩ : ∃ dk, Hid (dk = (x :: l).dropWhile (oneB S)) := ⟨_, hid rfl⟩
          have HRU : Hid (Calls Tryz.prog 79 #[.pointer (some ⟨r, 0, none⟩), .func (.func 87) #[] #[.pointer (some ⟨bk, 0, none⟩)]] w4 fun e w' => ∃ A' c', e = .returned (.slice A' tk.length c') ∧ tk.length ≤ c' ∧ RIn w' (fun k => w4.heap.size ≤ k) 1 A' tk.length (Lib.byteCells tk) ∧ RdAt w' r A n c (n - dk.length : Nat) nd ∧ w4.grownBy w' (some r)) := hid (by rw [htk.out, hdk.out]; exact HRU.out)
          have HRN : Hid (R = aSgn unhex (addQ (acc ++ tk) (aSome (oneB S) k dk))) := hid (by rw [HRR.out, HSK.out, aSome_runQ HK2.out HBL.out, addQ_addQ, ← htk.out, ← hdk.out])
          have htd : tk.length + dk.length = l.length + 1 := by rw [← hlen1, htk.out, hdk.out, ← List.length_append, List.takeWhile_append_dropWhile]
          have htk0 : 0 < tk.length := by rw [htk.out, List.takeWhile_cons, if_pos hmx]; simp
          have hdd : Hid (b.drop (pk + tk.length) = dk) := hid (by
            rw [← List.drop_drop, HDS.out, htk.out, hdk.out]
            exact drop_tw _ _)
          have hnd : n - dk.length = pk + tk.length := by omega
          rw [hnd] at HRU
          refine HRU.out.mono ?_
          rintro e w5 ⟨A', c', rfl, hc', hin, hR5, hg5⟩
          have HS5 := hid (HS4.out.move hrl.out hg5 hR5 hdd.out (by omega) (by omega))
          have hw45 := hg5.size
          have hww4 := HS4.out.2.2.1.size
          clear hR5 hg5
          obtain ⟨ad, rfl, hadS, hrow⟩ : ∃ ad, A' = some ad ∧ w4.heap.size ≤ ad.block ∧ ∀ j u, (Lib.byteCells tk)[j]? = some u → w5.cell? (ad.add j) = some u := by
            obtain ⟨ad, e1, e2, e3⟩ := hin.2 htk0
            exact ⟨ad, e1, e2, e3⟩
          have hbw4 : w.heap.size < w4.heap.size := by rcases HS4.out.1 with h | h <;> exact h.lt
          have had2 : ad.block < w5.heap.size := by
            have := World.block_lt_of_cell? _ _ (hrow 0 _ (List.getElem?_eq_getElem (by rw [Lib.byteCells_length]; exact htk0)))
            rwa [block_of_add] at this
          have CW := hid (write_any w.heap.size w.heap.size (Lib.byteCells acc) ad tk.length c' (Lib.byteCells tk) w5 HS5.out.1 (by rw [Lib.byteCells_length]; omega) hrow (Lib.byteCells_one _) (by omega) had2 (by rw [Lib.byteCells_length]; omega) (by omega))
          clear hin hrow
          go_wp2_with ((with_reducible refine CW.out.mono ?_); rintro e w6 ⟨rfl, hb6, hbl6⟩)
          rw [← Lib.byteCells_append] at hb6
          have HS6 : Hid (SHas w w6 r A n c nd b (acc ++ tk) (pk + tk.length) dk) := hid ⟨hb6, (hbl6.block r hrl.out).trans HS5.out.2.1, grown_below2 HS5.out.2.2.1 hbl6, hdd.out, by omega, by simp; omega⟩
          clear hb6 hbl6
          go_wp2_with fail
          go_roundg (dk.length + 1)
          case measure => omega
          case rel => exact ⟨acc ++ tk, dk, pk + tk.length, HS6, HRN, rfl⟩
set_option maxHeartbeats 8000000 in
theorem signs_b64 (S : ByteArray) (k : UInt8) (hk1 : isBlank k = false) (hk2 : oneB S k = false) (hbl : ∀ x, isBlank x = true → oneB S x = false) (bk r : Nat) (A : Option Addr) (n c p : Nat) (nd : Int) (b : List UInt8) (B : Nat) (w : World) (h : RdAt w r A n c p nd) (hr : Reads w B 1 A n (Lib.byteCells b)) (hB : B ≤ r)
    (hbk : w.cell? ⟨bk, 0, none⟩ = some (.string S)) (hbr : bk ≠ r) (hp : p ≤ n) (hn : n ≤ 20000) (hc : n ≤ c) (q : List UInt8) (hs : b.drop p = q) :
    Calls Tryz.prog 54 #[.pointer (some ⟨r, 0, none⟩), .int .u8 k.toNat, .func (.func 87) #[] #[.pointer (some ⟨bk, 0, none⟩)], .func (.func 56) #[] #[]] w fun e w' => AtomEnd w r A n c nd e w' (aSgn ub64 (aSome (oneB S) k q)) := by
  have hl : b.length = n := by have := hr.1; simpa [Lib.byteCells_length] using this
  have hql : p + q.length = n := by have := congrArg List.length hs; rw [List.length_drop, hl] at this; omega
  have hrl := hid h.lt
  have HR := hid hr
  have HL := hid hl
  have HK1 := hid hk1
  have HK2 := hid hk2
  have HBL := hid hbl
  have hbkl := hid (World.block_lt_of_cell? _ _ hbk)
  have BK : Hid (∀ W, w.grownBy W (some r) → W.cell? ⟨bk, 0, none⟩ = some (.string S)) := hid fun W hg => (World.cell?_of_block (hg.block bk hbkl.out (fun e => hbr (by injection e)))).trans hbk
  have PA : Hid (∀ W pp l, RdAt W r A n c (pp : Nat) nd → w.grownBy W (some r) → b.drop pp = l → pp + l.length = n → Calls Tryz.prog 80 #[.pointer (some ⟨r, 0, none⟩)] W (PartEnd W r A n c nd l)) := hid fun W pp l hW hg hd hlen =>
    part_any r A n c pp nd b B W hW (reads_grown HR.out hg hB) hB (by omega) hn hc l hd
  have NA : Hid (∀ W pp x l, RdAt W r A n c (pp : Nat) nd → w.grownBy W (some r) → b.drop pp = x :: l → pp + (x :: l).length = n → Calls Tryz.prog 85 #[.pointer (some ⟨r, 0, none⟩)] W fun e w' => e = .returned (.int .u8 x.toNat) ∧ Below W.heap.size W w') := hid fun W pp x l hW hg hd hlen =>
    next_at r A n c pp nd b B W hW (reads_grown HR.out hg hB) (by simp at hlen; omega) hn x l hd
  have RU : Hid (∀ W pp l, RdAt W r A n c (pp : Nat) nd → w.grownBy W (some r) → b.drop pp = l → pp + l.length = n → Calls Tryz.prog 79 #[.pointer (some ⟨r, 0, none⟩), .func (.func 87) #[] #[.pointer (some ⟨bk, 0, none⟩)]] W (RunEnd W r A n c nd (oneB S) l)) := hid fun W pp l hW hg hd hlen =>
    run_any S bk r A n c pp nd b B W hW (reads_grown HR.out hg hB) hB (BK.out W hg) hbr (by omega) hn hc l hd
  obtain ⟨R, hR⟩ : ∃ R, Hid (R = aSgn ub64 (aSome (oneB S) k q)) := ⟨_, hid rfl⟩
  rw [← hR.out]
  have hpl : p ≤ 20000 := by omega
  have hw0 : Hid (SHas w (w.alloc (.cells #[.pointer none, .slice none 0 0] 74)) r A n c nd b [] p q) := hid ⟨Lib.IsBuilderF.of (Lib.fresh_isBuilder 74 5 w), h.old (below_new w _), grown_below (below_new w _) _, hs, hql, by simp⟩
  have HRQ : Hid (R = aSgn ub64 (addQ [] (aSome (oneB S) k q))) := hid (by rw [hR.out]; cases aSome (oneB S) k q <;> simp [addQ])
  clear h hr hs hl hql hbk hR hk1 hk2 hbl
  go_enter Tryz.func54, Tryz.ntmps54
  go_wp2_with fail
  go_loopg [] (q.length + 1) (fun gg wr => ∃ (acc s : List UInt8) (pp : Nat), Hid (SHas w wr r A n c nd b acc pp s) ∧ Hid (R = aSgn ub64 (addQ acc (aSome (oneB S) k s))) ∧ gg = s.length + 1)
  case atStart => exact ⟨[], q, p, hw0, HRQ, rfl⟩
  case round =>
    obtain ⟨acc, s, pp, HS, HRR, hgk⟩ := hrel
    clear hw0 HRQ
    have C := PA.out wr pp s HS.out.2.1 HS.out.2.2.1 HS.out.2.2.2.1 HS.out.2.2.2.2.1
    have hds := drop_skip HS.out.2.2.2.1 (by rw [HL.out]; exact HS.out.2.2.2.2.1)
    rw [HL.out] at hds
    have hsl := (Tail.skip s).le
    have HSK := hid (aSome_skip (may := oneB S) HK1.out s)
    unfold PartEnd at C
    cases hsk : skip s with
    | nil =>
      rw [hsk] at C HSK
      simp only at C
      have C := hid C
      have HRe : Hid (R = .err 2 []) := hid (by rw [HRR.out, HSK.out]; rfl)
      clear hds hsl hsk
      go_wp2_with ((with_reducible refine C.out.mono ?_); rintro e w3 ⟨rfl, hg3⟩)
      rw [HRe.out]
      exact ⟨rfl, rfl, HS.out.2.2.1.trans hg3⟩
    | cons x l =>
      rw [hsk] at C HSK hds hsl
      simp only at C
      have hgle := HS.out.2.2.2.2.1
      have hacl := HS.out.2.2.2.2.2
      have hxle : (x :: l).length ≤ n := by omega
      obtain ⟨pk, hpk⟩ := namedN (n - (x :: l).length)
      rw [← hpk.out] at C hds
      have hpkn : pk + (x :: l).length = n := by rw [hpk.out]; omega
      have hpk2 : pk ≤ 20000 := by omega
      have hppk : pp ≤ pk := by omega
      have C := hid C
      have HDS := hid hds
      have hxl := x.toNat_lt
      have hlen1 : (x :: l).length = l.length + 1 := rfl
      have HNB := hid (skip_head hsk)
      clear hds hsk
      by_cases hx : x = k
      · have hne : ((x.toNat : Int) != k.toNat) = false := by rw [hx]; simp
        have HRe : Hid (R = aSgn ub64 (.ok acc (x :: l))) := hid (by rw [HRR.out, HSK.out, aSome, if_pos hx]; simp [addQ])
        clear hx
        go_wp2_with ((with_reducible refine C.out.mono ?_); rintro e w3 ⟨rfl, hR3, hg3⟩)
        have HS3 := hid (HS.out.move hrl.out hg3 hR3 HDS.out hpkn (by omega))
        clear hR3 hg3
        go_upto_region 6 with fail
        go_wp2_with (go_at_call 49; refine (Tryz.Builder_String_any_k w.heap.size w.heap.size _ w3 HS3.out.1 HS3.out.2.2.1.size).mono ?_)
        rintro e w4 ⟨rfl, -, hb4, -⟩
        have HR4 : Hid (RdAt w4 r A n c (pk : Nat) nd) := hid ((hb4.block r hrl.out).trans HS3.out.2.1)
        have HG4 : Hid (w.grownBy w4 (some r)) := hid (grown_below2 HS3.out.2.2.1 hb4)
        clear hb4
        have CM := unbase64_any ⟨acc.toArray⟩ w4 (by show acc.toArray.size ≤ _; simp; omega)
        rw [show (⟨acc.toArray⟩ : ByteArray).data.toList = acc by simp] at CM
        have CM := hid CM
        obtain ⟨d0, d1, d2, z1, z2⟩ := HR4.out.all
        cases hm : ub64 acc with
        | none =>
          have HRf : Hid (R = .err 3 (x :: l)) := hid (by rw [HRe.out, aSgn, hm])
          rw [hm] at CM
          have CM : Hid (Calls Tryz.prog 56 #[.string ⟨acc.toArray⟩] w4 fun e w' => e = .returned (.tuple #[.slice none 0 0, .int .i64 3]) ∧ Below w4.heap.size w4 w') := hid (CM.out.mono fun e w' hh => by
            rcases hh with ⟨_, h1, h2⟩ | ⟨_, _, h1, _⟩
            · exact ⟨h1, h2⟩
            · exact absurd h1 (by simp))
          clear d0 d1 d2 z1 z2
          go_wp2_with ((with_reducible refine CM.out.mono ?_); rintro e w5 ⟨rfl, hb5⟩; obtain ⟨d0, d1, d2, z1, z2⟩ := (HR4.out.old hb5).all)
          rw [HRf.out]
          exact ⟨rfl, by rw [← hpk.out]; exact rfl, HG4.out.trans (grown_below hb5 _)⟩
        | some bs =>
          have HRf : Hid (R = .ok bs (x :: l)) := hid (by rw [HRe.out, aSgn, hm])
          rw [hm] at CM
          have CM : Hid (Calls Tryz.prog 56 #[.string ⟨acc.toArray⟩] w4 fun e w' => ∃ A' c', e = .returned (.tuple #[.slice A' bs.length c', .int .i64 0]) ∧ (bs.length ≤ c' ∧ RIn w' (fun k => w4.heap.size ≤ k) 1 A' bs.length (Lib.byteCells bs)) ∧ Below w4.heap.size w4 w') := hid (CM.out.mono fun e w' hh => by
            rcases hh with ⟨h1, _⟩ | ⟨out, v, h1, h2, hown, hb5⟩
            · exact absurd h1 (by simp)
            · injection h1 with h1
              subst h1
              obtain ⟨A', c', rfl, h3, h4⟩ := RIn.of_own hown
              exact ⟨A', c', h2, ⟨h3, h4⟩, hb5⟩)
          go_wp2_with ((with_reducible refine CM.out.mono ?_); rintro e w5 ⟨A', c', rfl, ⟨h1, h2⟩, hb5⟩)
          go_ret
          rw [HRf.out]
          exact ⟨A', c', rfl, h1, h2.more (fun k hk => Nat.le_trans HG4.out.size hk), by rw [← hpk.out]; exact HR4.out.old hb5, HG4.out.trans (grown_below hb5 _)⟩
      · have hne : ((x.toNat : Int) != k.toNat) = true := by rw [bne_iff_ne]; exact fun e => hx (UInt8.toNat_inj.1 (by omega))
        have hnb : isBlank x = false := HNB.out
        go_wp2_with ((with_reducible refine C.out.mono ?_); rintro e w3 ⟨rfl, hR3, hg3⟩)
        have HS3 := hid (HS.out.move hrl.out hg3 hR3 HDS.out hpkn (by omega))
        clear hR3 hg3
        have C2 := hid (NA.out w3 pk x l HS3.out.2.1 HS3.out.2.2.1 HS3.out.2.2.2.1 HS3.out.2.2.2.2.1)
        refine C2.out.mono ?_
        rintro e w4 ⟨rfl, hb4⟩
        have HS4 := hid (HS3.out.next hrl.out hb4)
        clear hb4 HS3
        have C3 := hid (oneOf1_any S bk x w4 (BK.out w4 HS4.out.2.2.1))
        cases hmx : oneB S x with
        | false =>
          rw [hmx] at C3
          have HRf : Hid (R = .err 3 (x :: l)) := hid (by rw [HRR.out, HSK.out, aSome, if_neg hx, if_neg (by rw [hnb]; simp), if_pos hmx]; rfl)
          obtain ⟨d0, d1, d2, z1, z2⟩ := HS4.out.2.1.all
          go_wp2_with (go_at_call 87; refine C3.out.mono ?_; rintro e w5 ⟨rfl, h5⟩; have h5 := h5.symm; subst h5)
          rw [HRf.out]
          exact ⟨rfl, by rw [← hpk.out]; exact rfl, HS4.out.2.2.1⟩
        | true =>
          rw [hmx] at C3
          go_wp2_with (go_at_call 87; refine C3.out.mono ?_; rintro e w5 ⟨rfl, h5⟩; have h5 := h5.symm; subst h5)
          clear C C2 C3
          have HRU := hid (RU.out w4 pk (x :: l) HS4.out.2.1 HS4.out.2.2.1 HS4.out.2.2.2.1 HS4.out.2.2.2.2.1)
          obtain ⟨tk, htk⟩ : ∃ tk, Hid (tk = (x :: l).takeWhile (oneB S)) := ⟨_, hid rfl⟩
          obtain ⟨dk, hdk⟩ : ∃ dk, Hid (dk = (x :: l).dropWhile (oneB S)) := ⟨_, hid rfl⟩
          have HRU : Hid (Calls Tryz.prog 79 #[.pointer (some ⟨r, 0, none⟩), .func (.func 87) #[] #[.pointer (some ⟨bk, 0, none⟩)]] w4 fun e w' => ∃ A' c', e = .returned (.slice A' tk.length c') ∧ tk.length ≤ c' ∧ RIn w' (fun k => w4.heap.size ≤ k) 1 A' tk.length (Lib.byteCells tk) ∧ RdAt w' r A n c (n - dk.length : Nat) nd ∧ w4.grownBy w' (some r)) := hid (by rw [htk.out, hdk.out]; exact HRU.out)
          have HRN : Hid (R = aSgn ub64 (addQ (acc ++ tk) (aSome (oneB S) k dk))) := hid (by rw [HRR.out, HSK.out, aSome_runQ HK2.out HBL.out, addQ_addQ, ← htk.out, ← hdk.out])
          have htd : tk.length + dk.length = l.length + 1 := by rw [← hlen1, htk.out, hdk.out, ← List.length_append, List.takeWhile_append_dropWhile]
          have htk0 : 0 < tk.length := by rw [htk.out, List.takeWhile_cons, if_pos hmx]; simp
          have hdd : Hid (b.drop (pk + tk.length) = dk) := hid (by
            rw [← List.drop_drop, HDS.out, htk.out, hdk.out]
            exact drop_tw _ _)
          have hnd : n - dk.length = pk + tk.length := by omega
          rw [hnd] at HRU
          refine HRU.out.mono ?_
          rintro e w5 ⟨A', c', rfl, hc', hin, hR5, hg5⟩
          have HS5 := hid (HS4.out.move hrl.out hg5 hR5 hdd.out (by omega) (by omega))
          have hw45 := hg5.size
          have hww4 := HS4.out.2.2.1.size
          clear hR5 hg5
          obtain ⟨ad, rfl, hadS, hrow⟩ : ∃ ad, A' = some ad ∧ w4.heap.size ≤ ad.block ∧ ∀ j u, (Lib.byteCells tk)[j]? = some u → w5.cell? (ad.add j) = some u := by
            obtain ⟨ad, e1, e2, e3⟩ := hin.2 htk0
            exact ⟨ad, e1, e2, e3⟩
          have hbw4 : w.heap.size < w4.heap.size := by rcases HS4.out.1 with h | h <;> exact h.lt
          have had2 : ad.block < w5.heap.size := by
            have := World.block_lt_of_cell? _ _ (hrow 0 _ (List.getElem?_eq_getElem (by rw [Lib.byteCells_length]; exact htk0)))
            rwa [block_of_add] at this
          have CW := hid (write_any w.heap.size w.heap.size (Lib.byteCells acc) ad tk.length c' (Lib.byteCells tk) w5 HS5.out.1 (by rw [Lib.byteCells_length]; omega) hrow (Lib.byteCells_one _) (by omega) had2 (by rw [Lib.byteCells_length]; omega) (by omega))
          clear hin hrow
          go_wp2_with ((with_reducible refine CW.out.mono ?_); rintro e w6 ⟨rfl, hb6, hbl6⟩)
          rw [← Lib.byteCells_append] at hb6
          have HS6 : Hid (SHas w w6 r A n c nd b (acc ++ tk) (pk + tk.length) dk) := hid ⟨hb6, (hbl6.block r hrl.out).trans HS5.out.2.1, grown_below2 HS5.out.2.2.1 hbl6, hdd.out, by omega, by simp; omega⟩
          clear hb6 hbl6
          go_wp2_with fail
          go_roundg (dk.length + 1)
          case measure => omega
          case rel => exact ⟨acc ++ tk, dk, pk + tk.length, HS6, HRN, rfl⟩
end Go.Proofs.YtcojkmcnigppbaaGreatDoor.Nt
end
section
set_option maxRecDepth 100000
namespace Go.Proofs.YtcojkmcnigppbaaGreatDoor.Nt
open Go Go.Proofs Go.RowKit Sx Oct
abbrev b64T : ByteArray := { data := ([65, 66, 67, 68, 69, 70, 71, 72, 73, 74, 75, 76, 77, 78, 79, 80, 81, 82, 83, 84, 85, 86, 87, 88, 89, 90, 97, 98, 99, 100, 101, 102].append [103, 104, 105, 106, 107, 108, 109, 110, 111, 112, 113, 114, 115, 116, 117, 118, 119, 120, 121, 122, 48, 49, 50, 51, 52, 53, 54, 55, 56, 57, 43, 47, 61]).toArray }
theorem b64T_sign : oneB b64T = isB64S := all_bytes (by decide +kernel)
theorem blank_no : ∀ x : UInt8, isBlank x = true → isHexS x = false ∧ isB64S x = false := fun x => fin_of (P := fun x => isBlank x = true → isHexS x = false ∧ isB64S x = false) (by decide +kernel) x
theorem skip_at {k : UInt8} (h : isBlank k = false) (q : List UInt8) : skip (k :: q) = k :: q := by
  unfold Sx.skip
  rw [List.dropWhile_cons, if_neg (by rw [h]; simp)]
theorem expect_at (k : UInt8) (hk : isBlank k = false) (r : Nat) (A : Option Addr) (n c p : Nat) (nd : Int) (b : List UInt8) (B : Nat) (w : World) (h : RdAt w r A n c p nd) (hr : Reads w B 1 A n (Lib.byteCells b)) (hB : B ≤ r) (hp : p ≤ n) (hn : n ≤ 20000) (hc : n ≤ c) (q : List UInt8) (hs : b.drop p = k :: q) :
    Calls Tryz.prog 53 #[.pointer (some ⟨r, 0, none⟩), .int .u8 k.toNat] w fun e w' => e = .returned (.tuple #[]) ∧ RdAt w' r A n c (n - q.length : Nat) nd ∧ w.grownBy w' (some r) := by
  have C := expect_any k r A n c p nd b B w h hr hB hp hn hc (k :: q) hs
  unfold ExpEnd at C
  rw [skip_at hk] at C
  simpa using C
theorem drop_len {b q : List UInt8} {p n : Nat} (hs : b.drop p = q) (hl : b.length = n) (hp : p ≤ n) : p = n - q.length ∧ q.length ≤ n := by
  have := congrArg List.length hs
  rw [List.length_drop, hl] at this
  omega
theorem drop_tail {b q t : List UInt8} {p n : Nat} (hs : b.drop p = q) (hl : b.length = n) (hp : p ≤ n) (ht : Tail t q) : b.drop (n - t.length) = t := by
  have h1 := ht.at_
  have h2 := ht.le
  obtain ⟨h3, h4⟩ := drop_len hs hl hp
  rw [← hs, List.drop_drop, List.length_drop, hl] at h1
  rw [show n - t.length = p + (n - p - t.length) by omega]
  exact h1
set_option maxHeartbeats 8000000 in
theorem hex_any (r : Nat) (A : Option Addr) (n c p : Nat) (nd : Int) (b : List UInt8) (B : Nat) (w : World) (h : RdAt w r A n c p nd) (hr : Reads w B 1 A n (Lib.byteCells b)) (hB : B ≤ r) (hp : p ≤ n) (hn : n ≤ 20000) (hc : n ≤ c) (q : List UInt8) (hs : b.drop p = 35 :: q) :
    Calls Tryz.prog 128 #[.pointer (some ⟨r, 0, none⟩)] w fun e w' => AtomEnd w r A n c nd e w' (aMean unhex (aSome isHexS 35 q)) := by
  have hl : b.length = n := by have := hr.1; simpa [Lib.byteCells_length] using this
  have hk : isBlank 35 = false := by decide
  have HR := hid hr
  have hrl := hid h.lt
  have hql : q.length ≤ n := by have := drop_len hs hl hp; simp at this; omega
  have hd1 : b.drop (n - q.length) = q := drop_tail hs hl hp (Tail.cons _ _)
  have C1 := hid (expect_at 35 hk r A n c p nd b B w h hr hB hp hn hc q hs)
  have C1 : Hid (Calls Tryz.prog 53 #[.pointer (some ⟨r, 0, none⟩), .int .u8 35] w fun e w' => e = .returned (.tuple #[]) ∧ RdAt w' r A n c (n - q.length : Nat) nd ∧ w.grownBy w' (some r)) := C1
  have C2 : Hid (∀ W, Calls Tryz.prog 55 #[.string hexS] W fun e w' => e = .returned (.func (.func 87) #[] #[.pointer (some ⟨W.heap.size, 0, none⟩)]) ∧ w' = W.alloc (.cells #[.string hexS] 9)) := hid fun W => oneOf_any hexS W
  have C3 : Hid (∀ W, RdAt W r A n c (n - q.length : Nat) nd → w.grownBy W (some r) → Calls Tryz.prog 54 #[.pointer (some ⟨r, 0, none⟩), .int .u8 35, .func (.func 87) #[] #[.pointer (some ⟨W.heap.size, 0, none⟩)], .func (.func 141) #[] #[]] (W.alloc (.cells #[.string hexS] 9)) fun e w' => AtomEnd (W.alloc (.cells #[.string hexS] 9)) r A n c nd e w' (aSgn unhex (aSome isHexS 35 q))) := hid fun W hW hg => by
    have hb := below_new W (.cells #[.string hexS] 9)
    have hk2 : (W.alloc (.cells #[.string hexS] 9)).cell? ⟨W.heap.size, 0, none⟩ = some (.string hexS) := by
      rw [Lib.cell_of_heap (heap_alloc_new W _)]; rfl
    have := signs_hex hexS 35 hk (by rw [hexS_sign]; decide) (by rw [hexS_sign]; intro x hx; exact (blank_no x hx).1) W.heap.size r A n c (n - q.length) nd b B (W.alloc (.cells #[.string hexS] 9)) (hW.old hb) (reads_grown HR.out (hg.trans (grown_below hb (some r))) hB) hB hk2 (by have := hW.lt; omega) (by omega) hn hc q hd1
    rw [hexS_sign] at this
    exact this
  cases hx : aSome isHexS 35 q with
  | err k rest =>
    rw [hx] at C3
    have C3 := C3
    clear h hr hs hl hd1 hx
    go_enter Tryz.func128, Tryz.ntmps128
    go_wp2_with ((with_reducible refine C1.out.mono ?_); rintro e w1 ⟨rfl, hR1, hg1⟩)
    go_wp2_with fail
    refine (C2.out w1).mono ?_
    rintro e w2 ⟨rfl, rfl⟩
    go_wp2_with fail
    have C4 := C3.out w1 hR1 hg1
    simp only [aSgn, AtomEnd] at C4
    have C4 := hid C4
    refine C4.out.mono ?_
    rintro e w3 ⟨rfl, hg3⟩
    go_wp2_with fail
    exact ⟨rfl, rfl, hg1.trans ((grown_below (below_new w1 _) _).trans hg3)⟩
  | ok l rest =>
    obtain ⟨t, rfl⟩ := aSome_stop hx
    have ht : Tail (35 :: t) q := by have := aSome_fine isHexS 35 q; rw [hx] at this; exact this
    have htl := ht.le
    have hd2 := hid (drop_tail hd1 hl (by omega) ht)
    rw [hx] at C3
    cases hm : unhex l with
    | none =>
      clear h hr hs hl hd1 hx
      have HM := hid hm
      go_enter Tryz.func128, Tryz.ntmps128
      go_wp2_with ((with_reducible refine C1.out.mono ?_); rintro e w1 ⟨rfl, hR1, hg1⟩)
      go_wp2_with fail
      refine (C2.out w1).mono ?_
      rintro e w2 ⟨rfl, rfl⟩
      go_wp2_with fail
      have C4 := C3.out w1 hR1 hg1
      simp only [aSgn, HM.out, AtomEnd] at C4
      have C4 := hid C4
      refine C4.out.mono ?_
      rintro e w3 ⟨rfl, hg3⟩
      go_wp2_with fail
      simp only [aMean, HM.out]
      exact ⟨rfl, rfl, hg1.trans ((grown_below (below_new w1 _) _).trans hg3)⟩
    | some bs =>
      have C5 : Hid (∀ W, RdAt W r A n c (n - (35 :: t).length : Nat) nd → w.grownBy W (some r) → Calls Tryz.prog 53 #[.pointer (some ⟨r, 0, none⟩), .int .u8 35] W fun e w' => e = .returned (.tuple #[]) ∧ RdAt w' r A n c (n - t.length : Nat) nd ∧ W.grownBy w' (some r)) := hid fun W hW hg =>
        expect_at 35 hk r A n c _ nd b B W hW (reads_grown HR.out hg hB) hB (by omega) hn hc t hd2.out
      clear h hr hs hl hd1 hx
      have HM := hid hm
      go_enter Tryz.func128, Tryz.ntmps128
      go_wp2_with ((with_reducible refine C1.out.mono ?_); rintro e w1 ⟨rfl, hR1, hg1⟩)
      go_wp2_with fail
      refine (C2.out w1).mono ?_
      rintro e w2 ⟨rfl, rfl⟩
      go_wp2_with fail
      have C4 := C3.out w1 hR1 hg1
      simp only [aSgn, HM.out, AtomEnd] at C4
      have C4 := hid C4
      refine C4.out.mono ?_
      rintro e w3 ⟨A', c', rfl, h1, h2, hR3, hg3⟩
      have HG3 := hid (hg1.trans ((grown_below (below_new w1 (.cells #[.string hexS] 9)) _).trans hg3))
      have HN3 := hid (h2.more (S' := fun k => w.heap.size ≤ k) (fun k hk => by have h3 := hg1.size; have h4 := (below_new w1 (.cells #[.string hexS] 9)).size; omega))
      have C6 := hid (C5.out w3 hR3 HG3.out)
      clear hR1 hg1 h2 hR3 hg3 C4
      go_wp2_with ((with_reducible refine C6.out.mono ?_); rintro e w4 ⟨rfl, hR4, hg4⟩)
      go_ret
      simp only [aMean, HM.out]
      exact ⟨A', c', rfl, h1, HN3.out.grown (by omega) hg4 (fun k hk e => by injection e with e; have := hrl.out; omega), hR4, HG3.out.trans hg4⟩
set_option maxHeartbeats 8000000 in
theorem base64_any (r : Nat) (A : Option Addr) (n c p : Nat) (nd : Int) (b : List UInt8) (B : Nat) (w : World) (h : RdAt w r A n c p nd) (hr : Reads w B 1 A n (Lib.byteCells b)) (hB : B ≤ r) (hp : p ≤ n) (hn : n ≤ 20000) (hc : n ≤ c) (q : List UInt8) (hs : b.drop p = 124 :: q) :
    Calls Tryz.prog 129 #[.pointer (some ⟨r, 0, none⟩)] w fun e w' => AtomEnd w r A n c nd e w' (aMean ub64 (aSome isB64S 124 q)) := by
  have hl : b.length = n := by have := hr.1; simpa [Lib.byteCells_length] using this
  have hk : isBlank 124 = false := by decide
  have HR := hid hr
  have hrl := hid h.lt
  have hql : q.length ≤ n := by have := drop_len hs hl hp; simp at this; omega
  have hd1 : b.drop (n - q.length) = q := drop_tail hs hl hp (Tail.cons _ _)
  have C1 := hid (expect_at 124 hk r A n c p nd b B w h hr hB hp hn hc q hs)
  have C1 : Hid (Calls Tryz.prog 53 #[.pointer (some ⟨r, 0, none⟩), .int .u8 124] w fun e w' => e = .returned (.tuple #[]) ∧ RdAt w' r A n c (n - q.length : Nat) nd ∧ w.grownBy w' (some r)) := C1
  have C2 : Hid (∀ W, Calls Tryz.prog 55 #[.string b64T] W fun e w' => e = .returned (.func (.func 87) #[] #[.pointer (some ⟨W.heap.size, 0, none⟩)]) ∧ w' = W.alloc (.cells #[.string b64T] 9)) := hid fun W => oneOf_any b64T W
  have C3 : Hid (∀ W, RdAt W r A n c (n - q.length : Nat) nd → w.grownBy W (some r) → Calls Tryz.prog 54 #[.pointer (some ⟨r, 0, none⟩), .int .u8 124, .func (.func 87) #[] #[.pointer (some ⟨W.heap.size, 0, none⟩)], .func (.func 56) #[] #[]] (W.alloc (.cells #[.string b64T] 9)) fun e w' => AtomEnd (W.alloc (.cells #[.string b64T] 9)) r A n c nd e w' (aSgn ub64 (aSome isB64S 124 q))) := hid fun W hW hg => by
    have hb := below_new W (.cells #[.string b64T] 9)
    have hk2 : (W.alloc (.cells #[.string b64T] 9)).cell? ⟨W.heap.size, 0, none⟩ = some (.string b64T) := by
      rw [Lib.cell_of_heap (heap_alloc_new W _)]; rfl
    have := signs_b64 b64T 124 hk (by rw [b64T_sign]; decide) (by rw [b64T_sign]; intro x hx; exact (blank_no x hx).2) W.heap.size r A n c (n - q.length) nd b B (W.alloc (.cells #[.string b64T] 9)) (hW.old hb) (reads_grown HR.out (hg.trans (grown_below hb (some r))) hB) hB hk2 (by have := hW.lt; omega) (by omega) hn hc q hd1
    rw [b64T_sign] at this
    exact this
  cases hx : aSome isB64S 124 q with
  | err k rest =>
    rw [hx] at C3
    have C3 := C3
    clear h hr hs hl hd1 hx
    go_enter Tryz.func129, Tryz.ntmps129
    go_wp2_with ((with_reducible refine C1.out.mono ?_); rintro e w1 ⟨rfl, hR1, hg1⟩)
    go_wp2_with fail
    refine (C2.out w1).mono ?_
    rintro e w2 ⟨rfl, rfl⟩
    go_wp2_with fail
    have C4 := C3.out w1 hR1 hg1
    simp only [aSgn, AtomEnd] at C4
    have C4 := hid C4
    refine C4.out.mono ?_
    rintro e w3 ⟨rfl, hg3⟩
    go_wp2_with fail
    exact ⟨rfl, rfl, hg1.trans ((grown_below (below_new w1 _) _).trans hg3)⟩
  | ok l rest =>
    obtain ⟨t, rfl⟩ := aSome_stop hx
    have ht : Tail (124 :: t) q := by have := aSome_fine isB64S 124 q; rw [hx] at this; exact this
    have htl := ht.le
    have hd2 := hid (drop_tail hd1 hl (by omega) ht)
    rw [hx] at C3
    cases hm : ub64 l with
    | none =>
      clear h hr hs hl hd1 hx
      have HM := hid hm
      go_enter Tryz.func129, Tryz.ntmps129
      go_wp2_with ((with_reducible refine C1.out.mono ?_); rintro e w1 ⟨rfl, hR1, hg1⟩)
      go_wp2_with fail
      refine (C2.out w1).mono ?_
      rintro e w2 ⟨rfl, rfl⟩
      go_wp2_with fail
      have C4 := C3.out w1 hR1 hg1
      simp only [aSgn, HM.out, AtomEnd] at C4
      have C4 := hid C4
      refine C4.out.mono ?_
      rintro e w3 ⟨rfl, hg3⟩
      go_wp2_with fail
      simp only [aMean, HM.out]
      exact ⟨rfl, rfl, hg1.trans ((grown_below (below_new w1 _) _).trans hg3)⟩
    | some bs =>
      have C5 : Hid (∀ W, RdAt W r A n c (n - (124 :: t).length : Nat) nd → w.grownBy W (some r) → Calls Tryz.prog 53 #[.pointer (some ⟨r, 0, none⟩), .int .u8 124] W fun e w' => e = .returned (.tuple #[]) ∧ RdAt w' r A n c (n - t.length : Nat) nd ∧ W.grownBy w' (some r)) := hid fun W hW hg =>
        expect_at 124 hk r A n c _ nd b B W hW (reads_grown HR.out hg hB) hB (by omega) hn hc t hd2.out
      clear h hr hs hl hd1 hx
      have HM := hid hm
      go_enter Tryz.func129, Tryz.ntmps129
      go_wp2_with ((with_reducible refine C1.out.mono ?_); rintro e w1 ⟨rfl, hR1, hg1⟩)
      go_wp2_with fail
      refine (C2.out w1).mono ?_
      rintro e w2 ⟨rfl, rfl⟩
      go_wp2_with fail
      have C4 := C3.out w1 hR1 hg1
      simp only [aSgn, HM.out, AtomEnd] at C4
      have C4 := hid C4
      refine C4.out.mono ?_
      rintro e w3 ⟨A', c', rfl, h1, h2, hR3, hg3⟩
      have HG3 := hid (hg1.trans ((grown_below (below_new w1 (.cells #[.string b64T] 9)) _).trans hg3))
      have HN3 := hid (h2.more (S' := fun k => w.heap.size ≤ k) (fun k hk => by have h3 := hg1.size; have h4 := (below_new w1 (.cells #[.string b64T] 9)).size; omega))
      have C6 := hid (C5.out w3 hR3 HG3.out)
      clear hR1 hg1 h2 hR3 hg3 C4
      go_wp2_with ((with_reducible refine C6.out.mono ?_); rintro e w4 ⟨rfl, hR4, hg4⟩)
      go_ret
      simp only [aMean, HM.out]
      exact ⟨A', c', rfl, h1, HN3.out.grown (by omega) hg4 (fun k hk e => by injection e with e; have := hrl.out; omega), hR4, HG3.out.trans hg4⟩
end Go.Proofs.YtcojkmcnigppbaaGreatDoor.Nt
end
section
set_option maxRecDepth 100000
namespace Go.Proofs.YtcojkmcnigppbaaGreatDoor.Nt
open Go Go.Proofs Go.RowKit Sx Oct
def rdF (x : UInt8) : Value :=
  if isDig x then .func (.func 125) #[] #[]
  else if isTok x then .func (.func 126) #[] #[]
  else if x = 34 then .func (.func 127) #[] #[]
  else if x = 35 then .func (.func 128) #[] #[]
  else if x = 124 then .func (.func 129) #[] #[]
  else .nilFunc
theorem cell_new (w : World) (s : ByteArray) : (w.alloc (.cells #[.string s] 9)).cell? ⟨w.heap.size, 0, none⟩ = some (.string s) := by
  rw [Lib.cell_of_heap (heap_alloc_new w _)]; rfl
theorem oneOf_new (s : ByteArray) (w : World) : Calls Tryz.prog 55 #[.string s] w fun e w' => ∃ g, e = .returned (.func (.func 87) #[] #[.pointer (some ⟨g, 0, none⟩)]) ∧ w'.cell? ⟨g, 0, none⟩ = some (.string s) ∧ Below w.heap.size w w' :=
  (oneOf_any s w).mono fun e w' ⟨h1, h2⟩ => ⟨w.heap.size, h1, by rw [h2]; exact cell_new w s, by rw [h2]; exact below_new w _⟩
theorem oneOf_ask (s : ByteArray) (g : Nat) (x : UInt8) (w : World) (h : w.cell? ⟨g, 0, none⟩ = some (.string s)) : Calls Tryz.prog 87 #[.int .u8 x.toNat, .pointer (some ⟨g, 0, none⟩)] w fun e w' => e = .returned (.bool (oneB s x)) ∧ Below w.heap.size w w' :=
  (oneOf1_any s g x w h).mono fun e w' ⟨h1, h2⟩ => ⟨h1, by rw [h2]; exact Below.refl _ _⟩
theorem eq_byte (x : UInt8) (k : UInt8) (m : Int) (hm : m = (k.toNat : Int)) : ((x.toNat : Int) == m) = decide (x = k) := by
  rw [hm, Bool.eq_iff_iff, beq_iff_eq, decide_eq_true_iff]
  exact ⟨fun h => UInt8.toNat_inj.1 (by omega), fun h => by rw [h]⟩
set_option maxHeartbeats 8000000 in
theorem plainReader_any (x : UInt8) (w : World) : Calls Tryz.prog 109 #[.int .u8 x.toNat] w fun e w' => e = .returned (rdF x) ∧ Below w.heap.size w w' := by
  have e34 := hid (eq_byte x 34 34 rfl)
  have e35 := hid (eq_byte x 35 35 rfl)
  have e124 := hid (eq_byte x 124 124 rfl)
  have D1 := hid (oneOf_new digS)
  have D2 := hid (oneOf_ask digS)
  rw [dig_sign] at D2
  have T1 := hid (oneOf_new tokS)
  have T2 := hid (oneOf_ask tokS)
  rw [tok_sign] at T2
  by_cases hd : isDig x = true
  · rw [rdF, if_pos hd]
    go_enter Tryz.func109, Tryz.ntmps109
    go_wp2_with fail
    refine (D1.out w).mono ?_
    rintro e w1 ⟨g1, rfl, hg1, hb1⟩
    go_wp2_with fail
    refine (D2.out g1 x w1 hg1).mono ?_
    rintro e w2 ⟨rfl, hb2⟩
    have hb2 := hb1.trans (hb2.mono hb1.size)
    clear hg1 hb1
    rw [hd]
    go_wp2_with fail
    go_ret
    exact ⟨rfl, hb2⟩
  · have hd0 := hid (show isDig x = false by simpa using hd)
    rw [rdF, if_neg hd]
    by_cases ht : isTok x = true
    · rw [if_pos ht]
      go_enter Tryz.func109, Tryz.ntmps109
      go_wp2_with fail
      refine (D1.out w).mono ?_
      rintro e w1 ⟨g1, rfl, hg1, hb1⟩
      go_wp2_with fail
      refine (D2.out g1 x w1 hg1).mono ?_
      rintro e w2 ⟨rfl, hb2⟩
      have hb2 := hb1.trans (hb2.mono hb1.size)
      clear hg1 hb1
      rw [hd0.out]
      go_wp2_with fail
      refine (T1.out w2).mono ?_
      rintro e w3 ⟨g3, rfl, hg3, hb3⟩
      go_wp2_with fail
      refine (T2.out g3 x w3 hg3).mono ?_
      rintro e w4 ⟨rfl, hb4⟩
      have hb4 := hb2.trans ((hb3.trans (hb4.mono hb3.size)).mono hb2.size)
      clear hb2 hg3 hb3
      rw [ht]
      go_wp2_with fail
      go_ret
      exact ⟨rfl, hb4⟩
    · have ht0 := hid (show isTok x = false by simpa using ht)
      rw [if_neg ht]
      by_cases h34 : x = 34
      · rw [if_pos h34]
        replace h34 := hid h34
        go_enter Tryz.func109, Tryz.ntmps109
        go_wp2_with fail
        refine (D1.out w).mono ?_
        rintro e w1 ⟨g1, rfl, hg1, hb1⟩
        go_wp2_with fail
        refine (D2.out g1 x w1 hg1).mono ?_
        rintro e w2 ⟨rfl, hb2⟩
        have hb2 := hb1.trans (hb2.mono hb1.size)
        clear hg1 hb1
        rw [hd0.out]
        go_wp2_with fail
        refine (T1.out w2).mono ?_
        rintro e w3 ⟨g3, rfl, hg3, hb3⟩
        go_wp2_with fail
        refine (T2.out g3 x w3 hg3).mono ?_
        rintro e w4 ⟨rfl, hb4⟩
        have hb4 := hb2.trans ((hb3.trans (hb4.mono hb3.size)).mono hb2.size)
        clear hb2 hg3 hb3
        rw [ht0.out]
        have q34 := e34.out; simp only [decide_eq_true h34.out] at q34
        go_wp2_with fail
        go_ret
        exact ⟨rfl, hb4⟩
      · rw [if_neg h34]
        by_cases h35 : x = 35
        · rw [if_pos h35]
          replace h34 := hid h34
          replace h35 := hid h35
          go_enter Tryz.func109, Tryz.ntmps109
          go_wp2_with fail
          refine (D1.out w).mono ?_
          rintro e w1 ⟨g1, rfl, hg1, hb1⟩
          go_wp2_with fail
          refine (D2.out g1 x w1 hg1).mono ?_
          rintro e w2 ⟨rfl, hb2⟩
          have hb2 := hb1.trans (hb2.mono hb1.size)
          clear hg1 hb1
          rw [hd0.out]
          go_wp2_with fail
          refine (T1.out w2).mono ?_
          rintro e w3 ⟨g3, rfl, hg3, hb3⟩
          go_wp2_with fail
          refine (T2.out g3 x w3 hg3).mono ?_
          rintro e w4 ⟨rfl, hb4⟩
          have hb4 := hb2.trans ((hb3.trans (hb4.mono hb3.size)).mono hb2.size)
          clear hb2 hg3 hb3
          rw [ht0.out]
          have q34 := e34.out; simp only [decide_eq_false h34.out] at q34
          have q35 := e35.out; simp only [decide_eq_true h35.out] at q35
          go_wp2_with fail
          go_ret
          exact ⟨rfl, hb4⟩
        · rw [if_neg h35]
          by_cases h124 : x = 124
          · rw [if_pos h124]
            replace h34 := hid h34
            replace h35 := hid h35
            replace h124 := hid h124
            go_enter Tryz.func109, Tryz.ntmps109
            go_wp2_with fail
            refine (D1.out w).mono ?_
            rintro e w1 ⟨g1, rfl, hg1, hb1⟩
            go_wp2_with fail
            refine (D2.out g1 x w1 hg1).mono ?_
            rintro e w2 ⟨rfl, hb2⟩
            have hb2 := hb1.trans (hb2.mono hb1.size)
            clear hg1 hb1
            rw [hd0.out]
            go_wp2_with fail
            refine (T1.out w2).mono ?_
            rintro e w3 ⟨g3, rfl, hg3, hb3⟩
            go_wp2_with fail
            refine (T2.out g3 x w3 hg3).mono ?_
            rintro e w4 ⟨rfl, hb4⟩
            have hb4 := hb2.trans ((hb3.trans (hb4.mono hb3.size)).mono hb2.size)
            clear hb2 hg3 hb3
            rw [ht0.out]
            have q34 := e34.out; simp only [decide_eq_false h34.out] at q34
            have q35 := e35.out; simp only [decide_eq_false h35.out] at q35
            have q124 := e124.out; simp only [decide_eq_true h124.out] at q124
            go_wp2_with fail
            go_ret
            exact ⟨rfl, hb4⟩
          · rw [if_neg h124]
            replace h34 := hid h34
            replace h35 := hid h35
            replace h124 := hid h124
            go_enter Tryz.func109, Tryz.ntmps109
            go_wp2_with fail
            refine (D1.out w).mono ?_
            rintro e w1 ⟨g1, rfl, hg1, hb1⟩
            go_wp2_with fail
            refine (D2.out g1 x w1 hg1).mono ?_
            rintro e w2 ⟨rfl, hb2⟩
            have hb2 := hb1.trans (hb2.mono hb1.size)
            clear hg1 hb1
            rw [hd0.out]
            go_wp2_with fail
            refine (T1.out w2).mono ?_
            rintro e w3 ⟨g3, rfl, hg3, hb3⟩
            go_wp2_with fail
            refine (T2.out g3 x w3 hg3).mono ?_
            rintro e w4 ⟨rfl, hb4⟩
            have hb4 := hb2.trans ((hb3.trans (hb4.mono hb3.size)).mono hb2.size)
            clear hb2 hg3 hb3
            rw [ht0.out]
            have q34 := e34.out; simp only [decide_eq_false h34.out] at q34
            have q35 := e35.out; simp only [decide_eq_false h35.out] at q35
            have q124 := e124.out; simp only [decide_eq_false h124.out] at q124
            go_wp2_with fail
            go_ret
            exact ⟨rfl, hb4⟩
end Go.Proofs.YtcojkmcnigppbaaGreatDoor.Nt
end
section
set_option maxRecDepth 100000
namespace Go.Proofs.YtcojkmcnigppbaaGreatDoor.Nt
open Go Go.Proofs Go.RowKit Sx Oct
theorem run_eqF (f : Nat) (W : World) : (binOp .eql 131 (.func (.func f) #[] #[]) .nilFunc).run Tryz.prog W = .ok (.bool false) W := by rfl
theorem run_eqN (W : World) : (binOp .eql 131 .nilFunc .nilFunc).run Tryz.prog W = .ok (.bool true) W := by rfl
theorem run_neF (f : Nat) (W : World) : (binOp .neq 131 (.func (.func f) #[] #[]) .nilFunc).run Tryz.prog W = .ok (.bool true) W := by rfl
theorem run_neN (W : World) : (binOp .neq 131 .nilFunc .nilFunc).run Tryz.prog W = .ok (.bool false) W := by rfl
set_option maxHeartbeats 8000000 in
theorem plain_any (r : Nat) (A : Option Addr) (n c p : Nat) (nd : Int) (b : List UInt8) (B : Nat) (w : World) (h : RdAt w r A n c p nd) (hr : Reads w B 1 A n (Lib.byteCells b)) (hB : B ≤ r) (hp : p ≤ n) (hn : n ≤ 20000) (hc : n ≤ c) (q : List UInt8) (hs : b.drop p = q) :
    Calls Tryz.prog 84 #[.pointer (some ⟨r, 0, none⟩)] w fun e w' => AtomEnd w r A n c nd e w' (aPlain (skip q)) := by
  have hl : b.length = n := by have := hr.1; simpa [Lib.byteCells_length] using this
  have HR := hid hr
  have C := part_any r A n c p nd b B w h hr hB hp hn hc q hs
  have hd1 := drop_tail hs hl hp (Tail.skip q)
  have hsl : (skip q).length ≤ n := by have := (Tail.skip q).le; have := drop_len hs hl hp; omega
  have C2 : Hid (∀ x W, Calls Tryz.prog 109 #[.int .u8 x.toNat] W fun e w' => e = .returned (rdF x) ∧ Below W.heap.size W w') := hid fun x W => plainReader_any x W
  unfold PartEnd at C
  cases hsk : skip q with
  | nil =>
    rw [hsk] at C
    simp only at C
    have C := hid C
    clear h hr hs hl hd1 hsl hsk
    go_enter Tryz.func84, Tryz.ntmps84
    go_wp2_with ((with_reducible refine C.out.mono ?_); rintro e w1 ⟨rfl, hg1⟩)
    exact ⟨rfl, rfl, hg1⟩
  | cons x l =>
    rw [hsk] at C hd1 hsl
    simp only at C
    have C := hid C
    obtain ⟨pk, hpk⟩ := namedN (n - (x :: l).length)
    rw [← hpk.out] at C hd1
    have hpn : pk ≤ n := by rw [hpk.out]; omega
    have HD1 := hid hd1
    have C2 := hid (C2.out x)
    have HW : Hid (∀ W, w.grownBy W (some r) → Reads W B 1 A n (Lib.byteCells b)) := hid fun W hg => reads_grown HR.out hg hB
    clear h hr hs hl hd1 hsl hsk
    by_cases hd : isDig x = true
    · have e : rdF x = .func (.func 125) #[] #[] := by rw [rdF, if_pos hd]
      rw [e] at C2
      have hres : aPlain (x :: l) = pBytes (x :: l) := by rw [aPlain, if_pos hd]
      obtain ⟨RR, hRR⟩ : ∃ RR, Hid (RR = (pBytes (x :: l))) := ⟨_, hid rfl⟩
      have C3 : Hid (∀ W, RdAt W r A n c (pk : Nat) nd → w.grownBy W (some r) → Calls Tryz.prog 125 #[.pointer (some ⟨r, 0, none⟩)] W fun e w' => AtomEnd W r A n c nd e w' RR) := hid fun W hW hg => by
        rw [hRR.out]
        exact counted_any r A n c pk nd b B W hW (HW.out W hg) hB hpn hn hc x l HD1.out hd
      rw [hres, ← hRR.out]
      clear HD1 HW hres hRR e hd
      go_enter Tryz.func84, Tryz.ntmps84
      go_wp2_with ((with_reducible refine C.out.mono ?_); rintro e w1 ⟨rfl, hR1, hg1⟩)
      refine (C2.out w1).mono ?_
      rintro e w2 ⟨rfl, hb2⟩
      have HG2 := hid (hg1.trans (grown_below hb2 (some r)))
      have C4 := C3.out w2 (hR1.old hb2) HG2.out
      clear hR1 hg1 hb2
      go_wp2_with fail
      rw [run_eqF]
      simp only [Result.andThen]
      rw [Oper.upon_value]
      cases RR with
      | err k rest =>
        simp only [AtomEnd] at C4
        have C4 := hid C4
        go_wp2_with (go_at_call 125; refine C4.out.mono ?_; rintro e w3 ⟨rfl, hg3⟩)
        exact ⟨rfl, rfl, HG2.out.trans hg3⟩
      | ok l2 rest =>
        simp only [AtomEnd] at C4
        have C4 := hid C4
        go_wp2_with (go_at_call 125; refine C4.out.mono ?_; rintro e w3 ⟨A', c', rfl, h1, h2, hR3, hg3⟩)
        go_ret
        exact ⟨A', c', rfl, h1, h2.more (fun k hk => Nat.le_trans HG2.out.size hk), hR3, HG2.out.trans hg3⟩
    · by_cases ht : isTok x = true
      · have e : rdF x = .func (.func 126) #[] #[] := by rw [rdF, if_neg hd, if_pos ht]
        rw [e] at C2
        have hres : aPlain (x :: l) = Res.ok ((x :: l).takeWhile isTok) ((x :: l).dropWhile isTok) := by rw [aPlain, if_neg hd, if_pos ht]
        obtain ⟨RR, hRR⟩ : ∃ RR, Hid (RR = (Res.ok ((x :: l).takeWhile isTok) ((x :: l).dropWhile isTok))) := ⟨_, hid rfl⟩
        have C3 : Hid (∀ W, RdAt W r A n c (pk : Nat) nd → w.grownBy W (some r) → Calls Tryz.prog 126 #[.pointer (some ⟨r, 0, none⟩)] W fun e w' => AtomEnd W r A n c nd e w' RR) := hid fun W hW hg => by
          rw [hRR.out]
          exact token_any r A n c pk nd b B W hW (HW.out W hg) hB hpn hn hc (x :: l) HD1.out
        rw [hres, ← hRR.out]
        clear HD1 HW hres hRR e hd ht
        go_enter Tryz.func84, Tryz.ntmps84
        go_wp2_with ((with_reducible refine C.out.mono ?_); rintro e w1 ⟨rfl, hR1, hg1⟩)
        refine (C2.out w1).mono ?_
        rintro e w2 ⟨rfl, hb2⟩
        have HG2 := hid (hg1.trans (grown_below hb2 (some r)))
        have C4 := C3.out w2 (hR1.old hb2) HG2.out
        clear hR1 hg1 hb2
        go_wp2_with fail
        rw [run_eqF]
        simp only [Result.andThen]
        rw [Oper.upon_value]
        cases RR with
        | err k rest =>
          simp only [AtomEnd] at C4
          have C4 := hid C4
          go_wp2_with (go_at_call 126; refine C4.out.mono ?_; rintro e w3 ⟨rfl, hg3⟩)
          exact ⟨rfl, rfl, HG2.out.trans hg3⟩
        | ok l2 rest =>
          simp only [AtomEnd] at C4
          have C4 := hid C4
          go_wp2_with (go_at_call 126; refine C4.out.mono ?_; rintro e w3 ⟨A', c', rfl, h1, h2, hR3, hg3⟩)
          go_ret
          exact ⟨A', c', rfl, h1, h2.more (fun k hk => Nat.le_trans HG2.out.size hk), hR3, HG2.out.trans hg3⟩
      · by_cases h34 : x = 34
        · have e : rdF x = .func (.func 127) #[] #[] := by rw [rdF, if_neg hd, if_neg ht, if_pos h34]
          rw [e] at C2
          have hres : aPlain (x :: l) = (aQuoted (l.length + 1) l) := by rw [aPlain, if_neg hd, if_neg ht, if_pos h34]
          obtain ⟨RR, hRR⟩ : ∃ RR, Hid (RR = (aQuoted (l.length + 1) l)) := ⟨_, hid rfl⟩
          have C3 : Hid (∀ W, RdAt W r A n c (pk : Nat) nd → w.grownBy W (some r) → Calls Tryz.prog 127 #[.pointer (some ⟨r, 0, none⟩)] W fun e w' => AtomEnd W r A n c nd e w' RR) := hid fun W hW hg => by
            rw [hRR.out]
            exact quoted_any r A n c pk nd b B W hW (HW.out W hg) hB hpn hn hc l (by rw [← h34]; exact HD1.out)
          rw [hres, ← hRR.out]
          clear HD1 HW hres hRR e hd ht h34
          go_enter Tryz.func84, Tryz.ntmps84
          go_wp2_with ((with_reducible refine C.out.mono ?_); rintro e w1 ⟨rfl, hR1, hg1⟩)
          refine (C2.out w1).mono ?_
          rintro e w2 ⟨rfl, hb2⟩
          have HG2 := hid (hg1.trans (grown_below hb2 (some r)))
          have C4 := C3.out w2 (hR1.old hb2) HG2.out
          clear hR1 hg1 hb2
          go_wp2_with fail
          rw [run_eqF]
          simp only [Result.andThen]
          rw [Oper.upon_value]
          cases RR with
          | err k rest =>
            simp only [AtomEnd] at C4
            have C4 := hid C4
            go_wp2_with (go_at_call 127; refine C4.out.mono ?_; rintro e w3 ⟨rfl, hg3⟩)
            exact ⟨rfl, rfl, HG2.out.trans hg3⟩
          | ok l2 rest =>
            simp only [AtomEnd] at C4
            have C4 := hid C4
            go_wp2_with (go_at_call 127; refine C4.out.mono ?_; rintro e w3 ⟨A', c', rfl, h1, h2, hR3, hg3⟩)
            go_ret
            exact ⟨A', c', rfl, h1, h2.more (fun k hk => Nat.le_trans HG2.out.size hk), hR3, HG2.out.trans hg3⟩
        · by_cases h35 : x = 35
          · have e : rdF x = .func (.func 128) #[] #[] := by rw [rdF, if_neg hd, if_neg ht, if_neg h34, if_pos h35]
            rw [e] at C2
            have hres : aPlain (x :: l) = (aMean unhex (aSome isHexS 35 l)) := by rw [aPlain, if_neg hd, if_neg ht, if_neg h34, if_pos h35]
            obtain ⟨RR, hRR⟩ : ∃ RR, Hid (RR = (aMean unhex (aSome isHexS 35 l))) := ⟨_, hid rfl⟩
            have C3 : Hid (∀ W, RdAt W r A n c (pk : Nat) nd → w.grownBy W (some r) → Calls Tryz.prog 128 #[.pointer (some ⟨r, 0, none⟩)] W fun e w' => AtomEnd W r A n c nd e w' RR) := hid fun W hW hg => by
              rw [hRR.out]
              exact hex_any r A n c pk nd b B W hW (HW.out W hg) hB hpn hn hc l (by rw [← h35]; exact HD1.out)
            rw [hres, ← hRR.out]
            clear HD1 HW hres hRR e hd ht h34 h35
            go_enter Tryz.func84, Tryz.ntmps84
            go_wp2_with ((with_reducible refine C.out.mono ?_); rintro e w1 ⟨rfl, hR1, hg1⟩)
            refine (C2.out w1).mono ?_
            rintro e w2 ⟨rfl, hb2⟩
            have HG2 := hid (hg1.trans (grown_below hb2 (some r)))
            have C4 := C3.out w2 (hR1.old hb2) HG2.out
            clear hR1 hg1 hb2
            go_wp2_with fail
            rw [run_eqF]
            simp only [Result.andThen]
            rw [Oper.upon_value]
            cases RR with
            | err k rest =>
              simp only [AtomEnd] at C4
              have C4 := hid C4
              go_wp2_with (go_at_call 128; refine C4.out.mono ?_; rintro e w3 ⟨rfl, hg3⟩)
              exact ⟨rfl, rfl, HG2.out.trans hg3⟩
            | ok l2 rest =>
              simp only [AtomEnd] at C4
              have C4 := hid C4
              go_wp2_with (go_at_call 128; refine C4.out.mono ?_; rintro e w3 ⟨A', c', rfl, h1, h2, hR3, hg3⟩)
              go_ret
              exact ⟨A', c', rfl, h1, h2.more (fun k hk => Nat.le_trans HG2.out.size hk), hR3, HG2.out.trans hg3⟩
          · by_cases h124 : x = 124
            · have e : rdF x = .func (.func 129) #[] #[] := by rw [rdF, if_neg hd, if_neg ht, if_neg h34, if_neg h35, if_pos h124]
              rw [e] at C2
              have hres : aPlain (x :: l) = (aMean ub64 (aSome isB64S 124 l)) := by rw [aPlain, if_neg hd, if_neg ht, if_neg h34, if_neg h35, if_pos h124]
              obtain ⟨RR, hRR⟩ : ∃ RR, Hid (RR = (aMean ub64 (aSome isB64S 124 l))) := ⟨_, hid rfl⟩
              have C3 : Hid (∀ W, RdAt W r A n c (pk : Nat) nd → w.grownBy W (some r) → Calls Tryz.prog 129 #[.pointer (some ⟨r, 0, none⟩)] W fun e w' => AtomEnd W r A n c nd e w' RR) := hid fun W hW hg => by
                rw [hRR.out]
                exact base64_any r A n c pk nd b B W hW (HW.out W hg) hB hpn hn hc l (by rw [← h124]; exact HD1.out)
              rw [hres, ← hRR.out]
              clear HD1 HW hres hRR e hd ht h34 h35 h124
              go_enter Tryz.func84, Tryz.ntmps84
              go_wp2_with ((with_reducible refine C.out.mono ?_); rintro e w1 ⟨rfl, hR1, hg1⟩)
              refine (C2.out w1).mono ?_
              rintro e w2 ⟨rfl, hb2⟩
              have HG2 := hid (hg1.trans (grown_below hb2 (some r)))
              have C4 := C3.out w2 (hR1.old hb2) HG2.out
              clear hR1 hg1 hb2
              go_wp2_with fail
              rw [run_eqF]
              simp only [Result.andThen]
              rw [Oper.upon_value]
              cases RR with
              | err k rest =>
                simp only [AtomEnd] at C4
                have C4 := hid C4
                go_wp2_with (go_at_call 129; refine C4.out.mono ?_; rintro e w3 ⟨rfl, hg3⟩)
                exact ⟨rfl, rfl, HG2.out.trans hg3⟩
              | ok l2 rest =>
                simp only [AtomEnd] at C4
                have C4 := hid C4
                go_wp2_with (go_at_call 129; refine C4.out.mono ?_; rintro e w3 ⟨A', c', rfl, h1, h2, hR3, hg3⟩)
                go_ret
                exact ⟨A', c', rfl, h1, h2.more (fun k hk => Nat.le_trans HG2.out.size hk), hR3, HG2.out.trans hg3⟩
            · have e : rdF x = .nilFunc := by rw [rdF, if_neg hd, if_neg ht, if_neg h34, if_neg h35, if_neg h124]
              rw [e] at C2
              have hres : aPlain (x :: l) = .err 3 (x :: l) := by rw [aPlain, if_neg hd, if_neg ht, if_neg h34, if_neg h35, if_neg h124]
              clear HD1 HW e hd ht h34 h35 h124
              have HRS := hid hres
              clear hres
              go_enter Tryz.func84, Tryz.ntmps84
              go_wp2_with ((with_reducible refine C.out.mono ?_); rintro e w1 ⟨rfl, hR1, hg1⟩)
              refine (C2.out w1).mono ?_
              rintro e w2 ⟨rfl, hb2⟩
              have HG2 := hid (hg1.trans (grown_below hb2 (some r)))
              go_wp2_with fail
              rw [run_eqN]
              simp only [Result.andThen]
              rw [Oper.upon_value]
              obtain ⟨c0, c1, c2, f1, f2⟩ := (hR1.old hb2).all
              go_wp2_with fail
              rw [HRS.out]
              exact ⟨rfl, by rw [← hpk.out]; exact rfl, HG2.out⟩
end Go.Proofs.YtcojkmcnigppbaaGreatDoor.Nt
end
section
set_option maxRecDepth 100000
namespace Go.Proofs.YtcojkmcnigppbaaGreatDoor.Nt
open Go Go.Proofs Go.RowKit Sx Oct
theorem rdF_nil {x : UInt8} (h : aBegins x = false) : rdF x = .nilFunc := by
  have h1 : isDig x = false ∧ isTok x = false ∧ x ≠ 34 ∧ x ≠ 35 ∧ x ≠ 124 := fin_of (P := fun x => aBegins x = false → isDig x = false ∧ isTok x = false ∧ x ≠ 34 ∧ x ≠ 35 ∧ x ≠ 124) (by decide +kernel) x h
  obtain ⟨h1, h2, h3, h4, h5⟩ := h1
  rw [rdF, if_neg (by rw [h1]; simp), if_neg (by rw [h2]; simp), if_neg h3, if_neg h4, if_neg h5]
theorem rdF_some {x : UInt8} (h : aBegins x = true) (h40 : x ≠ 40) (h91 : x ≠ 91) : ∃ f, rdF x = .func (.func f) #[] #[] := by
  have h1 : isDig x = true ∨ isTok x = true ∨ x = 34 ∨ x = 35 ∨ x = 124 := fin_of (P := fun x => aBegins x = true → x ≠ 40 → x ≠ 91 → isDig x = true ∨ isTok x = true ∨ x = 34 ∨ x = 35 ∨ x = 124) (by decide +kernel) x h h40 h91
  unfold rdF
  split
  · exact ⟨_, rfl⟩
  · split
    · exact ⟨_, rfl⟩
    · split
      · exact ⟨_, rfl⟩
      · split
        · exact ⟨_, rfl⟩
        · split
          · exact ⟨_, rfl⟩
          · simp_all
set_option maxHeartbeats 4000000 in
theorem begins_any (x : UInt8) (w : World) : Calls Tryz.prog 81 #[.int .u8 x.toNat] w fun e w' => e = .returned (.bool (aBegins x)) ∧ Below w.heap.size w w' := by
  have C := hid (plainReader_any x w)
  by_cases h40 : x = 40
  · have hb : aBegins x = true := by rw [h40]; decide
    have h : ((x.toNat : Int) == 40) = true := by rw [h40]; rfl
    rw [hb]
    clear h40 hb
    go_enter Tryz.func81, Tryz.ntmps81
    go_wp2_with fail
    go_ret
    exact ⟨rfl, Below.refl _ _⟩
  · by_cases h91 : x = 91
    · have hb : aBegins x = true := by rw [h91]; decide
      have q0 : ((x.toNat : Int) == 40) = false := by rw [h91]; rfl
      have q1 : ((x.toNat : Int) == 91) = true := by rw [h91]; rfl
      rw [hb]
      clear h40 h91 hb
      go_enter Tryz.func81, Tryz.ntmps81
      go_wp2_with fail
      go_ret
      exact ⟨rfl, Below.refl _ _⟩
    · have q0 : ((x.toNat : Int) == 40) = false := by rw [eq_byte x 40 40 rfl]; exact decide_eq_false h40
      have q1 : ((x.toNat : Int) == 91) = false := by rw [eq_byte x 91 91 rfl]; exact decide_eq_false h91
      cases hb : aBegins x with
      | true =>
        obtain ⟨f, hf⟩ := rdF_some hb h40 h91
        rw [hf] at C
        clear h40 h91 hb
        go_enter Tryz.func81, Tryz.ntmps81
        go_wp2_with ((with_reducible refine C.out.mono ?_); rintro e w1 ⟨rfl, hb1⟩)
        rw [run_neF]
        simp only [Result.andThen]
        rw [Oper.upon_value]
        go_wp2_with fail
        go_ret
        exact ⟨rfl, hb1⟩
      | false =>
        rw [rdF_nil hb] at C
        clear h40 h91 hb
        go_enter Tryz.func81, Tryz.ntmps81
        go_wp2_with ((with_reducible refine C.out.mono ?_); rintro e w1 ⟨rfl, hb1⟩)
        rw [run_neN]
        simp only [Result.andThen]
        rw [Oper.upon_value]
        go_wp2_with fail
        go_ret
        exact ⟨rfl, hb1⟩
end Go.Proofs.YtcojkmcnigppbaaGreatDoor.Nt
end
section
namespace Go.Proofs.YtcojkmcnigppbaaGreatDoor
open Go Go.Proofs Go.RowKit Oct
theorem own_form_cap {w : World} {base size n : Nat} {e : TypeId} {v : Value} {xs : List Value} (h : w.ownsRow base e size v n xs) : ∃ A c, v = .slice A n c ∧ n ≤ c := by
  rcases h.2 with ⟨h1, h2⟩ | ⟨g, cap, cur, hv, _, _, hc, _⟩
  · exact ⟨none, 0, by rw [h1, h2], by omega⟩
  · exact ⟨_, _, hv, hc⟩
theorem reads_two (w : World) (x y : UInt8) : Reads (w.alloc (.cells #[.int .u8 x.toNat, .int .u8 y.toNat] 5)) (w.heap.size + 1) 1 (some ⟨w.heap.size, 0, none⟩) 2 (Lib.byteCells [x, y]) := by
  refine ⟨rfl, fun _ => ⟨_, rfl, by simp, fun j u hj => ?_⟩⟩
  match j, hj with
  | 0, hj =>
    simp [Lib.byteCells] at hj
    subst hj
    show World.cell? _ ⟨w.heap.size, 0, none⟩ = _
    rw [Lib.cell_of_heap (heap_alloc_new w _)]; rfl
  | 1, hj =>
    simp [Lib.byteCells] at hj
    subst hj
    show World.cell? _ ⟨w.heap.size, 1, none⟩ = _
    rw [Lib.cell_of_heap (heap_alloc_new w _)]; rfl
set_option maxHeartbeats 1000000 in
set_option maxRecDepth 100000 in
theorem refHex_any (A : Option Addr) (n c : Nat) (l : List UInt8) (w : World) (hr : Reads w w.heap.size 1 A n (Lib.byteCells l)) (hn : n ≤ 1099511627776) :
    Calls Tryz.prog 59 #[.slice A n c] w fun e w' => e = .returned (.string ⟨(hexOf l).toArray⟩) ∧ Below w.heap.size w w' := by
  have hl : l.length = n := by have := hr.1; simpa [Lib.byteCells_length] using this
  have H := hid hl; clear hl
  obtain ⟨i0, hi, hz0, hz1, hz2⟩ := info_parts infoByte
  have hoe := owns_empty w
  go_enter Tryz.func59, Tryz.ntmps59
  go_wp2
  go_loopw [4, 9] (fun v i wr => ∃ k : Nat, k ≤ n ∧ i = .int .i64 k ∧ wr.ownsRow w.heap.size 5 1 v (hexOf (l.take k)).length (Lib.byteCells (hexOf (l.take k))) ∧ Below w.heap.size w wr) (fun _ i _ => n - (intOf i).toNat)
  case atStart => exact ⟨0, Nat.zero_le _, rfl, hoe, (Below.refl _ _).alloc (Nat.le_refl _) _⟩
  case round =>
    obtain ⟨k, hk, rfl, hown, hbel⟩ := hrel
    clear hoe
    by_cases hlt : k < n
    · obtain ⟨ad, u, rfl, hab, hu, hc⟩ := (hr.below hbel).at_ hlt
      have hkl : k < l.length := by rw [H.out]; exact hlt
      obtain ⟨x, hx⟩ : ∃ x : UInt8, x = l[k] := ⟨_, rfl⟩
      have hu' : u = .int .u8 x.toNat := by
        simp [Lib.byteCells, List.getElem?_map, List.getElem?_eq_getElem hkl] at hu
        rw [hx]; exact hu.symm
      subst hu'
      have HT := hid (hexOf_take l k hkl)
      rw [← hx] at HT
      clear hx hu hkl
      have hx1 := x.toNat_lt
      have hsz := hbel.size
      have hlen := hexOf_length (l.take k)
      have hlk : (l.take k).length ≤ k := List.length_take_le _ _
      have hll : (hexOf (l.take k)).length ≤ 2 * k := by omega
      clear hlen
      obtain ⟨p, hp⟩ : ∃ p, p = x.toNat / 16 := ⟨_, rfl⟩
      obtain ⟨q, hq⟩ : ∃ q, q = x.toNat % 16 := ⟨_, rfl⟩
      rw [← hp, ← hq] at HT
      have e1 : IntKind.u8.wrap ((x.toNat : Int) / 16) = (p : Int) := by rw [IntKind.wrap_u8']; omega
      have e2 : (x.toNat : Int).tmod 16 = (q : Int) := by rw [Int.tmod_eq_emod_of_nonneg (by omega)]; omega
      have p1 : p < 16 := by omega
      have q1 : q < 16 := by omega
      have p2 : (0 : Int) ≤ (p : Int) ∧ (p : Int) < 16 := by omega
      have q2 : (0 : Int) ≤ (q : Int) ∧ (q : Int) < 16 := by omega
      have hs1 := hexSign p p1
      have hs2 := hexSign q q1
      have hbig : hexOf (l.take k) = hexOf (l.take k) := rfl
      generalize hexOf (l.take k) = out at *
      clear hp hq hbig hlk
      have hrd := reads_two wr (hexDig p) (hexDig q)
      go_wp2_with fail
      go_region_held3 (fun w' => w'.cell? (ad.add k) = some (Value.int .u8 (x.toNat : Int)))
        (first
          | go_keep
          | (rw [World.cell?_of_block (hgrow1.block (ad.add k).block (by rw [block_of_add]; simp; omega) (fun e => by have h9 := (hown.lt _ e.symm).1; rw [block_of_add] at h9; omega))]; assumption))
        ((refine step_append_any _ (by rfl) _ _ 22 (by rfl) w.heap.size 5 i0 (.int .u8 0) 1 1 Tryz.underlying22 hi hz0 hz1 hz2 rfl (by decide) _ _ _ (by rfl) ((hown.alloc _).drew) (wr.heap.size + 1) _ 2 2 (Lib.byteCells [hexDig p, hexDig q]) (by rfl) (by exact hrd) (Lib.byteCells_one _) (by unfold maxLen; omega) (by omega) (by simp; omega) ?_; intro v1 w1 hown1 hgrow1 hat1))
      all_goals
        have hown2 : w1.ownsRow w.heap.size 5 1 v1 (hexOf (l.take (k + 1))).length (Lib.byteCells (hexOf (l.take (k + 1)))) := by
          rw [HT.out, Lib.byteCells_append, List.length_append]
          exact hown1
        have hbel2 : Below w.heap.size w w1 := ((hbel.alloc hsz _).drew).grown hgrow1 (by simp; omega) (fun k hk => (hown.lt k hk).1)
        clear hown hown1 hgrow1 hat1 hrd
        go_wp2
        go_roundw
        case rel => exact ⟨k + 1, by omega, by go_num, hown2, hbel2⟩
        case measure => simp [intOf]; omega
    · obtain rfl : k = n := by omega
      have hT : l.take k = l := List.take_of_length_le (by rw [H.out]; exact Nat.le_refl _)
      rw [hT] at hown
      clear hT
      obtain ⟨A2, c2, rfl, hc2⟩ := own_form_cap hown
      have hr2 := Reads.of_own hown
      clear hown
      go_wp2_with fail
      rw [run_back hr2]
      simp only [Result.andThen]
      rw [Oper.upon_value]
      go_wp2
      go_ret
      exact ⟨rfl, hbel⟩
end Go.Proofs.YtcojkmcnigppbaaGreatDoor
end
