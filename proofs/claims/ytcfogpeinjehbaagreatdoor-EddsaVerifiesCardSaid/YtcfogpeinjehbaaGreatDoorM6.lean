/-
  Several texts in one: SchedIn, ScaOk, ScaLimb, ScaBack, ScaTimes, PtTimesP, PtOkP, FldTab, FldTurn, PtQ, ScaLast, ScaTab, EdQ, EdSec, EdZero, EdOk, EdPub, EdSgn, EdVfy, EdOkP, EdAwake. Conditions: those that each theorem states.
-/
import Derived.Test.YtcfogpeinjehbaaGreatDoorM5
import Derived.RangeFuncNested
import Derived.RangeFuncBound
import Derived.RangeFuncCalls
import Derived.RangeFuncLeaves
import Derived.RangeFuncFrom
import Derived.OwnWalkIn
import Derived.OrdersIn
import Derived.ChangeKeysEq
import Derived.Laws.ResultCell
import Derived.Deep.DeepCutAuto
import Derived.Deep.CutBlock
import Derived.Shelf.Spec.BitsCarry
import Derived.Shelf.Abstract
import Derived.Shelf.RegionOpen
import Derived.WalkKit
import Derived.TacticsInMore
import Derived.LoopNIn
import Derived.LoopIn
import Derived.Sort.CutIn
import Derived.Test.YtcfogpeinjehbaaGreatDoorRows
import Derived.Lib.LaidTab
import Derived.Stop.LaidErr
import Derived.Laws.Cover3
import Derived.Deep.OwnRows
set_option linter.unusedVariables false
set_option linter.unusedSimpArgs false
open Go.Lib (hid)
open Go.Proofs.YtcfogpeinjehbaaGreatDoor (zA zB zC zD zE zF)

section
namespace Go.Proofs.YtcfogpeinjehbaaGreatDoor
open Go Go.Proofs Go.RowKit F5
theorem wpIn_of_wp {P : Program} {lp n : Nat} (o : Oper) (a : Act) (V : World) (K : Act → World → Prop) (Q : Exit → Act → World → Prop) (hd : ∀ c, o.op ≠ .defer c) (h : o.wp P a V K Q) : o.wpIn (Fence.wide.inRound lp) n P a V K Q := by
 unfold Oper.wpIn
 refine ⟨fun f _ => trivial, ?_⟩
 rw [Oper.semAt_plain _ _ _ hd]
 unfold Oper.wp at h
 generalize (execOp a.eval o).run P V = r at *
 cases r with
 | ok x w' =>
  cases x <;> simp only [Oper.upon, Oper.uponIn] at h ⊢ <;>
   first
    | exact h
    | exact ⟨fun hh => (by cases hh), CallsIn.inRound lp (callsIn_wide.2 (h.mono fun e w'' he => by cases e <;> exact he))⟩
    | exact ⟨fun hh => (by cases hh), fun c cs _ => let ⟨v, w2, r, s⟩ := h c cs; ⟨v, w2, r, stepsIn_wide.2 s⟩⟩
 | halt x w' => cases x <;> simp only [Oper.upon, Oper.uponIn] at h ⊢ <;> exact h
theorem sched_opIn {F : Fence} {n : Nat} {P : Program} {ops : Array Oper} {PL : List Pl} {a0 : Act} {w0 : World} {Q : Exit → Act → World → Prop} {S : World → Prop} (hF : ∀ f, F.fn f) (hin : ∀ (o : Oper) (a : Act) (V : World) (K : Act → World → Prop) (Q : Exit → Act → World → Prop), (∀ c, o.op ≠ .defer c) → o.wp P a V K Q → o.wpIn F n P a V K Q) (hdef : ∀ (i : Nat) (o : Oper) (c : Call), ops[i]? = some o → o.op ≠ .defer c) (hc : Chk ops PL a0.tmps.size) (hg : Goods P ops PL a0.tmps S 0 PL) (hS : ∀ V, Below w0.heap.size w0 V → S V)
  {listed : Array Bool} {a : Act} {w : World} (h : SInv ops PL a0 w0 listed a w) {i : Nat} (him : i < PL.length) (hun : listed.getD i true = false) (hdeps : ∀ j ∈ onsOf ops i, listed.getD j false = true) {K : Act → World → Prop}
  (hK : ∀ a' V, SInv ops PL a0 w0 (listed.setIfInBounds i true) a' V → K a' V) : wpOpIn F n P ops Q i K a w := by
 obtain ⟨o, d, ho, hd, hds⟩ := hc.op i him
 have hos : i < ops.size := by rw [← h.lsize]; exact getD_lt' hun
 obtain ⟨p, hp⟩ : ∃ p, PL[i]? = some p := ⟨_, List.getElem?_eq_getElem him⟩
 have good := goods_at PL 0 hg i p hp
 rw [Nat.zero_add] at good
 unfold wpOpIn
 simp only [ho]
 have hnext : ∀ u V, Below w.heap.size w V → (p = .is u ∨ ∃ T z, p = .fresh T z ∧ u = .pointer (some ⟨w.heap.size, 0, none⟩) ∧ Blk V w.heap.size T z) → K (a.put o.dst u) V := fun u V hb hu =>
  hK _ _ (h.next hc him hun ho hdeps hd hds hp hb u hu)
 cases p with
 | is v =>
  have good2 := good a w (fun t ht => ?_) (hS w h.below)
  ·rw [opA_of ho] at good2
   rcases good2 with ⟨hw, good2⟩ | ⟨hw, rfl⟩
   ·rw [if_pos hw]
    exact hin _ _ _ _ _ (fun c => hdef i o c ho) (good2 _ _ (fun V hb => hnext v V hb (.inl rfl)))
   ·rw [if_neg (by rw [hw]; decide)]
    exact ⟨fun f _ => hF f, hnext _ w (Below.refl _ _) (.inl rfl)⟩
  ·unfold looks at ht
   rw [Bool.or_eq_true] at ht
   unfold valOf
   rcases ht with ht | ht
   ·have hno : (List.range PL.length).find? (fun j => dstOf ops j == some t) = none := by
     rw [List.find?_eq_none]
     intro j hj
     have := List.all_eq_true.1 ht j hj
     simpa using this
    rw [hno]
    refine h.far t fun j hj hjt => ?_
    have := List.all_eq_true.1 ht j (List.mem_range.2 hj)
    rw [hjt] at this
    simp at this
   ·obtain ⟨j, hj, hj2⟩ := List.any_eq_true.1 ht
    rw [Bool.and_eq_true] at hj2
    obtain ⟨hj2, hj3⟩ := hj2
    have hjt : dstOf ops j = some t := by simpa using hj2
    have hji := hc.small i him j hj
    have hjm : j < PL.length := by omega
    have hfind : (List.range PL.length).find? (fun j => dstOf ops j == some t) = some j := by
     rw [List.find?_range_eq_some]
     refine ⟨by simpa using hjt, List.mem_range.2 hjm, fun k hk => ?_⟩
     have := hc.ne k j (by omega) hjm (by omega)
     rw [hjt] at this
     simpa using this
    rw [hfind]
    obtain ⟨q, hq⟩ : ∃ q, PL[j]? = some q := ⟨_, List.getElem?_eq_getElem hjm⟩
    simp only [hq] at hj3 ⊢
    cases q with
    | is v' => exact h.is j v' t hq (by rw [getD_tf (by rw [h.lsize]; omega)]; exact hdeps j hj) hjt
    | fresh _ _ => simp at hj3
 | fresh T z =>
  obtain ⟨hop, hz⟩ := good
  rw [ho] at hop
  simp only [Option.map_some, Option.some.injEq, Prod.mk.injEq] at hop
  obtain ⟨hop, hgd⟩ := hop
  have hw : Region.wanted o (yielded ops a.tmps) = true := by unfold Region.wanted; rw [hgd]
  rw [if_pos hw]
  refine hin _ _ _ _ _ (fun c => hdef i o c ho) ?_
  have hrun : (execOp a.eval o).run P w = .ok (.value (.pointer (some ⟨w.heap.size, 0, none⟩))) (w.alloc (.cells z T)) := by
   unfold execOp
   simp only [hop, Instr.alloc, Sem.run_bind, hz, Result.andThen_ok, Sem.run_pure]
   simp [go_sem]
  unfold Oper.wp
  rw [hrun, Oper.upon_value]
  exact hnext _ _ ((Below.refl _ _).alloc (Nat.le_refl _) _) (.inr ⟨T, z, rfl, rfl, Blk.new w T z⟩)
theorem wpAny_schedIn {F : Fence} {n : Nat} {P : Program} {ops : Array Oper} {PL : List Pl} {a0 : Act} {w0 : World} {Q : Exit → Act → World → Prop} {S : World → Prop} (hF : ∀ f, F.fn f) (hin : ∀ (o : Oper) (a : Act) (V : World) (K : Act → World → Prop) (Q : Exit → Act → World → Prop), (∀ c, o.op ≠ .defer c) → o.wp P a V K Q → o.wpIn F n P a V K Q) (hdef : ∀ (i : Nat) (o : Oper) (c : Call), ops[i]? = some o → o.op ≠ .defer c) (hc : Chk ops PL a0.tmps.size) (hcl : cloB ops PL = true) (hg : Goods P ops PL a0.tmps S 0 PL) (hS : ∀ V, Below w0.heap.size w0 V → S V)
  (hfin : ∀ a V, SInv ops PL a0 w0 (listedM ops PL) a V → wpAnyIn F n P .any ops Q (ops.size - PL.length) (listedM ops PL) a V) :
  ∀ (fuel : Nat) (listed : Array Bool) (a : Act) (w : World), SInv ops PL a0 w0 listed a w → listed.toList.count true + fuel = ops.size → wpAnyIn F n P .any ops Q fuel listed a w := by
 intro fuel
 induction fuel with
 | zero =>
  intro listed a w h hn
  have hall : ∀ i, i < PL.length → listed.getD i true = true := fun i hi => by
   have hl : i < listed.size := by rw [h.lsize]; exact Nat.lt_of_lt_of_le hi hc.le
   have := count_all (l := listed.toList) (by rw [Array.length_toList, h.lsize]; omega) i (by simpa using hl)
   simp only [Array.getD_eq_getD_getElem?, Array.getElem?_eq_getElem hl, Option.getD_some]
   simpa using this
  have e := listed_eq h hc.le hall
  subst e
  have := hfin a w h
  have hcnt : (listedM ops PL).toList.count true = PL.length := by simp [listedM, List.count_replicate]
  rw [hcnt] at hn
  rw [show ops.size - PL.length = 0 by omega] at this
  exact this
 | succ fuel ih =>
  intro listed a w h hn
  by_cases hall : ∀ i, i < PL.length → listed.getD i true = true
  ·have e := listed_eq h hc.le hall
   subst e
   have := hfin a w h
   have hcnt : (listedM ops PL).toList.count true = PL.length := by simp [listedM, List.count_replicate]
   rw [hcnt] at hn
   rw [show ops.size - PL.length = fuel + 1 by omega] at this
   exact this
  ·refine ⟨fun hr => ?_, fun i hi => ?_⟩
   ·exfalso
    apply hall
    intro i
    induction i using Nat.strongRecOn with
    | ind i ihi =>
     intro him
     cases hl : listed.getD i true with
     | true => rfl
     | false =>
      obtain ⟨o, d, ho, _, _⟩ := hc.op i him
      have : i ∈ Region.ready .any ops listed := mem_ready.2 ⟨hl, o, ho, fun e he hb => by
       have hj : e.on ∈ onsOf ops i := by
        unfold onsOf; rw [ho]
        simp only [List.mem_map, List.mem_filter]
        exact ⟨e, ⟨by simpa using he, hb⟩, rfl⟩
       have hlt := hc.small i him _ hj
       have := ihi _ hlt (by omega)
       rwa [getD_tf (by rw [h.lsize]; have := hc.le; omega)] at this⟩
      rw [hr] at this; cases this
   ·obtain ⟨hun, o, ho, hdep⟩ := mem_ready.1 hi
    have hdeps := onsOf_of ho hdep
    have hos : i < ops.size := by rw [← h.lsize]; exact getD_lt' hun
    by_cases him : i < PL.length
    ·exact sched_opIn hF hin hdef hc hg hS h him hun hdeps fun a' V h' => ih _ _ _ h' (by rw [count_set hun]; omega)
    ·exfalso
     apply hall
     have hd : ∀ k, listed.getD k false = true → ∀ j ∈ onsOf ops k, listed.getD j false = true := fun k hk => by
      have hks := getD_lt hk
      by_cases hkm : k < PL.length
      ·exact h.down k hkm (by rw [getD_tf hks]; exact hk)
      ·have := h.late k (by omega) (by rw [← h.lsize]; exact hks)
       rw [getD_tf hks, hk] at this; cases this
     intro j hj
     have := clo_listed hd 12 _ hdeps j (clo_spec hcl i (by omega) hos j hj)
     rw [getD_tf (getD_lt this)]; exact this
theorem wpAny_tailIn {F : Fence} {n : Nat} {P : Program} {ops : Array Oper} {Q : Exit → Act → World → Prop} {m : Nat} (hs : seqd ops m = true) : ∀ (f k : Nat) (a : Act) (w : World), k + f = ops.size - m → m ≤ ops.size → wpListIn F n P ops Q (ops.toList.drop (m + k)) a w → wpAnyIn F n P .any ops Q f (listedK ops.size (m + k)) a w
 | 0, k, a, w, hk, hm, h => by
  unfold seqd at hs
  rw [Bool.and_eq_true] at hs
  have e : m + k = ops.size := by omega
  rw [e] at h ⊢
  rw [List.drop_of_length_le (by simp)] at h
  exact ⟨by simpa using hs.2, h⟩
 | f + 1, k, a, w, hk, hm, h => by
  have hs' := hs
  unfold seqd at hs
  rw [Bool.and_eq_true, List.all_eq_true] at hs
  have hr : Region.ready .any ops (listedK ops.size (m + k)) = [m + k] := by have := hs.1 k (List.mem_range.2 (by omega)); simpa using this
  have hlt : m + k < ops.size := by omega
  refine ⟨fun h0 => (by rw [hr] at h0; cases h0), fun i hi => ?_⟩
  rw [hr] at hi
  obtain rfl : i = m + k := by simpa using hi
  have ho : ops[m + k]? = some ops[m + k] := Array.getElem?_eq_getElem hlt
  have hl : ops.toList.drop (m + k) = ops[m + k] :: ops.toList.drop (m + (k + 1)) := by
   rw [List.drop_eq_getElem_cons (by simpa using hlt)]; rfl
  rw [hl] at h
  unfold wpListIn at h
  unfold wpOpIn
  simp only [ho]
  rw [listedK_set hlt]
  have ih := fun a w => wpAny_tailIn (F := F) (n := n) (P := P) (Q := Q) hs' f (k + 1) a w (by omega) hm
  split
  ·rename_i hw
   rw [if_pos hw] at h
   exact Oper.wpIn_mono (fun a w hh => ih a w hh) h
  ·rename_i hw
   rw [if_neg hw] at h
   exact ⟨h.1, ih _ _ h.2⟩
theorem wp_schedTIn {F : Fence} {n : Nat} {P : Program} {ops : Array Oper} {a0 : Act} {w0 : World} {Q : Exit → Act → World → Prop} {id : Nat} (PL : List Pl) (S : World → Prop) (draw : Bool) (hF : ∀ f, F.fn f) (hin : ∀ (o : Oper) (a : Act) (V : World) (K : Act → World → Prop) (Q : Exit → Act → World → Prop), (∀ c, o.op ≠ .defer c) → o.wp P a V K Q → o.wpIn F n P a V K Q) (hdef : ∀ (i : Nat) (o : Oper) (c : Call), ops[i]? = some o → o.op ≠ .defer c) (hm : P.follows .mixedOrders = true) (hc : chk ops PL a0.tmps.size = true) (hq : (!draw || (cloB ops PL && seqd ops PL.length)) = true)
  (hS : ∀ V, Below w0.heap.size w0 V → S V) (hg : Goods P ops PL a0.tmps S 0 PL)
  (hfin : ∀ (g : Nat → Nat) (V : World), SFin PL g w0 V → wpListIn F n P ops Q (ops.toList.drop PL.length) ⟨finT ops g 0 PL a0.tmps, a0.defers⟩ V) :
  (Code.region id ops draw).wpIn F n P Q a0 w0 := by
 have HC := chk_spec hc
 have fin : ∀ a V, SInv ops PL a0 w0 (listedM ops PL) a V → wpListIn F n P ops Q (ops.toList.drop PL.length) a V := fun a V h => by
  obtain ⟨g, h1, h2⟩ := sinv_end HC h
  have := hfin g V h1
  rw [h2, ← h.defers] at this
  exact this
 cases draw with
 | true =>
  have hq2 : cloB ops PL = true ∧ seqd ops PL.length = true := by simpa using hq
  refine wpIn_region_any hm (wpAny_schedIn hF hin hdef HC hq2.1 hg hS (fun a V h => ?_) ops.size _ a0 w0.drew (sinv_start HC (Below.refl _ _).drew) (by simp [List.count_replicate]))
  have := wpAny_tailIn (F := F) (n := n) (P := P) (Q := Q) hq2.2 (ops.size - PL.length) 0 a V (by omega) HC.le (fin a V h)
  rw [Nat.add_zero, ← listedM_K] at this
  exact this
 | false =>
  refine wpIn_region ?_
  have key : ∀ (f k : Nat) (a : Act) (w : World), k + f = PL.length → SInv ops PL a0 w0 (listedK ops.size k) a w → wpOpsIn F n P ops Q (List.range' k (ops.size - k)) a w := by
   intro f
   induction f with
   | zero =>
    intro k a w hk h
    rw [Nat.add_zero] at hk
    subst hk
    have := fin a w h
    have e : wpOpsIn F n P ops Q (List.range' PL.length (ops.size - PL.length)) = wpListIn F n P ops Q (ops.toList.drop PL.length) := by
     have e1 := wpOpsIn_eq_wpListIn (F := F) (n := n) (P := P) (Q := Q) (ops := ops) (ops.toList.drop PL.length) PL.length (fun j => by simp)
     have e2 : (ops.toList.drop PL.length).length = ops.size - PL.length := by simp
     rw [e2] at e1; exact e1
    rw [e]; exact this
   | succ f ih =>
    intro k a w hk h
    have hkm : k < PL.length := by omega
    have hks : k < ops.size := Nat.lt_of_lt_of_le hkm HC.le
    rw [show ops.size - k = (ops.size - (k + 1)) + 1 by omega, List.range'_succ, wpOpsIn_cons]
    refine sched_opIn hF hin hdef HC hg hS h hkm ?_ (fun j hj => ?_) (fun a' V h' => ?_)
    ·simp [listedK, Array.getD_eq_getD_getElem?, List.getElem?_append_right, List.getElem?_replicate, show 0 < ops.size - k by omega]
    ·have := HC.small k hkm j hj
     simp [listedK, Array.getD_eq_getD_getElem?, List.getElem?_append_left, this]
    ·rw [listedK_set hks] at h'
     exact ih (k + 1) a' V (by omega) h'
  rw [List.range_eq_range']
  have h0 : listedK ops.size 0 = Array.replicate ops.size false := by simp [listedK]
  exact key PL.length 0 a0 w0 (by omega) (by rw [h0]; exact sinv_start HC (Below.refl _ _))
def noDefer (ops : Array Oper) : Bool := ops.all fun o => match o.op with | .defer _ => false | _ => true
theorem noDefer_spec {ops : Array Oper} (h : noDefer ops = true) : ∀ (i : Nat) (o : Oper) (c : Call), ops[i]? = some o → o.op ≠ .defer c := by
 intro i o c ho e
 have hm : o ∈ ops := Array.mem_of_getElem? ho
 have := Array.all_eq_true_iff_forall_mem.1 h o hm
 rw [e] at this; cases this
theorem wp_schedIn {lp n : Nat} {P : Program} {ops : Array Oper} {a0 : Act} {w0 : World} {Q : Exit → Act → World → Prop} {id : Nat} {draw : Bool} (D : List (Tmp × Pl)) (S : World → Prop) (hnd : noDefer ops = true) (hm : P.follows .mixedOrders = true) (hc : chk ops (plOf D) a0.tmps.size = true) (hd : chkD ops 0 D = true) (hq : (!draw || (cloB ops (plOf D) && seqd ops (plOf D).length)) = true)
  (hS : ∀ V, Below w0.heap.size w0 V → S V) (hg : Goods P ops (plOf D) a0.tmps S 0 (plOf D)) (tl : List Oper) (ht : ops.toList.drop (plOf D).length = tl)
  (hfin : ∀ (g : Nat → Nat) (V : World), SFin (plOf D) g w0 V → wpListIn (Fence.wide.inRound lp) n P ops Q tl ⟨finL g 0 D a0.tmps, a0.defers⟩ V) :
  (Code.region id ops draw).wpIn (Fence.wide.inRound lp) n P Q a0 w0 :=
 wp_schedTIn (plOf D) S draw (fun _ => trivial) (fun o a V K Q h1 h2 => wpIn_of_wp o a V K Q h1 h2) (noDefer_spec hnd) hm hc hq hS hg fun g V h => by rw [ht, finT_finL D 0 _ hd]; exact hfin g V h
end Go.Proofs.YtcfogpeinjehbaaGreatDoor
end

section
namespace Go.Proofs.YtcfogpeinjehbaaGreatDoor
open Go Go.Proofs Go.RowKit F5
theorem run_eql_bytes {T : TypeId} {n : Nat} (hu : Tryz.prog.underlying T = some (.array n 5)) (l l' : List UInt8) (h : l.length = n) (h' : l'.length = n) (w : World) :
  (binOp .eql T (.agg (bytesA l)) (.agg (bytesA l'))).run Tryz.prog w = .ok (.bool (decide (l = l'))) w := by
 obtain ⟨i0, hi⟩ : ∃ i0, Tryz.prog.info? 5 = some i0 := by
  cases hq : Tryz.prog.info? 5 with
  | none => exact absurd hq (by have : (Tryz.prog.info? 5).isSome = true := by kernel_rfl
                                intro e; rw [e] at this; cases this)
  | some x => exact ⟨x, rfl⟩
 have hc : Tryz.prog.cellsOf 5 = 1 := by kernel_rfl
 rw [run_eql_struct, run_equalIn_array w 9999 (bytesA l) (bytesA l') hu hi, hc, eqItems_all 9998 5 .u8 .u8 Tryz.underlying5 (by kernel_rfl) _ _ (fun i => (((l.map UInt8.toNat).getD i 0 : Nat) : Int)) (fun i => (((l'.map UInt8.toNat).getD i 0 : Nat) : Int)) w _ (fun i hi => by
  have := List.mem_range.1 hi
  exact ⟨bytesA_getN _ _ (by omega), bytesA_getN _ _ (by omega)⟩), all_range (by simpa using h) (by simpa using h')]
 simp only [map_toNat_inj]
 rfl
theorem quiet_eql_bytes {o : Oper} {ev : Operand → Value} (w : World) (x y : Operand) (k : TypeId) (l l' : List UInt8) (hl : l.length = 32) (hl' : l'.length = 32) (hx : ev x = .agg (bytesA l)) (hy : ev y = .agg (bytesA l'))
  (ho : o.op = .binOp .eql 24 x y k) : (execOp ev o).run Tryz.prog w = .ok (.value (.bool (decide (l = l')))) w := by
 have hg : (eqGuard .eql 24 x y (.agg (bytesA l)) (.agg (bytesA l'))).run Tryz.prog w = .ok () w := run_eqGuard_agg w .eql _ x y _ _ (by kernel_rfl)
 unfold execOp
 simp only [ho, hx, hy, Sem.run_bind, hg, Result.andThen_ok, run_eql_bytes Tryz.underlying24 l l' hl hl' w, Sem.run_pure]
theorem quiet_eqb_bytes {o : Oper} {ev : Operand → Value} (w : World) (x y : Operand) (k : TypeId) (l l' : List UInt8) (b : Bool) (hb : decide (l = l') = b) (hl : l.length = 32) (hl' : l'.length = 32) (hx : ev x = .agg (bytesA l)) (hy : ev y = .agg (bytesA l'))
  (ho : o.op = .binOp .eql 24 x y k) : (execOp ev o).run Tryz.prog w = .ok (.value (.bool b)) w := by
 rw [← hb]; exact quiet_eql_bytes w x y k l l' hl hl' hx hy ho
theorem info32s : (Tryz.prog.info? 24).map (·.size) = some 32 := by kernel_rfl
/-- The program's numbers modulo L are as they must be, in worlds of a kind that calls keep. -/
structure ScaOk (Q : World → Prop) : Prop where
 old : ∀ {w w' : World}, Q w → Below w.heap.size w w' → Q w'
 reduce : ∀ (A : Option Addr) (n c : Nat) (l : List UInt8) (w : World), n ≤ 1000 → n ≤ c → c ≤ maxLen → Reads w w.heap.size 1 A n (Lib.byteCells l) → Q w →
  Calls Tryz.prog 35 #[.slice A n c] w fun e w' => e = .returned (.agg (bytesA (fbytes (bval l % LL)))) ∧ Below w.heap.size w w'
 may : ∀ (A : Option Addr) (n c : Nat) (l : List UInt8) (w : World), n ≤ 1000 → n ≤ c → c ≤ maxLen → Reads w w.heap.size 1 A n (Lib.byteCells l) → Q w →
  Calls Tryz.prog 28 #[.slice A n c] w fun e w' => e = .returned (.bool (mayB l)) ∧ Below w.heap.size w w'
 muladd : ∀ (a b c : Nat) (w : World), a < 2 ^ 256 → b < 2 ^ 256 → c < 2 ^ 256 → Q w →
  Calls Tryz.prog 19 #[.agg (bytesA (fbytes a)), .agg (bytesA (fbytes b)), .agg (bytesA (fbytes c))] w fun e w' => e = .returned (.agg (bytesA (fbytes ((a * b + c) % LL)))) ∧ Below w.heap.size w w'
end Go.Proofs.YtcfogpeinjehbaaGreatDoor
end

section
namespace Go.Proofs.YtcfogpeinjehbaaGreatDoor
open Go Go.Proofs Go.RowKit F5
theorem sadd64_run (x y c r c' : Nat) (hr : r < M) (hc : c ≤ 1) (he : r + M * c' = x + y + c) (w : World) : (callFunc 79 #[.int .u64 (x : Int), .int .u64 (y : Int), .int .u64 (c : Int)]).run Tryz.prog w =
  .ok (.value (.tuple #[.int .u64 (r : Int), .int .u64 (c' : Int)])) w := by
 rw [run_callFunc_extern Tryz.func79 (by kernel_rfl) (by kernel_rfl) (by kernel_rfl) (e := add64Entry) (by kernel_rfl), run_add64 x y c (by omega) (by omega) (by omega) (by omega)]
 unfold M at hr he
 have e1 : ((x : Int) + (y : Int) + (c : Int)) % 18446744073709551616 = (r : Int) := by omega
 have e2 : ((x : Int) + (y : Int) + (c : Int)) / 18446744073709551616 = (c' : Int) := by omega
 rw [e1, e2]
 rfl
theorem ssub64_run (x y c r c' : Nat) (hr : r < M) (hx : x < M) (hy : y < M) (hc : c ≤ 1) (he : r + y + c = x + M * c') (w : World) : (callFunc 105 #[.int .u64 (x : Int), .int .u64 (y : Int), .int .u64 (c : Int)]).run Tryz.prog w =
  .ok (.value (.tuple #[.int .u64 (r : Int), .int .u64 (c' : Int)])) w := by
 rw [run_callFunc_extern Tryz.func105 (by kernel_rfl) (by kernel_rfl) (by kernel_rfl) (e := sub64Entry) (by kernel_rfl), run_sub64 x y c hc]
 unfold M at hr he hx hy
 have e1 : (x + 18446744073709551616 - y - c) % 18446744073709551616 = r := by omega
 have e2 : (if x < y + c then 1 else 0) = c' := by split <;> omega
 rw [e1, e2]
 rfl
theorem sadd_carry {x y c : Nat} (hx : x < M) (hy : y < M) (hc : c ≤ 1) : (x + y + c) / M ≤ 1 := by unfold M at *; omega
theorem ssub_step {x y c : Nat} (hx : x < M) (hy : y < M) (hc : c ≤ 1) : (x + M - y - c) % M + y + c = x + M * (if x < y + c then 1 else 0) := by
 unfold M at *; split <;> omega
theorem sborrow_le (x y c : Nat) : (if x < y + c then 1 else 0) ≤ 1 := by split <;> omega
theorem sval_take4 {b : Nat} {B : List Nat} (h : B.length = 4) : val b (B.take 4) = val b B := by rw [List.take_of_length_le (by omega)]
/-- A number as four limbs. -/
def limS (n : Nat) : Array Value := u64s (digs M n 4)
theorem limS_size (n : Nat) : (limS n).size = 4 := by rw [limS, u64s_size, digs_length]
theorem infoS4 : (Tryz.prog.info? 87).map (·.size) = some 4 := by kernel_rfl
theorem su64s_info {L : List Nat} (h : L.length = 4) : (Tryz.prog.info? 87).map (·.size) = some (u64s L).size := by rw [u64s_size, h]; exact infoS4
theorem LL_M : LL < M ^ 4 := by decide
theorem LL_M2 : 2 * LL < M ^ 4 := by decide
theorem limS_val {n : Nat} (h : n < LL) : val M (digs M n 4) = n := by rw [val_digs, Nat.mod_eq_of_lt (Nat.lt_trans h LL_M)]
theorem limS_all (n : Nat) : All M (digs M n 4) := digs_all (by decide) _ _
theorem sresults_row_tmp {fn : Func} {p u : Tmp} {ty : TypeId} {P : Program} (h : fn.results = #[.cell p ty, .tmp u]) (tmps : Array Value) (w : World) (g : Nat) (t : TypeId) (cs : Array Value) (v : Value) (e : TypeId) (n : Nat)
  (hp : tmps.getD p undef = .pointer (some ⟨g, 0, none⟩)) (hv : tmps.getD u undef = v) (hg : Blk w g t cs) (hu : P.underlying ty = some (.array n e)) (hi : (P.info? ty).map (·.size) = some cs.size) :
  (results fn tmps).run P w = .ok (.tuple #[.agg cs, v]) w := by
 rw [results_cell_tmp h, hp, hv]
 have hl := run_loadVar_row w g t ty cs (0, 0) _ hg hu rfl hi
 simp [asAddr, Result.andThen, hl]
/-- Three blocks, one behind the other. -/
theorem sthree (w : World) (a b c : Array Value) (T1 T2 T3 : TypeId) : Blk (((w.alloc (.cells a T1)).alloc (.cells b T2)).alloc (.cells c T3)) w.heap.size T1 a ∧ Blk (((w.alloc (.cells a T1)).alloc (.cells b T2)).alloc (.cells c T3)) (w.heap.size + 1) T2 b ∧
  Blk (((w.alloc (.cells a T1)).alloc (.cells b T2)).alloc (.cells c T3)) (w.heap.size + 2) T3 c ∧ Below w.heap.size w (((w.alloc (.cells a T1)).alloc (.cells b T2)).alloc (.cells c T3)) ∧ w.heap.size + 2 < (((w.alloc (.cells a T1)).alloc (.cells b T2)).alloc (.cells c T3)).heap.size := by
 refine ⟨((Blk.new w T1 a).alloc _).alloc _, ?_, ?_, (((Below.refl _ _).alloc (Nat.le_refl _) _).alloc (by simp) _).alloc (by simp; omega) _, by simp⟩
 ·have := (Blk.new (w.alloc (.cells a T1)) T2 b).alloc (.cells c T3)
  rwa [show (w.alloc (.cells a T1)).heap.size = w.heap.size + 1 by simp] at this
 ·have := Blk.new ((w.alloc (.cells a T1)).alloc (.cells b T2)) T3 c
  rwa [show ((w.alloc (.cells a T1)).alloc (.cells b T2)).heap.size = w.heap.size + 2 by simp] at this
abbrev zeros4 : Array Value := #[.int .u64 0, .int .u64 0, .int .u64 0, .int .u64 0]
def SAt (Y : List Nat) (w : World) (L : List Nat) (wr : World) : Prop :=
 L.length = 4 ∧ Blk wr w.heap.size 87 (u64s L) ∧ Blk wr (w.heap.size + 1) 87 (u64s Y) ∧ Blk wr (w.heap.size + 2) 87 zeros4 ∧ Below w.heap.size w wr
theorem SAt.drew {Y L : List Nat} {w wr : World} (h : SAt Y w L wr) : SAt Y w L wr.drew := ⟨h.1, h.2.1.drew, h.2.2.1.drew, h.2.2.2.1.drew, h.2.2.2.2.drew⟩
theorem SAt.set {Y L : List Nat} {w wr : World} (h : SAt Y w L wr) (k r : Nat) : SAt Y w (L.set k r) (wr.setCell ⟨w.heap.size, k, none⟩ (.int .u64 (r : Int))) := by
 obtain ⟨h1, h2, h3, h4, h5⟩ := h
 refine ⟨by simpa using h1, ?_, h3.far (by show w.heap.size + 1 ≠ w.heap.size; omega) _, h4.far (by show w.heap.size + 2 ≠ w.heap.size; omega) _, h5.setCell (by show w.heap.size ≤ w.heap.size; omega) _⟩
 have := h2.set_ k (.int .u64 (r : Int))
 rwa [u64s_set] at this
theorem SAt.start (w : World) (X Y : List Nat) (h : X.length = 4) : SAt Y w X (((w.alloc (.cells (u64s X) 87)).alloc (.cells (u64s Y) 87)).alloc (.cells zeros4 87)) := by
 obtain ⟨b1, b2, b3, hb, _⟩ := sthree w (u64s X) (u64s Y) zeros4 87 87 87
 exact ⟨h, b1, b2, b3, hb⟩
set_option maxHeartbeats 2000000 in
set_option maxRecDepth 100000 in
theorem sless_any (X Y : List Nat) (w : World) (hX4 : X.length = 4) (hX : All M X) (hY4 : Y.length = 4) (hY : All M Y) :
  Calls Tryz.prog 80 #[.agg (u64s X), .agg (u64s Y)] w fun e w' => (∃ L c, Less M X 4 L c (val M Y) ∧ c ≤ 1 ∧ e = .returned (.tuple #[.agg (u64s L), .bool (decide (c ≠ 0))])) ∧ Below w.heap.size w w' := by
 have hal : Tryz.prog.arrayLen 87 = 4 := by kernel_rfl
 have hel : Tryz.prog.elem 87 = 40 := by kernel_rfl
 have HX4 := hid hX4
 have HY4 := hid hY4
 have HX := hid hX
 have HY := hid hY
 have hs0 := hid (SAt.start w X Y hX4)
 obtain ⟨cx, hcx⟩ : ∃ c, Hid (c = u64s X) := ⟨_, hid rfl⟩
 obtain ⟨cy, hcy⟩ : ∃ c, Hid (c = u64s Y) := ⟨_, hid rfl⟩
 rw [← hcx.out, ← hcy.out] at hs0 ⊢
 clear hX4 hY4 hX hY
 go_enter Tryz.func80, Tryz.ntmps80
 go_wp2
 go_loopw [6, 8] (fun cv iv wr => ∃ k c L, k ≤ 4 ∧ c ≤ 1 ∧ cv = .int .u64 (c : Nat) ∧ iv = .int .i64 (k : Nat) ∧ Less M X k L c (val M (Y.take k)) ∧ SAt Y w L wr) (fun _ iv _ => 4 - (intOf iv).toNat)
 case atStart => exact ⟨0, 0, X, by omega, by omega, rfl, rfl, Less.zero HX.out, hs0.out⟩
 case round =>
  obtain ⟨k, c, L, hk, hc, rfl, rfl, hL, hs⟩ := hrel
  by_cases hlt : k < 4
  ·have hL4 : L.length = 4 := hs.1
   have hx : wr.cell? ⟨w.heap.size, k, none⟩ = some (.int .u64 ((L.getD k 0 : Nat) : Int)) := (hs.2.1.cell _).trans (u64s_get _ _ (by omega))
   have hf := hs.2.1.frozen k
   have hy : wr.cell? ⟨w.heap.size + 1, k, none⟩ = some (.int .u64 ((Y.getD k 0 : Nat) : Int)) := (hs.2.2.1.cell _).trans (u64s_get _ _ (by rw [HY4.out]; omega))
   have hxl := hL.2.1.getD (by decide) k
   have hyl := HY.out.getD (by decide) k
   have hXk := hL.2.2.1 k (Nat.le_refl _)
   obtain ⟨x, hx'⟩ : ∃ x, Hid (x = L.getD k 0) := ⟨_, hid rfl⟩
   obtain ⟨y, hy'⟩ : ∃ y, Hid (y = Y.getD k 0) := ⟨_, hid rfl⟩
   rw [← hx'.out] at hx hxl hXk
   rw [← hy'.out] at hy hyl
   obtain ⟨r, hR⟩ : ∃ r, Hid (r = (x + M - y - c) % M) := ⟨_, hid rfl⟩
   obtain ⟨c', hC⟩ : ∃ c', Hid (c' = if x < y + c then 1 else 0) := ⟨_, hid rfl⟩
   have he : r + y + c = x + M * c' := by rw [hR.out, hC.out]; exact ssub_step hxl hyl hc
   have hrl : r < M := by rw [hR.out]; exact Nat.mod_lt _ (by decide)
   have hcl : c' ≤ 1 := by rw [hC.out]; exact sborrow_le _ _ _
   have hrun := ssub64_run x y c r c' hrl hxl hyl hc he
   have hnext : Hid (Less M X (k + 1) (L.set k r) c' (val M (Y.take (k + 1)))) := hid (by
    rw [val_take_succ _ _ _ (by rw [HY4.out]; exact hlt), ← hy'.out]
    exact hL.next (by rw [HX4.out]; exact hlt) hrl (by rw [← hXk]; exact he))
   have hsn := hid (hs.set k r)
   clear hL hs hXk he hL4
   go_wp2
   go_region
   have hnd := hid hsn.out.drew
   clear hsn
   go_wp2
   go_roundw
   case rel => exact ⟨k + 1, c', _, by omega, hcl, rfl, by go_num, hnext.out, hnd.out⟩
   case measure => simp [intOf]; omega
  ·obtain rfl : k = 4 := by omega
   rw [sval_take4 HY4.out] at hL
   have HL := hid hL
   have HB := hid hs.2.2.2.2
   have b1 := hid hs.2.1
   have b3 := hid hs.2.2.2.1
   obtain ⟨R, hR⟩ : ∃ R, Hid (R = u64s L) := ⟨_, hid rfl⟩
   rw [← hR.out] at b1
   have hRi : Hid ((Tryz.prog.info? 87).map (·.size) = some R.size) := by rw [hR.out]; exact hid (su64s_info hs.1)
   have hR1 : Hid (R.all (·.oneCell') = true) := by rw [hR.out]; exact hid (u64s_one _)
   have hzz : Hid (zeros4.size = R.size) := by rw [hR.out, u64s_size, hs.1]; exact hid rfl
   obtain ⟨b, hb⟩ : ∃ b, Hid (b = decide (c ≠ 0)) := ⟨_, hid rfl⟩
   have hbt : ((c : Int) != 0) = b := by rw [hb.out]; rcases (show c = 0 ∨ c = 1 by omega) with rfl | rfl <;> rfl
   clear hL hs
   go_wp2_with (first | (refine wpList_load_row rfl 87 (.tmp 2) rfl w.heap.size rfl 87 R (0, 0) _ b1.out Tryz.underlying87 rfl hRi.out ?_) |
    (refine wpList_store_row rfl 87 (.tmp 4) (.tmp 25) rfl (w.heap.size + 2) R rfl rfl 87 _ b3.out hRi.out hzz.out hR1.out ?_))
   refine bodyPost_ret (v := .tuple #[.agg R, .bool b]) ?_ rfl ⟨⟨L, c, HL.out, hc, by rw [hR.out, hb.out]⟩, below_row HB.out (by omega) _⟩
   exact sresults_row_tmp Tryz.results80 _ _ (w.heap.size + 2) 87 R _ _ _ rfl rfl (b3.out.row R) Tryz.underlying87 hRi.out
/-- L's limbs stand in their variable. -/
def OrderAt (w : World) : Prop := 0 < w.heap.size ∧ ∀ j v, (limS LL)[j]? = some v → w.cell? ⟨0, 0 + j, none⟩ = some v
theorem OrderAt.old {w w' : World} (h : OrderAt w) (hb : Below w.heap.size w w') : OrderAt w' :=
 ⟨Nat.lt_of_lt_of_le h.1 hb.size, fun j v hj => (hb.cell (p := ⟨0, 0 + j, none⟩) h.1).trans (h.2 j v hj)⟩
theorem sadd_sum {n m c : Nat} {L : List Nat} (hn : n < LL) (hm : m < LL) (h : Part M (digs M n 4) 4 L c (val M (digs M m 4))) : L = digs M (n + m) 4 := by
 obtain ⟨h1, h2, _, h4⟩ := h
 rw [limS_val hn, limS_val hm] at h4
 have hl := val_lt L h2
 rw [h1, digs_length] at hl
 refine digs_of h2 (h1.trans (digs_length _ _ _)) ?_
 have h3 := LL_M2
 have hc : c = 0 := by
  rcases Nat.eq_zero_or_pos c with h | h
  ·exact h
  ·have := Nat.mul_le_mul_left (M ^ 4) h
   omega
 subst hc
 omega
theorem sadd_less {s c : Nat} {L : List Nat} (hs : s < 2 * LL) (hc : c ≤ 1) (h : Less M (digs M s 4) 4 L c (val M (digs M LL 4))) : (c = 1 ∧ s % LL = s) ∨ (c = 0 ∧ L = digs M (s % LL) 4) := by
 obtain ⟨h1, h2, _, h4⟩ := h
 have h3 := LL_M2
 rw [val_digs, val_digs, Nat.mod_eq_of_lt (by omega), Nat.mod_eq_of_lt (by omega)] at h4
 have hl := val_lt L h2
 rw [h1, digs_length] at hl
 rcases (show c = 0 ∨ c = 1 by omega) with rfl | rfl
 ·refine .inr ⟨rfl, digs_of h2 (h1.trans (digs_length _ _ _)) ?_⟩
  rw [Nat.mod_eq_sub_mod (by omega), Nat.mod_eq_of_lt (by omega)]
  omega
 ·exact .inl ⟨rfl, Nat.mod_eq_of_lt (by omega)⟩
set_option maxHeartbeats 2000000 in
set_option maxRecDepth 100000 in
theorem sadd_any (n m : Nat) (hn : n < LL) (hm : m < LL) (w : World) (hO : OrderAt w) :
  Calls Tryz.prog 49 #[.agg (limS n), .agg (limS m)] w fun e w' => e = .returned (.agg (limS ((n + m) % LL))) ∧ Below w.heap.size w w' := by
 have hal : Tryz.prog.arrayLen 87 = 4 := by kernel_rfl
 have hel : Tryz.prog.elem 87 = 40 := by kernel_rfl
 have HX := hid (limS_all n)
 have HY := hid (limS_all m)
 have HX4 : Hid ((digs M n 4).length = 4) := hid (digs_length _ _ _)
 have HY4 : Hid ((digs M m 4).length = 4) := hid (digs_length _ _ _)
 have hs0 := hid (SAt.start w (digs M n 4) (digs M m 4) (digs_length _ _ _))
 have HO := hid hO
 have Hn := hid hn
 have Hm := hid hm
 clear hn hm hO
 unfold limS
 obtain ⟨cx, hcx⟩ : ∃ c, Hid (c = u64s (digs M n 4)) := ⟨_, hid rfl⟩
 obtain ⟨cy, hcy⟩ : ∃ c, Hid (c = u64s (digs M m 4)) := ⟨_, hid rfl⟩
 obtain ⟨Z, hZ⟩ : ∃ R, Hid (R = u64s (digs M ((n + m) % LL) 4)) := ⟨_, hid rfl⟩
 rw [← hcx.out, ← hcy.out] at hs0 ⊢
 rw [← hZ.out]
 go_enter Tryz.func49, Tryz.ntmps49
 go_wp2
 go_loopw [5, 9] (fun cv iv wr => ∃ k c L, k ≤ 4 ∧ c ≤ 1 ∧ cv = .int .u64 (c : Nat) ∧ iv = .int .i64 (k : Nat) ∧ Part M (digs M n 4) k L c (val M ((digs M m 4).take k)) ∧ SAt (digs M m 4) w L wr) (fun _ iv _ => 4 - (intOf iv).toNat)
 case atStart => exact ⟨0, 0, _, by omega, by omega, rfl, rfl, Part.zero HX.out, hs0.out⟩
 case round =>
  obtain ⟨k, c, L, hk, hc, rfl, rfl, hL, hs⟩ := hrel
  by_cases hlt : k < 4
  ·have hL4 : L.length = 4 := hs.1
   have hx : wr.cell? ⟨w.heap.size, k, none⟩ = some (.int .u64 ((L.getD k 0 : Nat) : Int)) := (hs.2.1.cell _).trans (u64s_get _ _ (by omega))
   have hf := hs.2.1.frozen k
   have hy : wr.cell? ⟨w.heap.size + 1, k, none⟩ = some (.int .u64 (((digs M m 4).getD k 0 : Nat) : Int)) := (hs.2.2.1.cell _).trans (u64s_get _ _ (by rw [HY4.out]; omega))
   have hxl := hL.2.1.getD (by decide) k
   have hyl := HY.out.getD (by decide) k
   have hXk := hL.2.2.1 k (Nat.le_refl _)
   obtain ⟨x, hx'⟩ : ∃ x, Hid (x = L.getD k 0) := ⟨_, hid rfl⟩
   obtain ⟨y, hy'⟩ : ∃ y, Hid (y = (digs M m 4).getD k 0) := ⟨_, hid rfl⟩
   rw [← hx'.out] at hx hxl hXk
   rw [← hy'.out] at hy hyl
   obtain ⟨r, hR⟩ : ∃ r, Hid (r = (x + y + c) % M) := ⟨_, hid rfl⟩
   obtain ⟨c', hC⟩ : ∃ c', Hid (c' = (x + y + c) / M) := ⟨_, hid rfl⟩
   have he : r + M * c' = x + y + c := by rw [hR.out, hC.out]; exact Nat.mod_add_div _ _
   have hrl : r < M := by rw [hR.out]; exact Nat.mod_lt _ (by decide)
   have hcl : c' ≤ 1 := by rw [hC.out]; exact sadd_carry hxl hyl hc
   have hrun := sadd64_run x y c r c' hrl hc he
   have hnext : Hid (Part M (digs M n 4) (k + 1) (L.set k r) c' (val M ((digs M m 4).take (k + 1)))) := hid (by
    rw [val_take_succ _ _ _ (by rw [HY4.out]; exact hlt), ← hy'.out]
    exact hL.next (by rw [HX4.out]; exact hlt) hrl (by rw [← hXk]; exact he))
   have hsn := hid (hs.set k r)
   clear hL hs hXk he hL4
   go_wp2
   go_region
   have hnd := hid hsn.out.drew
   clear hsn
   go_wp2
   go_roundw
   case rel => exact ⟨k + 1, c', _, by omega, hcl, rfl, by go_num, hnext.out, hnd.out⟩
   case measure => simp [intOf]; omega
  ·obtain rfl : k = 4 := by omega
   rw [sval_take4 HY4.out] at hL
   have hs1 := hs.1
   obtain rfl := sadd_sum Hn.out Hm.out hL
   have hsum : Hid (n + m < 2 * LL) := hid (by have := Hn.out; have := Hm.out; omega)
   obtain ⟨s, hs'⟩ : ∃ s, Hid (s = n + m) := ⟨_, hid rfl⟩
   rw [← hs'.out] at hsum hs hZ
   obtain ⟨R, hR⟩ : ∃ R, Hid (R = u64s (digs M s 4)) := ⟨_, hid rfl⟩
   obtain ⟨oc, hoc⟩ : ∃ R, Hid (R = u64s (digs M LL 4)) := ⟨_, hid rfl⟩
   have b1 := hs.2.1
   rw [← hR.out] at b1
   have HB1 := hid b1
   have HS := hid hs
   have hRi : Hid ((Tryz.prog.info? 87).map (·.size) = some R.size) := by rw [hR.out]; exact hid (su64s_info (digs_length _ _ _))
   have hOi : Hid ((Tryz.prog.info? 87).map (·.size) = some oc.size) := by rw [hoc.out]; exact hid (su64s_info (digs_length _ _ _))
   have hR1 : Hid (R.all (·.oneCell') = true) := by rw [hR.out]; exact hid (u64s_one _)
   have hzz : Hid (zeros4.size = R.size) := by rw [hR.out, u64s_size, digs_length]; exact hid rfl
   have hZi : Hid ((Tryz.prog.info? 87).map (·.size) = some Z.size) := by rw [hZ.out]; exact hid (su64s_info (digs_length _ _ _))
   have hZ1 : Hid (Z.all (·.oneCell') = true) := by rw [hZ.out]; exact hid (u64s_one _)
   have hzZ : Hid (zeros4.size = Z.size) := by rw [hZ.out, u64s_size, digs_length]; exact hid rfl
   have hOr : Hid (∀ j v, oc[j]? = some v → wr.cell? ⟨0, 0 + j, none⟩ = some v) := by rw [hoc.out]; exact hid (HO.out.old hs.2.2.2.2).2
   have CL : Hid (Calls Tryz.prog 80 #[.agg R, .agg oc] wr fun e w' => (∃ L c, Less M (digs M s 4) 4 L c (val M (digs M LL 4)) ∧ c ≤ 1 ∧ e = .returned (.tuple #[.agg (u64s L), .bool (decide (c ≠ 0))])) ∧ Below wr.heap.size wr w') := by
    rw [hR.out, hoc.out]; exact hid (sless_any _ _ wr (digs_length _ _ _) (limS_all _) (digs_length _ _ _) (limS_all _))
   clear hL hs b1
   go_wp2_with (first | (refine wpList_load_row rfl 87 (.tmp 2) rfl w.heap.size rfl 87 R (0, 0) _ HB1.out Tryz.underlying87 rfl hRi.out ?_) |
    (refine wpList_load_at rfl 87 (.global 0) rfl 0 0 rfl 40 4 oc Tryz.underlying87 hOi.out hOr.out ?_))
   refine CL.out.mono ?_
   rintro e w2 ⟨⟨L2, c2, hL2, hc2, rfl⟩, hb2⟩
   have hcase := hid (sadd_less hsum.out hc2 hL2)
   obtain ⟨R2, hR2⟩ : ∃ R, Hid (R = u64s L2) := ⟨_, hid rfl⟩
   rw [← hR2.out]
   have hl2 : L2.length = 4 := hL2.1.trans (digs_length _ _ _)
   have hR2i : Hid ((Tryz.prog.info? 87).map (·.size) = some R2.size) := by rw [hR2.out]; exact hid (su64s_info hl2)
   have hR21 : Hid (R2.all (·.oneCell') = true) := by rw [hR2.out]; exact hid (u64s_one _)
   have hzz2 : Hid (zeros4.size = R2.size) := by rw [hR2.out, u64s_size, hl2]; exact hid rfl
   have B1 := hid ((HB1.out.old hb2).alloc (.cells R2 87))
   have B3 := hid ((HS.out.2.2.2.1.old hb2).alloc (.cells R2 87))
   have B4 := hid (Blk.new w2 87 R2)
   have HB := hid ((HS.out.2.2.2.2.trans (hb2.mono HS.out.2.2.2.2.size)).alloc (HS.out.2.2.2.2.trans (hb2.mono HS.out.2.2.2.2.size)).size (.cells R2 87))
   obtain ⟨b, hb⟩ : ∃ b, Hid (b = decide (c2 ≠ 0)) := ⟨_, hid rfl⟩
   rw [← hb.out]
   clear hL2 hb2 hl2
   rcases hcase.out with ⟨h1, h2⟩ | ⟨h1, h2⟩
   ·have hbt : b = true := by rw [hb.out, h1]; rfl
    have hRZ : Hid (R = Z) := by rw [hR.out, hZ.out, h2]; exact hid rfl
    subst hbt
    clear h1 h2
    go_wp2_with (first | (refine wpList_store_row rfl 87 (.tmp 7) (.tmp 30) rfl w2.heap.size R2 rfl rfl 87 _ (heap_alloc_new w2 _) hR2i.out hzz2.out hR21.out ?_; rw [setRow_alloc1]) |
     (refine wpList_load_row rfl 87 (.tmp 2) rfl w.heap.size rfl 87 R (0, 0) _ B1.out Tryz.underlying87 rfl hRi.out ?_) |
     (refine wpList_store_row rfl 87 (.tmp 4) (.tmp 33) rfl (w.heap.size + 2) R rfl rfl 87 _ B3.out hRi.out hzz.out hR1.out ?_))
    refine bodyPost_ret (v := .agg R) ?_ rfl ⟨by rw [hRZ.out], below_row HB.out (by omega) _⟩
    exact results_cell_row Tryz.results49 _ _ (w.heap.size + 2) 87 R (0, 0) _ rfl (B3.out.row R) Tryz.underlying87 rfl hRi.out
   ·have hbt : b = false := by rw [hb.out, h1]; rfl
    have hRZ : Hid (R2 = Z) := by rw [hR2.out, hZ.out, h2]; exact hid rfl
    subst hbt
    clear h1 h2
    go_wp2_with (first | (refine wpList_store_row rfl 87 (.tmp 7) (.tmp 30) rfl w2.heap.size R2 rfl rfl 87 _ (heap_alloc_new w2 _) hR2i.out hzz2.out hR21.out ?_; rw [setRow_alloc1]) |
     (refine wpList_load_row rfl 87 (.tmp 7) rfl w2.heap.size rfl 87 R2 (0, 0) _ B4.out Tryz.underlying87 rfl hR2i.out ?_) |
     (refine wpList_store_row rfl 87 (.tmp 4) (.tmp 34) rfl (w.heap.size + 2) R2 rfl rfl 87 _ B3.out hR2i.out hzz2.out hR21.out ?_))
    refine bodyPost_ret (v := .agg R2) ?_ rfl ⟨by rw [hRZ.out], below_row HB.out (by omega) _⟩
    exact results_cell_row Tryz.results49 _ _ (w.heap.size + 2) 87 R2 (0, 0) _ rfl (B3.out.row R2) Tryz.underlying87 rfl hR2i.out
theorem sbytes_limb (n k j : Nat) (hj : j < 8) : (n / M ^ k % M) / 2 ^ (j * 8) % 256 = n / 256 ^ (8 * k + j) % 256 := by
 have e1 : (256 : Nat) ^ (8 * k + j) = M ^ k * 256 ^ j := by
  rw [Nat.pow_add, Nat.pow_mul]
 have e2 : (2 : Nat) ^ (j * 8) = 256 ^ j := by rw [Nat.mul_comm, Nat.pow_mul]
 rw [e1, e2, ← Nat.div_div_eq_div_mul]
 generalize n / M ^ k = x
 have e3 : M = 256 ^ j * 256 ^ (8 - j) := by rw [← Nat.pow_add, show j + (8 - j) = 8 by omega]
 rw [e3, Nat.mod_mul_right_div_self]
 obtain ⟨d, hd⟩ : ∃ d, 8 - j = d + 1 := ⟨7 - j, by omega⟩
 rw [hd, Nat.pow_succ, Nat.mod_mul_left_mod]
theorem limS_get (n i : Nat) (h : i < 4) : (limS n)[i]? = some (.int .u64 ((n / M ^ i % M : Nat) : Int)) := by
 rw [limS, u64s_get _ _ (by rw [digs_length]; exact h), digs_getD _ _ _ _ h]
/-- the first k bytes are told. -/
def spart (l : List UInt8) (k : Nat) : List UInt8 := l.take k ++ List.replicate (32 - k) 0
theorem spart_length {l : List UInt8} {k : Nat} (h : l.length = 32) (hk : k ≤ 32) : (spart l k).length = 32 := by simp [spart]; omega
theorem sbytesA_set (l : List UInt8) (k : Nat) (x : UInt8) : (bytesA l).setIfInBounds k (.int .u8 (x.toNat : Int)) = bytesA (l.set k x) := by
 simp [bytesA, Lib.byteCells, List.map_set]
theorem spart_set {l : List UInt8} {k : Nat} (h : l.length = 32) (hk : k < 32) : (spart l k).set k (l.getD k 0) = spart l (k + 1) := by
 unfold spart
 have e1 : (l.take k).length = k := by simp; omega
 rw [List.set_append_right _ _ (by omega), e1, Nat.sub_self, show 32 - k = (32 - (k + 1)) + 1 by omega, List.replicate_succ, List.set_cons_zero]
 have hkl : k < l.length := by omega
 rw [List.take_succ_eq_append_getElem hkl, List.getD_eq_getElem?_getD, List.getElem?_eq_getElem hkl, List.append_assoc]
 rfl
theorem spart_all {l : List UInt8} (h : l.length = 32) : spart l 32 = l := by simp [spart, ← h]
def SBytesAt (n : Nat) (w : World) (k : Nat) (wr : World) : Prop :=
 Blk wr w.heap.size 87 (limS n) ∧ Blk wr (w.heap.size + 1) 24 (bytesA (List.replicate 32 0)) ∧ Blk wr (w.heap.size + 2) 24 (bytesA (spart (fbytes n) k)) ∧ Below w.heap.size w wr
set_option maxHeartbeats 2000000 in
set_option maxRecDepth 100000 in
theorem sbytes_any (n : Nat) (w : World) : Calls Tryz.prog 50 #[.agg (limS n)] w fun e w' => e = .returned (.agg (bytesA (fbytes n))) ∧ Below w.heap.size w w' := by
 have hal : Tryz.prog.arrayLen 87 = 4 := by kernel_rfl
 have hel : Tryz.prog.elem 87 = 40 := by kernel_rfl
 have hal2 : Tryz.prog.arrayLen 24 = 32 := by kernel_rfl
 have hel2 : Tryz.prog.elem 24 = 5 := by kernel_rfl
 obtain ⟨cn, hcn⟩ : ∃ c, Hid (c = limS n) := ⟨_, hid rfl⟩
 rw [← hcn.out]
 obtain ⟨z, hz⟩ : ∃ z, Hid (z = bytesA (List.replicate 32 0)) := ⟨_, hid rfl⟩
 have hz0 : ∀ W, (zeroValue 24).run Tryz.prog W = .ok (.agg z) W := by
  rw [hz.out]; exact (zero_of_info (n := 32) (by kernel_rfl)).1
 go_enter Tryz.func50, Tryz.ntmps50
 go_wp2
 go_loopw [4, 5] (fun _ iv wr => ∃ i, i ≤ 32 ∧ iv = .int .i64 (i : Nat) ∧ SBytesAt n w i wr) (fun _ iv _ => 32 - (intOf iv).toNat)
 case atStart =>
  refine ⟨0, by omega, rfl, ?_⟩
  obtain ⟨b1, b2, b3, hb, _⟩ := sthree w cn z z 87 24 24
  refine ⟨?_, ?_, ?_, hb⟩
  ·rw [← hcn.out]; exact b1
  ·rw [← hz.out]; exact b2
  ·rw [show spart (fbytes n) 0 = List.replicate 32 0 from rfl, ← hz.out]
   exact b3
 case round =>
  obtain ⟨i, hi, rfl, b1, b2, b3, hb⟩ := hrel
  clear hz0
  by_cases hlt : i < 32
  ·obtain ⟨k, hk⟩ : ∃ k, k = i / 8 := ⟨_, rfl⟩
   obtain ⟨j, hj⟩ : ∃ j, j = i % 8 := ⟨_, rfl⟩
   have hij : i = 8 * k + j := by omega
   have hk4 : k < 4 := by omega
   have hj8 : j < 8 := by omega
   have hdiv : (i : Int) / 8 = (k : Int) := by omega
   have hmod : (i : Int) % 8 = (j : Int) := by omega
   have hx : wr.cell? ⟨w.heap.size, k, none⟩ = some (.int .u64 ((n / M ^ k % M : Nat) : Int)) := (b1.cell k).trans (limS_get n k hk4)
   have hbl := sbytes_limb n k j hj8
   rw [← hij, ← fbytes_get n i hlt] at hbl
   obtain ⟨x, hX⟩ := named (n / M ^ k % M)
   rw [← hX.out] at hx hbl
   obtain ⟨y, hY⟩ : ∃ y, Hid (y = (fbytes n).getD i 0) := ⟨_, hid rfl⟩
   rw [← hY.out] at hbl
   have hc : ∃ u, wr.cell? ⟨w.heap.size + 2, i, none⟩ = some u := ⟨_, (b3.cell i).trans (Array.getElem?_eq_getElem (by rw [bytesA_size, spart_length (fbytes_length n) hi]; exact hlt))⟩
   obtain ⟨u, hu⟩ := hc
   have hf := b3.frozen i
   have hsh2 : IntKind.u8.wrap ((x : Int) / 2 ^ (j * 8)) = (y.toNat : Int) := by
    rw [IntKind.wrap_u8', ← hbl]; simp
   have hmin : min (j * 8) 64 = j * 8 := by omega
   have ht : ((j : Int) * 8).toNat = j * 8 := by omega
   have hnext : Hid (SBytesAt n w (i + 1) (wr.setCell ⟨w.heap.size + 2, i, none⟩ (.int .u8 (y.toNat : Int)))) := hid (by
    refine ⟨b1.far (by show w.heap.size ≠ w.heap.size + 2; omega) _, b2.far (by show w.heap.size + 1 ≠ w.heap.size + 2; omega) _, ?_, hb.setCell (by show w.heap.size ≤ w.heap.size + 2; omega) _⟩
    have := b3.set_ i (.int .u8 (y.toNat : Int))
    rwa [sbytesA_set, hY.out, spart_set (fbytes_length n) hlt, ← hY.out] at this)
   clear b1 b2 b3 hb hk hj hij hbl
   go_wp2
   exact ⟨⟨i + 1, by omega, by go_num, hnext.out⟩, by simp [intOf]; omega⟩
  ·obtain rfl : i = 32 := by omega
   have b3' : Hid (Blk wr (w.heap.size + 2) 24 (bytesA (fbytes n))) := by rw [spart_all (fbytes_length n)] at b3; exact hid b3
   have hRi := hid (fbytes_info n)
   have hR1 : Hid ((bytesA (fbytes n)).all (·.oneCell') = true) := hid (bytesA_one _)
   have hzz : Hid ((bytesA (List.replicate 32 0)).size = (bytesA (fbytes n)).size) := hid (by rw [bytesA_size, bytesA_size, fbytes_length]; rfl)
   have B2 := hid b2
   have HBL := hid hb
   obtain ⟨R, hR⟩ : ∃ R, Hid (R = bytesA (fbytes n)) := ⟨_, hid rfl⟩
   rw [← hR.out] at b3' hRi hR1 hzz
   clear b1 b2 b3 hb
   go_wp2_with (first | (refine wpList_load_row rfl 24 (.tmp 3) rfl (w.heap.size + 2) rfl 24 R (0, 0) _ b3'.out Tryz.underlying24 rfl hRi.out ?_) |
    (refine wpList_store_row rfl 24 (.tmp 2) (.tmp 20) rfl (w.heap.size + 1) R rfl rfl 24 _ B2.out hRi.out hzz.out hR1.out ?_))
   refine bodyPost_ret (v := .agg R) ?_ rfl ⟨by rw [hR.out], below_row HBL.out (by omega) _⟩
   exact results_cell_row Tryz.results50 _ _ (w.heap.size + 1) 24 R (0, 0) _ rfl (B2.out.row R) Tryz.underlying24 rfl hRi.out
end Go.Proofs.YtcfogpeinjehbaaGreatDoor
end

section
namespace Go.Proofs.YtcfogpeinjehbaaGreatDoor
open Go Go.Proofs Go.RowKit Go.Shelf F5
attribute [local go_sem] Oper.semAt_some
/-- What has come when k rounds are over: the bytes from the last one on, each with its place. -/
def backs (l : List UInt8) (k : Nat) : List (Nat × UInt8) := (List.range k).map fun j => (l.length - 1 - j, l.getD (l.length - 1 - j) 0)
theorem backs_succ (l : List UInt8) (k : Nat) : backs l (k + 1) = backs l k ++ [(l.length - 1 - k, l.getD (l.length - 1 - k) 0)] := by simp [backs, List.range_succ]
theorem backs_length (l : List UInt8) (k : Nat) : (backs l k).length = k := by simp [backs]
/-- What a round that goes on keeps: what lay below n₀, and the slice's own variable. -/
def KpB (n₀ Bs : Nat) (W W' : World) : Prop := Below n₀ W W' ∧ W'.cell? ⟨Bs, 0, none⟩ = W.cell? ⟨Bs, 0, none⟩
theorem KpB.refl (n₀ Bs : Nat) (W : World) : KpB n₀ Bs W W := ⟨Below.refl _ _, rfl⟩
theorem KpB.trans {n₀ Bs : Nat} {X Y Z : World} (h : KpB n₀ Bs X Y) (k : KpB n₀ Bs Y Z) : KpB n₀ Bs X Z := ⟨h.1.trans k.1, k.2.trans h.2⟩
theorem kpB_turn {n₀ Bs : Nat} {w : World} (hn : n₀ ≤ w.heap.size) (hB : Bs < w.heap.size) (W : World) (l : Nat) (o o' : Obj) (hl : w.heap.size ≤ l) (h : W.heap[l]? = some o) (h1 : o.isCells = false) (h2 : o.isWalk = false) : KpB n₀ Bs W (W.putObj l o') :=
 ⟨belowK_b hn W l o o' hl h h1 h2, World.cell?_of_block (World.putObj_heap_other (by show Bs ≠ l; omega))⟩
abbrev encB (x : Nat × UInt8) : Array Value := #[.int .i64 (x.1 : Int), .int .u8 (x.2.toNat : Int)]
set_option maxRecDepth 100000 in
set_option maxHeartbeats 2000000 in
theorem back1_in (F : Fence) (n : Nat) (hf : F.fn 77) (hro : F.round = none) (hn : 1 ≤ n) (lp Bs n₀ : Nat) (A : Option Addr) (len cap : Nat) (l : List UInt8) (hlen : l.length = len) (hmax : len ≤ 140737488351232) (J Jx : List (Nat × UInt8) → World → Prop)
  (hY : ∀ pre x W, J pre W → pre.length < len → YieldAt F (n - 1) Tryz.prog lp (encB x) W fun e W' =>
   (e = .returned (.bool true) ∧ J (pre ++ [x]) W' ∧ KpB n₀ Bs W W') ∨ (e = .returned (.bool false) ∧ Jx (pre ++ [x]) W'))
  (W : World) (hBs : W.cell? ⟨Bs, 0, none⟩ = some (.slice A len cap)) (hr : Reads W n₀ 1 A len (Lib.byteCells l)) (h0 : J [] W) :
  CallsIn F n Tryz.prog 77 #[.func (.yield lp) #[] #[], .pointer (some ⟨Bs, 0, none⟩)] W fun e W' => (∃ v, e = .returned v) ∧
   ((∃ ys, ys = backs l len ∧ J ys W') ∨ (∃ pre, (∃ k, k ≤ len ∧ pre = backs l k) ∧ Jx pre W')) := by
 refine callsIn_of_wp Tryz.func77 rfl hf ?_ hro
 simp only [Tryz.ntmps77, List.size_toArray, List.length_cons, List.length_nil, Nat.reduceAdd, Nat.reduceSub, Array.replicate_succ, Array.replicate_zero, List.push_toArray, List.append_toArray, List.nil_append, List.cons_append]
 have hw0 : IntKind.i64.wrap ((len : Int) - 1) = (len : Int) - 1 := IntWalk.i64_in _ (by omega)
 gi_wp2
 gi_loopw [3] (fun i wr => ∃ k : Nat, k ≤ len ∧ i = .int .i64 ((len : Int) - 1 - (k : Int)) ∧ J (backs l k) wr ∧ KpB n₀ Bs W wr)
  (fun i _ => (intOf i + 1).toNat)
 case atStart => exact ⟨0, Nat.zero_le _, by simp, h0, KpB.refl _ _ _⟩
 case round =>
  obtain ⟨k, hk, rfl, hJs, hnx⟩ := hrel
  by_cases hlt : k < len
  ·obtain ⟨m, hm⟩ : ∃ m : Nat, Hid (m = len - 1 - k) := ⟨_, hid rfl⟩
   have hmi : (len : Int) - 1 - (k : Int) = (m : Int) := by have := hm.out; omega
   rw [hmi]
   clear hmi
   obtain ⟨ad, rfl, hadb, hcell⟩ := reads_b hr (show m < len by have := hm.out; omega)
   have hcx : wr.cell? (ad.add m) = some (.int .u8 ((l.getD m 0).toNat : Int)) := (hnx.1.cell (p := ad.add m) (by rw [block_of_add]; exact hadb)).trans hcell
   have hBx : wr.cell? ⟨Bs, 0, none⟩ = some (.slice (some ad) len cap) := hnx.2.trans hBs
   obtain ⟨fn, tmps, assign, body, hy, hR⟩ := hY _ (m, l.getD m 0) wr hJs (by rw [backs_length]; exact hlt)
   dsimp only [encB] at hy
   have hml : m < len := by have := hm.out; omega
   have hw1 : IntKind.i64.wrap ((m : Int) - 1) = (m : Int) - 1 := IntWalk.i64_in _ (by omega)
   obtain ⟨b, hb⟩ : ∃ b : UInt8, Hid (b = l.getD m 0) := ⟨_, hid rfl⟩
   rw [← hb.out] at hcx hy hR
   gi_wp2
   refine hR.mono ?_
   rintro e W3 (⟨rfl, hJ3, hk3⟩ | ⟨rfl, hJx3⟩)
   ·gi_wp2
    go_roundw
    case rel =>
     refine ⟨k + 1, by omega, ?_, ?_, hnx.trans hk3⟩
     ·congr 1; have := hm.out; omega
     ·rw [backs_succ, hlen, ← hm.out, ← hb.out]; exact hJ3
    case measure => simp [intOf]
   ·gi_wp2
    refine bodyPost_ret (results_none rfl _ _ _) rfl ?_
    exact ⟨⟨_, rfl⟩, .inr ⟨_, ⟨k + 1, by omega, by rw [backs_succ, hlen, ← hm.out, ← hb.out]⟩, hJx3⟩⟩
  ·obtain rfl : k = len := by omega
   have hmi : (k : Int) - 1 - (k : Int) = -1 := by omega
   rw [hmi]
   gi_wp2
   go_end0
   exact ⟨⟨_, rfl⟩, .inl ⟨_, rfl, hJs⟩⟩
set_option maxHeartbeats 1000000 in
theorem back_in (F : Fence) (n : Nat) (hf : F.fn 43) (hro : F.round = none) (a : Option Addr) (len cap : Nat) (w : World) :
  CallsIn F n Tryz.prog 43 #[.slice a len cap] w fun e w' => e = .returned (.func (.func 77) #[] #[.pointer (some ⟨w.heap.size, 0, none⟩)]) ∧ w' = w.alloc (.cells #[.slice a len cap] 22) := by
 refine callsIn_of_wp Tryz.func43 rfl hf ?_ hro
 simp only [Tryz.ntmps43, List.size_toArray, List.length_cons, List.length_nil, Nat.reduceAdd, Nat.reduceSub, Array.replicate_succ, Array.replicate_zero, List.push_toArray, List.append_toArray, List.nil_append, List.cons_append]
 gi_wp2
 go_ret
 exact ⟨rfl, rfl⟩
theorem back_stops (F : Fence) (n : Nat) (hf : F.fn 77) (hro : F.round = none) (hn : 1 ≤ n) (Bs n₀ : Nat) (A : Option Addr) (len cap : Nat) (l : List UInt8) (hlen : l.length = len) (hmax : len ≤ 140737488351232) (w : World) (hB : Bs < w.heap.size) (hn₀ : n₀ ≤ w.heap.size)
  (hc : w.cell? ⟨Bs, 0, none⟩ = some (.slice A len cap)) (hr : Reads w n₀ 1 A len (Lib.byteCells l)) :
  SeqStopsK F n Tryz.prog 77 #[.pointer (some ⟨Bs, 0, none⟩)] encB (KpB n₀ Bs) (fun ys => ys = backs l len) (fun pre => ∃ k, k ≤ len ∧ pre = backs l k) len w := fun lp J Jx W hW _ _ hY h0 => by
 have hW' := hW.mono hn₀
 exact back1_in F n hf hro hn lp Bs n₀ A len cap l hlen hmax J Jx hY W ((hW.cell (p := ⟨Bs, 0, none⟩) hB).trans hc) (hr.below hW') h0
end Go.Proofs.YtcfogpeinjehbaaGreatDoor
end

section
namespace Go.Proofs.YtcfogpeinjehbaaGreatDoor
open Go Go.Proofs Go.RowKit Go.Shelf F5
attribute [local go_sem] Oper.semAt_some
/-- A number times the bytes, read from the last one on. -/
def foldB (n : Nat) (pre : List (Nat × UInt8)) : Nat := pre.foldl (fun s x => (256 * s + n * x.2.toNat) % LL) 0
theorem foldB_snoc (n : Nat) (pre : List (Nat × UInt8)) (x : Nat × UInt8) : foldB n (pre ++ [x]) = (256 * foldB n pre + n * x.2.toNat) % LL := by simp [foldB]
theorem foldB_lt (n : Nat) (pre : List (Nat × UInt8)) : foldB n pre < LL := by
 rcases List.eq_nil_or_concat pre with rfl | ⟨p, x, rfl⟩
 ·exact LL_pos
 ·rw [List.concat_eq_append, foldB_snoc]; exact Nat.mod_lt _ LL_pos
theorem foldB_backs (n : Nat) (l : List UInt8) : ∀ k, k ≤ l.length → foldB n (backs l k) = n * bval (l.drop (l.length - k)) % LL
 | 0, _ => by simp [backs, foldB, bval, val]
 | k + 1, h => by
  rw [backs_succ, foldB_snoc, foldB_backs n l k (by omega)]
  obtain ⟨m, hm⟩ : ∃ m, m = l.length - 1 - k := ⟨_, rfl⟩
  have hml : m < l.length := by omega
  rw [show l.length - (k + 1) = m by omega, show l.length - k = m + 1 by omega, ← hm]
  have e : bval (l.drop m) = (l.getD m 0).toNat + 256 * bval (l.drop (m + 1)) := by
   have e1 : l.drop m = l[m] :: l.drop (m + 1) := List.drop_eq_getElem_cons hml
   rw [e1]
   show l[m].toNat + 256 * bval (l.drop (m + 1)) = _
   rw [List.getD_eq_getElem?_getD, List.getElem?_eq_getElem hml]; rfl
  rw [e]
  generalize bval (l.drop (m + 1)) = v
  generalize (l.getD m 0).toNat = x
  rw [Nat.add_mod, Nat.mul_mod, Nat.mod_mod, ← Nat.mul_mod, ← Nat.add_mod]
  congr 1
  rw [Nat.mul_add, Nat.mul_left_comm, Nat.add_comm]
/-- Of a byte the highest j bits are done. -/
def bitS (n s x j : Nat) : Nat := (2 ^ j * s + n * (x / 2 ^ (8 - j))) % LL
theorem bitS_zero (n : Nat) {s x : Nat} (hs : s < LL) (hx : x < 256) : bitS n s x 0 = s := by
 unfold bitS; rw [Nat.div_eq_of_lt (by omega)]; simp [Nat.mod_eq_of_lt hs]
theorem bitS_eight (n s x : Nat) : bitS n s x 8 = (256 * s + n * x) % LL := by simp [bitS]
theorem bitS_lt (n s x j : Nat) : bitS n s x j < LL := Nat.mod_lt _ LL_pos
theorem bitS_step (n s x j : Nat) (hj : j < 8) : bitS n s x (j + 1) = (bitS n s x j + bitS n s x j + n * (x / 2 ^ (7 - j) % 2)) % LL := by
 unfold bitS
 have e : x / 2 ^ (7 - j) = 2 * (x / 2 ^ (8 - j)) + x / 2 ^ (7 - j) % 2 := by
  rw [show 8 - j = (7 - j) + 1 by omega, Nat.pow_succ, ← Nat.div_div_eq_div_mul]; omega
 rw [show 8 - (j + 1) = 7 - j by omega]
 generalize x / 2 ^ (7 - j) % 2 = b at *
 rw [e, Nat.pow_succ]
 generalize x / 2 ^ (8 - j) = y
 generalize 2 ^ j = t
 rw [← Nat.two_mul, Nat.add_mod (2 * _), Nat.mul_mod 2 (_ % LL), Nat.mod_mod, ← Nat.mul_mod, ← Nat.add_mod]
 congr 1
 rw [Nat.mul_add, Nat.mul_add, Nat.mul_comm t 2, Nat.mul_assoc, Nat.mul_left_comm n 2, Nat.add_assoc]
section
variable {F : Fence} {n : Nat} {P : Program} {ops : Array Oper} {rest : List Oper} {o : Oper} {a : Act} {w : World} {Q : Exit → Act → World → Prop}
theorem wpListIn_load_row (hgd : o.guard = none) (ty : TypeId) (x : Operand) (ho : o.op = .load ty x)
  (g : Nat) (hx : a.eval x = .pointer (some ⟨g, 0, none⟩)) (t : TypeId) (cs : Array Value) (d : TypeDesc) (hg : Blk w g t cs)
  (hu : P.underlying ty = some d) (hd : (match d with | .struct _ | .array _ _ => true | _ => false) = true) (hi : (P.info? ty).map (·.size) = some cs.size)
  (h : wpListIn F n P ops Q rest (a.put o.dst (.agg cs)) w) : wpListIn F n P ops Q (o :: rest) a w := by
 refine wpListIn_plain hgd fun K hK' => ?_
 unfold Oper.wpIn
 refine ⟨?_, ?_⟩
 ·simp [Oper.about, ho]
 ·rw [Oper.semAt_plain F _ _ (by rw [ho]; intro c hc'; cases hc')]
  unfold execOp
  simp only [ho, hx, Instr.loadAt, Instr.sureAddr, Sem.run_bind, Sem.run_pure, Result.andThen_ok, run_loadVar_row w g t ty cs (0, 0) d hg hu hd hi]
  exact hK' _ _ h
theorem wpListIn_store_row (hgd : o.guard = none) (ty : TypeId) (x y : Operand) (ho : o.op = .store ty x y)
  (g : Nat) (cells : Array Value) (hx : a.eval x = .pointer (some ⟨g, 0, none⟩)) (hy : a.eval y = .agg cells)
  (t : TypeId) (old : Array Value) (hg : w.heap[g]? = some (.cells old t (0, 0))) (hi : (P.info? ty).map (·.size) = some cells.size)
  (hold : old.size = cells.size) (h1 : cells.all (·.oneCell') = true)
  (h : wpListIn F n P ops Q rest (a.put o.dst undef) (w.setRow g cells)) : wpListIn F n P ops Q (o :: rest) a w := by
 refine wpListIn_plain hgd fun K hK' => ?_
 unfold Oper.wpIn
 refine ⟨?_, ?_⟩
 ·simp [Oper.about, ho]
 ·rw [Oper.semAt_plain F _ _ (by rw [ho]; intro c hc'; cases hc')]
  unfold execOp
  simp only [ho, hx, hy, Instr.storeAt, Instr.sureAddr, Sem.run_bind, Sem.run_pure, Result.andThen_ok, run_storeVar_row w g t ty old cells hg hi hold h1]
  exact hK' _ _ h
end
theorem Blk.kept {W W' : World} {row : Option Nat} {g t : Nat} {c : Array Value} (h : Blk W g t c) (hg : W.grownBy W' row) (hr : ∀ r, row = some r → ∃ o : Obj, W.heap[r]? = some o ∧ o.isCells = false) : Blk W' g t c := by
 refine h.grown hg fun e => ?_
 obtain ⟨o, ho, hc⟩ := hr g e.symm
 unfold Blk at h
 rw [h] at ho
 injection ho with ho
 subst ho
 cases hc
theorem OrderAt.grown {w w' : World} {g : Nat} (h : OrderAt w) (hg : w.grownBy w' (some g)) (hne : g ≠ 0) : OrderAt w' :=
 ⟨Nat.lt_of_lt_of_le h.1 hg.size, fun j v hj => (hg.cell_far ⟨0, 0 + j, none⟩ h.1 (fun e => hne (by injection e with e; exact e.symm))).trans (h.2 j v hj)⟩
/-- The bits of a byte, from the highest one. -/
def bitv (j : Nat) : Nat := 128 / 2 ^ j
theorem bitv_eq {j : Nat} (h : j < 8) : bitv j = 2 ^ (7 - j) := by
 unfold bitv
 rw [show (128 : Nat) = 2 ^ 7 from rfl, Nat.pow_div (by omega) (by decide)]
theorem bitv_next (j : Nat) : bitv (j + 1) = bitv j / 2 := by unfold bitv; rw [Nat.pow_succ, Nat.div_div_eq_div_mul]
theorem bitv_pos {j : Nat} (h : j < 8) : 0 < bitv j := by rw [bitv_eq h]; exact Nat.two_pow_pos _
theorem and_bitv : ∀ d : Fin 256, ∀ j : Fin 8, (bits .and .u8 ((d.val : Nat) : Int) ((bitv j.val : Nat) : Int) != 0) = (d.val / 2 ^ (7 - j.val) % 2 == 1) := by decide +kernel
theorem limS_one (n : Nat) : (limS n).all (·.oneCell') = true := u64s_one _
theorem limS_info (n : Nat) : (Tryz.prog.info? 87).map (·.size) = some (limS n).size := su64s_info (digs_length _ _ _)
theorem grown_row (w : World) (g : Nat) (c : Array Value) : w.grownBy (w.setRow g c) (some g) :=
 ⟨rfl, rfl, rfl, by simp, fun k _ hk => setRow_other w g k c (fun e => hk (by rw [e]))⟩
theorem zeros4_lim (n : Nat) : zeros4 = limS (foldB n []) := by
 have e : foldB n [] = 0 := rfl
 rw [e]; rfl
/-- Between two rounds. -/
def STimesAt (n : Nat) (w : World) (pre : List (Nat × UInt8)) (W : World) : Prop :=
 (Blk W w.heap.size 87 (limS n) ∧ Blk W (w.heap.size + 1) 87 zeros4 ∧ Blk W (w.heap.size + 2) 87 (limS (foldB n pre)) ∧ w.heap.size + 3 < W.heap.size) ∧ Below w.heap.size w W
theorem times_own (n : Nat) (w : World) (B : Nat) (hB : w.heap.size ≤ B) : OwnFrom B (STimesAt n w) :=
 OwnFrom.and (Own.from (fun s X Y row hs hg hr => ⟨hs.1.kept hg hr, hs.2.1.kept hg hr, hs.2.2.1.kept hg hr, Nat.lt_of_lt_of_le hs.2.2.2 hg.size⟩) _) (ownFrom_below (Nat.le_refl _) hB)
set_option maxRecDepth 100000 in
set_option maxHeartbeats 4000000 in
theorem stimes_any (n : Nat) (hn : n < LL) (A : Option Addr) (len cap : Nat) (l : List UInt8) (hlen : l.length = len) (hmax : len ≤ 140737488351232) (w : World) (hr : Reads w w.heap.size 1 A len (Lib.byteCells l)) (hO : OrderAt w) :
  Calls Tryz.prog 48 #[.agg (limS n), .slice A len cap] w fun e w' => e = .returned (.agg (limS (n * bval l % LL))) ∧ Below w.heap.size w w' := by
 obtain ⟨cn, hcn⟩ : ∃ c, Hid (c = limS n) := ⟨_, hid rfl⟩
 rw [← hcn.out]
 refine (callsIn_wide (n := 5)).1 ?_
 refine callsIn_of_wp_marks Tryz.func48 rfl trivial ?_ rfl
 simp only [Tryz.ntmps48, List.size_toArray, List.length_cons, List.length_nil, Nat.reduceAdd, Nat.reduceSub, Array.replicate_succ, Array.replicate_zero, List.push_toArray, List.append_toArray, List.nil_append, List.cons_append]
 gi_wp2_with (refine ⟨trivial, ?_⟩; gi_at_call 43; refine (back_in Fence.wide _ trivial rfl _ _ _ _).mono ?_; rintro e w' ⟨rfl, rfl⟩)
 have b0 := ((Blk.new w 87 cn).alloc (.cells zeros4 87)).alloc (.cells zeros4 87)
 obtain ⟨b1, b2, b3, hb, hsz⟩ := sthree w cn zeros4 zeros4 87 87 87
 have b4 := Blk.new (((w.alloc (.cells cn 87)).alloc (.cells zeros4 87)).alloc (.cells zeros4 87)) 22 #[.slice A len cap]
 have hs3 : (((w.alloc (.cells cn 87)).alloc (.cells zeros4 87)).alloc (.cells zeros4 87)).heap.size = w.heap.size + 1 + 1 + 1 := by simp
 rw [hs3] at b4
 have hs4 : ((((w.alloc (.cells cn 87)).alloc (.cells zeros4 87)).alloc (.cells zeros4 87)).alloc (.cells #[.slice A len cap] 22)).heap.size = w.heap.size + 4 := by simp
 have hb4 : Below w.heap.size w ((((w.alloc (.cells cn 87)).alloc (.cells zeros4 87)).alloc (.cells zeros4 87)).alloc (.cells #[.slice A len cap] 22)) := hb.alloc (by simp; omega) _
 replace b1 := b1.alloc (.cells #[.slice A len cap] 22)
 replace b2 := b2.alloc (.cells #[.slice A len cap] 22)
 replace b3 := b3.alloc (.cells #[.slice A len cap] 22)
 generalize hW : ((((w.alloc (.cells cn 87)).alloc (.cells zeros4 87)).alloc (.cells zeros4 87)).alloc (.cells #[.slice A len cap] 22)) = W0 at *
 clear b0 hb hsz hs3 hW
 refine wpIn_rangeFunc_ownG rfl (by omega) (gf := 77) (lb := #[.pointer (some ⟨w.heap.size + 1 + 1 + 1, 0, none⟩)]) rfl trivial (enters_of Tryz.func77 (by kernel_rfl) rfl)
  (back_stops Fence.wide _ trivial rfl (by omega) (w.heap.size + 1 + 1 + 1) w.heap.size A len cap l hlen hmax W0 (by omega) (by omega) (b4.cell 0) (hr.below hb4)) (fun h k => h.trans k) (kpB_turn (by omega) (by omega)) (Below.refl _ _) (fun _ => rfl)
  (STimesAt n w) (fun _ _ _ => False) (times_own n w _ (by omega)) (fun _ _ _ _ _ hs _ _ => hs)
  ⟨⟨by rw [← hcn.out]; exact b1, b2, by rw [zeros4_lim n] at b3; exact b3, by omega⟩, hb4⟩
  (fun x => { tmps := #[.agg cn, .slice A len cap, .pointer (some ⟨w.heap.size, 0, none⟩), undef, .pointer (some ⟨w.heap.size + 1, 0, none⟩), .pointer (some ⟨w.heap.size + 1 + 1, 0, none⟩), undef, .int .u8 (x.2.toNat : Int), undef, .slice A len cap,
   .func (.func 77) #[] #[.pointer (some ⟨w.heap.size + 1 + 1 + 1, 0, none⟩)], .int .i64 (x.1 : Int), .int .u8 (x.2.toNat : Int), undef, undef, undef, undef, undef, undef, undef, undef, undef, undef, undef, undef, undef, undef, undef], defers := [] }) ?assign ?body ?done ?stop
 case assign =>
  intro l x W K hK
  gi_wp2
  exact hK
 case body =>
  rintro lp pre x W ⟨⟨bn, br, bs, hl3⟩, hB⟩ _
  have hOW := hid (hO.old hB)
  obtain ⟨s, hs⟩ : ∃ s, Hid (s = foldB n pre) := ⟨_, hid rfl⟩
  obtain ⟨d, hd⟩ : ∃ d, Hid (d = x.2.toNat) := ⟨_, hid rfl⟩
  have hsl : Hid (s < LL) := by rw [hs.out]; exact hid (foldB_lt _ _)
  have hdl : d < 256 := by rw [hd.out]; exact x.2.toNat_lt
  have hlast : Hid (w.heap.size + 1 + 1 + 1 < W.heap.size) := hid hl3
  rw [← hs.out] at bs
  rw [← hd.out]
  rw [← hcn.out] at bn
  have BN := hid bn
  have BR := hid br
  have BS := hid bs
  have HBW := hid hB
  clear bn br bs hB b1 b2 b3 b4 hb4
  gi_wp2
  gi_loopw [8] (fun bv wr => ∃ j, j ≤ 8 ∧ bv = .int .u8 ((bitv j : Nat) : Int) ∧ W.grownBy wr (some (w.heap.size + 2)) ∧ Blk wr (w.heap.size + 2) 87 (limS (bitS n s d j))) (fun bv _ => (intOf bv).toNat)
  case atStart => exact ⟨0, by omega, rfl, World.grownBy.refl _ _, by rw [bitS_zero n hsl.out hdl]; exact BS.out⟩
  case round =>
   obtain ⟨j, hj, rfl, hg, hbs⟩ := hrel
   obtain ⟨b, hb⟩ : ∃ b, Hid (b = bitv j) := ⟨_, hid rfl⟩
   rw [← hb.out]
   by_cases hlt : j < 8
   ·have hbp : 0 < b := by rw [hb.out]; exact bitv_pos hlt
    have hb0 : ((b : Int) != 0) = true := by simp; omega
    have hbl : b < 256 := by rw [hb.out, bitv_eq hlt]; exact Nat.lt_of_le_of_lt (Nat.pow_le_pow_right (by decide) (show 7 - j ≤ 7 by omega)) (by decide)
    obtain ⟨v, hv⟩ : ∃ v, Hid (v = bitS n s d j) := ⟨_, hid rfl⟩
    have hvl : v < LL := by rw [hv.out]; exact bitS_lt _ _ _ _
    obtain ⟨c1, hc1⟩ : ∃ c, Hid (c = limS v) := ⟨_, hid rfl⟩
    obtain ⟨c2, hc2⟩ : ∃ c, Hid (c = limS ((v + v) % LL)) := ⟨_, hid rfl⟩
    rw [← hv.out, ← hc1.out] at hbs
    have o1 : Hid ((Tryz.prog.info? 87).map (·.size) = some c1.size) := by rw [hc1.out]; exact hid (limS_info _)
    have o2 : Hid ((Tryz.prog.info? 87).map (·.size) = some c2.size) := by rw [hc2.out]; exact hid (limS_info _)
    have p2 : Hid (c2.all (·.oneCell') = true) := by rw [hc2.out]; exact hid (limS_one _)
    have z2 : Hid (c1.size = c2.size) := by rw [hc1.out, hc2.out, limS_size, limS_size]; exact hid rfl
    have B1 := hid hbs
    have hne : w.heap.size + 2 ≠ 0 := by have := hO.1; omega
    have O1 := hid (hOW.out.grown hg hne)
    have G1 := hid hg
    have CA1 : Hid (∀ V, OrderAt V → Calls Tryz.prog 49 #[.agg c1, .agg c1] V fun e w' => e = .returned (.agg c2) ∧ Below V.heap.size V w') := by
     rw [hc1.out, hc2.out]; exact hid fun V hV => sadd_any v v hvl hvl V hV
    clear hbs hg
    gi_wp2_with (refine wpListIn_load_row rfl 87 (.tmp 5) rfl (w.heap.size + 2) rfl 87 c1 _ B1.out Tryz.underlying87 rfl o1.out ?_)
    refine ⟨trivial, ?_⟩
    refine (CallsIn.inRound lp (callsIn_wide.2 (CA1.out _ O1.out))).mono ?_
    rintro e w2 ⟨rfl, hb2⟩
    have B2 := hid (B1.out.old hb2)
    have G2 := hid (G1.out.trans (grown_below hb2 (some (w.heap.size + 2))))
    have B3 := hid (B2.out.row c2)
    have G3 := hid (G2.out.trans (grown_row w2 (w.heap.size + 2) c2))
    clear hb2
    have hstep := bitS_step n s d j hlt
    rw [← hv.out] at hstep
    have hand := and_bitv ⟨d, hdl⟩ ⟨j, hlt⟩
    simp only [] at hand
    rw [← hb.out] at hand
    have hbn : ((b : Int) / 2) = ((bitv (j + 1) : Nat) : Int) := by rw [bitv_next, ← hb.out]; omega
    have HBN := hid hbn
    clear hbn
    rcases Nat.mod_two_eq_zero_or_one (d / 2 ^ (7 - j)) with ht | ht
    ·have hq : (bits .and .u8 (d : Int) (b : Int) != 0) = false := by rw [hand, ht]; rfl
     rw [ht] at hstep
     simp only [Nat.mul_zero, Nat.add_zero] at hstep
     have hfin : Hid (Blk (w2.setRow (w.heap.size + 2) c2) (w.heap.size + 2) 87 (limS (bitS n s d (j + 1)))) := by rw [hstep, ← hc2.out]; exact B3
     clear hand ht hstep
     gi_wp2_with (refine wpListIn_store_row rfl 87 (.tmp 5) (.tmp 19) rfl (w.heap.size + 2) c2 rfl rfl 87 _ B2.out o2.out z2.out p2.out ?_)
     refine ⟨⟨j + 1, by omega, by rw [HBN.out], G3.out, hfin.out⟩, ?_⟩
     simp [intOf]; omega
    ·have hq : (bits .and .u8 (d : Int) (b : Int) != 0) = true := by rw [hand, ht]; rfl
     rw [ht, Nat.mul_one] at hstep
     obtain ⟨v2, hv2⟩ : ∃ v2, Hid (v2 = (v + v) % LL) := ⟨_, hid rfl⟩
     have hv2l : v2 < LL := by rw [hv2.out]; exact Nat.mod_lt _ LL_pos
     obtain ⟨c3, hc3⟩ : ∃ c, Hid (c = limS ((v2 + n) % LL)) := ⟨_, hid rfl⟩
     have hst3 : Hid (c3 = limS (bitS n s d (j + 1))) := by rw [hc3.out, hstep, hv2.out, Nat.mod_add_mod]; exact hid rfl
     rw [← hv2.out] at hc2
     have o3 : Hid ((Tryz.prog.info? 87).map (·.size) = some c3.size) := by rw [hc3.out]; exact hid (limS_info _)
     have on : Hid ((Tryz.prog.info? 87).map (·.size) = some cn.size) := by rw [hcn.out]; exact hid (limS_info _)
     have p3 : Hid (c3.all (·.oneCell') = true) := by rw [hc3.out]; exact hid (limS_one _)
     have z3 : Hid (c2.size = c3.size) := by rw [hc2.out, hc3.out, limS_size, limS_size]; exact hid rfl
     have O3 := hid (hOW.out.grown G3.out hne)
     have BN3 := hid (BN.out.grown G3.out (fun e => by injection e with e; omega))
     have CA2 : Hid (∀ V, OrderAt V → Calls Tryz.prog 49 #[.agg c2, .agg cn] V fun e w' => e = .returned (.agg c3) ∧ Below V.heap.size V w') := by
      rw [hc2.out, hc3.out, hcn.out]; exact hid fun V hV => sadd_any v2 n hv2l hn V hV
     clear hand ht hstep
     gi_wp2_with (first | (refine wpListIn_store_row rfl 87 (.tmp 5) (.tmp 19) rfl (w.heap.size + 2) c2 rfl rfl 87 _ B2.out o2.out z2.out p2.out ?_) |
      (refine wpListIn_load_row rfl 87 (.tmp 5) rfl (w.heap.size + 2) rfl 87 c2 _ B3.out Tryz.underlying87 rfl o2.out ?_) |
      (refine wpListIn_load_row rfl 87 (.tmp 2) rfl w.heap.size rfl 87 cn _ BN3.out Tryz.underlying87 rfl on.out ?_))
     refine ⟨trivial, ?_⟩
     refine (CallsIn.inRound lp (callsIn_wide.2 (CA2.out _ O3.out))).mono ?_
     rintro e w4 ⟨rfl, hb4⟩
     have B4 := hid (B3.out.old hb4)
     have G4 := hid (G3.out.trans (grown_below hb4 (some (w.heap.size + 2))))
     have B5 := hid (B4.out.row c3)
     have G5 := hid (G4.out.trans (grown_row w4 (w.heap.size + 2) c3))
     clear hb4
     gi_wp2_with (refine wpListIn_store_row rfl 87 (.tmp 5) (.tmp 26) rfl (w.heap.size + 2) c3 rfl rfl 87 _ B4.out o3.out z3.out p3.out ?_)
     refine ⟨⟨j + 1, by omega, by rw [HBN.out], G5.out, by rw [← hst3.out]; exact B5.out⟩, ?_⟩
     simp [intOf]; omega
   ·obtain rfl : j = 8 := by omega
    have hb0 : b = 0 := by rw [hb.out]; rfl
    subst hb0
    have hfin : Hid (KeepsFrom W0.heap.size W wr ∧ KpB w.heap.size (w.heap.size + 1 + 1 + 1) W wr ∧ STimesAt n w (pre ++ [x]) wr) := by
     refine hid ⟨KeepsFrom.of_grownBy hg (fun k e => by injection e with e; omega), ⟨(Below.refl _ W).grown hg HBW.out.size (fun k e => by injection e with e; omega), World.cell?_of_block (hg.block _ ?_ (fun e => by injection e with e; simp at e))⟩, ⟨?_, ?_, ?_, Nat.lt_of_lt_of_le hlast.out hg.size⟩, HBW.out.grown hg HBW.out.size (fun k e => by injection e with e; omega)⟩
     ·exact hlast.out
     ·rw [← hcn.out]; exact BN.out.grown hg (fun e => by injection e with e; omega)
     ·exact BR.out.grown hg (fun e => by injection e with e; omega)
     ·rw [foldB_snoc, ← hs.out, ← hd.out, ← bitS_eight]; exact hbs
    clear hg hbs
    gi_wp2
    exact hfin.out
 case done =>
  rintro D ys W hD rfl ⟨⟨bn, br, bs, hl3⟩, hB⟩ hK
  obtain ⟨R, hR⟩ : ∃ R, Hid (R = limS (n * bval l % LL)) := ⟨_, hid rfl⟩
  rw [foldB_backs n l len (by omega), hlen, Nat.sub_self, List.drop_zero, ← hR.out] at bs
  have BR := hid br
  have BS := hid bs
  have oR : Hid ((Tryz.prog.info? 87).map (·.size) = some R.size) := by rw [hR.out]; exact hid (limS_info _)
  have pR : Hid (R.all (·.oneCell') = true) := by rw [hR.out]; exact hid (limS_one _)
  have zR : Hid (zeros4.size = R.size) := by rw [hR.out, limS_size]; exact hid rfl
  have hK' : Hid ((W.setRow (w.heap.size + 1) R).heap[D]? = some (.deferred (some []))) := hid ((setRow_other W (w.heap.size + 1) D R (by omega)).trans hK)
  have HB := hid (below_row hB (show w.heap.size ≤ w.heap.size + 1 by omega) R)
  clear bn br bs hB hK
  gi_wp2_with (first | (refine wpListIn_load_row rfl 87 (.tmp 5) rfl (w.heap.size + 2) rfl 87 R _ BS.out Tryz.underlying87 rfl oR.out ?_) |
   (refine wpListIn_store_row rfl 87 (.tmp 4) (.tmp 27) rfl (w.heap.size + 1) R rfl rfl 87 _ BR.out oR.out zR.out pR.out ?_))
  refine ⟨by simp, .inl ⟨_, _, rfl, run_takeDeferred hK'.out, ?_⟩⟩
  have hB5 := (BR.out.row R).kept (grownBy_putObj' _ D (.deferred none)) (fun r e => by cases e; exact ⟨_, hK'.out, rfl⟩)
  refine ⟨.agg R, results_cell_row Tryz.results48 _ _ (w.heap.size + 1) 87 R (0, 0) _ rfl hB5 Tryz.underlying87 rfl oR.out, by rw [hR.out], ?_⟩
  exact HB.out.trans (belowK_b (w := w) (Nat.le_refl _) _ D _ _ (by omega) hK'.out rfl rfl)
 case stop =>
  rintro D c pre W _ _ h _
  exact h.elim
end Go.Proofs.YtcfogpeinjehbaaGreatDoor
end

section
namespace Go.Proofs.YtcfogpeinjehbaaGreatDoor
open Go Go.Proofs Go.RowKit Go.Shelf F5
attribute [local go_sem] Oper.semAt_some
theorem quiet_shr {o : Oper} {ev : Operand → Value} {V : World} (x : Operand) (U : TypeId) (d : Nat) (hd : d < 256) (hx : ev x = .int .u8 (d : Int)) (ho : o.op = .binOp .shr 5 x (.const (.int .u64 4)) U) (hc : ev (.const (.int .u64 4)) = .int .u64 4) : (execOp ev o).run Tryz.prog V = .ok (.value (.int .u8 ((d / 16 : Nat) : Int))) V := by
 unfold execOp
 simp only [ho, hx, hc]
 go_simp
theorem quiet_rem {o : Oper} {ev : Operand → Value} {V : World} (x : Operand) (U : TypeId) (d : Nat) (hd : d < 256) (hx : ev x = .int .u8 (d : Int)) (ho : o.op = .binOp .rem 5 x (.const (.int .u8 16)) U) (hc : ev (.const (.int .u8 16)) = .int .u8 16) : (execOp ev o).run Tryz.prog V = .ok (.value (.int .u8 ((d % 16 : Nat) : Int))) V := by
 unfold execOp
 simp only [ho, hx, hc]
 go_simp
 rw [Int.tmod_eq_emod_of_nonneg (by omega)]
/-- The number of the bytes, read from the last one on. -/
def foldQ (pre : List (Nat × UInt8)) : Nat := pre.foldl (fun s x => 256 * s + x.2.toNat) 0
theorem foldQ_snoc (pre : List (Nat × UInt8)) (x : Nat × UInt8) : foldQ (pre ++ [x]) = 256 * foldQ pre + x.2.toNat := by simp [foldQ]
theorem foldQ_backs (l : List UInt8) : ∀ k, k ≤ l.length → foldQ (backs l k) = bval (l.drop (l.length - k))
 | 0, _ => by simp [backs, foldQ, bval, val]
 | k + 1, h => by
  rw [backs_succ, foldQ_snoc, foldQ_backs l k (by omega)]
  obtain ⟨m, hm⟩ : ∃ m, m = l.length - 1 - k := ⟨_, rfl⟩
  have hml : m < l.length := by omega
  rw [show l.length - (k + 1) = m by omega, show l.length - k = m + 1 by omega, ← hm]
  have e1 : l.drop m = l[m] :: l.drop (m + 1) := List.drop_eq_getElem_cons hml
  rw [e1]
  show _ = l[m].toNat + 256 * bval (l.drop (m + 1))
  rw [List.getD_eq_getElem?_getD, List.getElem?_eq_getElem hml, Nat.add_comm]; rfl
theorem nib {N d : Nat} : 16 * (16 * N + d / 16) + d % 16 = 256 * N + d := by omega
/-- Between two rounds. -/
def RoundAt (p : Pt) (w : World) (z fw : Array Value) (g5 g6 gB : Nat) (pre : List (Nat × UInt8)) (W : World) : Prop :=
 (Blk W (w.heap.size + 2) 46 z ∧ Blk W g5 80 fw ∧ (∃ s, PU (pmul (foldQ pre) p) s ∧ Blk W g6 46 s) ∧ gB < W.heap.size) ∧ Below w.heap.size w W
theorem round_own (p : Pt) (w : World) (z fw : Array Value) (g5 g6 gB B : Nat) (hB : w.heap.size ≤ B) : OwnFrom B (RoundAt p w z fw g5 g6 gB) :=
 OwnFrom.and (Own.from (fun pre X Y row hs hg hr => ⟨hs.1.kept hg hr, hs.2.1.kept hg hr, (let ⟨s, h1, h2⟩ := hs.2.2.1; ⟨s, h1, h2.kept hg hr⟩), Nat.lt_of_lt_of_le hs.2.2.2 hg.size⟩) _) (ownFrom_below (Nat.le_refl _) hB)
set_option maxRecDepth 100000 in
set_option maxHeartbeats 8000000 in
theorem timesPU {p : Pt} {A : Array Value} (hp : PU p A) (v : Nat) (hv : v < 2 ^ 256) (w : World) (hP : PrimeAt w) :
  Calls Tryz.prog 16 #[.agg A, .agg (bytesA (fbytes v))] w fun e w' => ∃ o, e = .returned (.agg o) ∧ PU (pmul v p) o ∧ Below w.heap.size w w' := by
 have HA := hid hp
 have oA := hid hp.ok
 have HP := hid hP
 have HV := hid hv
 obtain ⟨nb, hnb⟩ : ∃ c, Hid (c = bytesA (fbytes v)) := ⟨_, hid rfl⟩
 obtain ⟨z, hz⟩ : ∃ z, Hid (z = uV 0 0 0) := ⟨_, hid rfl⟩
 have hz0 : ∀ W, (zeroValue 46).run Tryz.prog W = .ok (.agg z) W := by rw [hz.out]; exact zeroU
 have ok : Hid (∀ {q : Pt} {b : Array Value}, PU q b → (Tryz.prog.info? 46).map (·.size) = some b.size ∧ b.all (·.oneCell') = true ∧ z.size = b.size) := by rw [hz.out]; exact hid PU.ok
 obtain ⟨zf, hzf⟩ : ∃ z : Array Value, Hid (z = Array.replicate 192 (.int .u64 0)) := ⟨_, hid rfl⟩
 have hzf0 : ∀ W, (zeroValue 80).run Tryz.prog W = .ok (.agg zf) W := by rw [hzf.out]; exact zero16P
 have zfs : Hid (zf.size = 192) := hid (by rw [hzf.out]; simp)
 obtain ⟨b1, b2, b3, hb⟩ := three_blksT w A nb z 46 24 46
 rw [← hnb.out]
 clear hz hzf hp hP hv
 refine (callsIn_wide (n := 5)).1 ?_
 refine callsIn_of_wp_marks Tryz.func16 rfl trivial ?_ rfl
 simp only [Tryz.ntmps16, List.size_toArray, List.length_cons, List.length_nil, Nat.reduceAdd, Nat.reduceSub, Array.replicate_succ, Array.replicate_zero, List.push_toArray, List.append_toArray, List.nil_append, List.cons_append]
 gi_upto_region 1 with fail
 generalize ((w.alloc (.cells A 46)).alloc (.cells nb 24)).alloc (.cells z 46) = W at *
 have P1 := hid b1
 have NB := hid b2
 have XR := hid b3
 have HB := hid hb
 clear b1 b2 b3 hb
 gi_upto_region 2 with (refine wpListIn_load_row rfl 46 (.tmp 2) rfl w.heap.size rfl 46 A _ P1.out Tryz.underlying46 rfl oA.out.1 ?_)
 refine ⟨trivial, ?_⟩
 refine (callsIn_wide.2 (fewPU HA.out W (HP.out.old HB.out))).mono ?_
 rintro e w1 ⟨fw, rfl, hfw, hb1⟩
 have oF := hid hfw.info
 have sF : Hid (zf.size = fw.size) := hid (by rw [zfs.out, hfw.1])
 have HFW := hid hfw
 have L5 := hid (show w.heap.size + 2 < w1.heap.size from Nat.lt_of_lt_of_le XR.out.lt hb1.size)
 have NB := hid ((NB.out.old hb1).alloc (.cells fw 80))
 have XR := hid ((XR.out.old hb1).alloc (.cells fw 80))
 have HB := hid ((HB.out.trans (hb1.mono HB.out.size)).alloc (HB.out.trans (hb1.mono HB.out.size)).size (.cells fw 80))
 have FW := hid (Blk.new w1 80 fw)
 clear hfw hb1 P1
 gi_upto_region 2 with (refine wpListIn_store_row rfl 80 (.tmp 5) (.tmp 10) rfl w1.heap.size fw rfl rfl 80 zf (heap_alloc_new w1 _) oF.out.1 sF.out oF.out.2 ?_; rw [setRow_alloc1])
 generalize w1.alloc (.cells fw 80) = W1 at *
 generalize w1.heap.size = g5 at *
 gi_upto_region 3 with fail
 refine ⟨trivial, ?_⟩
 refine (callsIn_wide.2 (zeroPU W1)).mono ?_
 rintro e w2 ⟨s0, rfl, hs0, hb1⟩
 have oS := hid (ok.out hs0)
 have HS := hid hs0
 have L6 := hid (show g5 < w2.heap.size from Nat.lt_of_lt_of_le FW.out.lt hb1.size)
 have NB := hid ((NB.out.old hb1).alloc (.cells s0 46))
 have XR := hid ((XR.out.old hb1).alloc (.cells s0 46))
 have FW := hid ((FW.out.old hb1).alloc (.cells s0 46))
 have HB := hid ((HB.out.trans (hb1.mono HB.out.size)).alloc (HB.out.trans (hb1.mono HB.out.size)).size (.cells s0 46))
 have SM := hid (Blk.new w2 46 s0)
 clear hs0 hb1
 gi_upto_region 3 with (refine wpListIn_store_row rfl 46 (.tmp 6) (.tmp 11) rfl w2.heap.size s0 rfl rfl 46 z (heap_alloc_new w2 _) oS.out.1 oS.out.2.2 oS.out.2.1 ?_; rw [setRow_alloc1])
 generalize w2.alloc (.cells s0 46) = W2 at *
 generalize w2.heap.size = g6 at *
 have hsl := slice32 (w.heap.size + 1)
 have hr2 : Hid (Reads W2 g6 1 (some ⟨w.heap.size + 1, 0, none⟩) 32 (Lib.byteCells (fbytes v))) := hid (by
  have := NB.out
  rw [hnb.out] at this
  have := reads_blk this
  rw [fbytes_length] at this
  refine ⟨this.1, fun h => ?_⟩
  obtain ⟨ad, h1, h2, h3⟩ := this.2 h
  exact ⟨ad, h1, by cases h1; have := L5.out; have := L6.out; show w.heap.size + 1 < g6; omega, h3⟩)
 have hW3 : (W2.alloc (.cells #[.slice (some ⟨w.heap.size + 1, 0, none⟩) 32 32] 22)).heap.size = W2.heap.size + 1 := by simp
 have hb4 : Below W2.heap.size W2 (W2.alloc (.cells #[.slice (some ⟨w.heap.size + 1, 0, none⟩) 32 32] 22)) := (Below.refl _ _).alloc (Nat.le_refl _) _
 have c4 := Blk.new W2 22 #[.slice (some ⟨w.heap.size + 1, 0, none⟩) 32 32]
 have XR := hid (XR.out.old hb4)
 have FW := hid (FW.out.old hb4)
 have gl6 : g6 < W2.heap.size := SM.out.lt
 have SM := hid (SM.out.old hb4)
 have HB := hid (HB.out.trans (hb4.mono HB.out.size))
 have hr3 := hid (hr2.out.below (hb4.mono (Nat.le_of_lt gl6)))
 gi_wp2_with (refine ⟨trivial, ?_⟩; gi_at_call 43; refine (back_in Fence.wide _ trivial rfl _ _ _ _).mono ?_; rintro e w' ⟨rfl, rfl⟩)
 generalize W2.alloc (.cells #[.slice (some ⟨w.heap.size + 1, 0, none⟩) 32 32] 22) = W3 at *
 generalize W2.heap.size = gB at *
 clear hb4 hr2
 have GT := hid (show g6 < W3.heap.size by omega)
 refine wpIn_rangeFunc_ownG rfl (by omega) (gf := 77) (lb := #[.pointer (some ⟨gB, 0, none⟩)]) rfl trivial (enters_of Tryz.func77 (by kernel_rfl) rfl)
  (back_stops Fence.wide _ trivial rfl (by omega) gB g6 (some ⟨w.heap.size + 1, 0, none⟩) 32 32 (fbytes v) (fbytes_length v) (by omega) W3 (by omega) (by omega) (c4.cell 0) hr3.out) (fun h k => h.trans k) (kpB_turn (by omega) (by omega)) (Below.refl _ _) (fun _ => rfl)
  (RoundAt p w z fw g5 g6 gB) (fun _ _ _ => False) (round_own p w z fw g5 g6 gB _ HB.out.size) (fun _ _ _ _ _ hs _ _ => hs)
  ⟨⟨XR.out, FW.out, ⟨s0, HS.out, SM.out⟩, by omega⟩, HB.out⟩
  (fun x => { tmps := #[.agg A, .agg nb, .pointer (some ⟨w.heap.size, 0, none⟩), .pointer (some ⟨w.heap.size + 1, 0, none⟩), .pointer (some ⟨w.heap.size + 1 + 1, 0, none⟩), .pointer (some ⟨g5, 0, none⟩), .pointer (some ⟨g6, 0, none⟩), undef, .int .u8 (x.2.toNat : Int), .agg A, .agg fw, .agg s0, .slice (some ⟨w.heap.size + 1, 0, none⟩) 32 32, .func (.func 77) #[] #[.pointer (some ⟨gB, 0, none⟩)], .int .i64 (x.1 : Int), .int .u8 (x.2.toNat : Int), undef, undef, undef, undef, undef, undef, undef, undef, undef, undef, undef, undef, undef, undef, undef], defers := [] }) ?assign ?body ?done ?stop
 case assign =>
  intro l x W K hK
  gi_wp2
  exact hK
 case body =>
  rintro lp pre x W ⟨⟨bz, bf, ⟨s, hs, bs⟩, hgB⟩, hB⟩ _
  obtain ⟨d, hd⟩ : ∃ d, Hid (d = x.2.toNat) := ⟨_, hid rfl⟩
  have hdl : d < 256 := by rw [hd.out]; exact x.2.toNat_lt
  obtain ⟨N, hN⟩ : ∃ N, Hid (N = foldQ pre) := ⟨_, hid rfl⟩
  rw [← hd.out]
  rw [← hN.out] at hs
  have hhi : d / 16 < 16 := by omega
  have hlo : d % 16 < 16 := Nat.mod_lt _ (by decide)
  obtain ⟨xh, hxh, hch⟩ := HFW.out.2.2 (d / 16) (by omega)
  obtain ⟨xl, hxl, hcl⟩ := HFW.out.2.2 (d % 16) (by omega)
  obtain ⟨s1, hs1, cs1⟩ := doubledDet hs 4 (by omega)
  obtain ⟨s2, hs2, cs2⟩ := addDet hs1 hxh
  obtain ⟨s3, hs3, cs3⟩ := doubledDet hs2 4 (by omega)
  obtain ⟨s4, hs4, cs4⟩ := addDet hs3 hxl
  have C1 : Hid (∀ V, PrimeAt V → Calls Tryz.prog 44 #[.agg s, .int .i64 4] V fun e w' => e = .returned (.agg s1) ∧ Below V.heap.size V w') := hid cs1
  have C2 := hid cs2
  have C3 : Hid (∀ V, PrimeAt V → Calls Tryz.prog 44 #[.agg s2, .int .i64 4] V fun e w' => e = .returned (.agg s3) ∧ Below V.heap.size V w') := hid cs3
  have C4 := hid cs4
  have oS := hid (ok.out hs)
  have oH := hid (ok.out hxh)
  have oL := hid (ok.out hxl)
  have o2 := hid (ok.out hs2)
  have o4 := hid (ok.out hs4)
  have z2 : Hid (s.size = s2.size) := hid (oS.out.2.2.symm.trans o2.out.2.2)
  have z4 : Hid (s2.size = s4.size) := hid (o2.out.2.2.symm.trans o4.out.2.2)
  have HP4 : Hid (PU (pmul (foldQ (pre ++ [x])) p) s4) := hid (by
   rw [foldQ_snoc, ← hN.out, ← hd.out, ← nib (N := N) (d := d), pmul_add, Nat.mul_comm 16 (16 * N + d / 16), pmul_mul, pmul_add, Nat.mul_comm 16 N, pmul_mul]
   exact hs4)
  have HCH := hid hch
  have HCL := hid hcl
  have FW := hid bf
  have XZ := hid bz
  have SM := hid bs
  have HB := hid hB
  have GB := hid hgB
  clear bz bf bs hB hgB hs hs1 hs2 hs3 hs4 hxh hxl hch hcl cs1 cs2 cs3 cs4 hr3 c4 hW3
  gi_upto_region 5 with fail
  (try simp only [Act.put, zA, zB, zC])
  have PV : Hid (∀ V, Below W.heap.size W V → PrimeAt V) := hid fun V hV => HP.out.old (HB.out.trans (hV.mono HB.out.size))
  have DD21 : Hid (∀ V, Below W.heap.size W V → Below W.heap.size W V) := hid fun _ h => h
  refine wp_schedIn [(16, .is (.agg s)), (17, .is (.agg s1)), (18, .is (.int .u8 (d : Int))), (19, .is (.int .u8 ((d / 16 : Nat) : Int))), (20, .is (.pointer (some ⟨g5, 12 * (d / 16), none⟩))), (21, .is (.agg xh)), (22, .is (.agg s2))] (fun V => Below W.heap.size W V) (by kernel_rfl) (by kernel_rfl) (by kernel_rfl) (by kernel_rfl) (by kernel_rfl) DD21.out ?hg21 _ (by rfl) ?hf21
  case hg21 =>
   refine goods_is (fun a V h hS K Q hK => op_quiet (quiet_load_row 46 (.tmp 6) _ (look_at h 6) 46 s _ (SM.out.old hS) Tryz.underlying46 rfl oS.out.1 (by kernel_rfl)) hK) ?_
   refine goods_is (fun a V h hS K Q hK => op_callK #[.tmp 16, .const (.int .i64 4)] #[.agg s, .int .i64 4] (map2 (look_at h 16) rfl) (C1.out V (PV.out V hS)) hK) ?_
   refine goods_is (fun a V h hS K Q hK => op_quiet (quiet_move (.tmp 8) (look_at h 8) (.inl (by kernel_rfl))) hK) ?_
   refine goods_is (fun a V h hS K Q hK => op_quiet (quiet_shr (.tmp 18) 86 d hdl (look_at h 18) (by kernel_rfl) rfl) hK) ?_
   refine goods_is (fun a V h hS K Q hK => op_quiet (quiet_index _ (.tmp 5) (.tmp 19) _ _ _ (look_at h 5) (look_at h 19) (ix16b g5 _ hhi) (by kernel_rfl)) hK) ?_
   refine goods_is (fun a V h hS K Q hK => op_quiet (quiet_load_off 46 (.tmp 20) _ _ (look_at h 20) xh _ (fun j v hj => ((FW.out.old hS).cell _).trans (HCH.out j v hj)) Tryz.underlying46 rfl oH.out.1 (by kernel_rfl)) hK) ?_
   refine goods_is (fun a V h hS K Q hK => op_callK #[.tmp 17, .tmp 21] #[.agg s1, .agg xh] (map2 (look_at h 17) (look_at h 21)) (C2.out V (PV.out V hS)) hK) ?_
   exact goods_nil
  case hf21 =>
  intro g V hF
  have hbf := hF.below
  clear hF
  simp only [finL, Pl.val, zA, zB, zC]
  have SV := hid (SM.out.old hbf)
  have FN := hid ((FW.out.old hbf).rowFar (Nat.ne_of_lt L6.out) s2)
  have ZN := hid ((XZ.out.old hbf).rowFar (show w.heap.size + 2 ≠ g6 by have := L5.out; have := L6.out; omega) s2)
  have SN := hid (SV.out.row s2)
  have GN := hid ((grown_below hbf (some g6)).trans (grown_row V g6 s2))
  have HN2 := hid (below_row (g := g6) (HB.out.trans (hbf.mono HB.out.size)) (show w.heap.size ≤ g6 by have := L5.out; have := L6.out; omega) s2)
  clear hbf PV DD21
  refine wpListIn_store_row rfl 46 (.tmp 6) (.tmp 22) rfl g6 s2 rfl rfl 46 s SV.out o2.out.1 z2.out o2.out.2.1 ?_
  generalize V.setRow g6 s2 = W4 at *
  gi_upto_region 6 with fail
  (try simp only [Act.put, zA, zB, zC])
  have PV : Hid (∀ V, Below W4.heap.size W4 V → PrimeAt V) := hid fun V hV => HP.out.old (HN2.out.trans (hV.mono HN2.out.size))
  have DD22 : Hid (∀ V, Below W4.heap.size W4 V → Below W4.heap.size W4 V) := hid fun _ h => h
  refine wp_schedIn [(23, .is (.agg s2)), (24, .is (.agg s3)), (25, .is (.int .u8 (d : Int))), (26, .is (.int .u8 ((d % 16 : Nat) : Int))), (27, .is (.pointer (some ⟨g5, 12 * (d % 16), none⟩))), (28, .is (.agg xl)), (29, .is (.agg s4))] (fun V => Below W4.heap.size W4 V) (by kernel_rfl) (by kernel_rfl) (by kernel_rfl) (by kernel_rfl) (by kernel_rfl) DD22.out ?hg22 _ (by rfl) ?hf22
  case hg22 =>
   refine goods_is (fun a V h hS K Q hK => op_quiet (quiet_load_row 46 (.tmp 6) _ (look_at h 6) 46 s2 _ (SN.out.old hS) Tryz.underlying46 rfl o2.out.1 (by kernel_rfl)) hK) ?_
   refine goods_is (fun a V h hS K Q hK => op_callK #[.tmp 23, .const (.int .i64 4)] #[.agg s2, .int .i64 4] (map2 (look_at h 23) rfl) (C3.out V (PV.out V hS)) hK) ?_
   refine goods_is (fun a V h hS K Q hK => op_quiet (quiet_move (.tmp 8) (look_at h 8) (.inl (by kernel_rfl))) hK) ?_
   refine goods_is (fun a V h hS K Q hK => op_quiet (quiet_rem (.tmp 25) 5 d hdl (look_at h 25) (by kernel_rfl) rfl) hK) ?_
   refine goods_is (fun a V h hS K Q hK => op_quiet (quiet_index _ (.tmp 5) (.tmp 26) _ _ _ (look_at h 5) (look_at h 26) (ix16b g5 _ hlo) (by kernel_rfl)) hK) ?_
   refine goods_is (fun a V h hS K Q hK => op_quiet (quiet_load_off 46 (.tmp 27) _ _ (look_at h 27) xl _ (fun j v hj => ((FN.out.old hS).cell _).trans (HCL.out j v hj)) Tryz.underlying46 rfl oL.out.1 (by kernel_rfl)) hK) ?_
   refine goods_is (fun a V h hS K Q hK => op_callK #[.tmp 24, .tmp 28] #[.agg s3, .agg xl] (map2 (look_at h 24) (look_at h 28)) (C4.out V (PV.out V hS)) hK) ?_
   exact goods_nil
  case hf22 =>
  intro g V hF
  have hbf := hF.below
  clear hF
  simp only [finL, Pl.val, zA, zB, zC]
  have SV2 := hid (SN.out.old hbf)
  have FN2 := hid ((FN.out.old hbf).rowFar (Nat.ne_of_lt L6.out) s4)
  have ZN2 := hid ((ZN.out.old hbf).rowFar (show w.heap.size + 2 ≠ g6 by have := L5.out; have := L6.out; omega) s4)
  have SN2 := hid (SV2.out.row s4)
  have GN2 := hid (GN.out.trans ((grown_below hbf (some g6)).trans (grown_row V g6 s4)))
  have HN3 := hid (below_row (g := g6) (HN2.out.trans (hbf.mono HN2.out.size)) (show w.heap.size ≤ g6 by have := L5.out; have := L6.out; omega) s4)
  clear hbf PV DD22
  refine wpListIn_store_row rfl 46 (.tmp 6) (.tmp 29) rfl g6 s4 rfl rfl 46 s2 SV2.out o4.out.1 z4.out o4.out.2.1 ?_
  have hfin : Hid (KeepsFrom W3.heap.size W (V.setRow g6 s4) ∧ KpB g6 gB W (V.setRow g6 s4) ∧ RoundAt p w z fw g5 g6 gB (pre ++ [x]) (V.setRow g6 s4)) := by
   have hlt3 : g6 < W3.heap.size := GT.out
   refine hid ⟨KeepsFrom.of_grownBy GN2.out (fun k e => by injection e with e; omega), ⟨?_, World.cell?_of_block (GN2.out.block _ GB.out (fun e => by injection e with e; exact absurd e (Nat.ne_of_gt gl6)))⟩, ⟨ZN2.out, FN2.out, ⟨s4, HP4.out, SN2.out⟩, Nat.lt_of_lt_of_le GB.out GN2.out.size⟩, HN3.out⟩
   have hgW : g6 ≤ W.heap.size := Nat.le_of_lt SM.out.lt
   exact (Below.refl g6 W).grown GN2.out hgW (fun k e => by injection e with e; omega)
  generalize V.setRow g6 s4 = W5 at *
  gi_wp2
  exact hfin.out
 case done =>
  rintro D ys W hD rfl ⟨⟨bz, bf, ⟨s, hs, bs⟩, hgB⟩, hB⟩ hK
  rw [foldQ_backs _ 32 (by rw [fbytes_length]; exact Nat.le_refl _), fbytes_length, Nat.sub_self, List.drop_zero, bval_fbytes HV.out] at hs
  have oR := hid (ok.out hs)
  have HS := hid hs
  have BZ := hid bz
  have BS := hid bs
  have hD2 : w.heap.size + 2 < D := by have := GT.out; have := L5.out; have := L6.out; omega
  have hK' : Hid ((W.setRow (w.heap.size + 2) s).heap[D]? = some (.deferred (some []))) := hid ((setRow_other W (w.heap.size + 2) D s (by omega)).trans hK)
  have HB := hid (below_row (g := w.heap.size + 2) hB (by omega) s)
  clear bz bf bs hB hK hs hr3 c4 hW3
  gi_wp2_with (first | (refine wpListIn_load_row rfl 46 (.tmp 6) rfl g6 rfl 46 s _ BS.out Tryz.underlying46 rfl oR.out.1 ?_) |
   (refine wpListIn_store_row rfl 46 (.tmp 4) (.tmp 30) rfl (w.heap.size + 2) s rfl rfl 46 _ BZ.out oR.out.1 oR.out.2.2 oR.out.2.1 ?_))
  refine ⟨by simp, .inl ⟨_, _, rfl, run_takeDeferred hK'.out, ?_⟩⟩
  have hB5 := (BZ.out.row s).kept (grownBy_putObj' _ D (.deferred none)) (fun r e => by cases e; exact ⟨_, hK'.out, rfl⟩)
  refine ⟨.agg s, results_cell_row Tryz.results16 _ _ (w.heap.size + 2) 46 s (0, 0) _ rfl hB5 Tryz.underlying46 rfl oR.out.1, s, rfl, HS.out, ?_⟩
  exact HB.out.trans (belowK_b (w := w) (Nat.le_refl _) _ D _ _ (by omega) hK'.out rfl rfl)
 case stop =>
  rintro D c pre W _ _ h _
  exact h.elim
end Go.Proofs.YtcfogpeinjehbaaGreatDoor
end

section
namespace Go.Proofs.YtcfogpeinjehbaaGreatDoor
open Go Go.Proofs Go.RowKit F5
set_option maxHeartbeats 1000000 in
set_option maxRecDepth 100000 in
theorem getShortPU (A : Option Addr) (n c : Nat) (hn : n < 32) (w : World) :
  Calls Tryz.prog 26 #[.slice A n c] w fun e w' => e = .returned (.tuple #[.agg (uV 0 0 0), .int .i64 2]) ∧ Below w.heap.size w w' := by
 have hd : decide (n < 32) = true := by simpa using hn
 obtain ⟨z, hz⟩ : ∃ z, Hid (z = uV 0 0 0) := ⟨_, hid rfl⟩
 have hz0 : ∀ W, (zeroValue 46).run Tryz.prog W = .ok (.agg z) W := by rw [hz.out]; exact zeroU
 have hBN : Hid (Tryz.prog.built 46 [] = some z) := by rw [hz.out]; exact hid built_nilU
 have oz : Hid ((Tryz.prog.info? 46).map (·.size) = some z.size ∧ z.all (·.oneCell') = true) := by rw [hz.out]; exact hid ⟨uV_info _ _ _, uV_one _ _ _⟩
 rw [← hz.out]
 have b1 := hid (Blk.new w 46 z)
 have hb := hid (below_row (g := w.heap.size) ((Below.refl w.heap.size w).alloc (Nat.le_refl _) (.cells z 46)) (Nat.le_refl _) z)
 go_enter Tryz.func26, Tryz.ntmps26
 go_wp2_with (first | (refine wpList_build_to rfl 46 #[] rfl [] (by simp [Act.eval]) z hBN.out ?_) | (refine wpList_store_row rfl 46 (.tmp 2) (.tmp 13) rfl w.heap.size z rfl rfl 46 z b1.out oz.out.1 rfl oz.out.2 ?_))
 refine bodyPost_ret (v := .tuple #[.agg z, .int .i64 2]) ?_ rfl ⟨rfl, hb.out⟩
 exact results_row_tmp1 Tryz.results26 _ _ w.heap.size 46 _ _ _ rfl rfl (b1.out.row z) Tryz.underlying46 oz.out.1
set_option maxHeartbeats 1000000 in
set_option maxRecDepth 100000 in
theorem getLongPU (A : Option Addr) (n c : Nat) (hn : 32 < n) (w : World) :
  Calls Tryz.prog 26 #[.slice A n c] w fun e w' => e = .returned (.tuple #[.agg (uV 0 0 0), .int .i64 4]) ∧ Below w.heap.size w w' := by
 have hd : decide (n < 32) = false := by simp; omega
 have hd2 : decide (32 < n) = true := by simpa using hn
 obtain ⟨z, hz⟩ : ∃ z, Hid (z = uV 0 0 0) := ⟨_, hid rfl⟩
 have hz0 : ∀ W, (zeroValue 46).run Tryz.prog W = .ok (.agg z) W := by rw [hz.out]; exact zeroU
 have hBN : Hid (Tryz.prog.built 46 [] = some z) := by rw [hz.out]; exact hid built_nilU
 have oz : Hid ((Tryz.prog.info? 46).map (·.size) = some z.size ∧ z.all (·.oneCell') = true) := by rw [hz.out]; exact hid ⟨uV_info _ _ _, uV_one _ _ _⟩
 rw [← hz.out]
 have b1 := hid (Blk.new w 46 z)
 have hb := hid (below_row (g := w.heap.size) ((Below.refl w.heap.size w).alloc (Nat.le_refl _) (.cells z 46)) (Nat.le_refl _) z)
 go_enter Tryz.func26, Tryz.ntmps26
 go_wp2_with (first | (refine wpList_build_to rfl 46 #[] rfl [] (by simp [Act.eval]) z hBN.out ?_) | (refine wpList_store_row rfl 46 (.tmp 2) (.tmp 17) rfl w.heap.size z rfl rfl 46 z b1.out oz.out.1 rfl oz.out.2 ?_))
 refine bodyPost_ret (v := .tuple #[.agg z, .int .i64 4]) ?_ rfl ⟨rfl, hb.out⟩
 exact results_row_tmp1 Tryz.results26 _ _ w.heap.size 46 _ _ _ rfl rfl (b1.out.row z) Tryz.underlying46 oz.out.1
theorem ptOk {Q : World → Prop} (old : ∀ {w w' : World}, Q w → Below w.heap.size w w' → Q w') (hP : ∀ w, Q w → PrimeAt w) (hT : ∀ w, Q w → TurnAt w) : PtOk Q PU (uV 0 0 0) where
 old := old
 zero_run := zeroU
 ok := PU.ok
 okz := ⟨uV_info _ _ _, uV_one _ _ _⟩
 bytes w hp hQ := bytesPU hp w (hP w hQ)
 get v ad n w hv hr hn hm hQ := get32PU v ad n w hv hr hn hm (hP w hQ) (hT w hQ)
 other l A n c w hne _ _ _ _ _ := by
  obtain ⟨h1, h2, h3⟩ := uV_ok 0 0 0
  by_cases h : n < 32
  ·refine (getShortPU A n c h w).mono ?_
   rintro e w' ⟨rfl, hb⟩
   exact ⟨_, by rw [if_pos h], h1, h2, h3, hb⟩
  ·refine (getLongPU A n c (by omega) w).mono ?_
   rintro e w' ⟨rfl, hb⟩
   exact ⟨_, by rw [if_neg h], h1, h2, h3, hb⟩
 zero w _ := zeroPU w
 base w hQ := basePU w (hP w hQ) (hT w hQ)
 add w hp hq hQ := addPU hp hq w (hP w hQ)
 neg w hp hQ := negPU hp w (hP w hQ)
 times v w hv hp hQ := timesPU hp v hv w (hP w hQ)
end Go.Proofs.YtcfogpeinjehbaaGreatDoor
end

section
namespace Go.Proofs.YtcfogpeinjehbaaGreatDoor
open Go Go.Proofs Go.RowKit F5
abbrev primeZ : List Int := [18446744073709551597, 18446744073709551615, 18446744073709551615, 9223372036854775807]
theorem gPrime : Tryz.prog.globalNamed "greffier/field.prime" = some 2 := by kernel_rfl
theorem gPrimeType : (Tryz.prog.globals[2]?).map (·.type) = some 42 := by kernel_rfl
theorem primeZ_lim : ∀ j v, (u64s (digs M P 4))[j]? = some v → j < 4 ∧ v = .int .u64 (primeZ.getD j 0) := by
 intro j v h
 have hj : j < 4 := by have := (Array.getElem?_eq_some_iff.1 h).1; rwa [u64s_size, digs_length] at this
 refine ⟨hj, ?_⟩
 rw [u64s_get _ _ (by rw [digs_length]; exact hj), digs_getD _ _ _ _ hj] at h
 injection h with h
 rw [← h]
 rcases (show j = 0 ∨ j = 1 ∨ j = 2 ∨ j = 3 by omega) with rfl | rfl | rfl | rfl
 ·exact congrArg (Value.int .u64) (by decide +kernel)
 ·exact congrArg (Value.int .u64) (by decide +kernel)
 ·exact congrArg (Value.int .u64) (by decide +kernel)
 ·exact congrArg (Value.int .u64) (by decide +kernel)
theorem lt_of_cell {w : World} {g i : Nat} {v : Value} (h : w.cell? ⟨g, i, none⟩ = some v) : g < w.heap.size := by
 rcases Nat.lt_or_ge g w.heap.size with h1 | h1
 ·exact h1
 ·exfalso
  unfold World.cell? at h
  simp [Array.getElem?_eq_none h1] at h
theorem primeAt_of {w : World} (h : Lib.TabIs Tryz.prog w "greffier/field.prime" .u64 primeZ) : PrimeAt w := by
 refine ⟨lt_of_cell (h.cell gPrime 0 (by decide)), fun j v hj => ?_⟩
 obtain ⟨h4, rfl⟩ := primeZ_lim j v hj
 rw [Nat.zero_add]
 exact h.cell gPrime j h4
theorem primeAt_laid {w : World} {rest : List (String × DataW Unit)} (h : laidMet Tryz.prog (("greffier/field.prime", Rows.laid_greffier_field_prime) :: rest) w) : PrimeAt w :=
 primeAt_of (Lib.tabIs_of_head (zs := primeZ) (rest := rest) gPrime gPrimeType Tryz.underlying42 Tryz.underlying40 (by kernel_rfl) (by kernel_rfl) h)
end Go.Proofs.YtcfogpeinjehbaaGreatDoor
end

section
namespace Go.Proofs.YtcfogpeinjehbaaGreatDoor
open Go Go.Proofs Go.RowKit F5
abbrev turnZ : List Int := [14190309331451158704, 3405592160176694392, 3120150775007532967, 3135389899092516619]
theorem gTurn : Tryz.prog.globalNamed "greffier/field.turn" = some 1 := by kernel_rfl
theorem gTurnType : (Tryz.prog.globals[1]?).map (·.type) = some 42 := by kernel_rfl
theorem turnZ_lim : ∀ j v, (limA I4)[j]? = some v → j < 4 ∧ v = .int .u64 (turnZ.getD j 0) := by
 intro j v h
 have hj : j < 4 := by have := (Array.getElem?_eq_some_iff.1 h).1; rwa [limA_size] at this
 refine ⟨hj, ?_⟩
 rw [limA_get _ _ hj] at h
 injection h with h
 rw [← h]
 rcases (show j = 0 ∨ j = 1 ∨ j = 2 ∨ j = 3 by omega) with rfl | rfl | rfl | rfl
 ·exact congrArg (Value.int .u64) (by decide +kernel)
 ·exact congrArg (Value.int .u64) (by decide +kernel)
 ·exact congrArg (Value.int .u64) (by decide +kernel)
 ·exact congrArg (Value.int .u64) (by decide +kernel)
theorem turnAt_of {w : World} (h : Lib.TabIs Tryz.prog w "greffier/field.turn" .u64 turnZ) : TurnAt w := by
 refine ⟨lt_of_cell (h.cell gTurn 0 (by decide)), fun j v hj => ?_⟩
 obtain ⟨h4, rfl⟩ := turnZ_lim j v hj
 rw [Nat.zero_add]
 exact h.cell gTurn j h4
theorem turnAt_laid {w : World} {x : String × DataW Unit} {rest : List (String × DataW Unit)} (h : laidMet Tryz.prog (x :: ("greffier/field.turn", Rows.laid_greffier_field_turn) :: rest) w) : TurnAt w :=
 turnAt_of (Lib.tabIs_of_head (zs := turnZ) (rest := rest) gTurn gTurnType Tryz.underlying42 Tryz.underlying40 (by kernel_rfl) (by kernel_rfl) h.tail)
end Go.Proofs.YtcfogpeinjehbaaGreatDoor
end

section
namespace Go.Proofs.YtcfogpeinjehbaaGreatDoor
open Go Go.Proofs Go.RowKit F5
def Q7 (w : World) : Prop := PrimeAt w ∧ TurnAt w
theorem q7_laid {w : World} {rest : List (String × DataW Unit)} (h : laidMet Tryz.prog (("greffier/field.prime", Rows.laid_greffier_field_prime) :: ("greffier/field.turn", Rows.laid_greffier_field_turn) :: rest) w) : Q7 w := ⟨primeAt_laid h, turnAt_laid h⟩
end Go.Proofs.YtcfogpeinjehbaaGreatDoor
end

section
namespace Go.Proofs.YtcfogpeinjehbaaGreatDoor
open Go Go.Proofs Go.RowKit F5
theorem sarr32 (p : Option Addr) (n c : Nat) (hn : 32 ≤ n) (W : World) : (Instr.arrayAt 24 (.slice p n c)).run Tryz.prog W = .ok (.pointer p) W := run_arrayAt W _ _ 32 p n c Tryz.underlying24 hn
theorem srun_loadVar_add {P : Program} (w : World) (ad : Addr) (t e : TypeId) (n : Nat) (cs : Array Value) (hu : P.underlying t = some (.array n e)) (hi : (P.info? t).map (·.size) = some cs.size)
  (hc : ∀ j v, cs[j]? = some v → w.cell? (ad.add j) = some v) : (loadVar t ad).run P w = .ok (.agg cs) w := by
 have hl : (loadCells ad cs.toList.length).run P w = .ok cs.toList.toArray w := run_loadCells_list (P := P) w ad cs.toList (fun j v hv => hc j v (by simpa using hv))
 cases hq : P.info? t with
 | none => simp [hq] at hi
 | some i =>
  have hs : i.size = cs.size := by simpa [hq] using hi
  have hagg : (isAgg t).run P w = .ok true w := by
   unfold isAgg
   rw [Sem.run_bind, run_underlying hu w]
   simp [Result.andThen]
  simp only [Array.length_toList, Array.toArray_toList] at hl
  simp [loadVar, Sem.run_bind, hagg, sizeOf, typeInfo, hq, hs, hl, Result.andThen]
theorem squiet_load_add {P : Program} {o : Oper} {ev : Operand → Value} {w : World} (t : TypeId) (x : Operand) (ad : Addr) (hx : ev x = .pointer (some ad)) (e : TypeId) (n : Nat) (cs : Array Value)
  (hu : P.underlying t = some (.array n e)) (hi : (P.info? t).map (·.size) = some cs.size) (hc : ∀ j v, cs[j]? = some v → w.cell? (ad.add j) = some v) (ho : o.op = .load t x) : (execOp ev o).run P w = .ok (.value (.agg cs)) w := by
 unfold execOp
 simp only [ho, hx, Instr.loadAt, Instr.sureAddr, Sem.run_bind, Sem.run_pure, Result.andThen_ok, srun_loadVar_add w ad t e n cs hu hi hc]
theorem built_limS0 : Tryz.prog.built 87 [(0, .int .u64 1)] = some (u64s [1, 0, 0, 0]) := by kernel_rfl
theorem built_limS : Tryz.prog.built 87 [(0, .int .u64 1)] = some (limS 1) := by
 have e : digs M 1 4 = [1, 0, 0, 0] := by decide +kernel
 rw [limS, e]; exact built_limS0
set_option maxHeartbeats 2000000 in
set_option maxRecDepth 100000 in
theorem srest_any (A : Option Addr) (len cap : Nat) (l : List UInt8) (hlen : l.length = len) (hmax : len ≤ 140737488351232) (w : World) (hr : Reads w w.heap.size 1 A len (Lib.byteCells l)) (hO : OrderAt w) :
  Calls Tryz.prog 47 #[.slice A len cap] w fun e w' => e = .returned (.agg (limS (bval l % LL))) ∧ Below w.heap.size w w' := by
 obtain ⟨R, hR⟩ : ∃ c, Hid (c = limS (bval l % LL)) := ⟨_, hid rfl⟩
 obtain ⟨o1, ho1⟩ : ∃ c, Hid (c = limS 1) := ⟨_, hid rfl⟩
 have hbl := built_limS
 rw [← ho1.out] at hbl
 have HBL := hid hbl
 have CT : Hid (∀ V, Reads V V.heap.size 1 A len (Lib.byteCells l) → OrderAt V → Calls Tryz.prog 48 #[.agg o1, .slice A len cap] V fun e w' => e = .returned (.agg R) ∧ Below V.heap.size V w') := hid fun V hV hq => by
  have h := stimes_any 1 (by decide) A len cap l hlen hmax V hV hq
  rw [Nat.one_mul] at h
  rwa [hR.out, ho1.out]
 rw [← hR.out]
 have oR : Hid ((Tryz.prog.info? 87).map (·.size) = some R.size) := by rw [hR.out]; exact hid (limS_info _)
 have pR : Hid (R.all (·.oneCell') = true) := by rw [hR.out]; exact hid (limS_one _)
 have zR : Hid (zeros4.size = R.size) := by rw [hR.out, limS_size]; exact hid rfl
 have hb1 := (Below.refl w.heap.size w).alloc (Nat.le_refl _) (.cells zeros4 87)
 have HR := hid ((hr.below hb1).more hb1.size)
 have HO := hid (hO.old hb1)
 have HB1 := hid hb1
 have B1 := hid (Blk.new w 87 zeros4)
 clear hbl hr hO hb1
 go_enter Tryz.func47, Tryz.ntmps47
 go_wp2_with (refine wpList_build_to rfl 87 #[(0, .const (.int .u64 1))] rfl [(0, .int .u64 1)] (by simp [Act.eval, Act.put]) o1 HBL.out ?_)
 refine (CT.out _ HR.out HO.out).mono ?_
 rintro e w2 ⟨rfl, hb2⟩
 have B2 := hid (B1.out.old hb2)
 have HB2 := hid (HB1.out.trans (hb2.mono HB1.out.size))
 clear hb2
 go_wp2_with (refine wpList_store_row rfl 87 (.tmp 2) (.tmp 5) rfl w.heap.size R rfl rfl 87 _ B2.out oR.out zR.out pR.out ?_)
 refine bodyPost_ret (v := .agg R) ?_ rfl ⟨rfl, below_row HB2.out (Nat.le_refl _) _⟩
 exact results_cell_row Tryz.results47 _ _ w.heap.size 87 R (0, 0) _ rfl (B2.out.row R) Tryz.underlying87 rfl oR.out
set_option maxHeartbeats 2000000 in
set_option maxRecDepth 100000 in
theorem sreduce_any (A : Option Addr) (len cap : Nat) (l : List UInt8) (hlen : l.length = len) (hmax : len ≤ 140737488351232) (w : World) (hr : Reads w w.heap.size 1 A len (Lib.byteCells l)) (hO : OrderAt w) :
  Calls Tryz.prog 35 #[.slice A len cap] w fun e w' => e = .returned (.agg (bytesA (fbytes (bval l % LL)))) ∧ Below w.heap.size w w' := by
 obtain ⟨R, hR⟩ : ∃ c, Hid (c = bytesA (fbytes (bval l % LL))) := ⟨_, hid rfl⟩
 obtain ⟨r1, hr1⟩ : ∃ c, Hid (c = limS (bval l % LL)) := ⟨_, hid rfl⟩
 obtain ⟨z, hz⟩ : ∃ z, Hid (z = bytesA (List.replicate 32 0)) := ⟨_, hid rfl⟩
 have hz0 : ∀ W, (zeroValue 24).run Tryz.prog W = .ok (.agg z) W := by
  rw [hz.out]; exact (zero_of_info (n := 32) (by kernel_rfl)).1
 have CR : Hid (∀ V, Reads V V.heap.size 1 A len (Lib.byteCells l) → OrderAt V → Calls Tryz.prog 47 #[.slice A len cap] V fun e w' => e = .returned (.agg r1) ∧ Below V.heap.size V w') := hid fun V hV hq => by
  rw [hr1.out]; exact srest_any A len cap l hlen hmax V hV hq
 have CB : Hid (∀ V, Calls Tryz.prog 50 #[.agg r1] V fun e w' => e = .returned (.agg R) ∧ Below V.heap.size V w') := hid fun V => by
  rw [hr1.out, hR.out]; exact sbytes_any _ V
 rw [← hR.out]
 have oR : Hid ((Tryz.prog.info? 24).map (·.size) = some R.size) := by rw [hR.out]; exact hid (fbytes_info _)
 have pR : Hid (R.all (·.oneCell') = true) := by rw [hR.out]; exact hid (bytesA_one _)
 have zR : Hid (z.size = R.size) := by rw [hz.out, hR.out, bytesA_size, bytesA_size, fbytes_length]; exact hid rfl
 have hb1 := (Below.refl w.heap.size w).alloc (Nat.le_refl _) (.cells z 24)
 have HR := hid ((hr.below hb1).more hb1.size)
 have HO := hid (hO.old hb1)
 have HB1 := hid hb1
 have B1 := hid (Blk.new w 24 z)
 clear hr hO hb1
 go_enter Tryz.func35, Tryz.ntmps35
 go_wp2_with fail
 refine (CR.out _ HR.out HO.out).mono ?_
 rintro e w2 ⟨rfl, hb2⟩
 have B2 := hid (B1.out.old hb2)
 have HB2 := hid (HB1.out.trans (hb2.mono HB1.out.size))
 clear hb2
 go_wp2_with fail
 refine (CB.out _).mono ?_
 rintro e w3 ⟨rfl, hb3⟩
 have B3 := hid (B2.out.old hb3)
 have HB3 := hid (HB2.out.trans (hb3.mono HB2.out.size))
 clear hb3
 go_wp2_with (refine wpList_store_row rfl 24 (.tmp 2) (.tmp 5) rfl w.heap.size R rfl rfl 24 _ B3.out oR.out zR.out pR.out ?_)
 refine bodyPost_ret (v := .agg R) ?_ rfl ⟨rfl, below_row HB3.out (Nat.le_refl _) _⟩
 exact results_cell_row Tryz.results35 _ _ w.heap.size 24 R (0, 0) _ rfl (B3.out.row R) Tryz.underlying24 rfl oR.out
set_option maxHeartbeats 4000000 in
set_option maxRecDepth 100000 in
theorem smay_any (A : Option Addr) (n c : Nat) (l : List UInt8) (w : World) (hn : n ≤ 1000) (hr : Reads w w.heap.size 1 A n (Lib.byteCells l)) (hO : OrderAt w) :
  Calls Tryz.prog 28 #[.slice A n c] w fun e w' => e = .returned (.bool (mayB l)) ∧ Below w.heap.size w w' := by
 have hl : l.length = n := by have := hr.1; rw [Lib.byteCells_length] at this; omega
 have HR := hid hr
 have HB0 := hid ((Below.refl w.heap.size w).drew)
 by_cases h32 : n = 32
 ·subst h32
  obtain ⟨ad, rfl, hadb, hadc⟩ := hr.2 (by omega)
  have HM := hid (mayB_eq hl)
  have HL := hid hl
  have HQ := hid (hO.old HB0.out)
  have harr := sarr32 (some ad) 32 c (by omega)
  have hcells : Hid (∀ W, Below w.heap.size w W → ∀ j v', (bytesA l)[j]? = some v' → W.cell? (ad.add j) = some v') := hid (by
   intro W hW j v' hj
   obtain ⟨ad', hA, hadb, hcell⟩ := (HR.out.below hW).2 (by omega)
   injection hA with hA
   subst hA
   exact hcell j v' (by rw [bytesA, List.getElem?_toArray] at hj; exact hj))
  have hinf : (Tryz.prog.info? 24).map (·.size) = some (bytesA l).size := by rw [bytesA_size, hl]; exact info32s
  have HI := hid hinf
  clear hr hl hadb hadc hO hinf
  go_enter Tryz.func28, Tryz.ntmps28
  go_wp2_with fail
  refine wp_region_held_drew (S := fun V => Below w.heap.size w V) (by kernel_rfl) HB0.out (fun hHeld => ?_)
  generalize w.drew = W0 at *
  refine' wpAnyH_take (i := 0) (oi := _) (v := _) ?hit0 ?hst0 ?hft0 ?hrt0 ?hQt0 ?hyt0 ?hSt0 ?_
  case hit0 => (simp only [zD, zE, zF]; rfl)
  case hst0 | hft0 | hrt0 => kernel_rfl
  case hQt0 => exact fun _ _ _ h => h
  case hSt0 => assumption
  case hyt0 =>
   refine Or.inl ⟨by rfl, ?_⟩
   intro w hSw
   (try dsimp only at hSw)
   go_simp
   all_goals (with_reducible rfl)
  (try simp only [Act.put, zA, zB, zC])
  refine' wpAnyH_take (i := 1) (oi := _) (v := _) ?hit1 ?hst1 ?hft1 ?hrt1 ?hQt1 ?hyt1 ?hSt1 ?_
  case hit1 => (simp only [zD, zE, zF]; rfl)
  case hst1 | hft1 | hrt1 => kernel_rfl
  case hQt1 => exact fun _ _ _ h => h
  case hSt1 => assumption
  case hyt1 =>
   refine Or.inl ⟨by rfl, ?_⟩
   intro w hSw
   (try dsimp only at hSw)
   go_simp
   all_goals (with_reducible rfl)
  (try simp only [Act.put, zA, zB, zC])
  refine' wpAnyH_take (i := 2) (oi := _) (v := _) ?hit2 ?hst2 ?hft2 ?hrt2 ?hQt2 ?hyt2 ?hSt2 ?_
  case hit2 => (simp only [zD, zE, zF]; rfl)
  case hst2 | hft2 | hrt2 => kernel_rfl
  case hQt2 => exact fun _ _ _ h => h
  case hSt2 => assumption
  case hyt2 =>
   refine Or.inl ⟨by rfl, ?_⟩
   intro w hSw
   (try dsimp only at hSw)
   go_simp
   all_goals (with_reducible rfl)
  (try simp only [Act.put, zA, zB, zC])
  refine' wpAnyH_take (i := 3) (oi := _) (v := _) ?hit3 ?hst3 ?hft3 ?hrt3 ?hQt3 ?hyt3 ?hSt3 ?_
  case hit3 => (simp only [zD, zE, zF]; rfl)
  case hst3 | hft3 | hrt3 => kernel_rfl
  case hQt3 => exact fun _ _ _ h => h
  case hSt3 => assumption
  case hyt3 =>
   refine Or.inl ⟨by rfl, ?_⟩
   intro w hSw
   (try dsimp only at hSw)
   go_simp
   all_goals (with_reducible rfl)
  (try simp only [Act.put, zA, zB, zC])
  refine' wpAnyH_take (i := 4) (oi := _) (v := _) ?hit4 ?hst4 ?hft4 ?hrt4 ?hQt4 ?hyt4 ?hSt4 ?_
  case hit4 => (simp only [zD, zE, zF]; rfl)
  case hst4 | hft4 | hrt4 => kernel_rfl
  case hQt4 => exact fun _ _ _ h => h
  case hSt4 => assumption
  case hyt4 =>
   refine Or.inl ⟨by rfl, ?_⟩
   intro w hSw
   (try dsimp only at hSw)
   go_simp
   all_goals (with_reducible rfl)
  (try simp only [Act.put, zA, zB, zC])
  refine' wpAnyH_take (i := 6) (oi := _) (v := _) ?hit6 ?hst6 ?hft6 ?hrt6 ?hQt6 ?hyt6 ?hSt6 ?_
  case hit6 => (simp only [zD, zE, zF]; rfl)
  case hst6 | hft6 | hrt6 => kernel_rfl
  case hQt6 => exact fun _ _ _ h => h
  case hSt6 => assumption
  case hyt6 =>
   refine Or.inl ⟨by rfl, ?_⟩
   intro w hSw
   (try dsimp only at hSw)
   go_simp
   all_goals (with_reducible rfl)
  (try simp only [Act.put, zA, zB, zC])
  refine' wpAnyH_take (i := 7) (oi := _) (v := _) ?hit7 ?hst7 ?hft7 ?hrt7 ?hQt7 ?hyt7 ?hSt7 ?_
  case hit7 => (simp only [zD, zE, zF]; rfl)
  case hst7 | hft7 | hrt7 => kernel_rfl
  case hQt7 => exact fun _ _ _ h => h
  case hSt7 => assumption
  case hyt7 =>
   refine Or.inl ⟨by rfl, ?_⟩
   intro w hSw
   (try dsimp only at hSw)
   go_simp
   all_goals (with_reducible rfl)
  (try simp only [Act.put, zA, zB, zC])
  refine' wpAnyH_take (i := 8) (oi := _) (v := .agg (bytesA l)) ?hit8 ?hst8 ?hft8 ?hrt8 ?hQt8 ?hyt8 ?hSt8 ?_
  case hit8 => (simp only [zD, zE, zF]; rfl)
  case hst8 | hft8 | hrt8 => kernel_rfl
  case hQt8 => exact fun _ _ _ h => h
  case hSt8 => assumption
  case hyt8 =>
   refine Or.inl ⟨by rfl, ?_⟩
   intro W hS
   exact squiet_load_add 24 (.tmp 10) ad rfl _ _ (bytesA l) Tryz.underlying24 HI.out (hcells.out _ hS) rfl
  (try simp only [Act.put, zA, zB, zC])
  refine wpAnyH_ready (rs := [5]) (by kernel_rfl) (by simp) ?_
  refine' AllReadyH.cons (o := _) ?hir5 (fun K hK => ?_) AllReadyH.nil
  case hir5 => (simp only [zD, zE, zF]; rfl)
  go_simp
  refine (sreduce_any (some ad) 32 c l HL.out (by omega) _ ((HR.out.below HB0.out).more HB0.out.size) HQ.out).mono ?_
  rintro e w6 ⟨rfl, hb6⟩
  have HB6 := hid (HB0.out.trans (hb6.mono HB0.out.size))
  clear hb6
  go_wp2_with fail
  refine hK.out _ _ ?_ (fun hHeld => ?_)
  exact HB6.out
  clear hK K
  (try simp only [Act.put, zA, zB, zC])
  refine' wpAnyH_take (i := 9) (oi := _) (v := .bool (decide (fbytes (bval l % LL) = l))) ?hit9 ?hst9 ?hft9 ?hrt9 ?hQt9 ?hyt9 ?hSt9 ?_
  case hit9 => (simp only [zD, zE, zF]; rfl)
  case hst9 | hft9 | hrt9 => kernel_rfl
  case hQt9 => exact fun _ _ _ h => h
  case hSt9 => assumption
  case hyt9 =>
   refine Or.inl ⟨by rfl, ?_⟩
   intro W hS
   exact quiet_eql_bytes W (.tmp 8) (.tmp 11) _ _ _ (fbytes_length _) HL.out rfl rfl rfl
  (try simp only [Act.put, zA, zB, zC])
  refine' wpAnyH_take (i := 10) (oi := _) (v := _) ?hit10 ?hst10 ?hft10 ?hrt10 ?hQt10 ?hyt10 ?hSt10 ?_
  case hit10 => (simp only [zD, zE, zF]; rfl)
  case hst10 | hft10 | hrt10 => kernel_rfl
  case hQt10 => exact fun _ _ _ h => h
  case hSt10 => assumption
  case hyt10 =>
   refine Or.inl ⟨by rfl, ?_⟩
   intro w hSw
   (try dsimp only at hSw)
   go_simp
   all_goals (with_reducible rfl)
  (try simp only [Act.put, zA, zB, zC])
  refine' wpAnyH_take (i := 11) (oi := _) (v := _) ?hit11 ?hst11 ?hft11 ?hrt11 ?hQt11 ?hyt11 ?hSt11 ?_
  case hit11 => (simp only [zD, zE, zF]; rfl)
  case hst11 | hft11 | hrt11 => kernel_rfl
  case hQt11 => exact fun _ _ _ h => h
  case hSt11 => assumption
  case hyt11 =>
   refine Or.inl ⟨by rfl, ?_⟩
   intro w hSw
   (try dsimp only at hSw)
   go_simp
   all_goals (with_reducible rfl)
  (try simp only [Act.put, zA, zB, zC])
  refine wpAnyH_done (by kernel_rfl) ?_ _
  clear hHeld
  go_wp2_with fail
  go_ret
  exact ⟨by rw [← HM.out]; rfl, HB6.out⟩
 ·have hne : ((n : Int) == 32) = false := by rw [beq_eq_false_iff_ne]; omega
  have HM := hid (mayB_no (l := l) (by rw [hl]; exact h32))
  clear hr hl h32
  go_enter Tryz.func28, Tryz.ntmps28
  go_wp2_with fail
  refine wp_region_held_drew (S := fun V => Below w.heap.size w V) (by kernel_rfl) HB0.out (fun hHeld => ?_)
  generalize w.drew = W0 at *
  refine' wpAnyH_take (i := 0) (oi := _) (v := _) ?hit1 ?hst1 ?hft1 ?hrt1 ?hQt1 ?hyt1 ?hSt1 ?_
  case hit1 => (simp only [zD, zE, zF]; rfl)
  case hst1 | hft1 | hrt1 => kernel_rfl
  case hQt1 => exact fun _ _ _ h => h
  case hSt1 => assumption
  case hyt1 =>
   refine Or.inl ⟨by rfl, ?_⟩
   intro w hSw
   (try dsimp only at hSw)
   go_simp
   all_goals (with_reducible rfl)
  (try simp only [Act.put, zA, zB, zC])
  refine' wpAnyH_take (i := 1) (oi := _) (v := _) ?hit2 ?hst2 ?hft2 ?hrt2 ?hQt2 ?hyt2 ?hSt2 ?_
  case hit2 => (simp only [zD, zE, zF]; rfl)
  case hst2 | hft2 | hrt2 => kernel_rfl
  case hQt2 => exact fun _ _ _ h => h
  case hSt2 => assumption
  case hyt2 =>
   refine Or.inl ⟨by rfl, ?_⟩
   intro w hSw
   (try dsimp only at hSw)
   go_simp
   all_goals (with_reducible rfl)
  (try simp only [Act.put, zA, zB, zC])
  refine' wpAnyH_take (i := 2) (oi := _) (v := _) ?hit3 ?hst3 ?hft3 ?hrt3 ?hQt3 ?hyt3 ?hSt3 ?_
  case hit3 => (simp only [zD, zE, zF]; rfl)
  case hst3 | hft3 | hrt3 => kernel_rfl
  case hQt3 => exact fun _ _ _ h => h
  case hSt3 => assumption
  case hyt3 =>
   refine Or.inl ⟨by rfl, ?_⟩
   intro w hSw
   (try dsimp only at hSw)
   go_simp
   all_goals (with_reducible rfl)
  (try simp only [Act.put, zA, zB, zC])
  refine' wpAnyH_take (i := 3) (oi := _) (v := _) ?hit4 ?hst4 ?hft4 ?hrt4 ?hQt4 ?hyt4 ?hSt4 ?_
  case hit4 => (simp only [zD, zE, zF]; rfl)
  case hst4 | hft4 | hrt4 => kernel_rfl
  case hQt4 => exact fun _ _ _ h => h
  case hSt4 => assumption
  case hyt4 =>
   refine Or.inl ⟨by rfl, ?_⟩
   intro w hSw
   (try dsimp only at hSw)
   go_simp
   all_goals (with_reducible rfl)
  (try simp only [Act.put, zA, zB, zC])
  refine' wpAnyH_take (i := 4) (oi := _) (v := undef) ?hit5 ?hst5 ?hft5 ?hrt5 ?hQt5 ?hyt5 ?hSt5 ?_
  case hit5 => (simp only [zD, zE, zF]; rfl)
  case hst5 | hft5 | hrt5 => kernel_rfl
  case hQt5 => exact fun _ _ _ h => h
  case hSt5 => assumption
  case hyt5 =>
   exact Or.inr ⟨by rfl, rfl⟩
  (try simp only [Act.put, zA, zB, zC])
  refine' wpAnyH_take (i := 5) (oi := _) (v := undef) ?hit6 ?hst6 ?hft6 ?hrt6 ?hQt6 ?hyt6 ?hSt6 ?_
  case hit6 => (simp only [zD, zE, zF]; rfl)
  case hst6 | hft6 | hrt6 => kernel_rfl
  case hQt6 => exact fun _ _ _ h => h
  case hSt6 => assumption
  case hyt6 =>
   exact Or.inr ⟨by rfl, rfl⟩
  (try simp only [Act.put, zA, zB, zC])
  refine' wpAnyH_take (i := 6) (oi := _) (v := undef) ?hit7 ?hst7 ?hft7 ?hrt7 ?hQt7 ?hyt7 ?hSt7 ?_
  case hit7 => (simp only [zD, zE, zF]; rfl)
  case hst7 | hft7 | hrt7 => kernel_rfl
  case hQt7 => exact fun _ _ _ h => h
  case hSt7 => assumption
  case hyt7 =>
   exact Or.inr ⟨by rfl, rfl⟩
  (try simp only [Act.put, zA, zB, zC])
  refine' wpAnyH_take (i := 7) (oi := _) (v := undef) ?hit8 ?hst8 ?hft8 ?hrt8 ?hQt8 ?hyt8 ?hSt8 ?_
  case hit8 => (simp only [zD, zE, zF]; rfl)
  case hst8 | hft8 | hrt8 => kernel_rfl
  case hQt8 => exact fun _ _ _ h => h
  case hSt8 => assumption
  case hyt8 =>
   exact Or.inr ⟨by rfl, rfl⟩
  (try simp only [Act.put, zA, zB, zC])
  refine' wpAnyH_take (i := 8) (oi := _) (v := undef) ?hit9 ?hst9 ?hft9 ?hrt9 ?hQt9 ?hyt9 ?hSt9 ?_
  case hit9 => (simp only [zD, zE, zF]; rfl)
  case hst9 | hft9 | hrt9 => kernel_rfl
  case hQt9 => exact fun _ _ _ h => h
  case hSt9 => assumption
  case hyt9 =>
   exact Or.inr ⟨by rfl, rfl⟩
  (try simp only [Act.put, zA, zB, zC])
  refine' wpAnyH_take (i := 9) (oi := _) (v := undef) ?hit10 ?hst10 ?hft10 ?hrt10 ?hQt10 ?hyt10 ?hSt10 ?_
  case hit10 => (simp only [zD, zE, zF]; rfl)
  case hst10 | hft10 | hrt10 => kernel_rfl
  case hQt10 => exact fun _ _ _ h => h
  case hSt10 => assumption
  case hyt10 =>
   exact Or.inr ⟨by rfl, rfl⟩
  (try simp only [Act.put, zA, zB, zC])
  refine' wpAnyH_take (i := 10) (oi := _) (v := _) ?hit11 ?hst11 ?hft11 ?hrt11 ?hQt11 ?hyt11 ?hSt11 ?_
  case hit11 => (simp only [zD, zE, zF]; rfl)
  case hst11 | hft11 | hrt11 => kernel_rfl
  case hQt11 => exact fun _ _ _ h => h
  case hSt11 => assumption
  case hyt11 =>
   refine Or.inl ⟨by rfl, ?_⟩
   intro w hSw
   (try dsimp only at hSw)
   go_simp
   all_goals (with_reducible rfl)
  (try simp only [Act.put, zA, zB, zC])
  refine' wpAnyH_take (i := 11) (oi := _) (v := _) ?hit12 ?hst12 ?hft12 ?hrt12 ?hQt12 ?hyt12 ?hSt12 ?_
  case hit12 => (simp only [zD, zE, zF]; rfl)
  case hst12 | hft12 | hrt12 => kernel_rfl
  case hQt12 => exact fun _ _ _ h => h
  case hSt12 => assumption
  case hyt12 =>
   refine Or.inl ⟨by rfl, ?_⟩
   intro w hSw
   (try dsimp only at hSw)
   go_simp
   all_goals (with_reducible rfl)
  (try simp only [Act.put, zA, zB, zC])
  refine wpAnyH_done (by kernel_rfl) ?_ _
  clear hHeld
  go_wp2_with fail
  go_ret
  exact ⟨by rw [HM.out]; rfl, HB0.out⟩
theorem sfour (w : World) (a b c d : Array Value) (T : TypeId) : Blk ((((w.alloc (.cells a T)).alloc (.cells b T)).alloc (.cells c T)).alloc (.cells d T)) w.heap.size T a ∧ Blk ((((w.alloc (.cells a T)).alloc (.cells b T)).alloc (.cells c T)).alloc (.cells d T)) (w.heap.size + 1) T b ∧
  Blk ((((w.alloc (.cells a T)).alloc (.cells b T)).alloc (.cells c T)).alloc (.cells d T)) (w.heap.size + 1 + 1) T c ∧ Blk ((((w.alloc (.cells a T)).alloc (.cells b T)).alloc (.cells c T)).alloc (.cells d T)) (w.heap.size + 1 + 1 + 1) T d ∧ Below w.heap.size w ((((w.alloc (.cells a T)).alloc (.cells b T)).alloc (.cells c T)).alloc (.cells d T)) := by
 obtain ⟨b1, b2, b3, hb, hsz⟩ := sthree w a b c T T T
 refine ⟨b1.alloc _, b2.alloc _, b3.alloc _, ?_, hb.alloc hb.size _⟩
 have := Blk.new (((w.alloc (.cells a T)).alloc (.cells b T)).alloc (.cells c T)) T d
 rwa [show (((w.alloc (.cells a T)).alloc (.cells b T)).alloc (.cells c T)).heap.size = w.heap.size + 1 + 1 + 1 by simp] at this
theorem muladd_mod (a b c : Nat) : ((b % LL) * a % LL + c % LL) % LL = (a * b + c) % LL := by
 rw [← Nat.add_mod, Nat.add_mod, Nat.mul_mod, Nat.mod_mod, ← Nat.mul_mod, ← Nat.add_mod, Nat.mul_comm]
set_option maxHeartbeats 4000000 in
set_option maxRecDepth 100000 in
theorem smuladd_any (a b c : Nat) (w : World) (ha : a < 2 ^ 256) (hb : b < 2 ^ 256) (hc : c < 2 ^ 256) (hO : OrderAt w) :
  Calls Tryz.prog 19 #[.agg (bytesA (fbytes a)), .agg (bytesA (fbytes b)), .agg (bytesA (fbytes c))] w fun e w' => e = .returned (.agg (bytesA (fbytes ((a * b + c) % LL)))) ∧ Below w.heap.size w w' := by
 have rd : ∀ (v : Nat) (g : Nat) (V V' : World), Blk V g 24 (bytesA (fbytes v)) → Below V.heap.size V V' → Reads V' V'.heap.size 1 (some ⟨g, 0, none⟩) 32 (Lib.byteCells (fbytes v)) := fun v g V V' h hb => by
  have := reads_blk (h.old hb)
  rwa [fbytes_length] at this
 have hln : ∀ v, (fbytes v).length = 32 := fbytes_length
 obtain ⟨R, hR⟩ : ∃ x, Hid (x = bytesA (fbytes ((a * b + c) % LL))) := ⟨_, hid rfl⟩
 obtain ⟨z, hz⟩ : ∃ z, Hid (z = bytesA (List.replicate 32 0)) := ⟨_, hid rfl⟩
 have hz0 : ∀ W, (zeroValue 24).run Tryz.prog W = .ok (.agg z) W := by
  rw [hz.out]; exact (zero_of_info (n := 32) (by kernel_rfl)).1
 obtain ⟨r1, hr1⟩ : ∃ x, Hid (x = limS (b % LL)) := ⟨_, hid rfl⟩
 obtain ⟨r2, hr2⟩ : ∃ x, Hid (x = limS (b % LL * a % LL)) := ⟨_, hid rfl⟩
 obtain ⟨r3, hr3⟩ : ∃ x, Hid (x = limS (c % LL)) := ⟨_, hid rfl⟩
 obtain ⟨r4, hr4⟩ : ∃ x, Hid (x = limS ((a * b + c) % LL)) := ⟨_, hid rfl⟩
 obtain ⟨g1, hg1⟩ : ∃ g, Hid (g = w.heap.size) := ⟨_, hid rfl⟩
 have C1 : Hid (∀ g V, Reads V V.heap.size 1 (some ⟨g, 0, none⟩) 32 (Lib.byteCells (fbytes b)) → OrderAt V → Calls Tryz.prog 47 #[.slice (some ⟨g, 0, none⟩) 32 32] V fun e w' => e = .returned (.agg r1) ∧ Below V.heap.size V w') := hid fun g V hr ho => by
  have := srest_any _ 32 32 (fbytes b) (fbytes_length _) (by omega) V hr ho
  rwa [bval_fbytes hb, ← hr1.out] at this
 have C2 : Hid (∀ g V, Reads V V.heap.size 1 (some ⟨g, 0, none⟩) 32 (Lib.byteCells (fbytes a)) → OrderAt V → Calls Tryz.prog 48 #[.agg r1, .slice (some ⟨g, 0, none⟩) 32 32] V fun e w' => e = .returned (.agg r2) ∧ Below V.heap.size V w') := hid fun g V hr ho => by
  have := stimes_any (b % LL) (Nat.mod_lt _ LL_pos) _ 32 32 (fbytes a) (fbytes_length _) (by omega) V hr ho
  rwa [bval_fbytes ha, ← hr2.out, ← hr1.out] at this
 have C3 : Hid (∀ g V, Reads V V.heap.size 1 (some ⟨g, 0, none⟩) 32 (Lib.byteCells (fbytes c)) → OrderAt V → Calls Tryz.prog 47 #[.slice (some ⟨g, 0, none⟩) 32 32] V fun e w' => e = .returned (.agg r3) ∧ Below V.heap.size V w') := hid fun g V hr ho => by
  have := srest_any _ 32 32 (fbytes c) (fbytes_length _) (by omega) V hr ho
  rwa [bval_fbytes hc, ← hr3.out] at this
 have C4 : Hid (∀ V, OrderAt V → Calls Tryz.prog 49 #[.agg r2, .agg r3] V fun e w' => e = .returned (.agg r4) ∧ Below V.heap.size V w') := hid fun V ho => by
  have := sadd_any (b % LL * a % LL) (c % LL) (Nat.mod_lt _ LL_pos) (Nat.mod_lt _ LL_pos) V ho
  rwa [muladd_mod, ← hr2.out, ← hr3.out, ← hr4.out] at this
 have C5 : Hid (∀ V, Calls Tryz.prog 50 #[.agg r4] V fun e w' => e = .returned (.agg R) ∧ Below V.heap.size V w') := hid fun V => by
  rw [hr4.out, hR.out]; exact sbytes_any _ V
 rw [← hR.out]
 have oR : Hid ((Tryz.prog.info? 24).map (·.size) = some R.size) := by rw [hR.out]; exact hid (fbytes_info _)
 have pR : Hid (R.all (·.oneCell') = true) := by rw [hR.out]; exact hid (bytesA_one _)
 have zR : Hid (z.size = R.size) := by rw [hz.out, hR.out, bytesA_size, bytesA_size, fbytes_length]; exact hid rfl
 obtain ⟨ca, hca⟩ : ∃ x, Hid (x = bytesA (fbytes a)) := ⟨_, hid rfl⟩
 obtain ⟨cb, hcb⟩ : ∃ x, Hid (x = bytesA (fbytes b)) := ⟨_, hid rfl⟩
 obtain ⟨cc, hcc⟩ : ∃ x, Hid (x = bytesA (fbytes c)) := ⟨_, hid rfl⟩
 have hfour := sfour w ca cb cc z 24
 rw [← hca.out, ← hcb.out, ← hcc.out]
 have hsl0 := slice32 w.heap.size
 have hsl1 := slice32 (w.heap.size + 1)
 have hsl2 := slice32 (w.heap.size + 1 + 1)
 go_enter Tryz.func19, Tryz.ntmps19
 go_wp2_with fail
 generalize ((((w.alloc (.cells ca 24)).alloc (.cells cb 24)).alloc (.cells cc 24)).alloc (.cells z 24)) = W at *
 obtain ⟨b1, b2, b3, b4, hbW⟩ := hfour
 rw [hca.out] at b1
 rw [hcb.out] at b2
 rw [hcc.out] at b3
 have R1 : Hid (∀ V, Below W.heap.size W V → Reads V V.heap.size 1 (some ⟨w.heap.size, 0, none⟩) 32 (Lib.byteCells (fbytes a))) := hid fun V h => rd _ _ _ _ b1 h
 have R2 : Hid (∀ V, Below W.heap.size W V → Reads V V.heap.size 1 (some ⟨w.heap.size + 1, 0, none⟩) 32 (Lib.byteCells (fbytes b))) := hid fun V h => rd _ _ _ _ b2 h
 have R3 : Hid (∀ V, Below W.heap.size W V → Reads V V.heap.size 1 (some ⟨w.heap.size + 1 + 1, 0, none⟩) 32 (Lib.byteCells (fbytes c))) := hid fun V h => rd _ _ _ _ b3 h
 have B4 := hid b4
 have HBW := hid hbW
 have HQ : Hid (∀ V, Below W.heap.size W V → OrderAt V) := hid fun V h => (hO.old hbW).old h
 have HB0 := hid ((Below.refl W.heap.size W).drew)
 clear b1 b2 b3 b4 hbW hO rd hln ha hb hc hg1 g1
 refine wp_region_held_drew (S := fun V => ∃ V0, Below W.heap.size W V0 ∧ (V = V0 ∨ V = V0.setRow (w.heap.size + 1 + 1 + 1) R)) (by kernel_rfl) ⟨_, HB0.out, .inl rfl⟩ (fun hHeld => ?_)
 generalize W.drew = W0 at *
 refine' wpAnyH_take (i := 0) (oi := _) (v := _) ?hit13 ?hst13 ?hft13 ?hrt13 ?hQt13 ?hyt13 ?hSt13 ?_
 case hit13 => (simp only [zD, zE, zF]; rfl)
 case hst13 | hft13 | hrt13 => kernel_rfl
 case hQt13 => exact fun _ _ _ h => h
 case hSt13 => assumption
 case hyt13 =>
  refine Or.inl ⟨by rfl, ?_⟩
  intro w hSw
  (try dsimp only at hSw)
  go_simp
  all_goals (with_reducible rfl)
 (try simp only [Act.put, zA, zB, zC])
 refine' wpAnyH_take (i := 2) (oi := _) (v := _) ?hit14 ?hst14 ?hft14 ?hrt14 ?hQt14 ?hyt14 ?hSt14 ?_
 case hit14 => (simp only [zD, zE, zF]; rfl)
 case hst14 | hft14 | hrt14 => kernel_rfl
 case hQt14 => exact fun _ _ _ h => h
 case hSt14 => assumption
 case hyt14 =>
  refine Or.inl ⟨by rfl, ?_⟩
  intro w hSw
  (try dsimp only at hSw)
  go_simp
  all_goals (with_reducible rfl)
 (try simp only [Act.put, zA, zB, zC])
 refine' wpAnyH_take (i := 4) (oi := _) (v := _) ?hit15 ?hst15 ?hft15 ?hrt15 ?hQt15 ?hyt15 ?hSt15 ?_
 case hit15 => (simp only [zD, zE, zF]; rfl)
 case hst15 | hft15 | hrt15 => kernel_rfl
 case hQt15 => exact fun _ _ _ h => h
 case hSt15 => assumption
 case hyt15 =>
  refine Or.inl ⟨by rfl, ?_⟩
  intro w hSw
  (try dsimp only at hSw)
  go_simp
  all_goals (with_reducible rfl)
 (try simp only [Act.put, zA, zB, zC])
 refine wpAnyH_ready (rs := [1]) (by kernel_rfl) (by simp) ?_
 refine' (AllReadyH.cons (o := _) ?hir16_1 (fun K hK => ?br16_1) AllReadyH.nil)
 case hir16_1 => (simp only [zD, zE, zF]; rfl)
 case br16_1 =>
  go_simp
  refine (C1.out _ _ (R2.out _ HB0.out) (HQ.out _ HB0.out)).mono ?_
  rintro e w17 ⟨rfl, hb17⟩
  have H17 := hid (HB0.out.trans (hb17.mono HB0.out.size))
  clear hb17
  go_wp2_with fail
  refine hK.out _ _ ?_ (fun hHeld => ?_)
  exact ⟨_, H17.out, .inl rfl⟩
  clear hK K
  (try simp only [Act.put, zA, zB, zC])
  refine wpAnyH_ready (rs := [3]) (by kernel_rfl) (by simp) ?_
  refine' (AllReadyH.cons (o := _) ?hir18_3 (fun K hK => ?br18_3) AllReadyH.nil)
  case hir18_3 => (simp only [zD, zE, zF]; rfl)
  case br18_3 =>
   go_simp
   refine (C2.out _ _ (R1.out _ H17.out) (HQ.out _ H17.out)).mono ?_
   rintro e w19 ⟨rfl, hb19⟩
   have H19 := hid (H17.out.trans (hb19.mono H17.out.size))
   clear hb19
   go_wp2_with fail
   refine hK.out _ _ ?_ (fun hHeld => ?_)
   exact ⟨_, H19.out, .inl rfl⟩
   clear hK K
   (try simp only [Act.put, zA, zB, zC])
   refine wpAnyH_ready (rs := [5]) (by kernel_rfl) (by simp) ?_
   refine' (AllReadyH.cons (o := _) ?hir20_5 (fun K hK => ?br20_5) AllReadyH.nil)
   case hir20_5 => (simp only [zD, zE, zF]; rfl)
   case br20_5 =>
    go_simp
    refine (C3.out _ _ (R3.out _ H19.out) (HQ.out _ H19.out)).mono ?_
    rintro e w21 ⟨rfl, hb21⟩
    have H21 := hid (H19.out.trans (hb21.mono H19.out.size))
    clear hb21
    go_wp2_with fail
    refine hK.out _ _ ?_ (fun hHeld => ?_)
    exact ⟨_, H21.out, .inl rfl⟩
    clear hK K
    (try simp only [Act.put, zA, zB, zC])
    refine wpAnyH_ready (rs := [6]) (by kernel_rfl) (by simp) ?_
    refine' (AllReadyH.cons (o := _) ?hir22_6 (fun K hK => ?br22_6) AllReadyH.nil)
    case hir22_6 => (simp only [zD, zE, zF]; rfl)
    case br22_6 =>
     go_simp
     refine (C4.out _ (HQ.out _ H21.out)).mono ?_
     rintro e w23 ⟨rfl, hb23⟩
     have H23 := hid (H21.out.trans (hb23.mono H21.out.size))
     clear hb23
     go_wp2_with fail
     refine hK.out _ _ ?_ (fun hHeld => ?_)
     exact ⟨_, H23.out, .inl rfl⟩
     clear hK K
     (try simp only [Act.put, zA, zB, zC])
     refine wpAnyH_ready (rs := [7]) (by kernel_rfl) (by simp) ?_
     refine' (AllReadyH.cons (o := _) ?hir24_7 (fun K hK => ?br24_7) AllReadyH.nil)
     case hir24_7 => (simp only [zD, zE, zF]; rfl)
     case br24_7 =>
      go_simp
      refine (C5.out _).mono ?_
      rintro e w25 ⟨rfl, hb25⟩
      have H25 := hid (H23.out.trans (hb25.mono H23.out.size))
      clear hb25
      go_wp2_with fail
      refine hK.out _ _ ?_ (fun hHeld => ?_)
      exact ⟨_, H25.out, .inl rfl⟩
      clear hK K
      (try simp only [Act.put, zA, zB, zC])
      refine wpAnyH_ready (rs := [8]) (by kernel_rfl) (by simp) ?_
      refine' (AllReadyH.cons (o := _) ?hir26_8 (fun K hK => ?br26_8) AllReadyH.nil)
      case hir26_8 => (simp only [zD, zE, zF]; rfl)
      case br26_8 =>
       refine step_of_wp rfl ?_
       refine wp_store_row 24 (.tmp 6) (.tmp 14) rfl (w.heap.size + 1 + 1 + 1) R rfl rfl 24 z (B4.out.old H25.out) oR.out zR.out pR.out ?_
       refine hK.out _ _ ?_ (fun hHeld => ?_)
       exact ⟨_, H25.out, .inr rfl⟩
       clear hK K
       (try simp only [Act.put, zA, zB, zC])
       refine wpAnyH_done (by kernel_rfl) ?_ _
       clear hHeld
       go_wp2_with fail
       have B5 := (B4.out.old H25.out).row R
       refine bodyPost_ret (v := .agg R) ?_ rfl ⟨rfl, below_row (HBW.out.trans (H25.out.mono HBW.out.size)) (by omega) _⟩
       exact results_cell_row Tryz.results19 _ _ (w.heap.size + 1 + 1 + 1) 24 R (0, 0) _ rfl B5 Tryz.underlying24 rfl oR.out
theorem sca_ok : ScaOk OrderAt where
 old := fun h hb => h.old hb
 reduce := fun A n c l w hn _ _ hr hq => sreduce_any A n c l (by have := hr.1; rw [Lib.byteCells_length] at this; omega) (by omega) w hr hq
 may := fun A n c l w hn _ _ hr hq => smay_any A n c l w hn hr hq
 muladd := fun a b c w ha hb hc hq => smuladd_any a b c w ha hb hc hq
end Go.Proofs.YtcfogpeinjehbaaGreatDoor
end

section
namespace Go.Proofs.YtcfogpeinjehbaaGreatDoor
open Go Go.Proofs Go.RowKit F5
abbrev orderZ : List Int := [6346243789798364141, 1503914060200516822, 0, 1152921504606846976]
theorem gOrder : Tryz.prog.globalNamed "greffier/scalar.order" = some 0 := by kernel_rfl
theorem gOrderType : (Tryz.prog.globals[0]?).map (·.type) = some 87 := by kernel_rfl
theorem orderZ_lim : ∀ j v, (limS LL)[j]? = some v → j < 4 ∧ v = .int .u64 (orderZ.getD j 0) := by
 intro j v h
 have hj : j < 4 := by have := (Array.getElem?_eq_some_iff.1 h).1; rwa [limS_size] at this
 refine ⟨hj, ?_⟩
 rw [limS_get _ _ hj] at h
 injection h with h
 rw [← h]
 rcases (show j = 0 ∨ j = 1 ∨ j = 2 ∨ j = 3 by omega) with rfl | rfl | rfl | rfl
 ·exact congrArg (Value.int .u64) (by decide +kernel)
 ·exact congrArg (Value.int .u64) (by decide +kernel)
 ·exact congrArg (Value.int .u64) (by decide +kernel)
 ·exact congrArg (Value.int .u64) (by decide +kernel)
theorem slt_of_cell {w : World} {g i : Nat} {v : Value} (h : w.cell? ⟨g, i, none⟩ = some v) : g < w.heap.size := by
 rcases Nat.lt_or_ge g w.heap.size with h1 | h1
 ·exact h1
 ·exfalso
  unfold World.cell? at h
  simp [Array.getElem?_eq_none h1] at h
theorem orderAt_of {w : World} (h : Lib.TabIs Tryz.prog w "greffier/scalar.order" .u64 orderZ) : OrderAt w := by
 refine ⟨slt_of_cell (h.cell gOrder 0 (by decide)), fun j v hj => ?_⟩
 obtain ⟨h4, rfl⟩ := orderZ_lim j v hj
 rw [Nat.zero_add]
 exact h.cell gOrder j h4
theorem orderAt_laid {w : World} {rest : List (String × DataW Unit)} (h : laidMet Tryz.prog (("greffier/scalar.order", Rows.laid_greffier_scalar_order) :: rest) w) : OrderAt w :=
 orderAt_of (Lib.tabIs_of_head (zs := orderZ) (rest := rest) gOrder gOrderType Tryz.underlying87 Tryz.underlying40 (by kernel_rfl) (by kernel_rfl) h)
end Go.Proofs.YtcfogpeinjehbaaGreatDoor
end

section
namespace Go.Proofs.YtcfogpeinjehbaaGreatDoor
open Go Go.Proofs Go.RowKit F5
def Q8 (w : World) : Prop := Q7 w ∧ OrderAt w
theorem Q8.old {w w' : World} (h : Q8 w) (hb : Below w.heap.size w w') : Q8 w' := ⟨⟨h.1.1.old hb, h.1.2.old hb⟩, h.2.old hb⟩
theorem q8_laid {w : World} {rest : List (String × DataW Unit)} (h : laidMet Tryz.prog (("greffier/field.prime", Rows.laid_greffier_field_prime) :: ("greffier/field.turn", Rows.laid_greffier_field_turn) :: ("greffier/scalar.order", Rows.laid_greffier_scalar_order) :: rest) w) : Q8 w := ⟨q7_laid h, orderAt_laid h.tail.tail⟩
theorem ptOk8 : PtOk Q8 PU (uV 0 0 0) := ptOk (fun h hb => h.old hb) (fun _ h => h.1.1) (fun _ h => h.1.2)
theorem sca_ok8 : ScaOk Q8 where
 old := fun h hb => h.old hb
 reduce := fun A n c l w h1 h2 h3 hr hq => sca_ok.reduce A n c l w h1 h2 h3 hr hq.2
 may := fun A n c l w h1 h2 h3 hr hq => sca_ok.may A n c l w h1 h2 h3 hr hq.2
 muladd := fun a b c w ha hb hc hq => sca_ok.muladd a b c w ha hb hc hq.2
end Go.Proofs.YtcfogpeinjehbaaGreatDoor
end

section
set_option maxRecDepth 100000
namespace Go.Proofs.YtcfogpeinjehbaaGreatDoor
open Go Go.Proofs Go.RowKit F5
open Sch (wp_R gr_val gr_is gr_fresh gr_nil op_callR Rk)
open Sha (sumOf sumOf_length RowsR)
/-- A slice of so many slices, which reads as these lists. -/
def RowsV (n : Nat) (ls : List (List UInt8)) (v : Value) (w : World) : Prop := ∃ A B, v = .slice A n n ∧ B ≤ w.heap.size ∧ RowsR w B A n ls
theorem RowsV.keep {n : Nat} {ls : List (List UInt8)} (v : Value) (V V' : World) (h : RowsV n ls v V) (hb : Below V.heap.size V V') : RowsV n ls v V' := by
 obtain ⟨A, B, e, h1, h2⟩ := h
 exact ⟨A, B, e, Nat.le_trans h1 hb.size, h2.old hb h1⟩
theorem infoSl : (Tryz.prog.info? 22).map (fun i => (i.zero, i.size, i.bytes)) = some (some (.slice none 0 0), 1, 24) := by kernel_rfl
section
variable {o : Oper} {a : Act} {V : World} {K : Act → World → Prop} {Q : Exit → Act → World → Prop}
theorem op_rows1 (x : Operand) (A : Option Addr) (n c : Nat) (l : List UInt8) (hr : Reads V V.heap.size 1 A n (Lib.byteCells l)) (hc : n ≤ c) (hx : a.eval x = .slice A n c) (ho : o.op = .buildSlice 61 1 #[(0, x)])
  (hK : ∀ v V', Below V.heap.size V V' → RowsV 1 [l] v V' → K (a.put o.dst v) V') : o.wp Tryz.prog a V K Q := by
 obtain ⟨ib, hib, h0, h1, h2⟩ := info_parts infoSl
 refine wp_buildSlice 61 22 1 _ ho #[.slice A n c] ib (.slice none 0 0) Tryz.underlying61 hib h0 (by rw [h1]; decide) (by rw [h1]; decide) (by rw [h1]; simp only [List.map_toArray, List.map_cons, List.map_nil, hx]; exact Great.fill_flat [.slice A n c] _ (by simp [Value.cells]) (by simp)) ?_
 have hb := (Below.refl V.heap.size V).alloc (Nat.le_refl _) (.cells #[.slice A n c] 22)
 refine hK _ _ hb ⟨_, V.heap.size + 1, rfl, by simp, rfl, fun i hi => ?_⟩
 obtain rfl : i = 0 := by omega
 exact ⟨_, A, n, c, rfl, by simp, (Blk.new V 22 _).cell 0, (hr.below hb).more (by omega), hc⟩
theorem op_rows2 (x1 x2 : Operand) (A1 A2 : Option Addr) (n1 c1 n2 c2 : Nat) (l1 l2 : List UInt8) (h1 : Reads V V.heap.size 1 A1 n1 (Lib.byteCells l1)) (k1 : n1 ≤ c1) (h2 : Reads V V.heap.size 1 A2 n2 (Lib.byteCells l2)) (k2 : n2 ≤ c2)
  (hx1 : a.eval x1 = .slice A1 n1 c1) (hx2 : a.eval x2 = .slice A2 n2 c2) (ho : o.op = .buildSlice 61 2 #[(0, x1), (1, x2)])
  (hK : ∀ v V', Below V.heap.size V V' → RowsV 2 [l1, l2] v V' → K (a.put o.dst v) V') : o.wp Tryz.prog a V K Q := by
 obtain ⟨ib, hib, e0, e1, e2⟩ := info_parts infoSl
 refine wp_buildSlice 61 22 2 _ ho #[.slice A1 n1 c1, .slice A2 n2 c2] ib (.slice none 0 0) Tryz.underlying61 hib e0 (by rw [e1]; decide) (by rw [e1]; decide) (by rw [e1]; simp only [List.map_toArray, List.map_cons, List.map_nil, hx1, hx2]; exact Great.fill_flat [.slice A1 n1 c1, .slice A2 n2 c2] _ (by simp [Value.cells]) (by simp)) ?_
 exact hK _ _ ((Below.refl V.heap.size V).alloc (Nat.le_refl _) _) ⟨_, V.heap.size + 1, rfl, by simp, rows_lit2 22 h1 k1 h2 k2⟩
theorem op_rows3 (x1 x2 x3 : Operand) (A1 A2 A3 : Option Addr) (n1 c1 n2 c2 n3 c3 : Nat) (l1 l2 l3 : List UInt8) (h1 : Reads V V.heap.size 1 A1 n1 (Lib.byteCells l1)) (k1 : n1 ≤ c1) (h2 : Reads V V.heap.size 1 A2 n2 (Lib.byteCells l2)) (k2 : n2 ≤ c2)
  (h3 : Reads V V.heap.size 1 A3 n3 (Lib.byteCells l3)) (k3 : n3 ≤ c3) (hx1 : a.eval x1 = .slice A1 n1 c1) (hx2 : a.eval x2 = .slice A2 n2 c2) (hx3 : a.eval x3 = .slice A3 n3 c3) (ho : o.op = .buildSlice 61 3 #[(0, x1), (1, x2), (2, x3)])
  (hK : ∀ v V', Below V.heap.size V V' → RowsV 3 [l1, l2, l3] v V' → K (a.put o.dst v) V') : o.wp Tryz.prog a V K Q := by
 obtain ⟨ib, hib, e0, e1, e2⟩ := info_parts infoSl
 refine wp_buildSlice 61 22 3 _ ho #[.slice A1 n1 c1, .slice A2 n2 c2, .slice A3 n3 c3] ib (.slice none 0 0) Tryz.underlying61 hib e0 (by rw [e1]; decide) (by rw [e1]; decide) (by rw [e1]; simp only [List.map_toArray, List.map_cons, List.map_nil, hx1, hx2, hx3]; exact Great.fill_flat [.slice A1 n1 c1, .slice A2 n2 c2, .slice A3 n3 c3] _ (by simp [Value.cells]) (by simp)) ?_
 exact hK _ _ ((Below.refl V.heap.size V).alloc (Nat.le_refl _) _) ⟨_, V.heap.size + 1, rfl, by simp, rows_lit3 22 h1 k1 h2 k2 h3 k3⟩
end
/-- The struct of two rows. -/
theorem list_of_get (l : List UInt8) (n : Nat) (h : l.length = n) : l = (List.range n).map (fun i => l.getD i 0) := by
 apply List.ext_getElem?
 intro i
 by_cases hi : i < n
 ·simp [List.getElem?_map, List.getElem?_range hi, List.getD, List.getElem?_eq_getElem (show i < l.length by omega)]
 ·rw [List.getElem?_eq_none (by omega), List.getElem?_eq_none (by simp; omega)]
theorem built_secG (g k : Nat → UInt8) : Tryz.prog.built 36 [(0, .agg (bytesA ((List.range 32).map g))), (1, .agg (bytesA ((List.range 32).map k)))] = some (bytesA ((List.range 32).map g ++ (List.range 32).map k)) := by kernel_rfl
theorem built_sec {f k : List UInt8} (hf : f.length = 32) (hk : k.length = 32) : Tryz.prog.built 36 [(0, .agg (bytesA f)), (1, .agg (bytesA k))] = some (bytesA (f ++ k)) := by
 rw [list_of_get f 32 hf, list_of_get k 32 hk]; exact built_secG _ _
theorem infC {l : List UInt8} (h : l.length = 64) : (Tryz.prog.info? 36).map (·.size) = some (bytesA l).size := by rw [bytesA_size, h]; kernel_rfl
theorem zeroC (W : World) : (zeroValue 36).run Tryz.prog W = .ok (.agg (bytesA (List.replicate 64 0))) W := (zero_of_info (n := 64) (by kernel_rfl)).1 W
theorem zero32 (W : World) : (zeroValue 24).run Tryz.prog W = .ok (.agg (bytesA (List.replicate 32 0))) W := (zero_of_info (n := 32) (by kernel_rfl)).1 W
theorem zero64 (W : World) : (zeroValue 28).run Tryz.prog W = .ok (.agg (bytesA (List.replicate 64 0))) W := (zero_of_info (n := 64) (by kernel_rfl)).1 W
theorem fs0 (g : Nat) (W : World) : (Instr.fieldAt 36 (.pointer (some ⟨g, 0, none⟩)) 0).run Tryz.prog W = .ok (.pointer (some ⟨g, 0, none⟩)) W := by go_simp
theorem fs1 (g : Nat) (W : World) : (Instr.fieldAt 36 (.pointer (some ⟨g, 0, none⟩)) 1).run Tryz.prog W = .ok (.pointer (some ⟨g, 32, none⟩)) W := by go_simp
theorem slice32o (g k : Nat) (W : World) : (Instr.sliceAt 24 (.pointer (some ⟨g, k, none⟩)) none none none).run Tryz.prog W = .ok (.slice (some ⟨g, k, none⟩) 32 32) W := by
 have hal : Tryz.prog.arrayLen 24 = 32 := by kernel_rfl
 have hel : Tryz.prog.elem 24 = 5 := by kernel_rfl
 rw [run_sliceAt_array_all W 24 ⟨g, k, none⟩ (by rw [hal, hel]; exact Tryz.underlying24), hal, hel, Tryz.sizeOf5]
 rfl
theorem quiet_slice32o {o : Oper} {ev : Operand → Value} {V : World} (x : Operand) (g k : Nat) (hx : ev x = .pointer (some ⟨g, k, none⟩)) (ho : o.op = .slice 24 x none none none) : (execOp ev o).run Tryz.prog V = .ok (.value (.slice (some ⟨g, k, none⟩) 32 32)) V := by
 have := slice32o g k V
 unfold execOp
 simp only [ho, hx, Option.map_none, Sem.run_bind, this, Sem.run_pure, Result.andThen_ok]
theorem sec_fst {w : World} {g t : Nat} {f k : List UInt8} (hf : f.length = 32) (h : Blk w g t (bytesA (f ++ k))) : ∀ j v, (bytesA f)[j]? = some v → w.cell? ⟨g, 0 + j, none⟩ = some v := fun j v hj => by
 have := blk_src0 h 32 j v (by rw [List.take_append_of_le_length (by omega), List.take_of_length_le (by omega)]; simpa [bytesA] using hj)
 have e : (⟨g, 0, none⟩ : Addr).add j = ⟨g, 0 + j, none⟩ := by unfold Addr.add; split <;> simp_all
 rwa [e] at this
theorem sec_snd {w : World} {g t : Nat} {f k : List UInt8} (hf : f.length = 32) (hk : k.length = 32) (h : Blk w g t (bytesA (f ++ k))) : Reads w w.heap.size 1 (some ⟨g, 32, none⟩) 32 (Lib.byteCells k) := by
 refine ⟨by rw [Lib.byteCells_length, hk], fun _ => ⟨_, rfl, h.lt, ?_⟩⟩
 have := blk_src h 32
 rwa [show 32 = f.length from hf.symm, List.drop_left, hf] at this
theorem reads32 {w : World} {g t : Nat} {l : List UInt8} (h : Blk w g t (bytesA l)) {n : Nat} (hl : l.length = n) : Reads w w.heap.size 1 (some ⟨g, 0, none⟩) n (Lib.byteCells l) := by
 have := reads_blk h
 rwa [hl] at this
set_option maxHeartbeats 4000000 in
theorem restOf_any (n : Nat) (ls : List (List UInt8)) (v : Value) (w : World) (hr : RowsV n ls v w) (hN : ls.flatten.length ≤ 1000000) (hn : n ≤ 1000) (hQ : Q8 w) :
  Calls Tryz.prog 14 #[v] w fun e w' => e = .returned (.agg (bytesA (fbytes (restN ls.flatten)))) ∧ Below w.heap.size w w' := by
 obtain ⟨A, B, rfl, hB, hr⟩ := hr
 obtain ⟨s, hs⟩ : ∃ s, Hid (s = sumOf ls.flatten) := ⟨_, hid rfl⟩
 have sl : Hid (s.length = 64) := by rw [hs.out]; exact hid (sumOf_length _)
 obtain ⟨R, hR⟩ : ∃ c, Hid (c = fbytes (restN ls.flatten)) := ⟨_, hid rfl⟩
 have rl : Hid (R.length = 32) := by rw [hR.out]; exact hid (fbytes_length _)
 have CO : Hid (∀ V, Below w.heap.size w V → Calls Tryz.prog 34 #[.slice A n n] V fun e w' => e = .returned (.agg (bytesA s)) ∧ Below V.heap.size V w') := hid fun V hV => by
  rw [hs.out]; exact Sha.of_any A n n B ls V (hr.old hV hB) (Nat.le_trans hB hV.size) (by omega) (by omega)
 have CR : Hid (∀ g V, Below w.heap.size w V → Reads V V.heap.size 1 (some ⟨g, 0, none⟩) 64 (Lib.byteCells s) → Calls Tryz.prog 35 #[.slice (some ⟨g, 0, none⟩) 64 64] V fun e w' => e = .returned (.agg (bytesA R)) ∧ Below V.heap.size V w') := hid fun g V hV h => by
  have := sca_ok8.reduce (some ⟨g, 0, none⟩) 64 64 s V (by omega) (by omega) (by unfold maxLen; omega) h (hQ.old hV)
  rw [hs.out] at this
  rw [hR.out]; exact this
 rw [← hR.out]
 obtain ⟨z, hz⟩ : ∃ z, Hid (z = bytesA (List.replicate 32 0)) := ⟨_, hid rfl⟩
 have hz0 : ∀ W, (zeroValue 24).run Tryz.prog W = .ok (.agg z) W := by rw [hz.out]; exact zero32
 have hzs : Hid (z.size = (bytesA R).size) := by rw [hz.out, bytesA_size, bytesA_size, rl.out]; exact hid rfl
 obtain ⟨y, hy⟩ : ∃ z, Hid (z = bytesA (List.replicate 64 0)) := ⟨_, hid rfl⟩
 have hy0 : ∀ W, (zeroValue 28).run Tryz.prog W = .ok (.agg y) W := by rw [hy.out]; exact zero64
 have hys : Hid (y.size = (bytesA s).size) := by rw [hy.out, bytesA_size, bytesA_size, sl.out]; exact hid rfl
 have B2 := hid (Blk.new w 24 z)
 have HB := hid ((Below.refl w.heap.size w).alloc (Nat.le_refl _) (.cells z 24))
 clear hz hy hs hR hr hN hn hB hQ
 go_enter Tryz.func14, Tryz.ntmps14
 go_upto_region 1 with fail
 generalize w.alloc (.cells z 24) = W at *
 (try simp only [Act.put, zA, zB, zC])
 refine wp_R [4, 5, 3] [Rk.val (.slice A n n), Rk.val (.agg (bytesA s)), Rk.fresh 28 y] rfl (by kernel_rfl) (by kernel_rfl) (by kernel_rfl) (by kernel_rfl) ?hg1 _ (by rfl) ?hf1
 case hg1 =>
  refine gr_val rfl (fun a V H K Q hK => op_quiet (quiet_move (.tmp 0) (H.old 0) (.inl (by kernel_rfl))) hK) ?_
  refine gr_val rfl (fun a V H K Q hK => op_callK #[.tmp 4] #[.slice A n n] (map1 (H.rel 0 4 rfl)) (CO.out V (HB.out.trans (H.frame.mono HB.out.size))) hK) ?_
  refine gr_fresh rfl (by kernel_rfl) hy0 ?_
  exact gr_nil
 case hf1 =>
 intro x V hF
 have e0 : x 0 = .slice A n n := hF.rel 0 _ rfl
 have e1 : x 1 = .agg (bytesA s) := hF.rel 1 _ rfl
 obtain ⟨g3, e2, lg3, bg3⟩ := hF.new 2 _ _ rfl
 have hbf := hF.frame
 clear hF
 simp only [Sch.finL, zA, zB, zC, e0, e1, e2]
 clear e0 e1 e2
 refine wpList_store_row rfl 28 (.tmp 3) (.tmp 5) rfl g3 (bytesA s) rfl rfl 28 y bg3 (inf64 sl.out) hys.out (bytesA_one s) ?_
 have B2_1 := hid ((B2.out.old hbf).rowFar (Nat.ne_of_lt (Nat.lt_of_lt_of_le B2.out.lt lg3)) (bytesA s) : Blk (V.setRow g3 (bytesA s)) w.heap.size 24 z)
 have B3_1 := hid (bg3.row (bytesA s) : Blk (V.setRow g3 (bytesA s)) g3 28 (bytesA s))
 have HB_1 := hid (below_row (HB.out.trans (hbf.mono HB.out.size)) (Nat.le_trans HB.out.size lg3) (bytesA s) : Below w.heap.size w (V.setRow g3 (bytesA s)))
 clear B2 HB hbf lg3 bg3
 generalize (V.setRow g3 (bytesA s)) = W1 at *
 go_upto_region 2 with fail
 (try simp only [Act.put, zA, zB, zC])
 refine wp_R [6, 7] [Rk.val (.slice (some ⟨g3, 0, none⟩) 64 64), Rk.val (.agg (bytesA R))] rfl (by kernel_rfl) (by kernel_rfl) (by kernel_rfl) (by kernel_rfl) ?hg2 _ (by rfl) ?hf2
 case hg2 =>
  refine gr_val rfl (fun a V H K Q hK => op_quiet (quiet_slC (.tmp 3) g3 (H.old 3) (by kernel_rfl)) hK) ?_
  refine gr_val rfl (fun a V H K Q hK => op_callK #[.tmp 6] #[.slice (some ⟨g3, 0, none⟩) 64 64] (map1 (H.rel 0 6 rfl)) (CR.out g3 V (HB_1.out.trans (H.frame.mono HB_1.out.size)) (reads32 (B3_1.out.old H.frame) sl.out)) hK) ?_
  exact gr_nil
 case hf2 =>
 intro x V hF
 have e0 : x 0 = .slice (some ⟨g3, 0, none⟩) 64 64 := hF.rel 0 _ rfl
 have e1 : x 1 = .agg (bytesA R) := hF.rel 1 _ rfl
 have hbf := hF.frame
 clear hF
 simp only [Sch.finL, zA, zB, zC, e0, e1]
 clear e0 e1
 refine wpList_store_row rfl 24 (.tmp 2) (.tmp 7) rfl w.heap.size (bytesA R) rfl rfl 24 z (B2_1.out.old hbf) (inf32 rl.out) hzs.out (bytesA_one R) ?_
 have F2 := hid ((B2_1.out.old hbf).row (bytesA R))
 have HF := hid (below_row (HB_1.out.trans (hbf.mono HB_1.out.size)) (Nat.le_refl _) (bytesA R))
 clear B2_1 B3_1 HB_1 hbf
 go_wp2_with fail
 refine bodyPost_ret (v := .agg (bytesA R)) ?_ rfl ⟨rfl, HF.out⟩
 exact results_cell_row Tryz.results14 _ _ w.heap.size 24 _ (0, 0) _ rfl F2.out Tryz.underlying24 rfl (inf32 rl.out)
set_option maxHeartbeats 4000000 in
theorem public_any (f k : List UInt8) (hfl : f.length = 32) (hkl : k.length = 32) (w : World) (hQ : Q8 w) :
  Calls Tryz.prog 13 #[.agg (bytesA (f ++ k))] w fun e w' => e = .returned (.agg (bytesA (ptL (pmul (bval f) pbase)))) ∧ Below w.heap.size w w' := by
 obtain ⟨v, hv⟩ := named (bval f)
 have hv2 : v < 2 ^ 256 := by rw [hv.out]; exact bval_256 hfl
 obtain ⟨p, hp⟩ : ∃ p, Hid (p = pmul v pbase) := ⟨_, hid rfl⟩
 obtain ⟨R, hR⟩ : ∃ c, Hid (c = ptL p) := ⟨_, hid rfl⟩
 have rl : Hid (R.length = 32) := by rw [hR.out]; exact hid (ptL_length _)
 rw [← hv.out, ← hp.out, ← hR.out]
 have HQ := hid hQ
 have CB : Hid (∀ V, Below w.heap.size w V → Calls Tryz.prog 15 #[] V fun e w' => ∃ v, e = .returned v ∧ (∃ c, v = .agg c ∧ PU pbase c) ∧ Below V.heap.size V w') := hid fun V hV => (ptOk8.base V (HQ.out.old hV)).mono fun e w' ⟨c, h1, h2, h3⟩ => ⟨_, h1, ⟨c, rfl, h2⟩, h3⟩
 have CT : Hid (∀ c V, PU pbase c → Below w.heap.size w V → Calls Tryz.prog 16 #[.agg c, .agg (bytesA f)] V fun e w' => ∃ v, e = .returned v ∧ (∃ c, v = .agg c ∧ PU p c) ∧ Below V.heap.size V w') := hid fun c V hc hV => by
  have := ptOk8.times v V hv2 hc (HQ.out.old hV)
  rw [hv.out, fbytes_bval hfl, ← hv.out, ← hp.out] at this
  exact this.mono fun e w' ⟨c, h1, h2, h3⟩ => ⟨_, h1, ⟨c, rfl, h2⟩, h3⟩
 have CY : Hid (∀ c V, PU p c → Below w.heap.size w V → Calls Tryz.prog 17 #[.agg c] V fun e w' => e = .returned (.agg (bytesA R)) ∧ Below V.heap.size V w') := hid fun c V hc hV => by
  rw [hR.out]; exact ptOk8.bytes V hc (HQ.out.old hV)
 obtain ⟨z, hz⟩ : ∃ z, Hid (z = bytesA (List.replicate 32 0)) := ⟨_, hid rfl⟩
 have hz0 : ∀ W, (zeroValue 24).run Tryz.prog W = .ok (.agg z) W := by rw [hz.out]; exact zero32
 have hzs : Hid (z.size = (bytesA R).size) := by rw [hz.out, bytesA_size, bytesA_size, rl.out]; exact hid rfl
 have fl := hid hfl
 have kl := hid hkl
 obtain ⟨b1, b2, hb⟩ := two_blks w (bytesA (f ++ k)) z 36 24
 have B1 := hid b1
 have B2 := hid b2
 have HB := hid hb
 clear b1 b2 hb hz hfl hkl hv hv2 hp hR hQ
 go_enter Tryz.func13, Tryz.ntmps13
 go_upto_region 1 with fail
 generalize (w.alloc (.cells (bytesA (f ++ k)) 36)).alloc (.cells z 24) = W at *
 (try simp only [Act.put, zA, zB, zC])
 refine wp_R [3, 4, 5, 6, 7] [Rk.is (fun v _ => ∃ c, v = .agg c ∧ PU pbase c) (fun _ _ _ h _ => h), Rk.val (.pointer (some ⟨w.heap.size, 0, none⟩)), Rk.val (.agg (bytesA f)), Rk.is (fun v _ => ∃ c, v = .agg c ∧ PU p c) (fun _ _ _ h _ => h), Rk.val (.agg (bytesA R))] rfl (by kernel_rfl) (by kernel_rfl) (by kernel_rfl) (by kernel_rfl) ?hg1 _ (by rfl) ?hf1
 case hg1 =>
  refine gr_is rfl (fun a V H K Q hK => op_callR #[] #[] map0 (CB.out V (HB.out.trans (H.frame.mono HB.out.size))) hK) ?_
  refine gr_val rfl (fun a V H K Q hK => op_quiet (quiet_field _ (.tmp 1) 0 _ _ (H.old 1) (fs0 _) rfl) hK) ?_
  refine gr_val rfl (fun a V H K Q hK => op_quiet (quiet_load_off 24 (.tmp 4) _ _ (H.rel 1 4 rfl) (bytesA f) _ (sec_fst fl.out (B1.out.old H.frame)) Tryz.underlying24 rfl (inf32 fl.out) (by kernel_rfl)) hK) ?_
  refine gr_is rfl (fun a V H K Q hK => by
    obtain ⟨c, ec, hc⟩ : ∃ c, a.eval (.tmp 3) = .agg c ∧ PU pbase c := (H.rel 0 3 rfl)
    exact op_callR #[.tmp 3, .tmp 5] #[.agg c, .agg (bytesA f)] (map2 ec (H.rel 2 5 rfl)) (CT.out c V hc (HB.out.trans (H.frame.mono HB.out.size))) hK) ?_
  refine gr_val rfl (fun a V H K Q hK => by
    obtain ⟨c, ec, hc⟩ : ∃ c, a.eval (.tmp 6) = .agg c ∧ PU p c := (H.rel 3 6 rfl)
    exact op_callK #[.tmp 6] #[.agg c] (map1 ec) (CY.out c V hc (HB.out.trans (H.frame.mono HB.out.size))) hK) ?_
  exact gr_nil
 case hf1 =>
 intro x V hF
 obtain ⟨c3, e0, p3⟩ : ∃ c, x 0 = .agg c ∧ _ := hF.rel 0 _ rfl
 have e1 : x 1 = .pointer (some ⟨w.heap.size, 0, none⟩) := hF.rel 1 _ rfl
 have e2 : x 2 = .agg (bytesA f) := hF.rel 2 _ rfl
 obtain ⟨c6, e3, p6⟩ : ∃ c, x 3 = .agg c ∧ _ := hF.rel 3 _ rfl
 have e4 : x 4 = .agg (bytesA R) := hF.rel 4 _ rfl
 have hbf := hF.frame
 clear hF
 simp only [Sch.finL, zA, zB, zC, e0, e1, e2, e3, e4]
 clear e0 e1 e2 e3 e4
 refine wpList_store_row rfl 24 (.tmp 2) (.tmp 7) rfl (w.heap.size + 1) (bytesA R) rfl rfl 24 z (B2.out.old hbf) (inf32 rl.out) hzs.out (bytesA_one R) ?_
 have F2 := hid ((B2.out.old hbf).row (bytesA R))
 have HF := hid (below_row (HB.out.trans (hbf.mono HB.out.size)) (show w.heap.size ≤ (w.heap.size + 1) by omega) (bytesA R))
 clear B1 B2 HB hbf
 go_wp2_with fail
 refine bodyPost_ret (v := .agg (bytesA R)) ?_ rfl ⟨rfl, HF.out⟩
 exact results_cell_row Tryz.results13 _ _ (w.heap.size + 1) 24 _ (0, 0) _ rfl F2.out Tryz.underlying24 rfl (inf32 rl.out)
theorem byte_of (l : List UInt8) (i : Nat) (h : i < l.length) : (bytesA l)[i]? = some (.int .u8 (((l.getD i 0).toNat : Nat) : Int)) := bytesA_get _ _ h
set_option maxHeartbeats 4000000 in
theorem secretOf_any (A : Option Addr) (n c : Nat) (l : List UInt8) (w : World) (hr : Reads w w.heap.size 1 A n (Lib.byteCells l)) (hc : n ≤ c) (hn : n ≤ 1000) :
  Calls Tryz.prog 12 #[.slice A n c] w fun e w' => e = .returned (.agg (bytesA (secL l ++ preL l))) ∧ Below w.heap.size w w' := by
 have hl : l.length = n := by have := hr.1; rw [Lib.byteCells_length] at this; omega
 obtain ⟨s, hs⟩ : ∃ s, Hid (s = sumOf l) := ⟨_, hid rfl⟩
 have sl : s.length = 64 := by rw [hs.out]; exact sumOf_length _
 obtain ⟨f, hf⟩ : ∃ f, Hid (f = s.take 32) := ⟨_, hid rfl⟩
 obtain ⟨k, hk⟩ : ∃ f, Hid (f = preL l) := ⟨_, hid rfl⟩
 have hk2 : s.drop 32 = k := by rw [hk.out, hs.out]; rfl
 have fl : Hid (f.length = 32) := by rw [hf.out, List.length_take, sl]; exact hid rfl
 have kl : Hid (k.length = 32) := by rw [hk.out]; exact hid (preL_length _)
 have CO : Hid (∀ A' B V, B ≤ V.heap.size → RowsR V B A' 1 [l] → Calls Tryz.prog 34 #[.slice A' 1 1] V fun e w' => e = .returned (.agg (bytesA s)) ∧ Below V.heap.size V w') := hid fun A' B V hB h => by
  have := Sha.of_any A' 1 1 B [l] V h hB (by simp; omega) (by omega)
  rw [show [l].flatten = l by simp] at this
  rw [hs.out]; exact this
 have CH : Hid (∀ V, Calls Tryz.prog 27 #[.agg (bytesA s)] V fun e w' => e = .returned (.tuple #[.agg (bytesA f), .agg (bytesA k)]) ∧ Below V.heap.size V w') := hid fun V => by
  have := halved_any s sl V
  rwa [hk2, ← hf.out] at this
 obtain ⟨x0, hx0⟩ := named (f.getD 0 0).toNat
 obtain ⟨x3, hx3⟩ := named (f.getD 31 0).toNat
 have x02 : x0 < 256 := by rw [hx0.out]; exact (f.getD 0 0).toNat_lt
 have x32 : x3 < 256 := by rw [hx3.out]; exact (f.getD 31 0).toNat_lt
 obtain ⟨r0, hr0⟩ := named (x0 - x0 % 8)
 obtain ⟨r1, hr1⟩ := named (x3 % 128)
 obtain ⟨r2, hr2⟩ := named (r1 % 64 + 64)
 have a0 : bits .andNot .u8 (x0 : Int) 7 = (r0 : Int) := by rw [hr0.out]; exact sec_first ⟨x0, x02⟩
 have a1 : bits .andNot .u8 (x3 : Int) 128 = (r1 : Int) := by rw [hr1.out]; exact sec_cut ⟨x3, x32⟩
 have a2 : bits .or .u8 (r1 : Int) 64 = (r2 : Int) := by rw [hr2.out]; exact sec_set ⟨r1, by rw [hr1.out]; omega⟩
 have n0 : (UInt8.ofNat r0).toNat = r0 := by rw [UInt8.toNat_ofNat', hr0.out]; omega
 have n1 : (UInt8.ofNat r1).toNat = r1 := by rw [UInt8.toNat_ofNat', hr1.out]; omega
 have n2 : (UInt8.ofNat r2).toNat = r2 := by rw [UInt8.toNat_ofNat', hr2.out]; omega
 obtain ⟨f1, hf1⟩ : ∃ f1, Hid (f1 = f.set 0 (UInt8.ofNat r0)) := ⟨_, hid rfl⟩
 obtain ⟨f2, hf2⟩ : ∃ f1', Hid (f1' = f1.set 31 (UInt8.ofNat r1)) := ⟨_, hid rfl⟩
 obtain ⟨f3, hf3⟩ : ∃ f1', Hid (f1' = f2.set 31 (UInt8.ofNat r2)) := ⟨_, hid rfl⟩
 have f1l : f1.length = 32 := by rw [hf1.out, List.length_set]; exact fl.out
 have f2l : f2.length = 32 := by rw [hf2.out, List.length_set]; exact f1l
 have f3l : Hid (f3.length = 32) := by rw [hf3.out, List.length_set]; exact hid f2l
 have s1 : Hid ((bytesA f).setIfInBounds 0 (.int .u8 (r0 : Int)) = bytesA f1) := by rw [hf1.out, ← bytesA_set, n0]; exact hid rfl
 have s2 : Hid ((bytesA f1).setIfInBounds 31 (.int .u8 (r1 : Int)) = bytesA f2) := by rw [hf2.out, ← bytesA_set, n1]; exact hid rfl
 have s3 : Hid ((bytesA f2).setIfInBounds 31 (.int .u8 (r2 : Int)) = bytesA f3) := by rw [hf3.out, ← bytesA_set, n2]; exact hid rfl
 have c0 : Hid ((bytesA f)[0]? = some (.int .u8 (x0 : Int))) := by rw [byte_of _ _ (by rw [fl.out]; omega), hx0.out]; exact hid rfl
 have c1 : Hid ((bytesA f1)[31]? = some (.int .u8 (x3 : Int))) := by
  have e : f1.getD 31 0 = f.getD 31 0 := by rw [hf1.out]; simp [List.getD, List.getElem?_set]
  rw [byte_of _ _ (by rw [f1l]; omega), e, hx3.out]; exact hid rfl
 have c2 : Hid ((bytesA f2)[31]? = some (.int .u8 (r1 : Int))) := by
  have e : f2.getD 31 0 = UInt8.ofNat r1 := by rw [hf2.out]; simp [List.getD, List.getElem?_set, f1l]
  rw [byte_of _ _ (by rw [f2l]; omega), e, n1]; exact hid rfl
 have hsec : secL l = f3 := by
  rw [hf3.out, hf2.out, List.set_set, hf1.out, ← secL_eq l (x := f.getD 0 0) (y := f.getD 31 0) (by rw [hf.out, hs.out]) (by rw [hf.out, hs.out])]
  have e1 : r2 = (f.getD 31 0).toNat % 64 + 64 := by rw [hr2.out, hr1.out, ← hx3.out]; omega
  have e0 : r0 = (f.getD 0 0).toNat - (f.getD 0 0).toNat % 8 := by rw [hr0.out, ← hx0.out]
  rw [e1, e0, hf.out, hs.out]
 rw [hsec, ← hk.out]
 have fk : Hid ((f3 ++ k).length = 64) := hid (by rw [List.length_append, f3l.out, kl.out])
 obtain ⟨z, hz⟩ : ∃ z, Hid (z = bytesA (List.replicate 32 0)) := ⟨_, hid rfl⟩
 have hz0 : ∀ W, (zeroValue 24).run Tryz.prog W = .ok (.agg z) W := by rw [hz.out]; exact zero32
 have hzs : Hid (z.size = 32) := by rw [hz.out, bytesA_size]; exact hid rfl
 obtain ⟨y, hy⟩ : ∃ z, Hid (z = bytesA (List.replicate 64 0)) := ⟨_, hid rfl⟩
 have hy0 : ∀ W, (zeroValue 36).run Tryz.prog W = .ok (.agg y) W := by rw [hy.out]; exact zeroC
 have hys : Hid (y.size = (bytesA (f3 ++ k)).size) := by rw [hy.out, bytesA_size, bytesA_size, fk.out]; exact hid rfl
 have B2 := hid (Blk.new w 36 y)
 have HB := hid ((Below.refl w.heap.size w).alloc (Nat.le_refl _) (.cells y 36))
 have HR := hid hr
 have HC := hid hc
 have A0 := hid a0
 have A1 := hid a1
 have A2 := hid a2
 clear hz hy hs hr hn hc hl hf hk hk2 sl hx0 hx3 x02 x32 hr0 hr1 hr2 n0 n1 n2 hf1 hf2 hf3 f1l f2l hsec a0 a1 a2
 go_enter Tryz.func12, Tryz.ntmps12
 go_upto_region 1 with fail
 generalize w.alloc (.cells y 36) = W at *
 (try simp only [Act.put, zA, zB, zC])
 refine wp_R [6, 7, 8, 9, 5, 10, 11, 3, 4] [Rk.val (.slice A n c), Rk.is (RowsV 1 [l]) (fun _ _ _ h hb => RowsV.keep _ _ _ h hb), Rk.val (.agg (bytesA s)), Rk.val (.tuple #[.agg (bytesA f), .agg (bytesA k)]), Rk.val (.tuple #[.agg (bytesA f), .agg (bytesA k)]), Rk.val (.agg (bytesA f)), Rk.val (.agg (bytesA k)), Rk.fresh 24 z, Rk.fresh 24 z] rfl (by kernel_rfl) (by kernel_rfl) (by kernel_rfl) (by kernel_rfl) ?hg1 _ (by rfl) ?hf1
 case hg1 =>
  refine gr_val rfl (fun a V H K Q hK => op_quiet (quiet_move (.tmp 0) (H.old 0) (.inl (by kernel_rfl))) hK) ?_
  refine gr_is rfl (fun a V H K Q hK => op_rows1 (.tmp 6) A n c l ((HR.out.below (HB.out.trans (H.frame.mono HB.out.size))).more (HB.out.trans (H.frame.mono HB.out.size)).size) HC.out (H.rel 0 6 rfl) (by kernel_rfl) hK) ?_
  refine gr_val rfl (fun a V H K Q hK => by
    obtain ⟨A7, B7, e7, h7, k7⟩ : RowsV 1 [l] (a.eval (.tmp 7)) V := (H.rel 1 7 rfl)
    exact op_callK #[.tmp 7] #[.slice A7 1 1] (map1 e7) (CO.out A7 B7 V h7 k7) hK) ?_
  refine gr_val rfl (fun a V H K Q hK => op_callK #[.tmp 8] #[.agg (bytesA s)] (map1 (H.rel 2 8 rfl)) (CH.out V) hK) ?_
  refine gr_val rfl (fun a V H K Q hK => op_quiet (quiet_move (.tmp 9) (H.rel 3 9 rfl) (.inl (by kernel_rfl))) hK) ?_
  refine gr_val rfl (fun a V H K Q hK => op_quiet (quiet_extract (t := #[.agg (bytesA f), .agg (bytesA k)]) (.tmp 5) 0 (H.rel 4 5 rfl) rfl (by kernel_rfl)) hK) ?_
  refine gr_val rfl (fun a V H K Q hK => op_quiet (quiet_extract (t := #[.agg (bytesA f), .agg (bytesA k)]) (.tmp 5) 1 (H.rel 4 5 rfl) rfl (by kernel_rfl)) hK) ?_
  refine gr_fresh rfl (by kernel_rfl) hz0 ?_
  refine gr_fresh rfl (by kernel_rfl) hz0 ?_
  exact gr_nil
 case hf1 =>
 intro x V hF
 have e0 : x 0 = .slice A n c := hF.rel 0 _ rfl
 obtain ⟨_, _, e1, _, _⟩ : RowsV 1 [l] (x 1) V := hF.rel 1 _ rfl
 have e2 : x 2 = .agg (bytesA s) := hF.rel 2 _ rfl
 have e3 : x 3 = .tuple #[.agg (bytesA f), .agg (bytesA k)] := hF.rel 3 _ rfl
 have e4 : x 4 = .tuple #[.agg (bytesA f), .agg (bytesA k)] := hF.rel 4 _ rfl
 have e5 : x 5 = .agg (bytesA f) := hF.rel 5 _ rfl
 have e6 : x 6 = .agg (bytesA k) := hF.rel 6 _ rfl
 obtain ⟨g3, e7, lg3, bg3⟩ := hF.new 7 _ _ rfl
 obtain ⟨g4, e8, lg4, bg4⟩ := hF.new 8 _ _ rfl
 have ng3_4 : g3 ≠ g4 := fun e => hF.apart 7 8 _ _ _ _ rfl rfl (by decide) (by rw [e7, e8, e])
 have ng4_3 : g4 ≠ g3 := fun e => hF.apart 8 7 _ _ _ _ rfl rfl (by decide) (by rw [e8, e7, e])
 have hbf := hF.frame
 clear hF
 simp only [Sch.finL, zA, zB, zC, e0, e1, e2, e3, e4, e5, e6, e7, e8]
 clear e0 e1 e2 e3 e4 e5 e6 e7 e8
 refine wpList_store_row rfl 24 (.tmp 3) (.tmp 10) rfl g3 (bytesA f) rfl rfl 24 z bg3 (inf32 fl.out) (by rw [hzs.out, bytesA_size, fl.out]) (bytesA_one f) ?_
 refine wpList_store_row rfl 24 (.tmp 4) (.tmp 11) rfl g4 (bytesA k) rfl rfl 24 z (bg4.rowFar ng4_3 (bytesA f)) (inf32 kl.out) (by rw [hzs.out, bytesA_size, kl.out]) (bytesA_one k) ?_
 have LG3 := hid (Nat.le_trans HB.out.size lg3)
 have NE := hid (Nat.ne_of_lt (Nat.lt_of_lt_of_le B2.out.lt lg3))
 have NG := hid ng4_3
 have B2_1 := hid (((B2.out.old hbf).rowFar (Nat.ne_of_lt (Nat.lt_of_lt_of_le B2.out.lt lg3)) (bytesA f)).rowFar (Nat.ne_of_lt (Nat.lt_of_lt_of_le B2.out.lt lg4)) (bytesA k) : Blk ((V.setRow g3 (bytesA f)).setRow g4 (bytesA k)) w.heap.size 36 y)
 have B3_1 := hid ((bg3.row (bytesA f)).rowFar ng3_4 (bytesA k) : Blk ((V.setRow g3 (bytesA f)).setRow g4 (bytesA k)) g3 24 (bytesA f))
 have B4_1 := hid ((bg4.rowFar ng4_3 (bytesA f)).row (bytesA k) : Blk ((V.setRow g3 (bytesA f)).setRow g4 (bytesA k)) g4 24 (bytesA k))
 have HB_1 := hid (below_row (below_row (HB.out.trans (hbf.mono HB.out.size)) (Nat.le_trans HB.out.size lg3) (bytesA f)) (Nat.le_trans HB.out.size lg4) (bytesA k) : Below w.heap.size w ((V.setRow g3 (bytesA f)).setRow g4 (bytesA k)))
 clear B2 HB hbf lg3 lg4 bg3 bg4 ng3_4 ng4_3
 generalize ((V.setRow g3 (bytesA f)).setRow g4 (bytesA k)) = W1 at *
 have hcell := (B3_1.out.cell 0).trans c0.out
 have hfz := B3_1.out.frozen 0
 have hal : Tryz.prog.arrayLen 24 = 32 := by kernel_rfl
 have hel : Tryz.prog.elem 24 = 5 := by kernel_rfl
 have hbit := A0.out
 have M2 := hid (B2_1.out.far (p := ⟨g3, 0, none⟩) NE.out (.int .u8 (r0 : Int)))
 have q3 := B3_1.out.set_ 0 (.int .u8 (r0 : Int))
 rw [s1.out] at q3
 have M3 := hid q3
 have M4 := hid (B4_1.out.far (p := ⟨g3, 0, none⟩) NG.out (.int .u8 (r0 : Int)))
 have MB := hid (HB_1.out.setCell (p := ⟨g3, 0, none⟩) LG3.out (.int .u8 (r0 : Int)))
 clear q3
 go_upto_region 3 with fail
 generalize W1.setCell ⟨g3, 0, none⟩ (.int .u8 (r0 : Int)) = W2 at *
 (try simp only [Act.put, zA, zB, zC])
 clear hcell hfz hal hel hbit B2_1 B3_1 B4_1 HB_1
 have B2_W2 := M2
 have B3_W2 := M3
 have B4_W2 := M4
 have HB_W2 := MB
 clear M2 M3 M4 MB
 have hcell := (B3_W2.out.cell 31).trans c1.out
 have hfz := B3_W2.out.frozen 31
 have hal : Tryz.prog.arrayLen 24 = 32 := by kernel_rfl
 have hel : Tryz.prog.elem 24 = 5 := by kernel_rfl
 have hbit := A1.out
 have M2 := hid (B2_W2.out.far (p := ⟨g3, 31, none⟩) NE.out (.int .u8 (r1 : Int)))
 have q3 := B3_W2.out.set_ 31 (.int .u8 (r1 : Int))
 rw [s2.out] at q3
 have M3 := hid q3
 have M4 := hid (B4_W2.out.far (p := ⟨g3, 31, none⟩) NG.out (.int .u8 (r1 : Int)))
 have MB := hid (HB_W2.out.setCell (p := ⟨g3, 31, none⟩) LG3.out (.int .u8 (r1 : Int)))
 clear q3
 go_upto_region 4 with fail
 generalize W2.setCell ⟨g3, 31, none⟩ (.int .u8 (r1 : Int)) = W3 at *
 (try simp only [Act.put, zA, zB, zC])
 clear hcell hfz hal hel hbit B2_W2 B3_W2 B4_W2 HB_W2
 have B2_W3 := M2
 have B3_W3 := M3
 have B4_W3 := M4
 have HB_W3 := MB
 clear M2 M3 M4 MB
 have hcell := (B3_W3.out.cell 31).trans c2.out
 have hfz := B3_W3.out.frozen 31
 have hal : Tryz.prog.arrayLen 24 = 32 := by kernel_rfl
 have hel : Tryz.prog.elem 24 = 5 := by kernel_rfl
 have hbit := A2.out
 have M2 := hid (B2_W3.out.far (p := ⟨g3, 31, none⟩) NE.out (.int .u8 (r2 : Int)))
 have q3 := B3_W3.out.set_ 31 (.int .u8 (r2 : Int))
 rw [s3.out] at q3
 have M3 := hid q3
 have M4 := hid (B4_W3.out.far (p := ⟨g3, 31, none⟩) NG.out (.int .u8 (r2 : Int)))
 have MB := hid (HB_W3.out.setCell (p := ⟨g3, 31, none⟩) LG3.out (.int .u8 (r2 : Int)))
 clear q3
 go_upto_region 5 with fail
 generalize W3.setCell ⟨g3, 31, none⟩ (.int .u8 (r2 : Int)) = W4 at *
 (try simp only [Act.put, zA, zB, zC])
 clear hcell hfz hal hel hbit B2_W3 B3_W3 B4_W3 HB_W3
 have B2_W4 := M2
 have B3_W4 := M3
 have B4_W4 := M4
 have HB_W4 := MB
 clear M2 M3 M4 MB
 refine wp_R [24, 25, 26] [Rk.val (.agg (bytesA f3)), Rk.val (.agg (bytesA k)), Rk.val (.agg (bytesA (f3 ++ k)))] rfl (by kernel_rfl) (by kernel_rfl) (by kernel_rfl) (by kernel_rfl) ?hg2 _ (by rfl) ?hf2
 case hg2 =>
  refine gr_val rfl (fun a V H K Q hK => op_quiet (quiet_load_row 24 (.tmp 3) g3 (H.old 3) 24 (bytesA f3) _ (B3_W4.out.old (H.frame)) Tryz.underlying24 rfl (inf32 f3l.out) (by kernel_rfl)) hK) ?_
  refine gr_val rfl (fun a V H K Q hK => op_quiet (quiet_load_row 24 (.tmp 4) g4 (H.old 4) 24 (bytesA k) _ (B4_W4.out.old (H.frame)) Tryz.underlying24 rfl (inf32 kl.out) (by kernel_rfl)) hK) ?_
  refine gr_val rfl (fun a V H K Q hK => op_quiet (quiet_build_to 36 #[(0, .tmp 24), (1, .tmp 25)] (by kernel_rfl) [(0, .agg (bytesA f3)), (1, .agg (bytesA k))] (bld2 (H.rel 0 24 rfl) (H.rel 1 25 rfl)) (bytesA (f3 ++ k)) (built_sec f3l.out kl.out)) hK) ?_
  exact gr_nil
 case hf2 =>
 intro x V hF
 have e0 : x 0 = .agg (bytesA f3) := hF.rel 0 _ rfl
 have e1 : x 1 = .agg (bytesA k) := hF.rel 1 _ rfl
 have e2 : x 2 = .agg (bytesA (f3 ++ k)) := hF.rel 2 _ rfl
 have hbf := hF.frame
 clear hF
 simp only [Sch.finL, zA, zB, zC, e0, e1, e2]
 clear e0 e1 e2
 refine wpList_store_row rfl 36 (.tmp 2) (.tmp 26) rfl w.heap.size (bytesA (f3 ++ k)) rfl rfl 36 y (B2_W4.out.old hbf) (infC fk.out) hys.out (bytesA_one _) ?_
 have F2 := hid ((B2_W4.out.old hbf).row (bytesA (f3 ++ k)))
 have HF := hid (below_row (HB_W4.out.trans (hbf.mono HB_W4.out.size)) (Nat.le_refl _) (bytesA (f3 ++ k)))
 clear B2_W4 B3_W4 B4_W4 HB_W4 hbf
 go_wp2_with fail
 refine bodyPost_ret (v := .agg (bytesA (f3 ++ k))) ?_ rfl ⟨rfl, HF.out⟩
 exact results_cell_row Tryz.results12 _ _ w.heap.size 36 _ (0, 0) _ rfl F2.out Tryz.underlying36 rfl (infC fk.out)
end Go.Proofs.YtcfogpeinjehbaaGreatDoor
end

section
set_option maxRecDepth 100000
namespace Go.Proofs.YtcfogpeinjehbaaGreatDoor
open Go Go.Proofs F5
open Sha (sumOf sumOf_length)
def zN : Nat := 39325648866980652792715009169219496062012184734522019333892538943312776480336
def zY : Nat := 18930617471878267742194159801949745215346600387277955685031939302387136031291
theorem sec_zero : secN (List.replicate 32 0) = zN := by decide +kernel
theorem zero_mul : nm zY (mulN 255 zN baseX baseY 1 0 1 1).2.2 = (mulN 255 zN baseX baseY 1 0 1 1).2.1 := by decide +kernel
theorem rep_y {p : Pt} {x y z v : Nat} (h : RepN p x y z) (e : nm v z = y) : p.y = toF v := by
 obtain ⟨hz, _, hy⟩ := h
 rw [← e, toF_nm] at hy
 exact (fp_cancel hz hy).symm
theorem repN_base : RepN pbase baseX baseY 1 := by
 have h := rep_one pbase
 have h1 : toF 1 = 1 := by decide
 unfold RepN; rw [h1]; exact h
theorem repN_zero : RepN pzero 0 1 1 := by
 have h := rep_zero
 have h1 : toF 1 = 1 := by decide
 have h2 : toF 0 = 0 := by decide
 unfold RepN; rw [h1, h2]; exact h
theorem zero_y : (pmul zN pbase).y = toF zY := by
 have h := mulN_ok 255 zN baseX baseY 1 0 1 1 pbase pzero (by decide) repN_base repN_zero
 rw [zero_padd] at h
 exact rep_y h zero_mul
theorem low_byte (y b i : Nat) (hi : i < 31) : (y + 2 ^ 255 * b) / 256 ^ i % 256 = y / 256 ^ i % 256 := by
 have e : (2 : Nat) ^ 255 = 256 ^ i * (256 * 2 ^ (247 - 8 * i)) := by
  rw [show (256 : Nat) = 2 ^ 8 from rfl, ← Nat.pow_mul, ← Nat.pow_add, ← Nat.pow_add]
  congr 1; omega
 rw [e, Nat.mul_assoc, Nat.add_mul_div_left _ _ (Nat.pow_pos (by decide)), Nat.mul_assoc, Nat.add_mul_mod_self_left]
theorem enc_of_y {p : Pt} {v : Nat} (h : p.y = toF v) (hv : v < P) : enc p = v + 2 ^ 255 * (p.x.val % 2) := by
 have hy : p.y.val = v := by rw [h]; exact Nat.mod_eq_of_lt hv
 unfold enc
 rw [hy]
theorem zY_lt : zY < P := by decide
theorem pub_zero (i : Nat) (hi : i < 4) (x : Nat) (hx : zY / 256 ^ i % 256 = x) : ((pubL (List.replicate 32 0)).getD i 0).toNat = x := by
 have h := zero_y
 unfold pubL ptL
 rw [sec_zero]
 generalize pmul zN pbase = p at h ⊢
 rw [fbytes_get _ _ (by omega), enc_of_y h zY_lt, low_byte _ _ _ (by omega), hx]
end Go.Proofs.YtcfogpeinjehbaaGreatDoor
end

section
set_option maxRecDepth 100000
namespace Go.Proofs.YtcfogpeinjehbaaGreatDoor
open Go Go.Proofs Go.RowKit F5
def pubO (l : List UInt8) : List UInt8 := if l.length = 32 then pubL l else List.replicate 32 0
def sigO (l lt : List UInt8) : List UInt8 := if l.length = 32 then signL l lt else List.replicate 64 0
def errO (l : List UInt8) : Int := if l.length = 32 then 0 else 1
theorem pubO_length (l : List UInt8) : (pubO l).length = 32 := by unfold pubO; split; exact ptL_length _; simp
theorem sigO_length (l lt : List UInt8) : (sigO l lt).length = 64 := by unfold sigO; split; exact signL_length _ _; simp
/-- The program's signatures are as they must be, in worlds of a kind that calls keep. -/
structure EdOk (Q : World → Prop) : Prop where
 old : ∀ {w w' : World}, Q w → Below w.heap.size w w' → Q w'
 pub : ∀ (A : Option Addr) (n c : Nat) (l : List UInt8) (w : World), n ≤ 100 → n ≤ c → c ≤ maxLen → Reads w w.heap.size 1 A n (Lib.byteCells l) → Q w →
  Calls Tryz.prog 6 #[.slice A n c] w fun e w' => e = .returned (.tuple #[.agg (bytesA (pubO l)), .int .i64 (errO l)]) ∧ Below w.heap.size w w'
 sign : ∀ (A : Option Addr) (n c : Nat) (l : List UInt8) (At : Option Addr) (nt ct : Nat) (lt : List UInt8) (w : World), n ≤ 100 → n ≤ c → c ≤ maxLen → Reads w w.heap.size 1 A n (Lib.byteCells l) →
  nt ≤ 500 → nt ≤ ct → ct ≤ maxLen → Reads w w.heap.size 1 At nt (Lib.byteCells lt) → Q w →
  Calls Tryz.prog 7 #[.slice A n c, .slice At nt ct] w fun e w' => e = .returned (.tuple #[.agg (bytesA (sigO l lt)), .int .i64 (errO l)]) ∧ Below w.heap.size w w'
 verify : ∀ (A : Option Addr) (n c : Nat) (l : List UInt8) (At : Option Addr) (nt ct : Nat) (lt : List UInt8) (As : Option Addr) (ns cs : Nat) (ls : List UInt8) (w : World), n ≤ 100 → n ≤ c → c ≤ maxLen → Reads w w.heap.size 1 A n (Lib.byteCells l) →
  nt ≤ 500 → nt ≤ ct → ct ≤ maxLen → Reads w w.heap.size 1 At nt (Lib.byteCells lt) → ns ≤ 100 → ns ≤ cs → cs ≤ maxLen → Reads w w.heap.size 1 As ns (Lib.byteCells ls) → Q w →
  Calls Tryz.prog 10 #[.slice A n c, .slice At nt ct, .slice As ns cs] w fun e w' => e = .returned (.bool (verB l lt ls)) ∧ Below w.heap.size w w'
end Go.Proofs.YtcfogpeinjehbaaGreatDoor
end

section
set_option maxRecDepth 100000
namespace Go.Proofs.YtcfogpeinjehbaaGreatDoor
open Go Go.Proofs Go.RowKit F5
open Sch (wp_R gr_val gr_is gr_fresh gr_nil op_callR Rk)
open Sha (sumOf sumOf_length RowsR)
theorem map3 {ev : Operand → Value} {x y z : Operand} {v u t : Value} (h : ev x = v) (h2 : ev y = u) (h3 : ev z = t) : (#[x, y, z] : Array Operand).map ev = #[v, u, t] := by simp [h, h2, h3]
theorem built32_nil : Tryz.prog.built 24 [] = some (bytesA (List.replicate 32 0)) := by kernel_rfl
theorem built64_nil : Tryz.prog.built 28 [] = some (bytesA (List.replicate 64 0)) := by kernel_rfl
set_option maxHeartbeats 4000000 in
theorem edPublic_any (A : Option Addr) (n c : Nat) (l : List UInt8) (w : World) (hn : n ≤ 100) (hc : n ≤ c) (hr : Reads w w.heap.size 1 A n (Lib.byteCells l)) (hQ : Q8 w) :
  Calls Tryz.prog 6 #[.slice A n c] w fun e w' => e = .returned (.tuple #[.agg (bytesA (pubO l)), .int .i64 (errO l)]) ∧ Below w.heap.size w w' := by
 have hl : l.length = n := by have := hr.1; rw [Lib.byteCells_length] at this; omega
 obtain ⟨z, hz⟩ : ∃ z, Hid (z = bytesA (List.replicate 32 0)) := ⟨_, hid rfl⟩
 have hz0 : ∀ W, (zeroValue 24).run Tryz.prog W = .ok (.agg z) W := by rw [hz.out]; exact zero32
 have hzs : Hid (z.size = 32) := by rw [hz.out, bytesA_size]; exact hid rfl
 have iz : Hid ((Tryz.prog.info? 24).map (·.size) = some z.size ∧ z.all (·.oneCell') = true) := by rw [hz.out]; exact hid ⟨inf32 (by simp), bytesA_one _⟩
 by_cases h32 : ¬ n = 32
 ·have hne : ((n : Int) != 32) = true := by simp; omega
  have e1 : pubO l = List.replicate 32 0 := by unfold pubO; rw [if_neg (by omega)]
  have e2 : errO l = 1 := by unfold errO; rw [if_neg (by omega)]
  rw [e1, e2, ← hz.out]
  have hBN : Hid (Tryz.prog.built 24 [] = some z) := by rw [hz.out]; exact hid built32_nil
  have b1 := hid (Blk.new w 24 z)
  have hb := hid (below_row (g := w.heap.size) ((Below.refl w.heap.size w).alloc (Nat.le_refl _) (.cells z 24)) (Nat.le_refl _) z)
  clear hr hl hz e1 e2 hQ
  go_enter Tryz.func6, Tryz.ntmps6
  go_wp2_with (first | (refine wpList_build_to rfl 24 #[] rfl [] (by simp [Act.eval]) z hBN.out ?_) | (refine wpList_store_row rfl 24 (.tmp 2) (.tmp 7) rfl w.heap.size z rfl rfl 24 z b1.out iz.out.1 rfl iz.out.2 ?_))
  refine bodyPost_ret (v := .tuple #[.agg z, .int .i64 1]) ?_ rfl ⟨rfl, hb.out⟩
  exact results_row_tmp Tryz.results6 _ _ w.heap.size 24 _ _ _ _ rfl rfl (b1.out.row z) Tryz.underlying24 iz.out.1
 obtain rfl : n = 32 := by omega
 obtain ⟨R, hR⟩ : ∃ R, Hid (R = pubL l) := ⟨_, hid rfl⟩
 have rl : Hid (R.length = 32) := by rw [hR.out]; exact hid (ptL_length _)
 have e1 : pubO l = R := by unfold pubO; rw [if_pos hl, hR.out]
 have e2 : errO l = 0 := by unfold errO; rw [if_pos hl]
 rw [e1, e2]
 obtain ⟨S, hS⟩ : ∃ S, Hid (S = bytesA (secL l ++ preL l)) := ⟨_, hid rfl⟩
 have HQ := hid hQ
 have CS : Hid (∀ V, Below w.heap.size w V → Calls Tryz.prog 12 #[.slice A 32 c] V fun e w' => e = .returned (.agg S) ∧ Below V.heap.size V w') := hid fun V hV => by
  rw [hS.out]; exact secretOf_any A 32 c l V ((hr.below hV).more hV.size) hc (by omega)
 have CP : Hid (∀ V, Below w.heap.size w V → Calls Tryz.prog 13 #[.agg S] V fun e w' => e = .returned (.agg (bytesA R)) ∧ Below V.heap.size V w') := hid fun V hV => by
  rw [hS.out, hR.out]; exact public_any _ _ (secL_length l) (preL_length l) V (HQ.out.old hV)
 have B2 := hid (Blk.new w 24 z)
 have HB := hid ((Below.refl w.heap.size w).alloc (Nat.le_refl _) (.cells z 24))
 clear hz hR hS hr hl hn hc hQ e1 e2 h32
 go_enter Tryz.func6, Tryz.ntmps6
 go_upto_region 3 with fail
 generalize w.alloc (.cells z 24) = W at *
 (try simp only [Act.put, zA, zB, zC])
 refine wp_R [8, 9, 10] [Rk.val (.slice A 32 c), Rk.val (.agg S), Rk.val (.agg (bytesA R))] rfl (by kernel_rfl) (by kernel_rfl) (by kernel_rfl) (by kernel_rfl) ?hg1 _ (by rfl) ?hf1
 case hg1 =>
  refine gr_val rfl (fun a V H K Q hK => op_quiet (quiet_move (.tmp 0) (H.old 0) (.inl (by kernel_rfl))) hK) ?_
  refine gr_val rfl (fun a V H K Q hK => op_callK #[.tmp 8] #[.slice A 32 c] (map1 (H.rel 0 8 rfl)) (CS.out V (HB.out.trans (H.frame.mono HB.out.size))) hK) ?_
  refine gr_val rfl (fun a V H K Q hK => op_callK #[.tmp 9] #[.agg S] (map1 (H.rel 1 9 rfl)) (CP.out V (HB.out.trans (H.frame.mono HB.out.size))) hK) ?_
  exact gr_nil
 case hf1 =>
 intro x V hF
 have e0 : x 0 = .slice A 32 c := hF.rel 0 _ rfl
 have e1 : x 1 = .agg S := hF.rel 1 _ rfl
 have e2 : x 2 = .agg (bytesA R) := hF.rel 2 _ rfl
 have hbf := hF.frame
 clear hF
 simp only [Sch.finL, zA, zB, zC, e0, e1, e2]
 clear e0 e1 e2
 refine wpList_store_row rfl 24 (.tmp 2) (.tmp 10) rfl w.heap.size (bytesA R) rfl rfl 24 z (B2.out.old hbf) (inf32 rl.out) (by rw [hzs.out, bytesA_size, rl.out]) (bytesA_one R) ?_
 have F2 := hid ((B2.out.old hbf).row (bytesA R))
 have HF := hid (below_row (HB.out.trans (hbf.mono HB.out.size)) (Nat.le_refl _) (bytesA R))
 clear B2 HB hbf
 go_wp2_with fail
 refine bodyPost_ret (v := .tuple #[.agg (bytesA R), .int .i64 0]) ?_ rfl ⟨rfl, HF.out⟩
 exact results_row_tmp Tryz.results6 _ _ w.heap.size 24 _ _ _ _ rfl rfl F2.out Tryz.underlying24 (inf32 rl.out)
end Go.Proofs.YtcfogpeinjehbaaGreatDoor
end

section
set_option maxRecDepth 100000
namespace Go.Proofs.YtcfogpeinjehbaaGreatDoor
open Go Go.Proofs Go.RowKit F5
open Sch (wp_R gr_val gr_is gr_fresh gr_nil op_callR Rk)
open Sha (sumOf sumOf_length RowsR)
set_option maxHeartbeats 8000000 in
theorem edSign_any (A : Option Addr) (n c : Nat) (l : List UInt8) (At : Option Addr) (nt ct : Nat) (lt : List UInt8) (w : World) (hn : n ≤ 100) (hc : n ≤ c) (hr : Reads w w.heap.size 1 A n (Lib.byteCells l))
  (hnt : nt ≤ 500) (hct : nt ≤ ct) (hrt : Reads w w.heap.size 1 At nt (Lib.byteCells lt)) (hQ : Q8 w) :
  Calls Tryz.prog 7 #[.slice A n c, .slice At nt ct] w fun e w' => e = .returned (.tuple #[.agg (bytesA (sigO l lt)), .int .i64 (errO l)]) ∧ Below w.heap.size w w' := by
 have hl : l.length = n := by have := hr.1; rw [Lib.byteCells_length] at this; omega
 have hlt : lt.length = nt := by have := hrt.1; rw [Lib.byteCells_length] at this; omega
 obtain ⟨y, hy⟩ : ∃ z, Hid (z = bytesA (List.replicate 64 0)) := ⟨_, hid rfl⟩
 have hy0 : ∀ W, (zeroValue 28).run Tryz.prog W = .ok (.agg y) W := by rw [hy.out]; exact zero64
 have hys : Hid (y.size = 64) := by rw [hy.out, bytesA_size]; exact hid rfl
 by_cases h32 : ¬ n = 32
 ·have hne : ((n : Int) != 32) = true := by simp; omega
  have iy : Hid ((Tryz.prog.info? 28).map (·.size) = some y.size ∧ y.all (·.oneCell') = true) := by rw [hy.out]; exact hid ⟨inf64 (by simp), bytesA_one _⟩
  have e1 : sigO l lt = List.replicate 64 0 := by unfold sigO; rw [if_neg (by omega)]
  have e2 : errO l = 1 := by unfold errO; rw [if_neg (by omega)]
  rw [e1, e2, ← hy.out]
  have hBN : Hid (Tryz.prog.built 28 [] = some y) := by rw [hy.out]; exact hid built64_nil
  have b1 := hid (Blk.new w 28 y)
  have hb := hid (below_row (g := w.heap.size) ((Below.refl w.heap.size w).alloc (Nat.le_refl _) (.cells y 28)) (Nat.le_refl _) y)
  clear hr hrt hl hlt hy e1 e2 hQ
  go_enter Tryz.func7, Tryz.ntmps7
  go_wp2_with (first | (refine wpList_build_to rfl 28 #[] rfl [] (by simp [Act.eval]) y hBN.out ?_) | (refine wpList_store_row rfl 28 (.tmp 4) (.tmp 14) rfl w.heap.size y rfl rfl 28 y b1.out iy.out.1 rfl iy.out.2 ?_))
  refine bodyPost_ret (v := .tuple #[.agg y, .int .i64 1]) ?_ rfl ⟨rfl, hb.out⟩
  exact results_row_tmp Tryz.results7 _ _ w.heap.size 28 _ _ _ _ rfl rfl (b1.out.row y) Tryz.underlying28 iy.out.1
 obtain rfl : n = 32 := by omega
 have e2 : errO l = 0 := by unfold errO; rw [if_pos hl]
 obtain ⟨z, hz⟩ : ∃ z, Hid (z = bytesA (List.replicate 32 0)) := ⟨_, hid rfl⟩
 have hz0 : ∀ W, (zeroValue 24).run Tryz.prog W = .ok (.agg z) W := by rw [hz.out]; exact zero32
 have hzs : Hid (z.size = 32) := by rw [hz.out, bytesA_size]; exact hid rfl
 have hyC : ∀ W, (zeroValue 36).run Tryz.prog W = .ok (.agg y) W := by rw [hy.out]; exact zeroC
 obtain ⟨pl, hpl⟩ : ∃ x, Hid (x = pubL l) := ⟨_, hid rfl⟩
 obtain ⟨r, hrr⟩ := named (sigR l lt)
 obtain ⟨p, hp⟩ : ∃ x, Hid (x = pmul r pbase) := ⟨_, hid rfl⟩
 obtain ⟨F, hF⟩ : ∃ x, Hid (x = sigF l lt) := ⟨_, hid rfl⟩
 obtain ⟨k, hkk⟩ := named (sigK l lt)
 obtain ⟨s, hss⟩ := named (sigS l lt)
 obtain ⟨sc, hsc⟩ : ∃ x, Hid (x = secL l) := ⟨_, hid rfl⟩
 obtain ⟨pr, hpr⟩ : ∃ x, Hid (x = preL l) := ⟨_, hid rfl⟩
 have sl : Hid (sc.length = 32) := by rw [hsc.out]; exact hid (secL_length l)
 have prl : Hid (pr.length = 32) := by rw [hpr.out]; exact hid (preL_length l)
 have pll : Hid (pl.length = 32) := by rw [hpl.out]; exact hid (ptL_length _)
 have Fl : Hid (F.length = 32) := by rw [hF.out]; exact hid (ptL_length _)
 have spl : Hid ((sc ++ pr).length = 64) := hid (by rw [List.length_append, sl.out, prl.out])
 have hr2 : r < 2 ^ 256 := by rw [hrr.out]; exact restN_256 _
 have hk2 : k < 2 ^ 256 := by rw [hkk.out]; exact restN_256 _
 have HQ := hid hQ
 have HT := hid hrt
 have HCT := hid hct
 have e1 : sigO l lt = F ++ fbytes s := by unfold sigO; rw [if_pos hl, hF.out, hss.out]; rfl
 have ol : Hid ((F ++ fbytes s).length = 64) := hid (by rw [List.length_append, Fl.out, fbytes_length])
 rw [e1, e2]
 have CS : Hid (∀ V, Below w.heap.size w V → Calls Tryz.prog 12 #[.slice A 32 c] V fun e w' => e = .returned (.agg (bytesA (sc ++ pr))) ∧ Below V.heap.size V w') := hid fun V hV => by
  rw [hsc.out, hpr.out]; exact secretOf_any A 32 c l V ((hr.below hV).more hV.size) hc (by omega)
 have CP : Hid (∀ V, Below w.heap.size w V → Calls Tryz.prog 13 #[.agg (bytesA (sc ++ pr))] V fun e w' => e = .returned (.agg (bytesA pl)) ∧ Below V.heap.size V w') := hid fun V hV => by
  rw [hpl.out, hsc.out, hpr.out]; exact public_any _ _ (secL_length l) (preL_length l) V (HQ.out.old hV)
 have CR1 : Hid (∀ v V, Below w.heap.size w V → RowsV 2 [pr, lt] v V → Calls Tryz.prog 14 #[v] V fun e w' => e = .returned (.agg (bytesA (fbytes r))) ∧ Below V.heap.size V w') := hid fun v V hV h => by
  have := restOf_any 2 [pr, lt] v V h (by simp [prl.out]; omega) (by omega) (HQ.out.old hV)
  rw [show [pr, lt].flatten = pr ++ lt by simp, hpr.out] at this
  rw [hrr.out]; exact this
 have CB : Hid (∀ V, Below w.heap.size w V → Calls Tryz.prog 15 #[] V fun e w' => ∃ v, e = .returned v ∧ (∃ c, v = .agg c ∧ PU pbase c) ∧ Below V.heap.size V w') := hid fun V hV => (ptOk8.base V (HQ.out.old hV)).mono fun e w' ⟨c, h1, h2, h3⟩ => ⟨_, h1, ⟨c, rfl, h2⟩, h3⟩
 have CT : Hid (∀ c V, PU pbase c → Below w.heap.size w V → Calls Tryz.prog 16 #[.agg c, .agg (bytesA (fbytes r))] V fun e w' => ∃ v, e = .returned v ∧ (∃ c, v = .agg c ∧ PU p c) ∧ Below V.heap.size V w') := hid fun c V hc hV => by
  have := ptOk8.times r V hr2 hc (HQ.out.old hV)
  rw [← hp.out] at this
  exact this.mono fun e w' ⟨c, h1, h2, h3⟩ => ⟨_, h1, ⟨c, rfl, h2⟩, h3⟩
 have CY : Hid (∀ c V, PU p c → Below w.heap.size w V → Calls Tryz.prog 17 #[.agg c] V fun e w' => e = .returned (.agg (bytesA F)) ∧ Below V.heap.size V w') := hid fun c V hc hV => by
  have := ptOk8.bytes V hc (HQ.out.old hV)
  rw [hp.out, hrr.out] at this
  rw [hF.out]; exact this
 have CR2 : Hid (∀ v V, Below w.heap.size w V → RowsV 3 [F, pl, lt] v V → Calls Tryz.prog 14 #[v] V fun e w' => e = .returned (.agg (bytesA (fbytes k))) ∧ Below V.heap.size V w') := hid fun v V hV h => by
  have := restOf_any 3 [F, pl, lt] v V h (by simp [Fl.out, pll.out]; omega) (by omega) (HQ.out.old hV)
  rw [show [F, pl, lt].flatten = F ++ (pl ++ lt) by simp, hF.out, hpl.out] at this
  rw [hkk.out]; exact this
 have CM : Hid (∀ V, Below w.heap.size w V → Calls Tryz.prog 19 #[.agg (bytesA (fbytes k)), .agg (bytesA sc), .agg (bytesA (fbytes r))] V fun e w' => e = .returned (.agg (bytesA (fbytes s))) ∧ Below V.heap.size V w') := hid fun V hV => by
  have := sca_ok8.muladd k (secN l) r V hk2 (secN_lt l) hr2 (HQ.out.old hV)
  rw [secN_bytes, ← hsc.out] at this
  rw [hss.out, sigS, ← hkk.out, ← hrr.out]; exact this
 have CJ : Hid (∀ V, Calls Tryz.prog 18 #[.agg (bytesA F), .agg (bytesA (fbytes s))] V fun e w' => e = .returned (.agg (bytesA (F ++ fbytes s))) ∧ Below V.heap.size V w') := hid fun V => joined_any F (fbytes s) Fl.out (fbytes_length _) V
 have B4 := hid (Blk.new w 28 y)
 have HB := hid ((Below.refl w.heap.size w).alloc (Nat.le_refl _) (.cells y 28))
 clear hz hy hpl hrr hp hF hkk hss hsc hpr hr hrt hl hlt hn hc hnt hct hQ e1 e2 h32 hr2 hk2
 go_enter Tryz.func7, Tryz.ntmps7
 go_upto_region 3 with fail
 generalize w.alloc (.cells y 28) = W at *
 (try simp only [Act.put, zA, zB, zC])
 refine wp_R [15, 16, 6] [Rk.val (.slice A 32 c), Rk.val (.agg (bytesA (sc ++ pr))), Rk.fresh 36 y] rfl (by kernel_rfl) (by kernel_rfl) (by kernel_rfl) (by kernel_rfl) ?hg1 _ (by rfl) ?hf1
 case hg1 =>
  refine gr_val rfl (fun a V H K Q hK => op_quiet (quiet_move (.tmp 0) (H.old 0) (.inl (by kernel_rfl))) hK) ?_
  refine gr_val rfl (fun a V H K Q hK => op_callK #[.tmp 15] #[.slice A 32 c] (map1 (H.rel 0 15 rfl)) (CS.out V (HB.out.trans (H.frame.mono HB.out.size))) hK) ?_
  refine gr_fresh rfl (by kernel_rfl) hyC ?_
  exact gr_nil
 case hf1 =>
 intro x V hF
 have e0 : x 0 = .slice A 32 c := hF.rel 0 _ rfl
 have e1 : x 1 = .agg (bytesA (sc ++ pr)) := hF.rel 1 _ rfl
 obtain ⟨g6, e2, lg6, bg6⟩ := hF.new 2 _ _ rfl
 have hbf := hF.frame
 clear hF
 simp only [Sch.finL, zA, zB, zC, e0, e1, e2]
 clear e0 e1 e2
 refine wpList_store_row rfl 36 (.tmp 6) (.tmp 16) rfl g6 (bytesA (sc ++ pr)) rfl rfl 36 y bg6 (infC spl.out) (by rw [hys.out, bytesA_size, spl.out]) (bytesA_one _) ?_
 have B4_1 := hid ((B4.out.old hbf).rowFar (Nat.ne_of_lt (Nat.lt_of_lt_of_le B4.out.lt lg6)) (bytesA (sc ++ pr)) : Blk (V.setRow g6 (bytesA (sc ++ pr))) w.heap.size 28 y)
 have B6_1 := hid (bg6.row (bytesA (sc ++ pr)) : Blk (V.setRow g6 (bytesA (sc ++ pr))) g6 36 (bytesA (sc ++ pr)))
 have HB_1 := hid (below_row (HB.out.trans (hbf.mono HB.out.size)) (Nat.le_trans HB.out.size lg6) (bytesA (sc ++ pr)) : Below w.heap.size w (V.setRow g6 (bytesA (sc ++ pr))))
 clear B4 HB hbf lg6 bg6
 generalize (V.setRow g6 (bytesA (sc ++ pr))) = W1 at *
 go_upto_region 4 with fail
 (try simp only [Act.put, zA, zB, zC])
 refine wp_R [17, 18, 7] [Rk.val (.agg (bytesA (sc ++ pr))), Rk.val (.agg (bytesA pl)), Rk.fresh 24 z] rfl (by kernel_rfl) (by kernel_rfl) (by kernel_rfl) (by kernel_rfl) ?hg2 _ (by rfl) ?hf2
 case hg2 =>
  refine gr_val rfl (fun a V H K Q hK => op_quiet (quiet_load_row 36 (.tmp 6) g6 (H.old 6) 36 (bytesA (sc ++ pr)) _ (B6_1.out.old (H.frame)) Tryz.underlying36 rfl (infC spl.out) (by kernel_rfl)) hK) ?_
  refine gr_val rfl (fun a V H K Q hK => op_callK #[.tmp 17] #[.agg (bytesA (sc ++ pr))] (map1 (H.rel 0 17 rfl)) (CP.out V (HB_1.out.trans (H.frame.mono HB_1.out.size))) hK) ?_
  refine gr_fresh rfl (by kernel_rfl) hz0 ?_
  exact gr_nil
 case hf2 =>
 intro x V hF
 have e0 : x 0 = .agg (bytesA (sc ++ pr)) := hF.rel 0 _ rfl
 have e1 : x 1 = .agg (bytesA pl) := hF.rel 1 _ rfl
 obtain ⟨g7, e2, lg7, bg7⟩ := hF.new 2 _ _ rfl
 have hbf := hF.frame
 clear hF
 simp only [Sch.finL, zA, zB, zC, e0, e1, e2]
 clear e0 e1 e2
 refine wpList_store_row rfl 24 (.tmp 7) (.tmp 18) rfl g7 (bytesA pl) rfl rfl 24 z bg7 (inf32 pll.out) (by rw [hzs.out, bytesA_size, pll.out]) (bytesA_one _) ?_
 have B4_2 := hid ((B4_1.out.old hbf).rowFar (Nat.ne_of_lt (Nat.lt_of_lt_of_le B4_1.out.lt lg7)) (bytesA pl) : Blk (V.setRow g7 (bytesA pl)) w.heap.size 28 y)
 have B6_2 := hid ((B6_1.out.old hbf).rowFar (Nat.ne_of_lt (Nat.lt_of_lt_of_le B6_1.out.lt lg7)) (bytesA pl) : Blk (V.setRow g7 (bytesA pl)) g6 36 (bytesA (sc ++ pr)))
 have B7_2 := hid (bg7.row (bytesA pl) : Blk (V.setRow g7 (bytesA pl)) g7 24 (bytesA pl))
 have HB_2 := hid (below_row (HB_1.out.trans (hbf.mono HB_1.out.size)) (Nat.le_trans HB_1.out.size lg7) (bytesA pl) : Below w.heap.size w (V.setRow g7 (bytesA pl)))
 clear B4_1 B6_1 HB_1 hbf lg7 bg7
 generalize (V.setRow g7 (bytesA pl)) = W2 at *
 go_upto_region 5 with fail
 (try simp only [Act.put, zA, zB, zC])
 refine wp_R [19, 20, 21, 22, 23, 8] [Rk.val (.pointer (some ⟨g6, 32, none⟩)), Rk.val (.slice (some ⟨g6, 32, none⟩) 32 32), Rk.val (.slice At nt ct), Rk.is (RowsV 2 [pr, lt]) (fun _ _ _ h hb => RowsV.keep _ _ _ h hb), Rk.val (.agg (bytesA (fbytes r))), Rk.fresh 24 z] rfl (by kernel_rfl) (by kernel_rfl) (by kernel_rfl) (by kernel_rfl) ?hg3 _ (by rfl) ?hf3
 case hg3 =>
  refine gr_val rfl (fun a V H K Q hK => op_quiet (quiet_field _ (.tmp 6) 1 _ _ (H.old 6) (fs1 _) rfl) hK) ?_
  refine gr_val rfl (fun a V H K Q hK => op_quiet (quiet_slice32o (.tmp 19) g6 32 (H.rel 0 19 rfl) (by kernel_rfl)) hK) ?_
  refine gr_val rfl (fun a V H K Q hK => op_quiet (quiet_move (.tmp 1) (H.old 1) (.inl (by kernel_rfl))) hK) ?_
  refine gr_is rfl (fun a V H K Q hK => op_rows2 (.tmp 20) (.tmp 21) (some ⟨g6, 32, none⟩) At 32 32 nt ct pr lt (sec_snd sl.out prl.out (B6_2.out.old H.frame)) (Nat.le_refl _) ((HT.out.below (HB_2.out.trans (H.frame.mono HB_2.out.size))).more (HB_2.out.trans (H.frame.mono HB_2.out.size)).size) HCT.out (H.rel 1 20 rfl) (H.rel 2 21 rfl) (by kernel_rfl) hK) ?_
  refine gr_val rfl (fun a V H K Q hK => by
    obtain ⟨A9, B9, e9, h9, k9⟩ : RowsV 2 [pr, lt] (a.eval (.tmp 22)) V := (H.rel 3 22 rfl)
    exact op_callK #[.tmp 22] #[.slice A9 2 2] (map1 e9) (CR1.out _ V (HB_2.out.trans (H.frame.mono HB_2.out.size)) ⟨A9, B9, rfl, h9, k9⟩) hK) ?_
  refine gr_fresh rfl (by kernel_rfl) hz0 ?_
  exact gr_nil
 case hf3 =>
 intro x V hF
 have e0 : x 0 = .pointer (some ⟨g6, 32, none⟩) := hF.rel 0 _ rfl
 have e1 : x 1 = .slice (some ⟨g6, 32, none⟩) 32 32 := hF.rel 1 _ rfl
 have e2 : x 2 = .slice At nt ct := hF.rel 2 _ rfl
 obtain ⟨_, _, e3, _, _⟩ : RowsV 2 [pr, lt] (x 3) V := hF.rel 3 _ rfl
 have e4 : x 4 = .agg (bytesA (fbytes r)) := hF.rel 4 _ rfl
 obtain ⟨g8, e5, lg8, bg8⟩ := hF.new 5 _ _ rfl
 have hbf := hF.frame
 clear hF
 simp only [Sch.finL, zA, zB, zC, e0, e1, e2, e3, e4, e5]
 clear e0 e1 e2 e3 e4 e5
 refine wpList_store_row rfl 24 (.tmp 8) (.tmp 23) rfl g8 (bytesA (fbytes r)) rfl rfl 24 z bg8 (inf32 (fbytes_length _)) (by rw [hzs.out, bytesA_size, fbytes_length]) (bytesA_one _) ?_
 have B4_3 := hid ((B4_2.out.old hbf).rowFar (Nat.ne_of_lt (Nat.lt_of_lt_of_le B4_2.out.lt lg8)) (bytesA (fbytes r)) : Blk (V.setRow g8 (bytesA (fbytes r))) w.heap.size 28 y)
 have B6_3 := hid ((B6_2.out.old hbf).rowFar (Nat.ne_of_lt (Nat.lt_of_lt_of_le B6_2.out.lt lg8)) (bytesA (fbytes r)) : Blk (V.setRow g8 (bytesA (fbytes r))) g6 36 (bytesA (sc ++ pr)))
 have B7_3 := hid ((B7_2.out.old hbf).rowFar (Nat.ne_of_lt (Nat.lt_of_lt_of_le B7_2.out.lt lg8)) (bytesA (fbytes r)) : Blk (V.setRow g8 (bytesA (fbytes r))) g7 24 (bytesA pl))
 have B8_3 := hid (bg8.row (bytesA (fbytes r)) : Blk (V.setRow g8 (bytesA (fbytes r))) g8 24 (bytesA (fbytes r)))
 have HB_3 := hid (below_row (HB_2.out.trans (hbf.mono HB_2.out.size)) (Nat.le_trans HB_2.out.size lg8) (bytesA (fbytes r)) : Below w.heap.size w (V.setRow g8 (bytesA (fbytes r))))
 clear B4_2 B6_2 B7_2 HB_2 hbf lg8 bg8
 generalize (V.setRow g8 (bytesA (fbytes r))) = W3 at *
 go_upto_region 6 with fail
 (try simp only [Act.put, zA, zB, zC])
 refine wp_R [24, 25, 26, 27, 9] [Rk.is (fun v _ => ∃ c, v = .agg c ∧ PU pbase c) (fun _ _ _ h _ => h), Rk.val (.agg (bytesA (fbytes r))), Rk.is (fun v _ => ∃ c, v = .agg c ∧ PU p c) (fun _ _ _ h _ => h), Rk.val (.agg (bytesA F)), Rk.fresh 24 z] rfl (by kernel_rfl) (by kernel_rfl) (by kernel_rfl) (by kernel_rfl) ?hg4 _ (by rfl) ?hf4
 case hg4 =>
  refine gr_is rfl (fun a V H K Q hK => op_callR #[] #[] map0 (CB.out V (HB_3.out.trans (H.frame.mono HB_3.out.size))) hK) ?_
  refine gr_val rfl (fun a V H K Q hK => op_quiet (quiet_load_row 24 (.tmp 8) g8 (H.old 8) 24 (bytesA (fbytes r)) _ (B8_3.out.old (H.frame)) Tryz.underlying24 rfl (inf32 (fbytes_length _)) (by kernel_rfl)) hK) ?_
  refine gr_is rfl (fun a V H K Q hK => by
    obtain ⟨c9, ec, hc⟩ : ∃ c, a.eval (.tmp 24) = .agg c ∧ PU pbase c := (H.rel 0 24 rfl)
    exact op_callR #[.tmp 24, .tmp 25] #[.agg c9, .agg (bytesA (fbytes r))] (map2 ec (H.rel 1 25 rfl)) (CT.out c9 V hc (HB_3.out.trans (H.frame.mono HB_3.out.size))) hK) ?_
  refine gr_val rfl (fun a V H K Q hK => by
    obtain ⟨c9, ec, hc⟩ : ∃ c, a.eval (.tmp 26) = .agg c ∧ PU p c := (H.rel 2 26 rfl)
    exact op_callK #[.tmp 26] #[.agg c9] (map1 ec) (CY.out c9 V hc (HB_3.out.trans (H.frame.mono HB_3.out.size))) hK) ?_
  refine gr_fresh rfl (by kernel_rfl) hz0 ?_
  exact gr_nil
 case hf4 =>
 intro x V hF
 obtain ⟨c24, e0, p24⟩ : ∃ c, x 0 = .agg c ∧ _ := hF.rel 0 _ rfl
 have e1 : x 1 = .agg (bytesA (fbytes r)) := hF.rel 1 _ rfl
 obtain ⟨c26, e2, p26⟩ : ∃ c, x 2 = .agg c ∧ _ := hF.rel 2 _ rfl
 have e3 : x 3 = .agg (bytesA F) := hF.rel 3 _ rfl
 obtain ⟨g9, e4, lg9, bg9⟩ := hF.new 4 _ _ rfl
 have hbf := hF.frame
 clear hF
 simp only [Sch.finL, zA, zB, zC, e0, e1, e2, e3, e4]
 clear e0 e1 e2 e3 e4
 clear p24 p26
 refine wpList_store_row rfl 24 (.tmp 9) (.tmp 27) rfl g9 (bytesA F) rfl rfl 24 z bg9 (inf32 Fl.out) (by rw [hzs.out, bytesA_size, Fl.out]) (bytesA_one _) ?_
 have B4_4 := hid ((B4_3.out.old hbf).rowFar (Nat.ne_of_lt (Nat.lt_of_lt_of_le B4_3.out.lt lg9)) (bytesA F) : Blk (V.setRow g9 (bytesA F)) w.heap.size 28 y)
 have B6_4 := hid ((B6_3.out.old hbf).rowFar (Nat.ne_of_lt (Nat.lt_of_lt_of_le B6_3.out.lt lg9)) (bytesA F) : Blk (V.setRow g9 (bytesA F)) g6 36 (bytesA (sc ++ pr)))
 have B7_4 := hid ((B7_3.out.old hbf).rowFar (Nat.ne_of_lt (Nat.lt_of_lt_of_le B7_3.out.lt lg9)) (bytesA F) : Blk (V.setRow g9 (bytesA F)) g7 24 (bytesA pl))
 have B8_4 := hid ((B8_3.out.old hbf).rowFar (Nat.ne_of_lt (Nat.lt_of_lt_of_le B8_3.out.lt lg9)) (bytesA F) : Blk (V.setRow g9 (bytesA F)) g8 24 (bytesA (fbytes r)))
 have B9_4 := hid (bg9.row (bytesA F) : Blk (V.setRow g9 (bytesA F)) g9 24 (bytesA F))
 have HB_4 := hid (below_row (HB_3.out.trans (hbf.mono HB_3.out.size)) (Nat.le_trans HB_3.out.size lg9) (bytesA F) : Below w.heap.size w (V.setRow g9 (bytesA F)))
 clear B4_3 B6_3 B7_3 B8_3 HB_3 hbf lg9 bg9
 generalize (V.setRow g9 (bytesA F)) = W4 at *
 go_upto_region 7 with fail
 (try simp only [Act.put, zA, zB, zC])
 refine wp_R [28, 29, 30, 31, 32, 10] [Rk.val (.slice (some ⟨g9, 0, none⟩) 32 32), Rk.val (.slice (some ⟨g7, 0, none⟩) 32 32), Rk.val (.slice At nt ct), Rk.is (RowsV 3 [F, pl, lt]) (fun _ _ _ h hb => RowsV.keep _ _ _ h hb), Rk.val (.agg (bytesA (fbytes k))), Rk.fresh 24 z] rfl (by kernel_rfl) (by kernel_rfl) (by kernel_rfl) (by kernel_rfl) ?hg5 _ (by rfl) ?hf5
 case hg5 =>
  refine gr_val rfl (fun a V H K Q hK => op_quiet (quiet_slice32 (.tmp 9) g9 (H.old 9) (by kernel_rfl)) hK) ?_
  refine gr_val rfl (fun a V H K Q hK => op_quiet (quiet_slice32 (.tmp 7) g7 (H.old 7) (by kernel_rfl)) hK) ?_
  refine gr_val rfl (fun a V H K Q hK => op_quiet (quiet_move (.tmp 1) (H.old 1) (.inl (by kernel_rfl))) hK) ?_
  refine gr_is rfl (fun a V H K Q hK => op_rows3 (.tmp 28) (.tmp 29) (.tmp 30) (some ⟨g9, 0, none⟩) (some ⟨g7, 0, none⟩) At 32 32 32 32 nt ct F pl lt (reads32 (B9_4.out.old H.frame) Fl.out) (Nat.le_refl _) (reads32 (B7_4.out.old H.frame) pll.out) (Nat.le_refl _) ((HT.out.below (HB_4.out.trans (H.frame.mono HB_4.out.size))).more (HB_4.out.trans (H.frame.mono HB_4.out.size)).size) HCT.out (H.rel 0 28 rfl) (H.rel 1 29 rfl) (H.rel 2 30 rfl) (by kernel_rfl) hK) ?_
  refine gr_val rfl (fun a V H K Q hK => by
    obtain ⟨A9, B9, e9, h9, k9⟩ : RowsV 3 [F, pl, lt] (a.eval (.tmp 31)) V := (H.rel 3 31 rfl)
    exact op_callK #[.tmp 31] #[.slice A9 3 3] (map1 e9) (CR2.out _ V (HB_4.out.trans (H.frame.mono HB_4.out.size)) ⟨A9, B9, rfl, h9, k9⟩) hK) ?_
  refine gr_fresh rfl (by kernel_rfl) hz0 ?_
  exact gr_nil
 case hf5 =>
 intro x V hF
 have e0 : x 0 = .slice (some ⟨g9, 0, none⟩) 32 32 := hF.rel 0 _ rfl
 have e1 : x 1 = .slice (some ⟨g7, 0, none⟩) 32 32 := hF.rel 1 _ rfl
 have e2 : x 2 = .slice At nt ct := hF.rel 2 _ rfl
 obtain ⟨_, _, e3, _, _⟩ : RowsV 3 [F, pl, lt] (x 3) V := hF.rel 3 _ rfl
 have e4 : x 4 = .agg (bytesA (fbytes k)) := hF.rel 4 _ rfl
 obtain ⟨g10, e5, lg10, bg10⟩ := hF.new 5 _ _ rfl
 have hbf := hF.frame
 clear hF
 simp only [Sch.finL, zA, zB, zC, e0, e1, e2, e3, e4, e5]
 clear e0 e1 e2 e3 e4 e5
 refine wpList_store_row rfl 24 (.tmp 10) (.tmp 32) rfl g10 (bytesA (fbytes k)) rfl rfl 24 z bg10 (inf32 (fbytes_length _)) (by rw [hzs.out, bytesA_size, fbytes_length]) (bytesA_one _) ?_
 have B4_5 := hid ((B4_4.out.old hbf).rowFar (Nat.ne_of_lt (Nat.lt_of_lt_of_le B4_4.out.lt lg10)) (bytesA (fbytes k)) : Blk (V.setRow g10 (bytesA (fbytes k))) w.heap.size 28 y)
 have B6_5 := hid ((B6_4.out.old hbf).rowFar (Nat.ne_of_lt (Nat.lt_of_lt_of_le B6_4.out.lt lg10)) (bytesA (fbytes k)) : Blk (V.setRow g10 (bytesA (fbytes k))) g6 36 (bytesA (sc ++ pr)))
 have B8_5 := hid ((B8_4.out.old hbf).rowFar (Nat.ne_of_lt (Nat.lt_of_lt_of_le B8_4.out.lt lg10)) (bytesA (fbytes k)) : Blk (V.setRow g10 (bytesA (fbytes k))) g8 24 (bytesA (fbytes r)))
 have B9_5 := hid ((B9_4.out.old hbf).rowFar (Nat.ne_of_lt (Nat.lt_of_lt_of_le B9_4.out.lt lg10)) (bytesA (fbytes k)) : Blk (V.setRow g10 (bytesA (fbytes k))) g9 24 (bytesA F))
 have B10_5 := hid (bg10.row (bytesA (fbytes k)) : Blk (V.setRow g10 (bytesA (fbytes k))) g10 24 (bytesA (fbytes k)))
 have HB_5 := hid (below_row (HB_4.out.trans (hbf.mono HB_4.out.size)) (Nat.le_trans HB_4.out.size lg10) (bytesA (fbytes k)) : Below w.heap.size w (V.setRow g10 (bytesA (fbytes k))))
 clear B4_4 B6_4 B7_4 B8_4 B9_4 HB_4 hbf lg10 bg10
 generalize (V.setRow g10 (bytesA (fbytes k))) = W5 at *
 go_upto_region 8 with fail
 (try simp only [Act.put, zA, zB, zC])
 refine wp_R [33, 34, 35, 36, 37, 38, 39] [Rk.val (.agg (bytesA F)), Rk.val (.agg (bytesA (fbytes k))), Rk.val (.pointer (some ⟨g6, 0, none⟩)), Rk.val (.agg (bytesA sc)), Rk.val (.agg (bytesA (fbytes r))), Rk.val (.agg (bytesA (fbytes s))), Rk.val (.agg (bytesA (F ++ fbytes s)))] rfl (by kernel_rfl) (by kernel_rfl) (by kernel_rfl) (by kernel_rfl) ?hg6 _ (by rfl) ?hf6
 case hg6 =>
  refine gr_val rfl (fun a V H K Q hK => op_quiet (quiet_load_row 24 (.tmp 9) g9 (H.old 9) 24 (bytesA F) _ (B9_5.out.old (H.frame)) Tryz.underlying24 rfl (inf32 Fl.out) (by kernel_rfl)) hK) ?_
  refine gr_val rfl (fun a V H K Q hK => op_quiet (quiet_load_row 24 (.tmp 10) g10 (H.old 10) 24 (bytesA (fbytes k)) _ (B10_5.out.old (H.frame)) Tryz.underlying24 rfl (inf32 (fbytes_length _)) (by kernel_rfl)) hK) ?_
  refine gr_val rfl (fun a V H K Q hK => op_quiet (quiet_field _ (.tmp 6) 0 _ _ (H.old 6) (fs0 _) rfl) hK) ?_
  refine gr_val rfl (fun a V H K Q hK => op_quiet (quiet_load_off 24 (.tmp 35) _ _ (H.rel 2 35 rfl) (bytesA sc) _ (sec_fst sl.out (B6_5.out.old H.frame)) Tryz.underlying24 rfl (inf32 sl.out) (by kernel_rfl)) hK) ?_
  refine gr_val rfl (fun a V H K Q hK => op_quiet (quiet_load_row 24 (.tmp 8) g8 (H.old 8) 24 (bytesA (fbytes r)) _ (B8_5.out.old (H.frame)) Tryz.underlying24 rfl (inf32 (fbytes_length _)) (by kernel_rfl)) hK) ?_
  refine gr_val rfl (fun a V H K Q hK => op_callK #[.tmp 34, .tmp 36, .tmp 37] #[.agg (bytesA (fbytes k)), .agg (bytesA sc), .agg (bytesA (fbytes r))] (map3 (H.rel 1 34 rfl) (H.rel 3 36 rfl) (H.rel 4 37 rfl)) (CM.out V (HB_5.out.trans (H.frame.mono HB_5.out.size))) hK) ?_
  refine gr_val rfl (fun a V H K Q hK => op_callK #[.tmp 33, .tmp 38] #[.agg (bytesA F), .agg (bytesA (fbytes s))] (map2 (H.rel 0 33 rfl) (H.rel 5 38 rfl)) (CJ.out V) hK) ?_
  exact gr_nil
 case hf6 =>
 intro x V hF
 have e0 : x 0 = .agg (bytesA F) := hF.rel 0 _ rfl
 have e1 : x 1 = .agg (bytesA (fbytes k)) := hF.rel 1 _ rfl
 have e2 : x 2 = .pointer (some ⟨g6, 0, none⟩) := hF.rel 2 _ rfl
 have e3 : x 3 = .agg (bytesA sc) := hF.rel 3 _ rfl
 have e4 : x 4 = .agg (bytesA (fbytes r)) := hF.rel 4 _ rfl
 have e5 : x 5 = .agg (bytesA (fbytes s)) := hF.rel 5 _ rfl
 have e6 : x 6 = .agg (bytesA (F ++ fbytes s)) := hF.rel 6 _ rfl
 have hbf := hF.frame
 clear hF
 simp only [Sch.finL, zA, zB, zC, e0, e1, e2, e3, e4, e5, e6]
 clear e0 e1 e2 e3 e4 e5 e6
 refine wpList_store_row rfl 28 (.tmp 4) (.tmp 39) rfl w.heap.size (bytesA (F ++ fbytes s)) rfl rfl 28 y (B4_5.out.old hbf) (inf64 ol.out) (by rw [hys.out, bytesA_size, ol.out]) (bytesA_one _) ?_
 have F2 := hid ((B4_5.out.old hbf).row (bytesA (F ++ fbytes s)))
 have HF := hid (below_row (HB_5.out.trans (hbf.mono HB_5.out.size)) (Nat.le_refl _) (bytesA (F ++ fbytes s)))
 clear B4_5 B6_5 B8_5 B9_5 B10_5 HB_5 hbf
 go_wp2_with fail
 refine bodyPost_ret (v := .tuple #[.agg (bytesA (F ++ fbytes s)), .int .i64 0]) ?_ rfl ⟨rfl, HF.out⟩
 exact results_row_tmp Tryz.results7 _ _ w.heap.size 28 _ _ _ _ rfl rfl F2.out Tryz.underlying28 (inf64 ol.out)
end Go.Proofs.YtcfogpeinjehbaaGreatDoor
end

section
set_option maxRecDepth 100000
namespace Go.Proofs.YtcfogpeinjehbaaGreatDoor
open Go Go.Proofs Go.RowKit F5
open Sch (wp_R gr_val gr_is gr_fresh gr_nil op_callR Rk)
open Sha (sumOf sumOf_length RowsR)
theorem arr64 (p : Option Addr) (n c : Nat) (hn : 64 ≤ n) (W : World) : (Instr.arrayAt 28 (.slice p n c)).run Tryz.prog W = .ok (.pointer p) W := run_arrayAt W _ _ 64 p n c Tryz.underlying28 hn
theorem quiet_arr64 {o : Oper} {ev : Operand → Value} {V : World} (x : Operand) (ad : Addr) (n : Nat) (hx : ev x = .slice (some ad) 64 n) (ho : o.op = .sliceToArrayPointer 28 x) : (execOp ev o).run Tryz.prog V = .ok (.value (.pointer (some ad))) V := by
 have := arr64 (some ad) 64 n (Nat.le_refl _) V
 unfold execOp
 simp only [ho, hx, Sem.run_bind, this, Sem.run_pure, Result.andThen_ok]
theorem may_not {l : List UInt8} (hl : l.length = 32) : mayB l = decide (bval l < LL) := by unfold mayB; simp [hl]
set_option maxHeartbeats 8000000 in
theorem edVerify_any (A : Option Addr) (n c : Nat) (l : List UInt8) (At : Option Addr) (nt ct : Nat) (lt : List UInt8) (As : Option Addr) (ns cs : Nat) (ls : List UInt8) (w : World) (hn : n ≤ 100) (hc : n ≤ c) (hm : c ≤ maxLen) (hr : Reads w w.heap.size 1 A n (Lib.byteCells l))
  (hnt : nt ≤ 500) (hct : nt ≤ ct) (hrt : Reads w w.heap.size 1 At nt (Lib.byteCells lt)) (hns : ns ≤ 100) (hcs : ns ≤ cs) (hrs : Reads w w.heap.size 1 As ns (Lib.byteCells ls)) (hQ : Q8 w) :
  Calls Tryz.prog 10 #[.slice A n c, .slice At nt ct, .slice As ns cs] w fun e w' => e = .returned (.bool (verB l lt ls)) ∧ Below w.heap.size w w' := by
 have hl : l.length = n := by have := hr.1; rw [Lib.byteCells_length] at this; omega
 have hlt : lt.length = nt := by have := hrt.1; rw [Lib.byteCells_length] at this; omega
 have hls : ls.length = ns := by have := hrs.1; rw [Lib.byteCells_length] at this; omega
 by_cases h64 : ¬ ns = 64
 ·have hv := hid (ver_len (pub := l) (text := lt) (show ls.length ≠ 64 by omega))
  rw [hv.out]
  have hne : ((ns : Int) != 64) = true := by simp; omega
  clear hr hrt hrs hQ
  go_enter Tryz.func10, Tryz.ntmps10
  go_wp2
  go_ret
  exact ⟨rfl, Below.refl _ _⟩
 obtain rfl : ns = 64 := by omega
 obtain ⟨zp, hzp⟩ : ∃ z, Hid (z = uV 0 0 0) := ⟨_, hid rfl⟩
 have hzp0 : ∀ W, (zeroValue 46).run Tryz.prog W = .ok (.agg zp) W := by rw [hzp.out]; exact zeroU
 have HQ := hid hQ
 have HR := hid hr
 have HT := hid hrt
 have HCT := hid hct
 have HC := hid hc
 by_cases hkey : ¬ (l.length = 32 ∧ okP (bval l))
 ·have hv : verB l lt ls = false := verB_false.2 fun hv => hkey ⟨hv.1, by obtain ⟨hA, _⟩ := hv.2.2.2; exact hA⟩
  have HV := hid hv
  rw [HV.out]
  have CG : Hid (∀ V, Below w.heap.size w V → Calls Tryz.prog 26 #[.slice A n c] V fun e w' => ∃ v, e = .returned v ∧ (∃ c x, v = .tuple #[.agg c, .int .i64 x] ∧ (x != 0) = true ∧ (Tryz.prog.info? 46).map (·.size) = some c.size ∧ c.all (·.oneCell') = true ∧ zp.size = c.size) ∧ Below V.heap.size V w') := hid fun V hV => by
   have hrV := (hr.below hV).more hV.size
   rw [hzp.out]
   by_cases h32 : n = 32
   ·subst h32
    obtain ⟨ad, hA, _, _⟩ := hr.2 (by omega)
    subst hA
    rw [← fbytes_bval hl] at hrV
    refine (ptOk8.get (bval l) ad c V (bval_256 hl) hrV hc hm (HQ.out.old hV)).mono ?_
    rintro e w' ⟨c', x, h1, h2, h3, h4, h5, h6, h7⟩
    rw [if_neg (fun h => hkey ⟨hl, h⟩)] at h2
    subst h2
    exact ⟨_, h1, ⟨c', 8, rfl, rfl, h4, h5, h6⟩, h7⟩
   ·refine (ptOk8.other l A n c V h32 (by omega) hc hm hrV (HQ.out.old hV)).mono ?_
    rintro e w' ⟨c', h1, h4, h5, h6, h7⟩
    exact ⟨_, h1, ⟨c', _, rfl, by split <;> rfl, h4, h5, h6⟩, h7⟩
  have HB := hid (Below.refl w.heap.size w)
  clear hv hr hrt hrs hl hlt hls hn hc hm hnt hct hns hcs hQ hkey h64 hzp
  go_enter Tryz.func10, Tryz.ntmps10
  go_upto_region 3 with fail
  (try simp only [Act.put, zA, zB, zC])
  refine wp_R [16, 17, 15, 18, 19, 7] [Rk.val (.slice A n c), Rk.is (fun v _ => ∃ c q, v = .tuple #[.agg c, .int .i64 q] ∧ (q != 0) = true ∧ (Tryz.prog.info? 46).map (·.size) = some c.size ∧ c.all (·.oneCell') = true ∧ zp.size = c.size) (fun _ _ _ h _ => h), Rk.is (fun v _ => ∃ c q, v = .tuple #[.agg c, .int .i64 q] ∧ (q != 0) = true ∧ (Tryz.prog.info? 46).map (·.size) = some c.size ∧ c.all (·.oneCell') = true ∧ zp.size = c.size) (fun _ _ _ h _ => h), Rk.is (fun v _ => ∃ c, v = .agg c ∧ (Tryz.prog.info? 46).map (·.size) = some c.size ∧ c.all (·.oneCell') = true ∧ zp.size = c.size) (fun _ _ _ h _ => h), Rk.is (fun v _ => ∃ q, v = .int .i64 q ∧ (q != 0) = true) (fun _ _ _ h _ => h), Rk.fresh 46 zp] rfl (by kernel_rfl) (by kernel_rfl) (by kernel_rfl) (by kernel_rfl) ?hg1 _ (by rfl) ?hf1
  case hg1 =>
   refine gr_val rfl (fun a V H K Q hK => op_quiet (quiet_move (.tmp 0) (H.old 0) (.inl (by kernel_rfl))) hK) ?_
   refine gr_is rfl (fun a V H K Q hK => op_callR #[.tmp 16] #[.slice A n c] (map1 (H.rel 0 16 rfl)) (CG.out V H.frame) hK) ?_
   refine gr_is rfl (fun a V H K Q hK => by
     obtain ⟨c9, x9, e9, h9⟩ : ∃ c q, a.eval (.tmp 17) = .tuple #[.agg c, .int .i64 q] ∧ (q != 0) = true ∧ (Tryz.prog.info? 46).map (·.size) = some c.size ∧ c.all (·.oneCell') = true ∧ zp.size = c.size := (H.rel 1 17 rfl)
     exact op_quiet (quiet_move (.tmp 17) e9 (.inl (by kernel_rfl))) fun V' hb => hK _ V' hb ⟨c9, x9, rfl, h9⟩) ?_
   refine gr_is rfl (fun a V H K Q hK => by
     obtain ⟨c9, x9, e9, _, h9⟩ : ∃ c q, a.eval (.tmp 15) = .tuple #[.agg c, .int .i64 q] ∧ (q != 0) = true ∧ (Tryz.prog.info? 46).map (·.size) = some c.size ∧ c.all (·.oneCell') = true ∧ zp.size = c.size := (H.rel 2 15 rfl)
     exact op_quiet (quiet_extract (t := #[.agg c9, .int .i64 x9]) (.tmp 15) 0 e9 rfl (by kernel_rfl)) fun V' hb => hK _ V' hb ⟨c9, rfl, h9⟩) ?_
   refine gr_is rfl (fun a V H K Q hK => by
     obtain ⟨c9, x9, e9, h9, _⟩ : ∃ c q, a.eval (.tmp 15) = .tuple #[.agg c, .int .i64 q] ∧ (q != 0) = true ∧ (Tryz.prog.info? 46).map (·.size) = some c.size ∧ c.all (·.oneCell') = true ∧ zp.size = c.size := (H.rel 2 15 rfl)
     exact op_quiet (quiet_extract (t := #[.agg c9, .int .i64 x9]) (.tmp 15) 1 e9 rfl (by kernel_rfl)) fun V' hb => hK _ V' hb ⟨x9, rfl, h9⟩) ?_
   refine gr_fresh rfl (by kernel_rfl) hzp0 ?_
   exact gr_nil
  case hf1 =>
  intro x V hF
  have e0 : x 0 = .slice A n c := hF.rel 0 _ rfl
  obtain ⟨c17, x17, e1, _, _⟩ : ∃ c q, x 1 = .tuple #[.agg c, .int .i64 q] ∧ (q != 0) = true ∧ (Tryz.prog.info? 46).map (·.size) = some c.size ∧ c.all (·.oneCell') = true ∧ zp.size = c.size := hF.rel 1 _ rfl
  obtain ⟨c15, x15, e2, _, _⟩ : ∃ c q, x 2 = .tuple #[.agg c, .int .i64 q] ∧ (q != 0) = true ∧ (Tryz.prog.info? 46).map (·.size) = some c.size ∧ c.all (·.oneCell') = true ∧ zp.size = c.size := hF.rel 2 _ rfl
  obtain ⟨c18, e3, i18, o18, z18⟩ : ∃ c, x 3 = .agg c ∧ _ := hF.rel 3 _ rfl
  obtain ⟨x19, e4, h19⟩ : ∃ y, x 4 = .int .i64 y ∧ _ := hF.rel 4 _ rfl
  obtain ⟨g7, e5, lg7, bg7⟩ := hF.new 5 _ _ rfl
  have hbf := hF.frame
  clear hF
  simp only [Sch.finL, zA, zB, zC, e0, e1, e2, e3, e4, e5]
  clear e0 e1 e2 e3 e4 e5
  refine wpList_store_row rfl 46 (.tmp 7) (.tmp 18) rfl g7 c18 rfl rfl 46 zp bg7 i18 z18 o18 ?_
  have HF := hid (below_row (HB.out.trans (hbf.mono HB.out.size)) (Nat.le_trans HB.out.size lg7) c18)
  clear hbf HB bg7
  generalize V.setRow g7 c18 = W9 at *
  go_wp2
  go_ret
  exact ⟨rfl, HF.out⟩
 obtain ⟨h32, hA⟩ := Decidable.not_not.1 hkey
 obtain rfl : n = 32 := by omega
 obtain ⟨ad, hAd, _, _⟩ := hr.2 (by omega)
 subst hAd
 obtain ⟨as_, hAs, _, hload⟩ := hrs.2 (by omega)
 subst hAs
 obtain ⟨z, hz⟩ : ∃ z, Hid (z = bytesA (List.replicate 32 0)) := ⟨_, hid rfl⟩
 have hz0 : ∀ W, (zeroValue 24).run Tryz.prog W = .ok (.agg z) W := by rw [hz.out]; exact zero32
 have hzs : Hid (z.size = 32) := by rw [hz.out, bytesA_size]; exact hid rfl
 obtain ⟨key, hk⟩ : ∃ x, Hid (x = pget (bval l) hA) := ⟨_, hid rfl⟩
 obtain ⟨F, hF⟩ : ∃ x, Hid (x = ls.take 32) := ⟨_, hid rfl⟩
 obtain ⟨S, hS⟩ : ∃ x, Hid (x = ls.drop 32) := ⟨_, hid rfl⟩
 have Fl : Hid (F.length = 32) := by rw [hF.out, List.length_take, hls]; exact hid rfl
 have Sl : Hid (S.length = 32) := by rw [hS.out, List.length_drop, hls]; exact hid rfl
 obtain ⟨k, hkk⟩ := named (restN (F ++ (l ++ lt)))
 have hk2 : k < 2 ^ 256 := by rw [hkk.out]; exact restN_256 _
 obtain ⟨p1, hp1⟩ : ∃ x, Hid (x = pmul (bval S) pbase) := ⟨_, hid rfl⟩
 obtain ⟨p2, hp2⟩ : ∃ x, Hid (x = pmul k (pneg key)) := ⟨_, hid rfl⟩
 obtain ⟨R, hR⟩ : ∃ x, Hid (x = ptL (padd p1 p2)) := ⟨_, hid rfl⟩
 have Rl : Hid (R.length = 32) := by rw [hR.out]; exact hid (ptL_length _)
 obtain ⟨bm, hbm⟩ : ∃ b, Hid (b = mayB S) := ⟨_, hid rfl⟩
 obtain ⟨vb, hvb⟩ : ∃ b, Hid (b = verB l lt ls) := ⟨_, hid rfl⟩
 have hv0 : Hid (bm = false → vb = false) := hid fun h => by
  rw [hvb.out]; exact ver_may (by rw [← hS.out, ← hbm.out]; exact h)
 have hv1 : Hid (bm = true → decide (R = F) = vb) := hid fun h => by
  rw [hvb.out, ver_prog h32 hls (by rw [← hS.out]; rw [hbm.out, may_not Sl.out] at h; exact of_decide_eq_true h) hA, hR.out, hp1.out, hp2.out, hk.out, hkk.out, hF.out, hS.out]
 rw [← hvb.out]
 have CG : Hid (∀ V, Below w.heap.size w V → Calls Tryz.prog 26 #[.slice (some ad) 32 c] V fun e w' => ∃ v, e = .returned v ∧ (∃ c, v = .tuple #[.agg c, .int .i64 0] ∧ PU key c) ∧ Below V.heap.size V w') := hid fun V hV => by
  have hrV := (hr.below hV).more hV.size
  rw [← fbytes_bval hl] at hrV
  refine (ptOk8.get (bval l) ad c V (bval_256 hl) hrV hc hm (HQ.out.old hV)).mono ?_
  rintro e w' ⟨c', x, h1, h2, h3, h4, h5, h6, h7⟩
  rw [if_pos hA] at h2
  subst h2
  exact ⟨_, h1, ⟨c', rfl, by rw [hk.out]; exact h3 hA⟩, h7⟩
 have okp : Hid (∀ {p : Pt} {c : Array Value}, PU p c → (Tryz.prog.info? 46).map (·.size) = some c.size ∧ c.all (·.oneCell') = true ∧ zp.size = c.size) := hid fun h => by rw [hzp.out]; exact ptOk8.ok h
 have HLD : Hid (∀ V, Below w.heap.size w V → ∀ j x, (bytesA ls)[j]? = some x → V.cell? (as_.add j) = some x) := hid fun V hV j x hj => by
  obtain ⟨ad', h1, h2, h3⟩ := (hrs.below hV).2 (by omega)
  cases h1
  exact h3 j x (by simpa [bytesA] using hj)
 have CH : Hid (∀ V, Calls Tryz.prog 27 #[.agg (bytesA ls)] V fun e w' => e = .returned (.tuple #[.agg (bytesA F), .agg (bytesA S)]) ∧ Below V.heap.size V w') := hid fun V => by
  rw [hF.out, hS.out]; exact halved_any ls hls V
 have CM : Hid (∀ g V, Below w.heap.size w V → Reads V V.heap.size 1 (some ⟨g, 0, none⟩) 32 (Lib.byteCells S) → Calls Tryz.prog 28 #[.slice (some ⟨g, 0, none⟩) 32 32] V fun e w' => e = .returned (.bool bm) ∧ Below V.heap.size V w') := hid fun g V hV h => by
  rw [hbm.out]; exact sca_ok8.may (some ⟨g, 0, none⟩) 32 32 S V (by omega) (by omega) (by unfold maxLen; omega) h (HQ.out.old hV)
 have CRS : Hid (∀ v V, Below w.heap.size w V → RowsV 3 [F, l, lt] v V → Calls Tryz.prog 14 #[v] V fun e w' => e = .returned (.agg (bytesA (fbytes k))) ∧ Below V.heap.size V w') := hid fun v V hV h => by
  have := restOf_any 3 [F, l, lt] v V h (by simp [Fl.out]; omega) (by omega) (HQ.out.old hV)
  rw [show [F, l, lt].flatten = F ++ (l ++ lt) by simp] at this
  rw [hkk.out]; exact this
 have CB : Hid (∀ V, Below w.heap.size w V → Calls Tryz.prog 15 #[] V fun e w' => ∃ v, e = .returned v ∧ (∃ c, v = .agg c ∧ PU pbase c) ∧ Below V.heap.size V w') := hid fun V hV => (ptOk8.base V (HQ.out.old hV)).mono fun e w' ⟨c, h1, h2, h3⟩ => ⟨_, h1, ⟨c, rfl, h2⟩, h3⟩
 have CT1 : Hid (∀ c V, PU pbase c → Below w.heap.size w V → Calls Tryz.prog 16 #[.agg c, .agg (bytesA S)] V fun e w' => ∃ v, e = .returned v ∧ (∃ c, v = .agg c ∧ PU p1 c) ∧ Below V.heap.size V w') := hid fun c V hc hV => by
  have := ptOk8.times (bval S) V (bval_256 Sl.out) hc (HQ.out.old hV)
  rw [fbytes_bval Sl.out, ← hp1.out] at this
  exact this.mono fun e w' ⟨c, h1, h2, h3⟩ => ⟨_, h1, ⟨c, rfl, h2⟩, h3⟩
 have CN : Hid (∀ c V, PU key c → Below w.heap.size w V → Calls Tryz.prog 30 #[.agg c] V fun e w' => ∃ v, e = .returned v ∧ (∃ c, v = .agg c ∧ PU (pneg key) c) ∧ Below V.heap.size V w') := hid fun c V hc hV => (ptOk8.neg V hc (HQ.out.old hV)).mono fun e w' ⟨c, h1, h2, h3⟩ => ⟨_, h1, ⟨c, rfl, h2⟩, h3⟩
 have CT2 : Hid (∀ c V, PU (pneg key) c → Below w.heap.size w V → Calls Tryz.prog 16 #[.agg c, .agg (bytesA (fbytes k))] V fun e w' => ∃ v, e = .returned v ∧ (∃ c, v = .agg c ∧ PU p2 c) ∧ Below V.heap.size V w') := hid fun c V hc hV => by
  have := ptOk8.times k V hk2 hc (HQ.out.old hV)
  rw [← hp2.out] at this
  exact this.mono fun e w' ⟨c, h1, h2, h3⟩ => ⟨_, h1, ⟨c, rfl, h2⟩, h3⟩
 have CA : Hid (∀ c d V, PU p1 c → PU p2 d → Below w.heap.size w V → Calls Tryz.prog 29 #[.agg c, .agg d] V fun e w' => ∃ v, e = .returned v ∧ (∃ c, v = .agg c ∧ PU (padd p1 p2) c) ∧ Below V.heap.size V w') := hid fun c d V hc hd hV => (ptOk8.add V hc hd (HQ.out.old hV)).mono fun e w' ⟨c, h1, h2, h3⟩ => ⟨_, h1, ⟨c, rfl, h2⟩, h3⟩
 have CY : Hid (∀ c V, PU (padd p1 p2) c → Below w.heap.size w V → Calls Tryz.prog 17 #[.agg c] V fun e w' => e = .returned (.agg (bytesA R)) ∧ Below V.heap.size V w') := hid fun c V hc hV => by
  rw [hR.out]; exact ptOk8.bytes V hc (HQ.out.old hV)
 have HB := hid (Below.refl w.heap.size w)
 have LSL := hid hls
 have KL := hid hl
 clear hr hrt hrs hl hlt hls hn hc hm hnt hct hns hcs hQ hkey h64 hzp hz hk hF hS hkk hk2 hp1 hp2 hR hbm hvb hA h32 hload
 go_enter Tryz.func10, Tryz.ntmps10
 go_upto_region 3 with fail
 (try simp only [Act.put, zA, zB, zC])
 refine wp_R [16, 17, 15, 18, 19, 7] [Rk.val (.slice (some ad) 32 c), Rk.is (fun v _ => ∃ c, v = .tuple #[.agg c, .int .i64 0] ∧ PU key c) (fun _ _ _ h _ => h), Rk.is (fun v _ => ∃ c, v = .tuple #[.agg c, .int .i64 0] ∧ PU key c) (fun _ _ _ h _ => h), Rk.is (fun v _ => ∃ c, v = .agg c ∧ PU key c) (fun _ _ _ h _ => h), Rk.val (.int .i64 0), Rk.fresh 46 zp] rfl (by kernel_rfl) (by kernel_rfl) (by kernel_rfl) (by kernel_rfl) ?hg2 _ (by rfl) ?hf2
 case hg2 =>
  refine gr_val rfl (fun a V H K Q hK => op_quiet (quiet_move (.tmp 0) (H.old 0) (.inl (by kernel_rfl))) hK) ?_
  refine gr_is rfl (fun a V H K Q hK => op_callR #[.tmp 16] #[.slice (some ad) 32 c] (map1 (H.rel 0 16 rfl)) (CG.out V H.frame) hK) ?_
  refine gr_is rfl (fun a V H K Q hK => by
    obtain ⟨c9, e9, h9⟩ : ∃ c, a.eval (.tmp 17) = .tuple #[.agg c, .int .i64 0] ∧ PU key c := (H.rel 1 17 rfl)
    exact op_quiet (quiet_move (.tmp 17) e9 (.inl (by kernel_rfl))) fun V' hb => hK _ V' hb ⟨c9, rfl, h9⟩) ?_
  refine gr_is rfl (fun a V H K Q hK => by
    obtain ⟨c9, e9, h9⟩ : ∃ c, a.eval (.tmp 15) = .tuple #[.agg c, .int .i64 0] ∧ PU key c := (H.rel 2 15 rfl)
    exact op_quiet (quiet_extract (t := #[.agg c9, .int .i64 0]) (.tmp 15) 0 e9 rfl (by kernel_rfl)) fun V' hb => hK _ V' hb ⟨c9, rfl, h9⟩) ?_
  refine gr_val rfl (fun a V H K Q hK => by
    obtain ⟨c9, e9, h9⟩ : ∃ c, a.eval (.tmp 15) = .tuple #[.agg c, .int .i64 0] ∧ PU key c := (H.rel 2 15 rfl)
    exact op_quiet (quiet_extract (t := #[.agg c9, .int .i64 0]) (.tmp 15) 1 e9 rfl (by kernel_rfl)) hK) ?_
  refine gr_fresh rfl (by kernel_rfl) hzp0 ?_
  exact gr_nil
 case hf2 =>
 intro x V hF
 have e0 : x 0 = .slice (some ad) 32 c := hF.rel 0 _ rfl
 obtain ⟨c17, e1, _⟩ : ∃ c, x 1 = .tuple #[.agg c, .int .i64 0] ∧ PU key c := hF.rel 1 _ rfl
 obtain ⟨c15, e2, _⟩ : ∃ c, x 2 = .tuple #[.agg c, .int .i64 0] ∧ PU key c := hF.rel 2 _ rfl
 obtain ⟨c18, e3, p18⟩ : ∃ c, x 3 = .agg c ∧ _ := hF.rel 3 _ rfl
 have e4 : x 4 = .int .i64 0 := hF.rel 4 _ rfl
 obtain ⟨g7, e5, lg7, bg7⟩ := hF.new 5 _ _ rfl
 have hbf := hF.frame
 clear hF
 simp only [Sch.finL, zA, zB, zC, e0, e1, e2, e3, e4, e5]
 clear e0 e1 e2 e3 e4 e5
 obtain ⟨i18, o18, z18⟩ := okp.out p18
 have PK := hid p18
 refine wpList_store_row rfl 46 (.tmp 7) (.tmp 18) rfl g7 c18 rfl rfl 46 zp bg7 i18 z18 o18 ?_
 have I18 := hid i18
 clear i18 o18 z18 p18
 have B7_2 := hid (bg7.row c18 : Blk (V.setRow g7 c18) g7 46 c18)
 have HB_2 := hid (below_row (HB.out.trans (hbf.mono HB.out.size)) (Nat.le_trans HB.out.size lg7) c18 : Below w.heap.size w (V.setRow g7 c18))
 clear HB hbf lg7 bg7
 generalize (V.setRow g7 c18) = W1 at *
 go_upto_region 6 with fail
 (try simp only [Act.put, zA, zB, zC])
 refine wp_R [23, 24, 25, 26, 22, 27, 28, 9, 10] [Rk.val (.slice (some as_) 64 cs), Rk.val (.pointer (some as_)), Rk.val (.agg (bytesA ls)), Rk.val (.tuple #[.agg (bytesA F), .agg (bytesA S)]), Rk.val (.tuple #[.agg (bytesA F), .agg (bytesA S)]), Rk.val (.agg (bytesA F)), Rk.val (.agg (bytesA S)), Rk.fresh 24 z, Rk.fresh 24 z] rfl (by kernel_rfl) (by kernel_rfl) (by kernel_rfl) (by kernel_rfl) ?hg3 _ (by rfl) ?hf3
 case hg3 =>
  refine gr_val rfl (fun a V H K Q hK => op_quiet (quiet_move (.tmp 2) (H.old 2) (.inl (by kernel_rfl))) hK) ?_
  refine gr_val rfl (fun a V H K Q hK => op_quiet (quiet_arr64 (.tmp 23) as_ cs (H.rel 0 23 rfl) (by kernel_rfl)) hK) ?_
  refine gr_val rfl (fun a V H K Q hK => op_quiet (quiet_load_add 28 (.tmp 24) as_ (H.rel 1 24 rfl) _ _ (bytesA ls) Tryz.underlying28 (inf64 LSL.out) (HLD.out V (HB_2.out.trans (H.frame.mono HB_2.out.size))) (by kernel_rfl)) hK) ?_
  refine gr_val rfl (fun a V H K Q hK => op_callK #[.tmp 25] #[.agg (bytesA ls)] (map1 (H.rel 2 25 rfl)) (CH.out V) hK) ?_
  refine gr_val rfl (fun a V H K Q hK => op_quiet (quiet_move (.tmp 26) (H.rel 3 26 rfl) (.inl (by kernel_rfl))) hK) ?_
  refine gr_val rfl (fun a V H K Q hK => op_quiet (quiet_extract (t := #[.agg (bytesA F), .agg (bytesA S)]) (.tmp 22) 0 (H.rel 4 22 rfl) rfl (by kernel_rfl)) hK) ?_
  refine gr_val rfl (fun a V H K Q hK => op_quiet (quiet_extract (t := #[.agg (bytesA F), .agg (bytesA S)]) (.tmp 22) 1 (H.rel 4 22 rfl) rfl (by kernel_rfl)) hK) ?_
  refine gr_fresh rfl (by kernel_rfl) hz0 ?_
  refine gr_fresh rfl (by kernel_rfl) hz0 ?_
  exact gr_nil
 case hf3 =>
 intro x V hF
 have e0 : x 0 = .slice (some as_) 64 cs := hF.rel 0 _ rfl
 have e1 : x 1 = .pointer (some as_) := hF.rel 1 _ rfl
 have e2 : x 2 = .agg (bytesA ls) := hF.rel 2 _ rfl
 have e3 : x 3 = .tuple #[.agg (bytesA F), .agg (bytesA S)] := hF.rel 3 _ rfl
 have e4 : x 4 = .tuple #[.agg (bytesA F), .agg (bytesA S)] := hF.rel 4 _ rfl
 have e5 : x 5 = .agg (bytesA F) := hF.rel 5 _ rfl
 have e6 : x 6 = .agg (bytesA S) := hF.rel 6 _ rfl
 obtain ⟨g9, e7, lg9, bg9⟩ := hF.new 7 _ _ rfl
 obtain ⟨g10, e8, lg10, bg10⟩ := hF.new 8 _ _ rfl
 have ng9_10 : g9 ≠ g10 := fun e => hF.apart 7 8 _ _ _ _ rfl rfl (by decide) (by rw [e7, e8, e])
 have ng10_9 : g10 ≠ g9 := fun e => hF.apart 8 7 _ _ _ _ rfl rfl (by decide) (by rw [e8, e7, e])
 have hbf := hF.frame
 clear hF
 simp only [Sch.finL, zA, zB, zC, e0, e1, e2, e3, e4, e5, e6, e7, e8]
 clear e0 e1 e2 e3 e4 e5 e6 e7 e8
 refine wpList_store_row rfl 24 (.tmp 9) (.tmp 27) rfl g9 (bytesA F) rfl rfl 24 z bg9 (inf32 Fl.out) (by rw [hzs.out, bytesA_size, Fl.out]) (bytesA_one F) ?_
 refine wpList_store_row rfl 24 (.tmp 10) (.tmp 28) rfl g10 (bytesA S) rfl rfl 24 z (bg10.rowFar ng10_9 (bytesA F)) (inf32 Sl.out) (by rw [hzs.out, bytesA_size, Sl.out]) (bytesA_one S) ?_
 have B7_3 := hid (((B7_2.out.old hbf).rowFar (Nat.ne_of_lt (Nat.lt_of_lt_of_le B7_2.out.lt lg9)) (bytesA F)).rowFar (Nat.ne_of_lt (Nat.lt_of_lt_of_le B7_2.out.lt lg10)) (bytesA S) : Blk ((V.setRow g9 (bytesA F)).setRow g10 (bytesA S)) g7 46 c18)
 have B9_3 := hid ((bg9.row (bytesA F)).rowFar ng9_10 (bytesA S) : Blk ((V.setRow g9 (bytesA F)).setRow g10 (bytesA S)) g9 24 (bytesA F))
 have B10_3 := hid ((bg10.rowFar ng10_9 (bytesA F)).row (bytesA S) : Blk ((V.setRow g9 (bytesA F)).setRow g10 (bytesA S)) g10 24 (bytesA S))
 have HB_3 := hid (below_row (below_row (HB_2.out.trans (hbf.mono HB_2.out.size)) (Nat.le_trans HB_2.out.size lg9) (bytesA F)) (Nat.le_trans HB_2.out.size lg10) (bytesA S) : Below w.heap.size w ((V.setRow g9 (bytesA F)).setRow g10 (bytesA S)))
 clear B7_2 HB_2 hbf lg9 lg10 bg9 bg10 ng9_10 ng10_9
 generalize ((V.setRow g9 (bytesA F)).setRow g10 (bytesA S)) = W2 at *
 go_upto_region 7 with fail
 (try simp only [Act.put, zA, zB, zC])
 cases bm
 case false =>
  refine wp_R [29, 30, 31] [Rk.val (.slice (some ⟨g10, 0, none⟩) 32 32), Rk.val (.bool false), Rk.val (.bool true)] rfl (by kernel_rfl) (by kernel_rfl) (by kernel_rfl) (by kernel_rfl) ?hg18 _ (by rfl) ?hf18
  case hg18 =>
   refine gr_val rfl (fun a V H K Q hK => op_quiet (quiet_slice32 (.tmp 10) g10 (H.old 10) (by kernel_rfl)) hK) ?_
   refine gr_val rfl (fun a V H K Q hK => op_callK #[.tmp 29] #[.slice (some ⟨g10, 0, none⟩) 32 32] (map1 (H.rel 0 29 rfl)) (CM.out g10 V (HB_3.out.trans (H.frame.mono HB_3.out.size)) (reads32 (B10_3.out.old H.frame) Sl.out)) hK) ?_
   refine gr_val rfl (fun a V H K Q hK => op_quiet (quiet_not (b := false) 4 (.tmp 30) (H.rel 1 30 rfl) (by kernel_rfl)) hK) ?_
   exact gr_nil
  case hf18 =>
  intro x V hF
  have e0 : x 0 = .slice (some ⟨g10, 0, none⟩) 32 32 := hF.rel 0 _ rfl
  have e1 : x 1 = .bool false := hF.rel 1 _ rfl
  have e2 : x 2 = .bool true := hF.rel 2 _ rfl
  have hbf := hF.frame
  clear hF
  simp only [Sch.finL, zA, zB, zC, e0, e1, e2]
  clear e0 e1 e2
  have HF := hid (HB_3.out.trans (hbf.mono HB_3.out.size))
  clear hbf
  have hvf := hv0.out rfl
  subst hvf
  refine tail_nil ?_
  go_wp2
  go_ret
  exact ⟨rfl, HF.out⟩
 case true =>
  refine wp_R [29, 30, 31] [Rk.val (.slice (some ⟨g10, 0, none⟩) 32 32), Rk.val (.bool true), Rk.val (.bool false)] rfl (by kernel_rfl) (by kernel_rfl) (by kernel_rfl) (by kernel_rfl) ?hg8 _ (by rfl) ?hf8
  case hg8 =>
   refine gr_val rfl (fun a V H K Q hK => op_quiet (quiet_slice32 (.tmp 10) g10 (H.old 10) (by kernel_rfl)) hK) ?_
   refine gr_val rfl (fun a V H K Q hK => op_callK #[.tmp 29] #[.slice (some ⟨g10, 0, none⟩) 32 32] (map1 (H.rel 0 29 rfl)) (CM.out g10 V (HB_3.out.trans (H.frame.mono HB_3.out.size)) (reads32 (B10_3.out.old H.frame) Sl.out)) hK) ?_
   refine gr_val rfl (fun a V H K Q hK => op_quiet (quiet_not (b := true) 4 (.tmp 30) (H.rel 1 30 rfl) (by kernel_rfl)) hK) ?_
   exact gr_nil
  case hf8 =>
  intro x V hF
  have e0 : x 0 = .slice (some ⟨g10, 0, none⟩) 32 32 := hF.rel 0 _ rfl
  have e1 : x 1 = .bool true := hF.rel 1 _ rfl
  have e2 : x 2 = .bool false := hF.rel 2 _ rfl
  have hbf := hF.frame
  clear hF
  simp only [Sch.finL, zA, zB, zC, e0, e1, e2]
  clear e0 e1 e2
  refine tail_nil ?_
  have B7_8 := hid ((B7_3.out.old hbf) : Blk V g7 46 c18)
  have B9_8 := hid ((B9_3.out.old hbf) : Blk V g9 24 (bytesA F))
  have B10_8 := hid ((B10_3.out.old hbf) : Blk V g10 24 (bytesA S))
  have HB_8 := hid (HB_3.out.trans (hbf.mono HB_3.out.size) : Below w.heap.size w V)
  clear B7_3 B9_3 B10_3 HB_3 hbf
  generalize V = W3 at *
  go_upto_region 9 with fail
  (try simp only [Act.put, zA, zB, zC])
  refine wp_R [32, 33, 34, 35, 36, 11] [Rk.val (.slice (some ⟨g9, 0, none⟩) 32 32), Rk.val (.slice (some ad) 32 c), Rk.val (.slice At nt ct), Rk.is (RowsV 3 [F, l, lt]) (fun _ _ _ h hb => RowsV.keep _ _ _ h hb), Rk.val (.agg (bytesA (fbytes k))), Rk.fresh 24 z] rfl (by kernel_rfl) (by kernel_rfl) (by kernel_rfl) (by kernel_rfl) ?hg9 _ (by rfl) ?hf9
  case hg9 =>
   refine gr_val rfl (fun a V H K Q hK => op_quiet (quiet_slice32 (.tmp 9) g9 (H.old 9) (by kernel_rfl)) hK) ?_
   refine gr_val rfl (fun a V H K Q hK => op_quiet (quiet_move (.tmp 0) (H.old 0) (.inl (by kernel_rfl))) hK) ?_
   refine gr_val rfl (fun a V H K Q hK => op_quiet (quiet_move (.tmp 1) (H.old 1) (.inl (by kernel_rfl))) hK) ?_
   refine gr_is rfl (fun a V H K Q hK => op_rows3 (.tmp 32) (.tmp 33) (.tmp 34) (some ⟨g9, 0, none⟩) (some ad) At 32 32 32 c nt ct F l lt (reads32 (B9_8.out.old H.frame) Fl.out) (Nat.le_refl _) ((HR.out.below (HB_8.out.trans (H.frame.mono HB_8.out.size))).more (HB_8.out.trans (H.frame.mono HB_8.out.size)).size) HC.out ((HT.out.below (HB_8.out.trans (H.frame.mono HB_8.out.size))).more (HB_8.out.trans (H.frame.mono HB_8.out.size)).size) HCT.out (H.rel 0 32 rfl) (H.rel 1 33 rfl) (H.rel 2 34 rfl) (by kernel_rfl) hK) ?_
   refine gr_val rfl (fun a V H K Q hK => by
     obtain ⟨A9, B9, e9, h9, k9⟩ : RowsV 3 [F, l, lt] (a.eval (.tmp 35)) V := (H.rel 3 35 rfl)
     exact op_callK #[.tmp 35] #[.slice A9 3 3] (map1 e9) (CRS.out _ V (HB_8.out.trans (H.frame.mono HB_8.out.size)) ⟨A9, B9, rfl, h9, k9⟩) hK) ?_
   refine gr_fresh rfl (by kernel_rfl) hz0 ?_
   exact gr_nil
  case hf9 =>
  intro x V hF
  have e0 : x 0 = .slice (some ⟨g9, 0, none⟩) 32 32 := hF.rel 0 _ rfl
  have e1 : x 1 = .slice (some ad) 32 c := hF.rel 1 _ rfl
  have e2 : x 2 = .slice At nt ct := hF.rel 2 _ rfl
  obtain ⟨_, _, e3, _, _⟩ : RowsV 3 [F, l, lt] (x 3) V := hF.rel 3 _ rfl
  have e4 : x 4 = .agg (bytesA (fbytes k)) := hF.rel 4 _ rfl
  obtain ⟨g11, e5, lg11, bg11⟩ := hF.new 5 _ _ rfl
  have hbf := hF.frame
  clear hF
  simp only [Sch.finL, zA, zB, zC, e0, e1, e2, e3, e4, e5]
  clear e0 e1 e2 e3 e4 e5
  refine wpList_store_row rfl 24 (.tmp 11) (.tmp 36) rfl g11 (bytesA (fbytes k)) rfl rfl 24 z bg11 (inf32 (fbytes_length _)) (by rw [hzs.out, bytesA_size, fbytes_length]) (bytesA_one _) ?_
  have B7_9 := hid ((B7_8.out.old hbf).rowFar (Nat.ne_of_lt (Nat.lt_of_lt_of_le B7_8.out.lt lg11)) (bytesA (fbytes k)) : Blk (V.setRow g11 (bytesA (fbytes k))) g7 46 c18)
  have B9_9 := hid ((B9_8.out.old hbf).rowFar (Nat.ne_of_lt (Nat.lt_of_lt_of_le B9_8.out.lt lg11)) (bytesA (fbytes k)) : Blk (V.setRow g11 (bytesA (fbytes k))) g9 24 (bytesA F))
  have B10_9 := hid ((B10_8.out.old hbf).rowFar (Nat.ne_of_lt (Nat.lt_of_lt_of_le B10_8.out.lt lg11)) (bytesA (fbytes k)) : Blk (V.setRow g11 (bytesA (fbytes k))) g10 24 (bytesA S))
  have B11_9 := hid (bg11.row (bytesA (fbytes k)) : Blk (V.setRow g11 (bytesA (fbytes k))) g11 24 (bytesA (fbytes k)))
  have HB_9 := hid (below_row (HB_8.out.trans (hbf.mono HB_8.out.size)) (Nat.le_trans HB_8.out.size lg11) (bytesA (fbytes k)) : Below w.heap.size w (V.setRow g11 (bytesA (fbytes k))))
  clear B7_8 B9_8 B10_8 HB_8 hbf lg11 bg11
  generalize (V.setRow g11 (bytesA (fbytes k))) = W4 at *
  go_upto_region 10 with fail
  (try simp only [Act.put, zA, zB, zC])
  refine wp_R [37, 38, 39, 40, 41, 42, 43, 44, 45, 46, 47] [Rk.is (fun v _ => ∃ c, v = .agg c ∧ PU pbase c) (fun _ _ _ h _ => h), Rk.val (.agg (bytesA S)), Rk.is (fun v _ => ∃ c, v = .agg c ∧ PU p1 c) (fun _ _ _ h _ => h), Rk.val (.agg c18), Rk.is (fun v _ => ∃ c, v = .agg c ∧ PU (pneg key) c) (fun _ _ _ h _ => h), Rk.val (.agg (bytesA (fbytes k))), Rk.is (fun v _ => ∃ c, v = .agg c ∧ PU p2 c) (fun _ _ _ h _ => h), Rk.is (fun v _ => ∃ c, v = .agg c ∧ PU (padd p1 p2) c) (fun _ _ _ h _ => h), Rk.val (.agg (bytesA R)), Rk.val (.agg (bytesA F)), Rk.val (.bool vb)] rfl (by kernel_rfl) (by kernel_rfl) (by kernel_rfl) (by kernel_rfl) ?hg10 _ (by rfl) ?hf10
  case hg10 =>
   refine gr_is rfl (fun a V H K Q hK => op_callR #[] #[] map0 (CB.out V (HB_9.out.trans (H.frame.mono HB_9.out.size))) hK) ?_
   refine gr_val rfl (fun a V H K Q hK => op_quiet (quiet_load_row 24 (.tmp 10) g10 (H.old 10) 24 (bytesA S) _ (B10_9.out.old (H.frame)) Tryz.underlying24 rfl (inf32 Sl.out) (by kernel_rfl)) hK) ?_
   refine gr_is rfl (fun a V H K Q hK => by
     obtain ⟨c9, ec, hc⟩ : ∃ c, a.eval (.tmp 37) = .agg c ∧ PU pbase c := (H.rel 0 37 rfl)
     exact op_callR #[.tmp 37, .tmp 38] #[.agg c9, .agg (bytesA S)] (map2 ec (H.rel 1 38 rfl)) (CT1.out c9 V hc (HB_9.out.trans (H.frame.mono HB_9.out.size))) hK) ?_
   refine gr_val rfl (fun a V H K Q hK => op_quiet (quiet_load_row 46 (.tmp 7) g7 (H.old 7) 46 c18 _ (B7_9.out.old H.frame) Tryz.underlying46 rfl I18.out (by kernel_rfl)) hK) ?_
   refine gr_is rfl (fun a V H K Q hK => op_callR #[.tmp 40] #[.agg c18] (map1 (H.rel 3 40 rfl)) (CN.out c18 V PK.out (HB_9.out.trans (H.frame.mono HB_9.out.size))) hK) ?_
   refine gr_val rfl (fun a V H K Q hK => op_quiet (quiet_load_row 24 (.tmp 11) g11 (H.old 11) 24 (bytesA (fbytes k)) _ (B11_9.out.old (H.frame)) Tryz.underlying24 rfl (inf32 (fbytes_length _)) (by kernel_rfl)) hK) ?_
   refine gr_is rfl (fun a V H K Q hK => by
     obtain ⟨c9, ec, hc⟩ : ∃ c, a.eval (.tmp 41) = .agg c ∧ PU (pneg key) c := (H.rel 4 41 rfl)
     exact op_callR #[.tmp 41, .tmp 42] #[.agg c9, .agg (bytesA (fbytes k))] (map2 ec (H.rel 5 42 rfl)) (CT2.out c9 V hc (HB_9.out.trans (H.frame.mono HB_9.out.size))) hK) ?_
   refine gr_is rfl (fun a V H K Q hK => by
     obtain ⟨c9, ec, hc⟩ : ∃ c, a.eval (.tmp 39) = .agg c ∧ PU p1 c := (H.rel 2 39 rfl)
     obtain ⟨d9, ed, hd⟩ : ∃ c, a.eval (.tmp 43) = .agg c ∧ PU p2 c := (H.rel 6 43 rfl)
     exact op_callR #[.tmp 39, .tmp 43] #[.agg c9, .agg d9] (map2 ec ed) (CA.out c9 d9 V hc hd (HB_9.out.trans (H.frame.mono HB_9.out.size))) hK) ?_
   refine gr_val rfl (fun a V H K Q hK => by
     obtain ⟨c9, ec, hc⟩ : ∃ c, a.eval (.tmp 44) = .agg c ∧ PU (padd p1 p2) c := (H.rel 7 44 rfl)
     exact op_callK #[.tmp 44] #[.agg c9] (map1 ec) (CY.out c9 V hc (HB_9.out.trans (H.frame.mono HB_9.out.size))) hK) ?_
   refine gr_val rfl (fun a V H K Q hK => op_quiet (quiet_load_row 24 (.tmp 9) g9 (H.old 9) 24 (bytesA F) _ (B9_9.out.old (H.frame)) Tryz.underlying24 rfl (inf32 Fl.out) (by kernel_rfl)) hK) ?_
   refine gr_val rfl (fun a V H K Q hK => op_quiet (quiet_eqb_bytes V (.tmp 45) (.tmp 46) 24 R F vb (hv1.out rfl) Rl.out Fl.out (H.rel 8 45 rfl) (H.rel 9 46 rfl) (by kernel_rfl)) hK) ?_
   exact gr_nil
  case hf10 =>
  intro x V hF
  obtain ⟨c37, e0, p37⟩ : ∃ c, x 0 = .agg c ∧ _ := hF.rel 0 _ rfl
  have e1 : x 1 = .agg (bytesA S) := hF.rel 1 _ rfl
  obtain ⟨c39, e2, p39⟩ : ∃ c, x 2 = .agg c ∧ _ := hF.rel 2 _ rfl
  have e3 : x 3 = .agg c18 := hF.rel 3 _ rfl
  obtain ⟨c41, e4, p41⟩ : ∃ c, x 4 = .agg c ∧ _ := hF.rel 4 _ rfl
  have e5 : x 5 = .agg (bytesA (fbytes k)) := hF.rel 5 _ rfl
  obtain ⟨c43, e6, p43⟩ : ∃ c, x 6 = .agg c ∧ _ := hF.rel 6 _ rfl
  obtain ⟨c44, e7, p44⟩ : ∃ c, x 7 = .agg c ∧ _ := hF.rel 7 _ rfl
  have e8 : x 8 = .agg (bytesA R) := hF.rel 8 _ rfl
  have e9 : x 9 = .agg (bytesA F) := hF.rel 9 _ rfl
  have e10 : x 10 = .bool vb := hF.rel 10 _ rfl
  have hbf := hF.frame
  clear hF
  simp only [Sch.finL, zA, zB, zC, e0, e1, e2, e3, e4, e5, e6, e7, e8, e9, e10]
  clear e0 e1 e2 e3 e4 e5 e6 e7 e8 e9 e10
  have HF := hid (HB_9.out.trans (hbf.mono HB_9.out.size))
  clear hbf
  go_wp2_with fail
  go_ret
  exact ⟨rfl, HF.out⟩
end Go.Proofs.YtcfogpeinjehbaaGreatDoor
end

section
set_option maxRecDepth 100000
namespace Go.Proofs.YtcfogpeinjehbaaGreatDoor
open Go Go.Proofs Go.RowKit F5
open Sch (wp_R gr_val gr_is gr_fresh gr_nil op_callR Rk)
open Sha (sumOf sumOf_length RowsR)
theorem edOk : EdOk Q8 where
 old := fun h hb => h.old hb
 pub A n c l w hn hc hm hr hQ := edPublic_any A n c l w hn hc hr hQ
 sign A n c l At nt ct lt w hn hc hm hr hnt hct hmt hrt hQ := edSign_any A n c l At nt ct lt w hn hc hr hnt hct hrt hQ
 verify A n c l At nt ct lt As ns cs ls w hn hc hm hr hnt hct hmt hrt hns hcs hms hrs hQ := edVerify_any A n c l At nt ct lt As ns cs ls w hn hc hm hr hnt hct hrt hns hcs hrs hQ
end Go.Proofs.YtcfogpeinjehbaaGreatDoor
end

section
set_option maxRecDepth 100000
namespace Go.Proofs.YtcfogpeinjehbaaGreatDoor
open Go Go.Proofs Go.RowKit F5
theorem made32 : madeCells #[.int .u8 0] 32 = bytesA (List.replicate 32 0) := by kernel_rfl
theorem pub_zero_cell (i x : Nat) (hi : i < 4) (hx : zY / 256 ^ i % 256 = x) : (bytesA (pubO (List.replicate 32 0)))[i]? = some (.int .u8 (x : Int)) := by
 have e : pubO (List.replicate 32 0) = pubL (List.replicate 32 0) := rfl
 rw [e, bytesA_get _ _ (by unfold pubL; rw [ptL_length]; omega), pub_zero i hi x hx]
set_option maxHeartbeats 4000000 in
theorem awake8_any {Q : World → Prop} (H : EdOk Q) (w : World) (hQ : Q w) : Calls Tryz.prog 5 #[] w fun e w' => e = .returned (.bool true) ∧ Below w.heap.size w w' := by
 obtain ⟨z, hz⟩ : ∃ z, Hid (z = bytesA (List.replicate 32 0)) := ⟨_, hid rfl⟩
 have hz0 : ∀ W, (zeroValue 24).run Tryz.prog W = .ok (.agg z) W := by
  rw [hz.out]; exact (zero_of_info (n := 32) (by kernel_rfl)).1
 have kmake : ∀ W, (Instr.makeSlice 22 (.int .i64 32) (.int .i64 32)).run Tryz.prog W = .ok (.slice (some ⟨W.heap.size, 0, none⟩) 32 32) (W.alloc (.cells z 5)) := fun W => by
  rw [hz.out, ← made32]
  exact run_make_row' (P := Tryz.prog) 22 5 (.int .u8 0) 1 Tryz.underlying22 infoByte rfl .i64 .i64 32 (by omega) (by omega) W
 obtain ⟨R, hR⟩ : ∃ R, Hid (R = bytesA (pubO (List.replicate 32 0))) := ⟨_, hid rfl⟩
 have k0 : Hid (R[0]? = some (.int .u8 59)) := by rw [hR.out]; exact hid (pub_zero_cell 0 59 (by omega) (by decide +kernel))
 have k1 : Hid (R[1]? = some (.int .u8 106)) := by rw [hR.out]; exact hid (pub_zero_cell 1 106 (by omega) (by decide +kernel))
 have k2 : Hid (R[2]? = some (.int .u8 39)) := by rw [hR.out]; exact hid (pub_zero_cell 2 39 (by omega) (by decide +kernel))
 have k3 : Hid (R[3]? = some (.int .u8 188)) := by rw [hR.out]; exact hid (pub_zero_cell 3 188 (by omega) (by decide +kernel))
 have hRl : (pubO (List.replicate 32 0)).length = 32 := pubO_length _
 have hRi : Hid ((Tryz.prog.info? 24).map (·.size) = some R.size) := by rw [hR.out, bytesA_size, hRl]; exact hid (by kernel_rfl)
 have hR1 : Hid (R.all (·.oneCell') = true) := by rw [hR.out]; exact hid (bytesA_one _)
 have hzz : Hid (z.size = R.size) := by rw [hR.out, hz.out, bytesA_size, bytesA_size, hRl]; exact hid rfl
 have hb0 := (Below.refl w.heap.size w).alloc (Nat.le_refl _) (.cells z 5)
 have hr0 : Reads (w.alloc (.cells z 5)) (w.alloc (.cells z 5)).heap.size 1 (some ⟨w.heap.size, 0, none⟩) 32 (Lib.byteCells (List.replicate 32 0)) := by
  have := Blk.new w 5 z
  rw [hz.out] at this ⊢
  exact reads_blk this
 have CP : Hid (Calls Tryz.prog 6 #[.slice (some ⟨w.heap.size, 0, none⟩) 32 32] (w.alloc (.cells z 5)) fun e w' => e = .returned (.tuple #[.agg R, .int .i64 0]) ∧ Below (w.alloc (.cells z 5)).heap.size (w.alloc (.cells z 5)) w') := by
  have := H.pub (some ⟨w.heap.size, 0, none⟩) 32 32 (List.replicate 32 0) _ (by omega) (by omega) (by unfold maxLen; omega) hr0 (H.old hQ hb0)
  rw [hR.out]
  exact hid this
 have HB := hid hb0
 clear hz hR hRl hr0 hb0 hQ
 go_enter Tryz.func5, Tryz.ntmps5
 go_wp2_with fail
 refine CP.out.mono ?_
 rintro e w1 ⟨rfl, hb1⟩
 have b1 := Blk.new w1 24 R
 have hbe := hid ((HB.out.trans (hb1.mono HB.out.size)).alloc (HB.out.trans (hb1.mono HB.out.size)).size (.cells R 24))
 have c0 := (b1.cell 0).trans k0.out
 have c1 := (b1.cell 1).trans k1.out
 have c2 := (b1.cell 2).trans k2.out
 have c3 := (b1.cell 3).trans k3.out
 have hal : Tryz.prog.arrayLen 24 = 32 := by kernel_rfl
 have hel : Tryz.prog.elem 24 = 5 := by kernel_rfl
 clear hb1 b1
 go_wp2_with (refine wpList_store_row rfl 24 (.tmp 1) (.tmp 6) rfl w1.heap.size R rfl rfl 24 z (heap_alloc_new w1 _) hRi.out hzz.out hR1.out ?_; rw [setRow_alloc1])
 go_ret
 exact ⟨rfl, hbe.out⟩
end Go.Proofs.YtcfogpeinjehbaaGreatDoor
end
