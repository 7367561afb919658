/-
  Several texts in one: SchedIn, ScaBlk, ScaRef1, ScaRef2, ScaByt, ScaRef3, ScaRef4, ScaRef5, ScaOk, ScaLimb, ScaBack, ScaTimes, PtTimesP, PtOkP, FldTab, FldTurn, PtQ, RowBytes, FldArg. Conditions: those that each theorem states.
-/
import Derived.Test.YtjiadbaaggifpaaDoorM4
import Derived.RangeFuncNested
import Derived.RangeFuncBound
import Derived.RangeFuncCalls
import Derived.RangeFuncLeaves
import Derived.RangeFuncFrom
import Derived.OwnWalkIn
import Derived.OrdersIn
import Derived.Test.YtjiadbaaggifpaaDoorProg
import Derived.Deep.WholeRow
import Derived.WalkMore
import Derived.WalkKit
import Derived.IntWalk
import Derived.Lib.Hide
import Derived.Deep.LoopGhost
import Derived.StillTailTactics
import Derived.BigRegion
import Derived.Deep.OwnRows
import Derived.Deep.RegionWith
import Derived.Deep.RegionHeld3
import Derived.ChangeKeysEq
import Derived.Laws.ResultCell
import Derived.Deep.DeepCutAuto
import Derived.Deep.CutBlock
import Derived.Shelf.Spec.BitsCarry
import Derived.Shelf.Abstract
import Derived.Shelf.RegionOpen
import Derived.TacticsInMore
import Derived.LoopNIn
import Derived.LoopIn
import Derived.Sort.CutIn
import Derived.Test.YtjiadbaaggifpaaDoorRows
import Derived.Lib.LaidTab
import Derived.Stop.LaidErr
import Derived.OpenShut
import Derived.WideKeyArr2

section
set_option linter.unusedVariables false
set_option linter.unusedSimpArgs false
namespace Go.Proofs.YtjiadbaaggifpaaDoor
open Go Go.Proofs Go.RowKit F5

theorem wpIn_of_wp {P : Program} {lp n : Nat} (o : Oper) (a : Act) (V : World) (K : Act → World → Prop) (Q : Exit → Act → World → Prop) (hd : ∀ c, o.op ≠ .defer c) (h : o.wp P a V K Q) : o.wpIn (Fence.wide.inRound lp) n P a V K Q := by
  unfold Oper.wpIn
  refine ⟨fun f _ => trivial, ?_⟩
  rw [Oper.semAt_plain _ _ _ hd]
  unfold Oper.wp at h
  generalize (execOp a.eval o).run P V = r at *
  cases r with
  | ok x w' =>
    cases x <;> simp only [Oper.upon, Oper.uponIn] at h ⊢ <;>
      first
        | exact h
        | exact ⟨fun hh => (by cases hh), CallsIn.inRound lp (callsIn_wide.2 (h.mono fun e w'' he => by cases e <;> exact he))⟩
        | exact ⟨fun hh => (by cases hh), fun c cs _ => let ⟨v, w2, r, s⟩ := h c cs; ⟨v, w2, r, stepsIn_wide.2 s⟩⟩
  | halt x w' => cases x <;> simp only [Oper.upon, Oper.uponIn] at h ⊢ <;> exact h
theorem sched_opIn {F : Fence} {n : Nat} {P : Program} {ops : Array Oper} {PL : List Pl} {a0 : Act} {w0 : World} {Q : Exit → Act → World → Prop} {S : World → Prop} (hF : ∀ f, F.fn f) (hin : ∀ (o : Oper) (a : Act) (V : World) (K : Act → World → Prop) (Q : Exit → Act → World → Prop), (∀ c, o.op ≠ .defer c) → o.wp P a V K Q → o.wpIn F n P a V K Q) (hdef : ∀ (i : Nat) (o : Oper) (c : Call), ops[i]? = some o → o.op ≠ .defer c) (hc : Chk ops PL a0.tmps.size) (hg : Goods P ops PL a0.tmps S 0 PL) (hS : ∀ V, Below w0.heap.size w0 V → S V)
    {listed : Array Bool} {a : Act} {w : World} (h : SInv ops PL a0 w0 listed a w) {i : Nat} (him : i < PL.length) (hun : listed.getD i true = false) (hdeps : ∀ j ∈ onsOf ops i, listed.getD j false = true) {K : Act → World → Prop}
    (hK : ∀ a' V, SInv ops PL a0 w0 (listed.setIfInBounds i true) a' V → K a' V) : wpOpIn F n P ops Q i K a w := by
  obtain ⟨o, d, ho, hd, hds⟩ := hc.op i him
  have hos : i < ops.size := by rw [← h.lsize]; exact getD_lt' hun
  obtain ⟨p, hp⟩ : ∃ p, PL[i]? = some p := ⟨_, List.getElem?_eq_getElem him⟩
  have good := goods_at PL 0 hg i p hp
  rw [Nat.zero_add] at good
  unfold wpOpIn
  simp only [ho]
  have hnext : ∀ u V, Below w.heap.size w V → (p = .is u ∨ ∃ T z, p = .fresh T z ∧ u = .pointer (some ⟨w.heap.size, 0, none⟩) ∧ Blk V w.heap.size T z) → K (a.put o.dst u) V := fun u V hb hu =>
    hK _ _ (h.next hc him hun ho hdeps hd hds hp hb u hu)
  cases p with
  | is v =>
    have good2 := good a w (fun t ht => ?_) (hS w h.below)
    · rw [opA_of ho] at good2
      rcases good2 with ⟨hw, good2⟩ | ⟨hw, rfl⟩
      · rw [if_pos hw]
        exact hin _ _ _ _ _ (fun c => hdef i o c ho) (good2 _ _ (fun V hb => hnext v V hb (.inl rfl)))
      · rw [if_neg (by rw [hw]; decide)]
        exact ⟨fun f _ => hF f, hnext _ w (Below.refl _ _) (.inl rfl)⟩
    · unfold looks at ht
      rw [Bool.or_eq_true] at ht
      unfold valOf
      rcases ht with ht | ht
      · have hno : (List.range PL.length).find? (fun j => dstOf ops j == some t) = none := by
          rw [List.find?_eq_none]
          intro j hj
          have := List.all_eq_true.1 ht j hj
          simpa using this
        rw [hno]
        refine h.far t fun j hj hjt => ?_
        have := List.all_eq_true.1 ht j (List.mem_range.2 hj)
        rw [hjt] at this
        simp at this
      · obtain ⟨j, hj, hj2⟩ := List.any_eq_true.1 ht
        rw [Bool.and_eq_true] at hj2
        obtain ⟨hj2, hj3⟩ := hj2
        have hjt : dstOf ops j = some t := by simpa using hj2
        have hji := hc.small i him j hj
        have hjm : j < PL.length := by omega
        have hfind : (List.range PL.length).find? (fun j => dstOf ops j == some t) = some j := by
          rw [List.find?_range_eq_some]
          refine ⟨by simpa using hjt, List.mem_range.2 hjm, fun k hk => ?_⟩
          have := hc.ne k j (by omega) hjm (by omega)
          rw [hjt] at this
          simpa using this
        rw [hfind]
        obtain ⟨q, hq⟩ : ∃ q, PL[j]? = some q := ⟨_, List.getElem?_eq_getElem hjm⟩
        simp only [hq] at hj3 ⊢
        cases q with
        | is v' => exact h.is j v' t hq (by rw [getD_tf (by rw [h.lsize]; omega)]; exact hdeps j hj) hjt
        | fresh _ _ => simp at hj3
  | fresh T z =>
    obtain ⟨hop, hz⟩ := good
    rw [ho] at hop
    simp only [Option.map_some, Option.some.injEq, Prod.mk.injEq] at hop
    obtain ⟨hop, hgd⟩ := hop
    have hw : Region.wanted o (yielded ops a.tmps) = true := by unfold Region.wanted; rw [hgd]
    rw [if_pos hw]
    refine hin _ _ _ _ _ (fun c => hdef i o c ho) ?_
    have hrun : (execOp a.eval o).run P w = .ok (.value (.pointer (some ⟨w.heap.size, 0, none⟩))) (w.alloc (.cells z T)) := by
      unfold execOp
      simp only [hop, Instr.alloc, Sem.run_bind, hz, Result.andThen_ok, Sem.run_pure]
      simp [go_sem]
    unfold Oper.wp
    rw [hrun, Oper.upon_value]
    exact hnext _ _ ((Below.refl _ _).alloc (Nat.le_refl _) _) (.inr ⟨T, z, rfl, rfl, Blk.new w T z⟩)

theorem wpAny_schedIn {F : Fence} {n : Nat} {P : Program} {ops : Array Oper} {PL : List Pl} {a0 : Act} {w0 : World} {Q : Exit → Act → World → Prop} {S : World → Prop} (hF : ∀ f, F.fn f) (hin : ∀ (o : Oper) (a : Act) (V : World) (K : Act → World → Prop) (Q : Exit → Act → World → Prop), (∀ c, o.op ≠ .defer c) → o.wp P a V K Q → o.wpIn F n P a V K Q) (hdef : ∀ (i : Nat) (o : Oper) (c : Call), ops[i]? = some o → o.op ≠ .defer c) (hc : Chk ops PL a0.tmps.size) (hcl : cloB ops PL = true) (hg : Goods P ops PL a0.tmps S 0 PL) (hS : ∀ V, Below w0.heap.size w0 V → S V)
    (hfin : ∀ a V, SInv ops PL a0 w0 (listedM ops PL) a V → wpAnyIn F n P .any ops Q (ops.size - PL.length) (listedM ops PL) a V) :
    ∀ (fuel : Nat) (listed : Array Bool) (a : Act) (w : World), SInv ops PL a0 w0 listed a w → listed.toList.count true + fuel = ops.size → wpAnyIn F n P .any ops Q fuel listed a w := by
  intro fuel
  induction fuel with
  | zero =>
    intro listed a w h hn
    have hall : ∀ i, i < PL.length → listed.getD i true = true := fun i hi => by
      have hl : i < listed.size := by rw [h.lsize]; exact Nat.lt_of_lt_of_le hi hc.le
      have := count_all (l := listed.toList) (by rw [Array.length_toList, h.lsize]; omega) i (by simpa using hl)
      simp only [Array.getD_eq_getD_getElem?, Array.getElem?_eq_getElem hl, Option.getD_some]
      simpa using this
    have e := listed_eq h hc.le hall
    subst e
    have := hfin a w h
    have hcnt : (listedM ops PL).toList.count true = PL.length := by simp [listedM, List.count_replicate]
    rw [hcnt] at hn
    rw [show ops.size - PL.length = 0 by omega] at this
    exact this
  | succ fuel ih =>
    intro listed a w h hn
    by_cases hall : ∀ i, i < PL.length → listed.getD i true = true
    · have e := listed_eq h hc.le hall
      subst e
      have := hfin a w h
      have hcnt : (listedM ops PL).toList.count true = PL.length := by simp [listedM, List.count_replicate]
      rw [hcnt] at hn
      rw [show ops.size - PL.length = fuel + 1 by omega] at this
      exact this
    · refine ⟨fun hr => ?_, fun i hi => ?_⟩
      · exfalso
        apply hall
        intro i
        induction i using Nat.strongRecOn with
        | ind i ihi =>
          intro him
          cases hl : listed.getD i true with
          | true => rfl
          | false =>
            obtain ⟨o, d, ho, _, _⟩ := hc.op i him
            have : i ∈ Region.ready .any ops listed := mem_ready.2 ⟨hl, o, ho, fun e he hb => by
              have hj : e.on ∈ onsOf ops i := by
                unfold onsOf; rw [ho]
                simp only [List.mem_map, List.mem_filter]
                exact ⟨e, ⟨by simpa using he, hb⟩, rfl⟩
              have hlt := hc.small i him _ hj
              have := ihi _ hlt (by omega)
              rwa [getD_tf (by rw [h.lsize]; have := hc.le; omega)] at this⟩
            rw [hr] at this; cases this
      · obtain ⟨hun, o, ho, hdep⟩ := mem_ready.1 hi
        have hdeps := onsOf_of ho hdep
        have hos : i < ops.size := by rw [← h.lsize]; exact getD_lt' hun
        by_cases him : i < PL.length
        · exact sched_opIn hF hin hdef hc hg hS h him hun hdeps fun a' V h' => ih _ _ _ h' (by rw [count_set hun]; omega)
        · exfalso
          apply hall
          have hd : ∀ k, listed.getD k false = true → ∀ j ∈ onsOf ops k, listed.getD j false = true := fun k hk => by
            have hks := getD_lt hk
            by_cases hkm : k < PL.length
            · exact h.down k hkm (by rw [getD_tf hks]; exact hk)
            · have := h.late k (by omega) (by rw [← h.lsize]; exact hks)
              rw [getD_tf hks, hk] at this; cases this
          intro j hj
          have := clo_listed hd 12 _ hdeps j (clo_spec hcl i (by omega) hos j hj)
          rw [getD_tf (getD_lt this)]; exact this

theorem wpAny_tailIn {F : Fence} {n : Nat} {P : Program} {ops : Array Oper} {Q : Exit → Act → World → Prop} {m : Nat} (hs : seqd ops m = true) : ∀ (f k : Nat) (a : Act) (w : World), k + f = ops.size - m → m ≤ ops.size → wpListIn F n P ops Q (ops.toList.drop (m + k)) a w → wpAnyIn F n P .any ops Q f (listedK ops.size (m + k)) a w
  | 0, k, a, w, hk, hm, h => by
    unfold seqd at hs
    rw [Bool.and_eq_true] at hs
    have e : m + k = ops.size := by omega
    rw [e] at h ⊢
    rw [List.drop_of_length_le (by simp)] at h
    exact ⟨by simpa using hs.2, h⟩
  | f + 1, k, a, w, hk, hm, h => by
    have hs' := hs
    unfold seqd at hs
    rw [Bool.and_eq_true, List.all_eq_true] at hs
    have hr : Region.ready .any ops (listedK ops.size (m + k)) = [m + k] := by have := hs.1 k (List.mem_range.2 (by omega)); simpa using this
    have hlt : m + k < ops.size := by omega
    refine ⟨fun h0 => (by rw [hr] at h0; cases h0), fun i hi => ?_⟩
    rw [hr] at hi
    obtain rfl : i = m + k := by simpa using hi
    have ho : ops[m + k]? = some ops[m + k] := Array.getElem?_eq_getElem hlt
    have hl : ops.toList.drop (m + k) = ops[m + k] :: ops.toList.drop (m + (k + 1)) := by
      rw [List.drop_eq_getElem_cons (by simpa using hlt)]; rfl
    rw [hl] at h
    unfold wpListIn at h
    unfold wpOpIn
    simp only [ho]
    rw [listedK_set hlt]
    have ih := fun a w => wpAny_tailIn (F := F) (n := n) (P := P) (Q := Q) hs' f (k + 1) a w (by omega) hm
    split
    · rename_i hw
      rw [if_pos hw] at h
      exact Oper.wpIn_mono (fun a w hh => ih a w hh) h
    · rename_i hw
      rw [if_neg hw] at h
      exact ⟨h.1, ih _ _ h.2⟩

theorem wp_schedTIn {F : Fence} {n : Nat} {P : Program} {ops : Array Oper} {a0 : Act} {w0 : World} {Q : Exit → Act → World → Prop} {id : Nat} (PL : List Pl) (S : World → Prop) (draw : Bool) (hF : ∀ f, F.fn f) (hin : ∀ (o : Oper) (a : Act) (V : World) (K : Act → World → Prop) (Q : Exit → Act → World → Prop), (∀ c, o.op ≠ .defer c) → o.wp P a V K Q → o.wpIn F n P a V K Q) (hdef : ∀ (i : Nat) (o : Oper) (c : Call), ops[i]? = some o → o.op ≠ .defer c) (hm : P.follows .mixedOrders = true) (hc : chk ops PL a0.tmps.size = true) (hq : (!draw || (cloB ops PL && seqd ops PL.length)) = true)
    (hS : ∀ V, Below w0.heap.size w0 V → S V) (hg : Goods P ops PL a0.tmps S 0 PL)
    (hfin : ∀ (g : Nat → Nat) (V : World), SFin PL g w0 V → wpListIn F n P ops Q (ops.toList.drop PL.length) ⟨finT ops g 0 PL a0.tmps, a0.defers⟩ V) :
    (Code.region id ops draw).wpIn F n P Q a0 w0 := by
  have HC := chk_spec hc
  have fin : ∀ a V, SInv ops PL a0 w0 (listedM ops PL) a V → wpListIn F n P ops Q (ops.toList.drop PL.length) a V := fun a V h => by
    obtain ⟨g, h1, h2⟩ := sinv_end HC h
    have := hfin g V h1
    rw [h2, ← h.defers] at this
    exact this
  cases draw with
  | true =>
    have hq2 : cloB ops PL = true ∧ seqd ops PL.length = true := by simpa using hq
    refine wpIn_region_any hm (wpAny_schedIn hF hin hdef HC hq2.1 hg hS (fun a V h => ?_) ops.size _ a0 w0.drew (sinv_start HC (Below.refl _ _).drew) (by simp [List.count_replicate]))
    have := wpAny_tailIn (F := F) (n := n) (P := P) (Q := Q) hq2.2 (ops.size - PL.length) 0 a V (by omega) HC.le (fin a V h)
    rw [Nat.add_zero, ← listedM_K] at this
    exact this
  | false =>
    refine wpIn_region ?_
    have key : ∀ (f k : Nat) (a : Act) (w : World), k + f = PL.length → SInv ops PL a0 w0 (listedK ops.size k) a w → wpOpsIn F n P ops Q (List.range' k (ops.size - k)) a w := by
      intro f
      induction f with
      | zero =>
        intro k a w hk h
        rw [Nat.add_zero] at hk
        subst hk
        have := fin a w h
        have e : wpOpsIn F n P ops Q (List.range' PL.length (ops.size - PL.length)) = wpListIn F n P ops Q (ops.toList.drop PL.length) := by
          have e1 := wpOpsIn_eq_wpListIn (F := F) (n := n) (P := P) (Q := Q) (ops := ops) (ops.toList.drop PL.length) PL.length (fun j => by simp)
          have e2 : (ops.toList.drop PL.length).length = ops.size - PL.length := by simp
          rw [e2] at e1; exact e1
        rw [e]; exact this
      | succ f ih =>
        intro k a w hk h
        have hkm : k < PL.length := by omega
        have hks : k < ops.size := Nat.lt_of_lt_of_le hkm HC.le
        rw [show ops.size - k = (ops.size - (k + 1)) + 1 by omega, List.range'_succ, wpOpsIn_cons]
        refine sched_opIn hF hin hdef HC hg hS h hkm ?_ (fun j hj => ?_) (fun a' V h' => ?_)
        · simp [listedK, Array.getD_eq_getD_getElem?, List.getElem?_append_right, List.getElem?_replicate, show 0 < ops.size - k by omega]
        · have := HC.small k hkm j hj
          simp [listedK, Array.getD_eq_getD_getElem?, List.getElem?_append_left, this]
        · rw [listedK_set hks] at h'
          exact ih (k + 1) a' V (by omega) h'
    rw [List.range_eq_range']
    have h0 : listedK ops.size 0 = Array.replicate ops.size false := by simp [listedK]
    exact key PL.length 0 a0 w0 (by omega) (by rw [h0]; exact sinv_start HC (Below.refl _ _))

def noDefer (ops : Array Oper) : Bool := ops.all fun o => match o.op with | .defer _ => false | _ => true
theorem noDefer_spec {ops : Array Oper} (h : noDefer ops = true) : ∀ (i : Nat) (o : Oper) (c : Call), ops[i]? = some o → o.op ≠ .defer c := by
  intro i o c ho e
  have hm : o ∈ ops := Array.mem_of_getElem? ho
  have := Array.all_eq_true_iff_forall_mem.1 h o hm
  rw [e] at this; cases this
theorem wp_schedIn {lp n : Nat} {P : Program} {ops : Array Oper} {a0 : Act} {w0 : World} {Q : Exit → Act → World → Prop} {id : Nat} {draw : Bool} (D : List (Tmp × Pl)) (S : World → Prop) (hnd : noDefer ops = true) (hm : P.follows .mixedOrders = true) (hc : chk ops (plOf D) a0.tmps.size = true) (hd : chkD ops 0 D = true) (hq : (!draw || (cloB ops (plOf D) && seqd ops (plOf D).length)) = true)
    (hS : ∀ V, Below w0.heap.size w0 V → S V) (hg : Goods P ops (plOf D) a0.tmps S 0 (plOf D)) (tl : List Oper) (ht : ops.toList.drop (plOf D).length = tl)
    (hfin : ∀ (g : Nat → Nat) (V : World), SFin (plOf D) g w0 V → wpListIn (Fence.wide.inRound lp) n P ops Q tl ⟨finL g 0 D a0.tmps, a0.defers⟩ V) :
    (Code.region id ops draw).wpIn (Fence.wide.inRound lp) n P Q a0 w0 :=
  wp_schedTIn (plOf D) S draw (fun _ => trivial) (fun o a V K Q h1 h2 => wpIn_of_wp o a V K Q h1 h2) (noDefer_spec hnd) hm hc hq hS hg fun g V h => by rw [ht, finT_finL D 0 _ hd]; exact hfin g V h
theorem tail_nilIn {F : Fence} {n : Nat} {P : Program} {a : Act} {V : World} {Q : Exit → Act → World → Prop} {ops : Array Oper} (h : Q .normal a V) : wpListIn F n P ops Q [] a V := h
end Go.Proofs.YtjiadbaaggifpaaDoor
end

section
set_option linter.unusedVariables false
set_option linter.unusedSimpArgs false
namespace Go.Proofs.YtjiadbaaggifpaaDoor
open Go Go.Proofs Go.RowKit F5

section
variable {w w' : World} {g : Nat} {t : TypeId} {cs : Array Value}
end

end Go.Proofs.YtjiadbaaggifpaaDoor
end

section
set_option linter.unusedVariables false
set_option linter.unusedSimpArgs false
namespace Go.Proofs.YtjiadbaaggifpaaDoor
open Go Go.Proofs Go.RowKit F5

/-- Numbers of 64 bits, as cells. -/
def U (l : List Nat) : List Value := l.map u64v
theorem U_length (l : List Nat) : (U l).length = l.length := by simp [U]
theorem U_append (a b : List Nat) : U (a ++ b) = U a ++ U b := by simp [U]
theorem U_one (l : List Nat) : ∀ u ∈ U l, u.oneCell' = true := by
  intro u hu
  obtain ⟨x, _, rfl⟩ := List.mem_map.1 hu
  rfl
theorem reads_u {w : World} {Bd n k : Nat} {A : Option Addr} {l : List Nat} (h : Reads w Bd 1 A n (U l)) (hk : k < n) : ∃ ad, A = some ad ∧ ad.block < Bd ∧ w.cell? (ad.add k) = some (.int .u64 ((l.getD k 0 : Nat) : Int)) := by
  obtain ⟨ad, u, rfl, hb, hu, hc⟩ := h.at_ hk
  have hl : k < l.length := by have := h.1; rw [U_length] at this; omega
  refine ⟨ad, rfl, hb, ?_⟩
  rw [hc, ← hu]
  simp [U, u64v, List.getElem?_map, List.getD_eq_getElem?_getD, List.getElem?_eq_getElem hl]
theorem reads_u1 (w : World) (x : Nat) : Reads (w.alloc (.cells #[.int .u64 (x : Int)] 24)) (w.heap.size + 1) 1 (some ⟨w.heap.size, 0, none⟩) 1 (U [x]) := by
  refine ⟨rfl, fun _ => ⟨_, rfl, by simp, fun j u hj => ?_⟩⟩
  match j, hj with
  | 0, hj =>
    simp [U, u64v] at hj
    subst hj
    show World.cell? _ ⟨w.heap.size, 0, none⟩ = _
    rw [Lib.cell_of_heap (heap_alloc_new w _)]; rfl
theorem own_lit (w : World) (l : List Nat) (h : l.length ≤ 1000) : (w.alloc (.cells (u64s l) 24)).ownsRow w.heap.size 24 1 (.slice (some ⟨w.heap.size, 0, none⟩) l.length l.length) l.length (U l) :=
  ⟨by rw [U_length, Nat.mul_one], .inr ⟨w.heap.size, l.length, u64s l, rfl, Nat.le_refl _, heap_alloc_new w _, Nat.le_refl _, by unfold maxLen; omega, by rw [u64s_size, Nat.mul_one], by
    rw [Nat.mul_one, List.take_of_length_le (by simp [u64s])]; simp [u64s, U]⟩⟩
theorem infoU64 : (Tryd.prog.info? 24).map (fun i => (i.zero, i.size, i.bytes)) = some (some (.int .u64 0), 1, 8) := by kernel_rfl
theorem own_old64 {w w' : World} {Bd : Nat} {v : Value} {n : Nat} {xs : List Value} {e : TypeId} (h : w.ownsRow Bd e 1 v n xs) (hb : Below w.heap.size w w') : w'.ownsRow Bd e 1 v n xs := by
  refine ⟨h.1, ?_⟩
  rcases h.2 with h2 | ⟨g, cap, cur, hv, hg, hh, r⟩
  · exact Or.inl h2
  · have hlt : g < w.heap.size := by
      rcases Nat.lt_or_ge g w.heap.size with h | h
      · exact h
      · rw [Array.getElem?_eq_none h] at hh; cases hh
    exact Or.inr ⟨g, cap, cur, hv, hg, (hb.block g hlt).trans hh, r⟩
theorem own_more64 {w : World} {B B' : Nat} {v : Value} {n : Nat} {xs : List Value} {e : TypeId} (h : w.ownsRow B e 1 v n xs) (hB : B' ≤ B) : w.ownsRow B' e 1 v n xs :=
  ⟨h.1, h.2.elim Or.inl (fun ⟨g, cap, cur, hv, hg, r⟩ => Or.inr ⟨g, cap, cur, hv, Nat.le_trans hB hg, r⟩)⟩
theorem own_slice {w : World} {base size n : Nat} {e : TypeId} {v : Value} {xs : List Value} (h : w.ownsRow base e size v n xs) : ∃ A c, v = .slice A n c ∧ n ≤ c ∧ c ≤ maxLen := by
  rcases h.2 with ⟨h1, h2⟩ | ⟨g, cap, cur, hv, _, _, hc, hm, _⟩
  · exact ⟨none, 0, by rw [h1, h2], by omega, by unfold maxLen; omega⟩
  · exact ⟨_, _, hv, hc, hm⟩
theorem own_emptyU (w : World) : (w.alloc (.cells #[] 24)).ownsRow w.heap.size 24 1 (.slice (some ⟨w.heap.size, 0, none⟩) 0 0) 0 (U []) :=
  own_lit w [] (by simp)

theorem order_lit : (#[.int .u64 54253, .int .u64 23797, .int .u64 25370, .int .u64 22546, .int .u64 40150, .int .u64 41719, .int .u64 63966, .int .u64 5342, .int .u64 0, .int .u64 0, .int .u64 0, .int .u64 0, .int .u64 0, .int .u64 0, .int .u64 0, .int .u64 4096] : Array Value) = u64s (digs B LL 16) := by
  rw [LL_digs]; rfl
theorem order_any (w : World) : Calls Tryd.prog 79 #[] w fun e w' => e = .returned (.slice (some ⟨w.heap.size, 0, none⟩) 16 16) ∧ w' = w.alloc (.cells (u64s (digs B LL 16)) 24) := by
  go_enter Tryd.func79, Tryd.ntmps79
  go_wp2
  go_ret
  exact ⟨rfl, by rw [← order_lit]⟩

theorem below_new1 (w : World) (o : Obj) : Below w.heap.size w (w.alloc o) := (Below.refl _ _).alloc (Nat.le_refl _) o
theorem below_drewNs (w : World) (k : Nat) : Below w.heap.size w (w.drewN k) := ⟨rfl, rfl, rfl, Nat.le_refl _, fun _ _ => rfl⟩
set_option maxHeartbeats 4000000 in
theorem below_any (A A' : Option Addr) (n c c' : Nat) (a b : List Nat) (w : World) (hn : n ≤ 1000) (ha : Reads w w.heap.size 1 A n (U a)) (hb : Reads w w.heap.size 1 A' n (U b)) (haa : All B a) (hba : All B b) :
    Calls Tryd.prog 80 #[.slice A n c, .slice A' n c'] w fun e w' => e = .returned (.bool (decide (val B a < val B b))) ∧ Below w.heap.size w w' := by
  have hla : a.length = n := by have := ha.1; rw [U_length] at this; omega
  have hlb : b.length = n := by have := hb.1; rw [U_length] at this; omega
  have HA := Lib.hid ha
  have HB := Lib.hid hb
  have HLA := Lib.hid hla
  have HLB := Lib.hid hlb
  have HAA := Lib.hid haa
  have HBA := Lib.hid hba
  have w1 : IntKind.i64.wrap ((n : Int) - 1) = (n : Int) - 1 := IntWalk.i64_in _ (by omega)
  clear ha hb hla hlb haa hba
  go_enter Tryd.func80, Tryd.ntmps80
  go_wp2
  go_loopg [5] n (fun gg iv wr => ∃ j : Nat, iv = .int .i64 ((j : Int) - 1) ∧ gg = j ∧ j ≤ n ∧ (∀ k, j ≤ k → k < n → a.getD k 0 = b.getD k 0) ∧ Below w.heap.size w wr)
  case atStart => exact ⟨n, rfl, rfl, Nat.le_refl _, fun k h1 h2 => by omega, Below.refl _ _⟩
  case round =>
    obtain ⟨j, hiv, hg, hj, heq, hbel⟩ := hrel
    by_cases hlt : 0 < j
    · obtain ⟨i, rfl⟩ : ∃ i, j = i + 1 := ⟨j - 1, by omega⟩
      rw [show ((i + 1 : Nat) : Int) - 1 = (i : Int) by omega] at hiv
      subst hiv
      have hge : (0 : Int) ≤ (i : Int) := by omega
      have hin : (i : Int) < n := by omega
      have hwi : IntKind.i64.wrap ((i : Int) - 1) = (i : Int) - 1 := IntWalk.i64_in _ (by omega)
      obtain ⟨ad, rfl, hadB, hx⟩ := reads_u (HA.out.below hbel) (k := i) (by omega)
      obtain ⟨ad', rfl, hadB', hy⟩ := reads_u (HB.out.below hbel) (k := i) (by omega)
      have hst : Hid (a.getD i 0 ≠ b.getD i 0 → (val B a < val B b) = (a.getD i 0 < b.getD i 0)) := Lib.hid fun hne => below_step HAA.out HBA.out HLA.out HLB.out (by omega) (fun k h1 h2 => heq k (by omega) h2) hne
      have hnx : Hid (a.getD i 0 = b.getD i 0 → ∀ k, i ≤ k → k < n → a.getD k 0 = b.getD k 0) := Lib.hid fun h k h1 h2 => by
        by_cases hk : k = i
        · subst hk; exact h
        · exact heq k (by omega) h2
      obtain ⟨x, hX⟩ := named (a.getD i 0)
      obtain ⟨y, hY⟩ := named (b.getD i 0)
      rw [← hX.out, ← hY.out] at hst hnx
      rw [← hX.out] at hx
      rw [← hY.out] at hy
      have HBEL := Lib.hid hbel
      have hz := hbel.size
      have ij : i + 1 ≤ n := hj
      have hgk : gk = i + 1 := hg
      clear hbel heq hX hY hj hg hlt
      by_cases hxy : x = y
      · have NX := Lib.hid (hnx.out hxy)
        have hne : ((x : Int) != (y : Int)) = false := by rw [hxy]; simp
        have heq' : (x : Int) = (y : Int) := by rw [hxy]
        clear hst hnx hxy
        go_wp2_with fail
        go_quiet (fail)
        go_wp2_with fail
        go_roundg (gk - 1)
        case measure => omega
        case rel => exact ⟨i, rfl, by omega, by omega, NX.out, HBEL.out.trans ((below_drewNs _ _).mono hz)⟩
      · have hres := hst.out hxy
        have hne : ((x : Int) != (y : Int)) = true := by rw [bne_iff_ne]; omega
        have hne' : ¬ (x : Int) = (y : Int) := by omega
        clear hst hnx
        obtain ⟨r, hr⟩ : ∃ r, Hid (r = decide (val B a < val B b)) := ⟨_, Lib.hid rfl⟩
        rcases Nat.lt_or_gt_of_ne hxy with h | h
        · have hl : (x : Int) < (y : Int) := by omega
          have HR : Hid (decide (val B a < val B b) = true) := Lib.hid (decide_eq_true (Eq.mpr hres h))
          clear hres hxy h
          go_wp2_with fail
          go_quiet (fail)
          go_wp2_with fail
          have hx' : (wr.drewN nq).cell? (ad.add i) = some (.int .u64 (x : Int)) := hx
          have hy' : (wr.drewN nq).cell? (ad'.add i) = some (.int .u64 (y : Int)) := hy
          have hb1 := HBEL.out.trans ((below_drewNs wr nq).mono hz)
          clear hx hy
          generalize wr.drewN nq = w2 at *
          go_quiet (fail)
          go_wp2_with fail
          go_ret
          exact ⟨by rw [HR.out]; rfl, hb1.trans ((below_drewNs _ _).mono hb1.size)⟩
        · have hl : ¬ (x : Int) < (y : Int) := by omega
          have HN := Lib.hid (show ¬ x < y by omega)
          have HR : Hid (decide (val B a < val B b) = false) := Lib.hid (decide_eq_false fun hh => by have := Eq.mp hres hh; omega)
          clear hres hxy h
          go_wp2_with fail
          go_quiet (fail)
          go_wp2_with fail
          have hx' : (wr.drewN nq).cell? (ad.add i) = some (.int .u64 (x : Int)) := hx
          have hy' : (wr.drewN nq).cell? (ad'.add i) = some (.int .u64 (y : Int)) := hy
          have hb1 := HBEL.out.trans ((below_drewNs wr nq).mono hz)
          clear hx hy
          generalize wr.drewN nq = w2 at *
          go_quiet (fail)
          go_wp2_with fail
          go_ret
          exact ⟨by rw [HR.out]; show Ending.returned (.bool (decide (x < y))) = _; rw [decide_eq_false HN.out], hb1.trans ((below_drewNs _ _).mono hb1.size)⟩
    · obtain rfl : j = 0 := by omega
      subst hiv
      have HR : Hid (decide (val B a < val B b) = false) := Lib.hid (decide_eq_false (below_same HLA.out HLB.out fun k hk => heq k (by omega) hk))
      have HBEL := Lib.hid hbel
      clear hbel heq hlt
      go_wp2_with fail
      go_ret
      exact ⟨by rw [HR.out]; rfl, HBEL.out⟩

theorem own_grow {w wr w1 w5 : World} {Bd : Nat} {v : Value} {n : Nat} {xs : List Value} {e : TypeId} (h : wr.ownsRow Bd e 1 v n xs) (hB : w.heap.size ≤ Bd) (h1 : Below w.heap.size w wr) (h2 : Below wr.heap.size wr w1) (hg : w1.grownBy w5 v.ownBlock) : Below w.heap.size w w5 :=
  (h1.trans (h2.mono h1.size)).grown hg (by have := h1.size; have := h2.size; omega) (fun k hk => by have := (h.lt k hk).1; omega)

set_option maxHeartbeats 4000000 in
theorem off_any (A A' : Option Addr) (n c c' : Nat) (a b : List Nat) (w : World) (hn : n ≤ 1000) (ha : Reads w w.heap.size 1 A n (U a)) (hb : Reads w w.heap.size 1 A' n (U b)) (haa : All B a) (hba : All B b) (hle : val B b ≤ val B a) :
    Calls Tryd.prog 81 #[.slice A n c, .slice A' n c'] w fun e w' => ∃ v, e = .returned v ∧ w'.ownsRow w.heap.size 24 1 v n (U (digs B (val B a - val B b) n)) ∧ Below w.heap.size w w' := by
  have hla : a.length = n := by have := ha.1; rw [U_length] at this; omega
  have hlb : b.length = n := by have := hb.1; rw [U_length] at this; omega
  obtain ⟨i0, hi, hz0, hz1, hz2⟩ := info_parts infoU64
  have HI := Lib.hid hi
  have HA := Lib.hid ha
  have HB := Lib.hid hb
  have HLA := Lib.hid hla
  have HLB := Lib.hid hlb
  have HAA := Lib.hid haa
  have HBA := Lib.hid hba
  have HLE := Lib.hid hle
  have hoe := own_emptyU w
  have hb0 := below_new1 w (.cells #[] 24)
  clear ha hb hla hlb haa hba hle hi
  go_enter Tryd.func81, Tryd.ntmps81
  go_wp2
  generalize w.alloc (.cells #[] 24) = W at *
  go_loopg [5, 6, 12] n (fun gg ov bv iv wr => ∃ (k cc : Nat) (out : List Nat), bv = .int .u64 (cc : Int) ∧ iv = .int .i64 (k : Int) ∧ gg + k = n ∧ OffL a b k cc out ∧ wr.ownsRow w.heap.size 24 1 ov k (U out) ∧ Below w.heap.size w wr)
  case atStart => exact ⟨0, 0, [], rfl, rfl, rfl, OffL.zero a b, hoe, hb0⟩
  case round =>
    obtain ⟨k, cc, out, rfl, rfl, hg, hO, hown, hbel⟩ := hrel
    clear hoe hb0
    by_cases hlt : k < n
    · obtain ⟨ad, rfl, hadB, hx⟩ := reads_u (HA.out.below hbel) hlt
      obtain ⟨ad', rfl, hadB', hy⟩ := reads_u (HB.out.below hbel) hlt
      have hki : (k : Int) < n := by omega
      have hx1 := HAA.out.getD (by decide) k
      have hy1 := HBA.out.getD (by decide) k
      have hcw := hO.bw
      have hnx : Hid (∀ q, q + b.getD k 0 + cc = 65536 + a.getD k 0 → OffL a b (k + 1) (1 - q / 65536) (out ++ [q % 65536])) := Lib.hid fun q hq => hO.next HAA.out HBA.out (by rw [HLA.out]; exact hlt) (by rw [HLB.out]; exact hlt) hq
      obtain ⟨x, hX⟩ := named (a.getD k 0)
      obtain ⟨y, hY⟩ := named (b.getD k 0)
      rw [← hX.out, ← hY.out] at hnx
      rw [← hX.out] at hx hx1
      rw [← hY.out] at hy hy1
      have hx1 : x ≤ 65535 := Nat.le_of_lt_succ hx1
      have hy1 : y ≤ 65535 := Nat.le_of_lt_succ hy1
      obtain ⟨q1, hq1⟩ := named (65536 + x)
      obtain ⟨q2, hq2⟩ := named (q1 - y)
      obtain ⟨q, hq⟩ := named (q2 - cc)
      obtain ⟨d, hd⟩ := named (q / 65536)
      obtain ⟨r, hr⟩ := named (q % 65536)
      obtain ⟨c2, hc2⟩ := named (1 - d)
      have c1 : IntKind.u64.wrap (65536 + (x : Int)) = (q1 : Int) := by rw [IntKind.wrap_u64, hq1.out]; omega
      have c2' : IntKind.u64.wrap ((q1 : Int) - (y : Int)) = (q2 : Int) := by rw [IntKind.wrap_u64, hq2.out, hq1.out]; omega
      have c3 : IntKind.u64.wrap ((q2 : Int) - (cc : Int)) = (q : Int) := by rw [IntKind.wrap_u64, hq.out, hq2.out, hq1.out]; omega
      have c4 : IntKind.u64.wrap (1 - (d : Int)) = (c2 : Int) := by rw [IntKind.wrap_u64, hc2.out, hd.out, hq.out, hq2.out, hq1.out]; omega
      have c5 : IntKind.u64.wrap (d : Int) = (d : Int) := by rw [IntKind.wrap_u64, hd.out, hq.out, hq2.out, hq1.out]; omega
      have c6 : IntKind.u64.wrap (r : Int) = (r : Int) := by rw [IntKind.wrap_u64, hr.out]; omega
      have d1 : (q : Int) / 65536 = (d : Int) := by rw [hd.out]; omega
      have d2 : (q : Int).tdiv 65536 = (d : Int) := by rw [Int.tdiv_eq_ediv_of_nonneg (by omega)]; omega
      have d3 : (q : Int) % 65536 = (r : Int) := by rw [hr.out]; omega
      have d4 : (q : Int).tmod 65536 = (r : Int) := by rw [Int.tmod_eq_emod_of_nonneg (by omega)]; omega
      have HN : Hid (OffL a b (k + 1) c2 (out ++ [r])) := Lib.hid (by
        rw [hc2.out, hd.out, hr.out]
        exact hnx.out q (by rw [hq.out, hq2.out, hq1.out]; omega))
      have HBEL := Lib.hid hbel
      have HOWN := Lib.hid hown
      have hwk : IntKind.i64.wrap ((k : Int) + 1) = (k : Int) + 1 := IntWalk.i64_in _ (by omega)
      have hz := hbel.size
      clear hbel hown hO hnx hx1 hy1 hcw
      go_wp2_with fail
      go_quiet (fail)
      have hown1 : (wr.drewN nq).ownsRow w.heap.size 24 1 _ k (U out) := HOWN.out
      have hb1 := HBEL.out.trans ((below_drewNs wr nq).mono hz)
      have hz1' := hb1.size
      clear hx hy
      generalize wr.drewN nq = w2 at *
      have hrd := reads_u1 w2 r
      have HB1 := Lib.hid hb1
      have HOW1 := Lib.hid hown1
      have hown2 := own_old64 hown1 (below_new1 w2 (.cells #[.int .u64 (r : Int)] 24))
      clear hb1 hown1
      go_wp2_with (at_builtin; refine wpList_append_any _ rfl (.tmp 30) (.tmp 33) 96 rfl w.heap.size 24 i0 (.int .u64 0) 1 8 Tryd.underlying96 HI.out hz0 hz1 hz2 rfl (by omega) _ k (U out) rfl hown2 _ _ 1 _ (U [r]) rfl hrd (U_one _) (by unfold maxLen; omega) (by omega) (by simp; omega) ?_; intro v5 w5 hown5 hg5 hv5)
      have hb5 := Lib.hid (own_grow HOW1.out (Nat.le_refl _) HB1.out (below_new1 w2 _) hg5)
      rw [← U_append] at hown5
      have HOW5 := Lib.hid hown5
      clear hown5 hg5 hv5 hrd hown2
      go_wp2_with fail
      go_roundg (gk - 1)
      case measure => omega
      case rel => exact ⟨k + 1, c2, out ++ [r], rfl, by go_num, by omega, HN.out, HOW5.out, hb5.out⟩
    · obtain rfl : k = n := by omega
      have hfin := hO.done HLA.out HLB.out HLE.out
      rw [hfin] at hown
      have HF := Lib.hid hown
      have HBEL := Lib.hid hbel
      clear hbel hown hO hfin
      go_wp2_with fail
      go_ret
      exact ⟨_, rfl, HF.out, HBEL.out⟩
end Go.Proofs.YtjiadbaaggifpaaDoor
end

section
set_option linter.unusedVariables false
set_option linter.unusedSimpArgs false
namespace Go.Proofs.YtjiadbaaggifpaaDoor
open Go Go.Proofs Go.RowKit F5

theorem reads_b {w : World} {Bd n k : Nat} {A : Option Addr} {l : List UInt8} (h : Reads w Bd 1 A n (Lib.byteCells l)) (hk : k < n) : ∃ ad, A = some ad ∧ ad.block < Bd ∧ w.cell? (ad.add k) = some (.int .u8 ((l.getD k 0).toNat : Int)) := by
  obtain ⟨ad, u, rfl, hb, hu, hc⟩ := h.at_ hk
  have hl : k < l.length := by have := h.1; rw [Lib.byteCells_length] at this; omega
  refine ⟨ad, rfl, hb, ?_⟩
  rw [hc, ← hu]
  simp [Lib.byteCells, List.getElem?_map, List.getD_eq_getElem?_getD, List.getElem?_eq_getElem hl]

/-- The bytes' digits: half as many. -/
def DigEnd (l : List UInt8) (w : World) (e : Ending) (w' : World) : Prop :=
  ∃ v d, e = .returned v ∧ d.length = (l.length + 1) / 2 ∧ All B d ∧ val B d = bval l ∧ w'.ownsRow w.heap.size 24 1 v d.length (U d) ∧ Below w.heap.size w w'

set_option maxHeartbeats 4000000 in
theorem digits_any (A : Option Addr) (n c : Nat) (l : List UInt8) (w : World) (hn : n ≤ 1000) (hr : Reads w w.heap.size 1 A n (Lib.byteCells l)) :
    Calls Tryd.prog 73 #[.slice A n c] w (DigEnd l w) := by
  have hl : l.length = n := by have := hr.1; rw [Lib.byteCells_length] at this; omega
  obtain ⟨i0, hi, hz0, hz1, hz2⟩ := info_parts infoU64
  have HI := Lib.hid hi
  have HR := Lib.hid hr
  have HL := Lib.hid hl
  have hoe := own_emptyU w
  have hb0 := below_new1 w (.cells #[] 24)
  clear hr hl hi
  go_enter Tryd.func73, Tryd.ntmps73
  go_wp2
  generalize w.alloc (.cells #[] 24) = W at *
  go_loopg [3, 4] ((n + 1) / 2) (fun gg ov iv wr => ∃ (k : Nat) (out : List Nat), iv = .int .i64 ((2 * k : Nat) : Int) ∧ gg + k = (n + 1) / 2 ∧ DigL l k out ∧ wr.ownsRow w.heap.size 24 1 ov k (U out) ∧ Below w.heap.size w wr)
  case atStart => exact ⟨0, [], rfl, rfl, DigL.zero l, hoe, hb0⟩
  case round =>
    obtain ⟨k, out, hiv, hg, hO, hown, hbel⟩ := hrel
    obtain ⟨p, hp⟩ := named (2 * k)
    rw [← hp.out] at hiv
    subst hiv
    clear hoe hb0
    by_cases hlt : p < n
    · obtain ⟨ad, rfl, hadB, hx⟩ := reads_b (HR.out.below hbel) hlt
      have hpi : (p : Int) < n := by omega
      obtain ⟨p1, hp1⟩ := named (p + 1)
      have hwp : IntKind.i64.wrap ((p : Int) + 1) = (p1 : Int) := by rw [IntWalk.i64_in _ (by omega), hp1.out]; rfl
      have hwp2 : IntKind.i64.wrap ((p : Int) + 2) = (p : Int) + 2 := IntWalk.i64_in _ (by omega)
      have HBEL := Lib.hid hbel
      have HOWN := Lib.hid hown
      have hz := hbel.size
      have hkk : k + 1 ≤ (n + 1) / 2 := by have := hp.out; omega
      have H2 : Hid (∀ q, q = p → 2 * (k + 1) = q + 2) := Lib.hid fun q hq => by rw [hq, hp.out]; omega
      obtain ⟨x, hX⟩ := named (l.getD p 0).toNat
      have hxl : x < 256 := by rw [hX.out]; exact (l.getD p 0).toNat_lt
      rw [← hX.out] at hx
      have cx : IntKind.u64.wrap (x : Int) = (x : Int) := by rw [IntKind.wrap_u64]; omega
      by_cases hl2 : p1 < n
      · obtain ⟨ad2, had2, _, hy⟩ := reads_b (HR.out.below hbel) hl2
        injection had2 with had2
        subst had2
        have hp1i : (p1 : Int) < n := by omega
        obtain ⟨y, hY⟩ := named (l.getD p1 0).toNat
        have hyl : y < 256 := by rw [hY.out]; exact (l.getD p1 0).toNat_lt
        rw [← hY.out] at hy
        have cy : IntKind.u64.wrap (y : Int) = (y : Int) := by rw [IntKind.wrap_u64]; omega
        obtain ⟨q, hq⟩ := named (256 * y)
        obtain ⟨s, hs⟩ := named (x + q)
        have cq : IntKind.u64.wrap (256 * (y : Int)) = (q : Int) := by rw [IntKind.wrap_u64, hq.out]; omega
        have cs : IntKind.u64.wrap ((x : Int) + (q : Int)) = (s : Int) := by rw [IntKind.wrap_u64, hs.out, hq.out]; omega
        have HN : Hid (DigL l (k + 1) (out ++ [s])) := Lib.hid (by
          have := hO.two (by rw [HL.out, ← hp.out, ← hp1.out]; exact hl2)
          rwa [← hp.out, ← hp1.out, ← hX.out, ← hY.out, ← hq.out, ← hs.out] at this)
        have hrd := reads_u1 wr s
        have hown2 := own_old64 hown (below_new1 wr (.cells #[.int .u64 (s : Int)] 24))
        clear hbel hO hown hX hY hlt
        go_wp2_with (at_builtin; refine wpList_append_any _ rfl (.tmp 32) (.tmp 34) 96 rfl w.heap.size 24 i0 (.int .u64 0) 1 8 Tryd.underlying96 HI.out hz0 hz1 hz2 rfl (by omega) _ k (U out) rfl hown2 _ _ 1 _ (U [s]) rfl hrd (U_one _) (by unfold maxLen; omega) (by omega) (by simp; omega) ?_; intro v5 w5 hown5 hg5 hv5)
        have hb5 := Lib.hid (own_grow HOWN.out (Nat.le_refl _) HBEL.out (below_new1 wr _) hg5)
        rw [← U_append] at hown5
        have HOW5 := Lib.hid hown5
        clear hown5 hg5 hv5 hrd hown2
        go_wp2_with fail
        go_roundg (gk - 1)
        case measure => omega
        case rel => exact ⟨k + 1, out ++ [s], by rw [H2.out p rfl]; go_num, by omega, HN.out, HOW5.out, hb5.out⟩
      · have hp1i : ¬ (p1 : Int) < n := by omega
        have HN : Hid (DigL l (k + 1) (out ++ [x])) := Lib.hid (by
          have := hO.one (by rw [HL.out, ← hp.out]; have := hp1.out; omega)
          rwa [← hp.out, ← hX.out] at this)
        have hrd := reads_u1 wr x
        have hown2 := own_old64 hown (below_new1 wr (.cells #[.int .u64 (x : Int)] 24))
        clear hbel hO hown hX hlt
        go_wp2_with (at_builtin; refine wpList_append_any _ rfl (.tmp 32) (.tmp 34) 96 rfl w.heap.size 24 i0 (.int .u64 0) 1 8 Tryd.underlying96 HI.out hz0 hz1 hz2 rfl (by omega) _ k (U out) rfl hown2 _ _ 1 _ (U [x]) rfl hrd (U_one _) (by unfold maxLen; omega) (by omega) (by simp; omega) ?_; intro v5 w5 hown5 hg5 hv5)
        have hb5 := Lib.hid (own_grow HOWN.out (Nat.le_refl _) HBEL.out (below_new1 wr _) hg5)
        rw [← U_append] at hown5
        have HOW5 := Lib.hid hown5
        clear hown5 hg5 hv5 hrd hown2
        go_wp2_with fail
        go_roundg (gk - 1)
        case measure => omega
        case rel => exact ⟨k + 1, out ++ [x], by rw [H2.out p rfl]; go_num, by omega, HN.out, HOW5.out, hb5.out⟩
    · have hk2 : k = (n + 1) / 2 := by have := hp.out; omega
      have hfin := Lib.hid (hO.done (by rw [HL.out, ← hp.out]; omega))
      have hln := hO.len
      have hall := Lib.hid hO.all
      have hlk : Hid (out.length = (l.length + 1) / 2) := Lib.hid (by rw [hln, HL.out, hk2])
      rw [← hln] at hown
      have HO := Lib.hid hown
      have HBEL := Lib.hid hbel
      have hpi : ¬ (p : Int) < n := by omega
      clear hbel hown hO hln hk2 hg hlt
      go_wp2_with fail
      go_ret
      exact ⟨_, out, rfl, hlk.out, hall.out, hfin.out, HO.out, HBEL.out⟩
end Go.Proofs.YtjiadbaaggifpaaDoor
end

section
set_option linter.unusedVariables false
set_option linter.unusedSimpArgs false
namespace F5
end F5
namespace Go.Proofs.YtjiadbaaggifpaaDoor
open Go Go.Proofs Go.RowKit F5

theorem bval_fbytes {v : Nat} (h : v < 2 ^ 256) : bval (fbytes v) = v := by
  unfold bval fbytes
  rw [List.map_map]
  have e : (digs 256 v 32).map (UInt8.toNat ∘ UInt8.ofNat) = digs 256 v 32 := by
    conv => rhs; rw [← List.map_id (digs 256 v 32)]
    apply List.map_congr_left
    intro x hx
    have := digs_all (b := 256) (by decide) v 32 x hx
    show (UInt8.ofNat x).toNat = x
    rw [UInt8.toNat_ofNat']
    omega
  rw [e, val_digs, Nat.mod_eq_of_lt (show v < 256 ^ 32 from h)]
end Go.Proofs.YtjiadbaaggifpaaDoor
end

section
set_option linter.unusedVariables false
set_option linter.unusedSimpArgs false
namespace Go.Proofs.YtjiadbaaggifpaaDoor
open Go Go.Proofs Go.RowKit F5

theorem LL_17 : LL < B ^ 17 := by decide
theorem val17 {v : Nat} (h : v < B ^ 17) : val B (digs B v 17) = v := by rw [val_digs, Nat.mod_eq_of_lt h]
theorem lt17 {v : Nat} (h : v < 2 * LL) : v < B ^ 17 := Nat.lt_trans h (by decide)
theorem U_LL17 : U (digs B LL 16 ++ [0]) = U (digs B LL 17) := by rw [LL_digs, LL_digs17]; rfl
theorem made17 : madeCells #[Value.int .u64 0] 17 = u64s (digs B 0 17) := by
  rw [show digs B 0 17 = List.replicate 17 0 by decide +kernel]; kernel_rfl
theorem reads_lit (w : World) (l : List Nat) : Reads (w.alloc (.cells (u64s l) 24)) (w.heap.size + 1) 1 (some ⟨w.heap.size, 0, none⟩) l.length (U l) := by
  refine ⟨by rw [U_length, Nat.mul_one], fun _ => ⟨_, rfl, by simp, fun j u hj => ?_⟩⟩
  rw [show (⟨w.heap.size, 0, none⟩ : Addr).add j = ⟨w.heap.size, j, none⟩ from by unfold Addr.add; split <;> simp_all]
  rw [Lib.cell_of_heap (heap_alloc_new w _)]
  simpa [u64s, U] using hj

/-- A number's 17 digits are read of a slice. -/
def Rd17 (v : Nat) (rv : Value) (wr : World) : Prop := ∃ A c, rv = .slice A 17 c ∧ Reads wr wr.heap.size 1 A 17 (U (digs B v 17))
theorem Rd17.old {v : Nat} {rv : Value} {w w' : World} (h : Rd17 v rv w) (hb : Below w.heap.size w w') : Rd17 v rv w' := by
  obtain ⟨A, c, h1, h2⟩ := h
  exact ⟨A, c, h1, (h2.below hb).more hb.size⟩
theorem Rd17.of_own {v Bd : Nat} {rv : Value} {w : World} (h : w.ownsRow Bd 24 1 rv 17 (U (digs B v 17))) : Rd17 v rv w := by
  obtain ⟨A, c, rfl, _⟩ := own_slice h
  exact ⟨A, c, rfl, Reads.of_own h⟩

set_option maxHeartbeats 16000000 in
set_option maxRecDepth 100000 in
theorem rest_any (A : Option Addr) (n c : Nat) (d : List Nat) (w : World) (hn : n ≤ 1000) (hr : Reads w w.heap.size 1 A n (U d)) (hd : All B d) :
    Calls Tryd.prog 72 #[.slice A n c] w fun e w' => ∃ v, e = .returned v ∧ w'.ownsRow w.heap.size 5 1 v 32 (Lib.byteCells (fbytes (val B d % LL))) ∧ Below w.heap.size w w' := by
  have hld : d.length = n := by have := hr.1; rw [U_length] at this; omega
  obtain ⟨i0, hi, hz0, hz1, hz2⟩ := info_parts infoU64
  have HI := Lib.hid hi
  obtain ⟨ib, hib, hzb0, hzb1, hzb2⟩ := info_parts infoByte
  have HIB := Lib.hid hib
  have HR := Lib.hid hr
  have HD := Lib.hid hd
  have HLD := Lib.hid hld
  have CO := Lib.hid (order_any w)
  have hmk : ∀ W : World, (Instr.makeSlice 96 (.int .i64 17) (.int .i64 17)).run Tryd.prog W = .ok (.slice (some ⟨W.heap.size, 0, none⟩) 17 17) (W.alloc (.cells (u64s (digs B 0 17)) 24)) := fun W => by
    rw [← made17]
    exact run_make_row' (P := Tryd.prog) 96 24 (.int .u64 0) 8 Tryd.underlying96 infoU64 rfl .i64 .i64 17 (by omega) (by omega) W
  have w1 : IntKind.i64.wrap ((n : Int) - 1) = (n : Int) - 1 := IntWalk.i64_in _ (by omega)
  clear hr hd hld hi hib
  go_enter Tryd.func72, Tryd.ntmps72
  go_wp2_with fail
  refine CO.out.mono ?_
  rintro e wo ⟨rfl, rfl⟩
  have hown1 := own_lit w (digs B LL 16) (by rw [digs_length]; omega)
  rw [digs_length] at hown1
  have hb1 := below_new1 w (.cells (u64s (digs B LL 16)) 24)
  generalize w.alloc (.cells (u64s (digs B LL 16)) 24) = W1 at *
  have hz' := hb1.size
  have hrd := reads_u1 W1 0
  have hown2 := own_old64 hown1 (below_new1 W1 (.cells #[.int .u64 ((0 : Nat) : Int)] 24))
  go_wp2_with (at_builtin; refine wpList_append_any _ rfl (.tmp 13) (.tmp 14) 96 rfl w.heap.size 24 i0 (.int .u64 0) 1 8 Tryd.underlying96 HI.out hz0 hz1 hz2 rfl (by omega) _ 16 (U (digs B LL 16)) rfl hown2 _ _ 1 _ (U [0]) rfl hrd (U_one _) (by unfold maxLen; omega) (by omega) (by simp; omega) ?_; intro v5 w5 hown5 hg5 hv5)
  rw [← U_append, U_LL17, show 16 + 1 = 17 from rfl] at hown5
  have hb5 := own_grow hown1 (Nat.le_refl _) hb1 (below_new1 W1 _) hg5
  obtain ⟨AL, cL, rfl, _⟩ := own_slice hown5
  have hL0 := Reads.of_own hown5
  have hL1 := (hL0.below (below_new1 w5 (.cells (u64s (digs B 0 17)) 24))).more (below_new1 w5 (.cells (u64s (digs B 0 17)) 24)).size
  have hr0 := reads_lit w5 (digs B 0 17)
  rw [digs_length, show w5.heap.size + 1 = (w5.alloc (.cells (u64s (digs B 0 17)) 24)).heap.size by simp] at hr0
  have hb6 := hb5.trans ((below_new1 w5 (.cells (u64s (digs B 0 17)) 24)).mono hb5.size)
  clear hown1 hown2 hown5 hg5 hv5 hrd hb1 hb5 hL0
  go_wp2_with fail
  have hrr : Rd17 0 (.slice (some ⟨w5.heap.size, 0, none⟩) 17 17) (w5.alloc (.cells (u64s (digs B 0 17)) 24)) := ⟨_, _, rfl, hr0⟩
  clear hmk hr0
  generalize w5.alloc (.cells (u64s (digs B 0 17)) 24) = W0 at *
  generalize w5.heap.size = g4 at *
  have HL := Lib.hid hL1
  have HW0 := Lib.hid hb6
  have HZ0 := Lib.hid hb6.size
  obtain ⟨D, hDD⟩ := named (val B d)
  have hD0 : Hid (D / 2 ^ (16 * n) % LL = 0) := Lib.hid (by rw [hDD.out, ← HLD.out, rest_top HD.out, Nat.zero_mod])
  clear hL1 hb6 hz'
  go_loopg [4, 5] n (fun gg rv iv wr => ∃ j : Nat, iv = .int .i64 ((j : Int) - 1) ∧ gg = j ∧ j ≤ n ∧ Rd17 (D / 2 ^ (16 * j) % LL) rv wr ∧ Below W0.heap.size W0 wr)
  case atStart => exact ⟨n, rfl, rfl, Nat.le_refl _, by rw [hD0.out]; exact hrr, Below.refl _ _⟩
  case round =>
    obtain ⟨j, hiv, hg, hj, hrj, hbel⟩ := hrel
    clear hrr
    by_cases hlt : 0 < j
    · obtain ⟨i, rfl⟩ : ∃ i, j = i + 1 := ⟨j - 1, by omega⟩
      rw [show ((i + 1 : Nat) : Int) - 1 = (i : Int) by omega] at hiv
      subst hiv
      have hge : (0 : Int) ≤ (i : Int) := by omega
      have hin : (i : Int) < n := by omega
      have hwi : IntKind.i64.wrap ((i : Int) - 1) = (i : Int) - 1 := IntWalk.i64_in _ (by omega)
      obtain ⟨G, hG⟩ : ∃ G, Hid (gk = G + 1 ∧ G = i ∧ i + 1 ≤ n) := ⟨gk - 1, Lib.hid ⟨by omega, by omega, by omega⟩⟩
      have hin2 : i < n := by omega
      have HRJ := Lib.hid hrj
      have HBEL := Lib.hid hbel
      clear hrj hbel hg hj hlt
      go_wp2_with fail
      go_loopg [4, 6] 16 (fun gg rv kv w1 => ∃ (q K : Nat), kv = .int .u64 (K : Int) ∧ gg = q ∧ q ≤ 16 ∧ K = (if q = 0 then 0 else 2 ^ (q - 1)) ∧ Rd17 (D / 2 ^ (16 * i + q) % LL) rv w1 ∧ Below W0.heap.size W0 w1)
      case atStart => exact ⟨16, 32768, rfl, rfl, Nat.le_refl _, rfl, HRJ.out, HBEL.out⟩
      case round =>
        obtain ⟨q, K, rfl, hgq, hq16, hK, ⟨Ar, cr, rfl, hRr⟩, hbel⟩ := hrel
        clear HRJ HBEL
        by_cases hq0 : 0 < q
        · obtain ⟨j, rfl⟩ : ∃ j, q = j + 1 := ⟨q - 1, by omega⟩
          rw [if_neg (by omega), Nat.add_sub_cancel] at hK
          have hKpos : 0 < K := by rw [hK]; exact Nat.two_pow_pos j
          have hKle : K ≤ 32768 := by rw [hK]; exact Nat.pow_le_pow_right (by omega) (by omega : j ≤ 15)
          have hKi : (0 : Int) < (K : Int) := by omega
          have hKne : ((K : Int) == 0) = false := by rw [beq_eq_false_iff_ne]; omega
          have hKne' : ¬ (K : Int) = 0 := by omega
          obtain ⟨G2, hG2⟩ : ∃ G, Hid (gk = G + 1 ∧ G = j ∧ j ≤ 15) := ⟨gk - 1, Lib.hid ⟨by omega, by omega, by omega⟩⟩
          obtain ⟨ad, rfl, hadB, hx⟩ := reads_u (HR.out.below (HW0.out.trans (hbel.mono HZ0.out))) hin2
          have hbit0 := bit_at HD.out (i := i) (j := j) (by rw [HLD.out]; exact hin2) (by omega)
          have hdi : d.getD i 0 ≤ 65535 := Nat.le_of_lt_succ (HD.out.getD (by decide) i)
          rw [← hDD.out, ← hK] at hbit0
          obtain ⟨y, hy⟩ := named (d.getD i 0)
          rw [← hy.out] at hbit0 hx hdi
          obtain ⟨q1, hq1⟩ := named (y / K)
          rw [← hq1.out] at hbit0
          obtain ⟨bt, hbt⟩ := named (q1 % 2)
          rw [← hbt.out] at hbit0
          have hb1 : bt ≤ 1 := by rw [hbt.out]; omega
          have hq1l : q1 ≤ 65535 := by rw [hq1.out]; exact Nat.le_trans (Nat.div_le_self _ _) hdi
          have d1 : (y : Int) / (K : Int) = (q1 : Int) := by rw [hq1.out]; rfl
          have d2 : (y : Int).tdiv (K : Int) = (q1 : Int) := by rw [Int.tdiv_eq_ediv_of_nonneg (by omega)]; exact d1
          have d3 : (q1 : Int) % 2 = (bt : Int) := by rw [hbt.out]; omega
          have d4 : (q1 : Int).tmod 2 = (bt : Int) := by rw [Int.tmod_eq_emod_of_nonneg (by omega)]; omega
          have d5 : IntKind.u64.wrap (q1 : Int) = (q1 : Int) := by rw [IntKind.wrap_u64]; omega
          have d6 : IntKind.u64.wrap (bt : Int) = (bt : Int) := by rw [IntKind.wrap_u64]; omega
          obtain ⟨K2, hK2⟩ := named (K / 2)
          have d7 : (K : Int) / 2 = (K2 : Int) := by rw [hK2.out]; omega
          have d8 : (K : Int).tdiv 2 = (K2 : Int) := by rw [Int.tdiv_eq_ediv_of_nonneg (by omega)]; exact d7
          have d9 : IntKind.u64.wrap (K2 : Int) = (K2 : Int) := by rw [IntKind.wrap_u64, hK2.out]; omega
          have hKK : Hid (K2 = if j = 0 then 0 else 2 ^ (j - 1)) := Lib.hid (by
            rw [hK2.out, hK]
            split
            · rename_i h0; rw [h0]
            · obtain ⟨m, rfl⟩ : ∃ m, j = m + 1 := ⟨j - 1, by omega⟩
              rw [Nat.add_sub_cancel, Nat.pow_succ]; omega)
          have hstep := rest_next D (16 * i + j)
          rw [← hbit0, Nat.add_assoc] at hstep
          obtain ⟨v, hv⟩ := named (D / 2 ^ (16 * i + (j + 1)) % LL)
          rw [← hv.out] at hstep hRr
          have hvl : v < LL := by rw [hv.out]; exact Nat.mod_lt _ LL_pos
          rw [rest_step hvl hb1] at hstep
          have HST := Lib.hid hstep
          have HVL := Lib.hid hvl
          have HRr := Lib.hid hRr
          have HBEL := Lib.hid hbel
          have hbnd : Hid (2 * v + bt < 2 * LL) := Lib.hid (by omega)
          have hoe := own_emptyU wr
          have hb0 := below_new1 wr (.cells #[] 24)
          clear hRr hbel hstep hvl hK hbit0 hgq hq16 hq0 hy hv
          go_wp2_with fail
          generalize wr.alloc (.cells #[] 24) = Wn at *
          clear hx
          generalize wr = W2 at *
          go_loopg [7, 8, 38] 17 (fun gg cv nv iv w1 => ∃ (k cc : Nat) (out : List Nat), cv = .int .u64 (cc : Int) ∧ iv = .int .i64 (k : Int) ∧ gg + k = 17 ∧ DblL (digs B v 17) bt k cc out ∧ w1.ownsRow W2.heap.size 24 1 nv k (U out) ∧ Below W2.heap.size W2 w1)
          case atStart => exact ⟨0, bt, [], rfl, rfl, rfl, DblL.zero _ hb1, hoe, hb0⟩
          case round =>
            obtain ⟨k, cc, out, rfl, rfl, hgk, hO, hown, hbel⟩ := hrel
            clear hoe hb0
            by_cases hlt : k < 17
            · obtain ⟨ad, rfl, hadB, hx⟩ := reads_u (HRr.out.below hbel) hlt
              have hki : (k : Int) < 17 := by omega
              have hx1 : (digs B v 17).getD k 0 ≤ 65535 := Nat.le_of_lt_succ ((digs_all (by decide) v 17 : All B _).getD (by decide) k)
              have hcw := hO.cw
              have hnx : Hid (∀ x, x = 2 * (digs B v 17).getD k 0 + cc → DblL (digs B v 17) bt (k + 1) (x / 65536) (out ++ [x % 65536])) := Lib.hid fun x hx => hO.next (digs_all (by decide) v 17) (by rw [digs_length]; exact hlt) hx
              obtain ⟨x, hX⟩ := named ((digs B v 17).getD k 0)
              rw [← hX.out] at hnx hx hx1
              obtain ⟨m, hm⟩ := named (2 * x)
              obtain ⟨s, hs⟩ := named (m + cc)
              obtain ⟨e1, he1⟩ := named (s / 65536)
              obtain ⟨r1, hr1⟩ := named (s % 65536)
              have c1 : IntKind.u64.wrap (2 * (x : Int)) = (m : Int) := by rw [IntKind.wrap_u64, hm.out]; omega
              have c2 : IntKind.u64.wrap ((m : Int) + (cc : Int)) = (s : Int) := by rw [IntKind.wrap_u64, hs.out, hm.out]; omega
              have c3 : IntKind.u64.wrap (e1 : Int) = (e1 : Int) := by rw [IntKind.wrap_u64, he1.out, hs.out, hm.out]; omega
              have c4 : IntKind.u64.wrap (r1 : Int) = (r1 : Int) := by rw [IntKind.wrap_u64, hr1.out]; omega
              have f1 : (s : Int) / 65536 = (e1 : Int) := by rw [he1.out]; omega
              have f2 : (s : Int).tdiv 65536 = (e1 : Int) := by rw [Int.tdiv_eq_ediv_of_nonneg (by omega)]; omega
              have f3 : (s : Int) % 65536 = (r1 : Int) := by rw [hr1.out]; omega
              have f4 : (s : Int).tmod 65536 = (r1 : Int) := by rw [Int.tmod_eq_emod_of_nonneg (by omega)]; omega
              have HN : Hid (DblL (digs B v 17) bt (k + 1) e1 (out ++ [r1])) := Lib.hid (by
                rw [he1.out, hr1.out]
                exact hnx.out s (by rw [hs.out, hm.out]))
              have HB2 := Lib.hid hbel
              have HO2 := Lib.hid hown
              have hz := hbel.size
              have hrd := reads_u1 wr r1
              have hown2 := own_old64 hown (below_new1 wr (.cells #[.int .u64 (r1 : Int)] 24))
              have hwk : IntKind.i64.wrap ((k : Int) + 1) = (k : Int) + 1 := IntWalk.i64_in _ (by omega)
              clear hbel hown hO hnx hX hcw d1 d2 d3 d4 d5 d6 d7 d8 d9
              go_wp2_with (at_builtin; refine wpList_append_any _ rfl (.tmp 48) (.tmp 51) 96 rfl W2.heap.size 24 i0 (.int .u64 0) 1 8 Tryd.underlying96 HI.out hz0 hz1 hz2 rfl (by omega) _ k (U out) rfl hown2 _ _ 1 _ (U [r1]) rfl hrd (U_one _) (by unfold maxLen; omega) (by omega) (by simp; omega) ?_; intro v5 w5 hown5 hg5 hv5)
              have hb5 := Lib.hid (own_grow HO2.out (Nat.le_refl _) HB2.out (below_new1 wr _) hg5)
              rw [← U_append] at hown5
              have HOW5 := Lib.hid hown5
              clear hown5 hg5 hv5 hrd hown2
              go_wp2_with fail
              go_roundg (gk - 1)
              case measure => omega
              case rel => exact ⟨k + 1, e1, out ++ [r1], rfl, by go_num, by omega, HN.out, HOW5.out, hb5.out⟩
            · obtain rfl : k = 17 := by omega
              have hfin := hO.done (digs_length _ _ _) (by rw [val17 (lt17 (by have := HVL.out; omega))]; exact lt17 hbnd.out)
              rw [val17 (lt17 (by have := HVL.out; omega))] at hfin
              rw [hfin] at hown
              obtain ⟨u, hu⟩ := named (2 * v + bt)
              rw [← hu.out] at hown HST hbnd
              have hul := lt17 hbnd.out
              obtain ⟨An, cn, rfl, _⟩ := own_slice hown
              have hrn := Reads.of_own hown
              have HB2 := Lib.hid hbel
              have HBW := Lib.hid (HBEL.out.trans (hbel.mono HBEL.out.size))
              have hln := (HL.out.below HBW.out).more HBW.out.size
              have CB := below_any An AL 17 cn cL (digs B u 17) (digs B LL 17) wr (by omega) hrn hln (digs_all (by decide) _ _) (digs_all (by decide) _ _)
              rw [val17 hul, val17 LL_17] at CB
              have CB := Lib.hid CB
              have HRN := Lib.hid hrn
              have HLN := Lib.hid hln
              clear hbel hO hfin hgk hown hrn hln d1 d2 d3 d4 d5 d6
              by_cases hcmp : u < LL
              · rw [if_pos hcmp] at HST
                rw [decide_eq_true hcmp] at CB
                go_wp2_with fail
                refine CB.out.mono ?_
                rintro e w3 ⟨rfl, hb3⟩
                have HF := Lib.hid ((HRN.out.below hb3).more hb3.size)
                have HBF := Lib.hid (HBW.out.trans (hb3.mono HBW.out.size))
                clear hb3
                go_wp2_with fail
                go_roundg G2
                case measure => have := hG2.out; omega
                case rel => exact ⟨j, K2, rfl, hG2.out.2.1, by have := hG2.out; omega, hKK.out, ⟨_, _, rfl, by rw [HST.out]; exact HF.out⟩, HBF.out⟩
              · rw [if_neg hcmp] at HST
                rw [decide_eq_false hcmp] at CB
                go_wp2_with fail
                refine CB.out.mono ?_
                rintro e w3 ⟨rfl, hb3⟩
                have HF := Lib.hid ((HRN.out.below hb3).more hb3.size)
                have HLF := Lib.hid ((HLN.out.below hb3).more hb3.size)
                have HBF := Lib.hid (HBW.out.trans (hb3.mono HBW.out.size))
                clear hb3
                have CF := off_any An AL 17 cn cL (digs B u 17) (digs B LL 17) w3 (by omega) HF.out HLF.out (digs_all (by decide) _ _) (digs_all (by decide) _ _) (by rw [val17 hul, val17 LL_17]; omega)
                rw [val17 hul, val17 LL_17] at CF
                have CF := Lib.hid CF
                go_wp2_with fail
                refine CF.out.mono ?_
                rintro e w4 ⟨vo, rfl, hown4, hb4⟩
                have HR4 := Lib.hid (Rd17.of_own hown4)
                have HB4 := Lib.hid (HBF.out.trans (hb4.mono HBF.out.size))
                clear hown4 hb4
                go_wp2_with fail
                go_roundg G2
                case measure => have := hG2.out; omega
                case rel => exact ⟨j, K2, rfl, hG2.out.2.1, by have := hG2.out; omega, hKK.out, by rw [HST.out]; exact HR4.out, HB4.out⟩
        · obtain rfl : q = 0 := by omega
          rw [if_pos rfl] at hK
          subst hK
          rw [Nat.add_zero] at hRr
          have HRr := Lib.hid hRr
          have HBEL := Lib.hid hbel
          clear hRr hbel hgq hq16 hq0
          go_wp2_with fail
          go_roundg G
          case measure => have := hG.out; omega
          case rel => exact ⟨i, rfl, hG.out.2.1, by have := hG.out; omega, ⟨_, _, rfl, HRr.out⟩, HBEL.out⟩
    · obtain rfl : j = 0 := by omega
      subst hiv
      obtain ⟨Ar, cr, rfl, hRr⟩ := hrj
      rw [Nat.mul_zero, Nat.pow_zero, Nat.div_one, hDD.out] at hRr
      obtain ⟨v, hv⟩ := named (val B d % LL)
      rw [← hv.out] at hRr
      have HRr := Lib.hid hRr
      have HBW := Lib.hid (HW0.out.trans (hbel.mono HZ0.out))
      have hoe := owns_empty wr
      have hb0 := below_new1 wr (.cells #[] 5)
      clear hbel hRr hg hj hlt
      go_wp2_with fail
      generalize wr.alloc (.cells #[] 5) = Wn at *
      generalize wr = W2 at *
      go_loopg [11, 12] 16 (fun gg ov iv w1 => ∃ k : Nat, iv = .int .i64 (k : Int) ∧ gg + k = 16 ∧ w1.ownsRow W2.heap.size 5 1 ov (2 * k) (Lib.byteCells ((fbytes v).take (2 * k))) ∧ Below W2.heap.size W2 w1)
      case atStart => exact ⟨0, rfl, rfl, hoe, hb0⟩
      case round =>
        obtain ⟨k, rfl, hgk, hown, hbel⟩ := hrel
        clear hoe hb0
        have hsz := hbel.size
        by_cases hlt : k < 16
        · obtain ⟨ad, rfl, hadB, hx⟩ := reads_u (HRr.out.below hbel) (k := k) (by omega)
          rw [digs_getD _ _ _ _ (by omega), limb_bytes] at hx
          have hpb : (ad.add k).block < W2.heap.size := by rw [block_of_add]; exact hadB
          have hy0 := fbytes_get v (2 * k) (by omega)
          have hy1 := fbytes_get v (2 * k + 1) (by omega)
          have HT := Lib.hid (fbytes_two v k hlt)
          obtain ⟨y0, hY0⟩ : ∃ y, Hid (y = (fbytes v).getD (2 * k) 0) := ⟨_, Lib.hid rfl⟩
          obtain ⟨y1, hY1⟩ : ∃ y, Hid (y = (fbytes v).getD (2 * k + 1) 0) := ⟨_, Lib.hid rfl⟩
          rw [← hY0.out] at hy0 HT
          rw [← hY1.out] at hy1 HT
          rw [← hy0, ← hy1] at hx
          have l0 := y0.toNat_lt
          have l1 := y1.toNat_lt
          obtain ⟨x, hX⟩ := named (y0.toNat + 256 * y1.toNat)
          rw [← hX.out] at hx
          obtain ⟨p, hp⟩ := named (x / 256)
          obtain ⟨q, hq⟩ := named (x % 256)
          have d1 : (x : Int) / 256 = (p : Int) := by rw [hp.out]; omega
          have d2 : (x : Int).tdiv 256 = (p : Int) := by rw [Int.tdiv_eq_ediv_of_nonneg (by omega)]; omega
          have d3 : (x : Int) % 256 = (q : Int) := by rw [hq.out]; omega
          have d4 : (x : Int).tmod 256 = (q : Int) := by rw [Int.tmod_eq_emod_of_nonneg (by omega)]; omega
          have w0 : IntKind.u8.wrap (q : Int) = (y0.toNat : Int) := by rw [IntKind.wrap_u8', hq.out, hX.out]; omega
          have w1' : IntKind.u8.wrap (p : Int) = (y1.toNat : Int) := by rw [IntKind.wrap_u8', hp.out, hX.out]; omega
          have w2' : IntKind.u64.wrap (p : Int) = (p : Int) := by rw [IntKind.wrap_u64, hp.out, hX.out]; omega
          have w3' : IntKind.u64.wrap (q : Int) = (q : Int) := by rw [IntKind.wrap_u64, hq.out, hX.out]; omega
          have hki : (k : Int) < 17 := by omega
          have hki2 : (k : Int) < 16 := by omega
          have hwk : IntKind.i64.wrap ((k : Int) + 1) = (k : Int) + 1 := IntWalk.i64_in _ (by omega)
          have hrd := reads_two wr y0 y1
          have hwl : Hid (W2.heap.size ≤ wr.heap.size) := Lib.hid hsz
          have HPB := Lib.hid hpb
          have HB2 := Lib.hid hbel
          have hib := HIB.out
          have HK1 := Lib.hid (show gk + k = 16 ∧ k < 16 from ⟨hgk, hlt⟩)
          clear hy0 hy1 hgk
          go_wp2_with fail
          go_region_held3 (fun w' => w'.cell? (ad.add k) = some (Value.int .u64 (x : Int)))
            (first
              | go_keep
              | (rw [World.cell?_of_block (hgrow1.block (ad.add k).block (by have := hwl.out; have := HPB.out; simp; omega) (fun e => by have h9 := (hown.lt _ e.symm).1; have := HPB.out; omega))]; assumption))
            ((refine step_append_any _ (by rfl) _ _ 22 (by rfl) W2.heap.size 5 ib (.int .u8 0) 1 1 Tryd.underlying22 hib hzb0 hzb1 hzb2 rfl (by decide) _ _ _ (by rfl) ((hown.alloc _).drew) (wr.heap.size + 1) _ 2 2 (Lib.byteCells [y0, y1]) (by rfl) (by exact hrd) (Lib.byteCells_one _) (by unfold maxLen; omega) (by omega) (by have := hwl.out; simp; omega) ?_; intro v1 w1 hown1 hgrow1 hat1))
          all_goals
            have hown2 : w1.ownsRow W2.heap.size 5 1 v1 (2 * (k + 1)) (Lib.byteCells ((fbytes v).take (2 * (k + 1)))) := by
              rw [HT.out, Lib.byteCells_append, show 2 * (k + 1) = 2 * k + 2 by omega]
              exact hown1
            have hbel2 : Below W2.heap.size W2 w1 := ((hbel.alloc hsz _).drew).grown hgrow1 (by simp; omega) (fun k hk => by have := (hown.lt k hk).1; omega)
            have HO2 := Lib.hid hown2
            clear hown hown1 hown2 hgrow1 hat1 hrd
            go_wp2
            go_roundg (gk - 1)
            case measure => have := HK1.out; omega
            case rel => exact ⟨k + 1, by go_num, by have := HK1.out; omega, HO2.out, hbel2⟩
        · obtain rfl : k = 16 := by omega
          rw [show 2 * 16 = 32 from rfl, List.take_of_length_le (by rw [fbytes_length]; omega)] at hown
          have hfin := own_more64 hown HBW.out.size
          have HO := Lib.hid hfin
          have HBF := Lib.hid (HBW.out.trans (hbel.mono HBW.out.size))
          clear hown hbel hfin
          go_wp2_with fail
          go_ret
          exact ⟨_, rfl, by rw [← hv.out]; exact HO.out, HBF.out⟩
end Go.Proofs.YtjiadbaaggifpaaDoor
end

section
set_option linter.unusedVariables false
set_option linter.unusedSimpArgs false
namespace Go.Proofs.YtjiadbaaggifpaaDoor
open Go Go.Proofs Go.RowKit F5

/-- 32 new bytes. -/
def Byt32 (v : Nat) (w : World) (e : Ending) (w' : World) : Prop := ∃ r, e = .returned r ∧ w'.ownsRow w.heap.size 5 1 r 32 (Lib.byteCells (fbytes v)) ∧ Below w.heap.size w w'

theorem reduce_any (A : Option Addr) (n c : Nat) (l : List UInt8) (w : World) (hn : n ≤ 1000) (hr : Reads w w.heap.size 1 A n (Lib.byteCells l)) :
    Calls Tryd.prog 54 #[.slice A n c] w (Byt32 (bval l % LL) w) := by
  have hl : l.length = n := by have := hr.1; rw [Lib.byteCells_length] at this; omega
  have CD := Lib.hid (digits_any A n c l w hn hr)
  have HL := Lib.hid hl
  clear hr hl
  go_enter Tryd.func54, Tryd.ntmps54
  go_wp2_with fail
  refine CD.out.mono ?_
  rintro e w1 ⟨v, d, rfl, hd1, hd2, hd3, hown, hb1⟩
  obtain ⟨A1, c1, rfl, _⟩ := own_slice hown
  have CR := rest_any A1 d.length c1 d w1 (by rw [hd1, HL.out]; omega) (Reads.of_own hown) hd2
  rw [hd3] at CR
  have CR := Lib.hid CR
  have HB1 := Lib.hid hb1
  clear hown hb1 hd1 hd2 hd3
  go_wp2_with fail
  refine CR.out.mono ?_
  rintro e w2 ⟨r, rfl, ho2, hb2⟩
  have HO := Lib.hid (own_more64 ho2 HB1.out.size)
  have HB2 := Lib.hid (HB1.out.trans (hb2.mono HB1.out.size))
  clear ho2 hb2
  go_wp2_with fail
  go_ret
  exact ⟨_, rfl, HO.out, HB2.out⟩

theorem Blk.u64at {w : World} {g t : Nat} {L : List Nat} (h : Blk w g t (u64s L)) (k : Nat) (hk : k < L.length) : w.cell? ⟨g, k, none⟩ = some (.int .u64 ((L.getD k 0 : Nat) : Int)) := (h.cell k).trans (u64s_get L k hk)
theorem Blk.u64put {w : World} {g t : Nat} {L : List Nat} (h : Blk w g t (u64s L)) (i s : Nat) : Blk (w.setCell ⟨g, i, none⟩ (.int .u64 (s : Int))) g t (u64s (L.set i s)) := by
  have := h.set_ i (.int .u64 (s : Int))
  rwa [u64s_set] at this
theorem Blk.reads {w : World} {g : Nat} {L : List Nat} (h : Blk w g 24 (u64s L)) : Reads w w.heap.size 1 (some ⟨g, 0, none⟩) L.length (U L) := by
  refine ⟨by rw [U_length, Nat.mul_one], fun _ => ⟨_, rfl, h.lt, fun j u hj => ?_⟩⟩
  rw [show (⟨g, 0, none⟩ : Addr).add j = ⟨g, j, none⟩ from by unfold Addr.add; split <;> simp_all]
  rw [h.cell]
  simpa [u64s, U] using hj
theorem made34 : madeCells #[Value.int .u64 0] 34 = u64s (List.replicate 34 0) := by kernel_rfl

/-- The product's digits stand in a block; what is below it is as it was. -/
def MulAt (W : World) (g : Nat) (L : List Nat) (wr : World) : Prop := Blk wr g 24 (u64s L) ∧ Below g W wr
theorem MulAt.put {W wr : World} {g : Nat} {L : List Nat} (h : MulAt W g L wr) (i s : Nat) : MulAt W g (L.set i s) (wr.setCell ⟨g, i, none⟩ (.int .u64 (s : Int))) := ⟨h.1.u64put i s, h.2.setCell (by show g ≤ g; omega) _⟩
theorem MulAt.drew {W wr : World} {g : Nat} {L : List Nat} (h : MulAt W g L wr) : MulAt W g L wr.drew := ⟨h.1.drew, h.2.drew⟩

end Go.Proofs.YtjiadbaaggifpaaDoor
end

section
set_option linter.unusedVariables false
set_option linter.unusedSimpArgs false
namespace Go.Proofs.YtjiadbaaggifpaaDoor
open Go Go.Proofs Go.RowKit F5

theorem step_of_wpG {P : Program} {ops : Array Oper} {o : Oper} {a : Act} {K : Act → World → Prop} {Q : Exit → Act → World → Prop} {E : Prop} {w : World} (hw : Region.wanted o (yielded ops a.tmps) = true) (h : Oper.wp P o a w K Q) :
    if Region.wanted o (yielded ops a.tmps) = true then Oper.wp P o a w K Q else E := by
  rw [if_pos hw]; exact h
def mayB (l : List UInt8) : Bool := decide (l.length = 32 ∧ bval l < LL)
theorem mayB_eq {l : List UInt8} (h : l.length = 32) : decide (fbytes (bval l % LL) = l) = mayB l := by
  have hb : bval l < 2 ^ 256 := by have := bval_lt l; rwa [h] at this
  have hm : bval l % LL < 2 ^ 256 := Nat.lt_trans (Nat.mod_lt _ LL_pos) (by decide)
  unfold mayB
  rw [decide_eq_decide]
  constructor
  · intro e
    have h2 := congrArg bval e
    rw [bval_fbytes hm] at h2
    exact ⟨h, by rw [← h2]; exact Nat.mod_lt _ LL_pos⟩
  · rintro ⟨_, h2⟩
    rw [Nat.mod_eq_of_lt h2]
    obtain ⟨v, hv, rfl⟩ := fbytes_of l h
    rw [bval_fbytes hv]
theorem mayB_no {l : List UInt8} (h : l.length ≠ 32) : mayB l = false := decide_eq_false fun h2 => h h2.1

set_option maxHeartbeats 4000000 in
set_option maxRecDepth 100000 in
theorem may_any (A : Option Addr) (n c : Nat) (l : List UInt8) (w : World) (hn : n ≤ 1000) (hr : Reads w w.heap.size 1 A n (Lib.byteCells l)) :
    Calls Tryd.prog 26 #[.slice A n c] w fun e w' => e = .returned (.bool (mayB l)) ∧ Below w.heap.size w w' := by
  have hl : l.length = n := by have := hr.1; rw [Lib.byteCells_length] at this; omega
  have HR := Lib.hid hr
  have HB0 := Lib.hid ((Below.refl w.heap.size w).drew)
  by_cases h32 : n = 32
  · subst h32
    have HM := Lib.hid (mayB_eq hl)
    clear hr hl
    go_enter Tryd.func26, Tryd.ntmps26
    go_wp2_with fail
    refine wp_region_held_drew (S := fun V => Below w.heap.size w V) (by kernel_rfl) HB0.out (fun hHeld => ?_)
    generalize w.drew = W0 at *
    refine' wpAnyH_take (i := 0) (oi := _) (v := _) ?hit0 ?hst0 ?hft0 ?hrt0 ?hQt0 ?hyt0 ?hSt0 ?_
    case hit0 => (simp only [List.getElem?_toArray, List.getElem?_cons_succ, List.getElem?_cons_zero]; rfl)
    case hst0 => kernel_rfl
    case hft0 => kernel_rfl
    case hrt0 => kernel_rfl
    case hQt0 => exact fun _ _ _ h => h
    case hSt0 => assumption
    case hyt0 =>
      refine Or.inl ⟨by rfl, ?_⟩
      intro w hSw
      (try dsimp only at hSw)
      go_simp
      all_goals (with_reducible rfl)
    (try simp only [Act.put, List.setIfInBounds_toArray, List.set_cons_zero, List.set_cons_succ])
    refine' wpAnyH_take (i := 1) (oi := _) (v := _) ?hit1 ?hst1 ?hft1 ?hrt1 ?hQt1 ?hyt1 ?hSt1 ?_
    case hit1 => (simp only [List.getElem?_toArray, List.getElem?_cons_succ, List.getElem?_cons_zero]; rfl)
    case hst1 => kernel_rfl
    case hft1 => kernel_rfl
    case hrt1 => kernel_rfl
    case hQt1 => exact fun _ _ _ h => h
    case hSt1 => assumption
    case hyt1 =>
      refine Or.inl ⟨by rfl, ?_⟩
      intro w hSw
      (try dsimp only at hSw)
      go_simp
      all_goals (with_reducible rfl)
    (try simp only [Act.put, List.setIfInBounds_toArray, List.set_cons_zero, List.set_cons_succ])
    refine' wpAnyH_take (i := 2) (oi := _) (v := _) ?hit2 ?hst2 ?hft2 ?hrt2 ?hQt2 ?hyt2 ?hSt2 ?_
    case hit2 => (simp only [List.getElem?_toArray, List.getElem?_cons_succ, List.getElem?_cons_zero]; rfl)
    case hst2 => kernel_rfl
    case hft2 => kernel_rfl
    case hrt2 => kernel_rfl
    case hQt2 => exact fun _ _ _ h => h
    case hSt2 => assumption
    case hyt2 =>
      refine Or.inl ⟨by rfl, ?_⟩
      intro w hSw
      (try dsimp only at hSw)
      go_simp
      all_goals (with_reducible rfl)
    (try simp only [Act.put, List.setIfInBounds_toArray, List.set_cons_zero, List.set_cons_succ])
    refine' wpAnyH_take (i := 3) (oi := _) (v := _) ?hit3 ?hst3 ?hft3 ?hrt3 ?hQt3 ?hyt3 ?hSt3 ?_
    case hit3 => (simp only [List.getElem?_toArray, List.getElem?_cons_succ, List.getElem?_cons_zero]; rfl)
    case hst3 => kernel_rfl
    case hft3 => kernel_rfl
    case hrt3 => kernel_rfl
    case hQt3 => exact fun _ _ _ h => h
    case hSt3 => assumption
    case hyt3 =>
      refine Or.inl ⟨by rfl, ?_⟩
      intro w hSw
      (try dsimp only at hSw)
      go_simp
      all_goals (with_reducible rfl)
    (try simp only [Act.put, List.setIfInBounds_toArray, List.set_cons_zero, List.set_cons_succ])
    refine' wpAnyH_take (i := 4) (oi := _) (v := _) ?hit4 ?hst4 ?hft4 ?hrt4 ?hQt4 ?hyt4 ?hSt4 ?_
    case hit4 => (simp only [List.getElem?_toArray, List.getElem?_cons_succ, List.getElem?_cons_zero]; rfl)
    case hst4 => kernel_rfl
    case hft4 => kernel_rfl
    case hrt4 => kernel_rfl
    case hQt4 => exact fun _ _ _ h => h
    case hSt4 => assumption
    case hyt4 =>
      refine Or.inl ⟨by rfl, ?_⟩
      intro w hSw
      (try dsimp only at hSw)
      go_simp
      all_goals (with_reducible rfl)
    (try simp only [Act.put, List.setIfInBounds_toArray, List.set_cons_zero, List.set_cons_succ])
    refine' wpAnyH_take (i := 7) (oi := _) (v := _) ?hit7 ?hst7 ?hft7 ?hrt7 ?hQt7 ?hyt7 ?hSt7 ?_
    case hit7 => (simp only [List.getElem?_toArray, List.getElem?_cons_succ, List.getElem?_cons_zero]; rfl)
    case hst7 => kernel_rfl
    case hft7 => kernel_rfl
    case hrt7 => kernel_rfl
    case hQt7 => exact fun _ _ _ h => h
    case hSt7 => assumption
    case hyt7 =>
      refine Or.inl ⟨by rfl, ?_⟩
      intro w hSw
      (try dsimp only at hSw)
      go_simp
      all_goals (with_reducible rfl)
    (try simp only [Act.put, List.setIfInBounds_toArray, List.set_cons_zero, List.set_cons_succ])
    refine' wpAnyH_take (i := 8) (oi := _) (v := .string ⟨l.toArray⟩) ?hit8 ?hst8 ?hft8 ?hrt8 ?hQt8 ?hyt8 ?hSt8 ?_
    case hit8 => (simp only [List.getElem?_toArray, List.getElem?_cons_succ, List.getElem?_cons_zero]; rfl)
    case hst8 => kernel_rfl
    case hft8 => kernel_rfl
    case hrt8 => kernel_rfl
    case hQt8 => exact fun _ _ _ h => h
    case hSt8 => assumption
    case hyt8 =>
      refine Or.inl ⟨by rfl, ?_⟩
      intro W hS
      exact quiet_back (.tmp 10) A 32 c _ l rfl (HR.out.below hS) rfl
    (try simp only [Act.put, List.setIfInBounds_toArray, List.set_cons_zero, List.set_cons_succ])
    refine wpAnyH_ready (rs := [5]) (by kernel_rfl) (by simp) ?_
    refine' AllReadyH.cons (o := _) ?hir5 (fun K hK => ?_) AllReadyH.nil
    case hir5 => (simp only [List.getElem?_toArray, List.getElem?_cons_succ, List.getElem?_cons_zero]; rfl)
    go_simp
    refine (reduce_any A 32 c l _ (by omega) ((HR.out.below HB0.out).more HB0.out.size)).mono ?_
    rintro e w6 ⟨v6, rfl, ho6, hb6⟩
    obtain ⟨A6, c6, rfl, _⟩ := own_slice ho6
    have HR6 := Lib.hid (Reads.of_own ho6)
    have HB6 := Lib.hid (HB0.out.trans (hb6.mono HB0.out.size))
    clear ho6 hb6
    go_wp2_with fail
    refine hK.out _ _ ?_ (fun hHeld => ?_)
    exact HB6.out
    clear hK K
    (try simp only [Act.put, List.setIfInBounds_toArray, List.set_cons_zero, List.set_cons_succ])
    refine wpAnyH_ready (rs := [6]) (by kernel_rfl) (by simp) ?_
    refine' AllReadyH.cons (o := _) ?hir6 (fun K hK => ?_) AllReadyH.nil
    case hir6 => (simp only [List.getElem?_toArray, List.getElem?_cons_succ, List.getElem?_cons_zero]; rfl)
    refine step_of_wpG (by rfl) ?_
    refine wp_back (.tmp 8) A6 32 c6 _ (fbytes (bval l % LL)) rfl HR6.out rfl ?_
    refine hK.out _ _ ?_ (fun hHeld => ?_)
    exact HB6.out
    clear hK K
    (try simp only [Act.put, List.setIfInBounds_toArray, List.set_cons_zero, List.set_cons_succ])
    refine' wpAnyH_take (i := 9) (oi := _) (v := _) ?hit9 ?hst9 ?hft9 ?hrt9 ?hQt9 ?hyt9 ?hSt9 ?_
    case hit9 => (simp only [List.getElem?_toArray, List.getElem?_cons_succ, List.getElem?_cons_zero]; rfl)
    case hst9 => kernel_rfl
    case hft9 => kernel_rfl
    case hrt9 => kernel_rfl
    case hQt9 => exact fun _ _ _ h => h
    case hSt9 => assumption
    case hyt9 =>
      refine Or.inl ⟨by rfl, ?_⟩
      intro w hSw
      (try dsimp only at hSw)
      go_simp
      all_goals (with_reducible rfl)
    (try simp only [Act.put, List.setIfInBounds_toArray, List.set_cons_zero, List.set_cons_succ])
    refine' wpAnyH_take (i := 10) (oi := _) (v := _) ?hit10 ?hst10 ?hft10 ?hrt10 ?hQt10 ?hyt10 ?hSt10 ?_
    case hit10 => (simp only [List.getElem?_toArray, List.getElem?_cons_succ, List.getElem?_cons_zero]; rfl)
    case hst10 => kernel_rfl
    case hft10 => kernel_rfl
    case hrt10 => kernel_rfl
    case hQt10 => exact fun _ _ _ h => h
    case hSt10 => assumption
    case hyt10 =>
      refine Or.inl ⟨by rfl, ?_⟩
      intro w hSw
      (try dsimp only at hSw)
      go_simp
      all_goals (with_reducible rfl)
    (try simp only [Act.put, List.setIfInBounds_toArray, List.set_cons_zero, List.set_cons_succ])
    refine' wpAnyH_take (i := 11) (oi := _) (v := _) ?hit11 ?hst11 ?hft11 ?hrt11 ?hQt11 ?hyt11 ?hSt11 ?_
    case hit11 => (simp only [List.getElem?_toArray, List.getElem?_cons_succ, List.getElem?_cons_zero]; rfl)
    case hst11 => kernel_rfl
    case hft11 => kernel_rfl
    case hrt11 => kernel_rfl
    case hQt11 => exact fun _ _ _ h => h
    case hSt11 => assumption
    case hyt11 =>
      refine Or.inl ⟨by rfl, ?_⟩
      intro w hSw
      (try dsimp only at hSw)
      go_simp
      all_goals (with_reducible rfl)
    (try simp only [Act.put, List.setIfInBounds_toArray, List.set_cons_zero, List.set_cons_succ])
    refine wpAnyH_done (by kernel_rfl) ?_ _
    clear hHeld
    go_wp2_with fail
    go_ret
    refine ⟨?_, HB6.out⟩
    show Ending.returned (.bool _) = _
    rw [← HM.out]
    refine congrArg (fun b => Ending.returned (Value.bool b)) ?_
    rw [Bool.eq_iff_iff]
    simp
  · have hne : ((n : Int) == 32) = false := by rw [beq_eq_false_iff_ne]; omega
    have HM := Lib.hid (mayB_no (l := l) (by rw [hl]; exact h32))
    clear hr hl h32
    go_enter Tryd.func26, Tryd.ntmps26
    go_wp2_with fail
    refine wp_region_held_drew (S := fun V => Below w.heap.size w V) (by kernel_rfl) HB0.out (fun hHeld => ?_)
    generalize w.drew = W0 at *
    refine' wpAnyH_take (i := 0) (oi := _) (v := _) ?hit1 ?hst1 ?hft1 ?hrt1 ?hQt1 ?hyt1 ?hSt1 ?_
    case hit1 => (simp only [List.getElem?_toArray, List.getElem?_cons_succ, List.getElem?_cons_zero]; rfl)
    case hst1 => kernel_rfl
    case hft1 => kernel_rfl
    case hrt1 => kernel_rfl
    case hQt1 => exact fun _ _ _ h => h
    case hSt1 => assumption
    case hyt1 =>
      refine Or.inl ⟨by rfl, ?_⟩
      intro w hSw
      (try dsimp only at hSw)
      go_simp
      all_goals (with_reducible rfl)
    (try simp only [Act.put, List.setIfInBounds_toArray, List.set_cons_zero, List.set_cons_succ])
    refine' wpAnyH_take (i := 1) (oi := _) (v := _) ?hit2 ?hst2 ?hft2 ?hrt2 ?hQt2 ?hyt2 ?hSt2 ?_
    case hit2 => (simp only [List.getElem?_toArray, List.getElem?_cons_succ, List.getElem?_cons_zero]; rfl)
    case hst2 => kernel_rfl
    case hft2 => kernel_rfl
    case hrt2 => kernel_rfl
    case hQt2 => exact fun _ _ _ h => h
    case hSt2 => assumption
    case hyt2 =>
      refine Or.inl ⟨by rfl, ?_⟩
      intro w hSw
      (try dsimp only at hSw)
      go_simp
      all_goals (with_reducible rfl)
    (try simp only [Act.put, List.setIfInBounds_toArray, List.set_cons_zero, List.set_cons_succ])
    refine' wpAnyH_take (i := 2) (oi := _) (v := _) ?hit3 ?hst3 ?hft3 ?hrt3 ?hQt3 ?hyt3 ?hSt3 ?_
    case hit3 => (simp only [List.getElem?_toArray, List.getElem?_cons_succ, List.getElem?_cons_zero]; rfl)
    case hst3 => kernel_rfl
    case hft3 => kernel_rfl
    case hrt3 => kernel_rfl
    case hQt3 => exact fun _ _ _ h => h
    case hSt3 => assumption
    case hyt3 =>
      refine Or.inl ⟨by rfl, ?_⟩
      intro w hSw
      (try dsimp only at hSw)
      go_simp
      all_goals (with_reducible rfl)
    (try simp only [Act.put, List.setIfInBounds_toArray, List.set_cons_zero, List.set_cons_succ])
    refine' wpAnyH_take (i := 3) (oi := _) (v := _) ?hit4 ?hst4 ?hft4 ?hrt4 ?hQt4 ?hyt4 ?hSt4 ?_
    case hit4 => (simp only [List.getElem?_toArray, List.getElem?_cons_succ, List.getElem?_cons_zero]; rfl)
    case hst4 => kernel_rfl
    case hft4 => kernel_rfl
    case hrt4 => kernel_rfl
    case hQt4 => exact fun _ _ _ h => h
    case hSt4 => assumption
    case hyt4 =>
      refine Or.inl ⟨by rfl, ?_⟩
      intro w hSw
      (try dsimp only at hSw)
      go_simp
      all_goals (with_reducible rfl)
    (try simp only [Act.put, List.setIfInBounds_toArray, List.set_cons_zero, List.set_cons_succ])
    refine' wpAnyH_take (i := 4) (oi := _) (v := undef) ?hit5 ?hst5 ?hft5 ?hrt5 ?hQt5 ?hyt5 ?hSt5 ?_
    case hit5 => (simp only [List.getElem?_toArray, List.getElem?_cons_succ, List.getElem?_cons_zero]; rfl)
    case hst5 => kernel_rfl
    case hft5 => kernel_rfl
    case hrt5 => kernel_rfl
    case hQt5 => exact fun _ _ _ h => h
    case hSt5 => assumption
    case hyt5 =>
      exact Or.inr ⟨by rfl, rfl⟩
    (try simp only [Act.put, List.setIfInBounds_toArray, List.set_cons_zero, List.set_cons_succ])
    refine' wpAnyH_take (i := 5) (oi := _) (v := undef) ?hit6 ?hst6 ?hft6 ?hrt6 ?hQt6 ?hyt6 ?hSt6 ?_
    case hit6 => (simp only [List.getElem?_toArray, List.getElem?_cons_succ, List.getElem?_cons_zero]; rfl)
    case hst6 => kernel_rfl
    case hft6 => kernel_rfl
    case hrt6 => kernel_rfl
    case hQt6 => exact fun _ _ _ h => h
    case hSt6 => assumption
    case hyt6 =>
      exact Or.inr ⟨by rfl, rfl⟩
    (try simp only [Act.put, List.setIfInBounds_toArray, List.set_cons_zero, List.set_cons_succ])
    refine' wpAnyH_take (i := 6) (oi := _) (v := undef) ?hit7 ?hst7 ?hft7 ?hrt7 ?hQt7 ?hyt7 ?hSt7 ?_
    case hit7 => (simp only [List.getElem?_toArray, List.getElem?_cons_succ, List.getElem?_cons_zero]; rfl)
    case hst7 => kernel_rfl
    case hft7 => kernel_rfl
    case hrt7 => kernel_rfl
    case hQt7 => exact fun _ _ _ h => h
    case hSt7 => assumption
    case hyt7 =>
      exact Or.inr ⟨by rfl, rfl⟩
    (try simp only [Act.put, List.setIfInBounds_toArray, List.set_cons_zero, List.set_cons_succ])
    refine' wpAnyH_take (i := 7) (oi := _) (v := undef) ?hit8 ?hst8 ?hft8 ?hrt8 ?hQt8 ?hyt8 ?hSt8 ?_
    case hit8 => (simp only [List.getElem?_toArray, List.getElem?_cons_succ, List.getElem?_cons_zero]; rfl)
    case hst8 => kernel_rfl
    case hft8 => kernel_rfl
    case hrt8 => kernel_rfl
    case hQt8 => exact fun _ _ _ h => h
    case hSt8 => assumption
    case hyt8 =>
      exact Or.inr ⟨by rfl, rfl⟩
    (try simp only [Act.put, List.setIfInBounds_toArray, List.set_cons_zero, List.set_cons_succ])
    refine' wpAnyH_take (i := 8) (oi := _) (v := undef) ?hit9 ?hst9 ?hft9 ?hrt9 ?hQt9 ?hyt9 ?hSt9 ?_
    case hit9 => (simp only [List.getElem?_toArray, List.getElem?_cons_succ, List.getElem?_cons_zero]; rfl)
    case hst9 => kernel_rfl
    case hft9 => kernel_rfl
    case hrt9 => kernel_rfl
    case hQt9 => exact fun _ _ _ h => h
    case hSt9 => assumption
    case hyt9 =>
      exact Or.inr ⟨by rfl, rfl⟩
    (try simp only [Act.put, List.setIfInBounds_toArray, List.set_cons_zero, List.set_cons_succ])
    refine' wpAnyH_take (i := 9) (oi := _) (v := undef) ?hit10 ?hst10 ?hft10 ?hrt10 ?hQt10 ?hyt10 ?hSt10 ?_
    case hit10 => (simp only [List.getElem?_toArray, List.getElem?_cons_succ, List.getElem?_cons_zero]; rfl)
    case hst10 => kernel_rfl
    case hft10 => kernel_rfl
    case hrt10 => kernel_rfl
    case hQt10 => exact fun _ _ _ h => h
    case hSt10 => assumption
    case hyt10 =>
      exact Or.inr ⟨by rfl, rfl⟩
    (try simp only [Act.put, List.setIfInBounds_toArray, List.set_cons_zero, List.set_cons_succ])
    refine' wpAnyH_take (i := 10) (oi := _) (v := _) ?hit11 ?hst11 ?hft11 ?hrt11 ?hQt11 ?hyt11 ?hSt11 ?_
    case hit11 => (simp only [List.getElem?_toArray, List.getElem?_cons_succ, List.getElem?_cons_zero]; rfl)
    case hst11 => kernel_rfl
    case hft11 => kernel_rfl
    case hrt11 => kernel_rfl
    case hQt11 => exact fun _ _ _ h => h
    case hSt11 => assumption
    case hyt11 =>
      refine Or.inl ⟨by rfl, ?_⟩
      intro w hSw
      (try dsimp only at hSw)
      go_simp
      all_goals (with_reducible rfl)
    (try simp only [Act.put, List.setIfInBounds_toArray, List.set_cons_zero, List.set_cons_succ])
    refine' wpAnyH_take (i := 11) (oi := _) (v := _) ?hit12 ?hst12 ?hft12 ?hrt12 ?hQt12 ?hyt12 ?hSt12 ?_
    case hit12 => (simp only [List.getElem?_toArray, List.getElem?_cons_succ, List.getElem?_cons_zero]; rfl)
    case hst12 => kernel_rfl
    case hft12 => kernel_rfl
    case hrt12 => kernel_rfl
    case hQt12 => exact fun _ _ _ h => h
    case hSt12 => assumption
    case hyt12 =>
      refine Or.inl ⟨by rfl, ?_⟩
      intro w hSw
      (try dsimp only at hSw)
      go_simp
      all_goals (with_reducible rfl)
    (try simp only [Act.put, List.setIfInBounds_toArray, List.set_cons_zero, List.set_cons_succ])
    refine wpAnyH_done (by kernel_rfl) ?_ _
    clear hHeld
    go_wp2_with fail
    go_ret
    exact ⟨by rw [HM.out]; rfl, HB0.out⟩
end Go.Proofs.YtjiadbaaggifpaaDoor
end

section
set_option linter.unusedVariables false
set_option linter.unusedSimpArgs false
namespace Go.Proofs.YtjiadbaaggifpaaDoor
open Go Go.Proofs Go.RowKit F5

theorem run_eql_bytes {T : TypeId} {n : Nat} (hu : Tryd.prog.underlying T = some (.array n 5)) (l l' : List UInt8) (h : l.length = n) (h' : l'.length = n) (w : World) :
    (binOp .eql T (.agg (bytesA l)) (.agg (bytesA l'))).run Tryd.prog w = .ok (.bool (decide (l = l'))) w := by
  obtain ⟨i0, hi⟩ : ∃ i0, Tryd.prog.info? 5 = some i0 := by
    cases hq : Tryd.prog.info? 5 with
    | none => exact absurd hq (by have : (Tryd.prog.info? 5).isSome = true := by kernel_rfl
                                  intro e; rw [e] at this; cases this)
    | some x => exact ⟨x, rfl⟩
  have hc : Tryd.prog.cellsOf 5 = 1 := by kernel_rfl
  rw [run_eql_struct, run_equalIn_array w 9999 (bytesA l) (bytesA l') hu hi, hc, eqItems_all 9998 5 .u8 .u8 Tryd.underlying5 (by kernel_rfl) _ _ (fun i => (((l.map UInt8.toNat).getD i 0 : Nat) : Int)) (fun i => (((l'.map UInt8.toNat).getD i 0 : Nat) : Int)) w _ (fun i hi => by
    have := List.mem_range.1 hi
    exact ⟨bytesA_getN _ _ (by omega), bytesA_getN _ _ (by omega)⟩), all_range (by simpa using h) (by simpa using h')]
  simp only [map_toNat_inj]
  rfl
theorem quiet_eql_bytes {o : Oper} {ev : Operand → Value} (w : World) (x y : Operand) (k : TypeId) (l l' : List UInt8) (hl : l.length = 32) (hl' : l'.length = 32) (hx : ev x = .agg (bytesA l)) (hy : ev y = .agg (bytesA l'))
    (ho : o.op = .binOp .eql 40 x y k) : (execOp ev o).run Tryd.prog w = .ok (.value (.bool (decide (l = l')))) w := by
  have hg : (eqGuard .eql 40 x y (.agg (bytesA l)) (.agg (bytesA l'))).run Tryd.prog w = .ok () w := run_eqGuard_agg w .eql _ x y _ _ (by kernel_rfl)
  unfold execOp
  simp only [ho, hx, hy, Sem.run_bind, hg, Result.andThen_ok, run_eql_bytes Tryd.underlying40 l l' hl hl' w, Sem.run_pure]
theorem quiet_eqb_bytes {o : Oper} {ev : Operand → Value} (w : World) (x y : Operand) (k : TypeId) (l l' : List UInt8) (b : Bool) (hb : decide (l = l') = b) (hl : l.length = 32) (hl' : l'.length = 32) (hx : ev x = .agg (bytesA l)) (hy : ev y = .agg (bytesA l'))
    (ho : o.op = .binOp .eql 40 x y k) : (execOp ev o).run Tryd.prog w = .ok (.value (.bool b)) w := by
  rw [← hb]; exact quiet_eql_bytes w x y k l l' hl hl' hx hy ho
theorem wpList_eql_bytes {ops : Array Oper} {rest : List Oper} {o : Oper} {a : Act} {w : World} {Q : Exit → Act → World → Prop} (hgd : o.guard = none) (x y : Operand) (k : TypeId) (l l' : List UInt8) (hl : l.length = 32) (hl' : l'.length = 32)
    (hx : a.eval x = .agg (bytesA l)) (hy : a.eval y = .agg (bytesA l')) (ho : o.op = .binOp .eql 40 x y k) (h : wpList Tryd.prog ops Q rest (a.put o.dst (.bool (decide (l = l')))) w) : wpList Tryd.prog ops Q (o :: rest) a w :=
  wpList_plain hgd fun _ hK => by
    have hg : (eqGuard .eql 40 x y (.agg (bytesA l)) (.agg (bytesA l'))).run Tryd.prog w = .ok () w := run_eqGuard_agg w .eql _ x y _ _ (by kernel_rfl)
    unfold Oper.wp execOp
    simp only [ho, hx, hy, Sem.run_bind, hg, Result.andThen_ok, run_eql_bytes Tryd.underlying40 l l' hl hl' w, Sem.run_pure]
    exact hK _ _ h
theorem alloc_new2 {B : Nat} {w w' : World} {o : Obj} (h : Below B w (w'.alloc o)) (T : TypeId) (z : Array Value) : Blk ((w'.alloc o).alloc (.cells z T)) (w'.heap.size + 1) T z := by
  have := Blk.new (w'.alloc o) T z
  rwa [show (w'.alloc o).heap.size = w'.heap.size + 1 by simp] at this
theorem alloc_size2 {B : Nat} {w w' : World} {o : Obj} (h : Below B w (w'.alloc o)) : w.heap.size ≤ w'.heap.size + 1 := by
  have := h.size
  rwa [show (w'.alloc o).heap.size = w'.heap.size + 1 by simp] at this
theorem blk_ne2 {w : World} {o : Obj} {g t : Nat} {c : Array Value} (h : Blk (w.alloc o) g t c) : g ≠ w.heap.size + 1 := by
  have := h.lt
  rw [show (w.alloc o).heap.size = w.heap.size + 1 by simp] at this
  omega
theorem built_one : Tryd.prog.built 40 [(0, .int .u8 1)] = some (bytesA (1 :: List.replicate 31 0)) := by kernel_rfl
theorem built_nil : Tryd.prog.built 40 [] = some (bytesA (List.replicate 32 0)) := by kernel_rfl
theorem info32s : (Tryd.prog.info? 40).map (·.size) = some 32 := by kernel_rfl
theorem fbytes_ok (n : Nat) : (Tryd.prog.info? 40).map (·.size) = some (bytesA (fbytes n)).size ∧ (bytesA (fbytes n)).all (·.oneCell') = true ∧ (bytesA (fbytes 0)).size = (bytesA (fbytes n)).size :=
  ⟨fbytes_info n, bytesA_one _, by rw [bytesA_size, bytesA_size, fbytes_length, fbytes_length]⟩
theorem fbytes_zero : fbytes 0 = List.replicate 32 0 := by decide +kernel

/-- The program's numbers modulo L are as they must be, in worlds of a kind that calls keep. -/
structure ScaOk (Q : World → Prop) : Prop where
  old : ∀ {w w' : World}, Q w → Below w.heap.size w w' → Q w'
  reduce : ∀ (A : Option Addr) (n c : Nat) (l : List UInt8) (w : World), n ≤ 1000 → n ≤ c → c ≤ maxLen → Reads w w.heap.size 1 A n (Lib.byteCells l) → Q w →
    Calls Tryd.prog 25 #[.slice A n c] w fun e w' => e = .returned (.agg (bytesA (fbytes (bval l % LL)))) ∧ Below w.heap.size w w'
  muladd : ∀ (a b c : Nat) (w : World), a < 2 ^ 256 → b < 2 ^ 256 → c < 2 ^ 256 → Q w →
    Calls Tryd.prog 27 #[.agg (bytesA (fbytes a)), .agg (bytesA (fbytes b)), .agg (bytesA (fbytes c))] w fun e w' => e = .returned (.agg (bytesA (fbytes ((a * b + c) % LL)))) ∧ Below w.heap.size w w'
end Go.Proofs.YtjiadbaaggifpaaDoor
end

section
set_option linter.unusedVariables false
set_option linter.unusedSimpArgs false
namespace Go.Proofs.YtjiadbaaggifpaaDoor
open Go Go.Proofs Go.RowKit F5

theorem sadd64_run (x y c r c' : Nat) (hr : r < M) (hc : c ≤ 1) (he : r + M * c' = x + y + c) (w : World) : (callFunc 74 #[.int .u64 (x : Int), .int .u64 (y : Int), .int .u64 (c : Int)]).run Tryd.prog w =
    .ok (.value (.tuple #[.int .u64 (r : Int), .int .u64 (c' : Int)])) w := by
  rw [run_callFunc_extern Tryd.func74 (by kernel_rfl) (by kernel_rfl) (by kernel_rfl) (e := add64Entry) (by kernel_rfl), run_add64 x y c (by omega) (by omega) (by omega) (by omega)]
  unfold M at hr he
  have e1 : ((x : Int) + (y : Int) + (c : Int)) % 18446744073709551616 = (r : Int) := by omega
  have e2 : ((x : Int) + (y : Int) + (c : Int)) / 18446744073709551616 = (c' : Int) := by omega
  rw [e1, e2]
  rfl
theorem ssub64_run (x y c r c' : Nat) (hr : r < M) (hx : x < M) (hy : y < M) (hc : c ≤ 1) (he : r + y + c = x + M * c') (w : World) : (callFunc 78 #[.int .u64 (x : Int), .int .u64 (y : Int), .int .u64 (c : Int)]).run Tryd.prog w =
    .ok (.value (.tuple #[.int .u64 (r : Int), .int .u64 (c' : Int)])) w := by
  rw [run_callFunc_extern Tryd.func78 (by kernel_rfl) (by kernel_rfl) (by kernel_rfl) (e := sub64Entry) (by kernel_rfl), run_sub64 x y c hc]
  unfold M at hr he hx hy
  have e1 : (x + 18446744073709551616 - y - c) % 18446744073709551616 = r := by omega
  have e2 : (if x < y + c then 1 else 0) = c' := by split <;> omega
  rw [e1, e2]
  rfl
theorem sadd_carry {x y c : Nat} (hx : x < M) (hy : y < M) (hc : c ≤ 1) : (x + y + c) / M ≤ 1 := by unfold M at *; omega
theorem ssub_step {x y c : Nat} (hx : x < M) (hy : y < M) (hc : c ≤ 1) : (x + M - y - c) % M + y + c = x + M * (if x < y + c then 1 else 0) := by
  unfold M at *; split <;> omega
theorem sborrow_le (x y c : Nat) : (if x < y + c then 1 else 0) ≤ 1 := by split <;> omega
theorem sval_take4 {b : Nat} {B : List Nat} (h : B.length = 4) : val b (B.take 4) = val b B := by rw [List.take_of_length_le (by omega)]

/-- A number as four limbs. -/
def limS (n : Nat) : Array Value := u64s (digs M n 4)
theorem limS_size (n : Nat) : (limS n).size = 4 := by rw [limS, u64s_size, digs_length]
theorem infoS4 : (Tryd.prog.info? 82).map (·.size) = some 4 := by kernel_rfl
theorem su64s_info {L : List Nat} (h : L.length = 4) : (Tryd.prog.info? 82).map (·.size) = some (u64s L).size := by rw [u64s_size, h]; exact infoS4
theorem LL_M : LL < M ^ 4 := by decide
theorem LL_M2 : 2 * LL < M ^ 4 := by decide
theorem limS_val {n : Nat} (h : n < LL) : val M (digs M n 4) = n := by rw [val_digs, Nat.mod_eq_of_lt (Nat.lt_trans h LL_M)]
theorem limS_all (n : Nat) : All M (digs M n 4) := digs_all (by decide) _ _

theorem sresults_row_tmp {fn : Func} {p u : Tmp} {ty : TypeId} {P : Program} (h : fn.results = #[.cell p ty, .tmp u]) (tmps : Array Value) (w : World) (g : Nat) (t : TypeId) (cs : Array Value) (v : Value) (e : TypeId) (n : Nat)
    (hp : tmps.getD p undef = .pointer (some ⟨g, 0, none⟩)) (hv : tmps.getD u undef = v) (hg : Blk w g t cs) (hu : P.underlying ty = some (.array n e)) (hi : (P.info? ty).map (·.size) = some cs.size) :
    (results fn tmps).run P w = .ok (.tuple #[.agg cs, v]) w := by
  rw [results_cell_tmp h, hp, hv]
  have hl := run_loadVar_row w g t ty cs (0, 0) _ hg hu rfl hi
  simp [asAddr, Result.andThen, hl]

/-- Three blocks, one behind the other. -/
theorem sthree (w : World) (a b c : Array Value) (T1 T2 T3 : TypeId) : Blk (((w.alloc (.cells a T1)).alloc (.cells b T2)).alloc (.cells c T3)) w.heap.size T1 a ∧ Blk (((w.alloc (.cells a T1)).alloc (.cells b T2)).alloc (.cells c T3)) (w.heap.size + 1) T2 b ∧
    Blk (((w.alloc (.cells a T1)).alloc (.cells b T2)).alloc (.cells c T3)) (w.heap.size + 2) T3 c ∧ Below w.heap.size w (((w.alloc (.cells a T1)).alloc (.cells b T2)).alloc (.cells c T3)) ∧ w.heap.size + 2 < (((w.alloc (.cells a T1)).alloc (.cells b T2)).alloc (.cells c T3)).heap.size := by
  refine ⟨((Blk.new w T1 a).alloc _).alloc _, ?_, ?_, (((Below.refl _ _).alloc (Nat.le_refl _) _).alloc (by simp) _).alloc (by simp; omega) _, by simp⟩
  · have := (Blk.new (w.alloc (.cells a T1)) T2 b).alloc (.cells c T3)
    rwa [show (w.alloc (.cells a T1)).heap.size = w.heap.size + 1 by simp] at this
  · have := Blk.new ((w.alloc (.cells a T1)).alloc (.cells b T2)) T3 c
    rwa [show ((w.alloc (.cells a T1)).alloc (.cells b T2)).heap.size = w.heap.size + 2 by simp] at this

abbrev zeros4 : Array Value := #[.int .u64 0, .int .u64 0, .int .u64 0, .int .u64 0]
def SAt (Y : List Nat) (w : World) (L : List Nat) (wr : World) : Prop :=
  L.length = 4 ∧ Blk wr w.heap.size 82 (u64s L) ∧ Blk wr (w.heap.size + 1) 82 (u64s Y) ∧ Blk wr (w.heap.size + 2) 82 zeros4 ∧ Below w.heap.size w wr
theorem SAt.drew {Y L : List Nat} {w wr : World} (h : SAt Y w L wr) : SAt Y w L wr.drew := ⟨h.1, h.2.1.drew, h.2.2.1.drew, h.2.2.2.1.drew, h.2.2.2.2.drew⟩
theorem SAt.set {Y L : List Nat} {w wr : World} (h : SAt Y w L wr) (k r : Nat) : SAt Y w (L.set k r) (wr.setCell ⟨w.heap.size, k, none⟩ (.int .u64 (r : Int))) := by
  obtain ⟨h1, h2, h3, h4, h5⟩ := h
  refine ⟨by simpa using h1, ?_, h3.far (by show w.heap.size + 1 ≠ w.heap.size; omega) _, h4.far (by show w.heap.size + 2 ≠ w.heap.size; omega) _, h5.setCell (by show w.heap.size ≤ w.heap.size; omega) _⟩
  have := h2.set_ k (.int .u64 (r : Int))
  rwa [u64s_set] at this
theorem SAt.start (w : World) (X Y : List Nat) (h : X.length = 4) : SAt Y w X (((w.alloc (.cells (u64s X) 82)).alloc (.cells (u64s Y) 82)).alloc (.cells zeros4 82)) := by
  obtain ⟨b1, b2, b3, hb, _⟩ := sthree w (u64s X) (u64s Y) zeros4 82 82 82
  exact ⟨h, b1, b2, b3, hb⟩

set_option maxHeartbeats 2000000 in
set_option maxRecDepth 100000 in
theorem sless_any (X Y : List Nat) (w : World) (hX4 : X.length = 4) (hX : All M X) (hY4 : Y.length = 4) (hY : All M Y) :
    Calls Tryd.prog 75 #[.agg (u64s X), .agg (u64s Y)] w fun e w' => (∃ L c, Less M X 4 L c (val M Y) ∧ c ≤ 1 ∧ e = .returned (.tuple #[.agg (u64s L), .bool (decide (c ≠ 0))])) ∧ Below w.heap.size w w' := by
  have hal : Tryd.prog.arrayLen 82 = 4 := by kernel_rfl
  have hel : Tryd.prog.elem 82 = 24 := by kernel_rfl
  have HX4 := Lib.hid hX4
  have HY4 := Lib.hid hY4
  have HX := Lib.hid hX
  have HY := Lib.hid hY
  have hs0 := Lib.hid (SAt.start w X Y hX4)
  obtain ⟨cx, hcx⟩ : ∃ c, Hid (c = u64s X) := ⟨_, Lib.hid rfl⟩
  obtain ⟨cy, hcy⟩ : ∃ c, Hid (c = u64s Y) := ⟨_, Lib.hid rfl⟩
  rw [← hcx.out, ← hcy.out] at hs0 ⊢
  clear hX4 hY4 hX hY
  go_enter Tryd.func75, Tryd.ntmps75
  go_wp2
  go_loopw [6, 8] (fun cv iv wr => ∃ k c L, k ≤ 4 ∧ c ≤ 1 ∧ cv = .int .u64 (c : Nat) ∧ iv = .int .i64 (k : Nat) ∧ Less M X k L c (val M (Y.take k)) ∧ SAt Y w L wr) (fun _ iv _ => 4 - (intOf iv).toNat)
  case atStart => exact ⟨0, 0, X, by omega, by omega, rfl, rfl, Less.zero HX.out, hs0.out⟩
  case round =>
    obtain ⟨k, c, L, hk, hc, rfl, rfl, hL, hs⟩ := hrel
    by_cases hlt : k < 4
    · have hL4 : L.length = 4 := hs.1
      have hx : wr.cell? ⟨w.heap.size, k, none⟩ = some (.int .u64 ((L.getD k 0 : Nat) : Int)) := (hs.2.1.cell _).trans (u64s_get _ _ (by omega))
      have hf := hs.2.1.frozen k
      have hy : wr.cell? ⟨w.heap.size + 1, k, none⟩ = some (.int .u64 ((Y.getD k 0 : Nat) : Int)) := (hs.2.2.1.cell _).trans (u64s_get _ _ (by rw [HY4.out]; omega))
      have hxl := hL.2.1.getD (by decide) k
      have hyl := HY.out.getD (by decide) k
      have hXk := hL.2.2.1 k (Nat.le_refl _)
      obtain ⟨x, hx'⟩ : ∃ x, Hid (x = L.getD k 0) := ⟨_, Lib.hid rfl⟩
      obtain ⟨y, hy'⟩ : ∃ y, Hid (y = Y.getD k 0) := ⟨_, Lib.hid rfl⟩
      rw [← hx'.out] at hx hxl hXk
      rw [← hy'.out] at hy hyl
      obtain ⟨r, hR⟩ : ∃ r, Hid (r = (x + M - y - c) % M) := ⟨_, Lib.hid rfl⟩
      obtain ⟨c', hC⟩ : ∃ c', Hid (c' = if x < y + c then 1 else 0) := ⟨_, Lib.hid rfl⟩
      have he : r + y + c = x + M * c' := by rw [hR.out, hC.out]; exact ssub_step hxl hyl hc
      have hrl : r < M := by rw [hR.out]; exact Nat.mod_lt _ (by decide)
      have hcl : c' ≤ 1 := by rw [hC.out]; exact sborrow_le _ _ _
      have hrun := ssub64_run x y c r c' hrl hxl hyl hc he
      have hnext : Hid (Less M X (k + 1) (L.set k r) c' (val M (Y.take (k + 1)))) := Lib.hid (by
        rw [val_take_succ _ _ _ (by rw [HY4.out]; exact hlt), ← hy'.out]
        exact hL.next (by rw [HX4.out]; exact hlt) hrl (by rw [← hXk]; exact he))
      have hsn := Lib.hid (hs.set k r)
      clear hL hs hXk he hL4
      go_wp2
      go_region
      have hnd := Lib.hid hsn.out.drew
      clear hsn
      go_wp2
      go_roundw
      case rel => exact ⟨k + 1, c', _, by omega, hcl, rfl, by go_num, hnext.out, hnd.out⟩
      case measure => simp [intOf]; omega
    · obtain rfl : k = 4 := by omega
      rw [sval_take4 HY4.out] at hL
      have HL := Lib.hid hL
      have HB := Lib.hid hs.2.2.2.2
      have b1 := Lib.hid hs.2.1
      have b3 := Lib.hid hs.2.2.2.1
      obtain ⟨R, hR⟩ : ∃ R, Hid (R = u64s L) := ⟨_, Lib.hid rfl⟩
      rw [← hR.out] at b1
      have hRi : Hid ((Tryd.prog.info? 82).map (·.size) = some R.size) := by rw [hR.out]; exact Lib.hid (su64s_info hs.1)
      have hR1 : Hid (R.all (·.oneCell') = true) := by rw [hR.out]; exact Lib.hid (u64s_one _)
      have hzz : Hid (zeros4.size = R.size) := by rw [hR.out, u64s_size, hs.1]; exact Lib.hid rfl
      obtain ⟨b, hb⟩ : ∃ b, Hid (b = decide (c ≠ 0)) := ⟨_, Lib.hid rfl⟩
      have hbt : ((c : Int) != 0) = b := by rw [hb.out]; rcases (show c = 0 ∨ c = 1 by omega) with rfl | rfl <;> rfl
      clear hL hs
      go_wp2_with (first | (refine wpList_load_row rfl 82 (.tmp 2) rfl w.heap.size rfl 82 R (0, 0) _ b1.out Tryd.underlying82 rfl hRi.out ?_) |
        (refine wpList_store_row rfl 82 (.tmp 4) (.tmp 25) rfl (w.heap.size + 2) R rfl rfl 82 _ b3.out hRi.out hzz.out hR1.out ?_))
      refine bodyPost_ret (v := .tuple #[.agg R, .bool b]) ?_ rfl ⟨⟨L, c, HL.out, hc, by rw [hR.out, hb.out]⟩, below_row HB.out (by omega) _⟩
      exact sresults_row_tmp Tryd.results75 _ _ (w.heap.size + 2) 82 R _ _ _ rfl rfl (b3.out.row R) Tryd.underlying82 hRi.out

/-- L's limbs stand in their variable. -/
def OrderAt (w : World) : Prop := 0 < w.heap.size ∧ ∀ j v, (limS LL)[j]? = some v → w.cell? ⟨0, 0 + j, none⟩ = some v
theorem OrderAt.old {w w' : World} (h : OrderAt w) (hb : Below w.heap.size w w') : OrderAt w' :=
  ⟨Nat.lt_of_lt_of_le h.1 hb.size, fun j v hj => (hb.cell (p := ⟨0, 0 + j, none⟩) h.1).trans (h.2 j v hj)⟩

theorem sadd_sum {n m c : Nat} {L : List Nat} (hn : n < LL) (hm : m < LL) (h : Part M (digs M n 4) 4 L c (val M (digs M m 4))) : L = digs M (n + m) 4 := by
  obtain ⟨h1, h2, _, h4⟩ := h
  rw [limS_val hn, limS_val hm] at h4
  have hl := val_lt L h2
  rw [h1, digs_length] at hl
  refine digs_of h2 (h1.trans (digs_length _ _ _)) ?_
  have h3 := LL_M2
  have hc : c = 0 := by
    rcases Nat.eq_zero_or_pos c with h | h
    · exact h
    · have := Nat.mul_le_mul_left (M ^ 4) h
      omega
  subst hc
  omega
theorem sadd_less {s c : Nat} {L : List Nat} (hs : s < 2 * LL) (hc : c ≤ 1) (h : Less M (digs M s 4) 4 L c (val M (digs M LL 4))) : (c = 1 ∧ s % LL = s) ∨ (c = 0 ∧ L = digs M (s % LL) 4) := by
  obtain ⟨h1, h2, _, h4⟩ := h
  have h3 := LL_M2
  rw [val_digs, val_digs, Nat.mod_eq_of_lt (by omega), Nat.mod_eq_of_lt (by omega)] at h4
  have hl := val_lt L h2
  rw [h1, digs_length] at hl
  rcases (show c = 0 ∨ c = 1 by omega) with rfl | rfl
  · refine .inr ⟨rfl, digs_of h2 (h1.trans (digs_length _ _ _)) ?_⟩
    rw [Nat.mod_eq_sub_mod (by omega), Nat.mod_eq_of_lt (by omega)]
    omega
  · exact .inl ⟨rfl, Nat.mod_eq_of_lt (by omega)⟩

set_option maxHeartbeats 2000000 in
set_option maxRecDepth 100000 in
theorem sadd_any (n m : Nat) (hn : n < LL) (hm : m < LL) (w : World) (hO : OrderAt w) :
    Calls Tryd.prog 56 #[.agg (limS n), .agg (limS m)] w fun e w' => e = .returned (.agg (limS ((n + m) % LL))) ∧ Below w.heap.size w w' := by
  have hal : Tryd.prog.arrayLen 82 = 4 := by kernel_rfl
  have hel : Tryd.prog.elem 82 = 24 := by kernel_rfl
  have HX := Lib.hid (limS_all n)
  have HY := Lib.hid (limS_all m)
  have HX4 : Hid ((digs M n 4).length = 4) := Lib.hid (digs_length _ _ _)
  have HY4 : Hid ((digs M m 4).length = 4) := Lib.hid (digs_length _ _ _)
  have hs0 := Lib.hid (SAt.start w (digs M n 4) (digs M m 4) (digs_length _ _ _))
  have HO := Lib.hid hO
  have Hn := Lib.hid hn
  have Hm := Lib.hid hm
  clear hn hm hO
  unfold limS
  obtain ⟨cx, hcx⟩ : ∃ c, Hid (c = u64s (digs M n 4)) := ⟨_, Lib.hid rfl⟩
  obtain ⟨cy, hcy⟩ : ∃ c, Hid (c = u64s (digs M m 4)) := ⟨_, Lib.hid rfl⟩
  obtain ⟨Z, hZ⟩ : ∃ R, Hid (R = u64s (digs M ((n + m) % LL) 4)) := ⟨_, Lib.hid rfl⟩
  rw [← hcx.out, ← hcy.out] at hs0 ⊢
  rw [← hZ.out]
  go_enter Tryd.func56, Tryd.ntmps56
  go_wp2
  go_loopw [5, 9] (fun cv iv wr => ∃ k c L, k ≤ 4 ∧ c ≤ 1 ∧ cv = .int .u64 (c : Nat) ∧ iv = .int .i64 (k : Nat) ∧ Part M (digs M n 4) k L c (val M ((digs M m 4).take k)) ∧ SAt (digs M m 4) w L wr) (fun _ iv _ => 4 - (intOf iv).toNat)
  case atStart => exact ⟨0, 0, _, by omega, by omega, rfl, rfl, Part.zero HX.out, hs0.out⟩
  case round =>
    obtain ⟨k, c, L, hk, hc, rfl, rfl, hL, hs⟩ := hrel
    by_cases hlt : k < 4
    · have hL4 : L.length = 4 := hs.1
      have hx : wr.cell? ⟨w.heap.size, k, none⟩ = some (.int .u64 ((L.getD k 0 : Nat) : Int)) := (hs.2.1.cell _).trans (u64s_get _ _ (by omega))
      have hf := hs.2.1.frozen k
      have hy : wr.cell? ⟨w.heap.size + 1, k, none⟩ = some (.int .u64 (((digs M m 4).getD k 0 : Nat) : Int)) := (hs.2.2.1.cell _).trans (u64s_get _ _ (by rw [HY4.out]; omega))
      have hxl := hL.2.1.getD (by decide) k
      have hyl := HY.out.getD (by decide) k
      have hXk := hL.2.2.1 k (Nat.le_refl _)
      obtain ⟨x, hx'⟩ : ∃ x, Hid (x = L.getD k 0) := ⟨_, Lib.hid rfl⟩
      obtain ⟨y, hy'⟩ : ∃ y, Hid (y = (digs M m 4).getD k 0) := ⟨_, Lib.hid rfl⟩
      rw [← hx'.out] at hx hxl hXk
      rw [← hy'.out] at hy hyl
      obtain ⟨r, hR⟩ : ∃ r, Hid (r = (x + y + c) % M) := ⟨_, Lib.hid rfl⟩
      obtain ⟨c', hC⟩ : ∃ c', Hid (c' = (x + y + c) / M) := ⟨_, Lib.hid rfl⟩
      have he : r + M * c' = x + y + c := by rw [hR.out, hC.out]; exact Nat.mod_add_div _ _
      have hrl : r < M := by rw [hR.out]; exact Nat.mod_lt _ (by decide)
      have hcl : c' ≤ 1 := by rw [hC.out]; exact sadd_carry hxl hyl hc
      have hrun := sadd64_run x y c r c' hrl hc he
      have hnext : Hid (Part M (digs M n 4) (k + 1) (L.set k r) c' (val M ((digs M m 4).take (k + 1)))) := Lib.hid (by
        rw [val_take_succ _ _ _ (by rw [HY4.out]; exact hlt), ← hy'.out]
        exact hL.next (by rw [HX4.out]; exact hlt) hrl (by rw [← hXk]; exact he))
      have hsn := Lib.hid (hs.set k r)
      clear hL hs hXk he hL4
      go_wp2
      go_region
      have hnd := Lib.hid hsn.out.drew
      clear hsn
      go_wp2
      go_roundw
      case rel => exact ⟨k + 1, c', _, by omega, hcl, rfl, by go_num, hnext.out, hnd.out⟩
      case measure => simp [intOf]; omega
    · obtain rfl : k = 4 := by omega
      rw [sval_take4 HY4.out] at hL
      have hs1 := hs.1
      obtain rfl := sadd_sum Hn.out Hm.out hL
      have hsum : Hid (n + m < 2 * LL) := Lib.hid (by have := Hn.out; have := Hm.out; omega)
      obtain ⟨s, hs'⟩ : ∃ s, Hid (s = n + m) := ⟨_, Lib.hid rfl⟩
      rw [← hs'.out] at hsum hs hZ
      obtain ⟨R, hR⟩ : ∃ R, Hid (R = u64s (digs M s 4)) := ⟨_, Lib.hid rfl⟩
      obtain ⟨oc, hoc⟩ : ∃ R, Hid (R = u64s (digs M LL 4)) := ⟨_, Lib.hid rfl⟩
      have b1 := hs.2.1
      rw [← hR.out] at b1
      have HB1 := Lib.hid b1
      have HS := Lib.hid hs
      have hRi : Hid ((Tryd.prog.info? 82).map (·.size) = some R.size) := by rw [hR.out]; exact Lib.hid (su64s_info (digs_length _ _ _))
      have hOi : Hid ((Tryd.prog.info? 82).map (·.size) = some oc.size) := by rw [hoc.out]; exact Lib.hid (su64s_info (digs_length _ _ _))
      have hR1 : Hid (R.all (·.oneCell') = true) := by rw [hR.out]; exact Lib.hid (u64s_one _)
      have hzz : Hid (zeros4.size = R.size) := by rw [hR.out, u64s_size, digs_length]; exact Lib.hid rfl
      have hZi : Hid ((Tryd.prog.info? 82).map (·.size) = some Z.size) := by rw [hZ.out]; exact Lib.hid (su64s_info (digs_length _ _ _))
      have hZ1 : Hid (Z.all (·.oneCell') = true) := by rw [hZ.out]; exact Lib.hid (u64s_one _)
      have hzZ : Hid (zeros4.size = Z.size) := by rw [hZ.out, u64s_size, digs_length]; exact Lib.hid rfl
      have hOr : Hid (∀ j v, oc[j]? = some v → wr.cell? ⟨0, 0 + j, none⟩ = some v) := by rw [hoc.out]; exact Lib.hid (HO.out.old hs.2.2.2.2).2
      have CL : Hid (Calls Tryd.prog 75 #[.agg R, .agg oc] wr fun e w' => (∃ L c, Less M (digs M s 4) 4 L c (val M (digs M LL 4)) ∧ c ≤ 1 ∧ e = .returned (.tuple #[.agg (u64s L), .bool (decide (c ≠ 0))])) ∧ Below wr.heap.size wr w') := by
        rw [hR.out, hoc.out]; exact Lib.hid (sless_any _ _ wr (digs_length _ _ _) (limS_all _) (digs_length _ _ _) (limS_all _))
      clear hL hs b1
      go_wp2_with (first | (refine wpList_load_row rfl 82 (.tmp 2) rfl w.heap.size rfl 82 R (0, 0) _ HB1.out Tryd.underlying82 rfl hRi.out ?_) |
        (refine wpList_load_at rfl 82 (.global 0) rfl 0 0 rfl 24 4 oc Tryd.underlying82 hOi.out hOr.out ?_))
      refine CL.out.mono ?_
      rintro e w2 ⟨⟨L2, c2, hL2, hc2, rfl⟩, hb2⟩
      have hcase := Lib.hid (sadd_less hsum.out hc2 hL2)
      obtain ⟨R2, hR2⟩ : ∃ R, Hid (R = u64s L2) := ⟨_, Lib.hid rfl⟩
      rw [← hR2.out]
      have hl2 : L2.length = 4 := hL2.1.trans (digs_length _ _ _)
      have hR2i : Hid ((Tryd.prog.info? 82).map (·.size) = some R2.size) := by rw [hR2.out]; exact Lib.hid (su64s_info hl2)
      have hR21 : Hid (R2.all (·.oneCell') = true) := by rw [hR2.out]; exact Lib.hid (u64s_one _)
      have hzz2 : Hid (zeros4.size = R2.size) := by rw [hR2.out, u64s_size, hl2]; exact Lib.hid rfl
      have B1 := Lib.hid ((HB1.out.old hb2).alloc (.cells R2 82))
      have B3 := Lib.hid ((HS.out.2.2.2.1.old hb2).alloc (.cells R2 82))
      have B4 := Lib.hid (Blk.new w2 82 R2)
      have HB := Lib.hid ((HS.out.2.2.2.2.trans (hb2.mono HS.out.2.2.2.2.size)).alloc (HS.out.2.2.2.2.trans (hb2.mono HS.out.2.2.2.2.size)).size (.cells R2 82))
      obtain ⟨b, hb⟩ : ∃ b, Hid (b = decide (c2 ≠ 0)) := ⟨_, Lib.hid rfl⟩
      rw [← hb.out]
      clear hL2 hb2 hl2
      rcases hcase.out with ⟨h1, h2⟩ | ⟨h1, h2⟩
      · have hbt : b = true := by rw [hb.out, h1]; rfl
        have hRZ : Hid (R = Z) := by rw [hR.out, hZ.out, h2]; exact Lib.hid rfl
        subst hbt
        clear h1 h2
        go_wp2_with (first | (refine wpList_store_row rfl 82 (.tmp 7) (.tmp 30) rfl w2.heap.size R2 rfl rfl 82 _ (heap_alloc_new w2 _) hR2i.out hzz2.out hR21.out ?_; rw [setRow_alloc1]) |
          (refine wpList_load_row rfl 82 (.tmp 2) rfl w.heap.size rfl 82 R (0, 0) _ B1.out Tryd.underlying82 rfl hRi.out ?_) |
          (refine wpList_store_row rfl 82 (.tmp 4) (.tmp 33) rfl (w.heap.size + 2) R rfl rfl 82 _ B3.out hRi.out hzz.out hR1.out ?_))
        refine bodyPost_ret (v := .agg R) ?_ rfl ⟨by rw [hRZ.out], below_row HB.out (by omega) _⟩
        exact results_cell_row Tryd.results56 _ _ (w.heap.size + 2) 82 R (0, 0) _ rfl (B3.out.row R) Tryd.underlying82 rfl hRi.out
      · have hbt : b = false := by rw [hb.out, h1]; rfl
        have hRZ : Hid (R2 = Z) := by rw [hR2.out, hZ.out, h2]; exact Lib.hid rfl
        subst hbt
        clear h1 h2
        go_wp2_with (first | (refine wpList_store_row rfl 82 (.tmp 7) (.tmp 30) rfl w2.heap.size R2 rfl rfl 82 _ (heap_alloc_new w2 _) hR2i.out hzz2.out hR21.out ?_; rw [setRow_alloc1]) |
          (refine wpList_load_row rfl 82 (.tmp 7) rfl w2.heap.size rfl 82 R2 (0, 0) _ B4.out Tryd.underlying82 rfl hR2i.out ?_) |
          (refine wpList_store_row rfl 82 (.tmp 4) (.tmp 34) rfl (w.heap.size + 2) R2 rfl rfl 82 _ B3.out hR2i.out hzz2.out hR21.out ?_))
        refine bodyPost_ret (v := .agg R2) ?_ rfl ⟨by rw [hRZ.out], below_row HB.out (by omega) _⟩
        exact results_cell_row Tryd.results56 _ _ (w.heap.size + 2) 82 R2 (0, 0) _ rfl (B3.out.row R2) Tryd.underlying82 rfl hR2i.out

theorem sbytes_limb (n k j : Nat) (hj : j < 8) : (n / M ^ k % M) / 2 ^ (j * 8) % 256 = n / 256 ^ (8 * k + j) % 256 := by
  have e1 : (256 : Nat) ^ (8 * k + j) = M ^ k * 256 ^ j := by
    rw [Nat.pow_add, Nat.pow_mul]
  have e2 : (2 : Nat) ^ (j * 8) = 256 ^ j := by rw [Nat.mul_comm, Nat.pow_mul]
  rw [e1, e2, ← Nat.div_div_eq_div_mul]
  generalize n / M ^ k = x
  have e3 : M = 256 ^ j * 256 ^ (8 - j) := by rw [← Nat.pow_add, show j + (8 - j) = 8 by omega]
  rw [e3, Nat.mod_mul_right_div_self]
  obtain ⟨d, hd⟩ : ∃ d, 8 - j = d + 1 := ⟨7 - j, by omega⟩
  rw [hd, Nat.pow_succ, Nat.mod_mul_left_mod]
theorem limS_get (n i : Nat) (h : i < 4) : (limS n)[i]? = some (.int .u64 ((n / M ^ i % M : Nat) : Int)) := by
  rw [limS, u64s_get _ _ (by rw [digs_length]; exact h), digs_getD _ _ _ _ h]
/-- the first k bytes are told. -/
def spart (l : List UInt8) (k : Nat) : List UInt8 := l.take k ++ List.replicate (32 - k) 0
theorem spart_length {l : List UInt8} {k : Nat} (h : l.length = 32) (hk : k ≤ 32) : (spart l k).length = 32 := by simp [spart]; omega
theorem sbytesA_set (l : List UInt8) (k : Nat) (x : UInt8) : (bytesA l).setIfInBounds k (.int .u8 (x.toNat : Int)) = bytesA (l.set k x) := by
  simp [bytesA, Lib.byteCells, List.map_set]
theorem spart_set {l : List UInt8} {k : Nat} (h : l.length = 32) (hk : k < 32) : (spart l k).set k (l.getD k 0) = spart l (k + 1) := by
  unfold spart
  have e1 : (l.take k).length = k := by simp; omega
  rw [List.set_append_right _ _ (by omega), e1, Nat.sub_self, show 32 - k = (32 - (k + 1)) + 1 by omega, List.replicate_succ, List.set_cons_zero]
  have hkl : k < l.length := by omega
  rw [List.take_succ_eq_append_getElem hkl, List.getD_eq_getElem?_getD, List.getElem?_eq_getElem hkl, List.append_assoc]
  rfl
theorem spart_all {l : List UInt8} (h : l.length = 32) : spart l 32 = l := by simp [spart, ← h]

def SBytesAt (n : Nat) (w : World) (k : Nat) (wr : World) : Prop :=
  Blk wr w.heap.size 82 (limS n) ∧ Blk wr (w.heap.size + 1) 40 (bytesA (List.replicate 32 0)) ∧ Blk wr (w.heap.size + 2) 40 (bytesA (spart (fbytes n) k)) ∧ Below w.heap.size w wr

set_option maxHeartbeats 2000000 in
set_option maxRecDepth 100000 in
theorem sbytes_any (n : Nat) (w : World) : Calls Tryd.prog 53 #[.agg (limS n)] w fun e w' => e = .returned (.agg (bytesA (fbytes n))) ∧ Below w.heap.size w w' := by
  have hal : Tryd.prog.arrayLen 82 = 4 := by kernel_rfl
  have hel : Tryd.prog.elem 82 = 24 := by kernel_rfl
  have hal2 : Tryd.prog.arrayLen 40 = 32 := by kernel_rfl
  have hel2 : Tryd.prog.elem 40 = 5 := by kernel_rfl
  obtain ⟨cn, hcn⟩ : ∃ c, Hid (c = limS n) := ⟨_, Lib.hid rfl⟩
  rw [← hcn.out]
  obtain ⟨z, hz⟩ : ∃ z, Hid (z = bytesA (List.replicate 32 0)) := ⟨_, Lib.hid rfl⟩
  have hz0 : ∀ W, (zeroValue 40).run Tryd.prog W = .ok (.agg z) W := by
    rw [hz.out]; exact (zero_of_info (n := 32) (by kernel_rfl)).1
  go_enter Tryd.func53, Tryd.ntmps53
  go_wp2
  go_loopw [4, 5] (fun _ iv wr => ∃ i, i ≤ 32 ∧ iv = .int .i64 (i : Nat) ∧ SBytesAt n w i wr) (fun _ iv _ => 32 - (intOf iv).toNat)
  case atStart =>
    refine ⟨0, by omega, rfl, ?_⟩
    obtain ⟨b1, b2, b3, hb, _⟩ := sthree w cn z z 82 40 40
    refine ⟨?_, ?_, ?_, hb⟩
    · rw [← hcn.out]; exact b1
    · rw [← hz.out]; exact b2
    · rw [show spart (fbytes n) 0 = List.replicate 32 0 from rfl, ← hz.out]
      exact b3
  case round =>
    obtain ⟨i, hi, rfl, b1, b2, b3, hb⟩ := hrel
    clear hz0
    by_cases hlt : i < 32
    · obtain ⟨k, hk⟩ : ∃ k, k = i / 8 := ⟨_, rfl⟩
      obtain ⟨j, hj⟩ : ∃ j, j = i % 8 := ⟨_, rfl⟩
      have hij : i = 8 * k + j := by omega
      have hk4 : k < 4 := by omega
      have hj8 : j < 8 := by omega
      have hdiv : (i : Int) / 8 = (k : Int) := by omega
      have hmod : (i : Int) % 8 = (j : Int) := by omega
      have hx : wr.cell? ⟨w.heap.size, k, none⟩ = some (.int .u64 ((n / M ^ k % M : Nat) : Int)) := (b1.cell k).trans (limS_get n k hk4)
      have hbl := sbytes_limb n k j hj8
      rw [← hij, ← fbytes_get n i hlt] at hbl
      obtain ⟨x, hX⟩ := named (n / M ^ k % M)
      rw [← hX.out] at hx hbl
      obtain ⟨y, hY⟩ : ∃ y, Hid (y = (fbytes n).getD i 0) := ⟨_, Lib.hid rfl⟩
      rw [← hY.out] at hbl
      have hc : ∃ u, wr.cell? ⟨w.heap.size + 2, i, none⟩ = some u := ⟨_, (b3.cell i).trans (Array.getElem?_eq_getElem (by rw [bytesA_size, spart_length (fbytes_length n) hi]; exact hlt))⟩
      obtain ⟨u, hu⟩ := hc
      have hf := b3.frozen i
      have hsh2 : IntKind.u8.wrap ((x : Int) / 2 ^ (j * 8)) = (y.toNat : Int) := by
        rw [IntKind.wrap_u8', ← hbl]; simp
      have hmin : min (j * 8) 64 = j * 8 := by omega
      have ht : ((j : Int) * 8).toNat = j * 8 := by omega
      have hnext : Hid (SBytesAt n w (i + 1) (wr.setCell ⟨w.heap.size + 2, i, none⟩ (.int .u8 (y.toNat : Int)))) := Lib.hid (by
        refine ⟨b1.far (by show w.heap.size ≠ w.heap.size + 2; omega) _, b2.far (by show w.heap.size + 1 ≠ w.heap.size + 2; omega) _, ?_, hb.setCell (by show w.heap.size ≤ w.heap.size + 2; omega) _⟩
        have := b3.set_ i (.int .u8 (y.toNat : Int))
        rwa [sbytesA_set, hY.out, spart_set (fbytes_length n) hlt, ← hY.out] at this)
      clear b1 b2 b3 hb hk hj hij hbl
      go_wp2
      exact ⟨⟨i + 1, by omega, by go_num, hnext.out⟩, by simp [intOf]; omega⟩
    · obtain rfl : i = 32 := by omega
      have b3' : Hid (Blk wr (w.heap.size + 2) 40 (bytesA (fbytes n))) := by rw [spart_all (fbytes_length n)] at b3; exact Lib.hid b3
      have hRi := Lib.hid (fbytes_info n)
      have hR1 : Hid ((bytesA (fbytes n)).all (·.oneCell') = true) := Lib.hid (bytesA_one _)
      have hzz : Hid ((bytesA (List.replicate 32 0)).size = (bytesA (fbytes n)).size) := Lib.hid (by rw [bytesA_size, bytesA_size, fbytes_length]; rfl)
      have B2 := Lib.hid b2
      have HBL := Lib.hid hb
      obtain ⟨R, hR⟩ : ∃ R, Hid (R = bytesA (fbytes n)) := ⟨_, Lib.hid rfl⟩
      rw [← hR.out] at b3' hRi hR1 hzz
      clear b1 b2 b3 hb
      go_wp2_with (first | (refine wpList_load_row rfl 40 (.tmp 3) rfl (w.heap.size + 2) rfl 40 R (0, 0) _ b3'.out Tryd.underlying40 rfl hRi.out ?_) |
        (refine wpList_store_row rfl 40 (.tmp 2) (.tmp 20) rfl (w.heap.size + 1) R rfl rfl 40 _ B2.out hRi.out hzz.out hR1.out ?_))
      refine bodyPost_ret (v := .agg R) ?_ rfl ⟨by rw [hR.out], below_row HBL.out (by omega) _⟩
      exact results_cell_row Tryd.results53 _ _ (w.heap.size + 1) 40 R (0, 0) _ rfl (B2.out.row R) Tryd.underlying40 rfl hRi.out
end Go.Proofs.YtjiadbaaggifpaaDoor
end

section
set_option linter.unusedVariables false
set_option linter.unusedSimpArgs false
namespace Go.Proofs.YtjiadbaaggifpaaDoor
open Go Go.Proofs Go.RowKit Go.Shelf F5

attribute [local go_sem] Oper.semAt_some

/-- What has come when k rounds are over: the bytes from the last one on, each with its place. -/
def backs (l : List UInt8) (k : Nat) : List (Nat × UInt8) := (List.range k).map fun j => (l.length - 1 - j, l.getD (l.length - 1 - j) 0)
theorem backs_succ (l : List UInt8) (k : Nat) : backs l (k + 1) = backs l k ++ [(l.length - 1 - k, l.getD (l.length - 1 - k) 0)] := by simp [backs, List.range_succ]
theorem backs_length (l : List UInt8) (k : Nat) : (backs l k).length = k := by simp [backs]
/-- What a round that goes on keeps: what lay below n₀, and the slice's own variable. -/
def KpB (n₀ Bs : Nat) (W W' : World) : Prop := Below n₀ W W' ∧ W'.cell? ⟨Bs, 0, none⟩ = W.cell? ⟨Bs, 0, none⟩
theorem KpB.refl (n₀ Bs : Nat) (W : World) : KpB n₀ Bs W W := ⟨Below.refl _ _, rfl⟩
theorem KpB.trans {n₀ Bs : Nat} {X Y Z : World} (h : KpB n₀ Bs X Y) (k : KpB n₀ Bs Y Z) : KpB n₀ Bs X Z := ⟨h.1.trans k.1, k.2.trans h.2⟩
theorem kpB_turn {n₀ Bs : Nat} {w : World} (hn : n₀ ≤ w.heap.size) (hB : Bs < w.heap.size) (W : World) (l : Nat) (o o' : Obj) (hl : w.heap.size ≤ l) (h : W.heap[l]? = some o) (h1 : o.isCells = false) (h2 : o.isWalk = false) : KpB n₀ Bs W (W.putObj l o') :=
  ⟨belowK_b hn W l o o' hl h h1 h2, World.cell?_of_block (World.putObj_heap_other (by show Bs ≠ l; omega))⟩
abbrev encB (x : Nat × UInt8) : Array Value := #[.int .i64 (x.1 : Int), .int .u8 (x.2.toNat : Int)]

set_option maxRecDepth 100000 in
set_option maxHeartbeats 2000000 in
theorem back1_in (F : Fence) (n : Nat) (hf : F.fn 69) (hro : F.round = none) (hn : 1 ≤ n) (lp Bs n₀ : Nat) (A : Option Addr) (len cap : Nat) (l : List UInt8) (hlen : l.length = len) (hmax : len ≤ 140737488351232) (J Jx : List (Nat × UInt8) → World → Prop)
    (hY : ∀ pre x W, J pre W → pre.length < len → YieldAt F (n - 1) Tryd.prog lp (encB x) W fun e W' =>
      (e = .returned (.bool true) ∧ J (pre ++ [x]) W' ∧ KpB n₀ Bs W W') ∨ (e = .returned (.bool false) ∧ Jx (pre ++ [x]) W'))
    (W : World) (hBs : W.cell? ⟨Bs, 0, none⟩ = some (.slice A len cap)) (hr : Reads W n₀ 1 A len (Lib.byteCells l)) (h0 : J [] W) :
    CallsIn F n Tryd.prog 69 #[.func (.yield lp) #[] #[], .pointer (some ⟨Bs, 0, none⟩)] W fun e W' => (∃ v, e = .returned v) ∧
      ((∃ ys, ys = backs l len ∧ J ys W') ∨ (∃ pre, (∃ k, k ≤ len ∧ pre = backs l k) ∧ Jx pre W')) := by
  refine callsIn_of_wp Tryd.func69 rfl hf ?_ hro
  simp only [Tryd.ntmps69, List.size_toArray, List.length_cons, List.length_nil, Nat.reduceAdd, Nat.reduceSub, Array.replicate_succ, Array.replicate_zero, List.push_toArray, List.append_toArray, List.nil_append, List.cons_append]
  have hw0 : IntKind.i64.wrap ((len : Int) - 1) = (len : Int) - 1 := IntWalk.i64_in _ (by omega)
  gi_wp2
  gi_loopw [3] (fun i wr => ∃ k : Nat, k ≤ len ∧ i = .int .i64 ((len : Int) - 1 - (k : Int)) ∧ J (backs l k) wr ∧ KpB n₀ Bs W wr)
    (fun i _ => (intOf i + 1).toNat)
  case atStart => exact ⟨0, Nat.zero_le _, by simp, h0, KpB.refl _ _ _⟩
  case round =>
    obtain ⟨k, hk, rfl, hJs, hnx⟩ := hrel
    by_cases hlt : k < len
    · obtain ⟨m, hm⟩ : ∃ m : Nat, Hid (m = len - 1 - k) := ⟨_, Lib.hid rfl⟩
      have hmi : (len : Int) - 1 - (k : Int) = (m : Int) := by have := hm.out; omega
      rw [hmi]
      clear hmi
      obtain ⟨ad, rfl, hadb, hcell⟩ := reads_b hr (show m < len by have := hm.out; omega)
      have hcx : wr.cell? (ad.add m) = some (.int .u8 ((l.getD m 0).toNat : Int)) := (hnx.1.cell (p := ad.add m) (by rw [block_of_add]; exact hadb)).trans hcell
      have hBx : wr.cell? ⟨Bs, 0, none⟩ = some (.slice (some ad) len cap) := hnx.2.trans hBs
      obtain ⟨fn, tmps, assign, body, hy, hR⟩ := hY _ (m, l.getD m 0) wr hJs (by rw [backs_length]; exact hlt)
      dsimp only [encB] at hy
      have hml : m < len := by have := hm.out; omega
      have hw1 : IntKind.i64.wrap ((m : Int) - 1) = (m : Int) - 1 := IntWalk.i64_in _ (by omega)
      obtain ⟨b, hb⟩ : ∃ b : UInt8, Hid (b = l.getD m 0) := ⟨_, Lib.hid rfl⟩
      rw [← hb.out] at hcx hy hR
      gi_wp2
      refine hR.mono ?_
      rintro e W3 (⟨rfl, hJ3, hk3⟩ | ⟨rfl, hJx3⟩)
      · gi_wp2
        go_roundw
        case rel =>
          refine ⟨k + 1, by omega, ?_, ?_, hnx.trans hk3⟩
          · congr 1; have := hm.out; omega
          · rw [backs_succ, hlen, ← hm.out, ← hb.out]; exact hJ3
        case measure => simp [intOf]
      · gi_wp2
        refine bodyPost_ret (results_none rfl _ _ _) rfl ?_
        exact ⟨⟨_, rfl⟩, .inr ⟨_, ⟨k + 1, by omega, by rw [backs_succ, hlen, ← hm.out, ← hb.out]⟩, hJx3⟩⟩
    · obtain rfl : k = len := by omega
      have hmi : (k : Int) - 1 - (k : Int) = -1 := by omega
      rw [hmi]
      gi_wp2
      go_end0
      exact ⟨⟨_, rfl⟩, .inl ⟨_, rfl, hJs⟩⟩

set_option maxHeartbeats 1000000 in
theorem back_in (F : Fence) (n : Nat) (hf : F.fn 47) (hro : F.round = none) (a : Option Addr) (len cap : Nat) (w : World) :
    CallsIn F n Tryd.prog 47 #[.slice a len cap] w fun e w' => e = .returned (.func (.func 69) #[] #[.pointer (some ⟨w.heap.size, 0, none⟩)]) ∧ w' = w.alloc (.cells #[.slice a len cap] 22) := by
  refine callsIn_of_wp Tryd.func47 rfl hf ?_ hro
  simp only [Tryd.ntmps47, List.size_toArray, List.length_cons, List.length_nil, Nat.reduceAdd, Nat.reduceSub, Array.replicate_succ, Array.replicate_zero, List.push_toArray, List.append_toArray, List.nil_append, List.cons_append]
  gi_wp2
  go_ret
  exact ⟨rfl, rfl⟩

theorem back_stops (F : Fence) (n : Nat) (hf : F.fn 69) (hro : F.round = none) (hn : 1 ≤ n) (Bs n₀ : Nat) (A : Option Addr) (len cap : Nat) (l : List UInt8) (hlen : l.length = len) (hmax : len ≤ 140737488351232) (w : World) (hB : Bs < w.heap.size) (hn₀ : n₀ ≤ w.heap.size)
    (hc : w.cell? ⟨Bs, 0, none⟩ = some (.slice A len cap)) (hr : Reads w n₀ 1 A len (Lib.byteCells l)) :
    SeqStopsK F n Tryd.prog 69 #[.pointer (some ⟨Bs, 0, none⟩)] encB (KpB n₀ Bs) (fun ys => ys = backs l len) (fun pre => ∃ k, k ≤ len ∧ pre = backs l k) len w := fun lp J Jx W hW _ _ hY h0 => by
  have hW' := hW.mono hn₀
  exact back1_in F n hf hro hn lp Bs n₀ A len cap l hlen hmax J Jx hY W ((hW.cell (p := ⟨Bs, 0, none⟩) hB).trans hc) (hr.below hW') h0
end Go.Proofs.YtjiadbaaggifpaaDoor
end

section
set_option linter.unusedVariables false
set_option linter.unusedSimpArgs false
namespace Go.Proofs.YtjiadbaaggifpaaDoor
open Go Go.Proofs Go.RowKit Go.Shelf F5

attribute [local go_sem] Oper.semAt_some

/-- A number times the bytes, read from the last one on. -/
def foldB (n : Nat) (pre : List (Nat × UInt8)) : Nat := pre.foldl (fun s x => (256 * s + n * x.2.toNat) % LL) 0
theorem foldB_snoc (n : Nat) (pre : List (Nat × UInt8)) (x : Nat × UInt8) : foldB n (pre ++ [x]) = (256 * foldB n pre + n * x.2.toNat) % LL := by simp [foldB]
theorem foldB_lt (n : Nat) (pre : List (Nat × UInt8)) : foldB n pre < LL := by
  rcases List.eq_nil_or_concat pre with rfl | ⟨p, x, rfl⟩
  · exact LL_pos
  · rw [List.concat_eq_append, foldB_snoc]; exact Nat.mod_lt _ LL_pos
theorem foldB_backs (n : Nat) (l : List UInt8) : ∀ k, k ≤ l.length → foldB n (backs l k) = n * bval (l.drop (l.length - k)) % LL
  | 0, _ => by simp [backs, foldB, bval, val]
  | k + 1, h => by
    rw [backs_succ, foldB_snoc, foldB_backs n l k (by omega)]
    obtain ⟨m, hm⟩ : ∃ m, m = l.length - 1 - k := ⟨_, rfl⟩
    have hml : m < l.length := by omega
    rw [show l.length - (k + 1) = m by omega, show l.length - k = m + 1 by omega, ← hm]
    have e : bval (l.drop m) = (l.getD m 0).toNat + 256 * bval (l.drop (m + 1)) := by
      have e1 : l.drop m = l[m] :: l.drop (m + 1) := List.drop_eq_getElem_cons hml
      rw [e1]
      show l[m].toNat + 256 * bval (l.drop (m + 1)) = _
      rw [List.getD_eq_getElem?_getD, List.getElem?_eq_getElem hml]; rfl
    rw [e]
    generalize bval (l.drop (m + 1)) = v
    generalize (l.getD m 0).toNat = x
    rw [Nat.add_mod, Nat.mul_mod, Nat.mod_mod, ← Nat.mul_mod, ← Nat.add_mod]
    congr 1
    rw [Nat.mul_add, Nat.mul_left_comm, Nat.add_comm]

/-- Of a byte the highest j bits are done. -/
def bitS (n s x j : Nat) : Nat := (2 ^ j * s + n * (x / 2 ^ (8 - j))) % LL
theorem bitS_zero (n : Nat) {s x : Nat} (hs : s < LL) (hx : x < 256) : bitS n s x 0 = s := by
  unfold bitS; rw [Nat.div_eq_of_lt (by omega)]; simp [Nat.mod_eq_of_lt hs]
theorem bitS_eight (n s x : Nat) : bitS n s x 8 = (256 * s + n * x) % LL := by simp [bitS]
theorem bitS_lt (n s x j : Nat) : bitS n s x j < LL := Nat.mod_lt _ LL_pos
theorem bitS_step (n s x j : Nat) (hj : j < 8) : bitS n s x (j + 1) = (bitS n s x j + bitS n s x j + n * (x / 2 ^ (7 - j) % 2)) % LL := by
  unfold bitS
  have e : x / 2 ^ (7 - j) = 2 * (x / 2 ^ (8 - j)) + x / 2 ^ (7 - j) % 2 := by
    rw [show 8 - j = (7 - j) + 1 by omega, Nat.pow_succ, ← Nat.div_div_eq_div_mul]; omega
  rw [show 8 - (j + 1) = 7 - j by omega]
  generalize x / 2 ^ (7 - j) % 2 = b at *
  rw [e, Nat.pow_succ]
  generalize x / 2 ^ (8 - j) = y
  generalize 2 ^ j = t
  rw [← Nat.two_mul, Nat.add_mod (2 * _), Nat.mul_mod 2 (_ % LL), Nat.mod_mod, ← Nat.mul_mod, ← Nat.add_mod]
  congr 1
  rw [Nat.mul_add, Nat.mul_add, Nat.mul_comm t 2, Nat.mul_assoc, Nat.mul_left_comm n 2, Nat.add_assoc]

section
variable {F : Fence} {n : Nat} {P : Program} {ops : Array Oper} {rest : List Oper} {o : Oper} {a : Act} {w : World} {Q : Exit → Act → World → Prop}
theorem wpListIn_load_row (hgd : o.guard = none) (ty : TypeId) (x : Operand) (ho : o.op = .load ty x)
    (g : Nat) (hx : a.eval x = .pointer (some ⟨g, 0, none⟩)) (t : TypeId) (cs : Array Value) (d : TypeDesc) (hg : Blk w g t cs)
    (hu : P.underlying ty = some d) (hd : (match d with | .struct _ | .array _ _ => true | _ => false) = true) (hi : (P.info? ty).map (·.size) = some cs.size)
    (h : wpListIn F n P ops Q rest (a.put o.dst (.agg cs)) w) : wpListIn F n P ops Q (o :: rest) a w := by
  refine wpListIn_plain hgd fun K hK' => ?_
  unfold Oper.wpIn
  refine ⟨?_, ?_⟩
  · simp [Oper.about, ho]
  · rw [Oper.semAt_plain F _ _ (by rw [ho]; intro c hc'; cases hc')]
    unfold execOp
    simp only [ho, hx, Instr.loadAt, Instr.sureAddr, Sem.run_bind, Sem.run_pure, Result.andThen_ok, run_loadVar_row w g t ty cs (0, 0) d hg hu hd hi]
    exact hK' _ _ h
theorem wpListIn_store_row (hgd : o.guard = none) (ty : TypeId) (x y : Operand) (ho : o.op = .store ty x y)
    (g : Nat) (cells : Array Value) (hx : a.eval x = .pointer (some ⟨g, 0, none⟩)) (hy : a.eval y = .agg cells)
    (t : TypeId) (old : Array Value) (hg : w.heap[g]? = some (.cells old t (0, 0))) (hi : (P.info? ty).map (·.size) = some cells.size)
    (hold : old.size = cells.size) (h1 : cells.all (·.oneCell') = true)
    (h : wpListIn F n P ops Q rest (a.put o.dst undef) (w.setRow g cells)) : wpListIn F n P ops Q (o :: rest) a w := by
  refine wpListIn_plain hgd fun K hK' => ?_
  unfold Oper.wpIn
  refine ⟨?_, ?_⟩
  · simp [Oper.about, ho]
  · rw [Oper.semAt_plain F _ _ (by rw [ho]; intro c hc'; cases hc')]
    unfold execOp
    simp only [ho, hx, hy, Instr.storeAt, Instr.sureAddr, Sem.run_bind, Sem.run_pure, Result.andThen_ok, run_storeVar_row w g t ty old cells hg hi hold h1]
    exact hK' _ _ h
end

theorem Blk.kept {W W' : World} {row : Option Nat} {g t : Nat} {c : Array Value} (h : Blk W g t c) (hg : W.grownBy W' row) (hr : ∀ r, row = some r → ∃ o : Obj, W.heap[r]? = some o ∧ o.isCells = false) : Blk W' g t c := by
  refine h.grown hg fun e => ?_
  obtain ⟨o, ho, hc⟩ := hr g e.symm
  unfold Blk at h
  rw [h] at ho
  injection ho with ho
  subst ho
  cases hc

theorem OrderAt.grown {w w' : World} {g : Nat} (h : OrderAt w) (hg : w.grownBy w' (some g)) (hne : g ≠ 0) : OrderAt w' :=
  ⟨Nat.lt_of_lt_of_le h.1 hg.size, fun j v hj => (hg.cell_far ⟨0, 0 + j, none⟩ h.1 (fun e => hne (by injection e with e; exact e.symm))).trans (h.2 j v hj)⟩
/-- The bits of a byte, from the highest one. -/
def bitv (j : Nat) : Nat := 128 / 2 ^ j
theorem bitv_eq {j : Nat} (h : j < 8) : bitv j = 2 ^ (7 - j) := by
  unfold bitv
  rw [show (128 : Nat) = 2 ^ 7 from rfl, Nat.pow_div (by omega) (by decide)]
theorem bitv_next (j : Nat) : bitv (j + 1) = bitv j / 2 := by unfold bitv; rw [Nat.pow_succ, Nat.div_div_eq_div_mul]
theorem bitv_pos {j : Nat} (h : j < 8) : 0 < bitv j := by rw [bitv_eq h]; exact Nat.two_pow_pos _
theorem and_bitv : ∀ d : Fin 256, ∀ j : Fin 8, (bits .and .u8 ((d.val : Nat) : Int) ((bitv j.val : Nat) : Int) != 0) = (d.val / 2 ^ (7 - j.val) % 2 == 1) := by decide +kernel
theorem limS_one (n : Nat) : (limS n).all (·.oneCell') = true := u64s_one _
theorem limS_info (n : Nat) : (Tryd.prog.info? 82).map (·.size) = some (limS n).size := su64s_info (digs_length _ _ _)
theorem grown_row (w : World) (g : Nat) (c : Array Value) : w.grownBy (w.setRow g c) (some g) :=
  ⟨rfl, rfl, rfl, by simp, fun k _ hk => setRow_other w g k c (fun e => hk (by rw [e]))⟩

theorem zeros4_lim (n : Nat) : zeros4 = limS (foldB n []) := by
  have e : foldB n [] = 0 := rfl
  rw [e]; rfl

/-- Between two rounds. -/
def STimesAt (n : Nat) (w : World) (pre : List (Nat × UInt8)) (W : World) : Prop :=
  (Blk W w.heap.size 82 (limS n) ∧ Blk W (w.heap.size + 1) 82 zeros4 ∧ Blk W (w.heap.size + 2) 82 (limS (foldB n pre)) ∧ w.heap.size + 3 < W.heap.size) ∧ Below w.heap.size w W
theorem times_own (n : Nat) (w : World) (B : Nat) (hB : w.heap.size ≤ B) : OwnFrom B (STimesAt n w) :=
  OwnFrom.and (Own.from (fun s X Y row hs hg hr => ⟨hs.1.kept hg hr, hs.2.1.kept hg hr, hs.2.2.1.kept hg hr, Nat.lt_of_lt_of_le hs.2.2.2 hg.size⟩) _) (ownFrom_below (Nat.le_refl _) hB)

set_option maxRecDepth 100000 in
set_option maxHeartbeats 4000000 in
theorem stimes_any (n : Nat) (hn : n < LL) (A : Option Addr) (len cap : Nat) (l : List UInt8) (hlen : l.length = len) (hmax : len ≤ 140737488351232) (w : World) (hr : Reads w w.heap.size 1 A len (Lib.byteCells l)) (hO : OrderAt w) :
    Calls Tryd.prog 55 #[.agg (limS n), .slice A len cap] w fun e w' => e = .returned (.agg (limS (n * bval l % LL))) ∧ Below w.heap.size w w' := by
  obtain ⟨cn, hcn⟩ : ∃ c, Hid (c = limS n) := ⟨_, Lib.hid rfl⟩
  rw [← hcn.out]
  refine (callsIn_wide (n := 5)).1 ?_
  refine callsIn_of_wp_marks Tryd.func55 rfl trivial ?_ rfl
  simp only [Tryd.ntmps55, List.size_toArray, List.length_cons, List.length_nil, Nat.reduceAdd, Nat.reduceSub, Array.replicate_succ, Array.replicate_zero, List.push_toArray, List.append_toArray, List.nil_append, List.cons_append]
  gi_wp2_with (refine ⟨trivial, ?_⟩; gi_at_call 47; refine (back_in Fence.wide _ trivial rfl _ _ _ _).mono ?_; rintro e w' ⟨rfl, rfl⟩)
  have b0 := ((Blk.new w 82 cn).alloc (.cells zeros4 82)).alloc (.cells zeros4 82)
  obtain ⟨b1, b2, b3, hb, hsz⟩ := sthree w cn zeros4 zeros4 82 82 82
  have b4 := Blk.new (((w.alloc (.cells cn 82)).alloc (.cells zeros4 82)).alloc (.cells zeros4 82)) 22 #[.slice A len cap]
  have hs3 : (((w.alloc (.cells cn 82)).alloc (.cells zeros4 82)).alloc (.cells zeros4 82)).heap.size = w.heap.size + 1 + 1 + 1 := by simp
  rw [hs3] at b4
  have hs4 : ((((w.alloc (.cells cn 82)).alloc (.cells zeros4 82)).alloc (.cells zeros4 82)).alloc (.cells #[.slice A len cap] 22)).heap.size = w.heap.size + 4 := by simp
  have hb4 : Below w.heap.size w ((((w.alloc (.cells cn 82)).alloc (.cells zeros4 82)).alloc (.cells zeros4 82)).alloc (.cells #[.slice A len cap] 22)) := hb.alloc (by simp; omega) _
  replace b1 := b1.alloc (.cells #[.slice A len cap] 22)
  replace b2 := b2.alloc (.cells #[.slice A len cap] 22)
  replace b3 := b3.alloc (.cells #[.slice A len cap] 22)
  generalize hW : ((((w.alloc (.cells cn 82)).alloc (.cells zeros4 82)).alloc (.cells zeros4 82)).alloc (.cells #[.slice A len cap] 22)) = W0 at *
  clear b0 hb hsz hs3 hW
  refine wpIn_rangeFunc_ownG rfl (by omega) (gf := 69) (lb := #[.pointer (some ⟨w.heap.size + 1 + 1 + 1, 0, none⟩)]) rfl trivial (enters_of Tryd.func69 (by kernel_rfl) rfl)
    (back_stops Fence.wide _ trivial rfl (by omega) (w.heap.size + 1 + 1 + 1) w.heap.size A len cap l hlen hmax W0 (by omega) (by omega) (b4.cell 0) (hr.below hb4)) (fun h k => h.trans k) (kpB_turn (by omega) (by omega)) (Below.refl _ _) (fun _ => rfl)
    (STimesAt n w) (fun _ _ _ => False) (times_own n w _ (by omega)) (fun _ _ _ _ _ hs _ _ => hs)
    ⟨⟨by rw [← hcn.out]; exact b1, b2, by rw [zeros4_lim n] at b3; exact b3, by omega⟩, hb4⟩
    (fun x => { tmps := #[.agg cn, .slice A len cap, .pointer (some ⟨w.heap.size, 0, none⟩), undef, .pointer (some ⟨w.heap.size + 1, 0, none⟩), .pointer (some ⟨w.heap.size + 1 + 1, 0, none⟩), undef, .int .u8 (x.2.toNat : Int), undef, .slice A len cap,
      .func (.func 69) #[] #[.pointer (some ⟨w.heap.size + 1 + 1 + 1, 0, none⟩)], .int .i64 (x.1 : Int), .int .u8 (x.2.toNat : Int), undef, undef, undef, undef, undef, undef, undef, undef, undef, undef, undef, undef, undef, undef, undef], defers := [] }) ?assign ?body ?done ?stop
  case assign =>
    intro l x W K hK
    gi_wp2
    exact hK
  case body =>
    rintro lp pre x W ⟨⟨bn, br, bs, hl3⟩, hB⟩ _
    have hOW := Lib.hid (hO.old hB)
    obtain ⟨s, hs⟩ : ∃ s, Hid (s = foldB n pre) := ⟨_, Lib.hid rfl⟩
    obtain ⟨d, hd⟩ : ∃ d, Hid (d = x.2.toNat) := ⟨_, Lib.hid rfl⟩
    have hsl : Hid (s < LL) := by rw [hs.out]; exact Lib.hid (foldB_lt _ _)
    have hdl : d < 256 := by rw [hd.out]; exact x.2.toNat_lt
    have hlast : Hid (w.heap.size + 1 + 1 + 1 < W.heap.size) := Lib.hid hl3
    rw [← hs.out] at bs
    rw [← hd.out]
    rw [← hcn.out] at bn
    have BN := Lib.hid bn
    have BR := Lib.hid br
    have BS := Lib.hid bs
    have HBW := Lib.hid hB
    clear bn br bs hB b1 b2 b3 b4 hb4
    gi_wp2
    gi_loopw [8] (fun bv wr => ∃ j, j ≤ 8 ∧ bv = .int .u8 ((bitv j : Nat) : Int) ∧ W.grownBy wr (some (w.heap.size + 2)) ∧ Blk wr (w.heap.size + 2) 82 (limS (bitS n s d j))) (fun bv _ => (intOf bv).toNat)
    case atStart => exact ⟨0, by omega, rfl, World.grownBy.refl _ _, by rw [bitS_zero n hsl.out hdl]; exact BS.out⟩
    case round =>
      obtain ⟨j, hj, rfl, hg, hbs⟩ := hrel
      obtain ⟨b, hb⟩ : ∃ b, Hid (b = bitv j) := ⟨_, Lib.hid rfl⟩
      rw [← hb.out]
      by_cases hlt : j < 8
      · have hbp : 0 < b := by rw [hb.out]; exact bitv_pos hlt
        have hb0 : ((b : Int) != 0) = true := by simp; omega
        have hbl : b < 256 := by rw [hb.out, bitv_eq hlt]; exact Nat.lt_of_le_of_lt (Nat.pow_le_pow_right (by decide) (show 7 - j ≤ 7 by omega)) (by decide)
        obtain ⟨v, hv⟩ : ∃ v, Hid (v = bitS n s d j) := ⟨_, Lib.hid rfl⟩
        have hvl : v < LL := by rw [hv.out]; exact bitS_lt _ _ _ _
        obtain ⟨c1, hc1⟩ : ∃ c, Hid (c = limS v) := ⟨_, Lib.hid rfl⟩
        obtain ⟨c2, hc2⟩ : ∃ c, Hid (c = limS ((v + v) % LL)) := ⟨_, Lib.hid rfl⟩
        rw [← hv.out, ← hc1.out] at hbs
        have o1 : Hid ((Tryd.prog.info? 82).map (·.size) = some c1.size) := by rw [hc1.out]; exact Lib.hid (limS_info _)
        have o2 : Hid ((Tryd.prog.info? 82).map (·.size) = some c2.size) := by rw [hc2.out]; exact Lib.hid (limS_info _)
        have p2 : Hid (c2.all (·.oneCell') = true) := by rw [hc2.out]; exact Lib.hid (limS_one _)
        have z2 : Hid (c1.size = c2.size) := by rw [hc1.out, hc2.out, limS_size, limS_size]; exact Lib.hid rfl
        have B1 := Lib.hid hbs
        have hne : w.heap.size + 2 ≠ 0 := by have := hO.1; omega
        have O1 := Lib.hid (hOW.out.grown hg hne)
        have G1 := Lib.hid hg
        have CA1 : Hid (∀ V, OrderAt V → Calls Tryd.prog 56 #[.agg c1, .agg c1] V fun e w' => e = .returned (.agg c2) ∧ Below V.heap.size V w') := by
          rw [hc1.out, hc2.out]; exact Lib.hid fun V hV => sadd_any v v hvl hvl V hV
        clear hbs hg
        gi_wp2_with (refine wpListIn_load_row rfl 82 (.tmp 5) rfl (w.heap.size + 2) rfl 82 c1 _ B1.out Tryd.underlying82 rfl o1.out ?_)
        refine ⟨trivial, ?_⟩
        refine (CallsIn.inRound lp (callsIn_wide.2 (CA1.out _ O1.out))).mono ?_
        rintro e w2 ⟨rfl, hb2⟩
        have B2 := Lib.hid (B1.out.old hb2)
        have G2 := Lib.hid (G1.out.trans (grown_below hb2 (some (w.heap.size + 2))))
        have B3 := Lib.hid (B2.out.row c2)
        have G3 := Lib.hid (G2.out.trans (grown_row w2 (w.heap.size + 2) c2))
        clear hb2
        have hstep := bitS_step n s d j hlt
        rw [← hv.out] at hstep
        have hand := and_bitv ⟨d, hdl⟩ ⟨j, hlt⟩
        simp only [] at hand
        rw [← hb.out] at hand
        have hbn : ((b : Int) / 2) = ((bitv (j + 1) : Nat) : Int) := by rw [bitv_next, ← hb.out]; omega
        have HBN := Lib.hid hbn
        clear hbn
        rcases Nat.mod_two_eq_zero_or_one (d / 2 ^ (7 - j)) with ht | ht
        · have hq : (bits .and .u8 (d : Int) (b : Int) != 0) = false := by rw [hand, ht]; rfl
          rw [ht] at hstep
          simp only [Nat.mul_zero, Nat.add_zero] at hstep
          have hfin : Hid (Blk (w2.setRow (w.heap.size + 2) c2) (w.heap.size + 2) 82 (limS (bitS n s d (j + 1)))) := by rw [hstep, ← hc2.out]; exact B3
          clear hand ht hstep
          gi_wp2_with (refine wpListIn_store_row rfl 82 (.tmp 5) (.tmp 19) rfl (w.heap.size + 2) c2 rfl rfl 82 _ B2.out o2.out z2.out p2.out ?_)
          refine ⟨⟨j + 1, by omega, by rw [HBN.out], G3.out, hfin.out⟩, ?_⟩
          simp [intOf]; omega
        · have hq : (bits .and .u8 (d : Int) (b : Int) != 0) = true := by rw [hand, ht]; rfl
          rw [ht, Nat.mul_one] at hstep
          obtain ⟨v2, hv2⟩ : ∃ v2, Hid (v2 = (v + v) % LL) := ⟨_, Lib.hid rfl⟩
          have hv2l : v2 < LL := by rw [hv2.out]; exact Nat.mod_lt _ LL_pos
          obtain ⟨c3, hc3⟩ : ∃ c, Hid (c = limS ((v2 + n) % LL)) := ⟨_, Lib.hid rfl⟩
          have hst3 : Hid (c3 = limS (bitS n s d (j + 1))) := by rw [hc3.out, hstep, hv2.out, Nat.mod_add_mod]; exact Lib.hid rfl
          rw [← hv2.out] at hc2
          have o3 : Hid ((Tryd.prog.info? 82).map (·.size) = some c3.size) := by rw [hc3.out]; exact Lib.hid (limS_info _)
          have on : Hid ((Tryd.prog.info? 82).map (·.size) = some cn.size) := by rw [hcn.out]; exact Lib.hid (limS_info _)
          have p3 : Hid (c3.all (·.oneCell') = true) := by rw [hc3.out]; exact Lib.hid (limS_one _)
          have z3 : Hid (c2.size = c3.size) := by rw [hc2.out, hc3.out, limS_size, limS_size]; exact Lib.hid rfl
          have O3 := Lib.hid (hOW.out.grown G3.out hne)
          have BN3 := Lib.hid (BN.out.grown G3.out (fun e => by injection e with e; omega))
          have CA2 : Hid (∀ V, OrderAt V → Calls Tryd.prog 56 #[.agg c2, .agg cn] V fun e w' => e = .returned (.agg c3) ∧ Below V.heap.size V w') := by
            rw [hc2.out, hc3.out, hcn.out]; exact Lib.hid fun V hV => sadd_any v2 n hv2l hn V hV
          clear hand ht hstep
          gi_wp2_with (first | (refine wpListIn_store_row rfl 82 (.tmp 5) (.tmp 19) rfl (w.heap.size + 2) c2 rfl rfl 82 _ B2.out o2.out z2.out p2.out ?_) |
            (refine wpListIn_load_row rfl 82 (.tmp 5) rfl (w.heap.size + 2) rfl 82 c2 _ B3.out Tryd.underlying82 rfl o2.out ?_) |
            (refine wpListIn_load_row rfl 82 (.tmp 2) rfl w.heap.size rfl 82 cn _ BN3.out Tryd.underlying82 rfl on.out ?_))
          refine ⟨trivial, ?_⟩
          refine (CallsIn.inRound lp (callsIn_wide.2 (CA2.out _ O3.out))).mono ?_
          rintro e w4 ⟨rfl, hb4⟩
          have B4 := Lib.hid (B3.out.old hb4)
          have G4 := Lib.hid (G3.out.trans (grown_below hb4 (some (w.heap.size + 2))))
          have B5 := Lib.hid (B4.out.row c3)
          have G5 := Lib.hid (G4.out.trans (grown_row w4 (w.heap.size + 2) c3))
          clear hb4
          gi_wp2_with (refine wpListIn_store_row rfl 82 (.tmp 5) (.tmp 26) rfl (w.heap.size + 2) c3 rfl rfl 82 _ B4.out o3.out z3.out p3.out ?_)
          refine ⟨⟨j + 1, by omega, by rw [HBN.out], G5.out, by rw [← hst3.out]; exact B5.out⟩, ?_⟩
          simp [intOf]; omega
      · obtain rfl : j = 8 := by omega
        have hb0 : b = 0 := by rw [hb.out]; rfl
        subst hb0
        have hfin : Hid (KeepsFrom W0.heap.size W wr ∧ KpB w.heap.size (w.heap.size + 1 + 1 + 1) W wr ∧ STimesAt n w (pre ++ [x]) wr) := by
          refine Lib.hid ⟨KeepsFrom.of_grownBy hg (fun k e => by injection e with e; omega), ⟨(Below.refl _ W).grown hg HBW.out.size (fun k e => by injection e with e; omega), World.cell?_of_block (hg.block _ ?_ (fun e => by injection e with e; simp at e))⟩, ⟨?_, ?_, ?_, Nat.lt_of_lt_of_le hlast.out hg.size⟩, HBW.out.grown hg HBW.out.size (fun k e => by injection e with e; omega)⟩
          · exact hlast.out
          · rw [← hcn.out]; exact BN.out.grown hg (fun e => by injection e with e; omega)
          · exact BR.out.grown hg (fun e => by injection e with e; omega)
          · rw [foldB_snoc, ← hs.out, ← hd.out, ← bitS_eight]; exact hbs
        clear hg hbs
        gi_wp2
        exact hfin.out
  case done =>
    rintro D ys W hD rfl ⟨⟨bn, br, bs, hl3⟩, hB⟩ hK
    obtain ⟨R, hR⟩ : ∃ R, Hid (R = limS (n * bval l % LL)) := ⟨_, Lib.hid rfl⟩
    rw [foldB_backs n l len (by omega), hlen, Nat.sub_self, List.drop_zero, ← hR.out] at bs
    have BR := Lib.hid br
    have BS := Lib.hid bs
    have oR : Hid ((Tryd.prog.info? 82).map (·.size) = some R.size) := by rw [hR.out]; exact Lib.hid (limS_info _)
    have pR : Hid (R.all (·.oneCell') = true) := by rw [hR.out]; exact Lib.hid (limS_one _)
    have zR : Hid (zeros4.size = R.size) := by rw [hR.out, limS_size]; exact Lib.hid rfl
    have hK' : Hid ((W.setRow (w.heap.size + 1) R).heap[D]? = some (.deferred (some []))) := Lib.hid ((setRow_other W (w.heap.size + 1) D R (by omega)).trans hK)
    have HB := Lib.hid (below_row hB (show w.heap.size ≤ w.heap.size + 1 by omega) R)
    clear bn br bs hB hK
    gi_wp2_with (first | (refine wpListIn_load_row rfl 82 (.tmp 5) rfl (w.heap.size + 2) rfl 82 R _ BS.out Tryd.underlying82 rfl oR.out ?_) |
      (refine wpListIn_store_row rfl 82 (.tmp 4) (.tmp 27) rfl (w.heap.size + 1) R rfl rfl 82 _ BR.out oR.out zR.out pR.out ?_))
    refine ⟨by simp, .inl ⟨_, _, rfl, run_takeDeferred hK'.out, ?_⟩⟩
    have hB5 := (BR.out.row R).kept (grownBy_putObj' _ D (.deferred none)) (fun r e => by cases e; exact ⟨_, hK'.out, rfl⟩)
    refine ⟨.agg R, results_cell_row Tryd.results55 _ _ (w.heap.size + 1) 82 R (0, 0) _ rfl hB5 Tryd.underlying82 rfl oR.out, by rw [hR.out], ?_⟩
    exact HB.out.trans (belowK_b (w := w) (Nat.le_refl _) _ D _ _ (by omega) hK'.out rfl rfl)
  case stop =>
    rintro D c pre W _ _ h _
    exact h.elim
end Go.Proofs.YtjiadbaaggifpaaDoor
end

section
set_option linter.unusedVariables false
set_option linter.unusedSimpArgs false
namespace Go.Proofs.YtjiadbaaggifpaaDoor
open Go Go.Proofs Go.RowKit Go.Shelf F5

attribute [local go_sem] Oper.semAt_some

theorem quiet_shr {o : Oper} {ev : Operand → Value} {V : World} (x : Operand) (U : TypeId) (d : Nat) (hd : d < 256) (hx : ev x = .int .u8 (d : Int)) (ho : o.op = .binOp .shr 5 x (.const (.int .u64 4)) U) (hc : ev (.const (.int .u64 4)) = .int .u64 4) : (execOp ev o).run Tryd.prog V = .ok (.value (.int .u8 ((d / 16 : Nat) : Int))) V := by
  unfold execOp
  simp only [ho, hx, hc]
  go_simp
theorem quiet_rem {o : Oper} {ev : Operand → Value} {V : World} (x : Operand) (U : TypeId) (d : Nat) (hd : d < 256) (hx : ev x = .int .u8 (d : Int)) (ho : o.op = .binOp .rem 5 x (.const (.int .u8 16)) U) (hc : ev (.const (.int .u8 16)) = .int .u8 16) : (execOp ev o).run Tryd.prog V = .ok (.value (.int .u8 ((d % 16 : Nat) : Int))) V := by
  unfold execOp
  simp only [ho, hx, hc]
  go_simp
  rw [Int.tmod_eq_emod_of_nonneg (by omega)]
/-- The number of the bytes, read from the last one on. -/
def foldQ (pre : List (Nat × UInt8)) : Nat := pre.foldl (fun s x => 256 * s + x.2.toNat) 0
theorem foldQ_snoc (pre : List (Nat × UInt8)) (x : Nat × UInt8) : foldQ (pre ++ [x]) = 256 * foldQ pre + x.2.toNat := by simp [foldQ]
theorem foldQ_backs (l : List UInt8) : ∀ k, k ≤ l.length → foldQ (backs l k) = bval (l.drop (l.length - k))
  | 0, _ => by simp [backs, foldQ, bval, val]
  | k + 1, h => by
    rw [backs_succ, foldQ_snoc, foldQ_backs l k (by omega)]
    obtain ⟨m, hm⟩ : ∃ m, m = l.length - 1 - k := ⟨_, rfl⟩
    have hml : m < l.length := by omega
    rw [show l.length - (k + 1) = m by omega, show l.length - k = m + 1 by omega, ← hm]
    have e1 : l.drop m = l[m] :: l.drop (m + 1) := List.drop_eq_getElem_cons hml
    rw [e1]
    show _ = l[m].toNat + 256 * bval (l.drop (m + 1))
    rw [List.getD_eq_getElem?_getD, List.getElem?_eq_getElem hml, Nat.add_comm]; rfl
theorem nib {N d : Nat} : 16 * (16 * N + d / 16) + d % 16 = 256 * N + d := by omega

/-- Between two rounds. -/
def RoundAt (p : Pt) (w : World) (z fw : Array Value) (g5 g6 gB : Nat) (pre : List (Nat × UInt8)) (W : World) : Prop :=
  (Blk W (w.heap.size + 2) 30 z ∧ Blk W g5 74 fw ∧ (∃ s, PU (pmul (foldQ pre) p) s ∧ Blk W g6 30 s) ∧ gB < W.heap.size) ∧ Below w.heap.size w W
theorem round_own (p : Pt) (w : World) (z fw : Array Value) (g5 g6 gB B : Nat) (hB : w.heap.size ≤ B) : OwnFrom B (RoundAt p w z fw g5 g6 gB) :=
  OwnFrom.and (Own.from (fun pre X Y row hs hg hr => ⟨hs.1.kept hg hr, hs.2.1.kept hg hr, (let ⟨s, h1, h2⟩ := hs.2.2.1; ⟨s, h1, h2.kept hg hr⟩), Nat.lt_of_lt_of_le hs.2.2.2 hg.size⟩) _) (ownFrom_below (Nat.le_refl _) hB)

set_option maxRecDepth 100000 in
set_option maxHeartbeats 8000000 in
theorem timesPU {p : Pt} {A : Array Value} (hp : PU p A) (v : Nat) (hv : v < 2 ^ 256) (w : World) (hP : PrimeAt w) :
    Calls Tryd.prog 21 #[.agg A, .agg (bytesA (fbytes v))] w fun e w' => ∃ o, e = .returned (.agg o) ∧ PU (pmul v p) o ∧ Below w.heap.size w w' := by
  have HA := Lib.hid hp
  have oA := Lib.hid hp.ok
  have HP := Lib.hid hP
  have HV := Lib.hid hv
  obtain ⟨nb, hnb⟩ : ∃ c, Hid (c = bytesA (fbytes v)) := ⟨_, Lib.hid rfl⟩
  obtain ⟨z, hz⟩ : ∃ z, Hid (z = uV 0 0 0) := ⟨_, Lib.hid rfl⟩
  have hz0 : ∀ W, (zeroValue 30).run Tryd.prog W = .ok (.agg z) W := by rw [hz.out]; exact zeroU
  have ok : Hid (∀ {q : Pt} {b : Array Value}, PU q b → (Tryd.prog.info? 30).map (·.size) = some b.size ∧ b.all (·.oneCell') = true ∧ z.size = b.size) := by rw [hz.out]; exact Lib.hid PU.ok
  obtain ⟨zf, hzf⟩ : ∃ z : Array Value, Hid (z = Array.replicate 192 (.int .u64 0)) := ⟨_, Lib.hid rfl⟩
  have hzf0 : ∀ W, (zeroValue 74).run Tryd.prog W = .ok (.agg zf) W := by rw [hzf.out]; exact zero16P
  have zfs : Hid (zf.size = 192) := Lib.hid (by rw [hzf.out]; simp)
  obtain ⟨b1, b2, b3, hb⟩ := three_blksT w A nb z 30 40 30
  rw [← hnb.out]
  clear hz hzf hp hP hv
  refine (callsIn_wide (n := 5)).1 ?_
  refine callsIn_of_wp_marks Tryd.func21 rfl trivial ?_ rfl
  simp only [Tryd.ntmps21, List.size_toArray, List.length_cons, List.length_nil, Nat.reduceAdd, Nat.reduceSub, Array.replicate_succ, Array.replicate_zero, List.push_toArray, List.append_toArray, List.nil_append, List.cons_append]
  gi_upto_region 1 with fail
  generalize ((w.alloc (.cells A 30)).alloc (.cells nb 40)).alloc (.cells z 30) = W at *
  have P1 := Lib.hid b1
  have NB := Lib.hid b2
  have XR := Lib.hid b3
  have HB := Lib.hid hb
  clear b1 b2 b3 hb
  gi_upto_region 2 with (refine wpListIn_load_row rfl 30 (.tmp 2) rfl w.heap.size rfl 30 A _ P1.out Tryd.underlying30 rfl oA.out.1 ?_)
  refine ⟨trivial, ?_⟩
  refine (callsIn_wide.2 (fewPU HA.out W (HP.out.old HB.out))).mono ?_
  rintro e w1 ⟨fw, rfl, hfw, hb1⟩
  have oF := Lib.hid hfw.info
  have sF : Hid (zf.size = fw.size) := Lib.hid (by rw [zfs.out, hfw.1])
  have HFW := Lib.hid hfw
  have L5 := Lib.hid (show w.heap.size + 2 < w1.heap.size from Nat.lt_of_lt_of_le XR.out.lt hb1.size)
  have NB := Lib.hid ((NB.out.old hb1).alloc (.cells fw 74))
  have XR := Lib.hid ((XR.out.old hb1).alloc (.cells fw 74))
  have HB := Lib.hid ((HB.out.trans (hb1.mono HB.out.size)).alloc (HB.out.trans (hb1.mono HB.out.size)).size (.cells fw 74))
  have FW := Lib.hid (Blk.new w1 74 fw)
  clear hfw hb1 P1
  gi_upto_region 2 with (refine wpListIn_store_row rfl 74 (.tmp 5) (.tmp 10) rfl w1.heap.size fw rfl rfl 74 zf (heap_alloc_new w1 _) oF.out.1 sF.out oF.out.2 ?_; rw [setRow_alloc1])
  generalize w1.alloc (.cells fw 74) = W1 at *
  generalize w1.heap.size = g5 at *
  gi_upto_region 3 with fail
  refine ⟨trivial, ?_⟩
  refine (callsIn_wide.2 (zeroPU W1)).mono ?_
  rintro e w2 ⟨s0, rfl, hs0, hb1⟩
  have oS := Lib.hid (ok.out hs0)
  have HS := Lib.hid hs0
  have L6 := Lib.hid (show g5 < w2.heap.size from Nat.lt_of_lt_of_le FW.out.lt hb1.size)
  have NB := Lib.hid ((NB.out.old hb1).alloc (.cells s0 30))
  have XR := Lib.hid ((XR.out.old hb1).alloc (.cells s0 30))
  have FW := Lib.hid ((FW.out.old hb1).alloc (.cells s0 30))
  have HB := Lib.hid ((HB.out.trans (hb1.mono HB.out.size)).alloc (HB.out.trans (hb1.mono HB.out.size)).size (.cells s0 30))
  have SM := Lib.hid (Blk.new w2 30 s0)
  clear hs0 hb1
  gi_upto_region 3 with (refine wpListIn_store_row rfl 30 (.tmp 6) (.tmp 11) rfl w2.heap.size s0 rfl rfl 30 z (heap_alloc_new w2 _) oS.out.1 oS.out.2.2 oS.out.2.1 ?_; rw [setRow_alloc1])
  generalize w2.alloc (.cells s0 30) = W2 at *
  generalize w2.heap.size = g6 at *
  have hsl := slice32 (w.heap.size + 1)
  have hr2 : Hid (Reads W2 g6 1 (some ⟨w.heap.size + 1, 0, none⟩) 32 (Lib.byteCells (fbytes v))) := Lib.hid (by
    have := NB.out
    rw [hnb.out] at this
    have := reads_blk this
    rw [fbytes_length] at this
    refine ⟨this.1, fun h => ?_⟩
    obtain ⟨ad, h1, h2, h3⟩ := this.2 h
    exact ⟨ad, h1, by cases h1; have := L5.out; have := L6.out; show w.heap.size + 1 < g6; omega, h3⟩)
  have hW3 : (W2.alloc (.cells #[.slice (some ⟨w.heap.size + 1, 0, none⟩) 32 32] 22)).heap.size = W2.heap.size + 1 := by simp
  have hb4 : Below W2.heap.size W2 (W2.alloc (.cells #[.slice (some ⟨w.heap.size + 1, 0, none⟩) 32 32] 22)) := (Below.refl _ _).alloc (Nat.le_refl _) _
  have c4 := Blk.new W2 22 #[.slice (some ⟨w.heap.size + 1, 0, none⟩) 32 32]
  have XR := Lib.hid (XR.out.old hb4)
  have FW := Lib.hid (FW.out.old hb4)
  have gl6 : g6 < W2.heap.size := SM.out.lt
  have SM := Lib.hid (SM.out.old hb4)
  have HB := Lib.hid (HB.out.trans (hb4.mono HB.out.size))
  have hr3 := Lib.hid (hr2.out.below (hb4.mono (Nat.le_of_lt gl6)))
  gi_wp2_with (refine ⟨trivial, ?_⟩; gi_at_call 47; refine (back_in Fence.wide _ trivial rfl _ _ _ _).mono ?_; rintro e w' ⟨rfl, rfl⟩)
  generalize W2.alloc (.cells #[.slice (some ⟨w.heap.size + 1, 0, none⟩) 32 32] 22) = W3 at *
  generalize W2.heap.size = gB at *
  clear hb4 hr2
  have GT := Lib.hid (show g6 < W3.heap.size by omega)
  refine wpIn_rangeFunc_ownG rfl (by omega) (gf := 69) (lb := #[.pointer (some ⟨gB, 0, none⟩)]) rfl trivial (enters_of Tryd.func69 (by kernel_rfl) rfl)
    (back_stops Fence.wide _ trivial rfl (by omega) gB g6 (some ⟨w.heap.size + 1, 0, none⟩) 32 32 (fbytes v) (fbytes_length v) (by omega) W3 (by omega) (by omega) (c4.cell 0) hr3.out) (fun h k => h.trans k) (kpB_turn (by omega) (by omega)) (Below.refl _ _) (fun _ => rfl)
    (RoundAt p w z fw g5 g6 gB) (fun _ _ _ => False) (round_own p w z fw g5 g6 gB _ HB.out.size) (fun _ _ _ _ _ hs _ _ => hs)
    ⟨⟨XR.out, FW.out, ⟨s0, HS.out, SM.out⟩, by omega⟩, HB.out⟩
    (fun x => { tmps := #[.agg A, .agg nb, .pointer (some ⟨w.heap.size, 0, none⟩), .pointer (some ⟨w.heap.size + 1, 0, none⟩), .pointer (some ⟨w.heap.size + 1 + 1, 0, none⟩), .pointer (some ⟨g5, 0, none⟩), .pointer (some ⟨g6, 0, none⟩), undef, .int .u8 (x.2.toNat : Int), .agg A, .agg fw, .agg s0, .slice (some ⟨w.heap.size + 1, 0, none⟩) 32 32, .func (.func 69) #[] #[.pointer (some ⟨gB, 0, none⟩)], .int .i64 (x.1 : Int), .int .u8 (x.2.toNat : Int), undef, undef, undef, undef, undef, undef, undef, undef, undef, undef, undef, undef, undef, undef, undef], defers := [] }) ?assign ?body ?done ?stop
  case assign =>
    intro l x W K hK
    gi_wp2
    exact hK
  case body =>
    rintro lp pre x W ⟨⟨bz, bf, ⟨s, hs, bs⟩, hgB⟩, hB⟩ _
    obtain ⟨d, hd⟩ : ∃ d, Hid (d = x.2.toNat) := ⟨_, Lib.hid rfl⟩
    have hdl : d < 256 := by rw [hd.out]; exact x.2.toNat_lt
    obtain ⟨N, hN⟩ : ∃ N, Hid (N = foldQ pre) := ⟨_, Lib.hid rfl⟩
    rw [← hd.out]
    rw [← hN.out] at hs
    have hhi : d / 16 < 16 := by omega
    have hlo : d % 16 < 16 := Nat.mod_lt _ (by decide)
    obtain ⟨xh, hxh, hch⟩ := HFW.out.2.2 (d / 16) (by omega)
    obtain ⟨xl, hxl, hcl⟩ := HFW.out.2.2 (d % 16) (by omega)
    obtain ⟨s1, hs1, cs1⟩ := doubledDet hs 4 (by omega)
    obtain ⟨s2, hs2, cs2⟩ := addDet hs1 hxh
    obtain ⟨s3, hs3, cs3⟩ := doubledDet hs2 4 (by omega)
    obtain ⟨s4, hs4, cs4⟩ := addDet hs3 hxl
    have C1 : Hid (∀ V, PrimeAt V → Calls Tryd.prog 48 #[.agg s, .int .i64 4] V fun e w' => e = .returned (.agg s1) ∧ Below V.heap.size V w') := Lib.hid cs1
    have C2 := Lib.hid cs2
    have C3 : Hid (∀ V, PrimeAt V → Calls Tryd.prog 48 #[.agg s2, .int .i64 4] V fun e w' => e = .returned (.agg s3) ∧ Below V.heap.size V w') := Lib.hid cs3
    have C4 := Lib.hid cs4
    have oS := Lib.hid (ok.out hs)
    have oH := Lib.hid (ok.out hxh)
    have oL := Lib.hid (ok.out hxl)
    have o2 := Lib.hid (ok.out hs2)
    have o4 := Lib.hid (ok.out hs4)
    have z2 : Hid (s.size = s2.size) := Lib.hid (oS.out.2.2.symm.trans o2.out.2.2)
    have z4 : Hid (s2.size = s4.size) := Lib.hid (o2.out.2.2.symm.trans o4.out.2.2)
    have HP4 : Hid (PU (pmul (foldQ (pre ++ [x])) p) s4) := Lib.hid (by
      rw [foldQ_snoc, ← hN.out, ← hd.out, ← nib (N := N) (d := d), pmul_add, Nat.mul_comm 16 (16 * N + d / 16), pmul_mul, pmul_add, Nat.mul_comm 16 N, pmul_mul]
      exact hs4)
    have HCH := Lib.hid hch
    have HCL := Lib.hid hcl
    have FW := Lib.hid bf
    have XZ := Lib.hid bz
    have SM := Lib.hid bs
    have HB := Lib.hid hB
    have GB := Lib.hid hgB
    clear bz bf bs hB hgB hs hs1 hs2 hs3 hs4 hxh hxl hch hcl cs1 cs2 cs3 cs4 hr3 c4 hW3
    gi_upto_region 5 with fail
    (try simp only [Act.put, List.setIfInBounds_toArray, List.set_cons_zero, List.set_cons_succ])
    have PV : Hid (∀ V, Below W.heap.size W V → PrimeAt V) := Lib.hid fun V hV => HP.out.old (HB.out.trans (hV.mono HB.out.size))
    have DD21 : Hid (∀ V, Below W.heap.size W V → Below W.heap.size W V) := Lib.hid fun _ h => h
    refine wp_schedIn [(16, .is (.agg s)), (17, .is (.agg s1)), (18, .is (.int .u8 (d : Int))), (19, .is (.int .u8 ((d / 16 : Nat) : Int))), (20, .is (.pointer (some ⟨g5, 12 * (d / 16), none⟩))), (21, .is (.agg xh)), (22, .is (.agg s2))] (fun V => Below W.heap.size W V) (by kernel_rfl) (by kernel_rfl) (by kernel_rfl) (by kernel_rfl) (by kernel_rfl) DD21.out ?hg21 _ (by rfl) ?hf21
    case hg21 =>
      refine goods_is (by kernel_rfl) (fun a V h hS K Q hK => op_quiet (quiet_load_row 30 (.tmp 6) _ (look_at h 6 (by kernel_rfl) (by kernel_rfl)) 30 s _ (SM.out.old hS) Tryd.underlying30 rfl oS.out.1 (by kernel_rfl)) hK) ?_
      refine goods_is (by kernel_rfl) (fun a V h hS K Q hK => op_callK #[.tmp 16, .const (.int .i64 4)] #[.agg s, .int .i64 4] (by kernel_rfl) (by kernel_rfl) (by kernel_rfl) (map2 (look_at h 16 (by kernel_rfl) (by kernel_rfl)) rfl) (C1.out V (PV.out V hS)) (by kernel_rfl) hK) ?_
      refine goods_is (by kernel_rfl) (fun a V h hS K Q hK => op_quiet (quiet_move (.tmp 8) (look_at h 8 (by kernel_rfl) (by kernel_rfl)) (.inl (by kernel_rfl))) hK) ?_
      refine goods_is (by kernel_rfl) (fun a V h hS K Q hK => op_quiet (quiet_shr (.tmp 18) 80 d hdl (look_at h 18 (by kernel_rfl) (by kernel_rfl)) (by kernel_rfl) rfl) hK) ?_
      refine goods_is (by kernel_rfl) (fun a V h hS K Q hK => op_quiet (quiet_index _ (.tmp 5) (.tmp 19) _ _ _ (look_at h 5 (by kernel_rfl) (by kernel_rfl)) (look_at h 19 (by kernel_rfl) (by kernel_rfl)) (ix16b g5 _ hhi) (by kernel_rfl)) hK) ?_
      refine goods_is (by kernel_rfl) (fun a V h hS K Q hK => op_quiet (quiet_load_off 30 (.tmp 20) _ _ (look_at h 20 (by kernel_rfl) (by kernel_rfl)) xh _ (fun j v hj => ((FW.out.old hS).cell _).trans (HCH.out j v hj)) Tryd.underlying30 rfl oH.out.1 (by kernel_rfl)) hK) ?_
      refine goods_is (by kernel_rfl) (fun a V h hS K Q hK => op_callK #[.tmp 17, .tmp 21] #[.agg s1, .agg xh] (by kernel_rfl) (by kernel_rfl) (by kernel_rfl) (map2 (look_at h 17 (by kernel_rfl) (by kernel_rfl)) (look_at h 21 (by kernel_rfl) (by kernel_rfl))) (C2.out V (PV.out V hS)) (by kernel_rfl) hK) ?_
      exact goods_nil
    case hf21 =>
    intro g V hF
    have hbf := hF.below
    clear hF
    simp only [finL, Pl.val, List.setIfInBounds_toArray, List.set_cons_zero, List.set_cons_succ]
    have SV := Lib.hid (SM.out.old hbf)
    have FN := Lib.hid ((FW.out.old hbf).rowFar (Nat.ne_of_lt L6.out) s2)
    have ZN := Lib.hid ((XZ.out.old hbf).rowFar (show w.heap.size + 2 ≠ g6 by have := L5.out; have := L6.out; omega) s2)
    have SN := Lib.hid (SV.out.row s2)
    have GN := Lib.hid ((grown_below hbf (some g6)).trans (grown_row V g6 s2))
    have HN2 := Lib.hid (below_row (g := g6) (HB.out.trans (hbf.mono HB.out.size)) (show w.heap.size ≤ g6 by have := L5.out; have := L6.out; omega) s2)
    clear hbf PV DD21
    refine wpListIn_store_row rfl 30 (.tmp 6) (.tmp 22) rfl g6 s2 rfl rfl 30 s SV.out o2.out.1 z2.out o2.out.2.1 ?_
    generalize V.setRow g6 s2 = W4 at *
    gi_upto_region 6 with fail
    (try simp only [Act.put, List.setIfInBounds_toArray, List.set_cons_zero, List.set_cons_succ])
    have PV : Hid (∀ V, Below W4.heap.size W4 V → PrimeAt V) := Lib.hid fun V hV => HP.out.old (HN2.out.trans (hV.mono HN2.out.size))
    have DD22 : Hid (∀ V, Below W4.heap.size W4 V → Below W4.heap.size W4 V) := Lib.hid fun _ h => h
    refine wp_schedIn [(23, .is (.agg s2)), (24, .is (.agg s3)), (25, .is (.int .u8 (d : Int))), (26, .is (.int .u8 ((d % 16 : Nat) : Int))), (27, .is (.pointer (some ⟨g5, 12 * (d % 16), none⟩))), (28, .is (.agg xl)), (29, .is (.agg s4))] (fun V => Below W4.heap.size W4 V) (by kernel_rfl) (by kernel_rfl) (by kernel_rfl) (by kernel_rfl) (by kernel_rfl) DD22.out ?hg22 _ (by rfl) ?hf22
    case hg22 =>
      refine goods_is (by kernel_rfl) (fun a V h hS K Q hK => op_quiet (quiet_load_row 30 (.tmp 6) _ (look_at h 6 (by kernel_rfl) (by kernel_rfl)) 30 s2 _ (SN.out.old hS) Tryd.underlying30 rfl o2.out.1 (by kernel_rfl)) hK) ?_
      refine goods_is (by kernel_rfl) (fun a V h hS K Q hK => op_callK #[.tmp 23, .const (.int .i64 4)] #[.agg s2, .int .i64 4] (by kernel_rfl) (by kernel_rfl) (by kernel_rfl) (map2 (look_at h 23 (by kernel_rfl) (by kernel_rfl)) rfl) (C3.out V (PV.out V hS)) (by kernel_rfl) hK) ?_
      refine goods_is (by kernel_rfl) (fun a V h hS K Q hK => op_quiet (quiet_move (.tmp 8) (look_at h 8 (by kernel_rfl) (by kernel_rfl)) (.inl (by kernel_rfl))) hK) ?_
      refine goods_is (by kernel_rfl) (fun a V h hS K Q hK => op_quiet (quiet_rem (.tmp 25) 5 d hdl (look_at h 25 (by kernel_rfl) (by kernel_rfl)) (by kernel_rfl) rfl) hK) ?_
      refine goods_is (by kernel_rfl) (fun a V h hS K Q hK => op_quiet (quiet_index _ (.tmp 5) (.tmp 26) _ _ _ (look_at h 5 (by kernel_rfl) (by kernel_rfl)) (look_at h 26 (by kernel_rfl) (by kernel_rfl)) (ix16b g5 _ hlo) (by kernel_rfl)) hK) ?_
      refine goods_is (by kernel_rfl) (fun a V h hS K Q hK => op_quiet (quiet_load_off 30 (.tmp 27) _ _ (look_at h 27 (by kernel_rfl) (by kernel_rfl)) xl _ (fun j v hj => ((FN.out.old hS).cell _).trans (HCL.out j v hj)) Tryd.underlying30 rfl oL.out.1 (by kernel_rfl)) hK) ?_
      refine goods_is (by kernel_rfl) (fun a V h hS K Q hK => op_callK #[.tmp 24, .tmp 28] #[.agg s3, .agg xl] (by kernel_rfl) (by kernel_rfl) (by kernel_rfl) (map2 (look_at h 24 (by kernel_rfl) (by kernel_rfl)) (look_at h 28 (by kernel_rfl) (by kernel_rfl))) (C4.out V (PV.out V hS)) (by kernel_rfl) hK) ?_
      exact goods_nil
    case hf22 =>
    intro g V hF
    have hbf := hF.below
    clear hF
    simp only [finL, Pl.val, List.setIfInBounds_toArray, List.set_cons_zero, List.set_cons_succ]
    have SV2 := Lib.hid (SN.out.old hbf)
    have FN2 := Lib.hid ((FN.out.old hbf).rowFar (Nat.ne_of_lt L6.out) s4)
    have ZN2 := Lib.hid ((ZN.out.old hbf).rowFar (show w.heap.size + 2 ≠ g6 by have := L5.out; have := L6.out; omega) s4)
    have SN2 := Lib.hid (SV2.out.row s4)
    have GN2 := Lib.hid (GN.out.trans ((grown_below hbf (some g6)).trans (grown_row V g6 s4)))
    have HN3 := Lib.hid (below_row (g := g6) (HN2.out.trans (hbf.mono HN2.out.size)) (show w.heap.size ≤ g6 by have := L5.out; have := L6.out; omega) s4)
    clear hbf PV DD22
    refine wpListIn_store_row rfl 30 (.tmp 6) (.tmp 29) rfl g6 s4 rfl rfl 30 s2 SV2.out o4.out.1 z4.out o4.out.2.1 ?_
    have hfin : Hid (KeepsFrom W3.heap.size W (V.setRow g6 s4) ∧ KpB g6 gB W (V.setRow g6 s4) ∧ RoundAt p w z fw g5 g6 gB (pre ++ [x]) (V.setRow g6 s4)) := by
      have hlt3 : g6 < W3.heap.size := GT.out
      refine Lib.hid ⟨KeepsFrom.of_grownBy GN2.out (fun k e => by injection e with e; omega), ⟨?_, World.cell?_of_block (GN2.out.block _ GB.out (fun e => by injection e with e; exact absurd e (Nat.ne_of_gt gl6)))⟩, ⟨ZN2.out, FN2.out, ⟨s4, HP4.out, SN2.out⟩, Nat.lt_of_lt_of_le GB.out GN2.out.size⟩, HN3.out⟩
      have hgW : g6 ≤ W.heap.size := Nat.le_of_lt SM.out.lt
      exact (Below.refl g6 W).grown GN2.out hgW (fun k e => by injection e with e; omega)
    generalize V.setRow g6 s4 = W5 at *
    gi_wp2
    exact hfin.out
  case done =>
    rintro D ys W hD rfl ⟨⟨bz, bf, ⟨s, hs, bs⟩, hgB⟩, hB⟩ hK
    rw [foldQ_backs _ 32 (by rw [fbytes_length]; exact Nat.le_refl _), fbytes_length, Nat.sub_self, List.drop_zero, bval_fbytes HV.out] at hs
    have oR := Lib.hid (ok.out hs)
    have HS := Lib.hid hs
    have BZ := Lib.hid bz
    have BS := Lib.hid bs
    have hD2 : w.heap.size + 2 < D := by have := GT.out; have := L5.out; have := L6.out; omega
    have hK' : Hid ((W.setRow (w.heap.size + 2) s).heap[D]? = some (.deferred (some []))) := Lib.hid ((setRow_other W (w.heap.size + 2) D s (by omega)).trans hK)
    have HB := Lib.hid (below_row (g := w.heap.size + 2) hB (by omega) s)
    clear bz bf bs hB hK hs hr3 c4 hW3
    gi_wp2_with (first | (refine wpListIn_load_row rfl 30 (.tmp 6) rfl g6 rfl 30 s _ BS.out Tryd.underlying30 rfl oR.out.1 ?_) |
      (refine wpListIn_store_row rfl 30 (.tmp 4) (.tmp 30) rfl (w.heap.size + 2) s rfl rfl 30 _ BZ.out oR.out.1 oR.out.2.2 oR.out.2.1 ?_))
    refine ⟨by simp, .inl ⟨_, _, rfl, run_takeDeferred hK'.out, ?_⟩⟩
    have hB5 := (BZ.out.row s).kept (grownBy_putObj' _ D (.deferred none)) (fun r e => by cases e; exact ⟨_, hK'.out, rfl⟩)
    refine ⟨.agg s, results_cell_row Tryd.results21 _ _ (w.heap.size + 2) 30 s (0, 0) _ rfl hB5 Tryd.underlying30 rfl oR.out.1, s, rfl, HS.out, ?_⟩
    exact HB.out.trans (belowK_b (w := w) (Nat.le_refl _) _ D _ _ (by omega) hK'.out rfl rfl)
  case stop =>
    rintro D c pre W _ _ h _
    exact h.elim
end Go.Proofs.YtjiadbaaggifpaaDoor
end

section
set_option linter.unusedVariables false
set_option linter.unusedSimpArgs false
namespace Go.Proofs.YtjiadbaaggifpaaDoor
open Go Go.Proofs Go.RowKit F5

set_option maxHeartbeats 1000000 in
set_option maxRecDepth 100000 in
theorem getShortPU (A : Option Addr) (n c : Nat) (hn : n < 32) (w : World) :
    Calls Tryd.prog 10 #[.slice A n c] w fun e w' => e = .returned (.tuple #[.agg (uV 0 0 0), .int .i64 2]) ∧ Below w.heap.size w w' := by
  have hd : decide (n < 32) = true := by simpa using hn
  obtain ⟨z, hz⟩ : ∃ z, Hid (z = uV 0 0 0) := ⟨_, Lib.hid rfl⟩
  have hz0 : ∀ W, (zeroValue 30).run Tryd.prog W = .ok (.agg z) W := by rw [hz.out]; exact zeroU
  have hBN : Hid (Tryd.prog.built 30 [] = some z) := by rw [hz.out]; exact Lib.hid built_nilU
  have oz : Hid ((Tryd.prog.info? 30).map (·.size) = some z.size ∧ z.all (·.oneCell') = true) := by rw [hz.out]; exact Lib.hid ⟨uV_info _ _ _, uV_one _ _ _⟩
  rw [← hz.out]
  have b1 := Lib.hid (Blk.new w 30 z)
  have hb := Lib.hid (below_row (g := w.heap.size) ((Below.refl w.heap.size w).alloc (Nat.le_refl _) (.cells z 30)) (Nat.le_refl _) z)
  go_enter Tryd.func10, Tryd.ntmps10
  go_wp2_with (first | (refine wpList_build_to rfl 30 #[] rfl [] (by simp [Act.eval]) z hBN.out ?_) | (refine wpList_store_row rfl 30 (.tmp 2) (.tmp 13) rfl w.heap.size z rfl rfl 30 z b1.out oz.out.1 rfl oz.out.2 ?_))
  refine bodyPost_ret (v := .tuple #[.agg z, .int .i64 2]) ?_ rfl ⟨rfl, hb.out⟩
  exact results_row_tmp1 Tryd.results10 _ _ w.heap.size 30 _ _ _ rfl rfl (b1.out.row z) Tryd.underlying30 oz.out.1
set_option maxHeartbeats 1000000 in
set_option maxRecDepth 100000 in
theorem getLongPU (A : Option Addr) (n c : Nat) (hn : 32 < n) (w : World) :
    Calls Tryd.prog 10 #[.slice A n c] w fun e w' => e = .returned (.tuple #[.agg (uV 0 0 0), .int .i64 4]) ∧ Below w.heap.size w w' := by
  have hd : decide (n < 32) = false := by simp; omega
  have hd2 : decide (32 < n) = true := by simpa using hn
  obtain ⟨z, hz⟩ : ∃ z, Hid (z = uV 0 0 0) := ⟨_, Lib.hid rfl⟩
  have hz0 : ∀ W, (zeroValue 30).run Tryd.prog W = .ok (.agg z) W := by rw [hz.out]; exact zeroU
  have hBN : Hid (Tryd.prog.built 30 [] = some z) := by rw [hz.out]; exact Lib.hid built_nilU
  have oz : Hid ((Tryd.prog.info? 30).map (·.size) = some z.size ∧ z.all (·.oneCell') = true) := by rw [hz.out]; exact Lib.hid ⟨uV_info _ _ _, uV_one _ _ _⟩
  rw [← hz.out]
  have b1 := Lib.hid (Blk.new w 30 z)
  have hb := Lib.hid (below_row (g := w.heap.size) ((Below.refl w.heap.size w).alloc (Nat.le_refl _) (.cells z 30)) (Nat.le_refl _) z)
  go_enter Tryd.func10, Tryd.ntmps10
  go_wp2_with (first | (refine wpList_build_to rfl 30 #[] rfl [] (by simp [Act.eval]) z hBN.out ?_) | (refine wpList_store_row rfl 30 (.tmp 2) (.tmp 17) rfl w.heap.size z rfl rfl 30 z b1.out oz.out.1 rfl oz.out.2 ?_))
  refine bodyPost_ret (v := .tuple #[.agg z, .int .i64 4]) ?_ rfl ⟨rfl, hb.out⟩
  exact results_row_tmp1 Tryd.results10 _ _ w.heap.size 30 _ _ _ rfl rfl (b1.out.row z) Tryd.underlying30 oz.out.1

theorem ptOk {Q : World → Prop} (old : ∀ {w w' : World}, Q w → Below w.heap.size w w' → Q w') (hP : ∀ w, Q w → PrimeAt w) (hT : ∀ w, Q w → TurnAt w) : PtOk Q PU (uV 0 0 0) where
  old := old
  zero_run := zeroU
  ok := PU.ok
  okz := ⟨uV_info _ _ _, uV_one _ _ _⟩
  bytes w hp hQ := bytesPU hp w (hP w hQ)
  get v ad n w hv hr hn hm hQ := get32PU v ad n w hv hr hn hm (hP w hQ) (hT w hQ)
  other l A n c w hne _ _ _ _ _ := by
    obtain ⟨h1, h2, h3⟩ := uV_ok 0 0 0
    by_cases h : n < 32
    · refine (getShortPU A n c h w).mono ?_
      rintro e w' ⟨rfl, hb⟩
      exact ⟨_, by rw [if_pos h], h1, h2, h3, hb⟩
    · refine (getLongPU A n c (by omega) w).mono ?_
      rintro e w' ⟨rfl, hb⟩
      exact ⟨_, by rw [if_neg h], h1, h2, h3, hb⟩
  zero w _ := zeroPU w
  base w hQ := basePU w (hP w hQ) (hT w hQ)
  add w hp hq hQ := addPU hp hq w (hP w hQ)
  neg w hp hQ := negPU hp w (hP w hQ)
  times v w hv hp hQ := timesPU hp v hv w (hP w hQ)
  same w hp hq hQ := samePU hp hq w (hP w hQ)
end Go.Proofs.YtjiadbaaggifpaaDoor
end

section
set_option linter.unusedVariables false
namespace Go.Proofs.YtjiadbaaggifpaaDoor
open Go Go.Proofs Go.RowKit F5

abbrev primeZ : List Int := [18446744073709551597, 18446744073709551615, 18446744073709551615, 9223372036854775807]
theorem gPrime : Tryd.prog.globalNamed "greffier/field.prime" = some 1 := by kernel_rfl
theorem gPrimeType : (Tryd.prog.globals[1]?).map (·.type) = some 26 := by kernel_rfl
theorem primeZ_lim : ∀ j v, (u64s (digs M P 4))[j]? = some v → j < 4 ∧ v = .int .u64 (primeZ.getD j 0) := by
  intro j v h
  have hj : j < 4 := by have := (Array.getElem?_eq_some_iff.1 h).1; rwa [u64s_size, digs_length] at this
  refine ⟨hj, ?_⟩
  rw [u64s_get _ _ (by rw [digs_length]; exact hj), digs_getD _ _ _ _ hj] at h
  injection h with h
  rw [← h]
  rcases (show j = 0 ∨ j = 1 ∨ j = 2 ∨ j = 3 by omega) with rfl | rfl | rfl | rfl
  · exact congrArg (Value.int .u64) (by decide +kernel)
  · exact congrArg (Value.int .u64) (by decide +kernel)
  · exact congrArg (Value.int .u64) (by decide +kernel)
  · exact congrArg (Value.int .u64) (by decide +kernel)
theorem lt_of_cell {w : World} {g i : Nat} {v : Value} (h : w.cell? ⟨g, i, none⟩ = some v) : g < w.heap.size := by
  rcases Nat.lt_or_ge g w.heap.size with h1 | h1
  · exact h1
  · exfalso
    unfold World.cell? at h
    simp [Array.getElem?_eq_none h1] at h
theorem primeAt_of {w : World} (h : Lib.TabIs Tryd.prog w "greffier/field.prime" .u64 primeZ) : PrimeAt w := by
  refine ⟨lt_of_cell (h.cell gPrime 0 (by decide)), fun j v hj => ?_⟩
  obtain ⟨h4, rfl⟩ := primeZ_lim j v hj
  rw [Nat.zero_add]
  exact h.cell gPrime j h4
theorem primeAt_laid {w : World} {rest : List (String × DataW Unit)} (h : laidMet Tryd.prog (("greffier/field.prime", Rows.laid_greffier_field_prime) :: rest) w) : PrimeAt w :=
  primeAt_of (Lib.tabIs_of_head (zs := primeZ) (rest := rest) gPrime gPrimeType Tryd.underlying26 Tryd.underlying24 (by kernel_rfl) (by kernel_rfl) h)
theorem nat_u32 {a : Int} (h : (Lit.int .u32 a).wf = true) : ∃ n : Nat, a = (n : Int) ∧ n < 4294967296 := by
  have h1 : 0 ≤ a ∧ a ≤ 4294967295 := by simp [Lit.wf, IntKind.min, IntKind.max, IntKind.signed, IntKind.bits] at h; omega
  exact ⟨a.toNat, by omega, by omega⟩
theorem nat_u64 {a : Int} (h : (Lit.int .u64 a).wf = true) : ∃ n : Nat, a = (n : Int) ∧ n < M := by
  have h1 : 0 ≤ a ∧ a ≤ 18446744073709551615 := by simp [Lit.wf, IntKind.min, IntKind.max, IntKind.signed, IntKind.bits] at h; omega
  exact ⟨a.toNat, by omega, by unfold M; omega⟩
end Go.Proofs.YtjiadbaaggifpaaDoor
end

section
set_option linter.unusedVariables false
namespace Go.Proofs.YtjiadbaaggifpaaDoor
open Go Go.Proofs Go.RowKit F5

abbrev turnZ : List Int := [14190309331451158704, 3405592160176694392, 3120150775007532967, 3135389899092516619]
theorem gTurn : Tryd.prog.globalNamed "greffier/field.turn" = some 2 := by kernel_rfl
theorem gTurnType : (Tryd.prog.globals[2]?).map (·.type) = some 26 := by kernel_rfl
theorem turnZ_lim : ∀ j v, (limA I4)[j]? = some v → j < 4 ∧ v = .int .u64 (turnZ.getD j 0) := by
  intro j v h
  have hj : j < 4 := by have := (Array.getElem?_eq_some_iff.1 h).1; rwa [limA_size] at this
  refine ⟨hj, ?_⟩
  rw [limA_get _ _ hj] at h
  injection h with h
  rw [← h]
  rcases (show j = 0 ∨ j = 1 ∨ j = 2 ∨ j = 3 by omega) with rfl | rfl | rfl | rfl
  · exact congrArg (Value.int .u64) (by decide +kernel)
  · exact congrArg (Value.int .u64) (by decide +kernel)
  · exact congrArg (Value.int .u64) (by decide +kernel)
  · exact congrArg (Value.int .u64) (by decide +kernel)
theorem turnAt_of {w : World} (h : Lib.TabIs Tryd.prog w "greffier/field.turn" .u64 turnZ) : TurnAt w := by
  refine ⟨lt_of_cell (h.cell gTurn 0 (by decide)), fun j v hj => ?_⟩
  obtain ⟨h4, rfl⟩ := turnZ_lim j v hj
  rw [Nat.zero_add]
  exact h.cell gTurn j h4
theorem turnAt_laid {w : World} {x : String × DataW Unit} {rest : List (String × DataW Unit)} (h : laidMet Tryd.prog (x :: ("greffier/field.turn", Rows.laid_greffier_field_turn) :: rest) w) : TurnAt w :=
  turnAt_of (Lib.tabIs_of_head (zs := turnZ) (rest := rest) gTurn gTurnType Tryd.underlying26 Tryd.underlying24 (by kernel_rfl) (by kernel_rfl) h.tail)
end Go.Proofs.YtjiadbaaggifpaaDoor
end

section
set_option linter.unusedVariables false
namespace Go.Proofs.YtjiadbaaggifpaaDoor
open Go Go.Proofs Go.RowKit F5

def Q7 (w : World) : Prop := PrimeAt w ∧ TurnAt w
theorem q7_laid {w : World} {rest : List (String × DataW Unit)} (h : laidMet Tryd.prog (("greffier/field.prime", Rows.laid_greffier_field_prime) :: ("greffier/field.turn", Rows.laid_greffier_field_turn) :: rest) w) : Q7 w := ⟨primeAt_laid h, turnAt_laid h⟩
theorem ptOk7 : PtOk Q7 PU (uV 0 0 0) := ptOk (fun h hb => ⟨h.1.old hb, h.2.old hb⟩) (fun _ h => h.1) (fun _ h => h.2)
end Go.Proofs.YtjiadbaaggifpaaDoor
end

section
set_option linter.unusedVariables false
namespace Go.Proofs.YtjiadbaaggifpaaDoor
open Go Go.Proofs Go.RowKit

/-- WHAT THE WALK IS TOLD OF A SLICE OF INTEGERS THAT CAME IN: it is nil; or it leads to a row of 'cap' cells, the numbers 'zs' (the first 'len' are its elements, the rest its spare room), each fitting its kind. -/
def IsRow (k : IntKind) (w : World) (a : Option Addr) (len cap : Nat) (zs : List Int) : Prop :=
  (a = none ∧ len = 0 ∧ cap = 0 ∧ zs = []) ∨
  ∃ x, a = some x ∧ len ≤ cap ∧ cap ≤ maxLen ∧ zs.length = cap ∧ (∀ i, i < zs.length → w.cell? (x.add i) = some (.int k (zs.getD i 0))) ∧ ∀ n ∈ zs, (Lit.int k n).wf = true


def bytesOf (len : Nat) (zs : List Int) : List UInt8 := (zs.take len).map fun z => z.toNat.toUInt8

theorem reads_of_row {w : World} {a : Option Addr} {len cap : Nat} {zs : List Int} (h : IsRow .u8 w a len cap zs) : Reads w w.heap.size 1 a len (Lib.byteCells (bytesOf len zs)) ∧ len ≤ cap ∧ cap ≤ maxLen := by
  rcases h with ⟨rfl, rfl, rfl, rfl⟩ | ⟨x, rfl, hl, hm, hz, hc, hw⟩
  · exact ⟨⟨by simp [bytesOf, Lib.byteCells], fun h => absurd h (by omega)⟩, Nat.le_refl _, by unfold maxLen; omega⟩
  · refine ⟨⟨?_, fun hn => ⟨x, rfl, ?_, ?_⟩⟩, hl, hm⟩
    · simp [bytesOf, Lib.byteCells_length]; omega
    · have := hc 0 (by omega)
      rcases Nat.lt_or_ge x.block w.heap.size with h' | h'
      · exact h'
      · rw [World.cell?] at this
        have e : (x.add 0).block = x.block := block_of_add x 0
        rw [e, Array.getElem?_eq_none h'] at this
        simp at this
    · intro j u hu
      have hj : j < (zs.take len).length := by
        have := (List.getElem?_eq_some_iff.1 hu).1
        simpa [bytesOf, Lib.byteCells] using this
      have hjz : j < zs.length := by simp at hj; omega
      rw [hc j hjz]
      simp only [bytesOf, Lib.byteCells, List.map_map, List.getElem?_map, List.getElem?_eq_getElem hj, Option.map_some, Option.some.injEq, Function.comp_apply] at hu
      rw [← hu, List.getElem_take]
      have hb := hw zs[j] (List.getElem_mem hjz)
      have hb2 := bounds_u8 hb
      have e1 : zs.getD j 0 = zs[j] := by simp [List.getD, List.getElem?_eq_getElem hjz]
      rw [e1]
      congr 2
      simp
      omega

end Go.Proofs.YtjiadbaaggifpaaDoor
end

section
set_option linter.unusedVariables false
set_option maxRecDepth 100000
namespace Go.Proofs.YtjiadbaaggifpaaDoor
open Go Go.Proofs Go.RowKit Go.ChangeShapes Go.WideShapes F5

section
variable {H : Type} {enc : TypeId × Value → H} {P : Program} {e : TypeId} {q : IntKind} {W : World} {base : Nat} {sp : Nat → Bool} {held : Bool}
theorem mapM_ints (he : P.underlying e = some (.int q)) {m : Nat} {cs : List Value} : ∀ (L : List Nat) (xs : List (DataW H × List MemPlace)),
    L.mapM (fun i => DataW.trod enc P W base sp held m e ((cs.drop (i * 1)).take 1)) = some xs →
    (∀ i ∈ L, ∃ a, (cs.drop i).take 1 = [.int q a] ∧ (Lit.int q a).wf = true) ∧ xs.flatMap (·.2) = []
  | [], xs, h => by
    simp at h
    subst h
    exact ⟨fun i hi => by simp at hi, rfl⟩
  | i :: L, xs, h => by
    rw [List.mapM_cons] at h
    simp only [bind, Option.bind_eq_some_iff, pure, Option.some.injEq] at h
    obtain ⟨y, hy, ys, hys, rfl⟩ := h
    obtain ⟨h1, h2⟩ := mapM_ints he L ys hys
    obtain ⟨a, ea, rfl, wa⟩ := DataW.trod_int he hy
    refine ⟨fun j hj => ?_, by simpa using h2⟩
    rcases List.mem_cons.1 hj with rfl | hj
    · exact ⟨a, by rw [Nat.mul_one] at ea; exact ea, wa⟩
    · exact h1 j hj
end

theorem okWide_bytes {W : World} {r : Reach} {b0 : Nat} {v : Value} (h : Value.okWide Tryd.prog W r b0 40 v) : ∃ xs : Array Value, v = .agg xs ∧ xs.size = 32 := by
  have hu : Tryd.prog.underlying 40 = some (.array 32 5) := Tryd.underlying40
  simp only [Value.okWide, hu] at h
  obtain ⟨cs, h1, h2, _⟩ := h
  refine ⟨cs, h1, ?_⟩
  rw [h2]
  kernel_rfl

theorem open_bytes {H : Type} {enc : TypeId × Value → H} {W : World} {base : Nat} {sp : Nat → Bool} {held : Bool} {xs : Array Value} (hn : xs.size = 32) {d : DataW H} {ps : List MemPlace}
    (hd : DataW.Trod enc Tryd.prog W base sp held 40 (.agg xs) d ps) : ∃ v, v < 2 ^ 256 ∧ xs = bytesA (fbytes v) ∧ ps = [] := by
  have hu : Tryd.prog.underlying 40 = some (.array 32 5) := Tryd.underlying40
  have hc : Tryd.prog.cellsOf 40 = 32 := by kernel_rfl
  have hc1 : Tryd.prog.cellsOf 5 = 1 := by kernel_rfl
  obtain ⟨fuel, hf⟩ := hd
  cases fuel with
  | zero => simp [DataW.trod] at hf
  | succ m =>
    rw [DataW.trod_step] at hf
    unfold DataW.trodStep at hf
    simp only [hu, Value.cells] at hf
    rw [if_pos (by rw [hc]; simpa using hn)] at hf
    simp only [Option.map_eq_some_iff, hc1] at hf
    obtain ⟨ys, hy, e1⟩ := hf
    obtain ⟨h1, h2⟩ := mapM_ints Tryd.underlying5 _ ys hy
    simp only [Prod.mk.injEq] at e1
    have hcell : ∀ i, i < 32 → ∃ x : UInt8, xs[i]? = some (.int .u8 (x.toNat : Int)) := fun i hi => by
      obtain ⟨a, ha, hw⟩ := h1 i (List.mem_range.2 hi)
      have h3 : 0 ≤ a ∧ a ≤ 255 := by simp [Lit.wf, IntKind.min, IntKind.max, IntKind.signed, IntKind.bits] at hw; omega
      have hx : xs.toList[i]? = some (.int .u8 a) := by
        have := congrArg (·[0]?) ha
        simpa [List.getElem?_take, List.getElem?_drop] using this
      refine ⟨UInt8.ofNat a.toNat, ?_⟩
      rw [← Array.getElem?_toList, hx]
      have : (UInt8.ofNat a.toNat).toNat = a.toNat := by rw [UInt8.toNat_ofNat']; omega
      rw [this]
      congr 2
      omega
    let l : List UInt8 := (List.range 32).map fun i => if h : i < 32 then Classical.choose (hcell i h) else 0
    have hl : l.length = 32 := by simp [l]
    obtain ⟨v, hv, hlv⟩ := fbytes_of l hl
    refine ⟨v, hv, ?_, by rw [← e1.2]; exact h2⟩
    rw [← hlv]
    apply Array.ext_getElem?
    intro i
    by_cases hi : i < 32
    · rw [Classical.choose_spec (hcell i hi), bytesA_get _ _ (by rw [hl]; exact hi)]
      have : l.getD i 0 = Classical.choose (hcell i hi) := by
        simp [l, List.getD, hi]
      rw [this]
    · rw [Array.getElem?_eq_none (by omega), Array.getElem?_eq_none (by rw [bytesA_size, hl]; omega)]
end Go.Proofs.YtjiadbaaggifpaaDoor
end
