/-
  The walk of the law FieldSums. Condition: the prime's limbs stand in their variable.
-/
import Derived.Test.YtphlehinjooncaaDoorFldTwo
import Derived.Test.YtphlehinjooncaaDoorFldGetsW
import Derived.Test.YtphlehinjooncaaDoorFldRefMul
set_option linter.unusedVariables false
set_option linter.unusedSimpArgs false
namespace Go.Proofs.YtphlehinjooncaaDoor
open Go Go.Proofs Go.RowKit F5

theorem sub_same {n m : Nat} (hn : n < P) (hm : m < P) : (n + (P - m) % P) % P = (n + P - m) % P := by
  rw [Nat.add_mod, Nat.mod_mod, ← Nat.add_mod, show n + (P - m) = n + P - m by omega]
theorem alloc_new2 {B : Nat} {w w' : World} {o : Obj} (h : Below B w (w'.alloc o)) (T : TypeId) (z : Array Value) : Blk ((w'.alloc o).alloc (.cells z T)) (w'.heap.size + 1) T z := by
  have := Blk.new (w'.alloc o) T z
  rwa [show (w'.alloc o).heap.size = w'.heap.size + 1 by simp] at this
theorem alloc_size2 {B : Nat} {w w' : World} {o : Obj} (h : Below B w (w'.alloc o)) : w.heap.size ≤ w'.heap.size + 1 := by
  have := h.size
  rwa [show (w'.alloc o).heap.size = w'.heap.size + 1 by simp] at this
def Four4 (w : World) (g7 g8 g10 g11 : Nat) (a b c d : Array Value) (wr : World) : Prop :=
  Blk wr g7 28 a ∧ Blk wr g8 35 b ∧ Blk wr g10 28 c ∧ Blk wr g11 35 d ∧ Below w.heap.size w wr
theorem Four4.next {w wr w' : World} {g7 g8 g10 g11 : Nat} {a b c d : Array Value} (h : Four4 w g7 g8 g10 g11 a b c d wr) (hb : Below wr.heap.size wr w') : Four4 w g7 g8 g10 g11 a b c d w' :=
  ⟨h.1.old hb, h.2.1.old hb, h.2.2.1.old hb, h.2.2.2.1.old hb, h.2.2.2.2.trans (hb.mono h.2.2.2.2.size)⟩
theorem Four4.rowFar {w wr : World} {g7 g8 g10 g11 g : Nat} {a b c d : Array Value} (h : Four4 w g7 g8 g10 g11 a b c d wr) (hg : w.heap.size ≤ g) (h1 : g ≠ g7) (h2 : g ≠ g8) (h3 : g ≠ g10) (h4 : g ≠ g11) (x : Array Value) : Four4 w g7 g8 g10 g11 a b c d (wr.setRow g x) :=
  ⟨h.1.rowFar (by omega) x, h.2.1.rowFar (by omega) x, h.2.2.1.rowFar (by omega) x, h.2.2.2.1.rowFar (by omega) x, below_row h.2.2.2.2 hg x⟩
def Ord4 (w : World) (g7 g8 g10 g11 : Nat) : Prop := w.heap.size ≤ g7 ∧ g7 < g8 ∧ g8 < g10 ∧ g10 < g11
def Six (w : World) (g7 g8 g10 g11 g14 g15 : Nat) (a b c d e f : Array Value) (wr : World) : Prop :=
  Four4 w g7 g8 g10 g11 a b c d wr ∧ Blk wr g14 28 e ∧ Blk wr g15 35 f
def Ord6 (g11 g14 g15 : Nat) : Prop := g11 < g14 ∧ g11 < g15 ∧ g14 ≠ g15
theorem Six.next {w wr w' : World} {g7 g8 g10 g11 g14 g15 : Nat} {a b c d e f : Array Value} (h : Six w g7 g8 g10 g11 g14 g15 a b c d e f wr) (hb : Below wr.heap.size wr w') : Six w g7 g8 g10 g11 g14 g15 a b c d e f w' :=
  ⟨h.1.next hb, h.2.1.old hb, h.2.2.old hb⟩
section
variable {w wr : World} {g7 g8 g10 g11 g14 g15 : Nat} {a b c d e f : Array Value} (h : Six w g7 g8 g10 g11 g14 g15 a b c d e f wr) (o : Ord4 w g7 g8 g10 g11) (q : Ord6 g11 g14 g15) (x : Array Value)
include h o q
theorem Six.s14 : Six w g7 g8 g10 g11 g14 g15 a b c d x f (wr.setRow g14 x) := by
  obtain ⟨o1, o2, o3, o4⟩ := o; obtain ⟨q1, q2, q3⟩ := q
  exact ⟨h.1.rowFar (by omega) (by omega) (by omega) (by omega) (by omega) x, h.2.1.row x, h.2.2.rowFar (by omega) x⟩
theorem Six.s15 : Six w g7 g8 g10 g11 g14 g15 a b c d e x (wr.setRow g15 x) := by
  obtain ⟨o1, o2, o3, o4⟩ := o; obtain ⟨q1, q2, q3⟩ := q
  exact ⟨h.1.rowFar (by omega) (by omega) (by omega) (by omega) (by omega) x, h.2.1.rowFar (by omega) x, h.2.2.row x⟩
theorem Six.s7 : Six w g7 g8 g10 g11 g14 g15 x b c d e f (wr.setRow g7 x) := by
  obtain ⟨o1, o2, o3, o4⟩ := o; obtain ⟨q1, q2, q3⟩ := q
  obtain ⟨⟨h1, h2, h3, h4, h5⟩, h6, h7⟩ := h
  exact ⟨⟨h1.row x, h2.rowFar (by omega) x, h3.rowFar (by omega) x, h4.rowFar (by omega) x, below_row h5 (by omega) x⟩, h6.rowFar (by omega) x, h7.rowFar (by omega) x⟩
theorem Six.s8 : Six w g7 g8 g10 g11 g14 g15 a x c d e f (wr.setRow g8 x) := by
  obtain ⟨o1, o2, o3, o4⟩ := o; obtain ⟨q1, q2, q3⟩ := q
  obtain ⟨⟨h1, h2, h3, h4, h5⟩, h6, h7⟩ := h
  exact ⟨⟨h1.rowFar (by omega) x, h2.row x, h3.rowFar (by omega) x, h4.rowFar (by omega) x, below_row h5 (by omega) x⟩, h6.rowFar (by omega) x, h7.rowFar (by omega) x⟩
theorem Six.s10 : Six w g7 g8 g10 g11 g14 g15 a b x d e f (wr.setRow g10 x) := by
  obtain ⟨o1, o2, o3, o4⟩ := o; obtain ⟨q1, q2, q3⟩ := q
  obtain ⟨⟨h1, h2, h3, h4, h5⟩, h6, h7⟩ := h
  exact ⟨⟨h1.rowFar (by omega) x, h2.rowFar (by omega) x, h3.row x, h4.rowFar (by omega) x, below_row h5 (by omega) x⟩, h6.rowFar (by omega) x, h7.rowFar (by omega) x⟩
theorem Six.s11 : Six w g7 g8 g10 g11 g14 g15 a b c x e f (wr.setRow g11 x) := by
  obtain ⟨o1, o2, o3, o4⟩ := o; obtain ⟨q1, q2, q3⟩ := q
  obtain ⟨⟨h1, h2, h3, h4, h5⟩, h6, h7⟩ := h
  exact ⟨⟨h1.rowFar (by omega) x, h2.rowFar (by omega) x, h3.rowFar (by omega) x, h4.row x, below_row h5 (by omega) x⟩, h6.rowFar (by omega) x, h7.rowFar (by omega) x⟩
end
theorem two_new2 (w : World) (a b : Array Value) : Blk ((w.alloc (.cells a 28)).alloc (.cells b 35)) w.heap.size 28 a ∧ Blk ((w.alloc (.cells a 28)).alloc (.cells b 35)) (w.heap.size + 1) 35 b := by
  refine ⟨(Blk.new w 28 a).alloc _, ?_⟩
  have := Blk.new (w.alloc (.cells a 28)) 35 b
  rwa [show (w.alloc (.cells a 28)).heap.size = w.heap.size + 1 by simp] at this
theorem limA_ok2 (n : Nat) : (Tryd.prog.info? 28).map (·.size) = some (limA n).size ∧ (limA n).all (·.oneCell') = true ∧ (limA n).size = 4 := ⟨limA_infoE _, limA_one _, limA_size _⟩
theorem limF_ok2 (n : Nat) : (Tryd.prog.info? 35).map (·.size) = some (limF n).size ∧ (limF n).all (·.oneCell') = true ∧ (limF n).size = 16 := ⟨limF_info _, limF_one _, limF_size _⟩
def Quad (g7 g8 g10 g11 : Nat) (a b c d : Array Value) (wr : World) : Prop := Blk wr g7 28 a ∧ Blk wr g8 35 b ∧ Blk wr g10 28 c ∧ Blk wr g11 35 d
theorem Four4.quad {w wr : World} {g7 g8 g10 g11 : Nat} {a b c d : Array Value} (h : Four4 w g7 g8 g10 g11 a b c d wr) : Quad g7 g8 g10 g11 a b c d wr := ⟨h.1, h.2.1, h.2.2.1, h.2.2.2.1⟩
theorem six_of {w V : World} {B g7 g8 g10 g11 g14 g15 : Nat} {a b c d e f : Array Value} (h4 : Four4 w g7 g8 g10 g11 a b c d V) (n14 : Blk V g14 28 e) (n15 : Blk V g15 35 f) (l14 : B ≤ g14) (l15 : B ≤ g15) (hlt : g11 < B) :
    Six w g7 g8 g10 g11 g14 g15 a b c d e f V ∧ Ord6 g11 g14 g15 := ⟨⟨h4, n14, n15⟩, by omega, by omega, n14.ne_ n15 (by decide)⟩
/-- What an operation makes of two numbers: the same as element and as reference. -/
def OpOk (fe fr : FuncId) (n m k : Nat) : Prop :=
  (∀ W, PrimeAt W → Calls Tryd.prog fe #[.agg (limA n), .agg (limA m)] W fun e w' => e = .returned (.agg (limA k)) ∧ Below W.heap.size W w') ∧
  (∀ W, Calls Tryd.prog fr #[.agg (limF n), .agg (limF m)] W fun e w' => e = .returned (.agg (limF k)) ∧ Below W.heap.size W w')
theorem lt256 {n : Nat} (h : n < P) : n < 2 ^ 256 := Nat.lt_trans h (by decide)
theorem op_add {n m : Nat} (hn : n < P) (hm : m < P) : OpOk 17 18 n m ((n + m) % P) :=
  ⟨fun W hW => add_e n m hn hm W hW, fun W => refAdd_any n m (lt256 hn) (lt256 hm) W⟩
theorem op_sub {n m : Nat} (hn : n < P) (hm : m < P) : OpOk 19 20 n m ((n + P - m) % P) :=
  ⟨fun W hW => sub_e n m hn hm W hW, fun W => by have := refSub_any n m (lt256 hn) hm W; rw [sub_same hn hm] at this; exact this⟩
theorem op_mul {n m : Nat} (hn : n < P) (hm : m < P) : OpOk 21 22 n m (n * m % P) :=
  ⟨fun W hW => mul_e n m hn hm W hW, fun W => refMul_any n m (lt256 hn) (lt256 hm) W⟩

set_option maxHeartbeats 16000000 in
set_option maxRecDepth 100000 in
theorem sums_walk (va vb : Nat) (hva : va < 2 ^ 256) (hvb : vb < 2 ^ 256) (A : Option Addr) (len c : Nat) (l : List UInt8) (w : World) (hr : Reads w w.heap.size 1 A len (Lib.byteCells l)) (hnc : len ≤ c) (hm : c ≤ maxLen) (hP : PrimeAt w) :
    Calls Tryd.prog 4 #[.agg (bytesA (fbytes va)), .agg (bytesA (fbytes vb)), .slice A len c] w fun e w' => e = .returned (.bool true) ∧ Below w.heap.size w w' := by
  unfold maxLen at hm
  have HP := Lib.hid hP
  have HR := Lib.hid hr
  obtain ⟨z, hz⟩ : ∃ z, Hid (z = limF 0) := ⟨_, Lib.hid rfl⟩
  have hz0 : ∀ W, (zeroValue 35).run Tryd.prog W = .ok (.agg z) W := by
    rw [hz.out, ← zero16]; exact (zero_of_info (n := 16) (by kernel_rfl)).1
  have ou := Lib.hid (limA_ok (uOf va))
  have of := Lib.hid (limF_ok (va % P) z hz.out)
  have pu := Lib.hid (limA_ok (uOf vb))
  have pf := Lib.hid (limF_ok (vb % P) z hz.out)
  have CA : Hid (∀ W, PrimeAt W → Calls Tryd.prog 16 #[.agg (bytesA (fbytes va))] W fun e w' => e = .returned (.tuple #[.agg (limA (uOf va)), .agg (limF (va % P)), .bool (decide (va < P))]) ∧ Below W.heap.size W w') := Lib.hid fun W hW => two_any va hva W hW
  have CB : Hid (∀ W, PrimeAt W → Calls Tryd.prog 16 #[.agg (bytesA (fbytes vb))] W fun e w' => e = .returned (.tuple #[.agg (limA (uOf vb)), .agg (limF (vb % P)), .bool (decide (vb < P))]) ∧ Below W.heap.size W w') := Lib.hid fun W hW => two_any vb hvb W hW
  obtain ⟨b1, hb1⟩ : ∃ b, Hid (b = decide (va < P)) := ⟨_, Lib.hid rfl⟩
  obtain ⟨b2, hb2⟩ : ∃ b, Hid (b = decide (vb < P)) := ⟨_, Lib.hid rfl⟩
  rw [← hb1.out] at CA
  rw [← hb2.out] at CB
  obtain ⟨ca, hca⟩ : ∃ x, Hid (x = bytesA (fbytes va)) := ⟨_, Lib.hid rfl⟩
  obtain ⟨cb, hcb⟩ : ∃ x, Hid (x = bytesA (fbytes vb)) := ⟨_, Lib.hid rfl⟩
  have hia : Hid ((Tryd.prog.info? 41).map (·.size) = some ca.size) := by rw [hca.out]; exact Lib.hid (fbytes_info va)
  have hib : Hid ((Tryd.prog.info? 41).map (·.size) = some cb.size) := by rw [hcb.out]; exact Lib.hid (fbytes_info vb)
  rw [← hca.out] at CA ⊢
  rw [← hcb.out] at CB ⊢
  have hW0 : Blk ((w.alloc (.cells ca 41)).alloc (.cells cb 41)) w.heap.size 41 ca ∧ Blk ((w.alloc (.cells ca 41)).alloc (.cells cb 41)) (w.heap.size + 1) 41 cb ∧ Below w.heap.size w ((w.alloc (.cells ca 41)).alloc (.cells cb 41)) := by
    refine ⟨(Blk.new w 41 ca).alloc _, ?_, ((Below.refl _ _).alloc (Nat.le_refl _) _).alloc (by simp) _⟩
    have := Blk.new (w.alloc (.cells ca 41)) 41 cb
    rwa [show (w.alloc (.cells ca 41)).heap.size = w.heap.size + 1 by simp] at this
  obtain ⟨x0, x1, xb⟩ := hW0
  obtain ⟨cx, hcx⟩ : ∃ x, Hid (x = limA (uOf va)) := ⟨_, Lib.hid rfl⟩
  obtain ⟨cu, hcu⟩ : ∃ x, Hid (x = limF (va % P)) := ⟨_, Lib.hid rfl⟩
  obtain ⟨cy, hcy⟩ : ∃ x, Hid (x = limA (uOf vb)) := ⟨_, Lib.hid rfl⟩
  obtain ⟨cv, hcv⟩ : ∃ x, Hid (x = limF (vb % P)) := ⟨_, Lib.hid rfl⟩
  rw [← hcx.out] at ou CA
  rw [← hcu.out] at of CA
  rw [← hcy.out] at pu CB
  rw [← hcv.out] at pf CB
  clear hP hr hva hvb
  go_enter Tryd.func4, Tryd.ntmps4
  go_upto_region 1 with fail
  generalize (w.alloc (.cells ca 41)).alloc (.cells cb 41) = W at *
  have X0 := Lib.hid x0
  have X1 := Lib.hid x1
  have HB := Lib.hid xb
  clear x0 x1 xb
  go_upto_region 2 with (first | (refine wpList_load_row rfl 41 (.tmp 3) rfl w.heap.size rfl 41 ca (0, 0) _ X0.out Tryd.underlying41 rfl hia.out ?_))
  refine (CA.out _ (HP.out.old HB.out)).mono ?_
  rintro e w1 ⟨rfl, hbb⟩
  have Y1 := Lib.hid (X1.out.old hbb)
  have HB1 := Lib.hid (HB.out.trans (hbb.mono HB.out.size))
  clear hbb
  obtain ⟨n7, n8⟩ := two_new2 w1 #[.int .u64 0, .int .u64 0, .int .u64 0, .int .u64 0] z
  have N7 := Lib.hid n7
  have N8 := Lib.hid (n8.rowFar (g' := w1.heap.size) (by omega) cx)
  have Y1b := Lib.hid ((((Y1.out.alloc (.cells #[.int .u64 0, .int .u64 0, .int .u64 0, .int .u64 0] 28)).alloc (.cells z 35)).rowFar (g' := w1.heap.size) (by have := Y1.out.lt; omega) cx).rowFar (g' := w1.heap.size + 1) (by have := Y1.out.lt; omega) cu)
  have HB1b := Lib.hid (below_row (below_row ((HB1.out.alloc HB1.out.size (.cells #[.int .u64 0, .int .u64 0, .int .u64 0, .int .u64 0] 28)).alloc (by have := HB1.out.size; simp; omega) (.cells z 35)) HB1.out.size cx) (show w.heap.size ≤ w1.heap.size + 1 by have := HB1.out.size; omega) cu)
  have M7 := Lib.hid ((N7.out.row cx).rowFar (g' := w1.heap.size + 1) (by omega) cu)
  have M8 := Lib.hid (N8.out.row cu)
  clear n7 n8
  go_upto_region 2 with (first | (refine wpList_store_row rfl 28 (.tmp 7) (.tmp 19) rfl w1.heap.size cx rfl rfl 28 _ N7.out ou.out.1 ou.out.2.2 ou.out.2.1 ?_) |
    (refine wpList_store_row rfl 35 (.tmp 8) (.tmp 20) rfl (w1.heap.size + 1) cu rfl rfl 35 z N8.out of.out.1 of.out.2.2 of.out.2.1 ?_))
  have L7 : Hid (w.heap.size ≤ w1.heap.size) := Lib.hid HB1.out.size
  generalize (((w1.alloc (.cells #[.int .u64 0, .int .u64 0, .int .u64 0, .int .u64 0] 28)).alloc (.cells z 35)).setRow w1.heap.size cx).setRow (w1.heap.size + 1) cu = W1 at *
  go_upto_region 3 with (first | (refine wpList_load_row rfl 41 (.tmp 4) rfl (w.heap.size + 1) rfl 41 cb (0, 0) _ Y1b.out Tryd.underlying41 rfl hib.out ?_))
  refine (CB.out _ (HP.out.old HB1b.out)).mono ?_
  rintro e w2 ⟨rfl, hbb⟩
  have M7b := Lib.hid (M7.out.old hbb)
  have M8b := Lib.hid (M8.out.old hbb)
  have HB2 := Lib.hid (HB1b.out.trans (hbb.mono HB1b.out.size))
  clear hbb
  obtain ⟨n10, n11⟩ := two_new2 w2 #[.int .u64 0, .int .u64 0, .int .u64 0, .int .u64 0] z
  have N10 := Lib.hid n10
  have N11 := Lib.hid (n11.rowFar (g' := w2.heap.size) (by omega) cy)
  have h4 : Four4 w w1.heap.size (w1.heap.size + 1) w2.heap.size (w2.heap.size + 1) cx cu cy cv ((((w2.alloc (.cells #[.int .u64 0, .int .u64 0, .int .u64 0, .int .u64 0] 28)).alloc (.cells z 35)).setRow w2.heap.size cy).setRow (w2.heap.size + 1) cv) :=
    ⟨(((M7b.out.alloc _).alloc _).rowFar (by have := M7b.out.lt; omega) cy).rowFar (by have := M7b.out.lt; omega) cv, (((M8b.out.alloc _).alloc _).rowFar (by have := M8b.out.lt; omega) cy).rowFar (by have := M8b.out.lt; omega) cv,
      (N10.out.row cy).rowFar (by omega) cv, N11.out.row cv, below_row (below_row ((HB2.out.alloc HB2.out.size (.cells #[.int .u64 0, .int .u64 0, .int .u64 0, .int .u64 0] 28)).alloc (by have := HB2.out.size; simp; omega) (.cells z 35)) HB2.out.size cy) (show w.heap.size ≤ w2.heap.size + 1 by have := HB2.out.size; omega) cv⟩
  have o4 : Ord4 w w1.heap.size (w1.heap.size + 1) w2.heap.size (w2.heap.size + 1) := ⟨L7.out, by omega, M8b.out.lt, by omega⟩
  clear n10 n11
  go_upto_region 3 with (first | (refine wpList_store_row rfl 28 (.tmp 10) (.tmp 25) rfl w2.heap.size cy rfl rfl 28 _ N10.out pu.out.1 pu.out.2.2 pu.out.2.1 ?_) |
    (refine wpList_store_row rfl 35 (.tmp 11) (.tmp 26) rfl (w2.heap.size + 1) cv rfl rfl 35 z N11.out pf.out.1 pf.out.2.2 pf.out.2.1 ?_))
  generalize (((w2.alloc (.cells #[.int .u64 0, .int .u64 0, .int .u64 0, .int .u64 0] 28)).alloc (.cells z 35)).setRow w2.heap.size cy).setRow (w2.heap.size + 1) cv = W2 at *
  clear N7 N8 M7 M8 M7b M8b N10 N11 Y1 Y1b HB1b HB1 HB2 X0 X1 HB
  generalize w1.heap.size + 1 = g8 at *
  generalize w1.heap.size = g7 at *
  generalize w2.heap.size + 1 = g11 at *
  generalize w2.heap.size = g10 at *
  have H4 := Lib.hid h4
  have O4 := Lib.hid o4
  clear h4 o4 L7
  have HPW : Hid (PrimeAt W2) := Lib.hid (HP.out.old H4.out.2.2.2.2)
  by_cases hbad : ¬ (b1 = true ∧ b2 = true ∧ len ≤ 40)
  · cases b1
    · go_wp2_with fail
      refine (awake_any _ HPW.out).mono ?_
      rintro e w3 ⟨rfl, hbb⟩
      have hbe := Lib.hid (H4.out.2.2.2.2.trans (hbb.mono H4.out.2.2.2.2.size))
      clear hbb
      go_wp2
      go_ret
      exact ⟨rfl, hbe.out⟩
    · cases b2
      · go_wp2_with fail
        refine (awake_any _ HPW.out).mono ?_
        rintro e w3 ⟨rfl, hbb⟩
        have hbe := Lib.hid (H4.out.2.2.2.2.trans (hbb.mono H4.out.2.2.2.2.size))
        clear hbb
        go_wp2
        go_ret
        exact ⟨rfl, hbe.out⟩
      · have h40 : decide (40 < (len : Int)) = true := by simp at hbad ⊢; omega
        clear hbad
        go_wp2_with fail
        refine (awake_any _ HPW.out).mono ?_
        rintro e w3 ⟨rfl, hbb⟩
        have hbe := Lib.hid (H4.out.2.2.2.2.trans (hbb.mono H4.out.2.2.2.2.size))
        clear hbb
        go_wp2
        go_ret
        exact ⟨rfl, hbe.out⟩
  obtain ⟨rfl, rfl, h40⟩ : b1 = true ∧ b2 = true ∧ len ≤ 40 := Classical.not_not.1 hbad
  have hd40 : decide (40 < (len : Int)) = false := by simp; omega
  have hvaP : va < P := by have := hb1.out; simpa using this.symm
  have hvbP : vb < P := by have := hb2.out; simpa using this.symm
  have e4 : Hid (Four4 w g7 g8 g10 g11 (limA va) (limF va) (limA vb) (limF vb) W2) := by
    have := H4.out
    rw [hcx.out, hcu.out, hcy.out, hcv.out] at this
    unfold uOf at this
    rw [if_pos hvaP, if_pos hvbP, Nat.mod_eq_of_lt hvaP, Nat.mod_eq_of_lt hvbP] at this
    exact Lib.hid this
  have HVA := Lib.hid hvaP
  have HVB := Lib.hid hvbP
  clear hbad hb1 hb2 hvaP hvbP H4 ou of pu pf CA CB hcx hcu hcy hcv hia hib
  go_wp2_with fail
  go_loopg [13] len (fun g iv wr => ∃ i n m, iv = .int .i64 (i : Nat) ∧ g + i = len ∧ n < P ∧ m < P ∧ Four4 w g7 g8 g10 g11 (limA n) (limF n) (limA m) (limF m) wr)
  case atStart => exact ⟨0, va, vb, rfl, by omega, HVA.out, HVB.out, e4.out⟩
  case round =>
    obtain ⟨i, n, m, rfl, hg, hn, hm2, hF⟩ := hrel
    clear e4 HVA HVB
    have HPr : Hid (PrimeAt wr) := Lib.hid (HP.out.old hF.2.2.2.2)
    have oxn := Lib.hid (limA_ok2 n)
    have oxm := Lib.hid (limA_ok2 m)
    have ofn := Lib.hid (limF_ok2 n)
    have ofm := Lib.hid (limF_ok2 m)
    by_cases hlt : i < len
    · obtain ⟨G0, hG⟩ : ∃ G, Hid (gk = G + 1 ∧ G + (i + 1) = len) := ⟨gk - 1, Lib.hid ⟨by omega, by omega⟩⟩
      have hHP : Hid (∀ V, Below wr.heap.size wr V → PrimeAt V) := Lib.hid fun V h => HPr.out.old h
      have HOA := Lib.hid (op_add hn hm2)
      have HOS := Lib.hid (op_sub hn hm2)
      have HOM := Lib.hid (op_mul hn hm2)
      have HOT := Lib.hid (op_sub hm2 hn)
      have HN := Lib.hid hn
      have HM := Lib.hid hm2
      have HF := Lib.hid hF
      have HL := Lib.hid hF.2.2.2.1.lt
      clear hn hm2 hF hg
      go_upto_region 8 with fail
      (try simp only [Act.put, List.setIfInBounds_toArray, List.set_cons_zero, List.set_cons_succ])
      go_cut [14, 15] (fun s14 s15 wx => ∃ g14 g15, s14 = .pointer (some ⟨g14, 0, none⟩) ∧ s15 = .pointer (some ⟨g15, 0, none⟩) ∧ Six w g7 g8 g10 g11 g14 g15 (limA n) (limF n) (limA m) (limF m) (limA n) (limF n) wx ∧ Ord6 g11 g14 g15 ∧ PrimeAt wx)
      case first =>
        refine wp_region_held_drew (S := fun V => Quad g7 g8 g10 g11 (limA n) (limF n) (limA m) (limF m) V) (by kernel_rfl) (HF.out.next (Below.refl _ _).drew).quad (fun hHeld => ?_)
        have HB0 := Lib.hid ((Below.refl wr.heap.size wr).drew)
        generalize wr.drew = V0 at *
        refine' wpAnyH_take (i := 0) (oi := _) (v := .agg (limA n)) ?hit1 ?hst1 ?hft1 ?hrt1 ?hQt1 ?hyt1 ?hSt1 ?_
        case hit1 => (simp only [List.getElem?_toArray, List.getElem?_cons_succ, List.getElem?_cons_zero]; rfl)
        case hst1 => kernel_rfl
        case hft1 => kernel_rfl
        case hrt1 => kernel_rfl
        case hQt1 => exact fun _ _ _ h => h
        case hSt1 => assumption
        case hyt1 =>
          refine Or.inl ⟨by rfl, ?_⟩
          intro W hS
          exact quiet_load_row 28 (.tmp 7) _ rfl 28 (limA n) _ hS.1 Tryd.underlying28 rfl oxn.out.1 rfl
        (try simp only [Act.put, List.setIfInBounds_toArray, List.set_cons_zero, List.set_cons_succ])
        refine' wpAnyH_take (i := 1) (oi := _) (v := .agg (limF n)) ?hit2 ?hst2 ?hft2 ?hrt2 ?hQt2 ?hyt2 ?hSt2 ?_
        case hit2 => (simp only [List.getElem?_toArray, List.getElem?_cons_succ, List.getElem?_cons_zero]; rfl)
        case hst2 => kernel_rfl
        case hft2 => kernel_rfl
        case hrt2 => kernel_rfl
        case hQt2 => exact fun _ _ _ h => h
        case hSt2 => assumption
        case hyt2 =>
          refine Or.inl ⟨by rfl, ?_⟩
          intro W hS
          exact quiet_load_row 35 (.tmp 8) _ rfl 35 (limF n) _ hS.2.1 Tryd.underlying35 rfl ofn.out.1 rfl
        (try simp only [Act.put, List.setIfInBounds_toArray, List.set_cons_zero, List.set_cons_succ])
        refine wpAnyH_ready (rs := [2, 3]) (by kernel_rfl) (by simp) ?_
        refine' (AllReadyH.cons (o := _) ?hir3_2 (fun K hK => ?br3_2) (AllReadyH.cons (o := _) ?hir3_3 (fun K hK => ?br3_3) AllReadyH.nil))
        case hir3_2 => (simp only [List.getElem?_toArray, List.getElem?_cons_succ, List.getElem?_cons_zero]; rfl)
        case hir3_3 => (simp only [List.getElem?_toArray, List.getElem?_cons_succ, List.getElem?_cons_zero]; rfl)
        case br3_2 =>
          go_simp
          refine hK.out _ _ ?_ (fun hHeld => ?_)
          · exact (HF.out.next (HB0.out.alloc HB0.out.size _)).quad
          have H4 := Lib.hid (HB0.out.alloc HB0.out.size (.cells #[.int .u64 0, .int .u64 0, .int .u64 0, .int .u64 0] 28))
          have N14_4 := Lib.hid (alloc_new HB0.out 28 #[.int .u64 0, .int .u64 0, .int .u64 0, .int .u64 0])
          have G14_4 := Lib.hid HB0.out.size
          clear hK K
          (try simp only [Act.put, List.setIfInBounds_toArray, List.set_cons_zero, List.set_cons_succ])
          refine wpAnyH_ready (rs := [3]) (by kernel_rfl) (by simp) ?_
          refine' (AllReadyH.cons (o := _) ?hir5_3 (fun K hK => ?br5_3) AllReadyH.nil)
          case hir5_3 => (simp only [List.getElem?_toArray, List.getElem?_cons_succ, List.getElem?_cons_zero]; rfl)
          case br5_3 =>
            go_simp
            refine hK.out _ _ ?_ (fun hHeld => ?_)
            · exact (HF.out.next (H4.out.alloc H4.out.size _)).quad
            have H6 := Lib.hid (H4.out.alloc H4.out.size (.cells z 35))
            have N14_6 := Lib.hid (N14_4.out.alloc (.cells z 35))
            have N15_6 := Lib.hid (alloc_new2 H4.out 35 z)
            have G15_6 := Lib.hid (alloc_size2 H4.out)
            clear hK K
            (try simp only [Act.put, List.setIfInBounds_toArray, List.set_cons_zero, List.set_cons_succ])
            refine wpAnyH_ready (rs := [4]) (by kernel_rfl) (by simp) ?_
            refine' (AllReadyH.cons (o := _) ?hir7_4 (fun K hK => ?br7_4) AllReadyH.nil)
            case hir7_4 => (simp only [List.getElem?_toArray, List.getElem?_cons_succ, List.getElem?_cons_zero]; rfl)
            case br7_4 =>
              refine step_of_wp rfl ?_
              obtain ⟨q0, o0⟩ := six_of (HF.out.next H6.out) N14_6.out N15_6.out G14_4.out G15_6.out HL.out
              have Q8 := Lib.hid q0
              have O8 := Lib.hid o0
              clear q0 o0
              refine wp_store_row 28 (.tmp 14) (.tmp 46) rfl _ (limA n) rfl rfl 28 _ Q8.out.2.1 oxn.out.1 (Z4_size n) oxn.out.2.1 ?_
              refine hK.out _ _ ?_ (fun hHeld => ?_)
              exact (Q8.out.s14 O4.out O8.out (limA n)).1.quad
              clear hK K
              (try simp only [Act.put, List.setIfInBounds_toArray, List.set_cons_zero, List.set_cons_succ])
              refine wpAnyH_ready (rs := [5]) (by kernel_rfl) (by simp) ?_
              refine' (AllReadyH.cons (o := _) ?hir9_5 (fun K hK => ?br9_5) AllReadyH.nil)
              case hir9_5 => (simp only [List.getElem?_toArray, List.getElem?_cons_succ, List.getElem?_cons_zero]; rfl)
              case br9_5 =>
                refine step_of_wp rfl ?_
                have Q10 := Lib.hid (Q8.out.s14 O4.out O8.out (limA n))
                refine wp_store_row 35 (.tmp 15) (.tmp 47) rfl _ (limF n) rfl rfl 35 z Q10.out.2.2 ofn.out.1 (by rw [hz.out, limF_size, limF_size]) ofn.out.2.1 ?_
                refine hK.out _ _ ?_ (fun hHeld => ?_)
                exact (Q10.out.s15 O4.out O8.out (limF n)).1.quad
                clear hK K
                (try simp only [Act.put, List.setIfInBounds_toArray, List.set_cons_zero, List.set_cons_succ])
                refine wpAnyH_done (by kernel_rfl) ?_ _
                have QF := Lib.hid (Q10.out.s15 O4.out O8.out (limF n))
                have PF := Lib.hid (HP.out.old QF.out.1.2.2.2.2)
                clear hHeld
                go_wp2_with fail
                go_meet
                exact ⟨_, _, rfl, rfl, QF.out, O8.out, PF.out⟩
        case br3_3 =>
          go_simp
          refine hK.out _ _ ?_ (fun hHeld => ?_)
          · exact (HF.out.next (HB0.out.alloc HB0.out.size _)).quad
          have H11 := Lib.hid (HB0.out.alloc HB0.out.size (.cells z 35))
          have N15_11 := Lib.hid (alloc_new HB0.out 35 z)
          have G15_11 := Lib.hid HB0.out.size
          clear hK K
          (try simp only [Act.put, List.setIfInBounds_toArray, List.set_cons_zero, List.set_cons_succ])
          refine wpAnyH_ready (rs := [2]) (by kernel_rfl) (by simp) ?_
          refine' (AllReadyH.cons (o := _) ?hir12_2 (fun K hK => ?br12_2) AllReadyH.nil)
          case hir12_2 => (simp only [List.getElem?_toArray, List.getElem?_cons_succ, List.getElem?_cons_zero]; rfl)
          case br12_2 =>
            go_simp
            refine hK.out _ _ ?_ (fun hHeld => ?_)
            · exact (HF.out.next (H11.out.alloc H11.out.size _)).quad
            have H13 := Lib.hid (H11.out.alloc H11.out.size (.cells #[.int .u64 0, .int .u64 0, .int .u64 0, .int .u64 0] 28))
            have N15_13 := Lib.hid (N15_11.out.alloc (.cells #[.int .u64 0, .int .u64 0, .int .u64 0, .int .u64 0] 28))
            have N14_13 := Lib.hid (alloc_new2 H11.out 28 #[.int .u64 0, .int .u64 0, .int .u64 0, .int .u64 0])
            have G14_13 := Lib.hid (alloc_size2 H11.out)
            clear hK K
            (try simp only [Act.put, List.setIfInBounds_toArray, List.set_cons_zero, List.set_cons_succ])
            refine wpAnyH_ready (rs := [4]) (by kernel_rfl) (by simp) ?_
            refine' (AllReadyH.cons (o := _) ?hir14_4 (fun K hK => ?br14_4) AllReadyH.nil)
            case hir14_4 => (simp only [List.getElem?_toArray, List.getElem?_cons_succ, List.getElem?_cons_zero]; rfl)
            case br14_4 =>
              refine step_of_wp rfl ?_
              obtain ⟨q0, o0⟩ := six_of (HF.out.next H13.out) N14_13.out N15_13.out G14_13.out G15_11.out HL.out
              have Q15 := Lib.hid q0
              have O15 := Lib.hid o0
              clear q0 o0
              refine wp_store_row 28 (.tmp 14) (.tmp 46) rfl _ (limA n) rfl rfl 28 _ Q15.out.2.1 oxn.out.1 (Z4_size n) oxn.out.2.1 ?_
              refine hK.out _ _ ?_ (fun hHeld => ?_)
              exact (Q15.out.s14 O4.out O15.out (limA n)).1.quad
              clear hK K
              (try simp only [Act.put, List.setIfInBounds_toArray, List.set_cons_zero, List.set_cons_succ])
              refine wpAnyH_ready (rs := [5]) (by kernel_rfl) (by simp) ?_
              refine' (AllReadyH.cons (o := _) ?hir16_5 (fun K hK => ?br16_5) AllReadyH.nil)
              case hir16_5 => (simp only [List.getElem?_toArray, List.getElem?_cons_succ, List.getElem?_cons_zero]; rfl)
              case br16_5 =>
                refine step_of_wp rfl ?_
                have Q17 := Lib.hid (Q15.out.s14 O4.out O15.out (limA n))
                refine wp_store_row 35 (.tmp 15) (.tmp 47) rfl _ (limF n) rfl rfl 35 z Q17.out.2.2 ofn.out.1 (by rw [hz.out, limF_size, limF_size]) ofn.out.2.1 ?_
                refine hK.out _ _ ?_ (fun hHeld => ?_)
                exact (Q17.out.s15 O4.out O15.out (limF n)).1.quad
                clear hK K
                (try simp only [Act.put, List.setIfInBounds_toArray, List.set_cons_zero, List.set_cons_succ])
                refine wpAnyH_done (by kernel_rfl) ?_ _
                have QF := Lib.hid (Q17.out.s15 O4.out O15.out (limF n))
                have PF := Lib.hid (HP.out.old QF.out.1.2.2.2.2)
                clear hHeld
                go_wp2_with fail
                go_meet
                exact ⟨_, _, rfl, rfl, QF.out, O15.out, PF.out⟩
      case rest =>
        obtain ⟨g14, g15, rfl, rfl, hQ, hO, hPc⟩ := hcut
        have HQ := Lib.hid hQ
        have HO := Lib.hid hO
        have HPc := Lib.hid hPc
        have hreads := (HR.out.below hQ.1.2.2.2.2).2 (by omega)
        obtain ⟨ad, rfl, hadb, hcell⟩ := hreads
        obtain ⟨x, hx⟩ : ∃ x, (Lib.byteCells l)[i]? = some (.int .u8 ((UInt8.toNat x : Nat) : Int)) := by
          have hl : l.length = len := by have := HR.out.1; simpa [Lib.byteCells_length] using this
          exact ⟨l[i], by simp [Lib.byteCells, List.getElem?_eq_getElem (show i < l.length by omega)]⟩
        have g0 := hcell i _ hx
        have hxl := x.toNat_lt
        obtain ⟨r, hr⟩ := named (x.toNat % 4)
        have d3 : (x.toNat : Int) % 4 = (r : Int) := by rw [hr.out]; omega
        have d4 : (x.toNat : Int).tmod 4 = (r : Int) := by rw [Int.tmod_eq_emod_of_nonneg (by omega)]; omega
        have wr8 : IntKind.u8.wrap (r : Int) = (r : Int) := by rw [IntKind.wrap_u8', hr.out]; omega
        have hrc : r = 0 ∨ r = 1 ∨ r = 2 ∨ r = 3 := by rw [hr.out]; omega
        clear hQ hO hPc hx hcell
        generalize wc = W5 at *
        go_upto_block 2 with fail
        (try simp only [Act.put, List.setIfInBounds_toArray, List.set_cons_zero, List.set_cons_succ])
        go_cut [] (fun wx => ∃ k, k < P ∧ Six w g7 g8 g10 g11 g14 g15 (limA n) (limF n) (limA m) (limF m) (limA k) (limF k) wx ∧ PrimeAt wx)
        case first =>
          clear d3 d4 wr8 hxl g0 hadb hr
          rcases hrc with e | e | e | e
          · have t0 : ((r : Int) == 0) = true := by simp; omega
            clear e
            go_upto_region 12 with fail
            refine wp_region_held_drew (S := fun V => Quad g7 g8 g10 g11 (limA n) (limF n) (limA m) (limF m) V) (by kernel_rfl) (HQ.out.next (Below.refl _ _).drew).1.quad (fun hHeld => ?_)
            have HB1 := Lib.hid ((Below.refl W5.heap.size W5).drew)
            have HQ1 := Lib.hid (HQ.out.next HB1.out)
            generalize W5.drew = V1 at *
            refine' wpAnyH_take (i := 0) (oi := _) (v := .agg (limA n)) ?hit18 ?hst18 ?hft18 ?hrt18 ?hQt18 ?hyt18 ?hSt18 ?_
            case hit18 => (simp only [List.getElem?_toArray, List.getElem?_cons_succ, List.getElem?_cons_zero]; rfl)
            case hst18 => kernel_rfl
            case hft18 => kernel_rfl
            case hrt18 => kernel_rfl
            case hQt18 => exact fun _ _ _ h => h
            case hSt18 => assumption
            case hyt18 =>
              refine Or.inl ⟨by rfl, ?_⟩
              intro W hS
              exact quiet_load_row 28 (.tmp 7) _ rfl 28 (limA n) _ hS.1 Tryd.underlying28 rfl oxn.out.1 rfl
            (try simp only [Act.put, List.setIfInBounds_toArray, List.set_cons_zero, List.set_cons_succ])
            refine' wpAnyH_take (i := 1) (oi := _) (v := .agg (limA m)) ?hit19 ?hst19 ?hft19 ?hrt19 ?hQt19 ?hyt19 ?hSt19 ?_
            case hit19 => (simp only [List.getElem?_toArray, List.getElem?_cons_succ, List.getElem?_cons_zero]; rfl)
            case hst19 => kernel_rfl
            case hft19 => kernel_rfl
            case hrt19 => kernel_rfl
            case hQt19 => exact fun _ _ _ h => h
            case hSt19 => assumption
            case hyt19 =>
              refine Or.inl ⟨by rfl, ?_⟩
              intro W hS
              exact quiet_load_row 28 (.tmp 10) _ rfl 28 (limA m) _ hS.2.2.1 Tryd.underlying28 rfl oxm.out.1 rfl
            (try simp only [Act.put, List.setIfInBounds_toArray, List.set_cons_zero, List.set_cons_succ])
            refine' wpAnyH_take (i := 3) (oi := _) (v := .agg (limF n)) ?hit20 ?hst20 ?hft20 ?hrt20 ?hQt20 ?hyt20 ?hSt20 ?_
            case hit20 => (simp only [List.getElem?_toArray, List.getElem?_cons_succ, List.getElem?_cons_zero]; rfl)
            case hst20 => kernel_rfl
            case hft20 => kernel_rfl
            case hrt20 => kernel_rfl
            case hQt20 => exact fun _ _ _ h => h
            case hSt20 => assumption
            case hyt20 =>
              refine Or.inl ⟨by rfl, ?_⟩
              intro W hS
              exact quiet_load_row 35 (.tmp 8) _ rfl 35 (limF n) _ hS.2.1 Tryd.underlying35 rfl ofn.out.1 rfl
            (try simp only [Act.put, List.setIfInBounds_toArray, List.set_cons_zero, List.set_cons_succ])
            refine' wpAnyH_take (i := 4) (oi := _) (v := .agg (limF m)) ?hit21 ?hst21 ?hft21 ?hrt21 ?hQt21 ?hyt21 ?hSt21 ?_
            case hit21 => (simp only [List.getElem?_toArray, List.getElem?_cons_succ, List.getElem?_cons_zero]; rfl)
            case hst21 => kernel_rfl
            case hft21 => kernel_rfl
            case hrt21 => kernel_rfl
            case hQt21 => exact fun _ _ _ h => h
            case hSt21 => assumption
            case hyt21 =>
              refine Or.inl ⟨by rfl, ?_⟩
              intro W hS
              exact quiet_load_row 35 (.tmp 11) _ rfl 35 (limF m) _ hS.2.2.2 Tryd.underlying35 rfl ofm.out.1 rfl
            (try simp only [Act.put, List.setIfInBounds_toArray, List.set_cons_zero, List.set_cons_succ])
            refine wpAnyH_ready (rs := [2]) (by kernel_rfl) (by simp) ?_
            refine' (AllReadyH.cons (o := _) ?hir22_2 (fun K hK => ?br22_2) AllReadyH.nil)
            case hir22_2 => (simp only [List.getElem?_toArray, List.getElem?_cons_succ, List.getElem?_cons_zero]; rfl)
            case br22_2 =>
              go_simp
              refine (HOA.out.1 _ (HPc.out.old HB1.out)).mono ?_
              rintro e w23 ⟨rfl, hb23⟩
              have H23 := Lib.hid (HB1.out.trans (hb23.mono HB1.out.size))
              have NQ_23 := Lib.hid (HQ1.out.next hb23)
              clear hb23
              go_wp2_with fail
              refine hK.out _ _ ?_ (fun hHeld => ?_)
              exact NQ_23.out.1.quad
              clear hK K
              (try simp only [Act.put, List.setIfInBounds_toArray, List.set_cons_zero, List.set_cons_succ])
              refine wpAnyH_ready (rs := [5]) (by kernel_rfl) (by simp) ?_
              refine' (AllReadyH.cons (o := _) ?hir24_5 (fun K hK => ?br24_5) AllReadyH.nil)
              case hir24_5 => (simp only [List.getElem?_toArray, List.getElem?_cons_succ, List.getElem?_cons_zero]; rfl)
              case br24_5 =>
                go_simp
                refine (HOA.out.2 _).mono ?_
                rintro e w25 ⟨rfl, hb25⟩
                have H25 := Lib.hid (H23.out.trans (hb25.mono H23.out.size))
                have NQ_25 := Lib.hid (NQ_23.out.next hb25)
                clear hb25
                go_wp2_with fail
                refine hK.out _ _ ?_ (fun hHeld => ?_)
                exact NQ_25.out.1.quad
                clear hK K
                (try simp only [Act.put, List.setIfInBounds_toArray, List.set_cons_zero, List.set_cons_succ])
                refine wpAnyH_ready (rs := [6]) (by kernel_rfl) (by simp) ?_
                refine' (AllReadyH.cons (o := _) ?hir26_6 (fun K hK => ?br26_6) AllReadyH.nil)
                case hir26_6 => (simp only [List.getElem?_toArray, List.getElem?_cons_succ, List.getElem?_cons_zero]; rfl)
                case br26_6 =>
                  refine step_of_wp rfl ?_
                  refine wp_store_row 28 (.tmp 14) (.tmp 63) rfl g14 (limA ((n + m) % P)) rfl rfl 28 _ NQ_25.out.2.1 (limA_ok2 _).1 (by rw [limA_size, limA_size]) (limA_ok2 _).2.1 ?_
                  refine hK.out _ _ ?_ (fun hHeld => ?_)
                  exact (NQ_25.out.s14 O4.out HO.out (limA ((n + m) % P))).1.quad
                  have Q27 := Lib.hid (NQ_25.out.s14 O4.out HO.out (limA ((n + m) % P)))
                  clear hK K
                  (try simp only [Act.put, List.setIfInBounds_toArray, List.set_cons_zero, List.set_cons_succ])
                  refine wpAnyH_ready (rs := [7]) (by kernel_rfl) (by simp) ?_
                  refine' (AllReadyH.cons (o := _) ?hir28_7 (fun K hK => ?br28_7) AllReadyH.nil)
                  case hir28_7 => (simp only [List.getElem?_toArray, List.getElem?_cons_succ, List.getElem?_cons_zero]; rfl)
                  case br28_7 =>
                    refine step_of_wp rfl ?_
                    refine wp_store_row 35 (.tmp 15) (.tmp 66) rfl g15 (limF ((n + m) % P)) rfl rfl 35 _ Q27.out.2.2 (limF_ok2 _).1 (by rw [limF_size, limF_size]) (limF_ok2 _).2.1 ?_
                    refine hK.out _ _ ?_ (fun hHeld => ?_)
                    exact (Q27.out.s15 O4.out HO.out (limF ((n + m) % P))).1.quad
                    have Q29 := Lib.hid (Q27.out.s15 O4.out HO.out (limF ((n + m) % P)))
                    clear hK K
                    (try simp only [Act.put, List.setIfInBounds_toArray, List.set_cons_zero, List.set_cons_succ])
                    refine wpAnyH_done (by kernel_rfl) ?_ _
                    have QF := Lib.hid Q29.out
                    have PF := Lib.hid (HP.out.old QF.out.1.2.2.2.2)
                    clear hHeld
                    go_wp2_with fail
                    go_meet
                    exact ⟨_, Nat.mod_lt _ P_pos, QF.out, PF.out⟩
          · have t0 : ((r : Int) == 0) = false := by simp; omega
            have t1 : ((r : Int) == 1) = true := by simp; omega
            clear e
            go_upto_region 14 with fail
            refine wp_region_held_drew (S := fun V => Quad g7 g8 g10 g11 (limA n) (limF n) (limA m) (limF m) V) (by kernel_rfl) (HQ.out.next (Below.refl _ _).drew).1.quad (fun hHeld => ?_)
            have HB1 := Lib.hid ((Below.refl W5.heap.size W5).drew)
            have HQ1 := Lib.hid (HQ.out.next HB1.out)
            generalize W5.drew = V1 at *
            refine' wpAnyH_take (i := 0) (oi := _) (v := .agg (limA n)) ?hit30 ?hst30 ?hft30 ?hrt30 ?hQt30 ?hyt30 ?hSt30 ?_
            case hit30 => (simp only [List.getElem?_toArray, List.getElem?_cons_succ, List.getElem?_cons_zero]; rfl)
            case hst30 => kernel_rfl
            case hft30 => kernel_rfl
            case hrt30 => kernel_rfl
            case hQt30 => exact fun _ _ _ h => h
            case hSt30 => assumption
            case hyt30 =>
              refine Or.inl ⟨by rfl, ?_⟩
              intro W hS
              exact quiet_load_row 28 (.tmp 7) _ rfl 28 (limA n) _ hS.1 Tryd.underlying28 rfl oxn.out.1 rfl
            (try simp only [Act.put, List.setIfInBounds_toArray, List.set_cons_zero, List.set_cons_succ])
            refine' wpAnyH_take (i := 1) (oi := _) (v := .agg (limA m)) ?hit31 ?hst31 ?hft31 ?hrt31 ?hQt31 ?hyt31 ?hSt31 ?_
            case hit31 => (simp only [List.getElem?_toArray, List.getElem?_cons_succ, List.getElem?_cons_zero]; rfl)
            case hst31 => kernel_rfl
            case hft31 => kernel_rfl
            case hrt31 => kernel_rfl
            case hQt31 => exact fun _ _ _ h => h
            case hSt31 => assumption
            case hyt31 =>
              refine Or.inl ⟨by rfl, ?_⟩
              intro W hS
              exact quiet_load_row 28 (.tmp 10) _ rfl 28 (limA m) _ hS.2.2.1 Tryd.underlying28 rfl oxm.out.1 rfl
            (try simp only [Act.put, List.setIfInBounds_toArray, List.set_cons_zero, List.set_cons_succ])
            refine' wpAnyH_take (i := 3) (oi := _) (v := .agg (limF n)) ?hit32 ?hst32 ?hft32 ?hrt32 ?hQt32 ?hyt32 ?hSt32 ?_
            case hit32 => (simp only [List.getElem?_toArray, List.getElem?_cons_succ, List.getElem?_cons_zero]; rfl)
            case hst32 => kernel_rfl
            case hft32 => kernel_rfl
            case hrt32 => kernel_rfl
            case hQt32 => exact fun _ _ _ h => h
            case hSt32 => assumption
            case hyt32 =>
              refine Or.inl ⟨by rfl, ?_⟩
              intro W hS
              exact quiet_load_row 35 (.tmp 8) _ rfl 35 (limF n) _ hS.2.1 Tryd.underlying35 rfl ofn.out.1 rfl
            (try simp only [Act.put, List.setIfInBounds_toArray, List.set_cons_zero, List.set_cons_succ])
            refine' wpAnyH_take (i := 4) (oi := _) (v := .agg (limF m)) ?hit33 ?hst33 ?hft33 ?hrt33 ?hQt33 ?hyt33 ?hSt33 ?_
            case hit33 => (simp only [List.getElem?_toArray, List.getElem?_cons_succ, List.getElem?_cons_zero]; rfl)
            case hst33 => kernel_rfl
            case hft33 => kernel_rfl
            case hrt33 => kernel_rfl
            case hQt33 => exact fun _ _ _ h => h
            case hSt33 => assumption
            case hyt33 =>
              refine Or.inl ⟨by rfl, ?_⟩
              intro W hS
              exact quiet_load_row 35 (.tmp 11) _ rfl 35 (limF m) _ hS.2.2.2 Tryd.underlying35 rfl ofm.out.1 rfl
            (try simp only [Act.put, List.setIfInBounds_toArray, List.set_cons_zero, List.set_cons_succ])
            refine wpAnyH_ready (rs := [2]) (by kernel_rfl) (by simp) ?_
            refine' (AllReadyH.cons (o := _) ?hir34_2 (fun K hK => ?br34_2) AllReadyH.nil)
            case hir34_2 => (simp only [List.getElem?_toArray, List.getElem?_cons_succ, List.getElem?_cons_zero]; rfl)
            case br34_2 =>
              go_simp
              refine (HOS.out.1 _ (HPc.out.old HB1.out)).mono ?_
              rintro e w35 ⟨rfl, hb35⟩
              have H35 := Lib.hid (HB1.out.trans (hb35.mono HB1.out.size))
              have NQ_35 := Lib.hid (HQ1.out.next hb35)
              clear hb35
              go_wp2_with fail
              refine hK.out _ _ ?_ (fun hHeld => ?_)
              exact NQ_35.out.1.quad
              clear hK K
              (try simp only [Act.put, List.setIfInBounds_toArray, List.set_cons_zero, List.set_cons_succ])
              refine wpAnyH_ready (rs := [5]) (by kernel_rfl) (by simp) ?_
              refine' (AllReadyH.cons (o := _) ?hir36_5 (fun K hK => ?br36_5) AllReadyH.nil)
              case hir36_5 => (simp only [List.getElem?_toArray, List.getElem?_cons_succ, List.getElem?_cons_zero]; rfl)
              case br36_5 =>
                go_simp
                refine (HOS.out.2 _).mono ?_
                rintro e w37 ⟨rfl, hb37⟩
                have H37 := Lib.hid (H35.out.trans (hb37.mono H35.out.size))
                have NQ_37 := Lib.hid (NQ_35.out.next hb37)
                clear hb37
                go_wp2_with fail
                refine hK.out _ _ ?_ (fun hHeld => ?_)
                exact NQ_37.out.1.quad
                clear hK K
                (try simp only [Act.put, List.setIfInBounds_toArray, List.set_cons_zero, List.set_cons_succ])
                refine wpAnyH_ready (rs := [6]) (by kernel_rfl) (by simp) ?_
                refine' (AllReadyH.cons (o := _) ?hir38_6 (fun K hK => ?br38_6) AllReadyH.nil)
                case hir38_6 => (simp only [List.getElem?_toArray, List.getElem?_cons_succ, List.getElem?_cons_zero]; rfl)
                case br38_6 =>
                  refine step_of_wp rfl ?_
                  refine wp_store_row 28 (.tmp 14) (.tmp 71) rfl g14 (limA ((n + P - m) % P)) rfl rfl 28 _ NQ_37.out.2.1 (limA_ok2 _).1 (by rw [limA_size, limA_size]) (limA_ok2 _).2.1 ?_
                  refine hK.out _ _ ?_ (fun hHeld => ?_)
                  exact (NQ_37.out.s14 O4.out HO.out (limA ((n + P - m) % P))).1.quad
                  have Q39 := Lib.hid (NQ_37.out.s14 O4.out HO.out (limA ((n + P - m) % P)))
                  clear hK K
                  (try simp only [Act.put, List.setIfInBounds_toArray, List.set_cons_zero, List.set_cons_succ])
                  refine wpAnyH_ready (rs := [7]) (by kernel_rfl) (by simp) ?_
                  refine' (AllReadyH.cons (o := _) ?hir40_7 (fun K hK => ?br40_7) AllReadyH.nil)
                  case hir40_7 => (simp only [List.getElem?_toArray, List.getElem?_cons_succ, List.getElem?_cons_zero]; rfl)
                  case br40_7 =>
                    refine step_of_wp rfl ?_
                    refine wp_store_row 35 (.tmp 15) (.tmp 74) rfl g15 (limF ((n + P - m) % P)) rfl rfl 35 _ Q39.out.2.2 (limF_ok2 _).1 (by rw [limF_size, limF_size]) (limF_ok2 _).2.1 ?_
                    refine hK.out _ _ ?_ (fun hHeld => ?_)
                    exact (Q39.out.s15 O4.out HO.out (limF ((n + P - m) % P))).1.quad
                    have Q41 := Lib.hid (Q39.out.s15 O4.out HO.out (limF ((n + P - m) % P)))
                    clear hK K
                    (try simp only [Act.put, List.setIfInBounds_toArray, List.set_cons_zero, List.set_cons_succ])
                    refine wpAnyH_done (by kernel_rfl) ?_ _
                    have QF := Lib.hid Q41.out
                    have PF := Lib.hid (HP.out.old QF.out.1.2.2.2.2)
                    clear hHeld
                    go_wp2_with fail
                    go_meet
                    exact ⟨_, Nat.mod_lt _ P_pos, QF.out, PF.out⟩
          · have t0 : ((r : Int) == 0) = false := by simp; omega
            have t1 : ((r : Int) == 1) = false := by simp; omega
            have t2 : ((r : Int) == 2) = true := by simp; omega
            clear e
            go_upto_region 16 with fail
            refine wp_region_held_drew (S := fun V => Quad g7 g8 g10 g11 (limA n) (limF n) (limA m) (limF m) V) (by kernel_rfl) (HQ.out.next (Below.refl _ _).drew).1.quad (fun hHeld => ?_)
            have HB1 := Lib.hid ((Below.refl W5.heap.size W5).drew)
            have HQ1 := Lib.hid (HQ.out.next HB1.out)
            generalize W5.drew = V1 at *
            refine' wpAnyH_take (i := 0) (oi := _) (v := .agg (limA n)) ?hit42 ?hst42 ?hft42 ?hrt42 ?hQt42 ?hyt42 ?hSt42 ?_
            case hit42 => (simp only [List.getElem?_toArray, List.getElem?_cons_succ, List.getElem?_cons_zero]; rfl)
            case hst42 => kernel_rfl
            case hft42 => kernel_rfl
            case hrt42 => kernel_rfl
            case hQt42 => exact fun _ _ _ h => h
            case hSt42 => assumption
            case hyt42 =>
              refine Or.inl ⟨by rfl, ?_⟩
              intro W hS
              exact quiet_load_row 28 (.tmp 7) _ rfl 28 (limA n) _ hS.1 Tryd.underlying28 rfl oxn.out.1 rfl
            (try simp only [Act.put, List.setIfInBounds_toArray, List.set_cons_zero, List.set_cons_succ])
            refine' wpAnyH_take (i := 1) (oi := _) (v := .agg (limA m)) ?hit43 ?hst43 ?hft43 ?hrt43 ?hQt43 ?hyt43 ?hSt43 ?_
            case hit43 => (simp only [List.getElem?_toArray, List.getElem?_cons_succ, List.getElem?_cons_zero]; rfl)
            case hst43 => kernel_rfl
            case hft43 => kernel_rfl
            case hrt43 => kernel_rfl
            case hQt43 => exact fun _ _ _ h => h
            case hSt43 => assumption
            case hyt43 =>
              refine Or.inl ⟨by rfl, ?_⟩
              intro W hS
              exact quiet_load_row 28 (.tmp 10) _ rfl 28 (limA m) _ hS.2.2.1 Tryd.underlying28 rfl oxm.out.1 rfl
            (try simp only [Act.put, List.setIfInBounds_toArray, List.set_cons_zero, List.set_cons_succ])
            refine' wpAnyH_take (i := 3) (oi := _) (v := .agg (limF n)) ?hit44 ?hst44 ?hft44 ?hrt44 ?hQt44 ?hyt44 ?hSt44 ?_
            case hit44 => (simp only [List.getElem?_toArray, List.getElem?_cons_succ, List.getElem?_cons_zero]; rfl)
            case hst44 => kernel_rfl
            case hft44 => kernel_rfl
            case hrt44 => kernel_rfl
            case hQt44 => exact fun _ _ _ h => h
            case hSt44 => assumption
            case hyt44 =>
              refine Or.inl ⟨by rfl, ?_⟩
              intro W hS
              exact quiet_load_row 35 (.tmp 8) _ rfl 35 (limF n) _ hS.2.1 Tryd.underlying35 rfl ofn.out.1 rfl
            (try simp only [Act.put, List.setIfInBounds_toArray, List.set_cons_zero, List.set_cons_succ])
            refine' wpAnyH_take (i := 4) (oi := _) (v := .agg (limF m)) ?hit45 ?hst45 ?hft45 ?hrt45 ?hQt45 ?hyt45 ?hSt45 ?_
            case hit45 => (simp only [List.getElem?_toArray, List.getElem?_cons_succ, List.getElem?_cons_zero]; rfl)
            case hst45 => kernel_rfl
            case hft45 => kernel_rfl
            case hrt45 => kernel_rfl
            case hQt45 => exact fun _ _ _ h => h
            case hSt45 => assumption
            case hyt45 =>
              refine Or.inl ⟨by rfl, ?_⟩
              intro W hS
              exact quiet_load_row 35 (.tmp 11) _ rfl 35 (limF m) _ hS.2.2.2 Tryd.underlying35 rfl ofm.out.1 rfl
            (try simp only [Act.put, List.setIfInBounds_toArray, List.set_cons_zero, List.set_cons_succ])
            refine wpAnyH_ready (rs := [2]) (by kernel_rfl) (by simp) ?_
            refine' (AllReadyH.cons (o := _) ?hir46_2 (fun K hK => ?br46_2) AllReadyH.nil)
            case hir46_2 => (simp only [List.getElem?_toArray, List.getElem?_cons_succ, List.getElem?_cons_zero]; rfl)
            case br46_2 =>
              go_simp
              refine (HOM.out.1 _ (HPc.out.old HB1.out)).mono ?_
              rintro e w47 ⟨rfl, hb47⟩
              have H47 := Lib.hid (HB1.out.trans (hb47.mono HB1.out.size))
              have NQ_47 := Lib.hid (HQ1.out.next hb47)
              clear hb47
              go_wp2_with fail
              refine hK.out _ _ ?_ (fun hHeld => ?_)
              exact NQ_47.out.1.quad
              clear hK K
              (try simp only [Act.put, List.setIfInBounds_toArray, List.set_cons_zero, List.set_cons_succ])
              refine wpAnyH_ready (rs := [5]) (by kernel_rfl) (by simp) ?_
              refine' (AllReadyH.cons (o := _) ?hir48_5 (fun K hK => ?br48_5) AllReadyH.nil)
              case hir48_5 => (simp only [List.getElem?_toArray, List.getElem?_cons_succ, List.getElem?_cons_zero]; rfl)
              case br48_5 =>
                go_simp
                refine (HOM.out.2 _).mono ?_
                rintro e w49 ⟨rfl, hb49⟩
                have H49 := Lib.hid (H47.out.trans (hb49.mono H47.out.size))
                have NQ_49 := Lib.hid (NQ_47.out.next hb49)
                clear hb49
                go_wp2_with fail
                refine hK.out _ _ ?_ (fun hHeld => ?_)
                exact NQ_49.out.1.quad
                clear hK K
                (try simp only [Act.put, List.setIfInBounds_toArray, List.set_cons_zero, List.set_cons_succ])
                refine wpAnyH_ready (rs := [6]) (by kernel_rfl) (by simp) ?_
                refine' (AllReadyH.cons (o := _) ?hir50_6 (fun K hK => ?br50_6) AllReadyH.nil)
                case hir50_6 => (simp only [List.getElem?_toArray, List.getElem?_cons_succ, List.getElem?_cons_zero]; rfl)
                case br50_6 =>
                  refine step_of_wp rfl ?_
                  refine wp_store_row 28 (.tmp 14) (.tmp 79) rfl g14 (limA (n * m % P)) rfl rfl 28 _ NQ_49.out.2.1 (limA_ok2 _).1 (by rw [limA_size, limA_size]) (limA_ok2 _).2.1 ?_
                  refine hK.out _ _ ?_ (fun hHeld => ?_)
                  exact (NQ_49.out.s14 O4.out HO.out (limA (n * m % P))).1.quad
                  have Q51 := Lib.hid (NQ_49.out.s14 O4.out HO.out (limA (n * m % P)))
                  clear hK K
                  (try simp only [Act.put, List.setIfInBounds_toArray, List.set_cons_zero, List.set_cons_succ])
                  refine wpAnyH_ready (rs := [7]) (by kernel_rfl) (by simp) ?_
                  refine' (AllReadyH.cons (o := _) ?hir52_7 (fun K hK => ?br52_7) AllReadyH.nil)
                  case hir52_7 => (simp only [List.getElem?_toArray, List.getElem?_cons_succ, List.getElem?_cons_zero]; rfl)
                  case br52_7 =>
                    refine step_of_wp rfl ?_
                    refine wp_store_row 35 (.tmp 15) (.tmp 82) rfl g15 (limF (n * m % P)) rfl rfl 35 _ Q51.out.2.2 (limF_ok2 _).1 (by rw [limF_size, limF_size]) (limF_ok2 _).2.1 ?_
                    refine hK.out _ _ ?_ (fun hHeld => ?_)
                    exact (Q51.out.s15 O4.out HO.out (limF (n * m % P))).1.quad
                    have Q53 := Lib.hid (Q51.out.s15 O4.out HO.out (limF (n * m % P)))
                    clear hK K
                    (try simp only [Act.put, List.setIfInBounds_toArray, List.set_cons_zero, List.set_cons_succ])
                    refine wpAnyH_done (by kernel_rfl) ?_ _
                    have QF := Lib.hid Q53.out
                    have PF := Lib.hid (HP.out.old QF.out.1.2.2.2.2)
                    clear hHeld
                    go_wp2_with fail
                    go_meet
                    exact ⟨_, Nat.mod_lt _ P_pos, QF.out, PF.out⟩
          · have t0 : ((r : Int) == 0) = false := by simp; omega
            have t1 : ((r : Int) == 1) = false := by simp; omega
            have t2 : ((r : Int) == 2) = false := by simp; omega
            clear e
            go_upto_region 10 with fail
            refine wp_region_held_drew (S := fun V => Quad g7 g8 g10 g11 (limA n) (limF n) (limA m) (limF m) V) (by kernel_rfl) (HQ.out.next (Below.refl _ _).drew).1.quad (fun hHeld => ?_)
            have HB1 := Lib.hid ((Below.refl W5.heap.size W5).drew)
            have HQ1 := Lib.hid (HQ.out.next HB1.out)
            generalize W5.drew = V1 at *
            refine' wpAnyH_take (i := 0) (oi := _) (v := .agg (limA m)) ?hit54 ?hst54 ?hft54 ?hrt54 ?hQt54 ?hyt54 ?hSt54 ?_
            case hit54 => (simp only [List.getElem?_toArray, List.getElem?_cons_succ, List.getElem?_cons_zero]; rfl)
            case hst54 => kernel_rfl
            case hft54 => kernel_rfl
            case hrt54 => kernel_rfl
            case hQt54 => exact fun _ _ _ h => h
            case hSt54 => assumption
            case hyt54 =>
              refine Or.inl ⟨by rfl, ?_⟩
              intro W hS
              exact quiet_load_row 28 (.tmp 10) _ rfl 28 (limA m) _ hS.2.2.1 Tryd.underlying28 rfl oxm.out.1 rfl
            (try simp only [Act.put, List.setIfInBounds_toArray, List.set_cons_zero, List.set_cons_succ])
            refine' wpAnyH_take (i := 1) (oi := _) (v := .agg (limA n)) ?hit55 ?hst55 ?hft55 ?hrt55 ?hQt55 ?hyt55 ?hSt55 ?_
            case hit55 => (simp only [List.getElem?_toArray, List.getElem?_cons_succ, List.getElem?_cons_zero]; rfl)
            case hst55 => kernel_rfl
            case hft55 => kernel_rfl
            case hrt55 => kernel_rfl
            case hQt55 => exact fun _ _ _ h => h
            case hSt55 => assumption
            case hyt55 =>
              refine Or.inl ⟨by rfl, ?_⟩
              intro W hS
              exact quiet_load_row 28 (.tmp 7) _ rfl 28 (limA n) _ hS.1 Tryd.underlying28 rfl oxn.out.1 rfl
            (try simp only [Act.put, List.setIfInBounds_toArray, List.set_cons_zero, List.set_cons_succ])
            refine' wpAnyH_take (i := 3) (oi := _) (v := .agg (limF m)) ?hit56 ?hst56 ?hft56 ?hrt56 ?hQt56 ?hyt56 ?hSt56 ?_
            case hit56 => (simp only [List.getElem?_toArray, List.getElem?_cons_succ, List.getElem?_cons_zero]; rfl)
            case hst56 => kernel_rfl
            case hft56 => kernel_rfl
            case hrt56 => kernel_rfl
            case hQt56 => exact fun _ _ _ h => h
            case hSt56 => assumption
            case hyt56 =>
              refine Or.inl ⟨by rfl, ?_⟩
              intro W hS
              exact quiet_load_row 35 (.tmp 11) _ rfl 35 (limF m) _ hS.2.2.2 Tryd.underlying35 rfl ofm.out.1 rfl
            (try simp only [Act.put, List.setIfInBounds_toArray, List.set_cons_zero, List.set_cons_succ])
            refine' wpAnyH_take (i := 4) (oi := _) (v := .agg (limF n)) ?hit57 ?hst57 ?hft57 ?hrt57 ?hQt57 ?hyt57 ?hSt57 ?_
            case hit57 => (simp only [List.getElem?_toArray, List.getElem?_cons_succ, List.getElem?_cons_zero]; rfl)
            case hst57 => kernel_rfl
            case hft57 => kernel_rfl
            case hrt57 => kernel_rfl
            case hQt57 => exact fun _ _ _ h => h
            case hSt57 => assumption
            case hyt57 =>
              refine Or.inl ⟨by rfl, ?_⟩
              intro W hS
              exact quiet_load_row 35 (.tmp 8) _ rfl 35 (limF n) _ hS.2.1 Tryd.underlying35 rfl ofn.out.1 rfl
            (try simp only [Act.put, List.setIfInBounds_toArray, List.set_cons_zero, List.set_cons_succ])
            refine wpAnyH_ready (rs := [2]) (by kernel_rfl) (by simp) ?_
            refine' (AllReadyH.cons (o := _) ?hir58_2 (fun K hK => ?br58_2) AllReadyH.nil)
            case hir58_2 => (simp only [List.getElem?_toArray, List.getElem?_cons_succ, List.getElem?_cons_zero]; rfl)
            case br58_2 =>
              go_simp
              refine (HOT.out.1 _ (HPc.out.old HB1.out)).mono ?_
              rintro e w59 ⟨rfl, hb59⟩
              have H59 := Lib.hid (HB1.out.trans (hb59.mono HB1.out.size))
              have NQ_59 := Lib.hid (HQ1.out.next hb59)
              clear hb59
              go_wp2_with fail
              refine hK.out _ _ ?_ (fun hHeld => ?_)
              exact NQ_59.out.1.quad
              clear hK K
              (try simp only [Act.put, List.setIfInBounds_toArray, List.set_cons_zero, List.set_cons_succ])
              refine wpAnyH_ready (rs := [5]) (by kernel_rfl) (by simp) ?_
              refine' (AllReadyH.cons (o := _) ?hir60_5 (fun K hK => ?br60_5) AllReadyH.nil)
              case hir60_5 => (simp only [List.getElem?_toArray, List.getElem?_cons_succ, List.getElem?_cons_zero]; rfl)
              case br60_5 =>
                go_simp
                refine (HOT.out.2 _).mono ?_
                rintro e w61 ⟨rfl, hb61⟩
                have H61 := Lib.hid (H59.out.trans (hb61.mono H59.out.size))
                have NQ_61 := Lib.hid (NQ_59.out.next hb61)
                clear hb61
                go_wp2_with fail
                refine hK.out _ _ ?_ (fun hHeld => ?_)
                exact NQ_61.out.1.quad
                clear hK K
                (try simp only [Act.put, List.setIfInBounds_toArray, List.set_cons_zero, List.set_cons_succ])
                refine wpAnyH_ready (rs := [6]) (by kernel_rfl) (by simp) ?_
                refine' (AllReadyH.cons (o := _) ?hir62_6 (fun K hK => ?br62_6) AllReadyH.nil)
                case hir62_6 => (simp only [List.getElem?_toArray, List.getElem?_cons_succ, List.getElem?_cons_zero]; rfl)
                case br62_6 =>
                  refine step_of_wp rfl ?_
                  refine wp_store_row 28 (.tmp 14) (.tmp 55) rfl g14 (limA ((m + P - n) % P)) rfl rfl 28 _ NQ_61.out.2.1 (limA_ok2 _).1 (by rw [limA_size, limA_size]) (limA_ok2 _).2.1 ?_
                  refine hK.out _ _ ?_ (fun hHeld => ?_)
                  exact (NQ_61.out.s14 O4.out HO.out (limA ((m + P - n) % P))).1.quad
                  have Q63 := Lib.hid (NQ_61.out.s14 O4.out HO.out (limA ((m + P - n) % P)))
                  clear hK K
                  (try simp only [Act.put, List.setIfInBounds_toArray, List.set_cons_zero, List.set_cons_succ])
                  refine wpAnyH_ready (rs := [7]) (by kernel_rfl) (by simp) ?_
                  refine' (AllReadyH.cons (o := _) ?hir64_7 (fun K hK => ?br64_7) AllReadyH.nil)
                  case hir64_7 => (simp only [List.getElem?_toArray, List.getElem?_cons_succ, List.getElem?_cons_zero]; rfl)
                  case br64_7 =>
                    refine step_of_wp rfl ?_
                    refine wp_store_row 35 (.tmp 15) (.tmp 58) rfl g15 (limF ((m + P - n) % P)) rfl rfl 35 _ Q63.out.2.2 (limF_ok2 _).1 (by rw [limF_size, limF_size]) (limF_ok2 _).2.1 ?_
                    refine hK.out _ _ ?_ (fun hHeld => ?_)
                    exact (Q63.out.s15 O4.out HO.out (limF ((m + P - n) % P))).1.quad
                    have Q65 := Lib.hid (Q63.out.s15 O4.out HO.out (limF ((m + P - n) % P)))
                    clear hK K
                    (try simp only [Act.put, List.setIfInBounds_toArray, List.set_cons_zero, List.set_cons_succ])
                    refine wpAnyH_done (by kernel_rfl) ?_ _
                    have QF := Lib.hid Q65.out
                    have PF := Lib.hid (HP.out.old QF.out.1.2.2.2.2)
                    clear hHeld
                    go_wp2_with fail
                    go_meet
                    exact ⟨_, Nat.mod_lt _ P_pos, QF.out, PF.out⟩
        case rest =>
          obtain ⟨k, hk, hQ2, hP2⟩ := hcut
          have HQ2 := Lib.hid hQ2
          have HP2 := Lib.hid hP2
          have HK := Lib.hid hk
          have oxk := Lib.hid (limA_ok2 k)
          have ofk := Lib.hid (limF_ok2 k)
          clear hQ2 hP2 hk d3 d4 wr8 hxl g0 hadb hr hrc
          generalize wc = W6 at *
          go_upto_region 19 with (first | (refine wpList_load_row rfl 28 (.tmp 14) rfl g14 rfl 28 (limA k) (0, 0) _ HQ2.out.2.1 Tryd.underlying28 rfl oxk.out.1 ?_) |
            (refine wpList_load_row rfl 35 (.tmp 15) rfl g15 rfl 35 (limF k) (0, 0) _ HQ2.out.2.2 Tryd.underlying35 rfl ofk.out.1 ?_))
          refine (same_true k (lt256 HK.out) _).mono ?_
          rintro e w7 ⟨rfl, hbb⟩
          have HQ3 := Lib.hid (HQ2.out.next hbb)
          clear hbb
          go_upto_region 19 with fail
          refine wp_region_held_drew (S := fun V => Blk V g14 28 (limA k) ∧ Blk V g15 35 (limF k)) (by kernel_rfl) ⟨HQ3.out.2.1.drew, HQ3.out.2.2.drew⟩ (fun hHeld => ?_)
          have HB4 := Lib.hid ((Below.refl w7.heap.size w7).drew)
          have HQ4 := Lib.hid (HQ3.out.next HB4.out)
          generalize w7.drew = V7 at *
          refine' wpAnyH_take (i := 2) (oi := _) (v := .agg (limA k)) ?hit66 ?hst66 ?hft66 ?hrt66 ?hQt66 ?hyt66 ?hSt66 ?_
          case hit66 => (simp only [List.getElem?_toArray, List.getElem?_cons_succ, List.getElem?_cons_zero]; rfl)
          case hst66 => kernel_rfl
          case hft66 => kernel_rfl
          case hrt66 => kernel_rfl
          case hQt66 => exact fun _ _ _ h => h
          case hSt66 => assumption
          case hyt66 =>
            refine Or.inl ⟨by rfl, ?_⟩
            intro W hS
            exact quiet_load_row 28 (.tmp 14) _ rfl 28 (limA k) _ hS.1 Tryd.underlying28 rfl oxk.out.1 rfl
          (try simp only [Act.put, List.setIfInBounds_toArray, List.set_cons_zero, List.set_cons_succ])
          refine' wpAnyH_take (i := 3) (oi := _) (v := .agg (limF k)) ?hit67 ?hst67 ?hft67 ?hrt67 ?hQt67 ?hyt67 ?hSt67 ?_
          case hit67 => (simp only [List.getElem?_toArray, List.getElem?_cons_succ, List.getElem?_cons_zero]; rfl)
          case hst67 => kernel_rfl
          case hft67 => kernel_rfl
          case hrt67 => kernel_rfl
          case hQt67 => exact fun _ _ _ h => h
          case hSt67 => assumption
          case hyt67 =>
            refine Or.inl ⟨by rfl, ?_⟩
            intro W hS
            exact quiet_load_row 35 (.tmp 15) _ rfl 35 (limF k) _ hS.2 Tryd.underlying35 rfl ofk.out.1 rfl
          (try simp only [Act.put, List.setIfInBounds_toArray, List.set_cons_zero, List.set_cons_succ])
          refine wpAnyH_ready (rs := [0, 1]) (by kernel_rfl) (by simp) ?_
          refine' (AllReadyH.cons (o := _) ?hir68_0 (fun K hK => ?br68_0) (AllReadyH.cons (o := _) ?hir68_1 (fun K hK => ?br68_1) AllReadyH.nil))
          case hir68_0 => (simp only [List.getElem?_toArray, List.getElem?_cons_succ, List.getElem?_cons_zero]; rfl)
          case hir68_1 => (simp only [List.getElem?_toArray, List.getElem?_cons_succ, List.getElem?_cons_zero]; rfl)
          case br68_0 =>
            refine step_of_wp rfl ?_
            refine wp_load_row 28 (.tmp 10) rfl g10 rfl 28 (limA m) (0, 0) _ HQ4.out.1.2.2.1 Tryd.underlying28 rfl oxm.out.1 ?_
            refine hK.out _ _ ?_ (fun hHeld => ?_)
            exact ⟨HQ4.out.2.1, HQ4.out.2.2⟩
            clear hK K
            (try simp only [Act.put, List.setIfInBounds_toArray, List.set_cons_zero, List.set_cons_succ])
            refine wpAnyH_ready (rs := [1, 4]) (by kernel_rfl) (by simp) ?_
            refine' (AllReadyH.cons (o := _) ?hir70_1 (fun K hK => ?br70_1) (AllReadyH.cons (o := _) ?hir70_4 (fun K hK => ?br70_4) AllReadyH.nil))
            case hir70_1 => (simp only [List.getElem?_toArray, List.getElem?_cons_succ, List.getElem?_cons_zero]; rfl)
            case hir70_4 => (simp only [List.getElem?_toArray, List.getElem?_cons_succ, List.getElem?_cons_zero]; rfl)
            case br70_1 =>
              refine step_of_wp rfl ?_
              refine wp_load_row 35 (.tmp 11) rfl g11 rfl 35 (limF m) (0, 0) _ HQ4.out.1.2.2.2.1 Tryd.underlying35 rfl ofm.out.1 ?_
              refine hK.out _ _ ?_ (fun hHeld => ?_)
              exact ⟨HQ4.out.2.1, HQ4.out.2.2⟩
              clear hK K
              (try simp only [Act.put, List.setIfInBounds_toArray, List.set_cons_zero, List.set_cons_succ])
              refine wpAnyH_ready (rs := [4]) (by kernel_rfl) (by simp) ?_
              refine' (AllReadyH.cons (o := _) ?hir72_4 (fun K hK => ?br72_4) AllReadyH.nil)
              case hir72_4 => (simp only [List.getElem?_toArray, List.getElem?_cons_succ, List.getElem?_cons_zero]; rfl)
              case br72_4 =>
                refine step_of_wp rfl ?_
                refine wp_store_row 28 (.tmp 7) (.tmp 87) rfl g7 (limA m) rfl rfl 28 (limA n) HQ4.out.1.1 oxm.out.1 (by rw [limA_size, limA_size]) oxm.out.2.1 ?_
                refine hK.out _ _ ?_ (fun hHeld => ?_)
                exact ⟨(HQ4.out.s7 O4.out HO.out (limA m)).2.1, (HQ4.out.s7 O4.out HO.out (limA m)).2.2⟩
                have Q73 := Lib.hid (HQ4.out.s7 O4.out HO.out (limA m))
                clear hK K
                (try simp only [Act.put, List.setIfInBounds_toArray, List.set_cons_zero, List.set_cons_succ])
                refine wpAnyH_ready (rs := [5]) (by kernel_rfl) (by simp) ?_
                refine' (AllReadyH.cons (o := _) ?hir74_5 (fun K hK => ?br74_5) AllReadyH.nil)
                case hir74_5 => (simp only [List.getElem?_toArray, List.getElem?_cons_succ, List.getElem?_cons_zero]; rfl)
                case br74_5 =>
                  refine step_of_wp rfl ?_
                  refine wp_store_row 35 (.tmp 8) (.tmp 88) rfl g8 (limF m) rfl rfl 35 (limF n) Q73.out.1.2.1 ofm.out.1 (by rw [limF_size, limF_size]) ofm.out.2.1 ?_
                  refine hK.out _ _ ?_ (fun hHeld => ?_)
                  exact ⟨(Q73.out.s8 O4.out HO.out (limF m)).2.1, (Q73.out.s8 O4.out HO.out (limF m)).2.2⟩
                  have Q75 := Lib.hid (Q73.out.s8 O4.out HO.out (limF m))
                  clear hK K
                  (try simp only [Act.put, List.setIfInBounds_toArray, List.set_cons_zero, List.set_cons_succ])
                  refine wpAnyH_ready (rs := [6]) (by kernel_rfl) (by simp) ?_
                  refine' (AllReadyH.cons (o := _) ?hir76_6 (fun K hK => ?br76_6) AllReadyH.nil)
                  case hir76_6 => (simp only [List.getElem?_toArray, List.getElem?_cons_succ, List.getElem?_cons_zero]; rfl)
                  case br76_6 =>
                    refine step_of_wp rfl ?_
                    refine wp_store_row 28 (.tmp 10) (.tmp 89) rfl g10 (limA k) rfl rfl 28 (limA m) Q75.out.1.2.2.1 oxk.out.1 (by rw [limA_size, limA_size]) oxk.out.2.1 ?_
                    refine hK.out _ _ ?_ (fun hHeld => ?_)
                    exact ⟨(Q75.out.s10 O4.out HO.out (limA k)).2.1, (Q75.out.s10 O4.out HO.out (limA k)).2.2⟩
                    have Q77 := Lib.hid (Q75.out.s10 O4.out HO.out (limA k))
                    clear hK K
                    (try simp only [Act.put, List.setIfInBounds_toArray, List.set_cons_zero, List.set_cons_succ])
                    refine wpAnyH_ready (rs := [7]) (by kernel_rfl) (by simp) ?_
                    refine' (AllReadyH.cons (o := _) ?hir78_7 (fun K hK => ?br78_7) AllReadyH.nil)
                    case hir78_7 => (simp only [List.getElem?_toArray, List.getElem?_cons_succ, List.getElem?_cons_zero]; rfl)
                    case br78_7 =>
                      refine step_of_wp rfl ?_
                      refine wp_store_row 35 (.tmp 11) (.tmp 90) rfl g11 (limF k) rfl rfl 35 (limF m) Q77.out.1.2.2.2.1 ofk.out.1 (by rw [limF_size, limF_size]) ofk.out.2.1 ?_
                      refine hK.out _ _ ?_ (fun hHeld => ?_)
                      exact ⟨(Q77.out.s11 O4.out HO.out (limF k)).2.1, (Q77.out.s11 O4.out HO.out (limF k)).2.2⟩
                      have Q79 := Lib.hid (Q77.out.s11 O4.out HO.out (limF k))
                      clear hK K
                      (try simp only [Act.put, List.setIfInBounds_toArray, List.set_cons_zero, List.set_cons_succ])
                      refine wpAnyH_done (by kernel_rfl) ?_ _
                      have QF := Lib.hid Q79.out.1
                      clear hHeld
                      go_wp2_with fail
                      go_roundg G0
                      case measure => have := hG.out; omega
                      case rel => exact ⟨i + 1, m, k, by go_num, hG.out.2, HM.out, HK.out, QF.out⟩
            case br70_4 =>
              refine step_of_wp rfl ?_
              refine wp_store_row 28 (.tmp 7) (.tmp 87) rfl g7 (limA m) rfl rfl 28 (limA n) HQ4.out.1.1 oxm.out.1 (by rw [limA_size, limA_size]) oxm.out.2.1 ?_
              refine hK.out _ _ ?_ (fun hHeld => ?_)
              exact ⟨(HQ4.out.s7 O4.out HO.out (limA m)).2.1, (HQ4.out.s7 O4.out HO.out (limA m)).2.2⟩
              have Q80 := Lib.hid (HQ4.out.s7 O4.out HO.out (limA m))
              clear hK K
              (try simp only [Act.put, List.setIfInBounds_toArray, List.set_cons_zero, List.set_cons_succ])
              refine wpAnyH_ready (rs := [1]) (by kernel_rfl) (by simp) ?_
              refine' (AllReadyH.cons (o := _) ?hir81_1 (fun K hK => ?br81_1) AllReadyH.nil)
              case hir81_1 => (simp only [List.getElem?_toArray, List.getElem?_cons_succ, List.getElem?_cons_zero]; rfl)
              case br81_1 =>
                refine step_of_wp rfl ?_
                refine wp_load_row 35 (.tmp 11) rfl g11 rfl 35 (limF m) (0, 0) _ Q80.out.1.2.2.2.1 Tryd.underlying35 rfl ofm.out.1 ?_
                refine hK.out _ _ ?_ (fun hHeld => ?_)
                exact ⟨Q80.out.2.1, Q80.out.2.2⟩
                clear hK K
                (try simp only [Act.put, List.setIfInBounds_toArray, List.set_cons_zero, List.set_cons_succ])
                refine wpAnyH_ready (rs := [5]) (by kernel_rfl) (by simp) ?_
                refine' (AllReadyH.cons (o := _) ?hir83_5 (fun K hK => ?br83_5) AllReadyH.nil)
                case hir83_5 => (simp only [List.getElem?_toArray, List.getElem?_cons_succ, List.getElem?_cons_zero]; rfl)
                case br83_5 =>
                  refine step_of_wp rfl ?_
                  refine wp_store_row 35 (.tmp 8) (.tmp 88) rfl g8 (limF m) rfl rfl 35 (limF n) Q80.out.1.2.1 ofm.out.1 (by rw [limF_size, limF_size]) ofm.out.2.1 ?_
                  refine hK.out _ _ ?_ (fun hHeld => ?_)
                  exact ⟨(Q80.out.s8 O4.out HO.out (limF m)).2.1, (Q80.out.s8 O4.out HO.out (limF m)).2.2⟩
                  have Q84 := Lib.hid (Q80.out.s8 O4.out HO.out (limF m))
                  clear hK K
                  (try simp only [Act.put, List.setIfInBounds_toArray, List.set_cons_zero, List.set_cons_succ])
                  refine wpAnyH_ready (rs := [6]) (by kernel_rfl) (by simp) ?_
                  refine' (AllReadyH.cons (o := _) ?hir85_6 (fun K hK => ?br85_6) AllReadyH.nil)
                  case hir85_6 => (simp only [List.getElem?_toArray, List.getElem?_cons_succ, List.getElem?_cons_zero]; rfl)
                  case br85_6 =>
                    refine step_of_wp rfl ?_
                    refine wp_store_row 28 (.tmp 10) (.tmp 89) rfl g10 (limA k) rfl rfl 28 (limA m) Q84.out.1.2.2.1 oxk.out.1 (by rw [limA_size, limA_size]) oxk.out.2.1 ?_
                    refine hK.out _ _ ?_ (fun hHeld => ?_)
                    exact ⟨(Q84.out.s10 O4.out HO.out (limA k)).2.1, (Q84.out.s10 O4.out HO.out (limA k)).2.2⟩
                    have Q86 := Lib.hid (Q84.out.s10 O4.out HO.out (limA k))
                    clear hK K
                    (try simp only [Act.put, List.setIfInBounds_toArray, List.set_cons_zero, List.set_cons_succ])
                    refine wpAnyH_ready (rs := [7]) (by kernel_rfl) (by simp) ?_
                    refine' (AllReadyH.cons (o := _) ?hir87_7 (fun K hK => ?br87_7) AllReadyH.nil)
                    case hir87_7 => (simp only [List.getElem?_toArray, List.getElem?_cons_succ, List.getElem?_cons_zero]; rfl)
                    case br87_7 =>
                      refine step_of_wp rfl ?_
                      refine wp_store_row 35 (.tmp 11) (.tmp 90) rfl g11 (limF k) rfl rfl 35 (limF m) Q86.out.1.2.2.2.1 ofk.out.1 (by rw [limF_size, limF_size]) ofk.out.2.1 ?_
                      refine hK.out _ _ ?_ (fun hHeld => ?_)
                      exact ⟨(Q86.out.s11 O4.out HO.out (limF k)).2.1, (Q86.out.s11 O4.out HO.out (limF k)).2.2⟩
                      have Q88 := Lib.hid (Q86.out.s11 O4.out HO.out (limF k))
                      clear hK K
                      (try simp only [Act.put, List.setIfInBounds_toArray, List.set_cons_zero, List.set_cons_succ])
                      refine wpAnyH_done (by kernel_rfl) ?_ _
                      have QF := Lib.hid Q88.out.1
                      clear hHeld
                      go_wp2_with fail
                      go_roundg G0
                      case measure => have := hG.out; omega
                      case rel => exact ⟨i + 1, m, k, by go_num, hG.out.2, HM.out, HK.out, QF.out⟩
          case br68_1 =>
            refine step_of_wp rfl ?_
            refine wp_load_row 35 (.tmp 11) rfl g11 rfl 35 (limF m) (0, 0) _ HQ4.out.1.2.2.2.1 Tryd.underlying35 rfl ofm.out.1 ?_
            refine hK.out _ _ ?_ (fun hHeld => ?_)
            exact ⟨HQ4.out.2.1, HQ4.out.2.2⟩
            clear hK K
            (try simp only [Act.put, List.setIfInBounds_toArray, List.set_cons_zero, List.set_cons_succ])
            refine wpAnyH_ready (rs := [0]) (by kernel_rfl) (by simp) ?_
            refine' (AllReadyH.cons (o := _) ?hir90_0 (fun K hK => ?br90_0) AllReadyH.nil)
            case hir90_0 => (simp only [List.getElem?_toArray, List.getElem?_cons_succ, List.getElem?_cons_zero]; rfl)
            case br90_0 =>
              refine step_of_wp rfl ?_
              refine wp_load_row 28 (.tmp 10) rfl g10 rfl 28 (limA m) (0, 0) _ HQ4.out.1.2.2.1 Tryd.underlying28 rfl oxm.out.1 ?_
              refine hK.out _ _ ?_ (fun hHeld => ?_)
              exact ⟨HQ4.out.2.1, HQ4.out.2.2⟩
              clear hK K
              (try simp only [Act.put, List.setIfInBounds_toArray, List.set_cons_zero, List.set_cons_succ])
              refine wpAnyH_ready (rs := [4]) (by kernel_rfl) (by simp) ?_
              refine' (AllReadyH.cons (o := _) ?hir92_4 (fun K hK => ?br92_4) AllReadyH.nil)
              case hir92_4 => (simp only [List.getElem?_toArray, List.getElem?_cons_succ, List.getElem?_cons_zero]; rfl)
              case br92_4 =>
                refine step_of_wp rfl ?_
                refine wp_store_row 28 (.tmp 7) (.tmp 87) rfl g7 (limA m) rfl rfl 28 (limA n) HQ4.out.1.1 oxm.out.1 (by rw [limA_size, limA_size]) oxm.out.2.1 ?_
                refine hK.out _ _ ?_ (fun hHeld => ?_)
                exact ⟨(HQ4.out.s7 O4.out HO.out (limA m)).2.1, (HQ4.out.s7 O4.out HO.out (limA m)).2.2⟩
                have Q93 := Lib.hid (HQ4.out.s7 O4.out HO.out (limA m))
                clear hK K
                (try simp only [Act.put, List.setIfInBounds_toArray, List.set_cons_zero, List.set_cons_succ])
                refine wpAnyH_ready (rs := [5]) (by kernel_rfl) (by simp) ?_
                refine' (AllReadyH.cons (o := _) ?hir94_5 (fun K hK => ?br94_5) AllReadyH.nil)
                case hir94_5 => (simp only [List.getElem?_toArray, List.getElem?_cons_succ, List.getElem?_cons_zero]; rfl)
                case br94_5 =>
                  refine step_of_wp rfl ?_
                  refine wp_store_row 35 (.tmp 8) (.tmp 88) rfl g8 (limF m) rfl rfl 35 (limF n) Q93.out.1.2.1 ofm.out.1 (by rw [limF_size, limF_size]) ofm.out.2.1 ?_
                  refine hK.out _ _ ?_ (fun hHeld => ?_)
                  exact ⟨(Q93.out.s8 O4.out HO.out (limF m)).2.1, (Q93.out.s8 O4.out HO.out (limF m)).2.2⟩
                  have Q95 := Lib.hid (Q93.out.s8 O4.out HO.out (limF m))
                  clear hK K
                  (try simp only [Act.put, List.setIfInBounds_toArray, List.set_cons_zero, List.set_cons_succ])
                  refine wpAnyH_ready (rs := [6]) (by kernel_rfl) (by simp) ?_
                  refine' (AllReadyH.cons (o := _) ?hir96_6 (fun K hK => ?br96_6) AllReadyH.nil)
                  case hir96_6 => (simp only [List.getElem?_toArray, List.getElem?_cons_succ, List.getElem?_cons_zero]; rfl)
                  case br96_6 =>
                    refine step_of_wp rfl ?_
                    refine wp_store_row 28 (.tmp 10) (.tmp 89) rfl g10 (limA k) rfl rfl 28 (limA m) Q95.out.1.2.2.1 oxk.out.1 (by rw [limA_size, limA_size]) oxk.out.2.1 ?_
                    refine hK.out _ _ ?_ (fun hHeld => ?_)
                    exact ⟨(Q95.out.s10 O4.out HO.out (limA k)).2.1, (Q95.out.s10 O4.out HO.out (limA k)).2.2⟩
                    have Q97 := Lib.hid (Q95.out.s10 O4.out HO.out (limA k))
                    clear hK K
                    (try simp only [Act.put, List.setIfInBounds_toArray, List.set_cons_zero, List.set_cons_succ])
                    refine wpAnyH_ready (rs := [7]) (by kernel_rfl) (by simp) ?_
                    refine' (AllReadyH.cons (o := _) ?hir98_7 (fun K hK => ?br98_7) AllReadyH.nil)
                    case hir98_7 => (simp only [List.getElem?_toArray, List.getElem?_cons_succ, List.getElem?_cons_zero]; rfl)
                    case br98_7 =>
                      refine step_of_wp rfl ?_
                      refine wp_store_row 35 (.tmp 11) (.tmp 90) rfl g11 (limF k) rfl rfl 35 (limF m) Q97.out.1.2.2.2.1 ofk.out.1 (by rw [limF_size, limF_size]) ofk.out.2.1 ?_
                      refine hK.out _ _ ?_ (fun hHeld => ?_)
                      exact ⟨(Q97.out.s11 O4.out HO.out (limF k)).2.1, (Q97.out.s11 O4.out HO.out (limF k)).2.2⟩
                      have Q99 := Lib.hid (Q97.out.s11 O4.out HO.out (limF k))
                      clear hK K
                      (try simp only [Act.put, List.setIfInBounds_toArray, List.set_cons_zero, List.set_cons_succ])
                      refine wpAnyH_done (by kernel_rfl) ?_ _
                      have QF := Lib.hid Q99.out.1
                      clear hHeld
                      go_wp2_with fail
                      go_roundg G0
                      case measure => have := hG.out; omega
                      case rel => exact ⟨i + 1, m, k, by go_num, hG.out.2, HM.out, HK.out, QF.out⟩
    · obtain rfl : i = len := by omega
      have hF1 := Lib.hid hF
      have CS1 := Lib.hid (fun V => same_t n n hn rfl V)
      obtain ⟨bb, hbb⟩ : ∃ b, Hid (b = decide (n = m)) := ⟨_, Lib.hid rfl⟩
      have CS2 : Hid (∀ V, Calls Tryd.prog 13 #[.agg (limA n), .agg (limA m)] V fun e w' => e = .returned (.bool bb) ∧ Below V.heap.size V w') := Lib.hid fun V => by
        rw [hbb.out]; exact same_e n m hn hm2 V
      have hde : Hid (decide (digs B n 16 = digs B m 16) = bb) := by
        rw [hbb.out]; exact Lib.hid (by rw [decide_eq_decide]; exact digs_eq (lt256 hn) (lt256 hm2))
      clear hn hm2 hF hg hlt
      go_upto_region 20 with fail
      refine wp_region_held_drew (S := fun V => Below wr.heap.size wr V) (by kernel_rfl) (Below.refl _ _).drew (fun hHeld => ?_)
      have HB8 := Lib.hid ((Below.refl wr.heap.size wr).drew)
      generalize wr.drew = V8 at *
      refine' wpAnyH_take (i := 0) (oi := _) (v := .agg (limA n)) ?hit100 ?hst100 ?hft100 ?hrt100 ?hQt100 ?hyt100 ?hSt100 ?_
      case hit100 => (simp only [List.getElem?_toArray, List.getElem?_cons_succ, List.getElem?_cons_zero]; rfl)
      case hst100 => kernel_rfl
      case hft100 => kernel_rfl
      case hrt100 => kernel_rfl
      case hQt100 => exact fun _ _ _ h => h
      case hSt100 => assumption
      case hyt100 =>
        refine Or.inl ⟨by rfl, ?_⟩
        intro W hS
        exact quiet_load_row 28 (.tmp 7) _ rfl 28 (limA n) _ (hF1.out.1.old hS) Tryd.underlying28 rfl oxn.out.1 rfl
      (try simp only [Act.put, List.setIfInBounds_toArray, List.set_cons_zero, List.set_cons_succ])
      refine' wpAnyH_take (i := 1) (oi := _) (v := .agg (limA n)) ?hit101 ?hst101 ?hft101 ?hrt101 ?hQt101 ?hyt101 ?hSt101 ?_
      case hit101 => (simp only [List.getElem?_toArray, List.getElem?_cons_succ, List.getElem?_cons_zero]; rfl)
      case hst101 => kernel_rfl
      case hft101 => kernel_rfl
      case hrt101 => kernel_rfl
      case hQt101 => exact fun _ _ _ h => h
      case hSt101 => assumption
      case hyt101 =>
        refine Or.inl ⟨by rfl, ?_⟩
        intro W hS
        exact quiet_load_row 28 (.tmp 7) _ rfl 28 (limA n) _ (hF1.out.1.old hS) Tryd.underlying28 rfl oxn.out.1 rfl
      (try simp only [Act.put, List.setIfInBounds_toArray, List.set_cons_zero, List.set_cons_succ])
      refine wpAnyH_ready (rs := [2]) (by kernel_rfl) (by simp) ?_
      refine' (AllReadyH.cons (o := _) ?hir102_2 (fun K hK => ?br102_2) AllReadyH.nil)
      case hir102_2 => (simp only [List.getElem?_toArray, List.getElem?_cons_succ, List.getElem?_cons_zero]; rfl)
      case br102_2 =>
        go_simp
        refine (CS1.out _).mono ?_
        rintro e w103 ⟨rfl, hb103⟩
        have H103 := Lib.hid (HB8.out.trans (hb103.mono HB8.out.size))
        clear hb103
        go_wp2_with fail
        refine hK.out _ _ ?_ (fun hHeld => ?_)
        exact H103.out
        clear hK K
        (try simp only [Act.put, List.setIfInBounds_toArray, List.set_cons_zero, List.set_cons_succ])
        refine' wpAnyH_take (i := 3) (oi := _) (v := _) ?hit104 ?hst104 ?hft104 ?hrt104 ?hQt104 ?hyt104 ?hSt104 ?_
        case hit104 => (simp only [List.getElem?_toArray, List.getElem?_cons_succ, List.getElem?_cons_zero]; rfl)
        case hst104 => kernel_rfl
        case hft104 => kernel_rfl
        case hrt104 => kernel_rfl
        case hQt104 => exact fun _ _ _ h => h
        case hSt104 => assumption
        case hyt104 =>
          refine Or.inl ⟨by rfl, ?_⟩
          intro w hSw
          (try dsimp only at hSw)
          go_simp
          all_goals (with_reducible rfl)
        (try simp only [Act.put, List.setIfInBounds_toArray, List.set_cons_zero, List.set_cons_succ])
        refine' wpAnyH_take (i := 4) (oi := _) (v := .agg (limA n)) ?hit105 ?hst105 ?hft105 ?hrt105 ?hQt105 ?hyt105 ?hSt105 ?_
        case hit105 => (simp only [List.getElem?_toArray, List.getElem?_cons_succ, List.getElem?_cons_zero]; rfl)
        case hst105 => kernel_rfl
        case hft105 => kernel_rfl
        case hrt105 => kernel_rfl
        case hQt105 => exact fun _ _ _ h => h
        case hSt105 => assumption
        case hyt105 =>
          refine Or.inl ⟨by rfl, ?_⟩
          intro W hS
          exact quiet_load_row 28 (.tmp 7) _ rfl 28 (limA n) _ (hF1.out.1.old hS) Tryd.underlying28 rfl oxn.out.1 rfl
        (try simp only [Act.put, List.setIfInBounds_toArray, List.set_cons_zero, List.set_cons_succ])
        refine' wpAnyH_take (i := 5) (oi := _) (v := .agg (limA m)) ?hit106 ?hst106 ?hft106 ?hrt106 ?hQt106 ?hyt106 ?hSt106 ?_
        case hit106 => (simp only [List.getElem?_toArray, List.getElem?_cons_succ, List.getElem?_cons_zero]; rfl)
        case hst106 => kernel_rfl
        case hft106 => kernel_rfl
        case hrt106 => kernel_rfl
        case hQt106 => exact fun _ _ _ h => h
        case hSt106 => assumption
        case hyt106 =>
          refine Or.inl ⟨by rfl, ?_⟩
          intro W hS
          exact quiet_load_row 28 (.tmp 10) _ rfl 28 (limA m) _ (hF1.out.2.2.1.old hS) Tryd.underlying28 rfl oxm.out.1 rfl
        (try simp only [Act.put, List.setIfInBounds_toArray, List.set_cons_zero, List.set_cons_succ])
        refine' wpAnyH_take (i := 7) (oi := _) (v := .agg (limF n)) ?hit107 ?hst107 ?hft107 ?hrt107 ?hQt107 ?hyt107 ?hSt107 ?_
        case hit107 => (simp only [List.getElem?_toArray, List.getElem?_cons_succ, List.getElem?_cons_zero]; rfl)
        case hst107 => kernel_rfl
        case hft107 => kernel_rfl
        case hrt107 => kernel_rfl
        case hQt107 => exact fun _ _ _ h => h
        case hSt107 => assumption
        case hyt107 =>
          refine Or.inl ⟨by rfl, ?_⟩
          intro W hS
          exact quiet_load_row 35 (.tmp 8) _ rfl 35 (limF n) _ (hF1.out.2.1.old hS) Tryd.underlying35 rfl ofn.out.1 rfl
        (try simp only [Act.put, List.setIfInBounds_toArray, List.set_cons_zero, List.set_cons_succ])
        refine' wpAnyH_take (i := 8) (oi := _) (v := .agg (limF m)) ?hit108 ?hst108 ?hft108 ?hrt108 ?hQt108 ?hyt108 ?hSt108 ?_
        case hit108 => (simp only [List.getElem?_toArray, List.getElem?_cons_succ, List.getElem?_cons_zero]; rfl)
        case hst108 => kernel_rfl
        case hft108 => kernel_rfl
        case hrt108 => kernel_rfl
        case hQt108 => exact fun _ _ _ h => h
        case hSt108 => assumption
        case hyt108 =>
          refine Or.inl ⟨by rfl, ?_⟩
          intro W hS
          exact quiet_load_row 35 (.tmp 11) _ rfl 35 (limF m) _ (hF1.out.2.2.2.1.old hS) Tryd.underlying35 rfl ofm.out.1 rfl
        (try simp only [Act.put, List.setIfInBounds_toArray, List.set_cons_zero, List.set_cons_succ])
        refine' wpAnyH_take (i := 9) (oi := _) (v := .bool bb) ?hit109 ?hst109 ?hft109 ?hrt109 ?hQt109 ?hyt109 ?hSt109 ?_
        case hit109 => (simp only [List.getElem?_toArray, List.getElem?_cons_succ, List.getElem?_cons_zero]; rfl)
        case hst109 => kernel_rfl
        case hft109 => kernel_rfl
        case hrt109 => kernel_rfl
        case hQt109 => exact fun _ _ _ h => h
        case hSt109 => assumption
        case hyt109 =>
          refine Or.inl ⟨by rfl, ?_⟩
          intro W hS
          rw [← hde.out]; exact quiet_eq_F W (.tmp 98) (.tmp 99) 35 _ _ (digs_length _ _ _) (digs_length _ _ _) rfl rfl rfl
        (try simp only [Act.put, List.setIfInBounds_toArray, List.set_cons_zero, List.set_cons_succ])
        refine wpAnyH_ready (rs := [6]) (by kernel_rfl) (by simp) ?_
        refine' (AllReadyH.cons (o := _) ?hir110_6 (fun K hK => ?br110_6) AllReadyH.nil)
        case hir110_6 => (simp only [List.getElem?_toArray, List.getElem?_cons_succ, List.getElem?_cons_zero]; rfl)
        case br110_6 =>
          go_simp
          refine (CS2.out _).mono ?_
          rintro e w111 ⟨rfl, hb111⟩
          have H111 := Lib.hid (H103.out.trans (hb111.mono H103.out.size))
          clear hb111
          go_wp2_with fail
          refine hK.out _ _ ?_ (fun hHeld => ?_)
          exact H111.out
          clear hK K
          (try simp only [Act.put, List.setIfInBounds_toArray, List.set_cons_zero, List.set_cons_succ])
          refine' wpAnyH_take (i := 10) (oi := _) (v := _) ?hit112 ?hst112 ?hft112 ?hrt112 ?hQt112 ?hyt112 ?hSt112 ?_
          case hit112 => (simp only [List.getElem?_toArray, List.getElem?_cons_succ, List.getElem?_cons_zero]; rfl)
          case hst112 => kernel_rfl
          case hft112 => kernel_rfl
          case hrt112 => kernel_rfl
          case hQt112 => exact fun _ _ _ h => h
          case hSt112 => assumption
          case hyt112 =>
            refine Or.inl ⟨by rfl, ?_⟩
            intro w hSw
            (try dsimp only at hSw)
            go_simp
            all_goals (with_reducible rfl)
          (try simp only [Act.put, List.setIfInBounds_toArray, List.set_cons_zero, List.set_cons_succ])
          refine' wpAnyH_take (i := 11) (oi := _) (v := _) ?hit113 ?hst113 ?hft113 ?hrt113 ?hQt113 ?hyt113 ?hSt113 ?_
          case hit113 => (simp only [List.getElem?_toArray, List.getElem?_cons_succ, List.getElem?_cons_zero]; rfl)
          case hst113 => kernel_rfl
          case hft113 => kernel_rfl
          case hrt113 => kernel_rfl
          case hQt113 => exact fun _ _ _ h => h
          case hSt113 => assumption
          case hyt113 =>
            refine Or.inl ⟨by rfl, ?_⟩
            intro w hSw
            (try dsimp only at hSw)
            go_simp
            all_goals (with_reducible rfl)
          (try simp only [Act.put, List.setIfInBounds_toArray, List.set_cons_zero, List.set_cons_succ])
          refine' wpAnyH_take (i := 12) (oi := _) (v := _) ?hit114 ?hst114 ?hft114 ?hrt114 ?hQt114 ?hyt114 ?hSt114 ?_
          case hit114 => (simp only [List.getElem?_toArray, List.getElem?_cons_succ, List.getElem?_cons_zero]; rfl)
          case hst114 => kernel_rfl
          case hft114 => kernel_rfl
          case hrt114 => kernel_rfl
          case hQt114 => exact fun _ _ _ h => h
          case hSt114 => assumption
          case hyt114 =>
            refine Or.inl ⟨by rfl, ?_⟩
            intro w hSw
            (try dsimp only at hSw)
            go_simp
            all_goals (with_reducible rfl)
          (try simp only [Act.put, List.setIfInBounds_toArray, List.set_cons_zero, List.set_cons_succ])
          refine wpAnyH_ready (rs := [13]) (by kernel_rfl) (by simp) ?_
          refine' (AllReadyH.cons (o := _) ?hir115_13 (fun K hK => ?br115_13) AllReadyH.nil)
          case hir115_13 => (simp only [List.getElem?_toArray, List.getElem?_cons_succ, List.getElem?_cons_zero]; rfl)
          case br115_13 =>
            go_simp
            refine (awake_any _ (HPr.out.old H111.out)).mono ?_
            rintro e w116 ⟨rfl, hb116⟩
            have H116 := Lib.hid (H111.out.trans (hb116.mono H111.out.size))
            clear hb116
            go_wp2_with fail
            refine hK.out _ _ ?_ (fun hHeld => ?_)
            exact H116.out
            clear hK K
            (try simp only [Act.put, List.setIfInBounds_toArray, List.set_cons_zero, List.set_cons_succ])
            refine' wpAnyH_take (i := 14) (oi := _) (v := _) ?hit117 ?hst117 ?hft117 ?hrt117 ?hQt117 ?hyt117 ?hSt117 ?_
            case hit117 => (simp only [List.getElem?_toArray, List.getElem?_cons_succ, List.getElem?_cons_zero]; rfl)
            case hst117 => kernel_rfl
            case hft117 => kernel_rfl
            case hrt117 => kernel_rfl
            case hQt117 => exact fun _ _ _ h => h
            case hSt117 => assumption
            case hyt117 =>
              refine Or.inl ⟨by rfl, ?_⟩
              intro w hSw
              (try dsimp only at hSw)
              go_simp
              all_goals (with_reducible rfl)
            (try simp only [Act.put, List.setIfInBounds_toArray, List.set_cons_zero, List.set_cons_succ])
            refine' wpAnyH_take (i := 15) (oi := _) (v := _) ?hit118 ?hst118 ?hft118 ?hrt118 ?hQt118 ?hyt118 ?hSt118 ?_
            case hit118 => (simp only [List.getElem?_toArray, List.getElem?_cons_succ, List.getElem?_cons_zero]; rfl)
            case hst118 => kernel_rfl
            case hft118 => kernel_rfl
            case hrt118 => kernel_rfl
            case hQt118 => exact fun _ _ _ h => h
            case hSt118 => assumption
            case hyt118 =>
              refine Or.inl ⟨by rfl, ?_⟩
              intro w hSw
              (try dsimp only at hSw)
              go_simp
              all_goals (with_reducible rfl)
            (try simp only [Act.put, List.setIfInBounds_toArray, List.set_cons_zero, List.set_cons_succ])
            refine wpAnyH_done (by kernel_rfl) ?_ _
            have hfin := Lib.hid (hF1.out.next H116.out)
            clear hHeld
            go_wp2_with fail
            go_ret
            exact ⟨rfl, hfin.out.2.2.2.2⟩
end Go.Proofs.YtphlehinjooncaaDoor
