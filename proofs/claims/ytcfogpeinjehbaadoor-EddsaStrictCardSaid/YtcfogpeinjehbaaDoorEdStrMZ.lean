/-
  Words for the walk of EddsaStrict: operations that hang on a test, in a region of which each operation has one contract; L put to a number, byte by byte. Conditions: those that each theorem states.
-/
import Derived.Test.YtcfogpeinjehbaaDoorM4
set_option linter.unusedVariables false
set_option linter.unusedSimpArgs false
open Go.Lib (hid)
open Go.Proofs.YtcfogpeinjehbaaDoor (zA zB zC zD zE zF)
set_option maxRecDepth 100000
namespace Go.Proofs.YtcfogpeinjehbaaDoor.Sch
open Go Go.Proofs Go.RowKit
section
variable {P : Program} {ops : Array Oper} {m : Nat} {a0 : Act} {w0 : World} {PL : List Rk} {k : Nat} {r : List Rk}
theorem gr_on {p : Value → World → Prop} {hk : ∀ v V V', p v V → Below V.heap.size V V' → p v V'} {j d : Nat} {want : Bool} {u : Value} (hPL : PL[k]? = some (.is p hk)) (hgd : (opA ops k).guard = some (j, want)) (hd : dstOf ops j = some d)
  (hv : ∀ (a : Act) (V : World), Here ops m a0 w0 PL k a V → a.eval (.tmp d) = u) (hp : passes want u = true)
  (h : ∀ (a : Act) (V : World), Here ops m a0 w0 PL k a V → ∀ (K : Act → World → Prop) (Q : Exit → Act → World → Prop),
   (∀ v V', Below V.heap.size V V' → p v V' → K (a.put (opA ops k).dst v) V') → (opA ops k).wp P a V K Q) (hr : GoodsR P ops m a0 w0 PL (k + 1) r) : GoodsR P ops m a0 w0 PL k (.is p hk :: r) :=
 ⟨fun a V h1 h2 h3 => .inl ⟨by
   rw [wanted_of hgd (show Go.Proofs.YtcfogpeinjehbaaDoor.dstOf ops j = some d from hd) (hv a V ⟨h1, h2, fun j hj => h3 j hj⟩)]; exact hp, fun K Q hK => h a V ⟨h1, h2, fun j hj => h3 j hj⟩ K Q fun v V' hb hp => hK v V' hb ((relOf_at hPL).2 hp) (fun hf => by
  exfalso
  have e : (planR PL).fresh k = false := by show (match PL[k]? with | some r => r.new | none => false) = false; rw [hPL]; rfl
  rw [e] at hf; cases hf)⟩, hr⟩
theorem gr_onV {w : Value} {j d : Nat} {want : Bool} {u : Value} (hPL : PL[k]? = some (.val w)) (hgd : (opA ops k).guard = some (j, want)) (hd : dstOf ops j = some d)
  (hv : ∀ (a : Act) (V : World), Here ops m a0 w0 PL k a V → a.eval (.tmp d) = u) (hp : passes want u = true)
  (h : ∀ (a : Act) (V : World), Here ops m a0 w0 PL k a V → ∀ (K : Act → World → Prop) (Q : Exit → Act → World → Prop),
   (∀ V', Below V.heap.size V V' → K (a.put (opA ops k).dst w) V') → (opA ops k).wp P a V K Q) (hr : GoodsR P ops m a0 w0 PL (k + 1) r) : GoodsR P ops m a0 w0 PL k (.val w :: r) :=
 gr_on hPL hgd hd hv hp (fun a V H K Q hK => h a V H K Q fun V' hb => hK w V' hb rfl) hr
end
end Go.Proofs.YtcfogpeinjehbaaDoor.Sch
namespace Go.Proofs.YtcfogpeinjehbaaDoor
open Go Go.Proofs Go.RowKit F5

theorem bval_append (a b : List UInt8) : bval (a ++ b) = bval a + 256 ^ a.length * bval b := by
 unfold bval
 rw [List.map_append, val_append, List.length_map]
theorem LL_lit : (#[.int .u8 237, .int .u8 211, .int .u8 245, .int .u8 92, .int .u8 26, .int .u8 99, .int .u8 18, .int .u8 88, .int .u8 214, .int .u8 156, .int .u8 247, .int .u8 162, .int .u8 222, .int .u8 249, .int .u8 222, .int .u8 20, .int .u8 0, .int .u8 0, .int .u8 0, .int .u8 0, .int .u8 0, .int .u8 0, .int .u8 0, .int .u8 0, .int .u8 0, .int .u8 0, .int .u8 0, .int .u8 0, .int .u8 0, .int .u8 0, .int .u8 0, .int .u8 16] : Array Value) = bytesA (fbytes LL) := by kernel_rfl
theorem LL_256 : LL < 2 ^ 256 := by decide
/-- a number and another one, byte by byte. -/
structure MoreL (X Y : List UInt8) (k c : Nat) (out : List UInt8) : Prop where
 len : out.length = k
 cw : c ≤ 1
 eq : bval out + 256 ^ k * c = bval (X.take k) + bval (Y.take k)
theorem MoreL.zero (X Y : List UInt8) : MoreL X Y 0 0 [] := ⟨rfl, by omega, by simp [bval, val]⟩
theorem MoreL.next {X Y out : List UInt8} {k c s : Nat} (h : MoreL X Y k c out) (hX : k < X.length) (hY : k < Y.length) (hs : s = (X.getD k 0).toNat + (Y.getD k 0).toNat + c) : MoreL X Y (k + 1) (s / 256) (out ++ [UInt8.ofNat (s % 256)]) := by
 obtain ⟨h1, h2, h3⟩ := h
 have hx := (X.getD k 0).toNat_lt
 have hy := (Y.getD k 0).toNat_lt
 refine ⟨by simp [h1], by omega, ?_⟩
 rw [bval_append, h1, bval_take X k hX, bval_take Y k hY, Nat.pow_succ]
 have e0 : bval [UInt8.ofNat (s % 256)] = s % 256 := by
  unfold bval
  simp [val]
 rw [e0]
 generalize (X.getD k 0).toNat = x at *
 generalize (Y.getD k 0).toNat = y at *
 have e : s % 256 + 256 * (s / 256) = x + y + c := by rw [← hs]; exact Nat.mod_add_div _ _
 have e2 := congrArg (256 ^ k * ·) e
 simp only [Nat.mul_add] at e2
 rw [Nat.mul_assoc]
 omega
theorem MoreL.done {v c : Nat} {out : List UInt8} (h : MoreL (fbytes v) (fbytes LL) 32 c out) (hv : v < LL) : out = fbytes (v + LL) := by
 obtain ⟨h1, h2, h3⟩ := h
 rw [List.take_of_length_le (by rw [fbytes_length]; omega), List.take_of_length_le (by rw [fbytes_length]; omega), bval_fbytes (Nat.lt_trans hv LL_256), bval_fbytes LL_256] at h3
 have hlt : v + LL < 256 ^ 32 := Nat.lt_trans (show v + LL < 2 * LL by omega) (by decide)
 have hb : bval out = v + LL := by
  rcases (show c = 0 ∨ c = 1 by omega) with rfl | rfl
  ·omega
  ·omega
 rw [← hb, fbytes_bval h1]
theorem set_more {F out X : List UInt8} {k : Nat} (hF : F.length = 32) (ho : out.length = k) (hk : k < X.length) (y : UInt8) : (F ++ (out ++ X.drop k)).set (32 + k) y = F ++ ((out ++ [y]) ++ X.drop (k + 1)) := by
 rw [List.set_append_right _ _ (by omega), List.set_append_right _ _ (by omega), show 32 + k - F.length - out.length = 0 by omega, List.drop_eq_getElem_cons hk, List.set_cons_zero, List.append_assoc out]
 rfl
theorem get_more {F out X : List UInt8} {k : Nat} (hF : F.length = 32) (ho : out.length = k) (hk : k < X.length) : (F ++ (out ++ X.drop k)).getD (32 + k) 0 = X.getD k 0 := by
 rw [List.getD_eq_getElem?_getD, List.getElem?_append_right (by omega), List.getElem?_append_right (by omega), show 32 + k - F.length - out.length = 0 by omega, List.drop_eq_getElem_cons hk]
 simp [List.getD, List.getElem?_eq_getElem hk]
theorem reads_cellN {V : World} {Bd n g : Nat} {l : List UInt8} (h : Reads V Bd 1 (some ⟨g, 0, none⟩) n (Lib.byteCells l)) (k : Nat) (hk : k < n) : V.cell? ⟨g, k, none⟩ = some (.int .u8 ((l.getD k 0).toNat : Int)) := by
 obtain ⟨ad, e, _, hc⟩ := reads_b h hk
 injection e with e
 subst e
 have e2 : (⟨g, 0, none⟩ : Addr).add k = ⟨g, k, none⟩ := by unfold Addr.add; split <;> simp_all
 rwa [e2] at hc
section
variable {o : Oper} {ev : Operand → Value} {V : World} {P : Program}
theorem quiet_neq0 (T k : TypeId) (x : Operand) (hx : ev x = .int .i64 0) (hc : ev (.const (.int .i64 0)) = .int .i64 0) (ho : o.op = .binOp .neq T x (.const (.int .i64 0)) k) (hT : P.underlying T = some (.int .i64)) : (execOp ev o).run P V = .ok (.value (.bool false)) V := by
 unfold execOp
 simp only [ho, hx, hc]
 go_simp
end
end Go.Proofs.YtcfogpeinjehbaaDoor
