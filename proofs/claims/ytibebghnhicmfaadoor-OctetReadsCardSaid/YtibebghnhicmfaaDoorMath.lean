/-
  Plain mathematics on lists of bytes: hexadecimal digits and their reading. No conditions.
-/
namespace Oct

def hexDig (n : Nat) : UInt8 := if n < 10 then (48 + n).toUInt8 else (87 + n).toUInt8
def hexOf (l : List UInt8) : List UInt8 := l.flatMap fun b => [hexDig (b.toNat / 16), hexDig (b.toNat % 16)]

theorem hexOf_snoc (l : List UInt8) (b : UInt8) : hexOf (l ++ [b]) = hexOf l ++ [hexDig (b.toNat / 16), hexDig (b.toNat % 16)] := by simp [hexOf]
theorem hexOf_length (l : List UInt8) : (hexOf l).length = 2 * l.length := by
  induction l with
  | nil => rfl
  | cons b l ih => simp [hexOf] at ih ⊢; omega
theorem hexOf_take (l : List UInt8) (k : Nat) (h : k < l.length) : hexOf (l.take (k + 1)) = hexOf (l.take k) ++ [hexDig (l[k].toNat / 16), hexDig (l[k].toNat % 16)] := by
  rw [List.take_succ_eq_append_getElem h, hexOf_snoc]

/-- The sign of a digit, out of the text of all digits. -/
theorem hexDig_get : ∀ n : Nat, n < 16 → ([48, 49, 50, 51, 52, 53, 54, 55, 56, 57, 97, 98, 99, 100, 101, 102] : List UInt8)[n]? = some (hexDig n) := by decide

/-- The worth of a digit, -1 if it is none. -/
def hexV (c : UInt8) : Int := if 48 ≤ c.toNat ∧ c.toNat ≤ 57 then c.toNat - 48 else if 97 ≤ c.toNat ∧ c.toNat ≤ 102 then c.toNat - 87 else if 65 ≤ c.toNat ∧ c.toNat ≤ 70 then c.toNat - 55 else -1
theorem hexV_bound (c : UInt8) : -1 ≤ hexV c ∧ hexV c ≤ 15 := by unfold hexV; constructor <;> (repeat' split) <;> omega

/-- The bytes of hexadecimal digits. -/
def unhex : List UInt8 → Option (List UInt8)
  | [] => some []
  | [_] => none
  | a :: b :: r => if hexV a < 0 ∨ hexV b < 0 then none else (unhex r).map (((16 * hexV a + hexV b).toNat.toUInt8) :: ·)

theorem unhex_odd : ∀ (k : Nat) (l : List UInt8), l.length = 2 * k + 1 → unhex l = none := by
  intro k
  induction k with
  | zero => intro l h; match l, h with
    | [a], _ => rfl
  | succ k ih => intro l h; match l, h with
    | a :: b :: r, h =>
      have := ih r (by simp at h; omega)
      simp [unhex, this]
theorem unhex_length : ∀ (k : Nat) (l r : List UInt8), l.length = 2 * k → unhex l = some r → r.length = k := by
  intro k
  induction k with
  | zero => intro l r h hr; match l, h with
    | [], _ => simp [unhex] at hr; subst hr; rfl
  | succ k ih => intro l r h hr; match l, h with
    | a :: b :: q, h =>
      rw [unhex] at hr
      split at hr
      · cases hr
      · cases hq : unhex q with
        | none => rw [hq] at hr; cases hr
        | some z =>
          rw [hq] at hr
          simp at hr
          subst hr
          simp [ih q z (by simp at h; omega) hq]
theorem unhex_step (l : List UInt8) (k : Nat) (h : k + 1 < l.length) (h0 : 0 ≤ hexV l[k]) (h1 : 0 ≤ hexV l[k + 1]) (out : List UInt8) (H : unhex l = (unhex (l.drop k)).map (out ++ ·)) :
    unhex l = (unhex (l.drop (k + 2))).map ((out ++ [(16 * hexV l[k] + hexV l[k + 1]).toNat.toUInt8]) ++ ·) := by
  rw [H, List.drop_eq_getElem_cons (by omega), List.drop_eq_getElem_cons (by omega), unhex, if_neg (by omega)]
  cases unhex (l.drop (k + 1 + 1)) <;> simp
theorem unhex_stop (l : List UInt8) (k : Nat) (h : k + 1 < l.length) (hv : hexV l[k] < 0 ∨ hexV l[k + 1] < 0) (out : List UInt8) (H : unhex l = (unhex (l.drop k)).map (out ++ ·)) : unhex l = none := by
  rw [H, List.drop_eq_getElem_cons (by omega), List.drop_eq_getElem_cons (by omega), unhex, if_pos hv]
  rfl

/-! Base64 -/
def b64Sign (n : Nat) : UInt8 := if n < 26 then (65 + n).toUInt8 else if n < 52 then (71 + n).toUInt8 else if n < 62 then (n - 4).toUInt8 else if n = 62 then 43 else 47
def bits24 (r : List UInt8) : Nat := (r.getD 0 0).toNat * 65536 + (r.getD 1 0).toNat * 256 + (r.getD 2 0).toNat
def sgn (v i : Nat) : UInt8 := b64Sign (v / 2 ^ (18 - 6 * i) % 64)
def chunk (r : List UInt8) : List UInt8 := (List.range (min 3 r.length + 1)).map (sgn (bits24 r)) ++ List.replicate (3 - min 3 r.length) 61
def b64 : List UInt8 → List UInt8
  | [] => []
  | [a] => chunk [a]
  | [a, b] => chunk [a, b]
  | a :: b :: c :: r => chunk [a, b, c] ++ b64 r
theorem b64_step (r : List UInt8) (h : r ≠ []) : b64 r = chunk r ++ b64 (r.drop 3) := by
  match r, h with
  | [a], _ => simp [b64]
  | [a, b], _ => simp [b64]
  | a :: b :: c :: r, _ =>
    simp [b64, chunk, bits24, show min 3 (r.length + 1 + 1 + 1) = 3 from by omega]
theorem chunk_length (r : List UInt8) : (chunk r).length = 4 := by simp [chunk]; omega
theorem b64_length : ∀ (r : List UInt8), (b64 r).length ≤ 4 * r.length
  | [] => by simp [b64]
  | [a] => by rw [b64, chunk_length]; simp
  | [a, b] => by rw [b64, chunk_length]; simp
  | a :: b :: c :: r => by
    have := b64_length r
    rw [b64, List.length_append, chunk_length]
    simp; omega
theorem b64_parts (a b : List UInt8) (h : a.length % 3 = 0) : b64 (a ++ b) = b64 a ++ b64 b := by
  match a, h with
  | [], _ => simp [b64]
  | [x], h => simp at h
  | [x, y], h => simp at h
  | x :: y :: z :: r, h =>
    have := b64_parts r b (by simp at h; omega)
    simp only [List.cons_append, b64, this, List.append_assoc]
theorem bits24_lt (r : List UInt8) : bits24 r < 16777216 := by
  have h0 := (r.getD 0 0).toNat_lt
  have h1 := (r.getD 1 0).toNat_lt
  have h2 := (r.getD 2 0).toNat_lt
  unfold bits24; omega

/-! There and back. -/
theorem hexV_dig : ∀ n : Nat, n < 16 → hexV (hexDig n) = n := by decide
theorem unhex_hex (l : List UInt8) : unhex (hexOf l) = some l := by
  induction l with
  | nil => rfl
  | cons b l ih =>
    have hb := b.toNat_lt
    have h1 := hexV_dig (b.toNat / 16) (by omega)
    have h2 := hexV_dig (b.toNat % 16) (by omega)
    have e : hexOf (b :: l) = hexDig (b.toNat / 16) :: hexDig (b.toNat % 16) :: hexOf l := by simp [hexOf]
    rw [e, unhex, if_neg (by rw [h1, h2]; omega), ih, h1, h2]
    have e2 : (16 * ((b.toNat / 16 : Nat) : Int) + ((b.toNat % 16 : Nat) : Int)).toNat = b.toNat := by omega
    rw [e2]
    simp
theorem unhex_congr : ∀ (a b : List UInt8), a.map hexV = b.map hexV → unhex a = unhex b
  | [], [], _ => rfl
  | [_], [_], _ => rfl
  | x :: y :: r, x' :: y' :: r', h => by
    simp only [List.map_cons, List.cons.injEq] at h
    rw [unhex, unhex, h.1, h.2.1, unhex_congr r r' h.2.2]
  | [], _ :: _, h => by simp at h
  | _ :: _, [], h => by simp at h
  | [_], _ :: _ :: _, h => by simp at h
  | _ :: _ :: _, [_], h => by simp at h
theorem hexV_up : ∀ n : Nat, n < 256 → 97 ≤ n ∧ n ≤ 102 → hexV (n - 32).toUInt8 = hexV n.toUInt8 := by decide +kernel

end Oct
