/-
  The contracts of sha's appendWord, fillUp, bytes and Sum. Conditions: the hash lies whole in its block; at most 2^39 bytes were written.
-/
import Derived.Test.YtblielcmjdnlfaaStr
import Derived.Test.YtblielcmjdnlfaaShaWrite
set_option linter.unusedVariables false
namespace Go.Proofs.Ytblielcmjdnlfaa
open Go Go.Proofs Go.RowKit Sha5

theorem own_form_cap {w : World} {base size n : Nat} {e : TypeId} {v : Value} {xs : List Value} (h : w.ownsRow base e size v n xs) : ∃ A c, v = .slice A n c ∧ n ≤ c := by
  rcases h.2 with ⟨h1, h2⟩ | ⟨g, cap, cur, hv, hb, hh, hc, _⟩
  · subst h2; exact ⟨none, 0, h1, Nat.le_refl _⟩
  · exact ⟨_, _, hv, hc⟩
theorem wordBytes_take (x k : Nat) (hk : k < 8) : (wordBytes x).take (k + 1) = (wordBytes x).take k ++ [Sha5.byteOf x k] := by
  have h : k < (wordBytes x).length := by simp [wordBytes]; omega
  rw [List.take_succ_eq_append_getElem h]
  simp [wordBytes]
theorem wordBytes_length (x : Nat) : (wordBytes x).length = 8 := by simp [wordBytes]
theorem byteOf_nat (x k : Nat) : (Sha5.byteOf x k).toNat = x / 2 ^ (56 - 8 * k) % 256 := by
  unfold Sha5.byteOf
  rw [UInt8.toNat_ofNat']
  omega

def GrowEnd (B : Nat) (xs : List UInt8) (w : World) (e : Ending) (w' : World) : Prop := ∃ v, e = .returned v ∧ w'.ownsRow B 5 1 v xs.length (Lib.byteCells xs) ∧ Below B w w'

set_option maxHeartbeats 2000000 in
set_option maxRecDepth 100000 in
theorem appendWord_any (B x : Nat) (v : Value) (xs : List UInt8) (w : World) (ho : w.ownsRow B 5 1 v xs.length (Lib.byteCells xs)) (hx : x < M) (hn : xs.length ≤ 1099511627776) (hB : B ≤ w.heap.size) :
    Calls Try.prog 34 #[v, .int .u64 (x : Int)] w (GrowEnd B (xs ++ wordBytes x) w) := by
  obtain ⟨i0, hi, hz0, hz1, hz2⟩ := info_parts infoByte
  have HX := Lib.hid hx
  clear hx
  go_enter Try.func34, Try.ntmps34
  go_wp2
  go_loopw [0, 5, 6] (fun v _ i wr => ∃ k : Nat, k ≤ 8 ∧ i = .int .i64 k ∧ wr.ownsRow B 5 1 v (xs.length + k) (Lib.byteCells (xs ++ (wordBytes x).take k)) ∧ Below B w wr) (fun _ _ i _ => 8 - (intOf i).toNat)
  case atStart => exact ⟨0, Nat.zero_le _, rfl, by simpa using ho, Below.refl _ _⟩
  case round =>
    obtain ⟨k, hk, rfl, hown, hbel⟩ := hrel
    clear ho
    have hsz := hbel.size
    by_cases hlt : k < 8
    · have hbt := byteOf_nat x k
      have HT := Lib.hid (wordBytes_take x k hlt)
      obtain ⟨y, hy⟩ : ∃ y, Hid (y = Sha5.byteOf x k) := ⟨_, Lib.hid rfl⟩
      rw [← hy.out] at hbt HT
      have hsh : (x : Int) / 2 ^ (56 - 8 * (k : Int)).toNat % 256 = (y.toNat : Int) := by
        rw [show (56 - 8 * (k : Int)).toNat = 56 - 8 * k by omega, hbt]; simp
      have hsh2 : IntKind.u8.wrap ((x : Int) / 2 ^ (56 - 8 * k)) = (y.toNat : Int) := by
        rw [IntKind.wrap_u8', hbt]; simp
      have hmin : min (56 - 8 * k) 64 = 56 - 8 * k := by omega
      have ht : (56 - 8 * (k : Int)).toNat = 56 - 8 * k := by omega
      have hrd := reads_one wr y (0, 0)
      have HR := Lib.hid hrd
      clear hbt hrd hy
      go_wp2_with (at_builtin; refine wpList_append_any _ rfl (.tmp 9) (.tmp 16) 27 rfl B 5 i0 (.int .u8 0) 1 1 Try.underlying27 hi hz0 hz1 hz2 rfl (by decide) _ _ _ rfl (hown.alloc _) (wr.heap.size + 1) _ 1 1 (Lib.byteCells [y]) rfl HR.out (Lib.byteCells_one _) ?c3 ?c4 ?c5 ?_)
      case c3 => unfold maxLen; omega
      case c4 => omega
      case c5 => simp; omega
      intro v' w2 hown' hgrow _
      have hbel2 : Below B w w2 := (hbel.alloc (by omega) _).grown hgrow (by simp; omega) (fun j hj => (hown.lt j hj).1)
      have hown2 : w2.ownsRow B 5 1 v' (xs.length + (k + 1)) (Lib.byteCells (xs ++ (wordBytes x).take (k + 1))) := by
        rw [HT.out, ← List.append_assoc, Lib.byteCells_append (xs ++ (wordBytes x).take k), ← Nat.add_assoc]
        exact hown'
      clear hown hown' hgrow HR hbel
      go_wp2
      go_roundw
      case rel => exact ⟨k + 1, by omega, by go_num, hown2, hbel2⟩
      case measure => simp [intOf]; omega
    · obtain rfl : k = 8 := by omega
      have hfin : Hid (wr.ownsRow B 5 1 u0 (xs ++ wordBytes x).length (Lib.byteCells (xs ++ wordBytes x))) := by
        have e : (wordBytes x).take 8 = wordBytes x := List.take_of_length_le (by rw [wordBytes_length]; omega)
        rw [e] at hown
        rw [List.length_append, wordBytes_length]
        exact hown
      clear hown
      go_wp2
      go_ret
      exact ⟨u0, rfl, hfin.out, hbel⟩

theorem src_one (w : World) (g : Nat) (y : UInt8) (hg : g < w.heap.size) : Src (w.alloc (.cells #[.int .u8 (y.toNat : Int)] 5)) g (some ⟨w.heap.size, 0, none⟩) 1 [y] := by
  obtain ⟨h1, h2⟩ := reads_one w y (0, 0)
  refine ⟨rfl, fun _ => ?_⟩
  obtain ⟨ad, e, h3, h4⟩ := h2 (by omega)
  injection e with e
  subst e
  exact ⟨_, rfl, by show w.heap.size ≠ g; omega, by show w.heap.size < _; simp, h4⟩
theorem src_own {w : World} {B g : Nat} {A : Option Addr} {n c : Nat} {l : List UInt8} (h : w.ownsRow B 5 1 (.slice A n c) n (Lib.byteCells l)) (hg : g < B) : Src w g A n l := by
  refine ⟨by have := h.1; simpa [Lib.byteCells_length] using this, fun hn => ?_⟩
  obtain ⟨b, cap, hv, h1, h2⟩ := h.form hn
  have hA : A = some ⟨b, 0, none⟩ := by injection hv
  subst hA
  exact ⟨_, rfl, by show b ≠ g; omega, h2, h.cells (g := b) rfl⟩

theorem HashAt.alloc {w : World} {g : Nat} {D : List UInt8} (h : HashAt w g D) (o : Obj) : HashAt (w.alloc o) g D := h.drew ((Below.refl _ _).alloc (Nat.le_refl _) o)
theorem HashAt.lt {w : World} {g : Nat} {D : List UInt8} (h : HashAt w g D) : g < w.heap.size := by obtain ⟨_, _, h, _⟩ := h; exact h.lt
theorem HashAt.count {w : World} {g : Nat} {D : List UInt8} (h : HashAt w g D) : w.cell? ⟨g, 216, none⟩ = some (.int .u64 (D.length : Int)) := by
  obtain ⟨s, b, h1, h2⟩ := h
  exact (h1.cell _).trans (hashA_count _ _ _ rfl h2.1)

set_option maxHeartbeats 4000000 in
set_option maxRecDepth 100000 in
theorem fillUp_any (g : Nat) (D : List UInt8) (w : World) (hH : HashAt w g D) (hN : D.length ≤ 549755813888) :
    Calls Try.prog 24 #[.pointer (some ⟨g, 0, none⟩)] w fun e w' => e = .returned (.tuple #[]) ∧ HashAt w' g (filled D) ∧ w.grownBy w' (some g) := by
  have hc := hH.count
  have hg := hH.lt
  obtain ⟨N, hNn⟩ := named D.length
  obtain ⟨h, hh⟩ := named (N * 8 / M)
  obtain ⟨lo, hlo⟩ := named (N * 8 % M)
  obtain ⟨Z, hZ⟩ := named (zerosN N)
  have hhl : h < M := by rw [hh.out]; rw [hNn.out]; unfold M; omega
  have hll : lo < M := by rw [hlo.out]; exact Nat.mod_lt _ (by decide)
  have hNl : N ≤ 549755813888 := by rw [hNn.out]; exact hN
  rw [← hNn.out] at hc
  have HH := Lib.hid hH
  clear hH hN
  go_enter Try.func24, Try.ntmps24
  go_wp2_with fail
  refine (mul64_any N 8 h lo (by unfold M; omega) (by decide) hh.out hlo.out _).mono ?_
  rintro e w' ⟨rfl, rfl⟩
  go_wp2_with fail
  have hs1 := src_one w g 128 hg
  refine (write_any g D [128] _ 1 1 _ (HH.out.alloc _) hs1 (Nat.le_refl _) (by rw [← hNn.out]; omega)).mono ?_
  rintro e w1 ⟨rfl, hH1, hg1⟩
  have hg2 := (grown_below ((Below.refl w.heap.size w).alloc (Nat.le_refl _) (.cells #[.int .u8 128] 5)) (some g)).trans hg1
  have HG2 := Lib.hid hg2
  have HH1 := Lib.hid hH1
  clear hg1 hg2 hH1 hs1
  go_wp2_with fail
  go_loopg [16] 200 (fun gh _ wr => ∃ k, HashAt wr g (D ++ 128 :: List.replicate k 0) ∧ w.grownBy wr (some g) ∧ k ≤ Z ∧ gh + k = 200)
  case atStart => exact ⟨0, HH1.out, HG2.out, Nat.zero_le _, rfl⟩
  case round =>
    obtain ⟨k, hHk, hgk, hk, hgh⟩ := hrel
    have hlen : (D ++ 128 :: List.replicate k 0).length = N + 1 + k := by rw [List.length_append, hNn.out]; simp; omega
    have hck := hHk.count
    have hgl := hHk.lt
    rw [hlen] at hck
    have hz := zerosN_lt N
    have HK := Lib.hid hHk
    have HGK := Lib.hid hgk
    have HLEN := Lib.hid hlen
    have HGH := Lib.hid hgh
    obtain ⟨q, hq⟩ := named ((N + 1 + k) % 128)
    have hfl := filled_any g (N + 1 + k) wr hck (by have := hZ.out; omega)
    rw [← hq.out] at hfl
    have HFL := Lib.hid hfl
    clear hHk hgk hlen hgh hfl hck
    by_cases hlt : k < Z
    · have hq1 : q ≠ 112 := by rw [hq.out]; exact zerosN_least N k (by rw [← hZ.out]; exact hlt)
      have hq2 : ((q : Int) != 112) = true := by simp; omega
      go_wp2_with fail
      refine HFL.out.mono ?_
      rintro e w2 ⟨rfl, rfl⟩
      go_wp2_with fail
      have hs2 := src_one wr g 0 hgl
      refine (write_any g (D ++ 128 :: List.replicate k 0) [0] _ 1 1 _ (HK.out.alloc _) hs2 (Nat.le_refl _) (by rw [HLEN.out]; have := hZ.out; omega)).mono ?_
      rintro e w3 ⟨rfl, hH3, hg3⟩
      have hH4 : Hid (HashAt w3 g (D ++ 128 :: List.replicate (k + 1) 0)) := by
        have e1 : D ++ 128 :: List.replicate (k + 1) 0 = (D ++ 128 :: List.replicate k 0) ++ [0] := by
          rw [List.replicate_succ', List.append_assoc]; rfl
        show HashAt _ _ _
        rw [e1]; exact hH3
      have hg4 := Lib.hid (HGK.out.trans ((grown_below ((Below.refl wr.heap.size wr).alloc (Nat.le_refl _) (.cells #[.int .u8 0] 5)) (some g)).trans hg3))
      clear hH3 hg3 hs2
      go_wp2_with fail
      go_roundg (gk - 1)
      case measure => have := HGH.out; have := hZ.out; omega
      case rel => exact ⟨k + 1, hH4.out, hg4.out, by omega, by have := HGH.out; have := hZ.out; omega⟩
    · obtain rfl : k = Z := by omega
      have hq1 : q = 112 := by rw [hq.out, hZ.out]; exact zerosN_spec N
      subst hq1
      go_wp2_with fail
      refine HFL.out.mono ?_
      rintro e w2 ⟨rfl, rfl⟩
      go_wp2_with fail
      refine (appendWord_any wr.heap.size h (.slice none 0 0) [] wr (World.ownsRow_nil _ _ _ _) hhl (by simp) (Nat.le_refl _)).mono ?_
      rintro e w3 ⟨v3, rfl, ho3, hb3⟩
      rw [List.nil_append] at ho3
      have HO3 := Lib.hid ho3
      clear ho3
      go_wp2_with fail
      refine (appendWord_any wr.heap.size lo v3 (wordBytes h) w3 HO3.out hll (by rw [wordBytes_length]; omega) hb3.size).mono ?_
      rintro e w4 ⟨v4, rfl, ho4, hb4⟩
      obtain ⟨A4, c4, rfl, hc4⟩ := own_form_cap ho4
      have hb5 := hb3.trans hb4
      have hl16 : (wordBytes h ++ wordBytes lo).length = 16 := by rw [List.length_append, wordBytes_length, wordBytes_length]
      have hs4 := src_own ho4 hgl
      rw [hl16] at hs4 hc4
      have HL16 := Lib.hid hl16
      have hW := write_any g (D ++ 128 :: List.replicate k 0) (wordBytes h ++ wordBytes lo) A4 16 c4 w4 (HK.out.drew hb5) hs4 hc4 (by rw [HLEN.out]; have := hZ.out; omega)
      have HW := Lib.hid hW
      have HB5 := Lib.hid (HGK.out.trans (grown_below hb5 (some g)))
      clear ho4 hb3 hb4 hb5 hs4 hW hl16
      rw [HL16.out]
      go_wp2_with fail
      refine HW.out.mono ?_
      rintro e w5 ⟨rfl, hH5, hg5⟩
      have hfin : Hid (HashAt w5 g (filled D)) := by
        have e1 : filled D = (D ++ 128 :: List.replicate k 0) ++ (wordBytes h ++ wordBytes lo) := by
          unfold filled
          rw [← hNn.out, ← hZ.out, Nat.mul_comm 8 N, ← hh.out, ← hlo.out, List.append_assoc]; rfl
        show HashAt _ _ _
        rw [e1]; exact hH5
      have hgf := Lib.hid (HB5.out.trans hg5)
      clear hH5 hg5
      go_wp2_with fail
      go_end0
      exact ⟨rfl, hfin.out, hgf.out⟩
end Go.Proofs.Ytblielcmjdnlfaa
