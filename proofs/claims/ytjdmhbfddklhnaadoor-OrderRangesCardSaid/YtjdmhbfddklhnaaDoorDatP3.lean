/-
  The program's package date: the numbers in a text of a shape. Conditions: a shape of ASCII signs with no long run of digits.
-/
import Derived.Test.YtjdmhbfddklhnaaDoorDatP2
import Derived.Lib.OthersKept
import Derived.LoopTactic
import Derived.Laws.AppendOwn
import Derived.Laws.OwnMore
import Derived.Great.BuildSlice
set_option linter.unusedSimpArgs false
set_option linter.unusedVariables false
set_option maxRecDepth 100000
namespace Go.Proofs.YtjdmhbfddklhnaaDoor
open Go Go.Proofs Go.RowKit Dat

def iCells (l : List Nat) : List Value := l.map fun (n : Nat) => .int .i64 (n : Int)
theorem iCells_length (l : List Nat) : (iCells l).length = l.length := by simp [iCells]
theorem own_iterAt {w : World} {base : Nat} {e : TypeId} {size : Nat} {v : Value} {n : Nat} {xs : List Value} (h : w.ownsRow base e size v n xs) {k : Nat} {s : ByteArray} {pos : Nat} (hk : w.heap[k]? = some (.stringIter s pos)) (p : Nat) : (w.iterAt k s p).ownsRow base e size v n xs := by
  refine ⟨h.1, ?_⟩
  rcases h.2 with hn | ⟨g, cap, cur, hv, hb, hg, rest⟩
  · exact .inl hn
  · exact .inr ⟨g, cap, cur, hv, hb, (Lib.iterAt_other w k g s p (fun e => by subst e; rw [hk] at hg; cases hg)).trans hg, rest⟩
theorem own_not_iter {w : World} {base : Nat} {e : TypeId} {size : Nat} {v : Value} {n : Nat} {xs : List Value} (h : w.ownsRow base e size v n xs) {k : Nat} {s : ByteArray} {pos : Nat} (hk : w.heap[k]? = some (.stringIter s pos)) : v.ownBlock ≠ some k := by
  intro hv
  rcases h.2 with ⟨rfl, _⟩ | ⟨g, cap, cur, rfl, hb, hg, rest⟩
  · cases hv
  · injection hv with hv
    have hv : g = k := hv
    subst hv
    rw [hk] at hg; cases hg
theorem iter_grown {w w' : World} {row : Option Nat} {k : Nat} {o : Obj} (hk : w.heap[k]? = some o) (hg : w.grownBy w' row) (hne : row ≠ some k) : w'.heap[k]? = some o :=
  (hg.block k (Array.getElem?_eq_some_iff.1 hk).1 (fun e => hne e.symm)).trans hk

theorem iCells_set (init : List Nat) (a b : Nat) : (iCells (init ++ [a])).set init.length (.int .i64 (b : Int)) = iCells (init ++ [b]) := by
  simp [iCells]
theorem infoI64 : (Tryd.prog.info? 2).map (fun i => (i.zero, i.size, i.bytes)) = some (some (.int .i64 0), 1, 8) := by kernel_rfl
theorem size_list (s : ByteArray) : s.toList.length = s.size := by rw [Lib.toList_data]; rfl
theorem drop_list (s : ByteArray) (pos : Nat) (h : pos < s.size) : s.toList.drop pos = s[pos] :: s.toList.drop (pos + 1) := by
  rw [Lib.toList_data, List.drop_eq_getElem_cons (show pos < s.data.toList.length from h)]
  rfl

/-- Where the numbers lie while a text is held against its shape. -/
structure NumsAt (w0 : World) (s : ByteArray) (pos : Nat) (init : List Nat) (last : Nat) (g k cap : Nat) (wr : World) : Prop where
  len : k = init.length + 1
  own : wr.ownsRow w0.heap.size 2 1 (.slice (some ⟨g, 0, none⟩) k cap) k (iCells (init ++ [last]))
  it : wr.heap[w0.heap.size + 1]? = some (.stringIter s pos)
  bel : Below w0.heap.size w0 wr

/-- How numbers ends. -/
def NumsEnd (r : Option (List Nat)) (w : World) (e : Ending) (w' : World) : Prop :=
  Below w.heap.size w w' ∧ (r = none → e = .returned (.tuple #[.slice none 0 0, .bool false])) ∧
    (∀ xs, r = some xs → ∃ g c, e = .returned (.tuple #[.slice (some ⟨g, 0, none⟩) xs.length c, .bool true]) ∧ w.heap.size ≤ g ∧ Reads w' w'.heap.size 1 (some ⟨g, 0, none⟩) xs.length (iCells xs))

set_option maxHeartbeats 8000000 in
theorem numbers_any (A : Option Addr) (n c : Nat) (l : List UInt8) (s : ByteArray) (w : World) (hr : Reads w w.heap.size 1 A n (Lib.byteCells l)) (hn0 : n ≤ 9223372036854775807) (hs : s.size ≤ 1099511627776)
    (hf : fits s.toList 0 = true) (ha : ∀ x ∈ s.toList, x.toNat < 128) :
    Calls Tryd.prog 57 #[.slice A n c, .string s] w fun e w' => NumsEnd (if n = s.size then numsR s.toList l [] 0 else none) w e w' := by
  have hl : l.length = n := by have := hr.1; simpa [Lib.byteCells_length] using this
  by_cases hns : n = s.size
  · have hn : n ≤ 1099511627776 := by omega
    clear hn0
    obtain ⟨r, hR⟩ : ∃ r, r = numsR s.toList l [] 0 := ⟨_, rfl⟩
    rw [if_pos hns, ← hR]
    have HR := Lib.hid hR
    have HL := Lib.hid hl
    have HF := Lib.hid hf
    have HA := Lib.hid ha
    have hnsI : ((n : Int) != (s.size : Int)) = false := by rw [bne_eq_false_iff_eq]; omega
    clear hR hl hf ha
    go_enter Tryd.func57, Tryd.ntmps57
    go_wp2_with fail
    have hl0 := World.ownsRow_lit (base := w.heap.size) (e := 2) (size := 1) w #[.int .i64 0] 1 (Nat.le_refl _) (by unfold maxLen; omega) rfl
    have hst : NumsAt w s 0 [] 0 w.heap.size 1 1 ((w.alloc (Obj.cells #[Value.int IntKind.i64 0] 2)).iter s 0) := by
      refine ⟨rfl, hl0.alloc _, ?_, ?_⟩
      · have := World.iter_heap (w.alloc (Obj.cells #[Value.int IntKind.i64 0] 2)) s 0
        simpa using this
      · exact ((Below.refl _ _).alloc (Nat.le_refl _) _).alloc (by simp) _
    have HST := Lib.hid hst
    clear hst hl0
    go_loopw [6] (fun q wr => ∃ (pos : Nat) (init : List Nat) (last g k cap kk : Nat), q = .slice (some ⟨g, 0, none⟩) k cap ∧ pos ≤ n ∧ k ≤ pos + 1 ∧ Hid (NumsAt w s pos init last g k cap wr) ∧ Hid (r = numsR (s.toList.drop pos) (l.drop pos) init last) ∧ Hid (fits (s.toList.drop pos) kk = true ∧ last < 10 ^ kk)) (fun _ wr => s.size - wr.iterPos (w.heap.size + 1))
    case atStart => exact ⟨0, [], 0, w.heap.size, 1, 1, 0, rfl, by omega, by omega, HST.out, by show _ = _; rw [HR.out]; rfl, ⟨HF.out, by decide⟩⟩
    case round =>
      clear HST
      obtain ⟨pos, init, last, g, k, cap, kk, rfl, hpos, hkp, hat, hrr, hff⟩ := hrel
      by_cases hp : pos < s.size
      · have hpn : pos < n := by omega
        obtain ⟨hk, hown, hit, hbel⟩ := hat.out
        have hno := own_not_iter hown hit
        have hgB := (hown.lt g rfl).1
        obtain ⟨sg, hsg⟩ : ∃ sg, sg = s[pos] := ⟨_, rfl⟩
        have hsl : s.toList.drop pos = sg :: s.toList.drop (pos + 1) := by rw [drop_list s pos hp, hsg]
        have hsa : sg.toNat < 128 := HA.out sg (by
          have : sg ∈ s.toList.drop pos := by rw [hsl]; exact List.mem_cons_self
          exact List.mem_of_mem_drop this)
        have hnx0 := fun ty => Lib.run_next_ascii_at (P := Tryd.prog) wr (w.heap.size + 1) s pos ty hit hp (by rw [← hsg]; exact hsa)
        obtain ⟨ad, y, rfl, _, hdl, _⟩ := dbyte (hr.below hbel) hpn
        obtain ⟨w1, hw1⟩ : ∃ w1, w1 = wr.iterAt (w.heap.size + 1) s (pos + 1) := ⟨_, rfl⟩
        have hown1 : w1.ownsRow w.heap.size 2 1 (.slice (some ⟨g, 0, none⟩) k cap) k (iCells (init ++ [last])) := by rw [hw1]; exact own_iterAt hown hit _
        have hit1 : w1.heap[w.heap.size + 1]? = some (.stringIter s (pos + 1)) := by rw [hw1]; exact Lib.iterAt_heap _ _ _ _ _ hit
        have hbel1 : Below w.heap.size w w1 := by rw [hw1]; exact Lib.below_iterAt hbel (by omega) _ _
        rw [← hw1, ← hsg] at hnx0
        have hnx : ∀ ty, (Instr.next (.pointer (some ⟨w.heap.size + 1, 0, none⟩)) true ty).run Tryd.prog wr = .ok (.tuple #[.bool true, .int .i64 pos, .int .i32 sg.toNat]) w1 := hnx0
        obtain ⟨ad', y', he, hcell, hdl', _⟩ := dbyte (hr.below hbel1) hpn
        injection he with he
        subst he
        obtain rfl : y = y' := by rw [hdl] at hdl'; injection hdl'
        have HSL := Lib.hid hsl
        have HDL := Lib.hid hdl
        have HOWN := Lib.hid hown1
        have HIT := Lib.hid hit1
        have HBEL := Lib.hid hbel1
        have HNO := Lib.hid hno
        have hm1 : wr.iterPos (w.heap.size + 1) = pos := by simp [World.iterPos, hit]
        have hy256 := y.toNat_lt
        clear hat hown hit hbel hno hsg hsl hnx0 hdl hdl' hown1 hit1 hbel1 hw1
        by_cases hz : sg = 48
        · subst hz
          by_cases hdg : dg y = true
          · obtain ⟨d1, d2⟩ := dv_lt hdg
            obtain ⟨hkk, hff'⟩ := fits_zero (by have := hff.out.1; rw [HSL.out] at this; exact this)
            have HRR : Hid (r = numsR (s.toList.drop (pos + 1)) (l.drop (pos + 1)) init (10 * last + dv y)) := by
              show _ = _
              rw [hrr.out, HSL.out, HDL.out, nums_zero hdg]
            have hlast : last < 100000000000000000 := Nat.lt_of_lt_of_le hff.out.2 (by
              have := Nat.pow_le_pow_right (show 0 < 10 by omega) (show kk ≤ 17 by omega)
              have e : (10 : Nat) ^ 17 = 100000000000000000 := by decide
              omega)
            have HFF : Hid (fits (s.toList.drop (pos + 1)) (kk + 1) = true ∧ 10 * last + dv y < 10 ^ (kk + 1)) := ⟨hff', by have := hff.out.2; rw [Nat.pow_succ]; omega⟩
            obtain ⟨dd, hdd⟩ : ∃ dd, dd = dv y := ⟨_, rfl⟩
            rw [← hdd] at HRR HFF d1 d2
            have b1 : decide (48 ≤ (y.toNat : Int)) = true := decide_eq_true (by omega)
            have b2 : decide ((y.toNat : Int) ≤ 57) = true := decide_eq_true (by omega)
            obtain ⟨j, hj⟩ : ∃ j, j = init.length := ⟨_, rfl⟩
            have hjI : (k : Int) - 1 = (j : Int) := by omega
            have hjk : j < k := by omega
            have hcl : w1.cell? ⟨g, j, none⟩ = some (.int .i64 (last : Int)) := by
              rw [World.ownsRow.cellAt HOWN.out j (by omega), hj]
              simp [iCells]
            have hfr : w1.frozen? ⟨g, j, none⟩ = false := World.ownsRow.frozenAt HOWN.out j
            have hyd : (y.toNat : Int) - 48 = (dd : Int) := by omega
            have HK := Lib.hid hk
            have HJ := Lib.hid hj
            clear hdg hkk hff hff' hrr hdd hk hj d2 hns
            go_wp2_with fail
            obtain ⟨o2, g2⟩ := World.ownsRow.stored HOWN.out j (.int .i64 ((10 * last + dd : Nat) : Int))
            have e2 : (10 * (last : Int) + (dd : Int)) = ((10 * last + dd : Nat) : Int) := by omega
            rw [e2]
            have it2 := iter_grown HIT.out g2 HNO.out
            have b2' := HBEL.out.setCell (p := ⟨g, j, none⟩) hgB (.int .i64 ((10 * last + dd : Nat) : Int))
            rw [HJ.out, iCells_set, ← HJ.out] at o2
            refine ⟨⟨pos + 1, init, 10 * last + dd, g, k, cap, kk + 1, rfl, by omega, by omega, ⟨HK.out, o2, it2, b2'⟩, HRR.out, HFF.out⟩, ?_⟩
            rw [hm1]
            have : World.iterPos (w1.setCell ⟨g, j, none⟩ (.int .i64 ((10 * last + dd : Nat) : Int))) (w.heap.size + 1) = pos + 1 := by unfold World.iterPos; rw [it2]
            rw [this]; omega
          · have hdg' : dg y = false := by simpa using hdg
            have hfin : Hid (r = none) := by show _ = _; rw [hrr.out, HSL.out, HDL.out, nums_zero_no hdg']
            by_cases c1 : 48 ≤ y.toNat
            · have b1 : decide (48 ≤ (y.toNat : Int)) = true := decide_eq_true (by omega)
              have b2 : decide ((y.toNat : Int) ≤ 57) = false := decide_eq_false (by intro h; simp [dg] at hdg'; have := hdg' c1; omega)
              clear c1 hdg hdg' hrr hff
              go_wp2_with fail
              go_ret2
              exact ⟨HBEL.out, fun _ => rfl, fun xs h => by rw [hfin.out] at h; cases h⟩
            · have b1 : decide (48 ≤ (y.toNat : Int)) = false := decide_eq_false (by omega)
              clear c1 hdg hdg' hrr hff
              go_wp2_with fail
              go_ret2
              exact ⟨HBEL.out, fun _ => rfl, fun xs h => by rw [hfin.out] at h; cases h⟩
        · have hzB : ((sg.toNat : Int) == 48) = false := by
            rw [beq_eq_false_iff_ne]; intro h
            exact hz (UInt8.toNat_inj.1 (by show sg.toNat = 48; omega))
          have hzB2 : ((sg.toNat : Int) != 48) = true := by
            rw [bne_iff_ne]; intro h
            exact hz (UInt8.toNat_inj.1 (by show sg.toNat = 48; omega))
          by_cases hys : y = sg
          · subst hys
            have b1 : ((y.toNat : Int) == (y.toNat : Int)) = true := beq_self_eq_true _
            have HRR : Hid (r = numsR (s.toList.drop (pos + 1)) (l.drop (pos + 1)) (init ++ [last]) 0) := by
              show _ = _
              rw [hrr.out, HSL.out, HDL.out, nums_sign hz]
            have HFF : Hid (fits (s.toList.drop (pos + 1)) 0 = true ∧ 0 < 10 ^ 0) := ⟨fits_sign hz (by have := hff.out.1; rw [HSL.out] at this; exact this), by decide⟩
            obtain ⟨i0, hi, hz0, hz1, hz2⟩ : ∃ i0, Tryd.prog.info? 2 = some i0 ∧ i0.zero = some (.int .i64 0) ∧ i0.size = 1 ∧ i0.bytes = 8 := by
              have h := infoI64
              cases hx : Tryd.prog.info? 2 with
              | none => rw [hx] at h; cases h
              | some i =>
                rw [hx] at h
                simp only [Option.map_some, Option.some.injEq, Prod.mk.injEq] at h
                exact ⟨i, rfl, h.1, h.2.1, h.2.2⟩
            have HI := Lib.hid hi
            have HK := Lib.hid hk
            have hsz1 := HBEL.out.size
            clear hi hk hz hff hrr hns
            go_wp2_with (at_builtin; refine wpList_append_own _ rfl _ _ 67 rfl w.heap.size 2 i0 (.int .i64 0) 1 8 Tryd.underlying67 HI.out hz0 hz1 hz2 rfl (by decide) _ _ _ rfl (HOWN.out.alloc _) ⟨w1.heap.size, 0, none⟩ 1 1 [.int .i64 0] rfl rfl ?c1 ?c2 ?c3 ?c4 ?c5 ?_)
            case c1 =>
              intro j u hj
              match j, hj with
              | 0, hj => simp at hj; subst hj; simp [Addr.add]
            case c2 => intro u hu; simp at hu; subst hu; rfl
            case c3 => unfold maxLen; omega
            case c4 => omega
            case c5 => have := hsz1; simp; omega
            intro v' w2 hown' hgrow _
            have hal : (w1.alloc (Obj.cells #[Value.int IntKind.i64 0] 2)).heap[w.heap.size + 1]? = some (.stringIter s (pos + 1)) :=
              (Below.heap_alloc w1 _ _ (Array.getElem?_eq_some_iff.1 HIT.out).1).trans HIT.out
            have hit2 := iter_grown hal hgrow HNO.out
            have hb2 : Below w.heap.size w w2 := (HBEL.out.alloc HBEL.out.size _).grown hgrow (by have := hsz1; simp; omega) (fun q hq => (HOWN.out.lt q hq).1)
            have hown2 : w2.ownsRow w.heap.size 2 1 v' (k + 1) (iCells ((init ++ [last]) ++ [0])) := by
              have e : iCells ((init ++ [last]) ++ [0]) = iCells (init ++ [last]) ++ [.int .i64 0] := by simp [iCells]
              rw [e]; exact hown'
            obtain ⟨g', cap', rfl, _⟩ := hown2.form (by omega)
            have HO2 := Lib.hid hown2
            have HI2 := Lib.hid hit2
            have HB2 := Lib.hid hb2
            clear hown' hgrow hal hit2 hb2 hown2
            go_wp2_with fail
            refine ⟨⟨pos + 1, init ++ [last], 0, g', k + 1, cap', 0, rfl, by omega, by omega, ⟨by rw [List.length_append, HK.out]; rfl, HO2.out, HI2.out, HB2.out⟩, HRR.out, HFF.out⟩, ?_⟩
            rw [hm1]
            have : World.iterPos w2 (w.heap.size + 1) = pos + 1 := by unfold World.iterPos; rw [HI2.out]
            rw [this]; omega
          · have hfin : Hid (r = none) := by show _ = _; rw [hrr.out, HSL.out, HDL.out, nums_sign_no hz hys]
            have b1 : ((sg.toNat : Int) == (y.toNat : Int)) = false := by
              rw [beq_eq_false_iff_ne]; intro h
              exact hys (UInt8.toNat_inj.1 (by omega))
            clear hys hz hrr hff
            go_wp2_with fail
            go_ret2
            exact ⟨HBEL.out, fun _ => rfl, fun xs h => by rw [hfin.out] at h; cases h⟩
      · obtain rfl : pos = n := by omega
        obtain ⟨hk, hown, hit, hbel⟩ := hat.out
        have hfin : Hid (r = some (init ++ [last])) := by
          show _ = _
          rw [hrr.out, List.drop_of_length_le (by rw [size_list]; omega)]
          rfl
        have hrd := World.ownsRow.cells hown (g := g) rfl
        have hgl := (hown.lt g rfl)
        have hlen : (init ++ [last]).length = k := by simp; omega
        have HRD : Hid (Reads wr wr.heap.size 1 (some ⟨g, 0, none⟩) k (iCells (init ++ [last]))) := ⟨by rw [iCells_length, hlen, Nat.mul_one], fun _ => ⟨_, rfl, hgl.2, hrd⟩⟩
        have HB := Lib.hid hbel
        have HLEN := Lib.hid hlen
        have hnx : ∀ ty, (Instr.next (.pointer (some ⟨w.heap.size + 1, 0, none⟩)) true ty).run Tryd.prog wr = _ := fun ty => Lib.run_next_end_at wr (w.heap.size + 1) s pos ty hit hp
        have hg1 := hgl.1
        clear hown hit hbel hrd hgl hlen hat
        go_wp2_with fail
        go_ret2
        refine ⟨HB.out, fun h => (by rw [hfin.out] at h; cases h), fun xs h => ?_⟩
        rw [hfin.out] at h
        injection h with h
        subst h
        rw [HLEN.out]
        exact ⟨g, cap, rfl, hg1, HRD.out⟩
  · rw [if_neg hns]
    have hnsI : ((n : Int) != (s.size : Int)) = true := by rw [bne_iff_ne]; omega
    clear hns hl
    go_enter Tryd.func57, Tryd.ntmps57
    go_wp2_with fail
    go_ret2
    exact ⟨Below.refl _ _, fun _ => rfl, fun xs h => by cases h⟩
end Go.Proofs.YtjdmhbfddklhnaaDoor
