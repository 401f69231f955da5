/-
  Proved here: an instruction that may be is the only one that has its word. Conditions: the operation is one of the table's; the numbers are ints. ¦ what New, Len, Bytes, Put and Clone of the code answer, and what stands in memory behind them. Conditions: the memory is one that a call made, of at most 2^24 bytes. ¦ what bytes are when instructions are laid from the beginning on; what the first word then decodes to; what a step that has no error does to registers and to the place. Conditions: none beside those that each names. ¦ what a step changes: one register at most, and bytes where its instruction stores, and there alone. Conditions: none beside those that each names.
-/
import Derived.Test.YtmggichckhoomaaGreatDoorKad
import Derived.Test.YtmggichckhoomaaGreatDoorQan
import Derived.Test.YtmggichckhoomaaGreatDoorQbn
import Derived.Test.YtmggichckhoomaaGreatDoorQbq
import Derived.Test.YtmggichckhoomaaGreatDoorKaa
import Derived.Test.YtmggichckhoomaaGreatDoorKab
import Derived.Test.YtmggichckhoomaaGreatDoorKac
section
namespace Go.Proofs.YtmggichckhoomaaGreatDoor
open Go.RowKit
set_option linter.unusedVariables false
theorem bk_any (f o a3 a7 rd rs1 rs2 im : Int) (aq rl : Bool) (f1 : 1 ≤ f) (f12 : f ≤ 12) (o0 : 0 ≤ o) (o1 : o ≤ 127) (a0 : 0 ≤ a3) (a1 : a3 ≤ 7) (b0 : 0 ≤ a7) (b1 : a7 ≤ 127) (hf : Fine f a3 a7 = true)
    (r0 : 0 ≤ rd) (r1 : rd ≤ 31) (s0 : 0 ≤ rs1) (s1 : rs1 ≤ 31) (t0 : 0 ≤ rs2) (t1 : rs2 ≤ 31) (hrd : rd = oi (rdT f) rd) (hs1 : rs1 = oi (rs1T f) rs1) (hs2 : rs2 = oi (rs2T f) rs2) (hq : aq = ob (ordT f) aq) (hl : rl = ob (ordT f) rl) (hm : MayB f im = true) :
    ∃ U : Nat, U < 4294967296 ∧ WW f o a3 a7 rd rs1 rs2 aq rl (IntKind.u64.wrap im) = (U : Int) ∧ Fld U 0 7 = o ∧ Get (f3T f) 0 U = a3 ∧ Get (f7T f) 0 U = a7 ∧
      oi (rdT f) (Fld U 7 5) = rd ∧ oi (rs1T f) (Fld U 15 5) = rs1 ∧ oi (rs2T f) (Fld U 20 5) = rs2 ∧ oi (immT f) (II f U) = im ∧ ob (ordT f) (Fld U 26 1 == 1) = aq ∧ ob (ordT f) (Fld U 25 1 == 1) = rl := by
  obtain ⟨o, rfl⟩ := Int.eq_ofNat_of_zero_le o0
  obtain ⟨a3, rfl⟩ := Int.eq_ofNat_of_zero_le a0
  obtain ⟨a7, rfl⟩ := Int.eq_ofNat_of_zero_le b0
  unfold Fine at hf
  have hk : f = 1 ∨ f = 2 ∨ f = 3 ∨ f = 4 ∨ f = 5 ∨ f = 6 ∨ f = 7 ∨ f = 8 ∨ f = 9 ∨ f = 10 ∨ f = 11 ∨ f = 12 := by omega
  rcases hk with rfl | rfl | rfl | rfl | rfl | rfl | rfl | rfl | rfl | rfl | rfl | rfl
  · obtain ⟨rd, rfl⟩ := Int.eq_ofNat_of_zero_le r0
    obtain rfl : rs1 = 0 := hs1
    obtain rfl : rs2 = 0 := hs2
    obtain rfl : aq = false := hq
    obtain rfl : rl = false := hl
    simp at hf
    exact bk_1 o a3 a7 rd 0 0 im false false (by omega) (by omega) (by omega) (by omega) (by omega) (by omega) (by omega) (by omega) hm
  · obtain ⟨rd, rfl⟩ := Int.eq_ofNat_of_zero_le r0
    obtain rfl : rs1 = 0 := hs1
    obtain rfl : rs2 = 0 := hs2
    obtain rfl : aq = false := hq
    obtain rfl : rl = false := hl
    simp at hf
    exact bk_2 o a3 a7 rd 0 0 im false false (by omega) (by omega) (by omega) (by omega) (by omega) (by omega) (by omega) (by omega) hm
  · obtain ⟨rd, rfl⟩ := Int.eq_ofNat_of_zero_le r0
    obtain ⟨rs1, rfl⟩ := Int.eq_ofNat_of_zero_le s0
    obtain rfl : rs2 = 0 := hs2
    obtain rfl : aq = false := hq
    obtain rfl : rl = false := hl
    simp at hf
    exact bk_3 o a3 a7 rd rs1 0 im false false (by omega) (by omega) (by omega) (by omega) (by omega) (by omega) (by omega) hm
  · obtain rfl : rd = 0 := hrd
    obtain ⟨rs1, rfl⟩ := Int.eq_ofNat_of_zero_le s0
    obtain ⟨rs2, rfl⟩ := Int.eq_ofNat_of_zero_le t0
    obtain rfl : aq = false := hq
    obtain rfl : rl = false := hl
    simp at hf
    exact bk_4 o a3 a7 0 rs1 rs2 im false false (by omega) (by omega) (by omega) (by omega) (by omega) (by omega) (by omega) hm
  · obtain rfl : rd = 0 := hrd
    obtain ⟨rs1, rfl⟩ := Int.eq_ofNat_of_zero_le s0
    obtain ⟨rs2, rfl⟩ := Int.eq_ofNat_of_zero_le t0
    obtain rfl : aq = false := hq
    obtain rfl : rl = false := hl
    simp at hf
    exact bk_5 o a3 a7 0 rs1 rs2 im false false (by omega) (by omega) (by omega) (by omega) (by omega) (by omega) (by omega) hm
  · obtain ⟨rd, rfl⟩ := Int.eq_ofNat_of_zero_le r0
    obtain ⟨rs1, rfl⟩ := Int.eq_ofNat_of_zero_le s0
    obtain rfl : rs2 = 0 := hs2
    obtain rfl : aq = false := hq
    obtain rfl : rl = false := hl
    simp at hf
    exact bk_6 o a3 a7 rd rs1 0 im false false (by omega) (by omega) (by omega) (by omega) (by omega) (by omega) (by omega) hm
  · obtain ⟨rd, rfl⟩ := Int.eq_ofNat_of_zero_le r0
    obtain ⟨rs1, rfl⟩ := Int.eq_ofNat_of_zero_le s0
    obtain rfl : rs2 = 0 := hs2
    obtain rfl : aq = false := hq
    obtain rfl : rl = false := hl
    clear hf
    exact bk_7 o a3 a7 rd rs1 0 im false false (by omega) (by omega) (by omega)  (by omega) (by omega) (by omega) hm
  · obtain ⟨rd, rfl⟩ := Int.eq_ofNat_of_zero_le r0
    obtain ⟨rs1, rfl⟩ := Int.eq_ofNat_of_zero_le s0
    obtain ⟨rs2, rfl⟩ := Int.eq_ofNat_of_zero_le t0
    obtain rfl : aq = false := hq
    obtain rfl : rl = false := hl
    clear hf
    exact bk_8 o a3 a7 rd rs1 rs2 im false false (by omega) (by omega) (by omega)  (by omega) (by omega) (by omega) hm
  · obtain rfl : rd = 0 := hrd
    obtain rfl : rs1 = 0 := hs1
    obtain rfl : rs2 = 0 := hs2
    obtain rfl : aq = false := hq
    obtain rfl : rl = false := hl
    simp at hf
    exact bk_9 o a3 a7 0 0 0 im false false (by omega) (by omega) (by omega) (by omega) (by omega) (by omega) (by omega) (by omega) hm
  · obtain rfl : rd = 0 := hrd
    obtain rfl : rs1 = 0 := hs1
    obtain rfl : rs2 = 0 := hs2
    obtain rfl : aq = false := hq
    obtain rfl : rl = false := hl
    simp at hf
    exact bk_10 o a3 a7 0 0 0 im false false (by omega) (by omega) (by omega) (by omega) (by omega) (by omega) (by omega) hm
  · obtain ⟨rd, rfl⟩ := Int.eq_ofNat_of_zero_le r0
    obtain ⟨rs1, rfl⟩ := Int.eq_ofNat_of_zero_le s0
    obtain rfl : rs2 = 0 := hs2
    simp at hf
    exact bk_11 o a3 a7 rd rs1 0 im aq rl (by omega) (by omega) (by omega) (by omega) (by omega) (by omega) (by omega) hm
  · obtain ⟨rd, rfl⟩ := Int.eq_ofNat_of_zero_le r0
    obtain ⟨rs1, rfl⟩ := Int.eq_ofNat_of_zero_le s0
    obtain ⟨rs2, rfl⟩ := Int.eq_ofNat_of_zero_le t0
    simp at hf
    exact bk_12 o a3 a7 rd rs1 rs2 im aq rl (by omega) (by omega) (by omega) (by omega) (by omega) (by omega) (by omega) hm
theorem eqi {op rd rs1 rs2 im : Int} {aq rl : Bool} {op' rd' rs1' rs2' im' : Int} {aq' rl' : Bool} (h : EqI op rd rs1 rs2 im aq rl op' rd' rs1' rs2' im' aq' rl' = true) :
    op = op' ∧ rd = rd' ∧ rs1 = rs1' ∧ rs2 = rs2' ∧ im = im' ∧ aq = aq' ∧ rl = rl' := by
  unfold EqI at h
  simpa only [Bool.and_eq_true, beq_iff_eq] using h
theorem good_row {op rd rs1 rs2 im : Int} {aq rl : Bool} (h : GoodB op rd rs1 rs2 im aq rl = true) : 1 ≤ op ∧ op < 88 := by
  unfold GoodB at h
  by_cases c : op < 1 ∨ 87 < op
  · rw [ref_no op c] at h
    cases h
  · omega
/-- All that the word of an instruction that may be tells. -/
theorem back_all (n : Nat) (rd rs1 rs2 im : Int) (aq rl : Bool) (hg : GoodB n rd rs1 rs2 im aq rl = true) :
    ∃ U : Nat, U < 4294967296 ∧ EncW n rd rs1 rs2 im aq rl = (U : Int) ∧ MatchB n U = true ∧ Ird n U = rd ∧ Irs1 n U = rs1 ∧ Irs2 n U = rs2 ∧ Iim n U = im ∧ Iaq n U = aq ∧ Irl n U = rl := by
  have hn := good_row hg
  obtain ⟨q1, q2, q3⟩ := good_ranges hg
  have hg' := hg
  unfold GoodB at hg'
  obtain ⟨f0, f1, o0, o1, a0, a1, b0, b1⟩ := row_ok n
  have hF := rows_fine n (by omega)
  by_cases c : (refRow (n : Int)).1 = 0
  · rw [if_pos c] at hg'; cases hg'
  rw [if_neg c] at hg'
  simp only [Bool.and_eq_true] at hg'
  obtain ⟨e0, e1, e2, e3, e4, e5, e6⟩ := eqi hg'.1
  obtain ⟨U, hU, hW, w0, w1, w2, w3, w4, w5, w6, w7, w8⟩ := bk_any (refRow (n : Int)).1 (refRow (n : Int)).2.1 (refRow (n : Int)).2.2.1 (refRow (n : Int)).2.2.2 rd rs1 rs2 im aq rl (by omega) f1 o0 o1 a0 a1 b0 b1 hF q1.1 q1.2 q2.1 q2.2 q3.1 q3.2 e1 e2 e3 e5 e6 hg'.2.2.2.2
  have hE : EncW n rd rs1 rs2 im aq rl = (U : Int) := by
    unfold EncW W64
    unfold WW at hW
    rw [hW, IntKind.wrap_u32]
    omega
  have k3 : Ird n U = rd := w3
  have k4 : Irs1 n U = rs1 := w4
  have k5 : Irs2 n U = rs2 := w5
  have k6 : Iim n U = im := w6
  have k7 : Iaq n U = aq := w7
  have k8 : Irl n U = rl := w8
  refine ⟨U, hU, hE, ?_, k3, k4, k5, k6, k7, k8⟩
  refine match_yes n U (beq_iff_eq.2 w0.symm) ?_ ?_ ?_
  · unfold HeadB EqH
    rw [w0, w1, w2]
    simp
  · unfold GoodK
    rw [k3, k4, k5, k6, k7, k8]
    exact hg
  · unfold EncK
    rw [k3, k4, k5, k6, k7, k8, hE]
    simp
/-- No other operation has the word. -/
theorem back_one (n j : Nat) (u : Int) (n0 : 1 ≤ n) (n1 : n < 88) (j0 : 1 ≤ j) (j1 : j < 88) (hn : MatchB n u = true) (hj : MatchB j u = true) : n = j :=
  head_one n0 n1 j0 j1 (match_head hn) (match_head hj)
end Go.Proofs.YtmggichckhoomaaGreatDoor
end
section
namespace Go.Proofs.YtmggichckhoomaaGreatDoor
open Go.RowKit
set_option linter.unusedVariables false
set_option linter.unusedSimpArgs false
set_option maxRecDepth 100000 in
theorem len_any (p b : Nat) (bs : By) (w : World) (hM : Mem 92 w p b bs) :
    Calls Tryz.prog 20 #[.pointer (some ⟨p, 0, none⟩)] w fun e w' => e = .returned (.int .i64 bs.length) ∧ w = w' := by
  have hc := hM.head
  go_enter Tryz.func20, Tryz.ntmps20
  go_wp2_with fail
  refine (made_any p b bs _ hM).mono ?_
  rintro e w' ⟨rfl, rfl⟩
  go_wp2_with fail
  go_ret
  exact ⟨rfl, rfl⟩
theorem splice_whole {α : Type} (L cs : List α) (h : cs.length = L.length) : splice L 0 cs = cs := by simp [splice, h]
/-- The bytes of a part, in a block of their own. -/
def BytesOk (bs : By) (at_ k : Nat) (w : World) (e : Ending) (w' : World) : Prop :=
  e = .returned (.tuple #[.slice (some ⟨w.heap.size, 0, none⟩) k k, .int .i64 0]) ∧ w'.heap[w.heap.size]? = some (.cells (Lib.byteCells ((bs.drop at_).take k)).toArray 5 (0, 0)) ∧ Below w.heap.size w w'
theorem addr_add (b a j : Nat) : (⟨b, a, none⟩ : Addr).add j = ⟨b, a + j, none⟩ := by unfold Addr.add; split <;> simp_all
theorem byte_cells_one (l : By) : ∀ v ∈ Lib.byteCells l, v.oneCell' = true := by
  intro v hv
  obtain ⟨c, -, rfl⟩ := List.mem_map.1 hv
  rfl
theorem src_part {w : World} {b : Nat} {bs : By} (hb : w.heap[b]? = some (.cells (Lib.byteCells bs).toArray 5 (0, 0))) (at_ k : Nat) : ∀ j v, (Lib.byteCells ((bs.drop at_).take k))[j]? = some v → w.cell? ((⟨b, at_, none⟩ : Addr).add j) = some v := by
  intro j v hv
  rw [addr_add, cell_of_row _ _ _ _ _ _ hb]
  unfold Lib.byteCells at hv ⊢
  rw [List.getElem?_map, List.getElem?_take] at hv
  split at hv
  · rw [List.getElem?_drop] at hv
    simpa using hv
  · cases hv
set_option maxRecDepth 100000 in
set_option maxHeartbeats 1000000 in
theorem bytes_ok (p b : Nat) (bs : By) (at_ k : Nat) (h : at_ + k ≤ bs.length) (hl : bs.length ≤ 16777216) (w : World) (hM : Mem 92 w p b bs) :
    Calls Tryz.prog 19 #[.pointer (some ⟨p, 0, none⟩), .int .u64 (at_ : Int), .int .i64 (k : Int)] w (BytesOk bs at_ k w) := by
  obtain ⟨i0, hi, hz0, hz1, hz2⟩ := info_parts info5
  have HN := Lib.hid (part_ok p b bs at_ k h hl w hM)
  unfold PartOk at HN
  have hlt := hM.lt.2
  have hcl := Lib.hid (show (Lib.byteCells ((bs.drop at_).take k)).length = k by rw [Lib.byteCells_length]; simp; omega)
  have hsrc := Lib.hid (src_part (w := w.alloc (.cells (Lib.byteCells (List.replicate k 0)).toArray 5)) (bs := bs) ((Below.heap_alloc _ _ _ hlt).trans hM.2) at_ k)
  have hone := Lib.hid (byte_cells_one ((bs.drop at_).take k))
  have hzl := Lib.hid (show (Lib.byteCells (List.replicate k 0)).length = k by rw [Lib.byteCells_length]; simp)
  have hfin := Lib.hid (show splice (Lib.byteCells (List.replicate k 0)) 0 (Lib.byteCells ((bs.drop at_).take k)) = Lib.byteCells ((bs.drop at_).take k) from splice_whole _ _ (by rw [hcl.out, hzl.out]))
  unfold BytesOk
  generalize Lib.byteCells ((bs.drop at_).take k) = cs at *
  go_enter Tryz.func19, Tryz.ntmps19
  go_wp2_with fail
  refine (made_any p b bs _ hM).mono ?_
  rintro e w' ⟨rfl, rfl⟩
  go_wp2_with fail
  refine (HN.out).mono ?_
  rintro e w' ⟨A, hA0, rfl, rfl⟩
  have hA := Lib.hid hA0
  clear hA0
  go_wp2_with (first
    | refine wpList_make_zero _ rfl _ _ 27 rfl 5 i0 Tryz.underlying27 hi hz0 hz1 hz2 .i64 .i64 _ _ k rfl rfl rfl rfl (by omega) ?_
    | (refine wpList_copy_splice rfl (.tmp 29) (.tmp 30) 27 27 rfl 5 Tryz.underlying27 (by kernel_rfl) _ _ _ _ _ _ rfl rfl w.heap.size 0 (Lib.byteCells (List.replicate k 0)) 5 (heap_alloc_new w _) cs (by rw [hcl.out]; exact (Nat.min_self k).symm) (fun h0 => ⟨rfl, _, hA.out (by rw [hcl.out] at h0; exact h0), hsrc.out⟩) (by rw [hcl.out, hzl.out]; omega) hone.out w.heap.size w ((Below.refl _ _).alloc (Nat.le_refl _) _) (Nat.le_refl _) ?_; intro w2 HG2 hB2))
  go_ret2
  exact ⟨rfl, by have := HG2.out; rw [hfin.out] at this; exact this, hB2⟩
end Go.Proofs.YtmggichckhoomaaGreatDoor
end
section
namespace Go.Proofs.YtmggichckhoomaaGreatDoor
open Go.RowKit
set_option linter.unusedVariables false
set_option linter.unusedSimpArgs false
theorem num_same {a b : By} {at_ s : Nat} (h : ∀ j, at_ ≤ j → j < at_ + s → a[j]? = b[j]?) : numAt a at_ s = numAt b at_ s := by
  unfold numAt
  congr 1
  apply List.ext_getElem?
  intro j
  rw [List.getElem?_take, List.getElem?_take]
  split
  · rw [List.getElem?_drop, List.getElem?_drop]
    exact h _ (by omega) (by omega)
  · rfl
theorem stB_out (bs : By) (at_ s v : Int) (i : Nat) (a0 : 0 ≤ at_) (h : flt bs.length at_ s ≠ 0 ∨ (i : Int) < at_ ∨ at_ + s ≤ i) : (stB bs at_ s v)[i]? = bs[i]? := by
  unfold stB
  split
  · rename_i h0
    obtain ⟨h1, h2, h3⟩ := flt_ok h0
    rw [lay_get _ _ _ (by rw [leB_len]; omega), leB_len, if_neg (by omega)]
  · rfl
theorem num_stB (bs : By) (at_ s : Nat) (v : Int) (h : flt bs.length at_ s = 0) : numAt (stB bs at_ s v) at_ s = v.toNat % 256 ^ s := by
  obtain ⟨h1, h2, h3⟩ := flt_ok h
  unfold stB numAt
  rw [if_pos h]
  have := lay_at bs at_ (leB s v.toNat) (by rw [leB_len]; omega)
  rw [leB_len] at this
  rw [Int.toNat_natCast, Int.toNat_natCast, this, leV_leB]
theorem laid_first (bs : By) (is : List In7) (h : 4 ≤ bs.length) (k : Nat) (hk : 1 ≤ k) : ldV (laidN bs is k) 0 4 = encI (is.getD 0 z7) := by
  have hf : ∀ l : By, 4 ≤ l.length → flt l.length ((0 : Nat) : Int) ((4 : Nat) : Int) = 0 := fun l hl => by
    rw [flt_part (by omega) (by omega)]
    unfold fltP
    rw [if_neg (by omega)]
  have hn : ∀ k, 1 ≤ k → numAt (laidN bs is k) 0 4 = (encI (is.getD 0 z7)).toNat := by
    intro k hk
    induction k with
    | zero => omega
    | succ k ih =>
      by_cases h0 : k = 0
      · subst h0
        have h1 := num_stB bs 0 4 (encI (is.getD 0 z7)) (hf bs h)
        have h2 := encI_in (is.getD 0 z7)
        have h3 : numAt (laidN bs is 1) 0 4 = (encI (is.getD 0 z7)).toNat % 256 ^ 4 := h1
        rw [h3]
        omega
      · rw [← ih (by omega)]
        exact num_same fun j h1 h2 => stB_out _ _ _ _ _ (by omega) (.inr (.inl (by omega)))
  have h2 := encI_in (is.getD 0 z7)
  have h0 : flt (laidN bs is k).length 0 4 = 0 := hf _ (by rw [laidN_len]; exact h)
  unfold ldV
  rw [if_pos h0]
  show ((numAt (laidN bs is k) 0 4 : Nat) : Int) = _
  rw [hn k hk]
  omega
theorem ops_some : ∀ k : Nat, k < 88 → 1 ≤ k → (refRow (k : Int)).2.1 ≠ 0 := by decide +kernel
theorem fld_00 : Fld 0 0 7 = 0 := by decide +kernel
theorem match_0 (k : Nat) (h1 : 1 ≤ k) (h2 : k < 88) : MatchB k 0 = false := by
  refine head_no k 0 ?_
  rw [fld_00]
  exact beq_eq_false_iff_ne.2 (ops_some k h2 h1)
theorem dec_0 : decP 0 = none := by
  unfold decP
  rw [find_none (fun k => MatchB k 0) 87 (fun j h1 h2 => match_0 j h1 h2)]
  rfl
theorem dec_enc (i : In7) (hg : GoodB i.1 i.2.1 i.2.2.1 i.2.2.2.1 i.2.2.2.2.1 i.2.2.2.2.2.1 i.2.2.2.2.2.2 = true) : decP (encI i) = some i := by
  obtain ⟨n1, n2⟩ := good_row hg
  obtain ⟨op, rd, rs1, rs2, im, aq, rl⟩ := i
  dsimp only at hg n1 n2
  obtain ⟨n, rfl⟩ : ∃ n : Nat, op = (n : Int) := ⟨op.toNat, by omega⟩
  obtain ⟨U, hU, hE, hM, e1, e2, e3, e4, e5, e6⟩ := back_all n rd rs1 rs2 im aq rl hg
  have he : encI ((n : Int), rd, rs1, rs2, im, aq, rl) = (U : Int) := (if_pos hg).trans hE
  rw [he]
  unfold decP
  rw [find_first (fun k => MatchB k U) 87 n (by omega) (by omega) hM (fun j h1 h2 => by
    cases hj : MatchB j U with
    | false => rfl
    | true => exact absurd (back_one n j U (by omega) (by omega) h1 (by omega) hM hj) (by omega))]
  simp only [Option.map_some, e1, e2, e3, e4, e5, e6]
theorem enc_wrap (i : In7) : IntKind.u32.wrap (encI i) = encI i := by
  have := encI_in i
  rw [IntKind.wrap_u32]; omega
/-- What the first word is, fetched. -/
theorem fet_first (bs : By) (is : List In7) (h : 4 ≤ bs.length) (k : Nat) (hk : 1 ≤ k) :
    fetS (laidN bs is k) 0 = if GoodB (is.getD 0 z7).1 (is.getD 0 z7).2.1 (is.getD 0 z7).2.2.1 (is.getD 0 z7).2.2.2.1 (is.getD 0 z7).2.2.2.2.1 (is.getD 0 z7).2.2.2.2.2.1 (is.getD 0 z7).2.2.2.2.2.2 = true
      then (if (is.getD 0 z7).1 = 51 ∨ (is.getD 0 z7).1 = 52 then (z7, 60) else (is.getD 0 z7, 0)) else (z7, 21) := by
  have hf : flt (laidN bs is k).length 0 4 = 0 := by
    rw [laidN_len, flt_part (by omega) (by omega)]
    unfold fltP
    rw [if_neg (by omega)]
  unfold fetS
  rw [if_pos hf, laid_first bs is h k hk, enc_wrap]
  generalize is.getD 0 z7 = i
  by_cases hg : GoodB i.1 i.2.1 i.2.2.1 i.2.2.2.1 i.2.2.2.2.1 i.2.2.2.2.2.1 i.2.2.2.2.2.2 = true
  · rw [dec_enc i hg, if_pos hg]
  · have h0 : encI i = 0 := if_neg hg
    rw [h0, dec_0, if_neg hg]
end Go.Proofs.YtmggichckhoomaaGreatDoor
end
section
namespace Go.Proofs.YtmggichckhoomaaGreatDoor
open Go.RowKit
set_option linter.unusedVariables false
set_option linter.unusedSimpArgs false
theorem stB_no (bs : By) (at_ s v : Int) (h : flt bs.length at_ s ≠ 0) : stB bs at_ s v = bs := if_neg h
/-- What bytes are behind a load and a store. -/
theorem mov_bytes (op at_ s b : Int) (bs : By) : (movS op at_ s b bs).2.2 = bs ∨ (StoreB op = true ∧ (movS op at_ s b bs).2.1 = 0 ∧ ∃ v, (movS op at_ s b bs).2.2 = stB bs at_ s v) := by
  unfold movS
  split
  · rename_i h
    by_cases h0 : flt bs.length at_ s = 0
    · exact .inr ⟨h.2, h0, _, rfl⟩
    · exact .inl (stB_no _ _ _ _ h0)
  · exact .inl rfl
theorem don_bytes (h : HV) (i : In7) (a b : Int) (bs : By) (qa : InU a) : (donS h i a b bs).2.2.2 = bs ∨ (StoreB i.1 = true ∧ (donS h i a b bs).2.2.1 = 0 ∧ ∃ at_ v, 0 ≤ at_ ∧ (donS h i a b bs).2.2.2 = stB bs at_ (SizeI i.1) v) := by
  have q := (adB_in i.1 i.2.2.2.2.1 a qa).1
  have key : (movS i.1 (AdB i.1 i.2.2.2.2.1 a) (SizeI i.1) b bs).2.2 = bs ∨ (StoreB i.1 = true ∧ (movS i.1 (AdB i.1 i.2.2.2.2.1 a) (SizeI i.1) b bs).2.1 = 0 ∧ ∃ at_ v, 0 ≤ at_ ∧ (movS i.1 (AdB i.1 i.2.2.2.2.1 a) (SizeI i.1) b bs).2.2 = stB bs at_ (SizeI i.1) v) := by
    rcases mov_bytes i.1 (AdB i.1 i.2.2.2.2.1 a) (SizeI i.1) b bs with k | ⟨k1, k2, v, k3⟩
    · exact .inl k
    · exact .inr ⟨k1, k2, _, v, q, k3⟩
  unfold donS
  split
  · exact .inl rfl
  · split
    · exact key
    · split
      · split
        · exact key
        · exact .inl rfl
      · exact key
/-- P6.1: bytes. -/
theorem step_bytes (h : HV) (bs : By) (hh : HOk h) : (stepS h bs).2.2 = bs ∨ ((stepS h bs).2.1 = 0 ∧ StoreB (fetS bs h.pc).1.1 = true ∧ ∃ at_ v, 0 ≤ at_ ∧ (stepS h bs).2.2 = stB bs at_ (SizeI (fetS bs h.pc).1.1) v) := by
  unfold stepS
  split
  · have qa := rg_in hh.x (fetS bs h.pc).1.2.2.1.toNat
    rcases don_bytes h (fetS bs h.pc).1 (rg h.x (fetS bs h.pc).1.2.2.1.toNat) (rg h.x (fetS bs h.pc).1.2.2.2.1.toNat) bs qa with k | ⟨k1, k2, at_, v, k3, k4⟩
    · split
      · exact .inl k
      · exact .inl k
    · rw [if_pos k2]
      exact .inr ⟨rfl, k1, at_, v, k3, k4⟩
  · exact .inl rfl
/-- P6.1: registers. -/
theorem step_regs (h : HV) (bs : By) (r : Nat) (h0 : h.x[0]? = some 0) (hd : (stepS h bs).1.x[r]? ≠ h.x[r]?) : (stepS h bs).2.1 = 0 ∧ (fetS bs h.pc).2 = 0 ∧ (fetS bs h.pc).1.2.1.toNat = r := by
  unfold stepS at hd ⊢
  split
  · rename_i hf
    rw [if_pos hf] at hd
    split
    · rename_i hq
      rw [if_pos hq] at hd
      refine ⟨rfl, hf, ?_⟩
      dsimp only at hd
      by_cases hr : r = 0
      · subst hr
        exfalso
        apply hd
        have hl : 0 < h.x.length := (List.getElem?_eq_some_iff.1 h0).1
        rw [List.getElem?_set_self (by simpa using hl), h0]
      · rw [List.getElem?_set_ne (by omega)] at hd
        by_cases he : (fetS bs h.pc).1.2.1.toNat = r
        · exact he
        · exact absurd (List.getElem?_set_ne he) hd
    · rename_i hq
      rw [if_neg hq] at hd
      exact absurd rfl hd
  · rename_i hf
    rw [if_neg hf] at hd
    exact absurd rfl hd
/-- How many of the first so many bytes are unlike. -/
def cnt (a b : By) : Nat → Nat
  | 0 => 0
  | k + 1 => cnt a b k + if a[k]? = b[k]? then 0 else 1
theorem cnt_self (a : By) (n : Nat) : cnt a a n = 0 := by
  induction n with
  | zero => rfl
  | succ n ih => simp [cnt, ih]
theorem cnt_le (a b : By) (lo m : Nat) (h : ∀ j, j < lo ∨ lo + m ≤ j → a[j]? = b[j]?) (n : Nat) : cnt a b n ≤ (min n (lo + m)) - lo := by
  induction n with
  | zero => simp [cnt]
  | succ n ih =>
    unfold cnt
    split
    · omega
    · rename_i hne
      have : ¬ (n < lo ∨ lo + m ≤ n) := fun hh => hne (h n hh)
      omega
theorem cnt_stB (bs : By) (at_ s v : Int) (a0 : 0 ≤ at_) (s0 : 0 ≤ s) (n : Nat) : (cnt bs (stB bs at_ s v) n : Int) ≤ s := by
  have h := cnt_le bs (stB bs at_ s v) at_.toNat s.toNat (fun j hj => (stB_out bs at_ s v j a0 (by omega)).symm) n
  omega
theorem cnt_top (a b : By) (n : Nat) : cnt a b n ≤ n := by
  induction n with
  | zero => exact Nat.le_refl _
  | succ n ih =>
    unfold cnt
    split <;> omega
end Go.Proofs.YtmggichckhoomaaGreatDoor
end
