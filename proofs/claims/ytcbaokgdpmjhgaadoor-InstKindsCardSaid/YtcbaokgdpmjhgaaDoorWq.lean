/-
  Proved here: an instruction that may be is the only one that has its word. Conditions: the operation is one of the table's; the numbers are ints.
-/
import Derived.Test.YtcbaokgdpmjhgaaDoorWp
namespace Go.Proofs.YtcbaokgdpmjhgaaDoor
open Go.RowKit
set_option linter.unusedVariables false
theorem bk_any (f o a3 a7 rd rs1 rs2 im : Int) (aq rl : Bool) (f1 : 1 ≤ f) (f12 : f ≤ 12) (o0 : 0 ≤ o) (o1 : o ≤ 127) (a0 : 0 ≤ a3) (a1 : a3 ≤ 7) (b0 : 0 ≤ a7) (b1 : a7 ≤ 127) (hf : Fine f a3 a7 = true)
    (r0 : 0 ≤ rd) (r1 : rd ≤ 31) (s0 : 0 ≤ rs1) (s1 : rs1 ≤ 31) (t0 : 0 ≤ rs2) (t1 : rs2 ≤ 31) (hrd : rd = oi (rdT f) rd) (hs1 : rs1 = oi (rs1T f) rs1) (hs2 : rs2 = oi (rs2T f) rs2) (hq : aq = ob (ordT f) aq) (hl : rl = ob (ordT f) rl) (hm : MayB f im = true) :
    ∃ U : Nat, U < 4294967296 ∧ WW f o a3 a7 rd rs1 rs2 aq rl (IntKind.u64.wrap im) = (U : Int) ∧ Fld U 0 7 = o ∧ Get (f3T f) 0 U = a3 ∧ Get (f7T f) 0 U = a7 ∧
      oi (rdT f) (Fld U 7 5) = rd ∧ oi (rs1T f) (Fld U 15 5) = rs1 ∧ oi (rs2T f) (Fld U 20 5) = rs2 ∧ oi (immT f) (II f U) = im ∧ ob (ordT f) (Fld U 26 1 == 1) = aq ∧ ob (ordT f) (Fld U 25 1 == 1) = rl := by
  obtain ⟨o, rfl⟩ := Int.eq_ofNat_of_zero_le o0
  obtain ⟨a3, rfl⟩ := Int.eq_ofNat_of_zero_le a0
  obtain ⟨a7, rfl⟩ := Int.eq_ofNat_of_zero_le b0
  unfold Fine at hf
  have hk : f = 1 ∨ f = 2 ∨ f = 3 ∨ f = 4 ∨ f = 5 ∨ f = 6 ∨ f = 7 ∨ f = 8 ∨ f = 9 ∨ f = 10 ∨ f = 11 ∨ f = 12 := by omega
  rcases hk with rfl | rfl | rfl | rfl | rfl | rfl | rfl | rfl | rfl | rfl | rfl | rfl
  · obtain ⟨rd, rfl⟩ := Int.eq_ofNat_of_zero_le r0
    obtain rfl : rs1 = 0 := hs1
    obtain rfl : rs2 = 0 := hs2
    obtain rfl : aq = false := hq
    obtain rfl : rl = false := hl
    simp at hf
    exact bk_1 o a3 a7 rd 0 0 im false false (by omega) (by omega) (by omega) (by omega) (by omega) (by omega) (by omega) (by omega) hm
  · obtain ⟨rd, rfl⟩ := Int.eq_ofNat_of_zero_le r0
    obtain rfl : rs1 = 0 := hs1
    obtain rfl : rs2 = 0 := hs2
    obtain rfl : aq = false := hq
    obtain rfl : rl = false := hl
    simp at hf
    exact bk_2 o a3 a7 rd 0 0 im false false (by omega) (by omega) (by omega) (by omega) (by omega) (by omega) (by omega) (by omega) hm
  · obtain ⟨rd, rfl⟩ := Int.eq_ofNat_of_zero_le r0
    obtain ⟨rs1, rfl⟩ := Int.eq_ofNat_of_zero_le s0
    obtain rfl : rs2 = 0 := hs2
    obtain rfl : aq = false := hq
    obtain rfl : rl = false := hl
    simp at hf
    exact bk_3 o a3 a7 rd rs1 0 im false false (by omega) (by omega) (by omega) (by omega) (by omega) (by omega) (by omega) hm
  · obtain rfl : rd = 0 := hrd
    obtain ⟨rs1, rfl⟩ := Int.eq_ofNat_of_zero_le s0
    obtain ⟨rs2, rfl⟩ := Int.eq_ofNat_of_zero_le t0
    obtain rfl : aq = false := hq
    obtain rfl : rl = false := hl
    simp at hf
    exact bk_4 o a3 a7 0 rs1 rs2 im false false (by omega) (by omega) (by omega) (by omega) (by omega) (by omega) (by omega) hm
  · obtain rfl : rd = 0 := hrd
    obtain ⟨rs1, rfl⟩ := Int.eq_ofNat_of_zero_le s0
    obtain ⟨rs2, rfl⟩ := Int.eq_ofNat_of_zero_le t0
    obtain rfl : aq = false := hq
    obtain rfl : rl = false := hl
    simp at hf
    exact bk_5 o a3 a7 0 rs1 rs2 im false false (by omega) (by omega) (by omega) (by omega) (by omega) (by omega) (by omega) hm
  · obtain ⟨rd, rfl⟩ := Int.eq_ofNat_of_zero_le r0
    obtain ⟨rs1, rfl⟩ := Int.eq_ofNat_of_zero_le s0
    obtain rfl : rs2 = 0 := hs2
    obtain rfl : aq = false := hq
    obtain rfl : rl = false := hl
    simp at hf
    exact bk_6 o a3 a7 rd rs1 0 im false false (by omega) (by omega) (by omega) (by omega) (by omega) (by omega) (by omega) hm
  · obtain ⟨rd, rfl⟩ := Int.eq_ofNat_of_zero_le r0
    obtain ⟨rs1, rfl⟩ := Int.eq_ofNat_of_zero_le s0
    obtain rfl : rs2 = 0 := hs2
    obtain rfl : aq = false := hq
    obtain rfl : rl = false := hl
    clear hf
    exact bk_7 o a3 a7 rd rs1 0 im false false (by omega) (by omega) (by omega)  (by omega) (by omega) (by omega) hm
  · obtain ⟨rd, rfl⟩ := Int.eq_ofNat_of_zero_le r0
    obtain ⟨rs1, rfl⟩ := Int.eq_ofNat_of_zero_le s0
    obtain ⟨rs2, rfl⟩ := Int.eq_ofNat_of_zero_le t0
    obtain rfl : aq = false := hq
    obtain rfl : rl = false := hl
    clear hf
    exact bk_8 o a3 a7 rd rs1 rs2 im false false (by omega) (by omega) (by omega)  (by omega) (by omega) (by omega) hm
  · obtain rfl : rd = 0 := hrd
    obtain rfl : rs1 = 0 := hs1
    obtain rfl : rs2 = 0 := hs2
    obtain rfl : aq = false := hq
    obtain rfl : rl = false := hl
    simp at hf
    exact bk_9 o a3 a7 0 0 0 im false false (by omega) (by omega) (by omega) (by omega) (by omega) (by omega) (by omega) (by omega) hm
  · obtain rfl : rd = 0 := hrd
    obtain rfl : rs1 = 0 := hs1
    obtain rfl : rs2 = 0 := hs2
    obtain rfl : aq = false := hq
    obtain rfl : rl = false := hl
    simp at hf
    exact bk_10 o a3 a7 0 0 0 im false false (by omega) (by omega) (by omega) (by omega) (by omega) (by omega) (by omega) hm
  · obtain ⟨rd, rfl⟩ := Int.eq_ofNat_of_zero_le r0
    obtain ⟨rs1, rfl⟩ := Int.eq_ofNat_of_zero_le s0
    obtain rfl : rs2 = 0 := hs2
    simp at hf
    exact bk_11 o a3 a7 rd rs1 0 im aq rl (by omega) (by omega) (by omega) (by omega) (by omega) (by omega) (by omega) hm
  · obtain ⟨rd, rfl⟩ := Int.eq_ofNat_of_zero_le r0
    obtain ⟨rs1, rfl⟩ := Int.eq_ofNat_of_zero_le s0
    obtain ⟨rs2, rfl⟩ := Int.eq_ofNat_of_zero_le t0
    simp at hf
    exact bk_12 o a3 a7 rd rs1 rs2 im aq rl (by omega) (by omega) (by omega) (by omega) (by omega) (by omega) (by omega) hm
theorem eqi {op rd rs1 rs2 im : Int} {aq rl : Bool} {op' rd' rs1' rs2' im' : Int} {aq' rl' : Bool} (h : EqI op rd rs1 rs2 im aq rl op' rd' rs1' rs2' im' aq' rl' = true) :
    op = op' ∧ rd = rd' ∧ rs1 = rs1' ∧ rs2 = rs2' ∧ im = im' ∧ aq = aq' ∧ rl = rl' := by
  unfold EqI at h
  simpa only [Bool.and_eq_true, beq_iff_eq] using h
theorem good_row {op rd rs1 rs2 im : Int} {aq rl : Bool} (h : GoodB op rd rs1 rs2 im aq rl = true) : 1 ≤ op ∧ op < 88 := by
  unfold GoodB at h
  by_cases c : op < 1 ∨ 87 < op
  · rw [ref_no op c] at h
    cases h
  · omega
/-- All that the word of an instruction that may be tells. -/
theorem back_all (n : Nat) (rd rs1 rs2 im : Int) (aq rl : Bool) (hg : GoodB n rd rs1 rs2 im aq rl = true) :
    ∃ U : Nat, U < 4294967296 ∧ EncW n rd rs1 rs2 im aq rl = (U : Int) ∧ MatchB n U = true ∧ Ird n U = rd ∧ Irs1 n U = rs1 ∧ Irs2 n U = rs2 ∧ Iim n U = im ∧ Iaq n U = aq ∧ Irl n U = rl := by
  have hn := good_row hg
  obtain ⟨q1, q2, q3⟩ := good_ranges hg
  have hg' := hg
  unfold GoodB at hg'
  obtain ⟨f0, f1, o0, o1, a0, a1, b0, b1⟩ := row_ok n
  have hF := rows_fine n (by omega)
  by_cases c : (refRow (n : Int)).1 = 0
  · rw [if_pos c] at hg'; cases hg'
  rw [if_neg c] at hg'
  simp only [Bool.and_eq_true] at hg'
  obtain ⟨e0, e1, e2, e3, e4, e5, e6⟩ := eqi hg'.1
  obtain ⟨U, hU, hW, w0, w1, w2, w3, w4, w5, w6, w7, w8⟩ := bk_any (refRow (n : Int)).1 (refRow (n : Int)).2.1 (refRow (n : Int)).2.2.1 (refRow (n : Int)).2.2.2 rd rs1 rs2 im aq rl (by omega) f1 o0 o1 a0 a1 b0 b1 hF q1.1 q1.2 q2.1 q2.2 q3.1 q3.2 e1 e2 e3 e5 e6 hg'.2.2.2.2
  have hE : EncW n rd rs1 rs2 im aq rl = (U : Int) := by
    unfold EncW W64
    unfold WW at hW
    rw [hW, IntKind.wrap_u32]
    omega
  have k3 : Ird n U = rd := w3
  have k4 : Irs1 n U = rs1 := w4
  have k5 : Irs2 n U = rs2 := w5
  have k6 : Iim n U = im := w6
  have k7 : Iaq n U = aq := w7
  have k8 : Irl n U = rl := w8
  refine ⟨U, hU, hE, ?_, k3, k4, k5, k6, k7, k8⟩
  refine match_yes n U (beq_iff_eq.2 w0.symm) ?_ ?_ ?_
  · unfold HeadB EqH
    rw [w0, w1, w2]
    simp
  · unfold GoodK
    rw [k3, k4, k5, k6, k7, k8]
    exact hg
  · unfold EncK
    rw [k3, k4, k5, k6, k7, k8, hE]
    simp
/-- No other operation has the word. -/
theorem back_one (n j : Nat) (u : Int) (n0 : 1 ≤ n) (n1 : n < 88) (j0 : 1 ≤ j) (j1 : j < 88) (hn : MatchB n u = true) (hj : MatchB j u = true) : n = j :=
  head_one n0 n1 j0 j1 (match_head hn) (match_head hj)
end Go.Proofs.YtcbaokgdpmjhgaaDoor
