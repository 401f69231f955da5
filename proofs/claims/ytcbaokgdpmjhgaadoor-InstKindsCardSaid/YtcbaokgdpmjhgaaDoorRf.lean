/-
  Proved here: what word the reference has for every instruction: the code's, or none. Conditions: the numbers are ints.
-/
import Derived.Test.YtcbaokgdpmjhgaaDoorRe
namespace Go.Proofs.YtcbaokgdpmjhgaaDoor
open Go.RowKit
set_option linter.unusedVariables false
theorem renc_any (f op o a3 a7 rd rs1 rs2 im : Int) (aq rl : Bool) (f1 : 1 ≤ f) (f12 : f ≤ 12) (o0 : 0 ≤ o) (o1 : o ≤ 127) (a0 : 0 ≤ a3) (a1 : a3 ≤ 7) (b0 : 0 ≤ a7) (b1 : a7 ≤ 127) (hf : Fine f a3 a7 = true)
    (r0 : 0 ≤ rd) (r1 : rd ≤ 31) (s0 : 0 ≤ rs1) (s1 : rs1 ≤ 31) (t0 : 0 ≤ rs2) (t1 : rs2 ≤ 31) (hrd : rd = oi (rdT f) rd) (hs1 : rs1 = oi (rs1T f) rs1) (hs2 : rs2 = oi (rs2T f) rs2) (hq : aq = ob (ordT f) aq) (hl : rl = ob (ordT f) rl) (hm : MayB f im = true)
    (RA : Hid (∀ w, Calls Tryd.prog 34 #[.int .i64 op] w fun e w' => e = .returned (.agg #[.int .i64 f, .int .i64 o, .int .i64 a3, .int .i64 a7]) ∧ Nw w w'))
    (RG : Hid (∀ w, Calls Tryd.prog 13 #[.agg #[.int .i64 op, .int .i64 rd, .int .i64 rs1, .int .i64 rs2, .int .i64 im, .bool aq, .bool rl]] w fun e w' => e = .returned (.bool true) ∧ Nb w w')) (w : World) :
    Calls Tryd.prog 11 #[.agg #[.int .i64 op, .int .i64 rd, .int .i64 rs1, .int .i64 rs2, .int .i64 im, .bool aq, .bool rl]] w fun e w' => e = .returned (.tuple #[.int .u32 (IntKind.u32.wrap (WW f o a3 a7 rd rs1 rs2 aq rl (IntKind.u64.wrap im))), .int .i64 0]) ∧ Nb w w' := by
  obtain ⟨o, rfl⟩ := Int.eq_ofNat_of_zero_le o0
  obtain ⟨a3, rfl⟩ := Int.eq_ofNat_of_zero_le a0
  obtain ⟨a7, rfl⟩ := Int.eq_ofNat_of_zero_le b0
  unfold Fine at hf
  have hk : f = 1 ∨ f = 2 ∨ f = 3 ∨ f = 4 ∨ f = 5 ∨ f = 6 ∨ f = 7 ∨ f = 8 ∨ f = 9 ∨ f = 10 ∨ f = 11 ∨ f = 12 := by omega
  rcases hk with rfl | rfl | rfl | rfl | rfl | rfl | rfl | rfl | rfl | rfl | rfl | rfl
  · obtain ⟨rd, rfl⟩ := Int.eq_ofNat_of_zero_le r0
    obtain rfl : rs1 = 0 := hs1
    obtain rfl : rs2 = 0 := hs2
    obtain rfl : aq = false := hq
    obtain rfl : rl = false := hl
    simp at hf
    rw [← rs_1 o a3 a7 rd 0 0 im false false (by omega) (by omega) (by omega) (by omega) (by omega) (by omega) (by omega) (by omega) hm]
    exact rw_1 op o a3 a7 rd 0 0 im false false RA RG w
  · obtain ⟨rd, rfl⟩ := Int.eq_ofNat_of_zero_le r0
    obtain rfl : rs1 = 0 := hs1
    obtain rfl : rs2 = 0 := hs2
    obtain rfl : aq = false := hq
    obtain rfl : rl = false := hl
    simp at hf
    rw [← rs_2 o a3 a7 rd 0 0 im false false (by omega) (by omega) (by omega) (by omega) (by omega) (by omega) (by omega) (by omega) hm]
    exact rw_2 op o a3 a7 rd 0 0 im false false RA RG w
  · obtain ⟨rd, rfl⟩ := Int.eq_ofNat_of_zero_le r0
    obtain ⟨rs1, rfl⟩ := Int.eq_ofNat_of_zero_le s0
    obtain rfl : rs2 = 0 := hs2
    obtain rfl : aq = false := hq
    obtain rfl : rl = false := hl
    simp at hf
    rw [← rs_3 o a3 a7 rd rs1 0 im false false (by omega) (by omega) (by omega) (by omega) (by omega) (by omega) (by omega) hm]
    exact rw_3 op o a3 a7 rd rs1 0 im false false RA RG w
  · obtain rfl : rd = 0 := hrd
    obtain ⟨rs1, rfl⟩ := Int.eq_ofNat_of_zero_le s0
    obtain ⟨rs2, rfl⟩ := Int.eq_ofNat_of_zero_le t0
    obtain rfl : aq = false := hq
    obtain rfl : rl = false := hl
    simp at hf
    rw [← rs_4 o a3 a7 0 rs1 rs2 im false false (by omega) (by omega) (by omega) (by omega) (by omega) (by omega) (by omega) hm]
    exact rw_4 op o a3 a7 0 rs1 rs2 im false false RA RG w
  · obtain rfl : rd = 0 := hrd
    obtain ⟨rs1, rfl⟩ := Int.eq_ofNat_of_zero_le s0
    obtain ⟨rs2, rfl⟩ := Int.eq_ofNat_of_zero_le t0
    obtain rfl : aq = false := hq
    obtain rfl : rl = false := hl
    simp at hf
    rw [← rs_5 o a3 a7 0 rs1 rs2 im false false (by omega) (by omega) (by omega) (by omega) (by omega) (by omega) (by omega) hm]
    exact rw_5 op o a3 a7 0 rs1 rs2 im false false RA RG w
  · obtain ⟨rd, rfl⟩ := Int.eq_ofNat_of_zero_le r0
    obtain ⟨rs1, rfl⟩ := Int.eq_ofNat_of_zero_le s0
    obtain rfl : rs2 = 0 := hs2
    obtain rfl : aq = false := hq
    obtain rfl : rl = false := hl
    simp at hf
    rw [← rs_6 o a3 a7 rd rs1 0 im false false (by omega) (by omega) (by omega) (by omega) (by omega) (by omega) (by omega) hm]
    exact rw_6 op o a3 a7 rd rs1 0 im false false RA RG w
  · obtain ⟨rd, rfl⟩ := Int.eq_ofNat_of_zero_le r0
    obtain ⟨rs1, rfl⟩ := Int.eq_ofNat_of_zero_le s0
    obtain rfl : rs2 = 0 := hs2
    obtain rfl : aq = false := hq
    obtain rfl : rl = false := hl
    clear hf
    rw [← rs_7 o a3 a7 rd rs1 0 im false false (by omega) (by omega) (by omega)  (by omega) (by omega) (by omega) hm]
    exact rw_7 op o a3 a7 rd rs1 0 im false false RA RG w
  · obtain ⟨rd, rfl⟩ := Int.eq_ofNat_of_zero_le r0
    obtain ⟨rs1, rfl⟩ := Int.eq_ofNat_of_zero_le s0
    obtain ⟨rs2, rfl⟩ := Int.eq_ofNat_of_zero_le t0
    obtain rfl : aq = false := hq
    obtain rfl : rl = false := hl
    clear hf
    rw [← rs_8 o a3 a7 rd rs1 rs2 im false false (by omega) (by omega) (by omega)  (by omega) (by omega) (by omega) hm]
    exact rw_8 op o a3 a7 rd rs1 rs2 im false false RA RG w
  · obtain rfl : rd = 0 := hrd
    obtain rfl : rs1 = 0 := hs1
    obtain rfl : rs2 = 0 := hs2
    obtain rfl : aq = false := hq
    obtain rfl : rl = false := hl
    simp at hf
    rw [← rs_9 o a3 a7 0 0 0 im false false (by omega) (by omega) (by omega) (by omega) (by omega) (by omega) (by omega) (by omega) hm]
    exact rw_9 op o a3 a7 0 0 0 im false false RA RG w
  · obtain rfl : rd = 0 := hrd
    obtain rfl : rs1 = 0 := hs1
    obtain rfl : rs2 = 0 := hs2
    obtain rfl : aq = false := hq
    obtain rfl : rl = false := hl
    simp at hf
    rw [← rs_10 o a3 a7 0 0 0 im false false (by omega) (by omega) (by omega) (by omega) (by omega) (by omega) (by omega) hm]
    exact rw_10 op o a3 a7 0 0 0 im false false RA RG w
  · obtain ⟨rd, rfl⟩ := Int.eq_ofNat_of_zero_le r0
    obtain ⟨rs1, rfl⟩ := Int.eq_ofNat_of_zero_le s0
    obtain rfl : rs2 = 0 := hs2
    simp at hf
    rw [← rs_11 o a3 a7 rd rs1 0 im aq rl (by omega) (by omega) (by omega) (by omega) (by omega) (by omega) (by omega) hm]
    exact rw_11 op o a3 a7 rd rs1 0 im aq rl RA RG w
  · obtain ⟨rd, rfl⟩ := Int.eq_ofNat_of_zero_le r0
    obtain ⟨rs1, rfl⟩ := Int.eq_ofNat_of_zero_le s0
    obtain ⟨rs2, rfl⟩ := Int.eq_ofNat_of_zero_le t0
    simp at hf
    rw [← rs_12 o a3 a7 rd rs1 rs2 im aq rl (by omega) (by omega) (by omega) (by omega) (by omega) (by omega) (by omega) hm]
    exact rw_12 op o a3 a7 rd rs1 rs2 im aq rl RA RG w
theorem rgoods (op rd rs1 rs2 im : Int) (aq rl : Bool) (v0 : -9223372036854775808 ≤ im) (v1 : im < 9223372036854775808) (w : World) :
    Calls Tryd.prog 13 #[.agg #[.int .i64 op, .int .i64 rd, .int .i64 rs1, .int .i64 rs2, .int .i64 im, .bool aq, .bool rl]] w fun e w' => e = .returned (.bool (GoodB op rd rs1 rs2 im aq rl)) ∧ Nb w w' := by
  rw [← rgood_is]
  exact rgood_any op rd rs1 rs2 im aq rl v0 v1 w
theorem renc_yes (op rd rs1 rs2 im : Int) (aq rl : Bool) (v0 : -9223372036854775808 ≤ im) (v1 : im < 9223372036854775808) (hg : GoodB op rd rs1 rs2 im aq rl = true) (w : World) :
    Calls Tryd.prog 11 #[.agg #[.int .i64 op, .int .i64 rd, .int .i64 rs1, .int .i64 rs2, .int .i64 im, .bool aq, .bool rl]] w fun e w' => e = .returned (.tuple #[.int .u32 (EncW op rd rs1 rs2 im aq rl), .int .i64 0]) ∧ Nb w w' := by
  have hn := good_row hg
  obtain ⟨q1, q2, q3⟩ := good_ranges hg
  have RG := fun w => rgoods op rd rs1 rs2 im aq rl v0 v1 w
  rw [hg] at RG
  have hg' := hg
  unfold GoodB at hg'
  obtain ⟨f0, f1, o0, o1, a0, a1, b0, b1⟩ := row_ok op
  have hF := rows_fine op.toNat (by omega)
  rw [show ((op.toNat : Nat) : Int) = op by omega] at hF
  by_cases c : (refRow op).1 = 0
  · rw [if_pos c] at hg'; cases hg'
  rw [if_neg c] at hg'
  simp only [Bool.and_eq_true] at hg'
  obtain ⟨e0, e1, e2, e3, e4, e5, e6⟩ := eqi hg'.1
  exact renc_any (refRow op).1 op (refRow op).2.1 (refRow op).2.2.1 (refRow op).2.2.2 rd rs1 rs2 im aq rl (by omega) f1 o0 o1 a0 a1 b0 b1 hF q1.1 q1.2 q2.1 q2.2 q3.1 q3.2 e1 e2 e3 e5 e6 hg'.2.2.2.2 (Lib.hid (row_any op)) (Lib.hid RG) w
set_option maxRecDepth 100000 in
set_option maxHeartbeats 4000000 in
theorem renc_no (op rd rs1 rs2 im : Int) (aq rl : Bool) (v0 : -9223372036854775808 ≤ im) (v1 : im < 9223372036854775808) (hg : GoodB op rd rs1 rs2 im aq rl = false) (w : World) :
    Calls Tryd.prog 11 #[.agg #[.int .i64 op, .int .i64 rd, .int .i64 rs1, .int .i64 rs2, .int .i64 im, .bool aq, .bool rl]] w fun e w' => e = .returned (.tuple #[.int .u32 0, .int .i64 20]) ∧ Nb w w' := by
  have RG := fun w => rgoods op rd rs1 rs2 im aq rl v0 v1 w
  rw [hg] at RG
  have HG := Lib.hid RG
  clear RG hg v0 v1
  go_enter Tryd.func11, Tryd.ntmps11
  go_wp2_with fail
  obtain ⟨W1, hW1⟩ : ∃ W1, w.alloc (.cells #[.int .i64 op, .int .i64 rd, .int .i64 rs1, .int .i64 rs2, .int .i64 im, .bool aq, .bool rl] 23) = W1 := ⟨_, rfl⟩
  have hN1 : Nb w W1 := by rw [← hW1]; exact (Nb.refl _).alloc _
  rw [hW1]
  clear hW1
  refine (HG.out _).mono ?_
  rintro e w2 ⟨rfl, hn2⟩
  go_wp2_with fail
  go_ret2
  exact ⟨rfl, hN1.trans hn2⟩
end Go.Proofs.YtcbaokgdpmjhgaaDoor
