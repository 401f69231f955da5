/-
  Proved here: what the reference's small functions answer: a register, a part of a number at another place, a flag. Conditions: the numbers are ints.
-/
import Derived.Test.YtmggichckhoomaaDoorRw
import Derived.Test.YtmggichckhoomaaDoorIe
namespace Go.Proofs.YtmggichckhoomaaDoor
open Go.RowKit
set_option linter.unusedVariables false
def RRegB (r : Int) (is : Bool) : Bool := if is = true then RegB r else r == 0
theorem rreg_any (r : Int) (is : Bool) (w : World) : Calls Tryd.prog 29 #[.int .i64 r, .bool is] w fun e w' => e = .returned (.bool (RRegB r is)) ∧ w = w' := by
  cases is
  · have H : Hid ((r == 0) = RRegB r false) := rfl
    go_enter Tryd.func29, Tryd.ntmps29
    go_wp2_with fail
    go_ret
    exact ⟨by rw [← H.out]; first | rfl | (show Ending.returned (Value.bool (decide (r ≤ 31))) = _; rw [decide_eq_false (by omega)]), rfl⟩
  · by_cases c : r < 0
    · have H : Hid (false = RRegB r true) := by show false = RegB r; unfold RegB; simp; omega
      go_enter Tryd.func29, Tryd.ntmps29
      go_wp2_with fail
      go_ret
      exact ⟨by rw [← H.out]; first | rfl | (show Ending.returned (Value.bool (decide (r ≤ 31))) = _; rw [decide_eq_false (by omega)]), rfl⟩
    · by_cases d : 31 < r
      · have H : Hid (false = RRegB r true) := by show false = RegB r; unfold RegB; simp; omega
        clear c
        go_enter Tryd.func29, Tryd.ntmps29
        go_wp2_with fail
        go_ret
        exact ⟨by rw [← H.out]; first | rfl | (show Ending.returned (Value.bool (decide (r ≤ 31))) = _; rw [decide_eq_false (by omega)]), rfl⟩
      · have H : Hid (true = RRegB r true) := by show true = RegB r; unfold RegB; simp; omega
        go_enter Tryd.func29, Tryd.ntmps29
        go_wp2_with fail
        go_ret
        exact ⟨by rw [← H.out]; first | rfl | (show Ending.returned (Value.bool (decide (r ≤ 31))) = _; rw [decide_eq_false (by omega)]), rfl⟩
/-- Some bits of a number at another place. -/
def PartI (v low n at_ : Int) : Int := Plc 0 at_ n (Fld (IntKind.u64.wrap v) low n)
theorem part_w (v low n at_ : Int) : 0 ≤ PartI v low n at_ ∧ PartI v low n at_ < 18446744073709551616 := plc_w _ _ _ _ (by decide) (by decide)
def FlagI (b : Bool) (at_ : Int) : Int := if b = true then PartI 1 0 1 at_ else 0
def RGB (f rd rs1 rs2 im : Int) (aq rl : Bool) : Bool := (f != 0) && (RRegB rd (rdT f) && (RRegB rs1 (rs1T f) && (RRegB rs2 (rs2T f) && (MayB f im && (ordT f || (!aq && !rl))))))
theorem ix52_0 (a b c d : Int) (W : World) : (Instr.index 55 (.agg #[.int .i64 a, .int .i64 b, .int .i64 c, .int .i64 d]) (.int .i64 0)).run Tryd.prog W = .ok (.int .i64 a) W := by kernel_rfl
theorem ix52_1 (a b c d : Int) (W : World) : (Instr.index 55 (.agg #[.int .i64 a, .int .i64 b, .int .i64 c, .int .i64 d]) (.int .i64 1)).run Tryd.prog W = .ok (.int .i64 b) W := by kernel_rfl
theorem ix52_2 (a b c d : Int) (W : World) : (Instr.index 55 (.agg #[.int .i64 a, .int .i64 b, .int .i64 c, .int .i64 d]) (.int .i64 2)).run Tryd.prog W = .ok (.int .i64 c) W := by kernel_rfl
theorem ix52_3 (a b c d : Int) (W : World) : (Instr.index 55 (.agg #[.int .i64 a, .int .i64 b, .int .i64 c, .int .i64 d]) (.int .i64 3)).run Tryd.prog W = .ok (.int .i64 d) W := by kernel_rfl
attribute [local go_sem ↓] ix52_0 ix52_1 ix52_2 ix52_3
set_option maxRecDepth 100000 in
set_option maxHeartbeats 4000000 in
theorem rgood_any (op rd rs1 rs2 im : Int) (aq rl : Bool) (v0 : -9223372036854775808 ≤ im) (v1 : im < 9223372036854775808) (w : World) :
    Calls Tryd.prog 13 #[.agg #[.int .i64 op, .int .i64 rd, .int .i64 rs1, .int .i64 rs2, .int .i64 im, .bool aq, .bool rl]] w fun e w' => e = .returned (.bool (RGB (refRow op).1 rd rs1 rs2 im aq rl)) ∧ Nb w w' := by
  obtain ⟨f0, f1, -⟩ := row_ok op
  have RA := row_any op
  generalize (refRow op).1 = f at *
  generalize (refRow op).2.1 = o at *
  generalize (refRow op).2.2.1 = a3 at *
  generalize (refRow op).2.2.2 = a7 at *
  have HRA := Lib.hid RA
  have HM := Lib.hid (rmay_any f f0 f1 im v0 v1)
  have HH := Lib.hid (hs_any f f0 f1)
  clear RA v0 v1
  go_enter Tryd.func13, Tryd.ntmps13
  go_wp2_with fail
  obtain ⟨W1, hW1⟩ : ∃ W1, w.alloc (.cells #[.int .i64 op, .int .i64 rd, .int .i64 rs1, .int .i64 rs2, .int .i64 im, .bool aq, .bool rl] 33) = W1 := ⟨_, rfl⟩
  have hb1 := blk_made w _ hW1 rfl
  have hN1 : Nb w W1 := by rw [← hW1]; exact (Nb.refl _).alloc _
  rw [hW1]
  clear hW1
  refine (HRA.out _).mono ?_
  rintro e w2 ⟨rfl, hn2⟩
  have hN2 := hN1.trans hn2.b
  have hb2 := hn2.b.block hb1
  clear hN1 hn2 hb1
  go_wp2_with fail
  refine (HH.out _).mono ?_
  rintro e w3 ⟨rfl, hn3⟩
  have hN3 := hN2.trans hn3.b
  have hb3 := hn3.b.block hb2
  clear hN2 hn3 hb2
  obtain ⟨n4, c0, c1, c2, c3, c4, c5, c6⟩ := cells7 hb3
  by_cases z : f = 0
  · subst z
    go_wp2_with fail
    go_ret
    exact ⟨rfl, hN3.alloc _⟩
  · have z' : (f == 0) = false := beq_eq_false_iff_ne.2 z
    have zz : (f != 0) = true := by simp [z]
    have HZ := Lib.hid zz
    clear zz z
    obtain ⟨W4, hW4⟩ : ∃ W4, w3.alloc (.cells #[.bool (rdT f), .bool (rs1T f), .bool (rs2T f), .bool (immT f), .bool (ordT f)] 61) = W4 := ⟨_, rfl⟩
    have hb4 := blk_made w3 _ hW4 rfl
    have hN4 : Nb w W4 := by rw [← hW4]; exact hN3.alloc _
    have hn4 : Nb w3 W4 := by rw [← hW4]; exact (Nb.refl _).alloc _
    have hc4 := hn4.block hb3
    clear n4 c0 c1 c2 c3 c4 c5 c6 hb3 hN3 hn4
    obtain ⟨n5, d0, d1, d2, d3, d4⟩ := cells5 hb4
    obtain ⟨n4, c0, c1, c2, c3, c4, c5, c6⟩ := cells7 hc4
    clear hb4 hc4
    go_wp2_with fail
    try rw [hW4]
    clear hW4
    refine (rreg_any rd (rdT f) _).mono ?_
    rintro e w' ⟨rfl, rfl⟩
    cases b1 : RRegB rd (rdT f)
    · have HR : Hid (false = RGB f rd rs1 rs2 im aq rl) := by unfold RGB; rw [HZ.out, b1]; rfl
      go_wp2_with fail
      go_ret
      exact ⟨by rw [← HR.out]; rfl, hN4⟩
    go_wp2_with fail
    refine (rreg_any rs1 (rs1T f) _).mono ?_
    rintro e w' ⟨rfl, rfl⟩
    cases b2 : RRegB rs1 (rs1T f)
    · have HR : Hid (false = RGB f rd rs1 rs2 im aq rl) := by unfold RGB; rw [HZ.out, b1, b2]; rfl
      go_wp2_with fail
      go_ret
      exact ⟨by rw [← HR.out]; rfl, hN4⟩
    go_wp2_with fail
    refine (rreg_any rs2 (rs2T f) _).mono ?_
    rintro e w' ⟨rfl, rfl⟩
    cases b3 : RRegB rs2 (rs2T f)
    · have HR : Hid (false = RGB f rd rs1 rs2 im aq rl) := by unfold RGB; rw [HZ.out, b1, b2, b3]; rfl
      go_wp2_with fail
      go_ret
      exact ⟨by rw [← HR.out]; rfl, hN4⟩
    go_wp2_with fail
    refine (HM.out _).mono ?_
    rintro e w' ⟨rfl, rfl⟩
    cases b4 : MayB f im
    · have HR : Hid (false = RGB f rd rs1 rs2 im aq rl) := by unfold RGB; rw [HZ.out, b1, b2, b3, b4]; rfl
      go_wp2_with fail
      go_ret
      exact ⟨by rw [← HR.out]; rfl, hN4⟩
    cases b5 : ordT f
    · rw [b5] at d4
      cases aq
      · have HR : Hid ((!rl) = RGB f rd rs1 rs2 im false rl) := by unfold RGB; rw [HZ.out, b1, b2, b3, b4, b5]; cases rl <;> rfl
        go_wp2_with fail
        go_ret
        exact ⟨by rw [← HR.out]; rfl, hN4⟩
      · have HR : Hid (false = RGB f rd rs1 rs2 im true rl) := by unfold RGB; rw [HZ.out, b1, b2, b3, b4, b5]; rfl
        go_wp2_with fail
        go_ret
        exact ⟨by rw [← HR.out]; rfl, hN4⟩
    · rw [b5] at d4
      have HR : Hid (true = RGB f rd rs1 rs2 im aq rl) := by unfold RGB; rw [HZ.out, b1, b2, b3, b4, b5]; rfl
      go_wp2_with fail
      go_ret
      exact ⟨by rw [← HR.out]; rfl, hN4⟩
/-- The reference's answer is the code's. -/
theorem oi_eq (b : Bool) (x : Int) : (x == oi b x && RegB x) = RRegB x b := by
  cases b
  · show (x == 0 && RegB x) = (x == 0)
    by_cases c : x = 0
    · subst c; rfl
    · rw [beq_eq_false_iff_ne.2 c]; rfl
  · show (x == x && RegB x) = RegB x
    simp
theorem may_imm (f im : Int) (f0 : 0 ≤ f) (f1 : f ≤ 12) : (im == oi (immT f) im && MayB f im) = MayB f im := by
  have hk : f = 0 ∨ f = 1 ∨ f = 2 ∨ f = 3 ∨ f = 4 ∨ f = 5 ∨ f = 6 ∨ f = 7 ∨ f = 8 ∨ f = 9 ∨ f = 10 ∨ f = 11 ∨ f = 12 := by omega
  have h0 : ∀ b : Bool, (im == im && b) = b := by intro b; simp
  have h1 : (im == 0 && (im == 0)) = (im == 0) := by simp
  rcases hk with rfl | rfl | rfl | rfl | rfl | rfl | rfl | rfl | rfl | rfl | rfl | rfl | rfl
  · exact h1
  · exact h0 _
  · exact h0 _
  · exact h0 _
  · exact h0 _
  · exact h0 _
  · exact h0 _
  · exact h0 _
  · exact h1
  · exact h0 _
  · exact h1
  · exact h1
  · exact h1
theorem ob_eq (b aq rl : Bool) : ((aq == ob b aq) && (rl == ob b rl)) = (b || (!aq && !rl)) := by cases b <;> cases aq <;> cases rl <;> rfl
theorem rgood_is (op rd rs1 rs2 im : Int) (aq rl : Bool) : RGB (refRow op).1 rd rs1 rs2 im aq rl = GoodB op rd rs1 rs2 im aq rl := by
  obtain ⟨f0, f1, -⟩ := row_ok op
  unfold RGB GoodB SameB EqI
  by_cases z : (refRow op).1 = 0
  · rw [if_pos z, z]; rfl
  · rw [if_neg z, show ((refRow op).1 != 0) = true by simp [z], Bool.true_and]
    rw [← oi_eq, ← oi_eq, ← oi_eq, ← may_imm _ _ f0 f1, ← ob_eq]
    generalize (refRow op).1 = f
    cases (rd == oi (rdT f) rd) <;> cases (rs1 == oi (rs1T f) rs1) <;> cases (rs2 == oi (rs2T f) rs2) <;> cases (im == oi (immT f) im) <;> cases (aq == ob (ordT f) aq) <;> cases (rl == ob (ordT f) rl) <;> simp
end Go.Proofs.YtmggichckhoomaaDoor
