/-
  Proved here: which instructions may be, and what word an instruction has, by the code. Conditions: the table of codes holds what its text lays; the numbers are ints.
-/
import Derived.Test.YtnooabgdcfegeaaDoorSal
namespace Go.Proofs.YtnooabgdcfegeaaDoor
open Go.RowKit Go.Sort
set_option linter.unusedVariables false
set_option maxRecDepth 100000 in
set_option maxHeartbeats 4000000 in
theorem good_none (op rd rs1 rs2 im : Int) (aq rl : Bool) (w : World) (hC : Cod w) (hf : Hid ((refRow op).1 = 0)) :
    Calls Tryd.prog 59 #[.agg #[.int .i64 op, .int .i64 rd, .int .i64 rs1, .int .i64 rs2, .int .i64 im, .bool aq, .bool rl]] w fun e w' => e = .returned (.bool false) ∧ Nb w w' := by
  go_enter Tryd.func59, Tryd.ntmps59
  go_wp2_with fail
  obtain ⟨W1, hW⟩ : ∃ W1, w.alloc (.cells #[.int .i64 op, .int .i64 rd, .int .i64 rs1, .int .i64 rs2, .int .i64 im, .bool aq, .bool rl] 37) = W1 := ⟨_, rfl⟩
  have hS := made7 w _ _ _ _ _ _ _ 37 hW rfl
  have hC1 : Cod W1 := hC.of_nw hS.1
  rw [hW]
  clear hW hC
  refine (head_any op W1 hC1).mono ?_
  rintro e w2 ⟨rfl, hn⟩
  rw [hf.out]
  obtain ⟨n1, n2, c0, c1, c2, c3, c4, c5, c6⟩ := keep7 hn hS
  clear hS hn hC1
  have hfd := field_0 0 (refRow op).2.1 (refRow op).2.2.1 (refRow op).2.2.2
  go_wp2_with fail
  refine wp_region_quiet_below (by kernel_rfl) (by kernel_rfl) ?_
  repeat (quiet_step (fail))
  refine wpQuiet_nil ?_
  intro _ hw'
  obtain ⟨⟨dq, osq⟩, hw''⟩ := hw'
  subst hw''
  go_wp2_with fail
  go_ret
  exact ⟨rfl, n1.b.trans (below_regrown w2 dq osq)⟩
/-- May an instruction be? -/
def GoodB (op rd rs1 rs2 im : Int) (aq rl : Bool) : Bool := if (refRow op).1 = 0 then false else SameB (refRow op).1 op rd rs1 rs2 im aq rl && (RegB rd && (RegB rs1 && (RegB rs2 && MayB (refRow op).1 im)))
theorem good_any (op rd rs1 rs2 im : Int) (aq rl : Bool) (v0 : -9223372036854775808 ≤ im) (v1 : im < 9223372036854775808) (w : World) (hC : Cod w) :
    Calls Tryd.prog 59 #[.agg #[.int .i64 op, .int .i64 rd, .int .i64 rs1, .int .i64 rs2, .int .i64 im, .bool aq, .bool rl]] w fun e w' => e = .returned (.bool (GoodB op rd rs1 rs2 im aq rl)) ∧ Nb w w' := by
  have hr := row_ok op
  by_cases h : (refRow op).1 = 0
  · rw [show GoodB op rd rs1 rs2 im aq rl = false from if_pos h]
    exact good_none op rd rs1 rs2 im aq rl w hC h
  · have e : GoodB op rd rs1 rs2 im aq rl = (SameB (refRow op).1 op rd rs1 rs2 im aq rl && (RegB rd && (RegB rs1 && (RegB rs2 && MayB (refRow op).1 im)))) := if_neg h
    rw [e]
    have f1 : 1 ≤ (refRow op).1 := by omega
    cases hE : SameB (refRow op).1 op rd rs1 rs2 im aq rl
    · exact good_e0 op rd rs1 rs2 im aq rl v0 v1 w hC _ rfl f1 hr.2.1 hE
    · cases h1 : RegB rd
      · exact good_e1 op rd rs1 rs2 im aq rl v0 v1 w hC _ rfl f1 hr.2.1 hE h1
      · cases h2 : RegB rs1
        · exact good_e2 op rd rs1 rs2 im aq rl v0 v1 w hC _ rfl f1 hr.2.1 hE h1 h2
        · cases h3 : RegB rs2
          · exact good_e3 op rd rs1 rs2 im aq rl v0 v1 w hC _ rfl f1 hr.2.1 hE h1 h2 h3
          · cases h4 : MayB (refRow op).1 im
            · exact good_e4 op rd rs1 rs2 im aq rl v0 v1 w hC _ rfl f1 hr.2.1 hE h1 h2 h3 h4
            · exact good_e5 op rd rs1 rs2 im aq rl v0 v1 w hC _ rfl f1 hr.2.1 hE h1 h2 h3 h4
theorem reg_range {r : Int} (h : RegB r = true) : 0 ≤ r ∧ r ≤ 31 := by unfold RegB at h; simpa using h
theorem good_ranges {op rd rs1 rs2 im : Int} {aq rl : Bool} (h : GoodB op rd rs1 rs2 im aq rl = true) : (0 ≤ rd ∧ rd ≤ 31) ∧ (0 ≤ rs1 ∧ rs1 ≤ 31) ∧ (0 ≤ rs2 ∧ rs2 ≤ 31) := by
  unfold GoodB at h
  split at h
  · cases h
  · simp only [Bool.and_eq_true] at h
    exact ⟨reg_range h.2.1, reg_range h.2.2.1, reg_range h.2.2.2.1⟩
theorem ret2 {k : IntKind} {a b : Int} {c : Value} (h : a = b) : Ending.returned (.tuple #[.int k a, c]) = .returned (.tuple #[.int k b, c]) := by rw [h]
/-- The whole word of an instruction that may be. -/
def W64 (op rd rs1 rs2 im : Int) (aq rl : Bool) : Int :=
  bits .or .u64 (bits .or .u64 (Wd (refRow op).1 (refRow op).2.1 (refRow op).2.2.1 (refRow op).2.2.2) (FW rd rs1 rs2 aq rl)) (IW (refRow op).1 (IntKind.u64.wrap im))
def EncW (op rd rs1 rs2 im : Int) (aq rl : Bool) : Int := IntKind.u32.wrap (W64 op rd rs1 rs2 im aq rl)
set_option maxRecDepth 100000 in
set_option maxHeartbeats 4000000 in
theorem enc_no (op rd rs1 rs2 im : Int) (aq rl : Bool) (v0 : -9223372036854775808 ≤ im) (v1 : im < 9223372036854775808) (hg : GoodB op rd rs1 rs2 im aq rl = false) (w : World) (hC : Cod w) :
    Calls Tryd.prog 38 #[.agg #[.int .i64 op, .int .i64 rd, .int .i64 rs1, .int .i64 rs2, .int .i64 im, .bool aq, .bool rl]] w fun e w' => e = .returned (.tuple #[.int .u32 0, .int .i64 20]) ∧ Nb w w' := by
  go_enter Tryd.func38, Tryd.ntmps38
  go_wp2_with fail
  obtain ⟨W1, hW⟩ : ∃ W1, w.alloc (.cells #[.int .i64 op, .int .i64 rd, .int .i64 rs1, .int .i64 rs2, .int .i64 im, .bool aq, .bool rl] 37) = W1 := ⟨_, rfl⟩
  have hS := made7 w _ _ _ _ _ _ _ 37 hW rfl
  have hC1 : Cod W1 := hC.of_nw hS.1
  rw [hW]
  clear hW hC
  refine (good_any op rd rs1 rs2 im aq rl v0 v1 W1 hC1).mono ?_
  rintro e w2 ⟨rfl, hn⟩
  go_wp2_with fail
  go_ret2
  exact ⟨rfl, hS.1.b.trans hn⟩
set_option maxRecDepth 100000 in
set_option maxHeartbeats 4000000 in
theorem enc_yes (op rd rs1 rs2 im : Int) (aq rl : Bool) (v0 : -9223372036854775808 ≤ im) (v1 : im < 9223372036854775808) (hg : GoodB op rd rs1 rs2 im aq rl = true) (w : World) (hC : Cod w) :
    Calls Tryd.prog 38 #[.agg #[.int .i64 op, .int .i64 rd, .int .i64 rs1, .int .i64 rs2, .int .i64 im, .bool aq, .bool rl]] w fun e w' => e = .returned (.tuple #[.int .u32 (EncW op rd rs1 rs2 im aq rl), .int .i64 0]) ∧ Nb w w' := by
  obtain ⟨⟨p0, p1⟩, ⟨q0, q1⟩, ⟨r0, r1⟩⟩ := good_ranges hg
  go_enter Tryd.func38, Tryd.ntmps38
  go_wp2_with fail
  obtain ⟨W1, hW⟩ : ∃ W1, w.alloc (.cells #[.int .i64 op, .int .i64 rd, .int .i64 rs1, .int .i64 rs2, .int .i64 im, .bool aq, .bool rl] 37) = W1 := ⟨_, rfl⟩
  have hS := made7 w _ _ _ _ _ _ _ 37 hW rfl
  have hC1 : Cod W1 := hC.of_nw hS.1
  rw [hW]
  clear hW hC
  refine (good_any op rd rs1 rs2 im aq rl v0 v1 W1 hC1).mono ?_
  rintro e w2 ⟨rfl, hn⟩
  have hC2 := hC1.of_nb hn
  have hN := hS.1.b.trans hn
  obtain ⟨n1, n2, c0, c1, c2, c3, c4, c5, c6⟩ := hS
  have c0 := hn.cell c0
  have c1 := hn.cell c1
  have c2 := hn.cell c2
  have c3 := hn.cell c3
  have c4 := hn.cell c4
  have c5 := hn.cell c5
  have c6 := hn.cell c6
  obtain ⟨s0, s1, t0, t1, u0, u1, x0, x1⟩ := row_ok op
  go_wp2_with fail
  refine (head_any op w2 hC2).mono ?_
  rintro e w3 ⟨rfl, hn3⟩
  have hN3 := hN.trans hn3.b
  have k0 := hn3.b.cell c0
  have k1 := hn3.b.cell c1
  have k2 := hn3.b.cell c2
  have k3 := hn3.b.cell c3
  have k4 := hn3.b.cell c4
  have k5 := hn3.b.cell c5
  have k6 := hn3.b.cell c6
  clear c0 c1 c2 c3 c4 c5 c6
  generalize hF : (refRow op).1 = f at *
  generalize hO : (refRow op).2.1 = o at *
  generalize hA : (refRow op).2.2.1 = a3 at *
  generalize hB : (refRow op).2.2.2 = a7 at *
  have HW : Hid (EncW op rd rs1 rs2 im aq rl = IntKind.u32.wrap (bits .or .u64 (bits .or .u64 (Wd f o a3 a7) (FW rd rs1 rs2 aq rl)) (IW f (IntKind.u64.wrap im)))) := by subst hF hO hA hB; exact rfl
  clear hF hO hA hB
  go_wp2_with fail
  obtain ⟨W4, hW4⟩ : ∃ W4, w3.alloc (.cells #[.int .u32 (1048576 * f), .int .u64 o, .int .u64 a3, .int .u64 a7] 106) = W4 := ⟨_, rfl⟩
  have hH := made4 w3 _ _ _ _ 106 hW4 rfl
  rw [hW4]
  clear hW4
  obtain ⟨h0, h1, e0, e1, e2, e3⟩ := hH
  have d0 := cell_regrown (h0.b.cell k0)
  have d1 := cell_regrown (h0.b.cell k1)
  have d2 := cell_regrown (h0.b.cell k2)
  have d3 := cell_regrown (h0.b.cell k3)
  have d4 := cell_regrown (h0.b.cell k4)
  have d5 := cell_regrown (h0.b.cell k5)
  have d6 := cell_regrown (h0.b.cell k6)
  have d7 := cell_regrown e0
  have d8 := cell_regrown e1
  have d9 := cell_regrown e2
  have da := cell_regrown e3
  clear k0 k1 k2 k3 k4 k5 k6 e0 e1 e2 e3 hC1 hC2 n1 n2 hn hn3 h1
  refine wp_region_quiet_below (by kernel_rfl) (by kernel_rfl) ?_
  repeat (quiet_step ((first | (go_at_call 65; exact regrown_nw (wd_any f o a3 a7 s0 s1 t0 (by omega) u0 (by omega) x0 (by omega) _)) | (go_at_call 66; exact regrown_nw (fw_any op rd rs1 rs2 im aq rl p0 p1 q0 q1 r0 r1 _)) | (go_at_call 67; exact regrown_nw (iw_any f im s0 s1 _)))))
  refine wpQuiet_nil ?_
  intro _ hw'
  obtain ⟨⟨dq, osq⟩, hw''⟩ := hw'
  subst hw''
  go_wp2_with fail
  go_ret2
  exact ⟨ret2 HW.out.symm, (hN3.trans h0.b).trans (below_regrown W4 dq osq)⟩
end Go.Proofs.YtnooabgdcfegeaaDoor
