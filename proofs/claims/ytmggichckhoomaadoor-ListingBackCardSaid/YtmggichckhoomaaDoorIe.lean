/-
  Proved here: which instructions may be, and what word an instruction has, by the code. Conditions: the table of codes holds what its text lays; the numbers are ints.
-/
import Derived.Test.YtmggichckhoomaaDoorIg
namespace Go.Proofs.YtmggichckhoomaaDoor
open Go.RowKit Go.Sort
set_option linter.unusedVariables false
set_option maxRecDepth 100000 in
set_option maxHeartbeats 4000000 in
theorem good_none (op rd rs1 rs2 im : Int) (aq rl : Bool) (w : World) (hC : Cod w) (hf : Hid ((refRow op).1 = 0)) :
    Calls Tryd.prog 23 #[.agg #[.int .i64 op, .int .i64 rd, .int .i64 rs1, .int .i64 rs2, .int .i64 im, .bool aq, .bool rl]] w fun e w' => e = .returned (.bool false) ∧ Nb w w' := by
  go_enter Tryd.func23, Tryd.ntmps23
  go_wp2_with fail
  obtain ⟨W1, hW⟩ : ∃ W1, w.alloc (.cells #[.int .i64 op, .int .i64 rd, .int .i64 rs1, .int .i64 rs2, .int .i64 im, .bool aq, .bool rl] 33) = W1 := ⟨_, rfl⟩
  have hS := made7 w _ _ _ _ _ _ _ 33 hW rfl
  have hC1 : Cod W1 := hC.of_nw hS.1
  rw [hW]
  clear hW hC
  refine (head_any op W1 hC1).mono ?_
  rintro e w2 ⟨rfl, hn⟩
  rw [hf.out]
  obtain ⟨n1, n2, c0, c1, c2, c3, c4, c5, c6⟩ := keep7 hn hS
  clear hS hn hC1
  have hfd := field_0 0 (refRow op).2.1 (refRow op).2.2.1 (refRow op).2.2.2
  go_wp2_with fail
  refine wp_region_quiet_below (by kernel_rfl) (by kernel_rfl) ?_
  repeat (quiet_step (fail))
  refine wpQuiet_nil ?_
  intro _ hw'
  obtain ⟨⟨dq, osq⟩, hw''⟩ := hw'
  subst hw''
  go_wp2_with fail
  go_ret
  exact ⟨rfl, n1.b.trans (below_regrown w2 dq osq)⟩
/-- May an instruction be? -/
def GoodB (op rd rs1 rs2 im : Int) (aq rl : Bool) : Bool := if (refRow op).1 = 0 then false else SameB (refRow op).1 op rd rs1 rs2 im aq rl && (RegB rd && (RegB rs1 && (RegB rs2 && MayB (refRow op).1 im)))
theorem good_any (op rd rs1 rs2 im : Int) (aq rl : Bool) (v0 : -9223372036854775808 ≤ im) (v1 : im < 9223372036854775808) (w : World) (hC : Cod w) :
    Calls Tryd.prog 23 #[.agg #[.int .i64 op, .int .i64 rd, .int .i64 rs1, .int .i64 rs2, .int .i64 im, .bool aq, .bool rl]] w fun e w' => e = .returned (.bool (GoodB op rd rs1 rs2 im aq rl)) ∧ Nb w w' := by
  have hr := row_ok op
  by_cases h : (refRow op).1 = 0
  · rw [show GoodB op rd rs1 rs2 im aq rl = false from if_pos h]
    exact good_none op rd rs1 rs2 im aq rl w hC h
  · have e : GoodB op rd rs1 rs2 im aq rl = (SameB (refRow op).1 op rd rs1 rs2 im aq rl && (RegB rd && (RegB rs1 && (RegB rs2 && MayB (refRow op).1 im)))) := if_neg h
    rw [e]
    have f1 : 1 ≤ (refRow op).1 := by omega
    cases hE : SameB (refRow op).1 op rd rs1 rs2 im aq rl
    · exact good_e0 op rd rs1 rs2 im aq rl v0 v1 w hC _ rfl f1 hr.2.1 hE
    · cases h1 : RegB rd
      · exact good_e1 op rd rs1 rs2 im aq rl v0 v1 w hC _ rfl f1 hr.2.1 hE h1
      · cases h2 : RegB rs1
        · exact good_e2 op rd rs1 rs2 im aq rl v0 v1 w hC _ rfl f1 hr.2.1 hE h1 h2
        · cases h3 : RegB rs2
          · exact good_e3 op rd rs1 rs2 im aq rl v0 v1 w hC _ rfl f1 hr.2.1 hE h1 h2 h3
          · cases h4 : MayB (refRow op).1 im
            · exact good_e4 op rd rs1 rs2 im aq rl v0 v1 w hC _ rfl f1 hr.2.1 hE h1 h2 h3 h4
            · exact good_e5 op rd rs1 rs2 im aq rl v0 v1 w hC _ rfl f1 hr.2.1 hE h1 h2 h3 h4
theorem reg_range {r : Int} (h : RegB r = true) : 0 ≤ r ∧ r ≤ 31 := by unfold RegB at h; simpa using h
theorem good_ranges {op rd rs1 rs2 im : Int} {aq rl : Bool} (h : GoodB op rd rs1 rs2 im aq rl = true) : (0 ≤ rd ∧ rd ≤ 31) ∧ (0 ≤ rs1 ∧ rs1 ≤ 31) ∧ (0 ≤ rs2 ∧ rs2 ≤ 31) := by
  unfold GoodB at h
  split at h
  · cases h
  · simp only [Bool.and_eq_true] at h
    exact ⟨reg_range h.2.1, reg_range h.2.2.1, reg_range h.2.2.2.1⟩
theorem ret2 {k : IntKind} {a b : Int} {c : Value} (h : a = b) : Ending.returned (.tuple #[.int k a, c]) = .returned (.tuple #[.int k b, c]) := by rw [h]
/-- The whole word of an instruction that may be. -/
def W64 (op rd rs1 rs2 im : Int) (aq rl : Bool) : Int :=
  bits .or .u64 (bits .or .u64 (Wd (refRow op).1 (refRow op).2.1 (refRow op).2.2.1 (refRow op).2.2.2) (FW rd rs1 rs2 aq rl)) (IW (refRow op).1 (IntKind.u64.wrap im))
def EncW (op rd rs1 rs2 im : Int) (aq rl : Bool) : Int := IntKind.u32.wrap (W64 op rd rs1 rs2 im aq rl)
theorem field_0' (a b c d : Int) (W : World) : (Instr.field 77 (.agg #[.int .u32 a, .int .u64 b, .int .u64 c, .int .u64 d]) 0).run Tryd.prog W = .ok (.int .u32 a) W := field_0 a b c d W
end Go.Proofs.YtmggichckhoomaaDoor
