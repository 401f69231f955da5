/-
  Proved here: what fieldsWord, immWord, immIn, headIn of the code answer. Conditions: the fields are those of an instruction that may be; the form is one; the word is a word.
-/
import Derived.Test.YtnooabgdcfegeaaDoorSag
import Derived.Deep.QuietTactic
import Derived.BigQuiet
namespace Go.Proofs.YtnooabgdcfegeaaDoor
open Go.RowKit
set_option linter.unusedVariables false
def Bi (b : Bool) : Int := if b = true then 1 else 0
theorem bi_w (b : Bool) : 0 ≤ Bi b ∧ Bi b < 18446744073709551616 := by cases b <;> decide
theorem bit_any' (b : Bool) (w : World) : Calls Tryd.prog 84 #[.bool b] w fun e w' => e = .returned (.int .u64 (Bi b)) ∧ w = w' := bit_any b w
/-- The word with the registers and the two order bits. -/
def FW (rd rs1 rs2 : Int) (aq rl : Bool) : Int := Plc (Plc (Plc (Plc (Plc 0 7 5 rd) 15 5 rs1) 20 5 rs2) 25 1 (Bi rl)) 26 1 (Bi aq)
theorem fw_any (op rd rs1 rs2 im : Int) (aq rl : Bool) (a0 : 0 ≤ rd) (a1 : rd ≤ 31) (b0 : 0 ≤ rs1) (b1 : rs1 ≤ 31) (c0 : 0 ≤ rs2) (c1 : rs2 ≤ 31) (w : World) :
    Calls Tryd.prog 66 #[.agg #[.int .i64 op, .int .i64 rd, .int .i64 rs1, .int .i64 rs2, .int .i64 im, .bool aq, .bool rl]] w fun e w' => e = .returned (.int .u64 (FW rd rs1 rs2 aq rl)) ∧ Nw w w' := by
  go_enter Tryd.func66, Tryd.ntmps66
  obtain ⟨p0, p1⟩ := plc_w 0 7 5 rd (by decide) (by decide)
  obtain ⟨q0, q1⟩ := plc_w (Plc 0 7 5 rd) 15 5 rs1 p0 p1
  obtain ⟨r0, r1⟩ := plc_w (Plc (Plc 0 7 5 rd) 15 5 rs1) 20 5 rs2 q0 q1
  obtain ⟨s0, s1⟩ := plc_w (Plc (Plc (Plc 0 7 5 rd) 15 5 rs1) 20 5 rs2) 25 1 (Bi rl) r0 r1
  obtain ⟨t0, t1⟩ := bi_w rl
  obtain ⟨u0, u1⟩ := bi_w aq
  go_wp2_with fail
  refine (place_any _ _ _ _ (by decide) (by decide) a0 (by omega) _).mono ?_
  rintro e w' ⟨rfl, k1, rfl⟩
  go_wp2_with fail
  refine (place_any _ _ _ _ p0 p1 b0 (by omega) _).mono ?_
  rintro e w' ⟨rfl, k2, rfl⟩
  go_wp2_with fail
  refine (place_any _ _ _ _ q0 q1 c0 (by omega) _).mono ?_
  rintro e w' ⟨rfl, k3, rfl⟩
  go_wp2_with fail
  refine (bit_any' _ _).mono ?_
  rintro e w' ⟨rfl, rfl⟩
  go_wp2_with fail
  refine (place_any _ _ _ _ r0 r1 t0 t1 _).mono ?_
  rintro e w' ⟨rfl, k4, rfl⟩
  go_wp2_with fail
  refine (bit_any' _ _).mono ?_
  rintro e w' ⟨rfl, rfl⟩
  go_wp2_with fail
  refine (place_any _ _ _ _ s0 s1 u0 u1 _).mono ?_
  rintro e w' ⟨rfl, k5, rfl⟩
  go_wp2_with fail
  go_ret
  exact ⟨rfl, ((Nw.refl _).alloc _ _).drewN _⟩
/-- The word with a number's pieces. -/
def IW (f u : Int) : Int := Put (im3T f) (Put (im2T f) (Put (im1T f) (Put (im0T f) 0 u) u) u) u
theorem iw_any (f v : Int) (f0 : 0 ≤ f) (f1 : f ≤ 12) (w : World) :
    Calls Tryd.prog 67 #[.int .u32 (1048576 * f), .int .i64 v] w fun e w' => e = .returned (.int .u64 (IW f (IntKind.u64.wrap v))) ∧ Nw w w' := by
  obtain ⟨u0, u1⟩ : 0 ≤ IntKind.u64.wrap v ∧ IntKind.u64.wrap v < 18446744073709551616 := by rw [IntKind.wrap_u64]; omega
  go_enter Tryd.func67, Tryd.ntmps67
  go_wp2_with fail
  refine (im_any f f0 f1 _).mono ?_
  rintro e w1 ⟨rfl, hn⟩
  have i0 : ∀ W, (Instr.index 126 (.agg #[.int .i64 (im0T f).1, .int .i64 (im0T f).2.1, .int .i64 (im0T f).2.2, .int .i64 (im1T f).1, .int .i64 (im1T f).2.1, .int .i64 (im1T f).2.2, .int .i64 (im2T f).1, .int .i64 (im2T f).2.1, .int .i64 (im2T f).2.2, .int .i64 (im3T f).1, .int .i64 (im3T f).2.1, .int .i64 (im3T f).2.2]) (.int .i64 0)).run Tryd.prog W = .ok (.agg #[.int .i64 (im0T f).1, .int .i64 (im0T f).2.1, .int .i64 (im0T f).2.2]) W := fun _ => by kernel_rfl
  have i1 : ∀ W, (Instr.index 126 (.agg #[.int .i64 (im0T f).1, .int .i64 (im0T f).2.1, .int .i64 (im0T f).2.2, .int .i64 (im1T f).1, .int .i64 (im1T f).2.1, .int .i64 (im1T f).2.2, .int .i64 (im2T f).1, .int .i64 (im2T f).2.1, .int .i64 (im2T f).2.2, .int .i64 (im3T f).1, .int .i64 (im3T f).2.1, .int .i64 (im3T f).2.2]) (.int .i64 1)).run Tryd.prog W = .ok (.agg #[.int .i64 (im1T f).1, .int .i64 (im1T f).2.1, .int .i64 (im1T f).2.2]) W := fun _ => by kernel_rfl
  have i2 : ∀ W, (Instr.index 126 (.agg #[.int .i64 (im0T f).1, .int .i64 (im0T f).2.1, .int .i64 (im0T f).2.2, .int .i64 (im1T f).1, .int .i64 (im1T f).2.1, .int .i64 (im1T f).2.2, .int .i64 (im2T f).1, .int .i64 (im2T f).2.1, .int .i64 (im2T f).2.2, .int .i64 (im3T f).1, .int .i64 (im3T f).2.1, .int .i64 (im3T f).2.2]) (.int .i64 2)).run Tryd.prog W = .ok (.agg #[.int .i64 (im2T f).1, .int .i64 (im2T f).2.1, .int .i64 (im2T f).2.2]) W := fun _ => by kernel_rfl
  have i3 : ∀ W, (Instr.index 126 (.agg #[.int .i64 (im0T f).1, .int .i64 (im0T f).2.1, .int .i64 (im0T f).2.2, .int .i64 (im1T f).1, .int .i64 (im1T f).2.1, .int .i64 (im1T f).2.2, .int .i64 (im2T f).1, .int .i64 (im2T f).2.1, .int .i64 (im2T f).2.2, .int .i64 (im3T f).1, .int .i64 (im3T f).2.1, .int .i64 (im3T f).2.2]) (.int .i64 3)).run Tryd.prog W = .ok (.agg #[.int .i64 (im3T f).1, .int .i64 (im3T f).2.1, .int .i64 (im3T f).2.2]) W := fun _ => by kernel_rfl
  obtain ⟨a0, a1⟩ := put_w (im0T f) 0 (IntKind.u64.wrap v) (by decide) (by decide)
  obtain ⟨b0, b1⟩ := put_w (im1T f) _ (IntKind.u64.wrap v) a0 a1
  obtain ⟨c0, c1⟩ := put_w (im2T f) _ (IntKind.u64.wrap v) b0 b1
  go_wp2_with fail
  refine wp_loop_rounds 5 ?_
  rw [rounds_succ]
  go_wp2_with fail
  refine (put_any _ _ _ _ _ (by decide) (by decide) u0 u1 _).mono ?_
  rintro e x0 ⟨rfl, h1⟩
  go_wp2_with fail
  rw [rounds_succ]
  go_wp2_with fail
  refine (put_any _ _ _ _ _ a0 a1 u0 u1 _).mono ?_
  rintro e x1 ⟨rfl, h2⟩
  go_wp2_with fail
  rw [rounds_succ]
  go_wp2_with fail
  refine (put_any _ _ _ _ _ b0 b1 u0 u1 _).mono ?_
  rintro e x2 ⟨rfl, h3⟩
  go_wp2_with fail
  rw [rounds_succ]
  go_wp2_with fail
  refine (put_any _ _ _ _ _ c0 c1 u0 u1 _).mono ?_
  rintro e x3 ⟨rfl, h4⟩
  go_wp2_with fail
  rw [rounds_succ]
  go_wp2_with fail
  go_ret

  exact ⟨rfl, (((((((hn.alloc _ _).trans h1).alloc _ _).trans h2).alloc _ _).trans h3).alloc _ _).trans h4⟩
end Go.Proofs.YtnooabgdcfegeaaDoor
