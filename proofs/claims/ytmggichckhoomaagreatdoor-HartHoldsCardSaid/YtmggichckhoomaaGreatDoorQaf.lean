/-
  Proved here: what fieldsWord, immWord, immIn, headIn of the code answer. Conditions: the fields are those of an instruction that may be; the form is one; the word is a word.
-/
import Derived.Test.YtmggichckhoomaaGreatDoorQae
import Derived.Deep.QuietTactic
import Derived.BigQuiet
namespace Go.Proofs.YtmggichckhoomaaGreatDoor
open Go.RowKit
set_option linter.unusedVariables false
def Bi (b : Bool) : Int := if b = true then 1 else 0
theorem bi_w (b : Bool) : 0 ≤ Bi b ∧ Bi b < 18446744073709551616 := by cases b <;> decide
theorem bit_any' (b : Bool) (w : World) : Calls Tryz.prog 86 #[.bool b] w fun e w' => e = .returned (.int .u64 (Bi b)) ∧ w = w' := bit_any b w
/-- The word with the registers and the two order bits. -/
def FW (rd rs1 rs2 : Int) (aq rl : Bool) : Int := Plc (Plc (Plc (Plc (Plc 0 7 5 rd) 15 5 rs1) 20 5 rs2) 25 1 (Bi rl)) 26 1 (Bi aq)
theorem fw_any (op rd rs1 rs2 im : Int) (aq rl : Bool) (a0 : 0 ≤ rd) (a1 : rd ≤ 31) (b0 : 0 ≤ rs1) (b1 : rs1 ≤ 31) (c0 : 0 ≤ rs2) (c1 : rs2 ≤ 31) (w : World) :
    Calls Tryz.prog 51 #[.agg #[.int .i64 op, .int .i64 rd, .int .i64 rs1, .int .i64 rs2, .int .i64 im, .bool aq, .bool rl]] w fun e w' => e = .returned (.int .u64 (FW rd rs1 rs2 aq rl)) ∧ Nw w w' := by
  go_enter Tryz.func51, Tryz.ntmps51
  obtain ⟨p0, p1⟩ := plc_w 0 7 5 rd (by decide) (by decide)
  obtain ⟨q0, q1⟩ := plc_w (Plc 0 7 5 rd) 15 5 rs1 p0 p1
  obtain ⟨r0, r1⟩ := plc_w (Plc (Plc 0 7 5 rd) 15 5 rs1) 20 5 rs2 q0 q1
  obtain ⟨s0, s1⟩ := plc_w (Plc (Plc (Plc 0 7 5 rd) 15 5 rs1) 20 5 rs2) 25 1 (Bi rl) r0 r1
  obtain ⟨t0, t1⟩ := bi_w rl
  obtain ⟨u0, u1⟩ := bi_w aq
  go_wp2_with fail
  refine (place_any _ _ _ _ (by decide) (by decide) a0 (by omega) _).mono ?_
  rintro e w' ⟨rfl, k1, rfl⟩
  go_wp2_with fail
  refine (place_any _ _ _ _ p0 p1 b0 (by omega) _).mono ?_
  rintro e w' ⟨rfl, k2, rfl⟩
  go_wp2_with fail
  refine (place_any _ _ _ _ q0 q1 c0 (by omega) _).mono ?_
  rintro e w' ⟨rfl, k3, rfl⟩
  go_wp2_with fail
  refine (bit_any' _ _).mono ?_
  rintro e w' ⟨rfl, rfl⟩
  go_wp2_with fail
  refine (place_any _ _ _ _ r0 r1 t0 t1 _).mono ?_
  rintro e w' ⟨rfl, k4, rfl⟩
  go_wp2_with fail
  refine (bit_any' _ _).mono ?_
  rintro e w' ⟨rfl, rfl⟩
  go_wp2_with fail
  refine (place_any _ _ _ _ s0 s1 u0 u1 _).mono ?_
  rintro e w' ⟨rfl, k5, rfl⟩
  go_wp2_with fail
  go_ret
  exact ⟨rfl, ((Nw.refl _).alloc _ _).drewN _⟩
/-- The word with a number's pieces. -/
def IW (f u : Int) : Int := Put (im3T f) (Put (im2T f) (Put (im1T f) (Put (im0T f) 0 u) u) u) u
theorem iw_any (f v : Int) (f0 : 0 ≤ f) (f1 : f ≤ 12) (w : World) :
    Calls Tryz.prog 52 #[.int .u32 (1048576 * f), .int .i64 v] w fun e w' => e = .returned (.int .u64 (IW f (IntKind.u64.wrap v))) ∧ Nw w w' := by
  obtain ⟨u0, u1⟩ : 0 ≤ IntKind.u64.wrap v ∧ IntKind.u64.wrap v < 18446744073709551616 := by rw [IntKind.wrap_u64]; omega
  go_enter Tryz.func52, Tryz.ntmps52
  go_wp2_with fail
  refine (im_any f f0 f1 _).mono ?_
  rintro e w1 ⟨rfl, hn⟩
  have i0 : ∀ W, (Instr.index 123 (.agg #[.int .i64 (im0T f).1, .int .i64 (im0T f).2.1, .int .i64 (im0T f).2.2, .int .i64 (im1T f).1, .int .i64 (im1T f).2.1, .int .i64 (im1T f).2.2, .int .i64 (im2T f).1, .int .i64 (im2T f).2.1, .int .i64 (im2T f).2.2, .int .i64 (im3T f).1, .int .i64 (im3T f).2.1, .int .i64 (im3T f).2.2]) (.int .i64 0)).run Tryz.prog W = .ok (.agg #[.int .i64 (im0T f).1, .int .i64 (im0T f).2.1, .int .i64 (im0T f).2.2]) W := fun _ => by kernel_rfl
  have i1 : ∀ W, (Instr.index 123 (.agg #[.int .i64 (im0T f).1, .int .i64 (im0T f).2.1, .int .i64 (im0T f).2.2, .int .i64 (im1T f).1, .int .i64 (im1T f).2.1, .int .i64 (im1T f).2.2, .int .i64 (im2T f).1, .int .i64 (im2T f).2.1, .int .i64 (im2T f).2.2, .int .i64 (im3T f).1, .int .i64 (im3T f).2.1, .int .i64 (im3T f).2.2]) (.int .i64 1)).run Tryz.prog W = .ok (.agg #[.int .i64 (im1T f).1, .int .i64 (im1T f).2.1, .int .i64 (im1T f).2.2]) W := fun _ => by kernel_rfl
  have i2 : ∀ W, (Instr.index 123 (.agg #[.int .i64 (im0T f).1, .int .i64 (im0T f).2.1, .int .i64 (im0T f).2.2, .int .i64 (im1T f).1, .int .i64 (im1T f).2.1, .int .i64 (im1T f).2.2, .int .i64 (im2T f).1, .int .i64 (im2T f).2.1, .int .i64 (im2T f).2.2, .int .i64 (im3T f).1, .int .i64 (im3T f).2.1, .int .i64 (im3T f).2.2]) (.int .i64 2)).run Tryz.prog W = .ok (.agg #[.int .i64 (im2T f).1, .int .i64 (im2T f).2.1, .int .i64 (im2T f).2.2]) W := fun _ => by kernel_rfl
  have i3 : ∀ W, (Instr.index 123 (.agg #[.int .i64 (im0T f).1, .int .i64 (im0T f).2.1, .int .i64 (im0T f).2.2, .int .i64 (im1T f).1, .int .i64 (im1T f).2.1, .int .i64 (im1T f).2.2, .int .i64 (im2T f).1, .int .i64 (im2T f).2.1, .int .i64 (im2T f).2.2, .int .i64 (im3T f).1, .int .i64 (im3T f).2.1, .int .i64 (im3T f).2.2]) (.int .i64 3)).run Tryz.prog W = .ok (.agg #[.int .i64 (im3T f).1, .int .i64 (im3T f).2.1, .int .i64 (im3T f).2.2]) W := fun _ => by kernel_rfl
  obtain ⟨a0, a1⟩ := put_w (im0T f) 0 (IntKind.u64.wrap v) (by decide) (by decide)
  obtain ⟨b0, b1⟩ := put_w (im1T f) _ (IntKind.u64.wrap v) a0 a1
  obtain ⟨c0, c1⟩ := put_w (im2T f) _ (IntKind.u64.wrap v) b0 b1
  go_wp2_with fail
  refine wp_loop_rounds 5 ?_
  rw [rounds_succ]
  go_wp2_with fail
  refine (put_any _ _ _ _ _ (by decide) (by decide) u0 u1 _).mono ?_
  rintro e x0 ⟨rfl, h1⟩
  go_wp2_with fail
  rw [rounds_succ]
  go_wp2_with fail
  refine (put_any _ _ _ _ _ a0 a1 u0 u1 _).mono ?_
  rintro e x1 ⟨rfl, h2⟩
  go_wp2_with fail
  rw [rounds_succ]
  go_wp2_with fail
  refine (put_any _ _ _ _ _ b0 b1 u0 u1 _).mono ?_
  rintro e x2 ⟨rfl, h3⟩
  go_wp2_with fail
  rw [rounds_succ]
  go_wp2_with fail
  refine (put_any _ _ _ _ _ c0 c1 u0 u1 _).mono ?_
  rintro e x3 ⟨rfl, h4⟩
  go_wp2_with fail
  rw [rounds_succ]
  go_wp2_with fail
  go_ret

  exact ⟨rfl, (((((((hn.alloc _ _).trans h1).alloc _ _).trans h2).alloc _ _).trans h3).alloc _ _).trans h4⟩
/-- The number whose pieces a word has, without and with its sign. -/
def IG (f u : Int) : Int := Get (im3T f) (Get (im2T f) (Get (im1T f) (Get (im0T f) 0 u) u) u) u
def II (f u : Int) : Int := wrap64 (Sgn (IG f u) (sgT f))
theorem ii_any (f u : Int) (f0 : 0 ≤ f) (f1 : f ≤ 12) (u0 : 0 ≤ u) (u1 : u < 18446744073709551616) (w : World) :
    Calls Tryz.prog 122 #[.int .u32 (1048576 * f), .int .u64 u] w fun e w' => e = .returned (.int .i64 (II f u)) ∧ Nw w w' := by
  go_enter Tryz.func122, Tryz.ntmps122
  go_wp2_with fail
  refine (im_any f f0 f1 _).mono ?_
  rintro e w1 ⟨rfl, hn⟩
  have i0 : ∀ W, (Instr.index 123 (.agg #[.int .i64 (im0T f).1, .int .i64 (im0T f).2.1, .int .i64 (im0T f).2.2, .int .i64 (im1T f).1, .int .i64 (im1T f).2.1, .int .i64 (im1T f).2.2, .int .i64 (im2T f).1, .int .i64 (im2T f).2.1, .int .i64 (im2T f).2.2, .int .i64 (im3T f).1, .int .i64 (im3T f).2.1, .int .i64 (im3T f).2.2]) (.int .i64 0)).run Tryz.prog W = .ok (.agg #[.int .i64 (im0T f).1, .int .i64 (im0T f).2.1, .int .i64 (im0T f).2.2]) W := fun _ => by kernel_rfl
  have i1 : ∀ W, (Instr.index 123 (.agg #[.int .i64 (im0T f).1, .int .i64 (im0T f).2.1, .int .i64 (im0T f).2.2, .int .i64 (im1T f).1, .int .i64 (im1T f).2.1, .int .i64 (im1T f).2.2, .int .i64 (im2T f).1, .int .i64 (im2T f).2.1, .int .i64 (im2T f).2.2, .int .i64 (im3T f).1, .int .i64 (im3T f).2.1, .int .i64 (im3T f).2.2]) (.int .i64 1)).run Tryz.prog W = .ok (.agg #[.int .i64 (im1T f).1, .int .i64 (im1T f).2.1, .int .i64 (im1T f).2.2]) W := fun _ => by kernel_rfl
  have i2 : ∀ W, (Instr.index 123 (.agg #[.int .i64 (im0T f).1, .int .i64 (im0T f).2.1, .int .i64 (im0T f).2.2, .int .i64 (im1T f).1, .int .i64 (im1T f).2.1, .int .i64 (im1T f).2.2, .int .i64 (im2T f).1, .int .i64 (im2T f).2.1, .int .i64 (im2T f).2.2, .int .i64 (im3T f).1, .int .i64 (im3T f).2.1, .int .i64 (im3T f).2.2]) (.int .i64 2)).run Tryz.prog W = .ok (.agg #[.int .i64 (im2T f).1, .int .i64 (im2T f).2.1, .int .i64 (im2T f).2.2]) W := fun _ => by kernel_rfl
  have i3 : ∀ W, (Instr.index 123 (.agg #[.int .i64 (im0T f).1, .int .i64 (im0T f).2.1, .int .i64 (im0T f).2.2, .int .i64 (im1T f).1, .int .i64 (im1T f).2.1, .int .i64 (im1T f).2.2, .int .i64 (im2T f).1, .int .i64 (im2T f).2.1, .int .i64 (im2T f).2.2, .int .i64 (im3T f).1, .int .i64 (im3T f).2.1, .int .i64 (im3T f).2.2]) (.int .i64 3)).run Tryz.prog W = .ok (.agg #[.int .i64 (im3T f).1, .int .i64 (im3T f).2.1, .int .i64 (im3T f).2.2]) W := fun _ => by kernel_rfl
  obtain ⟨a0, a1⟩ := get_w (im0T f) 0 u (by decide) (by decide)
  obtain ⟨b0, b1⟩ := get_w (im1T f) _ u a0 a1
  obtain ⟨c0, c1⟩ := get_w (im2T f) _ u b0 b1
  obtain ⟨d0, d1⟩ := get_w (im3T f) _ u c0 c1
  go_wp2_with fail
  refine wp_loop_rounds 5 ?_
  rw [rounds_succ]
  go_wp2_with fail
  refine (get_any _ _ _ _ _ u0 u1 (by decide) (by decide) _).mono ?_
  rintro e x0 ⟨rfl, h1⟩
  go_wp2_with fail
  rw [rounds_succ]
  go_wp2_with fail
  refine (get_any _ _ _ _ _ u0 u1 a0 a1 _).mono ?_
  rintro e x1 ⟨rfl, h2⟩
  go_wp2_with fail
  rw [rounds_succ]
  go_wp2_with fail
  refine (get_any _ _ _ _ _ u0 u1 b0 b1 _).mono ?_
  rintro e x2 ⟨rfl, h3⟩
  go_wp2_with fail
  rw [rounds_succ]
  go_wp2_with fail
  refine (get_any _ _ _ _ _ u0 u1 c0 c1 _).mono ?_
  rintro e x3 ⟨rfl, h4⟩
  go_wp2_with fail
  rw [rounds_succ]
  go_wp2_with fail
  refine (sg_any f f0 f1 _).mono ?_
  rintro e w' ⟨rfl, rfl⟩
  go_wp2_with fail
  refine (sign_any _ _ d0 d1 _).mono ?_
  rintro e w' ⟨rfl, rfl⟩
  go_wp2_with fail
  go_ret
  exact ⟨rfl, (((((((hn.alloc _ _).trans h1).alloc _ _).trans h2).alloc _ _).trans h3).alloc _ _).trans h4⟩
theorem hi_any (f u : Int) (f0 : 0 ≤ f) (f1 : f ≤ 12) (u0 : 0 ≤ u) (u1 : u < 18446744073709551616) (w : World) :
    Calls Tryz.prog 89 #[.int .u32 (1048576 * f), .int .u64 u] w fun e w' => e = .returned (.agg #[.int .u32 (1048576 * f), .int .u64 (Fld u 0 7), .int .u64 (Get (f3T f) 0 u), .int .u64 (Get (f7T f) 0 u)]) ∧ Nw w w' := by
  go_enter Tryz.func89, Tryz.ntmps89
  go_wp2_with fail
  obtain ⟨W1, hW⟩ : ∃ W1, w.alloc (.cells #[.int .u32 0, .int .u64 0, .int .u64 0, .int .u64 0] 95) = W1 := ⟨_, rfl⟩
  have hb := blk_made w _ hW rfl
  have hN : Nw w W1 := by rw [← hW]; exact (Nw.refl _).alloc _ _
  rw [hW]
  clear hW
  refine (field_any _ _ _ u0 u1 _).mono ?_
  rintro e w' ⟨rfl, rfl⟩
  go_wp2_with fail
  refine (f3_any f f0 f1 _).mono ?_
  rintro e w2 ⟨rfl, k2⟩
  go_wp2_with fail
  refine (get_any _ _ _ _ _ u0 u1 (by decide) (by decide) _).mono ?_
  rintro e w3 ⟨rfl, k3⟩
  go_wp2_with fail
  refine (f7_any f f0 f1 _).mono ?_
  rintro e w4 ⟨rfl, k4⟩
  go_wp2_with fail
  refine (get_any _ _ _ _ _ u0 u1 (by decide) (by decide) _).mono ?_
  rintro e w5 ⟨rfl, k5⟩
  have hK := ((k2.trans k3).trans k4).trans k5
  have hb5 := blk_keep hK hb
  have hN5 := hN.trans hK
  have hl := lt_of_block hb5
  have c0 := cell_of_row _ _ 0 _ _ _ hb5
  have c1 := cell_of_row _ _ 1 _ _ _ hb5
  have c2 := cell_of_row _ _ 2 _ _ _ hb5
  have c3 := cell_of_row _ _ 3 _ _ _ hb5
  have z0 := frozen_of_row _ _ 0 _ _ hb5
  have z1 := frozen_of_row _ _ 1 _ _ hb5
  have z2 := frozen_of_row _ _ 2 _ _ hb5
  have z3 := frozen_of_row _ _ 3 _ _ hb5
  simp only [List.getElem?_toArray, List.getElem?_cons_zero, List.getElem?_cons_succ] at c0 c1 c2 c3
  clear hb hb5 k2 k3 k4 k5 hK hN
  go_wp2_with fail
  exact bodyPost_ret (v := .agg #[.int .u32 (1048576 * f), .int .u64 (Fld u 0 7), .int .u64 (Get (f3T f) 0 u), .int .u64 (Get (f7T f) 0 u)]) (by simp [results, Tryz.results89, go_sem, c0, c1, c2, c3]) rfl
    ⟨rfl, (((hN5.setCell (Nat.le_refl _) _).setCell (Nat.le_refl _) _).setCell (Nat.le_refl _) _).setCell (Nat.le_refl _) _⟩
end Go.Proofs.YtmggichckhoomaaGreatDoor
