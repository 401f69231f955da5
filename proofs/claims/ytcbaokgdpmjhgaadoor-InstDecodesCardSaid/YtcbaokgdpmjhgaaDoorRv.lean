/-
  Proved here: the number that the reference reads out of a word by a form is the code's. Conditions: the word is a word.
-/
import Derived.Test.YtcbaokgdpmjhgaaDoorRv0
namespace Go.Proofs.YtcbaokgdpmjhgaaDoor
open Go.RowKit
set_option linter.unusedVariables false
theorem wmul (a c : Nat) (h : a * c < 18446744073709551616) : IntKind.u64.wrap ((a : Int) * (c : Int)) = ((a * c : Nat) : Int) := by rw [IntKind.wrap_u64, ← Int.natCast_mul]; omega
theorem ret1 {k : IntKind} {a b : Int} (h : a = b) : Ending.returned (.int k a) = .returned (.int k b) := by rw [h]
theorem fld_bd (u low n : Int) (N : Nat) (u0 : 0 ≤ u) (h : wid low n ≤ N) : 0 ≤ Fld u low n ∧ Fld u low n < ((2 ^ N : Nat) : Int) := by
  unfold Fld
  have := fld_lt u.toNat low.toNat (wid low n)
  have := Nat.pow_le_pow_right (by decide : 0 < 2) h
  omega
theorem nat_of (u : Int) (h : 0 ≤ u) : ∃ U : Nat, u = (U : Int) := Int.eq_ofNat_of_zero_le h
set_option maxRecDepth 100000 in
set_option maxHeartbeats 4000000 in
theorem val_0 (u : Int) (u0 : 0 ≤ u) (u1 : u < 4294967296) (w : World) : Calls Tryd.prog 62 #[.int .u32 u, .int .i64 0] w fun e w' => e = .returned (.int .i64 (oi (immT 0) (II 0 u))) ∧ Nw w w' := by
  go_enter Tryd.func62, Tryd.ntmps62
  go_wp2_with fail
  go_ret
  exact ⟨rfl, Nw.refl _⟩
theorem vk_1 (u : Int) (u0 : 0 ≤ u) : wrap64 (Sgn (IntKind.u64.wrap (Fld u 12 20 * 4096)) 32) = oi (immT 1) (II 1 u) := by
  obtain ⟨U, rfl⟩ := nat_of u u0
  have t0 : Fld (U : Int) 12 20 = ((fld U 12 20 : Nat) : Int) := fld_cast U 12 20 (by decide) (by decide) (by decide)
  have s0 : fld U 12 20 < 2 ^ 20 := fld_lt _ _ _
  have hG : IG 1 U = (((plc (plc (plc (plc 0 12 20 (fld U 12 20)) 0 0 (fld U 0 0)) 0 0 (fld U 0 0)) 0 0 (fld U 0 0)) : Nat) : Int) := rfl
  try simp only [plc_zero] at hG
  have g0 : plc (0) 12 20 (fld U 12 20) = 0 + 2 ^ 12 * ((fld U 12 20) % 2 ^ 20) := plc_add _ _ _ _ (by omega)
  rw [g0, Nat.mod_eq_of_lt s0] at hG
  clear g0
  rw [show immT 1 = true from rfl, oi_t]
  unfold II
  rw [hG, show sgT 1 = 32 from rfl, t0]
  clear hG t0
  generalize fld U 12 20 = y0 at *
  congr 1
  congr 1
  have m0 : IntKind.u64.wrap ((y0 : Int) * 4096) = ((y0 * 4096 : Nat) : Int) := wmul y0 4096 (by omega)
  rw [m0]
  exact congrArg Nat.cast (by omega)
set_option maxRecDepth 100000 in
set_option maxHeartbeats 4000000 in
theorem val_1 (u : Int) (u0 : 0 ≤ u) (u1 : u < 4294967296) (w : World) : Calls Tryd.prog 62 #[.int .u32 u, .int .i64 1] w fun e w' => e = .returned (.int .i64 (oi (immT 1) (II 1 u))) ∧ Nw w w' := by
  go_enter Tryd.func62, Tryd.ntmps62
  go_wp2_with fail
  refine (rf_any _ _ _ u0 u1 _).mono ?_
  rintro e w' ⟨rfl, rfl⟩
  go_wp2_with fail
  refine (rs_any (IntKind.u64.wrap (Fld u 12 20 * 4096)) 32 (wr _).1 (wr _).2 _).mono ?_
  rintro e w' ⟨rfl, rfl⟩
  go_wp2_with fail
  go_ret
  exact ⟨ret1 (vk_1 u u0), Nw.refl _⟩
theorem vk_2 (u : Int) (u0 : 0 ≤ u) : wrap64 (Sgn (IntKind.u64.wrap (IntKind.u64.wrap (IntKind.u64.wrap (IntKind.u64.wrap (Fld u 31 1 * 1048576) + IntKind.u64.wrap (Fld u 12 8 * 4096)) + IntKind.u64.wrap (Fld u 20 1 * 2048)) + IntKind.u64.wrap (Fld u 21 10 * 2))) 21) = oi (immT 2) (II 2 u) := by
  obtain ⟨U, rfl⟩ := nat_of u u0
  have t0 : Fld (U : Int) 31 1 = ((fld U 31 1 : Nat) : Int) := fld_cast U 31 1 (by decide) (by decide) (by decide)
  have s0 : fld U 31 1 < 2 ^ 1 := fld_lt _ _ _
  have t1 : Fld (U : Int) 21 10 = ((fld U 21 10 : Nat) : Int) := fld_cast U 21 10 (by decide) (by decide) (by decide)
  have s1 : fld U 21 10 < 2 ^ 10 := fld_lt _ _ _
  have t2 : Fld (U : Int) 20 1 = ((fld U 20 1 : Nat) : Int) := fld_cast U 20 1 (by decide) (by decide) (by decide)
  have s2 : fld U 20 1 < 2 ^ 1 := fld_lt _ _ _
  have t3 : Fld (U : Int) 12 8 = ((fld U 12 8 : Nat) : Int) := fld_cast U 12 8 (by decide) (by decide) (by decide)
  have s3 : fld U 12 8 < 2 ^ 8 := fld_lt _ _ _
  have hG : IG 2 U = (((plc (plc (plc (plc 0 20 1 (fld U 31 1)) 1 10 (fld U 21 10)) 11 1 (fld U 20 1)) 12 8 (fld U 12 8)) : Nat) : Int) := rfl
  try simp only [plc_zero] at hG
  have g0 : plc (0) 20 1 (fld U 31 1) = 0 + 2 ^ 20 * ((fld U 31 1) % 2 ^ 1) := plc_add _ _ _ _ (by omega)
  have g1 : plc (0 + 2 ^ 20 * ((fld U 31 1) % 2 ^ 1)) 1 10 (fld U 21 10) = 0 + 2 ^ 20 * ((fld U 31 1) % 2 ^ 1) + 2 ^ 1 * ((fld U 21 10) % 2 ^ 10) := plc_add _ _ _ _ (by omega)
  have g2 : plc (0 + 2 ^ 20 * ((fld U 31 1) % 2 ^ 1) + 2 ^ 1 * ((fld U 21 10) % 2 ^ 10)) 11 1 (fld U 20 1) = 0 + 2 ^ 20 * ((fld U 31 1) % 2 ^ 1) + 2 ^ 1 * ((fld U 21 10) % 2 ^ 10) + 2 ^ 11 * ((fld U 20 1) % 2 ^ 1) := plc_add _ _ _ _ (by omega)
  have g3 : plc (0 + 2 ^ 20 * ((fld U 31 1) % 2 ^ 1) + 2 ^ 1 * ((fld U 21 10) % 2 ^ 10) + 2 ^ 11 * ((fld U 20 1) % 2 ^ 1)) 12 8 (fld U 12 8) = 0 + 2 ^ 20 * ((fld U 31 1) % 2 ^ 1) + 2 ^ 1 * ((fld U 21 10) % 2 ^ 10) + 2 ^ 11 * ((fld U 20 1) % 2 ^ 1) + 2 ^ 12 * ((fld U 12 8) % 2 ^ 8) := plc_add _ _ _ _ (by omega)
  rw [g0, g1, g2, g3, Nat.mod_eq_of_lt s0, Nat.mod_eq_of_lt s1, Nat.mod_eq_of_lt s2, Nat.mod_eq_of_lt s3] at hG
  clear g0 g1 g2 g3
  rw [show immT 2 = true from rfl, oi_t]
  unfold II
  rw [hG, show sgT 2 = 21 from rfl, t0, t1, t2, t3]
  clear hG t0 t1 t2 t3
  generalize fld U 31 1 = y0 at *
  generalize fld U 21 10 = y1 at *
  generalize fld U 20 1 = y2 at *
  generalize fld U 12 8 = y3 at *
  congr 1
  congr 1
  have m0 : IntKind.u64.wrap ((y0 : Int) * 1048576) = ((y0 * 1048576 : Nat) : Int) := wmul y0 1048576 (by omega)
  have m1 : IntKind.u64.wrap ((y3 : Int) * 4096) = ((y3 * 4096 : Nat) : Int) := wmul y3 4096 (by omega)
  have m2 : IntKind.u64.wrap ((y2 : Int) * 2048) = ((y2 * 2048 : Nat) : Int) := wmul y2 2048 (by omega)
  have m3 : IntKind.u64.wrap ((y1 : Int) * 2) = ((y1 * 2 : Nat) : Int) := wmul y1 2 (by omega)
  rw [m0, m1, m2, m3]
  rw [wadd _ _ (by omega), wadd _ _ (by omega), wadd _ _ (by omega)]
  exact congrArg Nat.cast (by omega)
set_option maxRecDepth 100000 in
set_option maxHeartbeats 4000000 in
theorem val_2 (u : Int) (u0 : 0 ≤ u) (u1 : u < 4294967296) (w : World) : Calls Tryd.prog 62 #[.int .u32 u, .int .i64 2] w fun e w' => e = .returned (.int .i64 (oi (immT 2) (II 2 u))) ∧ Nw w w' := by
  go_enter Tryd.func62, Tryd.ntmps62
  go_wp2_with fail
  refine (rf_any _ _ _ u0 u1 _).mono ?_
  rintro e w' ⟨rfl, rfl⟩
  go_wp2_with fail
  refine (rf_any _ _ _ u0 u1 _).mono ?_
  rintro e w' ⟨rfl, rfl⟩
  go_wp2_with fail
  refine (rf_any _ _ _ u0 u1 _).mono ?_
  rintro e w' ⟨rfl, rfl⟩
  go_wp2_with fail
  refine (rf_any _ _ _ u0 u1 _).mono ?_
  rintro e w' ⟨rfl, rfl⟩
  go_wp2_with fail
  refine (rs_any (IntKind.u64.wrap (IntKind.u64.wrap (IntKind.u64.wrap (IntKind.u64.wrap (Fld u 31 1 * 1048576) + IntKind.u64.wrap (Fld u 12 8 * 4096)) + IntKind.u64.wrap (Fld u 20 1 * 2048)) + IntKind.u64.wrap (Fld u 21 10 * 2))) 21 (wr _).1 (wr _).2 _).mono ?_
  rintro e w' ⟨rfl, rfl⟩
  go_wp2_with fail
  go_ret
  exact ⟨ret1 (vk_2 u u0), Nw.refl _⟩
theorem vk_3 (u : Int) (u0 : 0 ≤ u) : wrap64 (Sgn (Fld u 20 12) 12) = oi (immT 3) (II 3 u) := by
  obtain ⟨U, rfl⟩ := nat_of u u0
  have t0 : Fld (U : Int) 20 12 = ((fld U 20 12 : Nat) : Int) := fld_cast U 20 12 (by decide) (by decide) (by decide)
  have s0 : fld U 20 12 < 2 ^ 12 := fld_lt _ _ _
  have hG : IG 3 U = (((plc (plc (plc (plc 0 0 12 (fld U 20 12)) 0 0 (fld U 0 0)) 0 0 (fld U 0 0)) 0 0 (fld U 0 0)) : Nat) : Int) := rfl
  try simp only [plc_zero] at hG
  have g0 : plc (0) 0 12 (fld U 20 12) = 0 + 2 ^ 0 * ((fld U 20 12) % 2 ^ 12) := plc_add _ _ _ _ (by omega)
  rw [g0, Nat.mod_eq_of_lt s0] at hG
  clear g0
  rw [show immT 3 = true from rfl, oi_t]
  unfold II
  rw [hG, show sgT 3 = 12 from rfl, t0]
  clear hG t0
  generalize fld U 20 12 = y0 at *
  congr 1
  congr 1
  exact congrArg Nat.cast (by omega)
set_option maxRecDepth 100000 in
set_option maxHeartbeats 4000000 in
theorem val_3 (u : Int) (u0 : 0 ≤ u) (u1 : u < 4294967296) (w : World) : Calls Tryd.prog 62 #[.int .u32 u, .int .i64 3] w fun e w' => e = .returned (.int .i64 (oi (immT 3) (II 3 u))) ∧ Nw w w' := by
  go_enter Tryd.func62, Tryd.ntmps62
  go_wp2_with fail
  refine (rf_any _ _ _ u0 u1 _).mono ?_
  rintro e w' ⟨rfl, rfl⟩
  go_wp2_with fail
  refine (rs_any (Fld u 20 12) 12 (fld_w u 20 12 u0 (by omega)).1 (fld_w u 20 12 u0 (by omega)).2 _).mono ?_
  rintro e w' ⟨rfl, rfl⟩
  go_wp2_with fail
  go_ret
  exact ⟨ret1 (vk_3 u u0), Nw.refl _⟩
theorem vk_4 (u : Int) (u0 : 0 ≤ u) : wrap64 (Sgn (IntKind.u64.wrap (IntKind.u64.wrap (IntKind.u64.wrap (IntKind.u64.wrap (Fld u 31 1 * 4096) + IntKind.u64.wrap (Fld u 7 1 * 2048)) + IntKind.u64.wrap (Fld u 25 6 * 32)) + IntKind.u64.wrap (Fld u 8 4 * 2))) 13) = oi (immT 4) (II 4 u) := by
  obtain ⟨U, rfl⟩ := nat_of u u0
  have t0 : Fld (U : Int) 31 1 = ((fld U 31 1 : Nat) : Int) := fld_cast U 31 1 (by decide) (by decide) (by decide)
  have s0 : fld U 31 1 < 2 ^ 1 := fld_lt _ _ _
  have t1 : Fld (U : Int) 25 6 = ((fld U 25 6 : Nat) : Int) := fld_cast U 25 6 (by decide) (by decide) (by decide)
  have s1 : fld U 25 6 < 2 ^ 6 := fld_lt _ _ _
  have t2 : Fld (U : Int) 8 4 = ((fld U 8 4 : Nat) : Int) := fld_cast U 8 4 (by decide) (by decide) (by decide)
  have s2 : fld U 8 4 < 2 ^ 4 := fld_lt _ _ _
  have t3 : Fld (U : Int) 7 1 = ((fld U 7 1 : Nat) : Int) := fld_cast U 7 1 (by decide) (by decide) (by decide)
  have s3 : fld U 7 1 < 2 ^ 1 := fld_lt _ _ _
  have hG : IG 4 U = (((plc (plc (plc (plc 0 12 1 (fld U 31 1)) 5 6 (fld U 25 6)) 1 4 (fld U 8 4)) 11 1 (fld U 7 1)) : Nat) : Int) := rfl
  try simp only [plc_zero] at hG
  have g0 : plc (0) 12 1 (fld U 31 1) = 0 + 2 ^ 12 * ((fld U 31 1) % 2 ^ 1) := plc_add _ _ _ _ (by omega)
  have g1 : plc (0 + 2 ^ 12 * ((fld U 31 1) % 2 ^ 1)) 5 6 (fld U 25 6) = 0 + 2 ^ 12 * ((fld U 31 1) % 2 ^ 1) + 2 ^ 5 * ((fld U 25 6) % 2 ^ 6) := plc_add _ _ _ _ (by omega)
  have g2 : plc (0 + 2 ^ 12 * ((fld U 31 1) % 2 ^ 1) + 2 ^ 5 * ((fld U 25 6) % 2 ^ 6)) 1 4 (fld U 8 4) = 0 + 2 ^ 12 * ((fld U 31 1) % 2 ^ 1) + 2 ^ 5 * ((fld U 25 6) % 2 ^ 6) + 2 ^ 1 * ((fld U 8 4) % 2 ^ 4) := plc_add _ _ _ _ (by omega)
  have g3 : plc (0 + 2 ^ 12 * ((fld U 31 1) % 2 ^ 1) + 2 ^ 5 * ((fld U 25 6) % 2 ^ 6) + 2 ^ 1 * ((fld U 8 4) % 2 ^ 4)) 11 1 (fld U 7 1) = 0 + 2 ^ 12 * ((fld U 31 1) % 2 ^ 1) + 2 ^ 5 * ((fld U 25 6) % 2 ^ 6) + 2 ^ 1 * ((fld U 8 4) % 2 ^ 4) + 2 ^ 11 * ((fld U 7 1) % 2 ^ 1) := plc_add _ _ _ _ (by omega)
  rw [g0, g1, g2, g3, Nat.mod_eq_of_lt s0, Nat.mod_eq_of_lt s1, Nat.mod_eq_of_lt s2, Nat.mod_eq_of_lt s3] at hG
  clear g0 g1 g2 g3
  rw [show immT 4 = true from rfl, oi_t]
  unfold II
  rw [hG, show sgT 4 = 13 from rfl, t0, t1, t2, t3]
  clear hG t0 t1 t2 t3
  generalize fld U 31 1 = y0 at *
  generalize fld U 25 6 = y1 at *
  generalize fld U 8 4 = y2 at *
  generalize fld U 7 1 = y3 at *
  congr 1
  congr 1
  have m0 : IntKind.u64.wrap ((y0 : Int) * 4096) = ((y0 * 4096 : Nat) : Int) := wmul y0 4096 (by omega)
  have m1 : IntKind.u64.wrap ((y3 : Int) * 2048) = ((y3 * 2048 : Nat) : Int) := wmul y3 2048 (by omega)
  have m2 : IntKind.u64.wrap ((y1 : Int) * 32) = ((y1 * 32 : Nat) : Int) := wmul y1 32 (by omega)
  have m3 : IntKind.u64.wrap ((y2 : Int) * 2) = ((y2 * 2 : Nat) : Int) := wmul y2 2 (by omega)
  rw [m0, m1, m2, m3]
  rw [wadd _ _ (by omega), wadd _ _ (by omega), wadd _ _ (by omega)]
  exact congrArg Nat.cast (by omega)
set_option maxRecDepth 100000 in
set_option maxHeartbeats 4000000 in
theorem val_4 (u : Int) (u0 : 0 ≤ u) (u1 : u < 4294967296) (w : World) : Calls Tryd.prog 62 #[.int .u32 u, .int .i64 4] w fun e w' => e = .returned (.int .i64 (oi (immT 4) (II 4 u))) ∧ Nw w w' := by
  go_enter Tryd.func62, Tryd.ntmps62
  go_wp2_with fail
  refine (rf_any _ _ _ u0 u1 _).mono ?_
  rintro e w' ⟨rfl, rfl⟩
  go_wp2_with fail
  refine (rf_any _ _ _ u0 u1 _).mono ?_
  rintro e w' ⟨rfl, rfl⟩
  go_wp2_with fail
  refine (rf_any _ _ _ u0 u1 _).mono ?_
  rintro e w' ⟨rfl, rfl⟩
  go_wp2_with fail
  refine (rf_any _ _ _ u0 u1 _).mono ?_
  rintro e w' ⟨rfl, rfl⟩
  go_wp2_with fail
  refine (rs_any (IntKind.u64.wrap (IntKind.u64.wrap (IntKind.u64.wrap (IntKind.u64.wrap (Fld u 31 1 * 4096) + IntKind.u64.wrap (Fld u 7 1 * 2048)) + IntKind.u64.wrap (Fld u 25 6 * 32)) + IntKind.u64.wrap (Fld u 8 4 * 2))) 13 (wr _).1 (wr _).2 _).mono ?_
  rintro e w' ⟨rfl, rfl⟩
  go_wp2_with fail
  go_ret
  exact ⟨ret1 (vk_4 u u0), Nw.refl _⟩
theorem vk_5 (u : Int) (u0 : 0 ≤ u) : wrap64 (Sgn (IntKind.u64.wrap (IntKind.u64.wrap (Fld u 25 7 * 32) + Fld u 7 5)) 12) = oi (immT 5) (II 5 u) := by
  obtain ⟨U, rfl⟩ := nat_of u u0
  have t0 : Fld (U : Int) 25 7 = ((fld U 25 7 : Nat) : Int) := fld_cast U 25 7 (by decide) (by decide) (by decide)
  have s0 : fld U 25 7 < 2 ^ 7 := fld_lt _ _ _
  have t1 : Fld (U : Int) 7 5 = ((fld U 7 5 : Nat) : Int) := fld_cast U 7 5 (by decide) (by decide) (by decide)
  have s1 : fld U 7 5 < 2 ^ 5 := fld_lt _ _ _
  have hG : IG 5 U = (((plc (plc (plc (plc 0 5 7 (fld U 25 7)) 0 5 (fld U 7 5)) 0 0 (fld U 0 0)) 0 0 (fld U 0 0)) : Nat) : Int) := rfl
  try simp only [plc_zero] at hG
  have g0 : plc (0) 5 7 (fld U 25 7) = 0 + 2 ^ 5 * ((fld U 25 7) % 2 ^ 7) := plc_add _ _ _ _ (by omega)
  have g1 : plc (0 + 2 ^ 5 * ((fld U 25 7) % 2 ^ 7)) 0 5 (fld U 7 5) = 0 + 2 ^ 5 * ((fld U 25 7) % 2 ^ 7) + 2 ^ 0 * ((fld U 7 5) % 2 ^ 5) := plc_add _ _ _ _ (by omega)
  rw [g0, g1, Nat.mod_eq_of_lt s0, Nat.mod_eq_of_lt s1] at hG
  clear g0 g1
  rw [show immT 5 = true from rfl, oi_t]
  unfold II
  rw [hG, show sgT 5 = 12 from rfl, t0, t1]
  clear hG t0 t1
  generalize fld U 25 7 = y0 at *
  generalize fld U 7 5 = y1 at *
  congr 1
  congr 1
  have m0 : IntKind.u64.wrap ((y0 : Int) * 32) = ((y0 * 32 : Nat) : Int) := wmul y0 32 (by omega)
  rw [m0]
  rw [wadd _ _ (by omega)]
  exact congrArg Nat.cast (by omega)
set_option maxRecDepth 100000 in
set_option maxHeartbeats 4000000 in
theorem val_5 (u : Int) (u0 : 0 ≤ u) (u1 : u < 4294967296) (w : World) : Calls Tryd.prog 62 #[.int .u32 u, .int .i64 5] w fun e w' => e = .returned (.int .i64 (oi (immT 5) (II 5 u))) ∧ Nw w w' := by
  go_enter Tryd.func62, Tryd.ntmps62
  go_wp2_with fail
  refine (rf_any _ _ _ u0 u1 _).mono ?_
  rintro e w' ⟨rfl, rfl⟩
  go_wp2_with fail
  refine (rf_any _ _ _ u0 u1 _).mono ?_
  rintro e w' ⟨rfl, rfl⟩
  go_wp2_with fail
  refine (rs_any (IntKind.u64.wrap (IntKind.u64.wrap (Fld u 25 7 * 32) + Fld u 7 5)) 12 (wr _).1 (wr _).2 _).mono ?_
  rintro e w' ⟨rfl, rfl⟩
  go_wp2_with fail
  go_ret
  exact ⟨ret1 (vk_5 u u0), Nw.refl _⟩
theorem vk_6 (u : Int) (u0 : 0 ≤ u) : Fld u 20 6 = oi (immT 6) (II 6 u) := by
  obtain ⟨U, rfl⟩ := nat_of u u0
  have t0 : Fld (U : Int) 20 6 = ((fld U 20 6 : Nat) : Int) := fld_cast U 20 6 (by decide) (by decide) (by decide)
  have s0 : fld U 20 6 < 2 ^ 6 := fld_lt _ _ _
  have hG : IG 6 U = (((plc (plc (plc (plc 0 0 6 (fld U 20 6)) 0 0 (fld U 0 0)) 0 0 (fld U 0 0)) 0 0 (fld U 0 0)) : Nat) : Int) := rfl
  try simp only [plc_zero] at hG
  have g0 : plc (0) 0 6 (fld U 20 6) = 0 + 2 ^ 0 * ((fld U 20 6) % 2 ^ 6) := plc_add _ _ _ _ (by omega)
  rw [g0, Nat.mod_eq_of_lt s0] at hG
  clear g0
  rw [show immT 6 = true from rfl, oi_t]
  unfold II
  rw [hG, show sgT 6 = 0 from rfl, t0]
  clear hG t0
  generalize fld U 20 6 = y0 at *
  rw [← sgn_no _ 0 (by decide)]
  unfold wrap64
  omega
set_option maxRecDepth 100000 in
set_option maxHeartbeats 4000000 in
theorem val_6 (u : Int) (u0 : 0 ≤ u) (u1 : u < 4294967296) (w : World) : Calls Tryd.prog 62 #[.int .u32 u, .int .i64 6] w fun e w' => e = .returned (.int .i64 (oi (immT 6) (II 6 u))) ∧ Nw w w' := by
  obtain ⟨x0, z0⟩ : 0 ≤ Fld u 20 6 ∧ Fld u 20 6 < 64 := fld_bd u 20 6 6 u0 (by decide)
  go_enter Tryd.func62, Tryd.ntmps62
  go_wp2_with fail
  refine (rf_any _ _ _ u0 u1 _).mono ?_
  rintro e w' ⟨rfl, rfl⟩
  go_wp2_with fail
  go_ret
  exact ⟨ret1 (vk_6 u u0), Nw.refl _⟩
theorem vk_7 (u : Int) (u0 : 0 ≤ u) : Fld u 20 5 = oi (immT 7) (II 7 u) := by
  obtain ⟨U, rfl⟩ := nat_of u u0
  have t0 : Fld (U : Int) 20 5 = ((fld U 20 5 : Nat) : Int) := fld_cast U 20 5 (by decide) (by decide) (by decide)
  have s0 : fld U 20 5 < 2 ^ 5 := fld_lt _ _ _
  have hG : IG 7 U = (((plc (plc (plc (plc 0 0 5 (fld U 20 5)) 0 0 (fld U 0 0)) 0 0 (fld U 0 0)) 0 0 (fld U 0 0)) : Nat) : Int) := rfl
  try simp only [plc_zero] at hG
  have g0 : plc (0) 0 5 (fld U 20 5) = 0 + 2 ^ 0 * ((fld U 20 5) % 2 ^ 5) := plc_add _ _ _ _ (by omega)
  rw [g0, Nat.mod_eq_of_lt s0] at hG
  clear g0
  rw [show immT 7 = true from rfl, oi_t]
  unfold II
  rw [hG, show sgT 7 = 0 from rfl, t0]
  clear hG t0
  generalize fld U 20 5 = y0 at *
  rw [← sgn_no _ 0 (by decide)]
  unfold wrap64
  omega
set_option maxRecDepth 100000 in
set_option maxHeartbeats 4000000 in
theorem val_7 (u : Int) (u0 : 0 ≤ u) (u1 : u < 4294967296) (w : World) : Calls Tryd.prog 62 #[.int .u32 u, .int .i64 7] w fun e w' => e = .returned (.int .i64 (oi (immT 7) (II 7 u))) ∧ Nw w w' := by
  obtain ⟨x0, z0⟩ : 0 ≤ Fld u 20 5 ∧ Fld u 20 5 < 32 := fld_bd u 20 5 5 u0 (by decide)
  go_enter Tryd.func62, Tryd.ntmps62
  go_wp2_with fail
  refine (rf_any _ _ _ u0 u1 _).mono ?_
  rintro e w' ⟨rfl, rfl⟩
  go_wp2_with fail
  go_ret
  exact ⟨ret1 (vk_7 u u0), Nw.refl _⟩
set_option maxRecDepth 100000 in
set_option maxHeartbeats 4000000 in
theorem val_8 (u : Int) (u0 : 0 ≤ u) (u1 : u < 4294967296) (w : World) : Calls Tryd.prog 62 #[.int .u32 u, .int .i64 8] w fun e w' => e = .returned (.int .i64 (oi (immT 8) (II 8 u))) ∧ Nw w w' := by
  go_enter Tryd.func62, Tryd.ntmps62
  go_wp2_with fail
  go_ret
  exact ⟨rfl, Nw.refl _⟩
theorem vk_9 (u : Int) (u0 : 0 ≤ u) : Fld u 20 8 = oi (immT 9) (II 9 u) := by
  obtain ⟨U, rfl⟩ := nat_of u u0
  have t0 : Fld (U : Int) 20 8 = ((fld U 20 8 : Nat) : Int) := fld_cast U 20 8 (by decide) (by decide) (by decide)
  have s0 : fld U 20 8 < 2 ^ 8 := fld_lt _ _ _
  have hG : IG 9 U = (((plc (plc (plc (plc 0 0 8 (fld U 20 8)) 0 0 (fld U 0 0)) 0 0 (fld U 0 0)) 0 0 (fld U 0 0)) : Nat) : Int) := rfl
  try simp only [plc_zero] at hG
  have g0 : plc (0) 0 8 (fld U 20 8) = 0 + 2 ^ 0 * ((fld U 20 8) % 2 ^ 8) := plc_add _ _ _ _ (by omega)
  rw [g0, Nat.mod_eq_of_lt s0] at hG
  clear g0
  rw [show immT 9 = true from rfl, oi_t]
  unfold II
  rw [hG, show sgT 9 = 0 from rfl, t0]
  clear hG t0
  generalize fld U 20 8 = y0 at *
  rw [← sgn_no _ 0 (by decide)]
  unfold wrap64
  omega
set_option maxRecDepth 100000 in
set_option maxHeartbeats 4000000 in
theorem val_9 (u : Int) (u0 : 0 ≤ u) (u1 : u < 4294967296) (w : World) : Calls Tryd.prog 62 #[.int .u32 u, .int .i64 9] w fun e w' => e = .returned (.int .i64 (oi (immT 9) (II 9 u))) ∧ Nw w w' := by
  obtain ⟨x0, z0⟩ : 0 ≤ Fld u 20 8 ∧ Fld u 20 8 < 256 := fld_bd u 20 8 8 u0 (by decide)
  go_enter Tryd.func62, Tryd.ntmps62
  go_wp2_with fail
  refine (rf_any _ _ _ u0 u1 _).mono ?_
  rintro e w' ⟨rfl, rfl⟩
  go_wp2_with fail
  go_ret
  exact ⟨ret1 (vk_9 u u0), Nw.refl _⟩
set_option maxRecDepth 100000 in
set_option maxHeartbeats 4000000 in
theorem val_10 (u : Int) (u0 : 0 ≤ u) (u1 : u < 4294967296) (w : World) : Calls Tryd.prog 62 #[.int .u32 u, .int .i64 10] w fun e w' => e = .returned (.int .i64 (oi (immT 10) (II 10 u))) ∧ Nw w w' := by
  go_enter Tryd.func62, Tryd.ntmps62
  go_wp2_with fail
  go_ret
  exact ⟨rfl, Nw.refl _⟩
set_option maxRecDepth 100000 in
set_option maxHeartbeats 4000000 in
theorem val_11 (u : Int) (u0 : 0 ≤ u) (u1 : u < 4294967296) (w : World) : Calls Tryd.prog 62 #[.int .u32 u, .int .i64 11] w fun e w' => e = .returned (.int .i64 (oi (immT 11) (II 11 u))) ∧ Nw w w' := by
  go_enter Tryd.func62, Tryd.ntmps62
  go_wp2_with fail
  go_ret
  exact ⟨rfl, Nw.refl _⟩
set_option maxRecDepth 100000 in
set_option maxHeartbeats 4000000 in
theorem val_12 (u : Int) (u0 : 0 ≤ u) (u1 : u < 4294967296) (w : World) : Calls Tryd.prog 62 #[.int .u32 u, .int .i64 12] w fun e w' => e = .returned (.int .i64 (oi (immT 12) (II 12 u))) ∧ Nw w w' := by
  go_enter Tryd.func62, Tryd.ntmps62
  go_wp2_with fail
  go_ret
  exact ⟨rfl, Nw.refl _⟩
theorem val_any (f u : Int) (f0 : 0 ≤ f) (f1 : f ≤ 12) (u0 : 0 ≤ u) (u1 : u < 4294967296) (w : World) : Calls Tryd.prog 62 #[.int .u32 u, .int .i64 f] w fun e w' => e = .returned (.int .i64 (oi (immT f) (II f u))) ∧ Nw w w' := by
  have hk : f = 0 ∨ f = 1 ∨ f = 2 ∨ f = 3 ∨ f = 4 ∨ f = 5 ∨ f = 6 ∨ f = 7 ∨ f = 8 ∨ f = 9 ∨ f = 10 ∨ f = 11 ∨ f = 12 := by omega
  rcases hk with rfl | rfl | rfl | rfl | rfl | rfl | rfl | rfl | rfl | rfl | rfl | rfl | rfl
  · exact val_0 u u0 u1 w
  · exact val_1 u u0 u1 w
  · exact val_2 u u0 u1 w
  · exact val_3 u u0 u1 w
  · exact val_4 u u0 u1 w
  · exact val_5 u u0 u1 w
  · exact val_6 u u0 u1 w
  · exact val_7 u u0 u1 w
  · exact val_8 u u0 u1 w
  · exact val_9 u u0 u1 w
  · exact val_10 u u0 u1 w
  · exact val_11 u u0 u1 w
  · exact val_12 u u0 u1 w
end Go.Proofs.YtcbaokgdpmjhgaaDoor
