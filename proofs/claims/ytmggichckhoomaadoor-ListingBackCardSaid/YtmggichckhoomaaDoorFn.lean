/-
  Proved here: which fields the code and the reference say that each form has. Conditions: the number is that of a form.
-/
import Derived.Test.YtmggichckhoomaaDoorFm
namespace Go.Proofs.YtmggichckhoomaaDoor
open Go.RowKit
set_option linter.unusedVariables false
theorem fi_0 (w : World) : Calls Tryd.prog 59 #[.int .u32 0] w fun e w' => e = .returned (.agg #[.bool false, .bool false, .bool false, .bool false, .bool false]) ∧ Nw w w' := by
  go_enter Tryd.func59, Tryd.ntmps59
  go_wp2
  exact bodyPost_ret (v := .agg #[.bool false, .bool false, .bool false, .bool false, .bool false]) (by simp [results, Tryd.results59, go_sem]) rfl ⟨rfl, by repeat (first | exact Nw.refl _ | apply Nw.alloc)⟩
theorem fi_1 (w : World) : Calls Tryd.prog 59 #[.int .u32 1048576] w fun e w' => e = .returned (.agg #[.bool true, .bool false, .bool false, .bool true, .bool false]) ∧ Nw w w' := by
  go_enter Tryd.func59, Tryd.ntmps59
  go_wp2
  exact bodyPost_ret (v := .agg #[.bool true, .bool false, .bool false, .bool true, .bool false]) (by simp [results, Tryd.results59, go_sem]) rfl ⟨rfl, by repeat (first | exact Nw.refl _ | apply Nw.alloc)⟩
theorem fi_2 (w : World) : Calls Tryd.prog 59 #[.int .u32 2097152] w fun e w' => e = .returned (.agg #[.bool true, .bool false, .bool false, .bool true, .bool false]) ∧ Nw w w' := by
  go_enter Tryd.func59, Tryd.ntmps59
  go_wp2
  exact bodyPost_ret (v := .agg #[.bool true, .bool false, .bool false, .bool true, .bool false]) (by simp [results, Tryd.results59, go_sem]) rfl ⟨rfl, by repeat (first | exact Nw.refl _ | apply Nw.alloc)⟩
theorem fi_3 (w : World) : Calls Tryd.prog 59 #[.int .u32 3145728] w fun e w' => e = .returned (.agg #[.bool true, .bool true, .bool false, .bool true, .bool false]) ∧ Nw w w' := by
  go_enter Tryd.func59, Tryd.ntmps59
  go_wp2
  exact bodyPost_ret (v := .agg #[.bool true, .bool true, .bool false, .bool true, .bool false]) (by simp [results, Tryd.results59, go_sem]) rfl ⟨rfl, by repeat (first | exact Nw.refl _ | apply Nw.alloc)⟩
theorem fi_4 (w : World) : Calls Tryd.prog 59 #[.int .u32 4194304] w fun e w' => e = .returned (.agg #[.bool false, .bool true, .bool true, .bool true, .bool false]) ∧ Nw w w' := by
  go_enter Tryd.func59, Tryd.ntmps59
  go_wp2
  exact bodyPost_ret (v := .agg #[.bool false, .bool true, .bool true, .bool true, .bool false]) (by simp [results, Tryd.results59, go_sem]) rfl ⟨rfl, by repeat (first | exact Nw.refl _ | apply Nw.alloc)⟩
theorem fi_5 (w : World) : Calls Tryd.prog 59 #[.int .u32 5242880] w fun e w' => e = .returned (.agg #[.bool false, .bool true, .bool true, .bool true, .bool false]) ∧ Nw w w' := by
  go_enter Tryd.func59, Tryd.ntmps59
  go_wp2
  exact bodyPost_ret (v := .agg #[.bool false, .bool true, .bool true, .bool true, .bool false]) (by simp [results, Tryd.results59, go_sem]) rfl ⟨rfl, by repeat (first | exact Nw.refl _ | apply Nw.alloc)⟩
theorem fi_6 (w : World) : Calls Tryd.prog 59 #[.int .u32 6291456] w fun e w' => e = .returned (.agg #[.bool true, .bool true, .bool false, .bool true, .bool false]) ∧ Nw w w' := by
  go_enter Tryd.func59, Tryd.ntmps59
  go_wp2
  exact bodyPost_ret (v := .agg #[.bool true, .bool true, .bool false, .bool true, .bool false]) (by simp [results, Tryd.results59, go_sem]) rfl ⟨rfl, by repeat (first | exact Nw.refl _ | apply Nw.alloc)⟩
theorem fi_7 (w : World) : Calls Tryd.prog 59 #[.int .u32 7340032] w fun e w' => e = .returned (.agg #[.bool true, .bool true, .bool false, .bool true, .bool false]) ∧ Nw w w' := by
  go_enter Tryd.func59, Tryd.ntmps59
  go_wp2
  exact bodyPost_ret (v := .agg #[.bool true, .bool true, .bool false, .bool true, .bool false]) (by simp [results, Tryd.results59, go_sem]) rfl ⟨rfl, by repeat (first | exact Nw.refl _ | apply Nw.alloc)⟩
theorem fi_8 (w : World) : Calls Tryd.prog 59 #[.int .u32 8388608] w fun e w' => e = .returned (.agg #[.bool true, .bool true, .bool true, .bool false, .bool false]) ∧ Nw w w' := by
  go_enter Tryd.func59, Tryd.ntmps59
  go_wp2
  exact bodyPost_ret (v := .agg #[.bool true, .bool true, .bool true, .bool false, .bool false]) (by simp [results, Tryd.results59, go_sem]) rfl ⟨rfl, by repeat (first | exact Nw.refl _ | apply Nw.alloc)⟩
theorem fi_9 (w : World) : Calls Tryd.prog 59 #[.int .u32 9437184] w fun e w' => e = .returned (.agg #[.bool false, .bool false, .bool false, .bool true, .bool false]) ∧ Nw w w' := by
  go_enter Tryd.func59, Tryd.ntmps59
  go_wp2
  exact bodyPost_ret (v := .agg #[.bool false, .bool false, .bool false, .bool true, .bool false]) (by simp [results, Tryd.results59, go_sem]) rfl ⟨rfl, by repeat (first | exact Nw.refl _ | apply Nw.alloc)⟩
theorem fi_10 (w : World) : Calls Tryd.prog 59 #[.int .u32 10485760] w fun e w' => e = .returned (.agg #[.bool false, .bool false, .bool false, .bool false, .bool false]) ∧ Nw w w' := by
  go_enter Tryd.func59, Tryd.ntmps59
  go_wp2
  exact bodyPost_ret (v := .agg #[.bool false, .bool false, .bool false, .bool false, .bool false]) (by simp [results, Tryd.results59, go_sem]) rfl ⟨rfl, by repeat (first | exact Nw.refl _ | apply Nw.alloc)⟩
theorem fi_11 (w : World) : Calls Tryd.prog 59 #[.int .u32 11534336] w fun e w' => e = .returned (.agg #[.bool true, .bool true, .bool false, .bool false, .bool true]) ∧ Nw w w' := by
  go_enter Tryd.func59, Tryd.ntmps59
  go_wp2
  exact bodyPost_ret (v := .agg #[.bool true, .bool true, .bool false, .bool false, .bool true]) (by simp [results, Tryd.results59, go_sem]) rfl ⟨rfl, by repeat (first | exact Nw.refl _ | apply Nw.alloc)⟩
theorem fi_12 (w : World) : Calls Tryd.prog 59 #[.int .u32 12582912] w fun e w' => e = .returned (.agg #[.bool true, .bool true, .bool true, .bool false, .bool true]) ∧ Nw w w' := by
  go_enter Tryd.func59, Tryd.ntmps59
  go_wp2
  exact bodyPost_ret (v := .agg #[.bool true, .bool true, .bool true, .bool false, .bool true]) (by simp [results, Tryd.results59, go_sem]) rfl ⟨rfl, by repeat (first | exact Nw.refl _ | apply Nw.alloc)⟩
theorem fi_any (f : Int) (h0 : 0 ≤ f) (h1 : f ≤ 12) (w : World) : Calls Tryd.prog 59 #[.int .u32 (1048576 * f)] w fun e w' => e = .returned (.agg #[.bool (rdT f), .bool (rs1T f), .bool (rs2T f), .bool (immT f), .bool (ordT f)]) ∧ Nw w w' := by
  obtain ⟨n, rfl⟩ := Int.eq_ofNat_of_zero_le h0
  match n, h1 with
  | 0, _ => exact fi_0 w
  | 1, _ => exact fi_1 w
  | 2, _ => exact fi_2 w
  | 3, _ => exact fi_3 w
  | 4, _ => exact fi_4 w
  | 5, _ => exact fi_5 w
  | 6, _ => exact fi_6 w
  | 7, _ => exact fi_7 w
  | 8, _ => exact fi_8 w
  | 9, _ => exact fi_9 w
  | 10, _ => exact fi_10 w
  | 11, _ => exact fi_11 w
  | 12, _ => exact fi_12 w
  | n + 13, h => exact absurd h (by omega)
theorem hs_0 (w : World) : Calls Tryd.prog 28 #[.int .i64 0] w fun e w' => e = .returned (.agg #[.bool false, .bool false, .bool false, .bool false, .bool false]) ∧ Nw w w' := by
  go_enter Tryd.func28, Tryd.ntmps28
  go_wp2
  exact bodyPost_ret (v := .agg #[.bool false, .bool false, .bool false, .bool false, .bool false]) (by simp [results, Tryd.results28, go_sem]) rfl ⟨rfl, by repeat (first | exact Nw.refl _ | apply Nw.alloc)⟩
theorem hs_1 (w : World) : Calls Tryd.prog 28 #[.int .i64 1] w fun e w' => e = .returned (.agg #[.bool true, .bool false, .bool false, .bool true, .bool false]) ∧ Nw w w' := by
  go_enter Tryd.func28, Tryd.ntmps28
  go_wp2
  exact bodyPost_ret (v := .agg #[.bool true, .bool false, .bool false, .bool true, .bool false]) (by simp [results, Tryd.results28, go_sem]) rfl ⟨rfl, by repeat (first | exact Nw.refl _ | apply Nw.alloc)⟩
theorem hs_2 (w : World) : Calls Tryd.prog 28 #[.int .i64 2] w fun e w' => e = .returned (.agg #[.bool true, .bool false, .bool false, .bool true, .bool false]) ∧ Nw w w' := by
  go_enter Tryd.func28, Tryd.ntmps28
  go_wp2
  exact bodyPost_ret (v := .agg #[.bool true, .bool false, .bool false, .bool true, .bool false]) (by simp [results, Tryd.results28, go_sem]) rfl ⟨rfl, by repeat (first | exact Nw.refl _ | apply Nw.alloc)⟩
theorem hs_3 (w : World) : Calls Tryd.prog 28 #[.int .i64 3] w fun e w' => e = .returned (.agg #[.bool true, .bool true, .bool false, .bool true, .bool false]) ∧ Nw w w' := by
  go_enter Tryd.func28, Tryd.ntmps28
  go_wp2
  exact bodyPost_ret (v := .agg #[.bool true, .bool true, .bool false, .bool true, .bool false]) (by simp [results, Tryd.results28, go_sem]) rfl ⟨rfl, by repeat (first | exact Nw.refl _ | apply Nw.alloc)⟩
theorem hs_4 (w : World) : Calls Tryd.prog 28 #[.int .i64 4] w fun e w' => e = .returned (.agg #[.bool false, .bool true, .bool true, .bool true, .bool false]) ∧ Nw w w' := by
  go_enter Tryd.func28, Tryd.ntmps28
  go_wp2
  exact bodyPost_ret (v := .agg #[.bool false, .bool true, .bool true, .bool true, .bool false]) (by simp [results, Tryd.results28, go_sem]) rfl ⟨rfl, by repeat (first | exact Nw.refl _ | apply Nw.alloc)⟩
theorem hs_5 (w : World) : Calls Tryd.prog 28 #[.int .i64 5] w fun e w' => e = .returned (.agg #[.bool false, .bool true, .bool true, .bool true, .bool false]) ∧ Nw w w' := by
  go_enter Tryd.func28, Tryd.ntmps28
  go_wp2
  exact bodyPost_ret (v := .agg #[.bool false, .bool true, .bool true, .bool true, .bool false]) (by simp [results, Tryd.results28, go_sem]) rfl ⟨rfl, by repeat (first | exact Nw.refl _ | apply Nw.alloc)⟩
theorem hs_6 (w : World) : Calls Tryd.prog 28 #[.int .i64 6] w fun e w' => e = .returned (.agg #[.bool true, .bool true, .bool false, .bool true, .bool false]) ∧ Nw w w' := by
  go_enter Tryd.func28, Tryd.ntmps28
  go_wp2
  exact bodyPost_ret (v := .agg #[.bool true, .bool true, .bool false, .bool true, .bool false]) (by simp [results, Tryd.results28, go_sem]) rfl ⟨rfl, by repeat (first | exact Nw.refl _ | apply Nw.alloc)⟩
theorem hs_7 (w : World) : Calls Tryd.prog 28 #[.int .i64 7] w fun e w' => e = .returned (.agg #[.bool true, .bool true, .bool false, .bool true, .bool false]) ∧ Nw w w' := by
  go_enter Tryd.func28, Tryd.ntmps28
  go_wp2
  exact bodyPost_ret (v := .agg #[.bool true, .bool true, .bool false, .bool true, .bool false]) (by simp [results, Tryd.results28, go_sem]) rfl ⟨rfl, by repeat (first | exact Nw.refl _ | apply Nw.alloc)⟩
theorem hs_8 (w : World) : Calls Tryd.prog 28 #[.int .i64 8] w fun e w' => e = .returned (.agg #[.bool true, .bool true, .bool true, .bool false, .bool false]) ∧ Nw w w' := by
  go_enter Tryd.func28, Tryd.ntmps28
  go_wp2
  exact bodyPost_ret (v := .agg #[.bool true, .bool true, .bool true, .bool false, .bool false]) (by simp [results, Tryd.results28, go_sem]) rfl ⟨rfl, by repeat (first | exact Nw.refl _ | apply Nw.alloc)⟩
theorem hs_9 (w : World) : Calls Tryd.prog 28 #[.int .i64 9] w fun e w' => e = .returned (.agg #[.bool false, .bool false, .bool false, .bool true, .bool false]) ∧ Nw w w' := by
  go_enter Tryd.func28, Tryd.ntmps28
  go_wp2
  exact bodyPost_ret (v := .agg #[.bool false, .bool false, .bool false, .bool true, .bool false]) (by simp [results, Tryd.results28, go_sem]) rfl ⟨rfl, by repeat (first | exact Nw.refl _ | apply Nw.alloc)⟩
theorem hs_10 (w : World) : Calls Tryd.prog 28 #[.int .i64 10] w fun e w' => e = .returned (.agg #[.bool false, .bool false, .bool false, .bool false, .bool false]) ∧ Nw w w' := by
  go_enter Tryd.func28, Tryd.ntmps28
  go_wp2
  exact bodyPost_ret (v := .agg #[.bool false, .bool false, .bool false, .bool false, .bool false]) (by simp [results, Tryd.results28, go_sem]) rfl ⟨rfl, by repeat (first | exact Nw.refl _ | apply Nw.alloc)⟩
theorem hs_11 (w : World) : Calls Tryd.prog 28 #[.int .i64 11] w fun e w' => e = .returned (.agg #[.bool true, .bool true, .bool false, .bool false, .bool true]) ∧ Nw w w' := by
  go_enter Tryd.func28, Tryd.ntmps28
  go_wp2
  exact bodyPost_ret (v := .agg #[.bool true, .bool true, .bool false, .bool false, .bool true]) (by simp [results, Tryd.results28, go_sem]) rfl ⟨rfl, by repeat (first | exact Nw.refl _ | apply Nw.alloc)⟩
theorem hs_12 (w : World) : Calls Tryd.prog 28 #[.int .i64 12] w fun e w' => e = .returned (.agg #[.bool true, .bool true, .bool true, .bool false, .bool true]) ∧ Nw w w' := by
  go_enter Tryd.func28, Tryd.ntmps28
  go_wp2
  exact bodyPost_ret (v := .agg #[.bool true, .bool true, .bool true, .bool false, .bool true]) (by simp [results, Tryd.results28, go_sem]) rfl ⟨rfl, by repeat (first | exact Nw.refl _ | apply Nw.alloc)⟩
theorem hs_any (f : Int) (h0 : 0 ≤ f) (h1 : f ≤ 12) (w : World) : Calls Tryd.prog 28 #[.int .i64 f] w fun e w' => e = .returned (.agg #[.bool (rdT f), .bool (rs1T f), .bool (rs2T f), .bool (immT f), .bool (ordT f)]) ∧ Nw w w' := by
  obtain ⟨n, rfl⟩ := Int.eq_ofNat_of_zero_le h0
  match n, h1 with
  | 0, _ => exact hs_0 w
  | 1, _ => exact hs_1 w
  | 2, _ => exact hs_2 w
  | 3, _ => exact hs_3 w
  | 4, _ => exact hs_4 w
  | 5, _ => exact hs_5 w
  | 6, _ => exact hs_6 w
  | 7, _ => exact hs_7 w
  | 8, _ => exact hs_8 w
  | 9, _ => exact hs_9 w
  | 10, _ => exact hs_10 w
  | 11, _ => exact hs_11 w
  | 12, _ => exact hs_12 w
  | n + 13, h => exact absurd h (by omega)
end Go.Proofs.YtmggichckhoomaaDoor
