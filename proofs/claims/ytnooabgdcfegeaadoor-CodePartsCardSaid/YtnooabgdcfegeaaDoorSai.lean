/-
  Proved here: which fields the code and the reference say that each form has. Conditions: the number is that of a form.
-/
import Derived.Test.YtnooabgdcfegeaaDoorSae
namespace Go.Proofs.YtnooabgdcfegeaaDoor
open Go.RowKit
set_option linter.unusedVariables false
theorem fi_0 (w : World) : Calls Tryd.prog 87 #[.int .u32 0] w fun e w' => e = .returned (.agg #[.bool false, .bool false, .bool false, .bool false, .bool false]) ∧ Nw w w' := by
  go_enter Tryd.func87, Tryd.ntmps87
  go_wp2
  exact bodyPost_ret (v := .agg #[.bool false, .bool false, .bool false, .bool false, .bool false]) (by simp [results, Tryd.results87, go_sem]) rfl ⟨rfl, by repeat (first | exact Nw.refl _ | apply Nw.alloc)⟩
theorem fi_1 (w : World) : Calls Tryd.prog 87 #[.int .u32 1048576] w fun e w' => e = .returned (.agg #[.bool true, .bool false, .bool false, .bool true, .bool false]) ∧ Nw w w' := by
  go_enter Tryd.func87, Tryd.ntmps87
  go_wp2
  exact bodyPost_ret (v := .agg #[.bool true, .bool false, .bool false, .bool true, .bool false]) (by simp [results, Tryd.results87, go_sem]) rfl ⟨rfl, by repeat (first | exact Nw.refl _ | apply Nw.alloc)⟩
theorem fi_2 (w : World) : Calls Tryd.prog 87 #[.int .u32 2097152] w fun e w' => e = .returned (.agg #[.bool true, .bool false, .bool false, .bool true, .bool false]) ∧ Nw w w' := by
  go_enter Tryd.func87, Tryd.ntmps87
  go_wp2
  exact bodyPost_ret (v := .agg #[.bool true, .bool false, .bool false, .bool true, .bool false]) (by simp [results, Tryd.results87, go_sem]) rfl ⟨rfl, by repeat (first | exact Nw.refl _ | apply Nw.alloc)⟩
theorem fi_3 (w : World) : Calls Tryd.prog 87 #[.int .u32 3145728] w fun e w' => e = .returned (.agg #[.bool true, .bool true, .bool false, .bool true, .bool false]) ∧ Nw w w' := by
  go_enter Tryd.func87, Tryd.ntmps87
  go_wp2
  exact bodyPost_ret (v := .agg #[.bool true, .bool true, .bool false, .bool true, .bool false]) (by simp [results, Tryd.results87, go_sem]) rfl ⟨rfl, by repeat (first | exact Nw.refl _ | apply Nw.alloc)⟩
theorem fi_4 (w : World) : Calls Tryd.prog 87 #[.int .u32 4194304] w fun e w' => e = .returned (.agg #[.bool false, .bool true, .bool true, .bool true, .bool false]) ∧ Nw w w' := by
  go_enter Tryd.func87, Tryd.ntmps87
  go_wp2
  exact bodyPost_ret (v := .agg #[.bool false, .bool true, .bool true, .bool true, .bool false]) (by simp [results, Tryd.results87, go_sem]) rfl ⟨rfl, by repeat (first | exact Nw.refl _ | apply Nw.alloc)⟩
theorem fi_5 (w : World) : Calls Tryd.prog 87 #[.int .u32 5242880] w fun e w' => e = .returned (.agg #[.bool false, .bool true, .bool true, .bool true, .bool false]) ∧ Nw w w' := by
  go_enter Tryd.func87, Tryd.ntmps87
  go_wp2
  exact bodyPost_ret (v := .agg #[.bool false, .bool true, .bool true, .bool true, .bool false]) (by simp [results, Tryd.results87, go_sem]) rfl ⟨rfl, by repeat (first | exact Nw.refl _ | apply Nw.alloc)⟩
theorem fi_6 (w : World) : Calls Tryd.prog 87 #[.int .u32 6291456] w fun e w' => e = .returned (.agg #[.bool true, .bool true, .bool false, .bool true, .bool false]) ∧ Nw w w' := by
  go_enter Tryd.func87, Tryd.ntmps87
  go_wp2
  exact bodyPost_ret (v := .agg #[.bool true, .bool true, .bool false, .bool true, .bool false]) (by simp [results, Tryd.results87, go_sem]) rfl ⟨rfl, by repeat (first | exact Nw.refl _ | apply Nw.alloc)⟩
theorem fi_7 (w : World) : Calls Tryd.prog 87 #[.int .u32 7340032] w fun e w' => e = .returned (.agg #[.bool true, .bool true, .bool false, .bool true, .bool false]) ∧ Nw w w' := by
  go_enter Tryd.func87, Tryd.ntmps87
  go_wp2
  exact bodyPost_ret (v := .agg #[.bool true, .bool true, .bool false, .bool true, .bool false]) (by simp [results, Tryd.results87, go_sem]) rfl ⟨rfl, by repeat (first | exact Nw.refl _ | apply Nw.alloc)⟩
theorem fi_8 (w : World) : Calls Tryd.prog 87 #[.int .u32 8388608] w fun e w' => e = .returned (.agg #[.bool true, .bool true, .bool true, .bool false, .bool false]) ∧ Nw w w' := by
  go_enter Tryd.func87, Tryd.ntmps87
  go_wp2
  exact bodyPost_ret (v := .agg #[.bool true, .bool true, .bool true, .bool false, .bool false]) (by simp [results, Tryd.results87, go_sem]) rfl ⟨rfl, by repeat (first | exact Nw.refl _ | apply Nw.alloc)⟩
theorem fi_9 (w : World) : Calls Tryd.prog 87 #[.int .u32 9437184] w fun e w' => e = .returned (.agg #[.bool false, .bool false, .bool false, .bool true, .bool false]) ∧ Nw w w' := by
  go_enter Tryd.func87, Tryd.ntmps87
  go_wp2
  exact bodyPost_ret (v := .agg #[.bool false, .bool false, .bool false, .bool true, .bool false]) (by simp [results, Tryd.results87, go_sem]) rfl ⟨rfl, by repeat (first | exact Nw.refl _ | apply Nw.alloc)⟩
theorem fi_10 (w : World) : Calls Tryd.prog 87 #[.int .u32 10485760] w fun e w' => e = .returned (.agg #[.bool false, .bool false, .bool false, .bool false, .bool false]) ∧ Nw w w' := by
  go_enter Tryd.func87, Tryd.ntmps87
  go_wp2
  exact bodyPost_ret (v := .agg #[.bool false, .bool false, .bool false, .bool false, .bool false]) (by simp [results, Tryd.results87, go_sem]) rfl ⟨rfl, by repeat (first | exact Nw.refl _ | apply Nw.alloc)⟩
theorem fi_11 (w : World) : Calls Tryd.prog 87 #[.int .u32 11534336] w fun e w' => e = .returned (.agg #[.bool true, .bool true, .bool false, .bool false, .bool true]) ∧ Nw w w' := by
  go_enter Tryd.func87, Tryd.ntmps87
  go_wp2
  exact bodyPost_ret (v := .agg #[.bool true, .bool true, .bool false, .bool false, .bool true]) (by simp [results, Tryd.results87, go_sem]) rfl ⟨rfl, by repeat (first | exact Nw.refl _ | apply Nw.alloc)⟩
theorem fi_12 (w : World) : Calls Tryd.prog 87 #[.int .u32 12582912] w fun e w' => e = .returned (.agg #[.bool true, .bool true, .bool true, .bool false, .bool true]) ∧ Nw w w' := by
  go_enter Tryd.func87, Tryd.ntmps87
  go_wp2
  exact bodyPost_ret (v := .agg #[.bool true, .bool true, .bool true, .bool false, .bool true]) (by simp [results, Tryd.results87, go_sem]) rfl ⟨rfl, by repeat (first | exact Nw.refl _ | apply Nw.alloc)⟩
end Go.Proofs.YtnooabgdcfegeaaDoor
