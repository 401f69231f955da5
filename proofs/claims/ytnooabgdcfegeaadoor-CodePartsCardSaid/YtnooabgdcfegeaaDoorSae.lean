/-
  Proved here: what the code and the reference have of each form: where its parts stand, which fields it has. Conditions: the number is that of a form.
-/
import Derived.Test.YtnooabgdcfegeaaDoorSad
namespace Go.Proofs.YtnooabgdcfegeaaDoor
open Go.RowKit
set_option linter.unusedVariables false
/-- A piece: from, n, to. -/
abbrev P3 := Int × Int × Int
def f3T (f : Int) : P3 := ([(0, 3, 12), (0, 0, 0), (0, 0, 0), (0, 3, 12), (0, 3, 12), (0, 3, 12), (0, 3, 12), (0, 3, 12), (0, 3, 12), (0, 0, 0), (0, 0, 0), (0, 3, 12), (0, 3, 12)] : List (P3)).getD f.toNat (0, 0, 0)
def f7T (f : Int) : P3 := ([(0, 0, 0), (0, 0, 0), (0, 0, 0), (0, 0, 0), (0, 0, 0), (0, 0, 0), (1, 6, 26), (0, 7, 25), (0, 7, 25), (0, 0, 0), (0, 12, 20), (0, 5, 27), (0, 5, 27)] : List (P3)).getD f.toNat (0, 0, 0)
def im0T (f : Int) : P3 := ([(0, 0, 0), (12, 20, 12), (20, 1, 31), (0, 12, 20), (12, 1, 31), (5, 7, 25), (0, 6, 20), (0, 5, 20), (0, 0, 0), (0, 8, 20), (0, 0, 0), (0, 0, 0), (0, 0, 0)] : List (P3)).getD f.toNat (0, 0, 0)
def im1T (f : Int) : P3 := ([(0, 0, 0), (0, 0, 0), (1, 10, 21), (0, 0, 0), (5, 6, 25), (0, 5, 7), (0, 0, 0), (0, 0, 0), (0, 0, 0), (0, 0, 0), (0, 0, 0), (0, 0, 0), (0, 0, 0)] : List (P3)).getD f.toNat (0, 0, 0)
def im2T (f : Int) : P3 := ([(0, 0, 0), (0, 0, 0), (11, 1, 20), (0, 0, 0), (1, 4, 8), (0, 0, 0), (0, 0, 0), (0, 0, 0), (0, 0, 0), (0, 0, 0), (0, 0, 0), (0, 0, 0), (0, 0, 0)] : List (P3)).getD f.toNat (0, 0, 0)
def im3T (f : Int) : P3 := ([(0, 0, 0), (0, 0, 0), (12, 8, 12), (0, 0, 0), (11, 1, 7), (0, 0, 0), (0, 0, 0), (0, 0, 0), (0, 0, 0), (0, 0, 0), (0, 0, 0), (0, 0, 0), (0, 0, 0)] : List (P3)).getD f.toNat (0, 0, 0)
def rdT (f : Int) : Bool := ([false, true, true, true, false, false, true, true, true, false, false, true, true] : List (Bool)).getD f.toNat false
def rs1T (f : Int) : Bool := ([false, false, false, true, true, true, true, true, true, false, false, true, true] : List (Bool)).getD f.toNat false
def rs2T (f : Int) : Bool := ([false, false, false, false, true, true, false, false, true, false, false, false, true] : List (Bool)).getD f.toNat false
def immT (f : Int) : Bool := ([false, true, true, true, true, true, true, true, false, true, false, false, false] : List (Bool)).getD f.toNat false
def ordT (f : Int) : Bool := ([false, false, false, false, false, false, false, false, false, false, false, true, true] : List (Bool)).getD f.toNat false
theorem f3_0 (w : World) : Calls Tryd.prog 81 #[.int .u32 0] w fun e w' => e = .returned (.agg #[.int .i64 0, .int .i64 3, .int .i64 12]) ∧ Nw w w' := by
  go_enter Tryd.func81, Tryd.ntmps81
  go_wp2
  exact bodyPost_ret (v := .agg #[.int .i64 0, .int .i64 3, .int .i64 12]) (by simp [results, Tryd.results81, go_sem]) rfl ⟨rfl, by repeat (first | exact Nw.refl _ | apply Nw.alloc)⟩
theorem f3_1 (w : World) : Calls Tryd.prog 81 #[.int .u32 1048576] w fun e w' => e = .returned (.agg #[.int .i64 0, .int .i64 0, .int .i64 0]) ∧ Nw w w' := by
  go_enter Tryd.func81, Tryd.ntmps81
  go_wp2
  exact bodyPost_ret (v := .agg #[.int .i64 0, .int .i64 0, .int .i64 0]) (by simp [results, Tryd.results81, go_sem]) rfl ⟨rfl, by repeat (first | exact Nw.refl _ | apply Nw.alloc)⟩
theorem f3_2 (w : World) : Calls Tryd.prog 81 #[.int .u32 2097152] w fun e w' => e = .returned (.agg #[.int .i64 0, .int .i64 0, .int .i64 0]) ∧ Nw w w' := by
  go_enter Tryd.func81, Tryd.ntmps81
  go_wp2
  exact bodyPost_ret (v := .agg #[.int .i64 0, .int .i64 0, .int .i64 0]) (by simp [results, Tryd.results81, go_sem]) rfl ⟨rfl, by repeat (first | exact Nw.refl _ | apply Nw.alloc)⟩
theorem f3_3 (w : World) : Calls Tryd.prog 81 #[.int .u32 3145728] w fun e w' => e = .returned (.agg #[.int .i64 0, .int .i64 3, .int .i64 12]) ∧ Nw w w' := by
  go_enter Tryd.func81, Tryd.ntmps81
  go_wp2
  exact bodyPost_ret (v := .agg #[.int .i64 0, .int .i64 3, .int .i64 12]) (by simp [results, Tryd.results81, go_sem]) rfl ⟨rfl, by repeat (first | exact Nw.refl _ | apply Nw.alloc)⟩
theorem f3_4 (w : World) : Calls Tryd.prog 81 #[.int .u32 4194304] w fun e w' => e = .returned (.agg #[.int .i64 0, .int .i64 3, .int .i64 12]) ∧ Nw w w' := by
  go_enter Tryd.func81, Tryd.ntmps81
  go_wp2
  exact bodyPost_ret (v := .agg #[.int .i64 0, .int .i64 3, .int .i64 12]) (by simp [results, Tryd.results81, go_sem]) rfl ⟨rfl, by repeat (first | exact Nw.refl _ | apply Nw.alloc)⟩
theorem f3_5 (w : World) : Calls Tryd.prog 81 #[.int .u32 5242880] w fun e w' => e = .returned (.agg #[.int .i64 0, .int .i64 3, .int .i64 12]) ∧ Nw w w' := by
  go_enter Tryd.func81, Tryd.ntmps81
  go_wp2
  exact bodyPost_ret (v := .agg #[.int .i64 0, .int .i64 3, .int .i64 12]) (by simp [results, Tryd.results81, go_sem]) rfl ⟨rfl, by repeat (first | exact Nw.refl _ | apply Nw.alloc)⟩
theorem f3_6 (w : World) : Calls Tryd.prog 81 #[.int .u32 6291456] w fun e w' => e = .returned (.agg #[.int .i64 0, .int .i64 3, .int .i64 12]) ∧ Nw w w' := by
  go_enter Tryd.func81, Tryd.ntmps81
  go_wp2
  exact bodyPost_ret (v := .agg #[.int .i64 0, .int .i64 3, .int .i64 12]) (by simp [results, Tryd.results81, go_sem]) rfl ⟨rfl, by repeat (first | exact Nw.refl _ | apply Nw.alloc)⟩
theorem f3_7 (w : World) : Calls Tryd.prog 81 #[.int .u32 7340032] w fun e w' => e = .returned (.agg #[.int .i64 0, .int .i64 3, .int .i64 12]) ∧ Nw w w' := by
  go_enter Tryd.func81, Tryd.ntmps81
  go_wp2
  exact bodyPost_ret (v := .agg #[.int .i64 0, .int .i64 3, .int .i64 12]) (by simp [results, Tryd.results81, go_sem]) rfl ⟨rfl, by repeat (first | exact Nw.refl _ | apply Nw.alloc)⟩
theorem f3_8 (w : World) : Calls Tryd.prog 81 #[.int .u32 8388608] w fun e w' => e = .returned (.agg #[.int .i64 0, .int .i64 3, .int .i64 12]) ∧ Nw w w' := by
  go_enter Tryd.func81, Tryd.ntmps81
  go_wp2
  exact bodyPost_ret (v := .agg #[.int .i64 0, .int .i64 3, .int .i64 12]) (by simp [results, Tryd.results81, go_sem]) rfl ⟨rfl, by repeat (first | exact Nw.refl _ | apply Nw.alloc)⟩
theorem f3_9 (w : World) : Calls Tryd.prog 81 #[.int .u32 9437184] w fun e w' => e = .returned (.agg #[.int .i64 0, .int .i64 0, .int .i64 0]) ∧ Nw w w' := by
  go_enter Tryd.func81, Tryd.ntmps81
  go_wp2
  exact bodyPost_ret (v := .agg #[.int .i64 0, .int .i64 0, .int .i64 0]) (by simp [results, Tryd.results81, go_sem]) rfl ⟨rfl, by repeat (first | exact Nw.refl _ | apply Nw.alloc)⟩
theorem f3_10 (w : World) : Calls Tryd.prog 81 #[.int .u32 10485760] w fun e w' => e = .returned (.agg #[.int .i64 0, .int .i64 0, .int .i64 0]) ∧ Nw w w' := by
  go_enter Tryd.func81, Tryd.ntmps81
  go_wp2
  exact bodyPost_ret (v := .agg #[.int .i64 0, .int .i64 0, .int .i64 0]) (by simp [results, Tryd.results81, go_sem]) rfl ⟨rfl, by repeat (first | exact Nw.refl _ | apply Nw.alloc)⟩
theorem f3_11 (w : World) : Calls Tryd.prog 81 #[.int .u32 11534336] w fun e w' => e = .returned (.agg #[.int .i64 0, .int .i64 3, .int .i64 12]) ∧ Nw w w' := by
  go_enter Tryd.func81, Tryd.ntmps81
  go_wp2
  exact bodyPost_ret (v := .agg #[.int .i64 0, .int .i64 3, .int .i64 12]) (by simp [results, Tryd.results81, go_sem]) rfl ⟨rfl, by repeat (first | exact Nw.refl _ | apply Nw.alloc)⟩
theorem f3_12 (w : World) : Calls Tryd.prog 81 #[.int .u32 12582912] w fun e w' => e = .returned (.agg #[.int .i64 0, .int .i64 3, .int .i64 12]) ∧ Nw w w' := by
  go_enter Tryd.func81, Tryd.ntmps81
  go_wp2
  exact bodyPost_ret (v := .agg #[.int .i64 0, .int .i64 3, .int .i64 12]) (by simp [results, Tryd.results81, go_sem]) rfl ⟨rfl, by repeat (first | exact Nw.refl _ | apply Nw.alloc)⟩
theorem f3_any (f : Int) (h0 : 0 ≤ f) (h1 : f ≤ 12) (w : World) : Calls Tryd.prog 81 #[.int .u32 (1048576 * f)] w fun e w' => e = .returned (.agg #[.int .i64 (f3T f).1, .int .i64 (f3T f).2.1, .int .i64 (f3T f).2.2]) ∧ Nw w w' := by
  obtain ⟨n, rfl⟩ := Int.eq_ofNat_of_zero_le h0
  match n, h1 with
  | 0, _ => exact f3_0 w
  | 1, _ => exact f3_1 w
  | 2, _ => exact f3_2 w
  | 3, _ => exact f3_3 w
  | 4, _ => exact f3_4 w
  | 5, _ => exact f3_5 w
  | 6, _ => exact f3_6 w
  | 7, _ => exact f3_7 w
  | 8, _ => exact f3_8 w
  | 9, _ => exact f3_9 w
  | 10, _ => exact f3_10 w
  | 11, _ => exact f3_11 w
  | 12, _ => exact f3_12 w
  | n + 13, h => exact absurd h (by omega)
theorem f7_0 (w : World) : Calls Tryd.prog 83 #[.int .u32 0] w fun e w' => e = .returned (.agg #[.int .i64 0, .int .i64 0, .int .i64 0]) ∧ Nw w w' := by
  go_enter Tryd.func83, Tryd.ntmps83
  go_wp2
  exact bodyPost_ret (v := .agg #[.int .i64 0, .int .i64 0, .int .i64 0]) (by simp [results, Tryd.results83, go_sem]) rfl ⟨rfl, by repeat (first | exact Nw.refl _ | apply Nw.alloc)⟩
theorem f7_1 (w : World) : Calls Tryd.prog 83 #[.int .u32 1048576] w fun e w' => e = .returned (.agg #[.int .i64 0, .int .i64 0, .int .i64 0]) ∧ Nw w w' := by
  go_enter Tryd.func83, Tryd.ntmps83
  go_wp2
  exact bodyPost_ret (v := .agg #[.int .i64 0, .int .i64 0, .int .i64 0]) (by simp [results, Tryd.results83, go_sem]) rfl ⟨rfl, by repeat (first | exact Nw.refl _ | apply Nw.alloc)⟩
theorem f7_2 (w : World) : Calls Tryd.prog 83 #[.int .u32 2097152] w fun e w' => e = .returned (.agg #[.int .i64 0, .int .i64 0, .int .i64 0]) ∧ Nw w w' := by
  go_enter Tryd.func83, Tryd.ntmps83
  go_wp2
  exact bodyPost_ret (v := .agg #[.int .i64 0, .int .i64 0, .int .i64 0]) (by simp [results, Tryd.results83, go_sem]) rfl ⟨rfl, by repeat (first | exact Nw.refl _ | apply Nw.alloc)⟩
theorem f7_3 (w : World) : Calls Tryd.prog 83 #[.int .u32 3145728] w fun e w' => e = .returned (.agg #[.int .i64 0, .int .i64 0, .int .i64 0]) ∧ Nw w w' := by
  go_enter Tryd.func83, Tryd.ntmps83
  go_wp2
  exact bodyPost_ret (v := .agg #[.int .i64 0, .int .i64 0, .int .i64 0]) (by simp [results, Tryd.results83, go_sem]) rfl ⟨rfl, by repeat (first | exact Nw.refl _ | apply Nw.alloc)⟩
theorem f7_4 (w : World) : Calls Tryd.prog 83 #[.int .u32 4194304] w fun e w' => e = .returned (.agg #[.int .i64 0, .int .i64 0, .int .i64 0]) ∧ Nw w w' := by
  go_enter Tryd.func83, Tryd.ntmps83
  go_wp2
  exact bodyPost_ret (v := .agg #[.int .i64 0, .int .i64 0, .int .i64 0]) (by simp [results, Tryd.results83, go_sem]) rfl ⟨rfl, by repeat (first | exact Nw.refl _ | apply Nw.alloc)⟩
theorem f7_5 (w : World) : Calls Tryd.prog 83 #[.int .u32 5242880] w fun e w' => e = .returned (.agg #[.int .i64 0, .int .i64 0, .int .i64 0]) ∧ Nw w w' := by
  go_enter Tryd.func83, Tryd.ntmps83
  go_wp2
  exact bodyPost_ret (v := .agg #[.int .i64 0, .int .i64 0, .int .i64 0]) (by simp [results, Tryd.results83, go_sem]) rfl ⟨rfl, by repeat (first | exact Nw.refl _ | apply Nw.alloc)⟩
theorem f7_6 (w : World) : Calls Tryd.prog 83 #[.int .u32 6291456] w fun e w' => e = .returned (.agg #[.int .i64 1, .int .i64 6, .int .i64 26]) ∧ Nw w w' := by
  go_enter Tryd.func83, Tryd.ntmps83
  go_wp2
  exact bodyPost_ret (v := .agg #[.int .i64 1, .int .i64 6, .int .i64 26]) (by simp [results, Tryd.results83, go_sem]) rfl ⟨rfl, by repeat (first | exact Nw.refl _ | apply Nw.alloc)⟩
theorem f7_7 (w : World) : Calls Tryd.prog 83 #[.int .u32 7340032] w fun e w' => e = .returned (.agg #[.int .i64 0, .int .i64 7, .int .i64 25]) ∧ Nw w w' := by
  go_enter Tryd.func83, Tryd.ntmps83
  go_wp2
  exact bodyPost_ret (v := .agg #[.int .i64 0, .int .i64 7, .int .i64 25]) (by simp [results, Tryd.results83, go_sem]) rfl ⟨rfl, by repeat (first | exact Nw.refl _ | apply Nw.alloc)⟩
theorem f7_8 (w : World) : Calls Tryd.prog 83 #[.int .u32 8388608] w fun e w' => e = .returned (.agg #[.int .i64 0, .int .i64 7, .int .i64 25]) ∧ Nw w w' := by
  go_enter Tryd.func83, Tryd.ntmps83
  go_wp2
  exact bodyPost_ret (v := .agg #[.int .i64 0, .int .i64 7, .int .i64 25]) (by simp [results, Tryd.results83, go_sem]) rfl ⟨rfl, by repeat (first | exact Nw.refl _ | apply Nw.alloc)⟩
theorem f7_9 (w : World) : Calls Tryd.prog 83 #[.int .u32 9437184] w fun e w' => e = .returned (.agg #[.int .i64 0, .int .i64 0, .int .i64 0]) ∧ Nw w w' := by
  go_enter Tryd.func83, Tryd.ntmps83
  go_wp2
  exact bodyPost_ret (v := .agg #[.int .i64 0, .int .i64 0, .int .i64 0]) (by simp [results, Tryd.results83, go_sem]) rfl ⟨rfl, by repeat (first | exact Nw.refl _ | apply Nw.alloc)⟩
theorem f7_10 (w : World) : Calls Tryd.prog 83 #[.int .u32 10485760] w fun e w' => e = .returned (.agg #[.int .i64 0, .int .i64 12, .int .i64 20]) ∧ Nw w w' := by
  go_enter Tryd.func83, Tryd.ntmps83
  go_wp2
  exact bodyPost_ret (v := .agg #[.int .i64 0, .int .i64 12, .int .i64 20]) (by simp [results, Tryd.results83, go_sem]) rfl ⟨rfl, by repeat (first | exact Nw.refl _ | apply Nw.alloc)⟩
theorem f7_11 (w : World) : Calls Tryd.prog 83 #[.int .u32 11534336] w fun e w' => e = .returned (.agg #[.int .i64 0, .int .i64 5, .int .i64 27]) ∧ Nw w w' := by
  go_enter Tryd.func83, Tryd.ntmps83
  go_wp2
  exact bodyPost_ret (v := .agg #[.int .i64 0, .int .i64 5, .int .i64 27]) (by simp [results, Tryd.results83, go_sem]) rfl ⟨rfl, by repeat (first | exact Nw.refl _ | apply Nw.alloc)⟩
theorem f7_12 (w : World) : Calls Tryd.prog 83 #[.int .u32 12582912] w fun e w' => e = .returned (.agg #[.int .i64 0, .int .i64 5, .int .i64 27]) ∧ Nw w w' := by
  go_enter Tryd.func83, Tryd.ntmps83
  go_wp2
  exact bodyPost_ret (v := .agg #[.int .i64 0, .int .i64 5, .int .i64 27]) (by simp [results, Tryd.results83, go_sem]) rfl ⟨rfl, by repeat (first | exact Nw.refl _ | apply Nw.alloc)⟩
theorem f7_any (f : Int) (h0 : 0 ≤ f) (h1 : f ≤ 12) (w : World) : Calls Tryd.prog 83 #[.int .u32 (1048576 * f)] w fun e w' => e = .returned (.agg #[.int .i64 (f7T f).1, .int .i64 (f7T f).2.1, .int .i64 (f7T f).2.2]) ∧ Nw w w' := by
  obtain ⟨n, rfl⟩ := Int.eq_ofNat_of_zero_le h0
  match n, h1 with
  | 0, _ => exact f7_0 w
  | 1, _ => exact f7_1 w
  | 2, _ => exact f7_2 w
  | 3, _ => exact f7_3 w
  | 4, _ => exact f7_4 w
  | 5, _ => exact f7_5 w
  | 6, _ => exact f7_6 w
  | 7, _ => exact f7_7 w
  | 8, _ => exact f7_8 w
  | 9, _ => exact f7_9 w
  | 10, _ => exact f7_10 w
  | 11, _ => exact f7_11 w
  | 12, _ => exact f7_12 w
  | n + 13, h => exact absurd h (by omega)
theorem im_0 (w : World) : Calls Tryd.prog 85 #[.int .u32 0] w fun e w' => e = .returned (.agg #[.int .i64 0, .int .i64 0, .int .i64 0, .int .i64 0, .int .i64 0, .int .i64 0, .int .i64 0, .int .i64 0, .int .i64 0, .int .i64 0, .int .i64 0, .int .i64 0]) ∧ Nw w w' := by
  go_enter Tryd.func85, Tryd.ntmps85
  go_wp2
  exact bodyPost_ret (v := .agg #[.int .i64 0, .int .i64 0, .int .i64 0, .int .i64 0, .int .i64 0, .int .i64 0, .int .i64 0, .int .i64 0, .int .i64 0, .int .i64 0, .int .i64 0, .int .i64 0]) (by simp [results, Tryd.results85, go_sem]) rfl ⟨rfl, by repeat (first | exact Nw.refl _ | apply Nw.alloc)⟩
theorem im_1 (w : World) : Calls Tryd.prog 85 #[.int .u32 1048576] w fun e w' => e = .returned (.agg #[.int .i64 12, .int .i64 20, .int .i64 12, .int .i64 0, .int .i64 0, .int .i64 0, .int .i64 0, .int .i64 0, .int .i64 0, .int .i64 0, .int .i64 0, .int .i64 0]) ∧ Nw w w' := by
  go_enter Tryd.func85, Tryd.ntmps85
  go_wp2
  exact bodyPost_ret (v := .agg #[.int .i64 12, .int .i64 20, .int .i64 12, .int .i64 0, .int .i64 0, .int .i64 0, .int .i64 0, .int .i64 0, .int .i64 0, .int .i64 0, .int .i64 0, .int .i64 0]) (by simp [results, Tryd.results85, go_sem]) rfl ⟨rfl, by repeat (first | exact Nw.refl _ | apply Nw.alloc)⟩
theorem im_2 (w : World) : Calls Tryd.prog 85 #[.int .u32 2097152] w fun e w' => e = .returned (.agg #[.int .i64 20, .int .i64 1, .int .i64 31, .int .i64 1, .int .i64 10, .int .i64 21, .int .i64 11, .int .i64 1, .int .i64 20, .int .i64 12, .int .i64 8, .int .i64 12]) ∧ Nw w w' := by
  go_enter Tryd.func85, Tryd.ntmps85
  go_wp2
  exact bodyPost_ret (v := .agg #[.int .i64 20, .int .i64 1, .int .i64 31, .int .i64 1, .int .i64 10, .int .i64 21, .int .i64 11, .int .i64 1, .int .i64 20, .int .i64 12, .int .i64 8, .int .i64 12]) (by simp [results, Tryd.results85, go_sem]) rfl ⟨rfl, by repeat (first | exact Nw.refl _ | apply Nw.alloc)⟩
theorem im_3 (w : World) : Calls Tryd.prog 85 #[.int .u32 3145728] w fun e w' => e = .returned (.agg #[.int .i64 0, .int .i64 12, .int .i64 20, .int .i64 0, .int .i64 0, .int .i64 0, .int .i64 0, .int .i64 0, .int .i64 0, .int .i64 0, .int .i64 0, .int .i64 0]) ∧ Nw w w' := by
  go_enter Tryd.func85, Tryd.ntmps85
  go_wp2
  exact bodyPost_ret (v := .agg #[.int .i64 0, .int .i64 12, .int .i64 20, .int .i64 0, .int .i64 0, .int .i64 0, .int .i64 0, .int .i64 0, .int .i64 0, .int .i64 0, .int .i64 0, .int .i64 0]) (by simp [results, Tryd.results85, go_sem]) rfl ⟨rfl, by repeat (first | exact Nw.refl _ | apply Nw.alloc)⟩
theorem im_4 (w : World) : Calls Tryd.prog 85 #[.int .u32 4194304] w fun e w' => e = .returned (.agg #[.int .i64 12, .int .i64 1, .int .i64 31, .int .i64 5, .int .i64 6, .int .i64 25, .int .i64 1, .int .i64 4, .int .i64 8, .int .i64 11, .int .i64 1, .int .i64 7]) ∧ Nw w w' := by
  go_enter Tryd.func85, Tryd.ntmps85
  go_wp2
  exact bodyPost_ret (v := .agg #[.int .i64 12, .int .i64 1, .int .i64 31, .int .i64 5, .int .i64 6, .int .i64 25, .int .i64 1, .int .i64 4, .int .i64 8, .int .i64 11, .int .i64 1, .int .i64 7]) (by simp [results, Tryd.results85, go_sem]) rfl ⟨rfl, by repeat (first | exact Nw.refl _ | apply Nw.alloc)⟩
theorem im_5 (w : World) : Calls Tryd.prog 85 #[.int .u32 5242880] w fun e w' => e = .returned (.agg #[.int .i64 5, .int .i64 7, .int .i64 25, .int .i64 0, .int .i64 5, .int .i64 7, .int .i64 0, .int .i64 0, .int .i64 0, .int .i64 0, .int .i64 0, .int .i64 0]) ∧ Nw w w' := by
  go_enter Tryd.func85, Tryd.ntmps85
  go_wp2
  exact bodyPost_ret (v := .agg #[.int .i64 5, .int .i64 7, .int .i64 25, .int .i64 0, .int .i64 5, .int .i64 7, .int .i64 0, .int .i64 0, .int .i64 0, .int .i64 0, .int .i64 0, .int .i64 0]) (by simp [results, Tryd.results85, go_sem]) rfl ⟨rfl, by repeat (first | exact Nw.refl _ | apply Nw.alloc)⟩
theorem im_6 (w : World) : Calls Tryd.prog 85 #[.int .u32 6291456] w fun e w' => e = .returned (.agg #[.int .i64 0, .int .i64 6, .int .i64 20, .int .i64 0, .int .i64 0, .int .i64 0, .int .i64 0, .int .i64 0, .int .i64 0, .int .i64 0, .int .i64 0, .int .i64 0]) ∧ Nw w w' := by
  go_enter Tryd.func85, Tryd.ntmps85
  go_wp2
  exact bodyPost_ret (v := .agg #[.int .i64 0, .int .i64 6, .int .i64 20, .int .i64 0, .int .i64 0, .int .i64 0, .int .i64 0, .int .i64 0, .int .i64 0, .int .i64 0, .int .i64 0, .int .i64 0]) (by simp [results, Tryd.results85, go_sem]) rfl ⟨rfl, by repeat (first | exact Nw.refl _ | apply Nw.alloc)⟩
theorem im_7 (w : World) : Calls Tryd.prog 85 #[.int .u32 7340032] w fun e w' => e = .returned (.agg #[.int .i64 0, .int .i64 5, .int .i64 20, .int .i64 0, .int .i64 0, .int .i64 0, .int .i64 0, .int .i64 0, .int .i64 0, .int .i64 0, .int .i64 0, .int .i64 0]) ∧ Nw w w' := by
  go_enter Tryd.func85, Tryd.ntmps85
  go_wp2
  exact bodyPost_ret (v := .agg #[.int .i64 0, .int .i64 5, .int .i64 20, .int .i64 0, .int .i64 0, .int .i64 0, .int .i64 0, .int .i64 0, .int .i64 0, .int .i64 0, .int .i64 0, .int .i64 0]) (by simp [results, Tryd.results85, go_sem]) rfl ⟨rfl, by repeat (first | exact Nw.refl _ | apply Nw.alloc)⟩
theorem im_8 (w : World) : Calls Tryd.prog 85 #[.int .u32 8388608] w fun e w' => e = .returned (.agg #[.int .i64 0, .int .i64 0, .int .i64 0, .int .i64 0, .int .i64 0, .int .i64 0, .int .i64 0, .int .i64 0, .int .i64 0, .int .i64 0, .int .i64 0, .int .i64 0]) ∧ Nw w w' := by
  go_enter Tryd.func85, Tryd.ntmps85
  go_wp2
  exact bodyPost_ret (v := .agg #[.int .i64 0, .int .i64 0, .int .i64 0, .int .i64 0, .int .i64 0, .int .i64 0, .int .i64 0, .int .i64 0, .int .i64 0, .int .i64 0, .int .i64 0, .int .i64 0]) (by simp [results, Tryd.results85, go_sem]) rfl ⟨rfl, by repeat (first | exact Nw.refl _ | apply Nw.alloc)⟩
theorem im_9 (w : World) : Calls Tryd.prog 85 #[.int .u32 9437184] w fun e w' => e = .returned (.agg #[.int .i64 0, .int .i64 8, .int .i64 20, .int .i64 0, .int .i64 0, .int .i64 0, .int .i64 0, .int .i64 0, .int .i64 0, .int .i64 0, .int .i64 0, .int .i64 0]) ∧ Nw w w' := by
  go_enter Tryd.func85, Tryd.ntmps85
  go_wp2
  exact bodyPost_ret (v := .agg #[.int .i64 0, .int .i64 8, .int .i64 20, .int .i64 0, .int .i64 0, .int .i64 0, .int .i64 0, .int .i64 0, .int .i64 0, .int .i64 0, .int .i64 0, .int .i64 0]) (by simp [results, Tryd.results85, go_sem]) rfl ⟨rfl, by repeat (first | exact Nw.refl _ | apply Nw.alloc)⟩
theorem im_10 (w : World) : Calls Tryd.prog 85 #[.int .u32 10485760] w fun e w' => e = .returned (.agg #[.int .i64 0, .int .i64 0, .int .i64 0, .int .i64 0, .int .i64 0, .int .i64 0, .int .i64 0, .int .i64 0, .int .i64 0, .int .i64 0, .int .i64 0, .int .i64 0]) ∧ Nw w w' := by
  go_enter Tryd.func85, Tryd.ntmps85
  go_wp2
  exact bodyPost_ret (v := .agg #[.int .i64 0, .int .i64 0, .int .i64 0, .int .i64 0, .int .i64 0, .int .i64 0, .int .i64 0, .int .i64 0, .int .i64 0, .int .i64 0, .int .i64 0, .int .i64 0]) (by simp [results, Tryd.results85, go_sem]) rfl ⟨rfl, by repeat (first | exact Nw.refl _ | apply Nw.alloc)⟩
theorem im_11 (w : World) : Calls Tryd.prog 85 #[.int .u32 11534336] w fun e w' => e = .returned (.agg #[.int .i64 0, .int .i64 0, .int .i64 0, .int .i64 0, .int .i64 0, .int .i64 0, .int .i64 0, .int .i64 0, .int .i64 0, .int .i64 0, .int .i64 0, .int .i64 0]) ∧ Nw w w' := by
  go_enter Tryd.func85, Tryd.ntmps85
  go_wp2
  exact bodyPost_ret (v := .agg #[.int .i64 0, .int .i64 0, .int .i64 0, .int .i64 0, .int .i64 0, .int .i64 0, .int .i64 0, .int .i64 0, .int .i64 0, .int .i64 0, .int .i64 0, .int .i64 0]) (by simp [results, Tryd.results85, go_sem]) rfl ⟨rfl, by repeat (first | exact Nw.refl _ | apply Nw.alloc)⟩
theorem im_12 (w : World) : Calls Tryd.prog 85 #[.int .u32 12582912] w fun e w' => e = .returned (.agg #[.int .i64 0, .int .i64 0, .int .i64 0, .int .i64 0, .int .i64 0, .int .i64 0, .int .i64 0, .int .i64 0, .int .i64 0, .int .i64 0, .int .i64 0, .int .i64 0]) ∧ Nw w w' := by
  go_enter Tryd.func85, Tryd.ntmps85
  go_wp2
  exact bodyPost_ret (v := .agg #[.int .i64 0, .int .i64 0, .int .i64 0, .int .i64 0, .int .i64 0, .int .i64 0, .int .i64 0, .int .i64 0, .int .i64 0, .int .i64 0, .int .i64 0, .int .i64 0]) (by simp [results, Tryd.results85, go_sem]) rfl ⟨rfl, by repeat (first | exact Nw.refl _ | apply Nw.alloc)⟩
theorem im_any (f : Int) (h0 : 0 ≤ f) (h1 : f ≤ 12) (w : World) : Calls Tryd.prog 85 #[.int .u32 (1048576 * f)] w fun e w' => e = .returned (.agg #[.int .i64 (im0T f).1, .int .i64 (im0T f).2.1, .int .i64 (im0T f).2.2, .int .i64 (im1T f).1, .int .i64 (im1T f).2.1, .int .i64 (im1T f).2.2, .int .i64 (im2T f).1, .int .i64 (im2T f).2.1, .int .i64 (im2T f).2.2, .int .i64 (im3T f).1, .int .i64 (im3T f).2.1, .int .i64 (im3T f).2.2]) ∧ Nw w w' := by
  obtain ⟨n, rfl⟩ := Int.eq_ofNat_of_zero_le h0
  match n, h1 with
  | 0, _ => exact im_0 w
  | 1, _ => exact im_1 w
  | 2, _ => exact im_2 w
  | 3, _ => exact im_3 w
  | 4, _ => exact im_4 w
  | 5, _ => exact im_5 w
  | 6, _ => exact im_6 w
  | 7, _ => exact im_7 w
  | 8, _ => exact im_8 w
  | 9, _ => exact im_9 w
  | 10, _ => exact im_10 w
  | 11, _ => exact im_11 w
  | 12, _ => exact im_12 w
  | n + 13, h => exact absurd h (by omega)
theorem sg_1 (w : World) : Calls Tryd.prog 88 #[.int .u32 1048576] w fun e w' => e = .returned (.int .i64 32) ∧ w = w' := by
  go_enter Tryd.func88, Tryd.ntmps88
  go_wp2
  go_ret
  exact ⟨rfl, rfl⟩
theorem sg_2 (w : World) : Calls Tryd.prog 88 #[.int .u32 2097152] w fun e w' => e = .returned (.int .i64 21) ∧ w = w' := by
  go_enter Tryd.func88, Tryd.ntmps88
  go_wp2
  go_ret
  exact ⟨rfl, rfl⟩
theorem sg_3 (w : World) : Calls Tryd.prog 88 #[.int .u32 3145728] w fun e w' => e = .returned (.int .i64 12) ∧ w = w' := by
  go_enter Tryd.func88, Tryd.ntmps88
  go_wp2
  go_ret
  exact ⟨rfl, rfl⟩
theorem sg_4 (w : World) : Calls Tryd.prog 88 #[.int .u32 4194304] w fun e w' => e = .returned (.int .i64 13) ∧ w = w' := by
  go_enter Tryd.func88, Tryd.ntmps88
  go_wp2
  go_ret
  exact ⟨rfl, rfl⟩
theorem sg_5 (w : World) : Calls Tryd.prog 88 #[.int .u32 5242880] w fun e w' => e = .returned (.int .i64 12) ∧ w = w' := by
  go_enter Tryd.func88, Tryd.ntmps88
  go_wp2
  go_ret
  exact ⟨rfl, rfl⟩
end Go.Proofs.YtnooabgdcfegeaaDoor
