/-
  Proved here: what the small functions on operations answer, the code's and the reference's alike: atomic, loads, stores, size, sets. Condition: the table of codes holds what its text lays.
-/
import Derived.Test.YtmggichckhoomaaGreatDoorQan
namespace Go.Proofs.YtmggichckhoomaaGreatDoor
open Go.RowKit
set_option linter.unusedVariables false
theorem bret {a b : Bool} (h : a = b) : Ending.returned (.bool a) = .returned (.bool b) := by rw [h]
theorem iret {k : IntKind} {a b : Int} (h : a = b) : Ending.returned (.int k a) = .returned (.int k b) := by rw [h]
def AtomB (op : Int) : Bool := decide (66 ≤ op ∧ op ≤ 87)
def LoadB (op : Int) : Bool := decide ((11 ≤ op ∧ op ≤ 17) ∨ (66 ≤ op ∧ op ≤ 87 ∧ op ≠ 67 ∧ op ≠ 78))
def StoreB (op : Int) : Bool := decide ((18 ≤ op ∧ op ≤ 21) ∨ (66 ≤ op ∧ op ≤ 87 ∧ op ≠ 66 ∧ op ≠ 77))
def SizeI (op : Int) : Int := if op = 11 ∨ op = 15 ∨ op = 18 then 1 else if op = 12 ∨ op = 16 ∨ op = 19 then 2 else if op = 13 ∨ op = 17 ∨ op = 20 then 4 else if op = 14 ∨ op = 21 then 8 else if 66 ≤ op ∧ op ≤ 76 then 4 else if 77 ≤ op ∧ op ≤ 87 then 8 else 0
theorem atom_any (op : Int) (w : World) : Calls Tryz.prog 47 #[.int .i64 op] w fun e w' => e = .returned (.bool (AtomB op)) ∧ w = w' := by
  by_cases c : op < 66
  · have H : Hid (false = AtomB op) := (decide_eq_false (by omega)).symm
    have d : decide (66 ≤ op) = false := by simpa using c
    go_enter Tryz.func47, Tryz.ntmps47
    go_wp2_with fail
    go_ret
    exact ⟨bret H.out, rfl⟩
  · by_cases d : 87 < op
    · have H : Hid (false = AtomB op) := (decide_eq_false (by omega)).symm
      have d1 : decide (op ≤ 87) = false := by simpa using d
      have d2 : decide (66 ≤ op) = true := by simpa using c
      clear c
      go_enter Tryz.func47, Tryz.ntmps47
      go_wp2_with fail
      go_ret
      exact ⟨bret H.out, rfl⟩
    · have H : Hid (true = AtomB op) := (decide_eq_true (by omega)).symm
      have d1 : decide (op ≤ 87) = true := by simp; omega
      have d2 : decide (66 ≤ op) = true := by simpa using c
      clear c d
      go_enter Tryz.func47, Tryz.ntmps47
      go_wp2_with fail
      go_ret
      exact ⟨bret H.out, rfl⟩
theorem ratom_any (op : Int) (w : World) : Calls Tryz.prog 66 #[.int .i64 op] w fun e w' => e = .returned (.bool (AtomB op)) ∧ w = w' := by
  by_cases c : op < 66
  · have H : Hid (false = AtomB op) := (decide_eq_false (by omega)).symm
    have d : decide (66 ≤ op) = false := by simpa using c
    go_enter Tryz.func66, Tryz.ntmps66
    go_wp2_with fail
    go_ret
    exact ⟨bret H.out, rfl⟩
  · by_cases d : 87 < op
    · have H : Hid (false = AtomB op) := (decide_eq_false (by omega)).symm
      have d1 : decide (op ≤ 87) = false := by simpa using d
      have d2 : decide (66 ≤ op) = true := by simpa using c
      clear c
      go_enter Tryz.func66, Tryz.ntmps66
      go_wp2_with fail
      go_ret
      exact ⟨bret H.out, rfl⟩
    · have H : Hid (true = AtomB op) := (decide_eq_true (by omega)).symm
      have d1 : decide (op ≤ 87) = true := by simp; omega
      have d2 : decide (66 ≤ op) = true := by simpa using c
      clear c d
      go_enter Tryz.func66, Tryz.ntmps66
      go_wp2_with fail
      go_ret
      exact ⟨bret H.out, rfl⟩
theorem loads_any (op : Int) (w : World) : Calls Tryz.prog 56 #[.int .i64 op] w fun e w' => e = .returned (.bool (LoadB op)) ∧ w = w' := by
  have AT := atom_any op
  have RT := ratom_any op
  have hk : (op < 11) ∨ (11 ≤ op ∧ op ≤ 17) ∨ (17 < op ∧ op < 66) ∨ (op = 67) ∨ (op = 78) ∨ (66 ≤ op ∧ op ≤ 87 ∧ op ≠ 67 ∧ op ≠ 78) ∨ (87 < op) := by omega
  rcases hk with hk | hk | hk | hk | hk | hk | hk
  · have H : Hid (false = LoadB op) := (decide_eq_false (by omega)).symm
    have HA : AtomB op = false := decide_eq_false (by omega)
    rw [HA] at AT RT
    clear HA
    have d0 : decide (11 ≤ op) = false := by simp; omega
    clear hk
    have HAT := Lib.hid AT
    have HRT := Lib.hid RT
    clear AT RT
    go_enter Tryz.func56, Tryz.ntmps56
    go_wp2_with (first | (go_at_call 47; refine (HAT.out _).mono ?_; rintro e w' ⟨rfl, rfl⟩) | (go_at_call 66; refine (HRT.out _).mono ?_; rintro e w' ⟨rfl, rfl⟩))
    go_ret
    exact ⟨bret H.out, rfl⟩
  · have H : Hid (true = LoadB op) := (decide_eq_true (by omega)).symm
    have HA : AtomB op = false := decide_eq_false (by omega)
    rw [HA] at AT RT
    clear HA
    have d0 : decide (11 ≤ op) = true := by simp; omega
    have d1 : decide (op ≤ 17) = true := by simp; omega
    clear hk
    have HAT := Lib.hid AT
    have HRT := Lib.hid RT
    clear AT RT
    go_enter Tryz.func56, Tryz.ntmps56
    go_wp2_with (first | (go_at_call 47; refine (HAT.out _).mono ?_; rintro e w' ⟨rfl, rfl⟩) | (go_at_call 66; refine (HRT.out _).mono ?_; rintro e w' ⟨rfl, rfl⟩))
    go_ret
    exact ⟨bret H.out, rfl⟩
  · have H : Hid (false = LoadB op) := (decide_eq_false (by omega)).symm
    have HA : AtomB op = false := decide_eq_false (by omega)
    rw [HA] at AT RT
    clear HA
    have d0 : decide (11 ≤ op) = true := by simp; omega
    have d1 : decide (op ≤ 17) = false := by simp; omega
    clear hk
    have HAT := Lib.hid AT
    have HRT := Lib.hid RT
    clear AT RT
    go_enter Tryz.func56, Tryz.ntmps56
    go_wp2_with (first | (go_at_call 47; refine (HAT.out _).mono ?_; rintro e w' ⟨rfl, rfl⟩) | (go_at_call 66; refine (HRT.out _).mono ?_; rintro e w' ⟨rfl, rfl⟩))
    go_ret
    exact ⟨bret H.out, rfl⟩
  · have H : Hid (false = LoadB op) := (decide_eq_false (by omega)).symm
    have HA : AtomB op = true := decide_eq_true (by omega)
    rw [HA] at AT RT
    clear HA
    subst hk
    have HAT := Lib.hid AT
    have HRT := Lib.hid RT
    clear AT RT
    go_enter Tryz.func56, Tryz.ntmps56
    go_wp2_with (first | (go_at_call 47; refine (HAT.out _).mono ?_; rintro e w' ⟨rfl, rfl⟩) | (go_at_call 66; refine (HRT.out _).mono ?_; rintro e w' ⟨rfl, rfl⟩))
    go_ret
    exact ⟨bret H.out, rfl⟩
  · have H : Hid (false = LoadB op) := (decide_eq_false (by omega)).symm
    have HA : AtomB op = true := decide_eq_true (by omega)
    rw [HA] at AT RT
    clear HA
    subst hk
    have HAT := Lib.hid AT
    have HRT := Lib.hid RT
    clear AT RT
    go_enter Tryz.func56, Tryz.ntmps56
    go_wp2_with (first | (go_at_call 47; refine (HAT.out _).mono ?_; rintro e w' ⟨rfl, rfl⟩) | (go_at_call 66; refine (HRT.out _).mono ?_; rintro e w' ⟨rfl, rfl⟩))
    go_ret
    exact ⟨bret H.out, rfl⟩
  · have H : Hid (true = LoadB op) := (decide_eq_true (by omega)).symm
    have HA : AtomB op = true := decide_eq_true (by omega)
    rw [HA] at AT RT
    clear HA
    have d0 : decide (11 ≤ op) = true := by simp; omega
    have d1 : decide (op ≤ 17) = false := by simp; omega
    have n1 : (op == 67) = false := by simp; omega
    have n1' : (op != 67) = true := by simp; omega
    have n2 : (op == 78) = false := by simp; omega
    have n2' : (op != 78) = true := by simp; omega
    clear hk
    have HAT := Lib.hid AT
    have HRT := Lib.hid RT
    clear AT RT
    go_enter Tryz.func56, Tryz.ntmps56
    go_wp2_with (first | (go_at_call 47; refine (HAT.out _).mono ?_; rintro e w' ⟨rfl, rfl⟩) | (go_at_call 66; refine (HRT.out _).mono ?_; rintro e w' ⟨rfl, rfl⟩))
    go_ret
    exact ⟨bret H.out, rfl⟩
  · have H : Hid (false = LoadB op) := (decide_eq_false (by omega)).symm
    have HA : AtomB op = false := decide_eq_false (by omega)
    rw [HA] at AT RT
    clear HA
    have d0 : decide (11 ≤ op) = true := by simp; omega
    have d1 : decide (op ≤ 17) = false := by simp; omega
    clear hk
    have HAT := Lib.hid AT
    have HRT := Lib.hid RT
    clear AT RT
    go_enter Tryz.func56, Tryz.ntmps56
    go_wp2_with (first | (go_at_call 47; refine (HAT.out _).mono ?_; rintro e w' ⟨rfl, rfl⟩) | (go_at_call 66; refine (HRT.out _).mono ?_; rintro e w' ⟨rfl, rfl⟩))
    go_ret
    exact ⟨bret H.out, rfl⟩
theorem stores_any (op : Int) (w : World) : Calls Tryz.prog 22 #[.int .i64 op] w fun e w' => e = .returned (.bool (StoreB op)) ∧ w = w' := by
  have AT := atom_any op
  have RT := ratom_any op
  have hk : (op < 18) ∨ (18 ≤ op ∧ op ≤ 21) ∨ (21 < op ∧ op < 66) ∨ (op = 66) ∨ (op = 77) ∨ (66 ≤ op ∧ op ≤ 87 ∧ op ≠ 66 ∧ op ≠ 77) ∨ (87 < op) := by omega
  rcases hk with hk | hk | hk | hk | hk | hk | hk
  · have H : Hid (false = StoreB op) := (decide_eq_false (by omega)).symm
    have HA : AtomB op = false := decide_eq_false (by omega)
    rw [HA] at AT RT
    clear HA
    have d0 : decide (18 ≤ op) = false := by simp; omega
    clear hk
    have HAT := Lib.hid AT
    have HRT := Lib.hid RT
    clear AT RT
    go_enter Tryz.func22, Tryz.ntmps22
    go_wp2_with (first | (go_at_call 47; refine (HAT.out _).mono ?_; rintro e w' ⟨rfl, rfl⟩) | (go_at_call 66; refine (HRT.out _).mono ?_; rintro e w' ⟨rfl, rfl⟩))
    go_ret
    exact ⟨bret H.out, rfl⟩
  · have H : Hid (true = StoreB op) := (decide_eq_true (by omega)).symm
    have HA : AtomB op = false := decide_eq_false (by omega)
    rw [HA] at AT RT
    clear HA
    have d0 : decide (18 ≤ op) = true := by simp; omega
    have d1 : decide (op ≤ 21) = true := by simp; omega
    clear hk
    have HAT := Lib.hid AT
    have HRT := Lib.hid RT
    clear AT RT
    go_enter Tryz.func22, Tryz.ntmps22
    go_wp2_with (first | (go_at_call 47; refine (HAT.out _).mono ?_; rintro e w' ⟨rfl, rfl⟩) | (go_at_call 66; refine (HRT.out _).mono ?_; rintro e w' ⟨rfl, rfl⟩))
    go_ret
    exact ⟨bret H.out, rfl⟩
  · have H : Hid (false = StoreB op) := (decide_eq_false (by omega)).symm
    have HA : AtomB op = false := decide_eq_false (by omega)
    rw [HA] at AT RT
    clear HA
    have d0 : decide (18 ≤ op) = true := by simp; omega
    have d1 : decide (op ≤ 21) = false := by simp; omega
    clear hk
    have HAT := Lib.hid AT
    have HRT := Lib.hid RT
    clear AT RT
    go_enter Tryz.func22, Tryz.ntmps22
    go_wp2_with (first | (go_at_call 47; refine (HAT.out _).mono ?_; rintro e w' ⟨rfl, rfl⟩) | (go_at_call 66; refine (HRT.out _).mono ?_; rintro e w' ⟨rfl, rfl⟩))
    go_ret
    exact ⟨bret H.out, rfl⟩
  · have H : Hid (false = StoreB op) := (decide_eq_false (by omega)).symm
    have HA : AtomB op = true := decide_eq_true (by omega)
    rw [HA] at AT RT
    clear HA
    subst hk
    have HAT := Lib.hid AT
    have HRT := Lib.hid RT
    clear AT RT
    go_enter Tryz.func22, Tryz.ntmps22
    go_wp2_with (first | (go_at_call 47; refine (HAT.out _).mono ?_; rintro e w' ⟨rfl, rfl⟩) | (go_at_call 66; refine (HRT.out _).mono ?_; rintro e w' ⟨rfl, rfl⟩))
    go_ret
    exact ⟨bret H.out, rfl⟩
  · have H : Hid (false = StoreB op) := (decide_eq_false (by omega)).symm
    have HA : AtomB op = true := decide_eq_true (by omega)
    rw [HA] at AT RT
    clear HA
    subst hk
    have HAT := Lib.hid AT
    have HRT := Lib.hid RT
    clear AT RT
    go_enter Tryz.func22, Tryz.ntmps22
    go_wp2_with (first | (go_at_call 47; refine (HAT.out _).mono ?_; rintro e w' ⟨rfl, rfl⟩) | (go_at_call 66; refine (HRT.out _).mono ?_; rintro e w' ⟨rfl, rfl⟩))
    go_ret
    exact ⟨bret H.out, rfl⟩
  · have H : Hid (true = StoreB op) := (decide_eq_true (by omega)).symm
    have HA : AtomB op = true := decide_eq_true (by omega)
    rw [HA] at AT RT
    clear HA
    have d0 : decide (18 ≤ op) = true := by simp; omega
    have d1 : decide (op ≤ 21) = false := by simp; omega
    have n1 : (op == 66) = false := by simp; omega
    have n1' : (op != 66) = true := by simp; omega
    have n2 : (op == 77) = false := by simp; omega
    have n2' : (op != 77) = true := by simp; omega
    clear hk
    have HAT := Lib.hid AT
    have HRT := Lib.hid RT
    clear AT RT
    go_enter Tryz.func22, Tryz.ntmps22
    go_wp2_with (first | (go_at_call 47; refine (HAT.out _).mono ?_; rintro e w' ⟨rfl, rfl⟩) | (go_at_call 66; refine (HRT.out _).mono ?_; rintro e w' ⟨rfl, rfl⟩))
    go_ret
    exact ⟨bret H.out, rfl⟩
  · have H : Hid (false = StoreB op) := (decide_eq_false (by omega)).symm
    have HA : AtomB op = false := decide_eq_false (by omega)
    rw [HA] at AT RT
    clear HA
    have d0 : decide (18 ≤ op) = true := by simp; omega
    have d1 : decide (op ≤ 21) = false := by simp; omega
    clear hk
    have HAT := Lib.hid AT
    have HRT := Lib.hid RT
    clear AT RT
    go_enter Tryz.func22, Tryz.ntmps22
    go_wp2_with (first | (go_at_call 47; refine (HAT.out _).mono ?_; rintro e w' ⟨rfl, rfl⟩) | (go_at_call 66; refine (HRT.out _).mono ?_; rintro e w' ⟨rfl, rfl⟩))
    go_ret
    exact ⟨bret H.out, rfl⟩
theorem size_any (op : Int) (w : World) : Calls Tryz.prog 23 #[.int .i64 op] w fun e w' => e = .returned (.int .i64 (SizeI op)) ∧ w = w' := by
  have AT := atom_any op
  have RT := ratom_any op
  have hk : op = 11 ∨ op = 12 ∨ op = 13 ∨ op = 14 ∨ op = 15 ∨ op = 16 ∨ op = 17 ∨ op = 18 ∨ op = 19 ∨ op = 20 ∨ op = 21 ∨ (66 ≤ op ∧ op ≤ 76) ∨ (77 ≤ op ∧ op ≤ 87) ∨ ((op < 11 ∨ 21 < op) ∧ (op < 66 ∨ 87 < op)) := by omega
  rcases hk with rfl | rfl | rfl | rfl | rfl | rfl | rfl | rfl | rfl | rfl | rfl | hk | hk | hk
  · clear AT RT
    go_enter Tryz.func23, Tryz.ntmps23
    go_wp2_with fail
    go_ret
    exact ⟨rfl, rfl⟩
  · clear AT RT
    go_enter Tryz.func23, Tryz.ntmps23
    go_wp2_with fail
    go_ret
    exact ⟨rfl, rfl⟩
  · clear AT RT
    go_enter Tryz.func23, Tryz.ntmps23
    go_wp2_with fail
    go_ret
    exact ⟨rfl, rfl⟩
  · clear AT RT
    go_enter Tryz.func23, Tryz.ntmps23
    go_wp2_with fail
    go_ret
    exact ⟨rfl, rfl⟩
  · clear AT RT
    go_enter Tryz.func23, Tryz.ntmps23
    go_wp2_with fail
    go_ret
    exact ⟨rfl, rfl⟩
  · clear AT RT
    go_enter Tryz.func23, Tryz.ntmps23
    go_wp2_with fail
    go_ret
    exact ⟨rfl, rfl⟩
  · clear AT RT
    go_enter Tryz.func23, Tryz.ntmps23
    go_wp2_with fail
    go_ret
    exact ⟨rfl, rfl⟩
  · clear AT RT
    go_enter Tryz.func23, Tryz.ntmps23
    go_wp2_with fail
    go_ret
    exact ⟨rfl, rfl⟩
  · clear AT RT
    go_enter Tryz.func23, Tryz.ntmps23
    go_wp2_with fail
    go_ret
    exact ⟨rfl, rfl⟩
  · clear AT RT
    go_enter Tryz.func23, Tryz.ntmps23
    go_wp2_with fail
    go_ret
    exact ⟨rfl, rfl⟩
  · clear AT RT
    go_enter Tryz.func23, Tryz.ntmps23
    go_wp2_with fail
    go_ret
    exact ⟨rfl, rfl⟩
  · have H : Hid ((4 : Int) = SizeI op) := Lib.hid (show (4 : Int) = SizeI op by unfold SizeI; (repeat' split) <;> omega)
    have HA : AtomB op = true := decide_eq_true (by omega)
    rw [HA] at AT RT
    clear HA
    have n11 : (op == 11) = false := by simp; omega
    have n12 : (op == 12) = false := by simp; omega
    have n13 : (op == 13) = false := by simp; omega
    have n14 : (op == 14) = false := by simp; omega
    have n15 : (op == 15) = false := by simp; omega
    have n16 : (op == 16) = false := by simp; omega
    have n17 : (op == 17) = false := by simp; omega
    have n18 : (op == 18) = false := by simp; omega
    have n19 : (op == 19) = false := by simp; omega
    have n20 : (op == 20) = false := by simp; omega
    have n21 : (op == 21) = false := by simp; omega
    have dl : decide (op < 77) = true := by simp; omega
    clear hk
    have HAT := Lib.hid AT
    have HRT := Lib.hid RT
    clear AT RT
    go_enter Tryz.func23, Tryz.ntmps23
    go_wp2_with (first | (go_at_call 47; refine (HAT.out _).mono ?_; rintro e w' ⟨rfl, rfl⟩) | (go_at_call 66; refine (HRT.out _).mono ?_; rintro e w' ⟨rfl, rfl⟩))
    go_ret
    exact ⟨iret H.out, rfl⟩
  · have H : Hid ((8 : Int) = SizeI op) := Lib.hid (show (8 : Int) = SizeI op by unfold SizeI; (repeat' split) <;> omega)
    have HA : AtomB op = true := decide_eq_true (by omega)
    rw [HA] at AT RT
    clear HA
    have n11 : (op == 11) = false := by simp; omega
    have n12 : (op == 12) = false := by simp; omega
    have n13 : (op == 13) = false := by simp; omega
    have n14 : (op == 14) = false := by simp; omega
    have n15 : (op == 15) = false := by simp; omega
    have n16 : (op == 16) = false := by simp; omega
    have n17 : (op == 17) = false := by simp; omega
    have n18 : (op == 18) = false := by simp; omega
    have n19 : (op == 19) = false := by simp; omega
    have n20 : (op == 20) = false := by simp; omega
    have n21 : (op == 21) = false := by simp; omega
    have dl : decide (op < 77) = false := by simp; omega
    clear hk
    have HAT := Lib.hid AT
    have HRT := Lib.hid RT
    clear AT RT
    go_enter Tryz.func23, Tryz.ntmps23
    go_wp2_with (first | (go_at_call 47; refine (HAT.out _).mono ?_; rintro e w' ⟨rfl, rfl⟩) | (go_at_call 66; refine (HRT.out _).mono ?_; rintro e w' ⟨rfl, rfl⟩))
    go_ret
    exact ⟨iret H.out, rfl⟩
  · have H : Hid ((0 : Int) = SizeI op) := Lib.hid (show (0 : Int) = SizeI op by unfold SizeI; (repeat' split) <;> omega)
    have HA : AtomB op = false := decide_eq_false (by omega)
    rw [HA] at AT RT
    clear HA
    have n11 : (op == 11) = false := by simp; omega
    have n12 : (op == 12) = false := by simp; omega
    have n13 : (op == 13) = false := by simp; omega
    have n14 : (op == 14) = false := by simp; omega
    have n15 : (op == 15) = false := by simp; omega
    have n16 : (op == 16) = false := by simp; omega
    have n17 : (op == 17) = false := by simp; omega
    have n18 : (op == 18) = false := by simp; omega
    have n19 : (op == 19) = false := by simp; omega
    have n20 : (op == 20) = false := by simp; omega
    have n21 : (op == 21) = false := by simp; omega
    clear hk
    have HAT := Lib.hid AT
    have HRT := Lib.hid RT
    clear AT RT
    go_enter Tryz.func23, Tryz.ntmps23
    go_wp2_with (first | (go_at_call 47; refine (HAT.out _).mono ?_; rintro e w' ⟨rfl, rfl⟩) | (go_at_call 66; refine (HRT.out _).mono ?_; rintro e w' ⟨rfl, rfl⟩))
    go_ret
    exact ⟨iret H.out, rfl⟩
theorem sets_any (op rd rs1 rs2 im : Int) (aq rl : Bool) (v0 : -9223372036854775808 ≤ im) (v1 : im < 9223372036854775808) (w : World) (hC : Cod w) :
    Calls Tryz.prog 21 #[.agg #[.int .i64 op, .int .i64 rd, .int .i64 rs1, .int .i64 rs2, .int .i64 im, .bool aq, .bool rl]] w fun e w' => e = .returned (.int .i64 (if GoodB op rd rs1 rs2 im aq rl = true then rd else 0)) ∧ Nb w w' := by
  have GA := fun w (hC : Cod w) => good_any op rd rs1 rs2 im aq rl v0 v1 w hC
  generalize GoodB op rd rs1 rs2 im aq rl = g at *
  have HGA := Lib.hid GA
  clear GA
  go_enter Tryz.func21, Tryz.ntmps21
  go_wp2_with fail
  obtain ⟨W1, hW1⟩ : ∃ W1, w.alloc (.cells #[.int .i64 op, .int .i64 rd, .int .i64 rs1, .int .i64 rs2, .int .i64 im, .bool aq, .bool rl] 56) = W1 := ⟨_, rfl⟩
  have hb1 := blk_made w _ hW1 rfl
  have hN1 : Nb w W1 := by rw [← hW1]; exact (Nb.refl _).alloc _
  rw [hW1]
  clear hW1
  refine (HGA.out _ (hC.of_nb hN1)).mono ?_
  rintro e w3 ⟨rfl, hn3⟩
  have hN3 := hN1.trans hn3
  obtain ⟨n3, c0, c1, c2, c3, c4, c5, c6⟩ := cells7 (hn3.block hb1)
  clear hb1 hN1 hn3 hC
  cases g
  · go_wp2_with fail
    go_ret
    exact ⟨rfl, hN3⟩
  · go_wp2_with fail
    go_ret
    exact ⟨rfl, hN3⟩
end Go.Proofs.YtmggichckhoomaaGreatDoor
