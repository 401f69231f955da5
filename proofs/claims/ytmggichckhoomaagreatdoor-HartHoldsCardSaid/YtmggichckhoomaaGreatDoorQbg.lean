/-
  Proved here: what is stored, the code's answer and the reference's. Conditions: the numbers are words.
-/
import Derived.Test.YtmggichckhoomaaGreatDoorQbf
namespace Go.Proofs.YtmggichckhoomaaGreatDoor
open Go.RowKit
set_option linter.unusedVariables false
def PickI (c : Bool) (x y : Int) : Int := if c = true then x else y
def MinI (x y : Int) : Int := min x y
def MaxI (x y : Int) : Int := max x y
theorem in_pick (c : Bool) (x y : Int) (p : InU x) (q : InU y) : InU (PickI c x y) := by unfold PickI; split <;> assumption
theorem in_min (x y : Int) (p : InU x) (q : InU y) : InU (MinI x y) := by obtain ⟨a, b⟩ := p; obtain ⟨c, d⟩ := q; unfold MinI InU; omega
theorem in_max (x y : Int) (p : InU x) (q : InU y) : InU (MaxI x y) := by obtain ⟨a, b⟩ := p; obtain ⟨c, d⟩ := q; unfold MaxI InU; omega
theorem leastI (a b n : Int) (w : World) : Calls Tryz.prog 150 #[pairV a b n] w fun e w' => e = .returned (.int .u64 (PickI (LtS a b) a b)) ∧ Nb w w' := least_any a b n w
theorem greatestI (a b n : Int) (w : World) : Calls Tryz.prog 151 #[pairV a b n] w fun e w' => e = .returned (.int .u64 (PickI (LtS a b) b a)) ∧ Nb w w' := greatest_any a b n w
theorem lowestI (a b n : Int) (w : World) : Calls Tryz.prog 152 #[pairV a b n] w fun e w' => e = .returned (.int .u64 (MinI a b)) ∧ Nb w w' := lowest_any a b n w
theorem highestI (a b n : Int) (w : World) : Calls Tryz.prog 153 #[pairV a b n] w fun e w' => e = .returned (.int .u64 (MaxI a b)) ∧ Nb w w' := highest_any a b n w
/-- What an atomic operation makes of what stands there and what comes. -/
def CgB (op old b : Int) : Int :=
  if op = 69 then IntKind.u64.wrap (old + b) else
  if op = 70 then bits .xor .u64 old b else
  if op = 71 then bits .and .u64 old b else
  if op = 72 then bits .or .u64 old b else
  if op = 73 then PickI (LtS (Sgn old 32) (Sgn b 32)) (Sgn old 32) (Sgn b 32) else
  if op = 74 then PickI (LtS (Sgn old 32) (Sgn b 32)) (Sgn b 32) (Sgn old 32) else
  if op = 75 then MinI (Fld old 0 32) (Fld b 0 32) else
  if op = 76 then MaxI (Fld old 0 32) (Fld b 0 32) else
  if op = 80 then IntKind.u64.wrap (old + b) else
  if op = 81 then bits .xor .u64 old b else
  if op = 82 then bits .and .u64 old b else
  if op = 83 then bits .or .u64 old b else
  if op = 84 then PickI (LtS old b) old b else
  if op = 85 then PickI (LtS old b) b old else
  if op = 86 then MinI old b else
  if op = 87 then MaxI old b else
  b
def StB (op old b : Int) : Int := if StoreB op = true then Fld (CgB op old b) 0 (8 * SizeI op) else 0
set_option maxRecDepth 100000 in
set_option maxHeartbeats 1000000 in
theorem chg_none (op a b n : Int) (h : op ≠ 69 ∧ op ≠ 70 ∧ op ≠ 71 ∧ op ≠ 72 ∧ op ≠ 73 ∧ op ≠ 74 ∧ op ≠ 75 ∧ op ≠ 76 ∧ op ≠ 80 ∧ op ≠ 81 ∧ op ≠ 82 ∧ op ≠ 83 ∧ op ≠ 84 ∧ op ≠ 85 ∧ op ≠ 86 ∧ op ≠ 87) (w : World) : Calls Tryz.prog 125 #[.int .i64 op, pairV a b n] w fun e w' => e = .returned .nilFunc ∧ Nb w w' := by
  have e69 : (op == 69) = false := beq_eq_false_iff_ne.2 (by omega)
  have e70 : (op == 70) = false := beq_eq_false_iff_ne.2 (by omega)
  have e71 : (op == 71) = false := beq_eq_false_iff_ne.2 (by omega)
  have e72 : (op == 72) = false := beq_eq_false_iff_ne.2 (by omega)
  have e73 : (op == 73) = false := beq_eq_false_iff_ne.2 (by omega)
  have e74 : (op == 74) = false := beq_eq_false_iff_ne.2 (by omega)
  have e75 : (op == 75) = false := beq_eq_false_iff_ne.2 (by omega)
  have e76 : (op == 76) = false := beq_eq_false_iff_ne.2 (by omega)
  have e80 : (op == 80) = false := beq_eq_false_iff_ne.2 (by omega)
  have e81 : (op == 81) = false := beq_eq_false_iff_ne.2 (by omega)
  have e82 : (op == 82) = false := beq_eq_false_iff_ne.2 (by omega)
  have e83 : (op == 83) = false := beq_eq_false_iff_ne.2 (by omega)
  have e84 : (op == 84) = false := beq_eq_false_iff_ne.2 (by omega)
  have e85 : (op == 85) = false := beq_eq_false_iff_ne.2 (by omega)
  have e86 : (op == 86) = false := beq_eq_false_iff_ne.2 (by omega)
  have e87 : (op == 87) = false := beq_eq_false_iff_ne.2 (by omega)
  clear h
  unfold pairV
  go_enter Tryz.func125, Tryz.ntmps125
  repeat (first | (with_reducible refine then_exit ?_) | (with_reducible refine in_same ?_) | ((with_reducible refine in_other ?_ ?_); decide) | (with_reducible refine then_ret ?_) | (with_reducible refine in_ret ?_) | go_values | go_skip | go_guarded | go_step | go_upon | go_back)
  go_ret
  exact ⟨rfl, (Nb.refl _).alloc _⟩
set_option maxRecDepth 100000 in
set_option maxHeartbeats 1000000 in
theorem st_69 (old b s : Int) (qo : InU old) (qb : InU b) (HL : Hid (∀ w, Calls Tryz.prog 22 #[.int .i64 69] w fun e w' => e = .returned (.bool true) ∧ w = w')) (HS : Hid (∀ w, Calls Tryz.prog 23 #[.int .i64 69] w fun e w' => e = .returned (.int .i64 s) ∧ w = w')) (s0 : 0 ≤ s) (s1 : s ≤ 8) (w : World) :
    Calls Tryz.prog 94 #[.int .i64 69, .int .u64 old, .int .u64 b] w fun e w' => e = .returned (.int .u64 (Fld (IntKind.u64.wrap (old + b)) 0 (8 * s))) ∧ Nb w w' := by
  have HK := Lib.hid (chg_69 old b qo.1 qo.2 qb.1 qb.2)
  have q0 : InU old := qo
  have q1 : InU b := qb
  have QV : InU (IntKind.u64.wrap (old + b)) := in_wrap _
  have hnf := neq_fn
  unfold pairV at HK
  go_enter Tryz.func94, Tryz.ntmps94
  repeat (first | (with_reducible refine then_exit ?_) | (with_reducible refine in_same ?_) | ((with_reducible refine in_other ?_ ?_); decide) | (with_reducible refine then_ret ?_) | (with_reducible refine in_ret ?_) | go_values | go_skip | go_guarded | go_step | go_upon | go_back)
  refine (HL.out _).mono ?_
  rintro e w' ⟨rfl, rfl⟩
  simp only []
  repeat (first | (with_reducible refine then_exit ?_) | (with_reducible refine in_same ?_) | ((with_reducible refine in_other ?_ ?_); decide) | (with_reducible refine then_ret ?_) | (with_reducible refine in_ret ?_) | go_values | go_skip | go_guarded | go_step | go_upon | go_back)
  refine (HK.out _).mono ?_
  rintro e w2 ⟨rfl, hn2⟩
  go_wp2_with fail
  refine (sum_any _ _ _ _).mono ?_
  rintro e w3 ⟨rfl, hn3⟩
  go_wp2_with fail
  refine (HS.out _).mono ?_
  rintro e w' ⟨rfl, rfl⟩
  go_wp2_with fail
  refine (field_any _ _ _ QV.1 QV.2 _).mono ?_
  rintro e w' ⟨rfl, rfl⟩
  go_wp2_with fail
  go_ret
  exact ⟨rfl, hn2.trans hn3⟩
set_option maxRecDepth 100000 in
set_option maxHeartbeats 1000000 in
theorem st_70 (old b s : Int) (qo : InU old) (qb : InU b) (HL : Hid (∀ w, Calls Tryz.prog 22 #[.int .i64 70] w fun e w' => e = .returned (.bool true) ∧ w = w')) (HS : Hid (∀ w, Calls Tryz.prog 23 #[.int .i64 70] w fun e w' => e = .returned (.int .i64 s) ∧ w = w')) (s0 : 0 ≤ s) (s1 : s ≤ 8) (w : World) :
    Calls Tryz.prog 94 #[.int .i64 70, .int .u64 old, .int .u64 b] w fun e w' => e = .returned (.int .u64 (Fld (bits .xor .u64 old b) 0 (8 * s))) ∧ Nb w w' := by
  have HK := Lib.hid (chg_70 old b qo.1 qo.2 qb.1 qb.2)
  have q0 : InU old := qo
  have q1 : InU b := qb
  have QV : InU (bits .xor .u64 old b) := in_xor _ _ q0 q1
  have hnf := neq_fn
  unfold pairV at HK
  go_enter Tryz.func94, Tryz.ntmps94
  repeat (first | (with_reducible refine then_exit ?_) | (with_reducible refine in_same ?_) | ((with_reducible refine in_other ?_ ?_); decide) | (with_reducible refine then_ret ?_) | (with_reducible refine in_ret ?_) | go_values | go_skip | go_guarded | go_step | go_upon | go_back)
  refine (HL.out _).mono ?_
  rintro e w' ⟨rfl, rfl⟩
  simp only []
  repeat (first | (with_reducible refine then_exit ?_) | (with_reducible refine in_same ?_) | ((with_reducible refine in_other ?_ ?_); decide) | (with_reducible refine then_ret ?_) | (with_reducible refine in_ret ?_) | go_values | go_skip | go_guarded | go_step | go_upon | go_back)
  refine (HK.out _).mono ?_
  rintro e w2 ⟨rfl, hn2⟩
  go_wp2_with fail
  refine (xor_any _ _ _ _).mono ?_
  rintro e w3 ⟨rfl, hn3⟩
  go_wp2_with fail
  refine (HS.out _).mono ?_
  rintro e w' ⟨rfl, rfl⟩
  go_wp2_with fail
  refine (field_any _ _ _ QV.1 QV.2 _).mono ?_
  rintro e w' ⟨rfl, rfl⟩
  go_wp2_with fail
  go_ret
  exact ⟨rfl, hn2.trans hn3⟩
set_option maxRecDepth 100000 in
set_option maxHeartbeats 1000000 in
theorem st_71 (old b s : Int) (qo : InU old) (qb : InU b) (HL : Hid (∀ w, Calls Tryz.prog 22 #[.int .i64 71] w fun e w' => e = .returned (.bool true) ∧ w = w')) (HS : Hid (∀ w, Calls Tryz.prog 23 #[.int .i64 71] w fun e w' => e = .returned (.int .i64 s) ∧ w = w')) (s0 : 0 ≤ s) (s1 : s ≤ 8) (w : World) :
    Calls Tryz.prog 94 #[.int .i64 71, .int .u64 old, .int .u64 b] w fun e w' => e = .returned (.int .u64 (Fld (bits .and .u64 old b) 0 (8 * s))) ∧ Nb w w' := by
  have HK := Lib.hid (chg_71 old b qo.1 qo.2 qb.1 qb.2)
  have q0 : InU old := qo
  have q1 : InU b := qb
  have QV : InU (bits .and .u64 old b) := in_and _ _ q0 q1
  have hnf := neq_fn
  unfold pairV at HK
  go_enter Tryz.func94, Tryz.ntmps94
  repeat (first | (with_reducible refine then_exit ?_) | (with_reducible refine in_same ?_) | ((with_reducible refine in_other ?_ ?_); decide) | (with_reducible refine then_ret ?_) | (with_reducible refine in_ret ?_) | go_values | go_skip | go_guarded | go_step | go_upon | go_back)
  refine (HL.out _).mono ?_
  rintro e w' ⟨rfl, rfl⟩
  simp only []
  repeat (first | (with_reducible refine then_exit ?_) | (with_reducible refine in_same ?_) | ((with_reducible refine in_other ?_ ?_); decide) | (with_reducible refine then_ret ?_) | (with_reducible refine in_ret ?_) | go_values | go_skip | go_guarded | go_step | go_upon | go_back)
  refine (HK.out _).mono ?_
  rintro e w2 ⟨rfl, hn2⟩
  go_wp2_with fail
  refine (and_any _ _ _ _).mono ?_
  rintro e w3 ⟨rfl, hn3⟩
  go_wp2_with fail
  refine (HS.out _).mono ?_
  rintro e w' ⟨rfl, rfl⟩
  go_wp2_with fail
  refine (field_any _ _ _ QV.1 QV.2 _).mono ?_
  rintro e w' ⟨rfl, rfl⟩
  go_wp2_with fail
  go_ret
  exact ⟨rfl, hn2.trans hn3⟩
set_option maxRecDepth 100000 in
set_option maxHeartbeats 1000000 in
theorem st_72 (old b s : Int) (qo : InU old) (qb : InU b) (HL : Hid (∀ w, Calls Tryz.prog 22 #[.int .i64 72] w fun e w' => e = .returned (.bool true) ∧ w = w')) (HS : Hid (∀ w, Calls Tryz.prog 23 #[.int .i64 72] w fun e w' => e = .returned (.int .i64 s) ∧ w = w')) (s0 : 0 ≤ s) (s1 : s ≤ 8) (w : World) :
    Calls Tryz.prog 94 #[.int .i64 72, .int .u64 old, .int .u64 b] w fun e w' => e = .returned (.int .u64 (Fld (bits .or .u64 old b) 0 (8 * s))) ∧ Nb w w' := by
  have HK := Lib.hid (chg_72 old b qo.1 qo.2 qb.1 qb.2)
  have q0 : InU old := qo
  have q1 : InU b := qb
  have QV : InU (bits .or .u64 old b) := in_or _ _ q0 q1
  have hnf := neq_fn
  unfold pairV at HK
  go_enter Tryz.func94, Tryz.ntmps94
  repeat (first | (with_reducible refine then_exit ?_) | (with_reducible refine in_same ?_) | ((with_reducible refine in_other ?_ ?_); decide) | (with_reducible refine then_ret ?_) | (with_reducible refine in_ret ?_) | go_values | go_skip | go_guarded | go_step | go_upon | go_back)
  refine (HL.out _).mono ?_
  rintro e w' ⟨rfl, rfl⟩
  simp only []
  repeat (first | (with_reducible refine then_exit ?_) | (with_reducible refine in_same ?_) | ((with_reducible refine in_other ?_ ?_); decide) | (with_reducible refine then_ret ?_) | (with_reducible refine in_ret ?_) | go_values | go_skip | go_guarded | go_step | go_upon | go_back)
  refine (HK.out _).mono ?_
  rintro e w2 ⟨rfl, hn2⟩
  go_wp2_with fail
  refine (or_any _ _ _ _).mono ?_
  rintro e w3 ⟨rfl, hn3⟩
  go_wp2_with fail
  refine (HS.out _).mono ?_
  rintro e w' ⟨rfl, rfl⟩
  go_wp2_with fail
  refine (field_any _ _ _ QV.1 QV.2 _).mono ?_
  rintro e w' ⟨rfl, rfl⟩
  go_wp2_with fail
  go_ret
  exact ⟨rfl, hn2.trans hn3⟩
set_option maxRecDepth 100000 in
set_option maxHeartbeats 1000000 in
theorem st_73 (old b s : Int) (qo : InU old) (qb : InU b) (HL : Hid (∀ w, Calls Tryz.prog 22 #[.int .i64 73] w fun e w' => e = .returned (.bool true) ∧ w = w')) (HS : Hid (∀ w, Calls Tryz.prog 23 #[.int .i64 73] w fun e w' => e = .returned (.int .i64 s) ∧ w = w')) (s0 : 0 ≤ s) (s1 : s ≤ 8) (w : World) :
    Calls Tryz.prog 94 #[.int .i64 73, .int .u64 old, .int .u64 b] w fun e w' => e = .returned (.int .u64 (Fld (PickI (LtS (Sgn old 32) (Sgn b 32)) (Sgn old 32) (Sgn b 32)) 0 (8 * s))) ∧ Nb w w' := by
  have HK := Lib.hid (chg_73 old b qo.1 qo.2 qb.1 qb.2)
  have q0 : InU (Sgn old 32) := in_sgn _ 32 qo
  have q1 : InU (Sgn b 32) := in_sgn _ 32 qb
  have QV : InU (PickI (LtS (Sgn old 32) (Sgn b 32)) (Sgn old 32) (Sgn b 32)) := in_pick _ _ _ q0 q1
  have hnf := neq_fn
  unfold pairV at HK
  go_enter Tryz.func94, Tryz.ntmps94
  repeat (first | (with_reducible refine then_exit ?_) | (with_reducible refine in_same ?_) | ((with_reducible refine in_other ?_ ?_); decide) | (with_reducible refine then_ret ?_) | (with_reducible refine in_ret ?_) | go_values | go_skip | go_guarded | go_step | go_upon | go_back)
  refine (HL.out _).mono ?_
  rintro e w' ⟨rfl, rfl⟩
  simp only []
  repeat (first | (with_reducible refine then_exit ?_) | (with_reducible refine in_same ?_) | ((with_reducible refine in_other ?_ ?_); decide) | (with_reducible refine then_ret ?_) | (with_reducible refine in_ret ?_) | go_values | go_skip | go_guarded | go_step | go_upon | go_back)
  refine (HK.out _).mono ?_
  rintro e w2 ⟨rfl, hn2⟩
  go_wp2_with fail
  refine (leastI _ _ _ _).mono ?_
  rintro e w3 ⟨rfl, hn3⟩
  go_wp2_with fail
  refine (HS.out _).mono ?_
  rintro e w' ⟨rfl, rfl⟩
  go_wp2_with fail
  refine (field_any _ _ _ QV.1 QV.2 _).mono ?_
  rintro e w' ⟨rfl, rfl⟩
  go_wp2_with fail
  go_ret
  exact ⟨rfl, hn2.trans hn3⟩
set_option maxRecDepth 100000 in
set_option maxHeartbeats 1000000 in
theorem st_74 (old b s : Int) (qo : InU old) (qb : InU b) (HL : Hid (∀ w, Calls Tryz.prog 22 #[.int .i64 74] w fun e w' => e = .returned (.bool true) ∧ w = w')) (HS : Hid (∀ w, Calls Tryz.prog 23 #[.int .i64 74] w fun e w' => e = .returned (.int .i64 s) ∧ w = w')) (s0 : 0 ≤ s) (s1 : s ≤ 8) (w : World) :
    Calls Tryz.prog 94 #[.int .i64 74, .int .u64 old, .int .u64 b] w fun e w' => e = .returned (.int .u64 (Fld (PickI (LtS (Sgn old 32) (Sgn b 32)) (Sgn b 32) (Sgn old 32)) 0 (8 * s))) ∧ Nb w w' := by
  have HK := Lib.hid (chg_74 old b qo.1 qo.2 qb.1 qb.2)
  have q0 : InU (Sgn old 32) := in_sgn _ 32 qo
  have q1 : InU (Sgn b 32) := in_sgn _ 32 qb
  have QV : InU (PickI (LtS (Sgn old 32) (Sgn b 32)) (Sgn b 32) (Sgn old 32)) := in_pick _ _ _ q1 q0
  have hnf := neq_fn
  unfold pairV at HK
  go_enter Tryz.func94, Tryz.ntmps94
  repeat (first | (with_reducible refine then_exit ?_) | (with_reducible refine in_same ?_) | ((with_reducible refine in_other ?_ ?_); decide) | (with_reducible refine then_ret ?_) | (with_reducible refine in_ret ?_) | go_values | go_skip | go_guarded | go_step | go_upon | go_back)
  refine (HL.out _).mono ?_
  rintro e w' ⟨rfl, rfl⟩
  simp only []
  repeat (first | (with_reducible refine then_exit ?_) | (with_reducible refine in_same ?_) | ((with_reducible refine in_other ?_ ?_); decide) | (with_reducible refine then_ret ?_) | (with_reducible refine in_ret ?_) | go_values | go_skip | go_guarded | go_step | go_upon | go_back)
  refine (HK.out _).mono ?_
  rintro e w2 ⟨rfl, hn2⟩
  go_wp2_with fail
  refine (greatestI _ _ _ _).mono ?_
  rintro e w3 ⟨rfl, hn3⟩
  go_wp2_with fail
  refine (HS.out _).mono ?_
  rintro e w' ⟨rfl, rfl⟩
  go_wp2_with fail
  refine (field_any _ _ _ QV.1 QV.2 _).mono ?_
  rintro e w' ⟨rfl, rfl⟩
  go_wp2_with fail
  go_ret
  exact ⟨rfl, hn2.trans hn3⟩
set_option maxRecDepth 100000 in
set_option maxHeartbeats 1000000 in
theorem st_75 (old b s : Int) (qo : InU old) (qb : InU b) (HL : Hid (∀ w, Calls Tryz.prog 22 #[.int .i64 75] w fun e w' => e = .returned (.bool true) ∧ w = w')) (HS : Hid (∀ w, Calls Tryz.prog 23 #[.int .i64 75] w fun e w' => e = .returned (.int .i64 s) ∧ w = w')) (s0 : 0 ≤ s) (s1 : s ≤ 8) (w : World) :
    Calls Tryz.prog 94 #[.int .i64 75, .int .u64 old, .int .u64 b] w fun e w' => e = .returned (.int .u64 (Fld (MinI (Fld old 0 32) (Fld b 0 32)) 0 (8 * s))) ∧ Nb w w' := by
  have HK := Lib.hid (chg_75 old b qo.1 qo.2 qb.1 qb.2)
  have q0 : InU (Fld old 0 32) := in_fld _ 0 32 qo
  have q1 : InU (Fld b 0 32) := in_fld _ 0 32 qb
  have QV : InU (MinI (Fld old 0 32) (Fld b 0 32)) := in_min _ _ q0 q1
  have hnf := neq_fn
  unfold pairV at HK
  go_enter Tryz.func94, Tryz.ntmps94
  repeat (first | (with_reducible refine then_exit ?_) | (with_reducible refine in_same ?_) | ((with_reducible refine in_other ?_ ?_); decide) | (with_reducible refine then_ret ?_) | (with_reducible refine in_ret ?_) | go_values | go_skip | go_guarded | go_step | go_upon | go_back)
  refine (HL.out _).mono ?_
  rintro e w' ⟨rfl, rfl⟩
  simp only []
  repeat (first | (with_reducible refine then_exit ?_) | (with_reducible refine in_same ?_) | ((with_reducible refine in_other ?_ ?_); decide) | (with_reducible refine then_ret ?_) | (with_reducible refine in_ret ?_) | go_values | go_skip | go_guarded | go_step | go_upon | go_back)
  refine (HK.out _).mono ?_
  rintro e w2 ⟨rfl, hn2⟩
  go_wp2_with fail
  refine (lowestI _ _ _ _).mono ?_
  rintro e w3 ⟨rfl, hn3⟩
  go_wp2_with fail
  refine (HS.out _).mono ?_
  rintro e w' ⟨rfl, rfl⟩
  go_wp2_with fail
  refine (field_any _ _ _ QV.1 QV.2 _).mono ?_
  rintro e w' ⟨rfl, rfl⟩
  go_wp2_with fail
  go_ret
  exact ⟨rfl, hn2.trans hn3⟩
set_option maxRecDepth 100000 in
set_option maxHeartbeats 1000000 in
theorem st_76 (old b s : Int) (qo : InU old) (qb : InU b) (HL : Hid (∀ w, Calls Tryz.prog 22 #[.int .i64 76] w fun e w' => e = .returned (.bool true) ∧ w = w')) (HS : Hid (∀ w, Calls Tryz.prog 23 #[.int .i64 76] w fun e w' => e = .returned (.int .i64 s) ∧ w = w')) (s0 : 0 ≤ s) (s1 : s ≤ 8) (w : World) :
    Calls Tryz.prog 94 #[.int .i64 76, .int .u64 old, .int .u64 b] w fun e w' => e = .returned (.int .u64 (Fld (MaxI (Fld old 0 32) (Fld b 0 32)) 0 (8 * s))) ∧ Nb w w' := by
  have HK := Lib.hid (chg_76 old b qo.1 qo.2 qb.1 qb.2)
  have q0 : InU (Fld old 0 32) := in_fld _ 0 32 qo
  have q1 : InU (Fld b 0 32) := in_fld _ 0 32 qb
  have QV : InU (MaxI (Fld old 0 32) (Fld b 0 32)) := in_max _ _ q0 q1
  have hnf := neq_fn
  unfold pairV at HK
  go_enter Tryz.func94, Tryz.ntmps94
  repeat (first | (with_reducible refine then_exit ?_) | (with_reducible refine in_same ?_) | ((with_reducible refine in_other ?_ ?_); decide) | (with_reducible refine then_ret ?_) | (with_reducible refine in_ret ?_) | go_values | go_skip | go_guarded | go_step | go_upon | go_back)
  refine (HL.out _).mono ?_
  rintro e w' ⟨rfl, rfl⟩
  simp only []
  repeat (first | (with_reducible refine then_exit ?_) | (with_reducible refine in_same ?_) | ((with_reducible refine in_other ?_ ?_); decide) | (with_reducible refine then_ret ?_) | (with_reducible refine in_ret ?_) | go_values | go_skip | go_guarded | go_step | go_upon | go_back)
  refine (HK.out _).mono ?_
  rintro e w2 ⟨rfl, hn2⟩
  go_wp2_with fail
  refine (highestI _ _ _ _).mono ?_
  rintro e w3 ⟨rfl, hn3⟩
  go_wp2_with fail
  refine (HS.out _).mono ?_
  rintro e w' ⟨rfl, rfl⟩
  go_wp2_with fail
  refine (field_any _ _ _ QV.1 QV.2 _).mono ?_
  rintro e w' ⟨rfl, rfl⟩
  go_wp2_with fail
  go_ret
  exact ⟨rfl, hn2.trans hn3⟩
set_option maxRecDepth 100000 in
set_option maxHeartbeats 1000000 in
theorem st_80 (old b s : Int) (qo : InU old) (qb : InU b) (HL : Hid (∀ w, Calls Tryz.prog 22 #[.int .i64 80] w fun e w' => e = .returned (.bool true) ∧ w = w')) (HS : Hid (∀ w, Calls Tryz.prog 23 #[.int .i64 80] w fun e w' => e = .returned (.int .i64 s) ∧ w = w')) (s0 : 0 ≤ s) (s1 : s ≤ 8) (w : World) :
    Calls Tryz.prog 94 #[.int .i64 80, .int .u64 old, .int .u64 b] w fun e w' => e = .returned (.int .u64 (Fld (IntKind.u64.wrap (old + b)) 0 (8 * s))) ∧ Nb w w' := by
  have HK := Lib.hid (chg_80 old b qo.1 qo.2 qb.1 qb.2)
  have q0 : InU old := qo
  have q1 : InU b := qb
  have QV : InU (IntKind.u64.wrap (old + b)) := in_wrap _
  have hnf := neq_fn
  unfold pairV at HK
  go_enter Tryz.func94, Tryz.ntmps94
  repeat (first | (with_reducible refine then_exit ?_) | (with_reducible refine in_same ?_) | ((with_reducible refine in_other ?_ ?_); decide) | (with_reducible refine then_ret ?_) | (with_reducible refine in_ret ?_) | go_values | go_skip | go_guarded | go_step | go_upon | go_back)
  refine (HL.out _).mono ?_
  rintro e w' ⟨rfl, rfl⟩
  simp only []
  repeat (first | (with_reducible refine then_exit ?_) | (with_reducible refine in_same ?_) | ((with_reducible refine in_other ?_ ?_); decide) | (with_reducible refine then_ret ?_) | (with_reducible refine in_ret ?_) | go_values | go_skip | go_guarded | go_step | go_upon | go_back)
  refine (HK.out _).mono ?_
  rintro e w2 ⟨rfl, hn2⟩
  go_wp2_with fail
  refine (sum_any _ _ _ _).mono ?_
  rintro e w3 ⟨rfl, hn3⟩
  go_wp2_with fail
  refine (HS.out _).mono ?_
  rintro e w' ⟨rfl, rfl⟩
  go_wp2_with fail
  refine (field_any _ _ _ QV.1 QV.2 _).mono ?_
  rintro e w' ⟨rfl, rfl⟩
  go_wp2_with fail
  go_ret
  exact ⟨rfl, hn2.trans hn3⟩
set_option maxRecDepth 100000 in
set_option maxHeartbeats 1000000 in
theorem st_81 (old b s : Int) (qo : InU old) (qb : InU b) (HL : Hid (∀ w, Calls Tryz.prog 22 #[.int .i64 81] w fun e w' => e = .returned (.bool true) ∧ w = w')) (HS : Hid (∀ w, Calls Tryz.prog 23 #[.int .i64 81] w fun e w' => e = .returned (.int .i64 s) ∧ w = w')) (s0 : 0 ≤ s) (s1 : s ≤ 8) (w : World) :
    Calls Tryz.prog 94 #[.int .i64 81, .int .u64 old, .int .u64 b] w fun e w' => e = .returned (.int .u64 (Fld (bits .xor .u64 old b) 0 (8 * s))) ∧ Nb w w' := by
  have HK := Lib.hid (chg_81 old b qo.1 qo.2 qb.1 qb.2)
  have q0 : InU old := qo
  have q1 : InU b := qb
  have QV : InU (bits .xor .u64 old b) := in_xor _ _ q0 q1
  have hnf := neq_fn
  unfold pairV at HK
  go_enter Tryz.func94, Tryz.ntmps94
  repeat (first | (with_reducible refine then_exit ?_) | (with_reducible refine in_same ?_) | ((with_reducible refine in_other ?_ ?_); decide) | (with_reducible refine then_ret ?_) | (with_reducible refine in_ret ?_) | go_values | go_skip | go_guarded | go_step | go_upon | go_back)
  refine (HL.out _).mono ?_
  rintro e w' ⟨rfl, rfl⟩
  simp only []
  repeat (first | (with_reducible refine then_exit ?_) | (with_reducible refine in_same ?_) | ((with_reducible refine in_other ?_ ?_); decide) | (with_reducible refine then_ret ?_) | (with_reducible refine in_ret ?_) | go_values | go_skip | go_guarded | go_step | go_upon | go_back)
  refine (HK.out _).mono ?_
  rintro e w2 ⟨rfl, hn2⟩
  go_wp2_with fail
  refine (xor_any _ _ _ _).mono ?_
  rintro e w3 ⟨rfl, hn3⟩
  go_wp2_with fail
  refine (HS.out _).mono ?_
  rintro e w' ⟨rfl, rfl⟩
  go_wp2_with fail
  refine (field_any _ _ _ QV.1 QV.2 _).mono ?_
  rintro e w' ⟨rfl, rfl⟩
  go_wp2_with fail
  go_ret
  exact ⟨rfl, hn2.trans hn3⟩
set_option maxRecDepth 100000 in
set_option maxHeartbeats 1000000 in
theorem st_82 (old b s : Int) (qo : InU old) (qb : InU b) (HL : Hid (∀ w, Calls Tryz.prog 22 #[.int .i64 82] w fun e w' => e = .returned (.bool true) ∧ w = w')) (HS : Hid (∀ w, Calls Tryz.prog 23 #[.int .i64 82] w fun e w' => e = .returned (.int .i64 s) ∧ w = w')) (s0 : 0 ≤ s) (s1 : s ≤ 8) (w : World) :
    Calls Tryz.prog 94 #[.int .i64 82, .int .u64 old, .int .u64 b] w fun e w' => e = .returned (.int .u64 (Fld (bits .and .u64 old b) 0 (8 * s))) ∧ Nb w w' := by
  have HK := Lib.hid (chg_82 old b qo.1 qo.2 qb.1 qb.2)
  have q0 : InU old := qo
  have q1 : InU b := qb
  have QV : InU (bits .and .u64 old b) := in_and _ _ q0 q1
  have hnf := neq_fn
  unfold pairV at HK
  go_enter Tryz.func94, Tryz.ntmps94
  repeat (first | (with_reducible refine then_exit ?_) | (with_reducible refine in_same ?_) | ((with_reducible refine in_other ?_ ?_); decide) | (with_reducible refine then_ret ?_) | (with_reducible refine in_ret ?_) | go_values | go_skip | go_guarded | go_step | go_upon | go_back)
  refine (HL.out _).mono ?_
  rintro e w' ⟨rfl, rfl⟩
  simp only []
  repeat (first | (with_reducible refine then_exit ?_) | (with_reducible refine in_same ?_) | ((with_reducible refine in_other ?_ ?_); decide) | (with_reducible refine then_ret ?_) | (with_reducible refine in_ret ?_) | go_values | go_skip | go_guarded | go_step | go_upon | go_back)
  refine (HK.out _).mono ?_
  rintro e w2 ⟨rfl, hn2⟩
  go_wp2_with fail
  refine (and_any _ _ _ _).mono ?_
  rintro e w3 ⟨rfl, hn3⟩
  go_wp2_with fail
  refine (HS.out _).mono ?_
  rintro e w' ⟨rfl, rfl⟩
  go_wp2_with fail
  refine (field_any _ _ _ QV.1 QV.2 _).mono ?_
  rintro e w' ⟨rfl, rfl⟩
  go_wp2_with fail
  go_ret
  exact ⟨rfl, hn2.trans hn3⟩
set_option maxRecDepth 100000 in
set_option maxHeartbeats 1000000 in
theorem st_83 (old b s : Int) (qo : InU old) (qb : InU b) (HL : Hid (∀ w, Calls Tryz.prog 22 #[.int .i64 83] w fun e w' => e = .returned (.bool true) ∧ w = w')) (HS : Hid (∀ w, Calls Tryz.prog 23 #[.int .i64 83] w fun e w' => e = .returned (.int .i64 s) ∧ w = w')) (s0 : 0 ≤ s) (s1 : s ≤ 8) (w : World) :
    Calls Tryz.prog 94 #[.int .i64 83, .int .u64 old, .int .u64 b] w fun e w' => e = .returned (.int .u64 (Fld (bits .or .u64 old b) 0 (8 * s))) ∧ Nb w w' := by
  have HK := Lib.hid (chg_83 old b qo.1 qo.2 qb.1 qb.2)
  have q0 : InU old := qo
  have q1 : InU b := qb
  have QV : InU (bits .or .u64 old b) := in_or _ _ q0 q1
  have hnf := neq_fn
  unfold pairV at HK
  go_enter Tryz.func94, Tryz.ntmps94
  repeat (first | (with_reducible refine then_exit ?_) | (with_reducible refine in_same ?_) | ((with_reducible refine in_other ?_ ?_); decide) | (with_reducible refine then_ret ?_) | (with_reducible refine in_ret ?_) | go_values | go_skip | go_guarded | go_step | go_upon | go_back)
  refine (HL.out _).mono ?_
  rintro e w' ⟨rfl, rfl⟩
  simp only []
  repeat (first | (with_reducible refine then_exit ?_) | (with_reducible refine in_same ?_) | ((with_reducible refine in_other ?_ ?_); decide) | (with_reducible refine then_ret ?_) | (with_reducible refine in_ret ?_) | go_values | go_skip | go_guarded | go_step | go_upon | go_back)
  refine (HK.out _).mono ?_
  rintro e w2 ⟨rfl, hn2⟩
  go_wp2_with fail
  refine (or_any _ _ _ _).mono ?_
  rintro e w3 ⟨rfl, hn3⟩
  go_wp2_with fail
  refine (HS.out _).mono ?_
  rintro e w' ⟨rfl, rfl⟩
  go_wp2_with fail
  refine (field_any _ _ _ QV.1 QV.2 _).mono ?_
  rintro e w' ⟨rfl, rfl⟩
  go_wp2_with fail
  go_ret
  exact ⟨rfl, hn2.trans hn3⟩
set_option maxRecDepth 100000 in
set_option maxHeartbeats 1000000 in
theorem st_84 (old b s : Int) (qo : InU old) (qb : InU b) (HL : Hid (∀ w, Calls Tryz.prog 22 #[.int .i64 84] w fun e w' => e = .returned (.bool true) ∧ w = w')) (HS : Hid (∀ w, Calls Tryz.prog 23 #[.int .i64 84] w fun e w' => e = .returned (.int .i64 s) ∧ w = w')) (s0 : 0 ≤ s) (s1 : s ≤ 8) (w : World) :
    Calls Tryz.prog 94 #[.int .i64 84, .int .u64 old, .int .u64 b] w fun e w' => e = .returned (.int .u64 (Fld (PickI (LtS old b) old b) 0 (8 * s))) ∧ Nb w w' := by
  have HK := Lib.hid (chg_84 old b qo.1 qo.2 qb.1 qb.2)
  have q0 : InU old := qo
  have q1 : InU b := qb
  have QV : InU (PickI (LtS old b) old b) := in_pick _ _ _ q0 q1
  have hnf := neq_fn
  unfold pairV at HK
  go_enter Tryz.func94, Tryz.ntmps94
  repeat (first | (with_reducible refine then_exit ?_) | (with_reducible refine in_same ?_) | ((with_reducible refine in_other ?_ ?_); decide) | (with_reducible refine then_ret ?_) | (with_reducible refine in_ret ?_) | go_values | go_skip | go_guarded | go_step | go_upon | go_back)
  refine (HL.out _).mono ?_
  rintro e w' ⟨rfl, rfl⟩
  simp only []
  repeat (first | (with_reducible refine then_exit ?_) | (with_reducible refine in_same ?_) | ((with_reducible refine in_other ?_ ?_); decide) | (with_reducible refine then_ret ?_) | (with_reducible refine in_ret ?_) | go_values | go_skip | go_guarded | go_step | go_upon | go_back)
  refine (HK.out _).mono ?_
  rintro e w2 ⟨rfl, hn2⟩
  go_wp2_with fail
  refine (leastI _ _ _ _).mono ?_
  rintro e w3 ⟨rfl, hn3⟩
  go_wp2_with fail
  refine (HS.out _).mono ?_
  rintro e w' ⟨rfl, rfl⟩
  go_wp2_with fail
  refine (field_any _ _ _ QV.1 QV.2 _).mono ?_
  rintro e w' ⟨rfl, rfl⟩
  go_wp2_with fail
  go_ret
  exact ⟨rfl, hn2.trans hn3⟩
set_option maxRecDepth 100000 in
set_option maxHeartbeats 1000000 in
theorem st_85 (old b s : Int) (qo : InU old) (qb : InU b) (HL : Hid (∀ w, Calls Tryz.prog 22 #[.int .i64 85] w fun e w' => e = .returned (.bool true) ∧ w = w')) (HS : Hid (∀ w, Calls Tryz.prog 23 #[.int .i64 85] w fun e w' => e = .returned (.int .i64 s) ∧ w = w')) (s0 : 0 ≤ s) (s1 : s ≤ 8) (w : World) :
    Calls Tryz.prog 94 #[.int .i64 85, .int .u64 old, .int .u64 b] w fun e w' => e = .returned (.int .u64 (Fld (PickI (LtS old b) b old) 0 (8 * s))) ∧ Nb w w' := by
  have HK := Lib.hid (chg_85 old b qo.1 qo.2 qb.1 qb.2)
  have q0 : InU old := qo
  have q1 : InU b := qb
  have QV : InU (PickI (LtS old b) b old) := in_pick _ _ _ q1 q0
  have hnf := neq_fn
  unfold pairV at HK
  go_enter Tryz.func94, Tryz.ntmps94
  repeat (first | (with_reducible refine then_exit ?_) | (with_reducible refine in_same ?_) | ((with_reducible refine in_other ?_ ?_); decide) | (with_reducible refine then_ret ?_) | (with_reducible refine in_ret ?_) | go_values | go_skip | go_guarded | go_step | go_upon | go_back)
  refine (HL.out _).mono ?_
  rintro e w' ⟨rfl, rfl⟩
  simp only []
  repeat (first | (with_reducible refine then_exit ?_) | (with_reducible refine in_same ?_) | ((with_reducible refine in_other ?_ ?_); decide) | (with_reducible refine then_ret ?_) | (with_reducible refine in_ret ?_) | go_values | go_skip | go_guarded | go_step | go_upon | go_back)
  refine (HK.out _).mono ?_
  rintro e w2 ⟨rfl, hn2⟩
  go_wp2_with fail
  refine (greatestI _ _ _ _).mono ?_
  rintro e w3 ⟨rfl, hn3⟩
  go_wp2_with fail
  refine (HS.out _).mono ?_
  rintro e w' ⟨rfl, rfl⟩
  go_wp2_with fail
  refine (field_any _ _ _ QV.1 QV.2 _).mono ?_
  rintro e w' ⟨rfl, rfl⟩
  go_wp2_with fail
  go_ret
  exact ⟨rfl, hn2.trans hn3⟩
set_option maxRecDepth 100000 in
set_option maxHeartbeats 1000000 in
theorem st_86 (old b s : Int) (qo : InU old) (qb : InU b) (HL : Hid (∀ w, Calls Tryz.prog 22 #[.int .i64 86] w fun e w' => e = .returned (.bool true) ∧ w = w')) (HS : Hid (∀ w, Calls Tryz.prog 23 #[.int .i64 86] w fun e w' => e = .returned (.int .i64 s) ∧ w = w')) (s0 : 0 ≤ s) (s1 : s ≤ 8) (w : World) :
    Calls Tryz.prog 94 #[.int .i64 86, .int .u64 old, .int .u64 b] w fun e w' => e = .returned (.int .u64 (Fld (MinI old b) 0 (8 * s))) ∧ Nb w w' := by
  have HK := Lib.hid (chg_86 old b qo.1 qo.2 qb.1 qb.2)
  have q0 : InU old := qo
  have q1 : InU b := qb
  have QV : InU (MinI old b) := in_min _ _ q0 q1
  have hnf := neq_fn
  unfold pairV at HK
  go_enter Tryz.func94, Tryz.ntmps94
  repeat (first | (with_reducible refine then_exit ?_) | (with_reducible refine in_same ?_) | ((with_reducible refine in_other ?_ ?_); decide) | (with_reducible refine then_ret ?_) | (with_reducible refine in_ret ?_) | go_values | go_skip | go_guarded | go_step | go_upon | go_back)
  refine (HL.out _).mono ?_
  rintro e w' ⟨rfl, rfl⟩
  simp only []
  repeat (first | (with_reducible refine then_exit ?_) | (with_reducible refine in_same ?_) | ((with_reducible refine in_other ?_ ?_); decide) | (with_reducible refine then_ret ?_) | (with_reducible refine in_ret ?_) | go_values | go_skip | go_guarded | go_step | go_upon | go_back)
  refine (HK.out _).mono ?_
  rintro e w2 ⟨rfl, hn2⟩
  go_wp2_with fail
  refine (lowestI _ _ _ _).mono ?_
  rintro e w3 ⟨rfl, hn3⟩
  go_wp2_with fail
  refine (HS.out _).mono ?_
  rintro e w' ⟨rfl, rfl⟩
  go_wp2_with fail
  refine (field_any _ _ _ QV.1 QV.2 _).mono ?_
  rintro e w' ⟨rfl, rfl⟩
  go_wp2_with fail
  go_ret
  exact ⟨rfl, hn2.trans hn3⟩
set_option maxRecDepth 100000 in
set_option maxHeartbeats 1000000 in
theorem st_87 (old b s : Int) (qo : InU old) (qb : InU b) (HL : Hid (∀ w, Calls Tryz.prog 22 #[.int .i64 87] w fun e w' => e = .returned (.bool true) ∧ w = w')) (HS : Hid (∀ w, Calls Tryz.prog 23 #[.int .i64 87] w fun e w' => e = .returned (.int .i64 s) ∧ w = w')) (s0 : 0 ≤ s) (s1 : s ≤ 8) (w : World) :
    Calls Tryz.prog 94 #[.int .i64 87, .int .u64 old, .int .u64 b] w fun e w' => e = .returned (.int .u64 (Fld (MaxI old b) 0 (8 * s))) ∧ Nb w w' := by
  have HK := Lib.hid (chg_87 old b qo.1 qo.2 qb.1 qb.2)
  have q0 : InU old := qo
  have q1 : InU b := qb
  have QV : InU (MaxI old b) := in_max _ _ q0 q1
  have hnf := neq_fn
  unfold pairV at HK
  go_enter Tryz.func94, Tryz.ntmps94
  repeat (first | (with_reducible refine then_exit ?_) | (with_reducible refine in_same ?_) | ((with_reducible refine in_other ?_ ?_); decide) | (with_reducible refine then_ret ?_) | (with_reducible refine in_ret ?_) | go_values | go_skip | go_guarded | go_step | go_upon | go_back)
  refine (HL.out _).mono ?_
  rintro e w' ⟨rfl, rfl⟩
  simp only []
  repeat (first | (with_reducible refine then_exit ?_) | (with_reducible refine in_same ?_) | ((with_reducible refine in_other ?_ ?_); decide) | (with_reducible refine then_ret ?_) | (with_reducible refine in_ret ?_) | go_values | go_skip | go_guarded | go_step | go_upon | go_back)
  refine (HK.out _).mono ?_
  rintro e w2 ⟨rfl, hn2⟩
  go_wp2_with fail
  refine (highestI _ _ _ _).mono ?_
  rintro e w3 ⟨rfl, hn3⟩
  go_wp2_with fail
  refine (HS.out _).mono ?_
  rintro e w' ⟨rfl, rfl⟩
  go_wp2_with fail
  refine (field_any _ _ _ QV.1 QV.2 _).mono ?_
  rintro e w' ⟨rfl, rfl⟩
  go_wp2_with fail
  go_ret
  exact ⟨rfl, hn2.trans hn3⟩
set_option maxRecDepth 100000 in
set_option maxHeartbeats 1000000 in
theorem st_o (op old b s : Int) (qo : InU old) (qb : InU b) (HL : Hid (∀ w, Calls Tryz.prog 22 #[.int .i64 op] w fun e w' => e = .returned (.bool true) ∧ w = w')) (HS : Hid (∀ w, Calls Tryz.prog 23 #[.int .i64 op] w fun e w' => e = .returned (.int .i64 s) ∧ w = w')) (s0 : 0 ≤ s) (s1 : s ≤ 8) (h : op ≠ 69 ∧ op ≠ 70 ∧ op ≠ 71 ∧ op ≠ 72 ∧ op ≠ 73 ∧ op ≠ 74 ∧ op ≠ 75 ∧ op ≠ 76 ∧ op ≠ 80 ∧ op ≠ 81 ∧ op ≠ 82 ∧ op ≠ 83 ∧ op ≠ 84 ∧ op ≠ 85 ∧ op ≠ 86 ∧ op ≠ 87) (w : World) :
    Calls Tryz.prog 94 #[.int .i64 op, .int .u64 old, .int .u64 b] w fun e w' => e = .returned (.int .u64 (Fld b 0 (8 * s))) ∧ Nb w w' := by
  have HK := Lib.hid (chg_none op old b 64 h)
  clear h
  have hnn := neq_nn
  unfold pairV at HK
  go_enter Tryz.func94, Tryz.ntmps94
  repeat (first | (with_reducible refine then_exit ?_) | (with_reducible refine in_same ?_) | ((with_reducible refine in_other ?_ ?_); decide) | (with_reducible refine then_ret ?_) | (with_reducible refine in_ret ?_) | go_values | go_skip | go_guarded | go_step | go_upon | go_back)
  refine (HL.out _).mono ?_
  rintro e w' ⟨rfl, rfl⟩
  simp only []
  repeat (first | (with_reducible refine then_exit ?_) | (with_reducible refine in_same ?_) | ((with_reducible refine in_other ?_ ?_); decide) | (with_reducible refine then_ret ?_) | (with_reducible refine in_ret ?_) | go_values | go_skip | go_guarded | go_step | go_upon | go_back)
  refine (HK.out _).mono ?_
  rintro e w2 ⟨rfl, hn2⟩
  go_wp2_with fail
  refine (HS.out _).mono ?_
  rintro e w' ⟨rfl, rfl⟩
  go_wp2_with fail
  refine (field_any _ _ _ qb.1 qb.2 _).mono ?_
  rintro e w' ⟨rfl, rfl⟩
  go_wp2_with fail
  go_ret
  exact ⟨rfl, hn2⟩
set_option maxRecDepth 100000 in
set_option maxHeartbeats 1000000 in
theorem st_no (op old b : Int) (qo : InU old) (qb : InU b) (HL : Hid (∀ w, Calls Tryz.prog 22 #[.int .i64 op] w fun e w' => e = .returned (.bool false) ∧ w = w')) (w : World) :
    Calls Tryz.prog 94 #[.int .i64 op, .int .u64 old, .int .u64 b] w fun e w' => e = .returned (.int .u64 (0)) ∧ Nb w w' := by
  go_enter Tryz.func94, Tryz.ntmps94
  repeat (first | (with_reducible refine then_exit ?_) | (with_reducible refine in_same ?_) | ((with_reducible refine in_other ?_ ?_); decide) | (with_reducible refine then_ret ?_) | (with_reducible refine in_ret ?_) | go_values | go_skip | go_guarded | go_step | go_upon | go_back)
  refine (HL.out _).mono ?_
  rintro e w' ⟨rfl, rfl⟩
  simp only []
  repeat (first | (with_reducible refine then_exit ?_) | (with_reducible refine in_same ?_) | ((with_reducible refine in_other ?_ ?_); decide) | (with_reducible refine then_ret ?_) | (with_reducible refine in_ret ?_) | go_values | go_skip | go_guarded | go_step | go_upon | go_back)
  go_ret
  exact ⟨rfl, Nb.refl _⟩
theorem cg_69 (old b : Int) : CgB 69 old b = IntKind.u64.wrap (old + b) := by simp only [CgB, ↓reduceIte]
theorem cg_70 (old b : Int) : CgB 70 old b = bits .xor .u64 old b := by simp only [CgB, Int.reduceEq, ↓reduceIte]
theorem cg_71 (old b : Int) : CgB 71 old b = bits .and .u64 old b := by simp only [CgB, Int.reduceEq, ↓reduceIte]
theorem cg_72 (old b : Int) : CgB 72 old b = bits .or .u64 old b := by simp only [CgB, Int.reduceEq, ↓reduceIte]
theorem cg_73 (old b : Int) : CgB 73 old b = PickI (LtS (Sgn old 32) (Sgn b 32)) (Sgn old 32) (Sgn b 32) := by simp only [CgB, Int.reduceEq, ↓reduceIte]
theorem cg_74 (old b : Int) : CgB 74 old b = PickI (LtS (Sgn old 32) (Sgn b 32)) (Sgn b 32) (Sgn old 32) := by simp only [CgB, Int.reduceEq, ↓reduceIte]
theorem cg_75 (old b : Int) : CgB 75 old b = MinI (Fld old 0 32) (Fld b 0 32) := by simp only [CgB, Int.reduceEq, ↓reduceIte]
theorem cg_76 (old b : Int) : CgB 76 old b = MaxI (Fld old 0 32) (Fld b 0 32) := by simp only [CgB, Int.reduceEq, ↓reduceIte]
theorem cg_80 (old b : Int) : CgB 80 old b = IntKind.u64.wrap (old + b) := by simp only [CgB, Int.reduceEq, ↓reduceIte]
theorem cg_81 (old b : Int) : CgB 81 old b = bits .xor .u64 old b := by simp only [CgB, Int.reduceEq, ↓reduceIte]
theorem cg_82 (old b : Int) : CgB 82 old b = bits .and .u64 old b := by simp only [CgB, Int.reduceEq, ↓reduceIte]
theorem cg_83 (old b : Int) : CgB 83 old b = bits .or .u64 old b := by simp only [CgB, Int.reduceEq, ↓reduceIte]
theorem cg_84 (old b : Int) : CgB 84 old b = PickI (LtS old b) old b := by simp only [CgB, Int.reduceEq, ↓reduceIte]
theorem cg_85 (old b : Int) : CgB 85 old b = PickI (LtS old b) b old := by simp only [CgB, Int.reduceEq, ↓reduceIte]
theorem cg_86 (old b : Int) : CgB 86 old b = MinI old b := by simp only [CgB, Int.reduceEq, ↓reduceIte]
theorem cg_87 (old b : Int) : CgB 87 old b = MaxI old b := by simp only [CgB, Int.reduceEq, ↓reduceIte]
theorem st_any (op old b : Int) (qo : InU old) (qb : InU b) (w : World) : Calls Tryz.prog 94 #[.int .i64 op, .int .u64 old, .int .u64 b] w fun e w' => e = .returned (.int .u64 (StB op old b)) ∧ Nb w w' := by
  have HL := fun w => stores_any op w
  have HS := fun w => size_any op w
  obtain ⟨s0, s1⟩ := size_range op
  unfold StB
  cases hl : StoreB op <;> rw [hl] at HL
  · exact st_no op old b qo qb (Lib.hid HL) w
  rw [if_pos rfl]
  by_cases h : op = 69 ∨ op = 70 ∨ op = 71 ∨ op = 72 ∨ op = 73 ∨ op = 74 ∨ op = 75 ∨ op = 76 ∨ op = 80 ∨ op = 81 ∨ op = 82 ∨ op = 83 ∨ op = 84 ∨ op = 85 ∨ op = 86 ∨ op = 87
  · rcases h with rfl | rfl | rfl | rfl | rfl | rfl | rfl | rfl | rfl | rfl | rfl | rfl | rfl | rfl | rfl | rfl
    · rw [cg_69]; exact st_69 old b _ qo qb (Lib.hid HL) (Lib.hid HS) s0 s1 w
    · rw [cg_70]; exact st_70 old b _ qo qb (Lib.hid HL) (Lib.hid HS) s0 s1 w
    · rw [cg_71]; exact st_71 old b _ qo qb (Lib.hid HL) (Lib.hid HS) s0 s1 w
    · rw [cg_72]; exact st_72 old b _ qo qb (Lib.hid HL) (Lib.hid HS) s0 s1 w
    · rw [cg_73]; exact st_73 old b _ qo qb (Lib.hid HL) (Lib.hid HS) s0 s1 w
    · rw [cg_74]; exact st_74 old b _ qo qb (Lib.hid HL) (Lib.hid HS) s0 s1 w
    · rw [cg_75]; exact st_75 old b _ qo qb (Lib.hid HL) (Lib.hid HS) s0 s1 w
    · rw [cg_76]; exact st_76 old b _ qo qb (Lib.hid HL) (Lib.hid HS) s0 s1 w
    · rw [cg_80]; exact st_80 old b _ qo qb (Lib.hid HL) (Lib.hid HS) s0 s1 w
    · rw [cg_81]; exact st_81 old b _ qo qb (Lib.hid HL) (Lib.hid HS) s0 s1 w
    · rw [cg_82]; exact st_82 old b _ qo qb (Lib.hid HL) (Lib.hid HS) s0 s1 w
    · rw [cg_83]; exact st_83 old b _ qo qb (Lib.hid HL) (Lib.hid HS) s0 s1 w
    · rw [cg_84]; exact st_84 old b _ qo qb (Lib.hid HL) (Lib.hid HS) s0 s1 w
    · rw [cg_85]; exact st_85 old b _ qo qb (Lib.hid HL) (Lib.hid HS) s0 s1 w
    · rw [cg_86]; exact st_86 old b _ qo qb (Lib.hid HL) (Lib.hid HS) s0 s1 w
    · rw [cg_87]; exact st_87 old b _ qo qb (Lib.hid HL) (Lib.hid HS) s0 s1 w
  · have e : CgB op old b = b := by unfold CgB; repeat rw [if_neg (by omega)]
    rw [e]
    exact st_o op old b _ qo qb (Lib.hid HL) (Lib.hid HS) s0 s1 (by omega) w
end Go.Proofs.YtmggichckhoomaaGreatDoor
