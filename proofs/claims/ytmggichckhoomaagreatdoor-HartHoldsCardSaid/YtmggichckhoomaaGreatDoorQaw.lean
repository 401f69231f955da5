/-
  Proved here: what the code's table of operations hands out, and which operations have nothing there. Conditions: the numbers are words.
-/
import Derived.Test.YtmggichckhoomaaGreatDoorQav
namespace Go.Proofs.YtmggichckhoomaaGreatDoor
open Go.RowKit
set_option linter.unusedVariables false
theorem equalIn_fn (w : World) (d : Nat) (fn : Fn) (f c : Array Value) : (Op.equalIn (d+1) 97 (.func fn f c) .nilFunc).run Tryz.prog w = .ok false w := by
  unfold Op.equalIn
  simp [go_sem]
theorem equalIn_nn (w : World) (d : Nat) : (Op.equalIn (d+1) 97 .nilFunc .nilFunc).run Tryz.prog w = .ok true w := by
  unfold Op.equalIn
  simp [go_sem]
theorem neq_fn (w : World) (fn : Fn) (f c : Array Value) : (binOp .neq 97 (.func fn f c) .nilFunc).run Tryz.prog w = .ok (.bool true) w := by
  simp only [binOp]
  simp [Op.equal, Op.maxDepth, equalIn_fn w 9999 fn f c]
theorem eql_fn (w : World) (fn : Fn) (f c : Array Value) : (binOp .eql 97 (.func fn f c) .nilFunc).run Tryz.prog w = .ok (.bool false) w := by
  simp only [binOp]
  simp [Op.equal, Op.maxDepth, equalIn_fn w 9999 fn f c]
theorem neq_nn (w : World) : (binOp .neq 97 .nilFunc .nilFunc).run Tryz.prog w = .ok (.bool false) w := by
  simp only [binOp]
  simp [Op.equal, Op.maxDepth, equalIn_nn w 9999]
theorem eql_nn (w : World) : (binOp .eql 97 .nilFunc .nilFunc).run Tryz.prog w = .ok (.bool true) w := by
  simp only [binOp]
  simp [Op.equal, Op.maxDepth, equalIn_nn w 9999]
/-- Does an operation take Imm for its second number? -/
def ImmB (op : Int) : Bool := decide ((22 ≤ op ∧ op ≤ 30) ∨ (41 ≤ op ∧ op ≤ 44))
def Sar (x y n : Int) : Int := IntKind.u64.wrap (IntKind.i64.wrap x / 2 ^ (y % n).toNat)
def BitI (c : Bool) : Int := if c = true then 1 else 0
theorem in_sgn (x n : Int) (h : InU x) : InU (Sgn x n) := sgn_lt x n h.1 h.2
theorem in_fld (x l n : Int) (h : InU x) : InU (Fld x l n) := fld_w x l n h.1 h.2
/-- What an operation of two numbers gives. -/
def WB (op a c : Int) : Int :=
  if op = 45 then Sgn (IntKind.u64.wrap ((Sgn a 32) + (Sgn c 32))) 32 else
  if op = 41 then Sgn (IntKind.u64.wrap ((Sgn a 32) + (Sgn c 32))) 32 else
  if op = 31 then IntKind.u64.wrap (a + c) else
  if op = 22 then IntKind.u64.wrap (a + c) else
  if op = 46 then Sgn (IntKind.u64.wrap ((Sgn a 32) - (Sgn c 32))) 32 else
  if op = 32 then IntKind.u64.wrap (a - c) else
  if op = 47 then Sgn (IntKind.u64.wrap ((Fld a 0 32) * 2 ^ ((Fld c 0 32) % 32).toNat)) 32 else
  if op = 42 then Sgn (IntKind.u64.wrap ((Fld a 0 32) * 2 ^ ((Fld c 0 32) % 32).toNat)) 32 else
  if op = 33 then IntKind.u64.wrap (a * 2 ^ (c % 64).toNat) else
  if op = 28 then IntKind.u64.wrap (a * 2 ^ (c % 64).toNat) else
  if op = 48 then Sgn ((Fld a 0 32) / 2 ^ ((Fld c 0 32) % 32).toNat) 32 else
  if op = 43 then Sgn ((Fld a 0 32) / 2 ^ ((Fld c 0 32) % 32).toNat) 32 else
  if op = 37 then a / 2 ^ (c % 64).toNat else
  if op = 29 then a / 2 ^ (c % 64).toNat else
  if op = 49 then Sgn (Sar (Sgn a 32) (Sgn c 32) 32) 32 else
  if op = 44 then Sgn (Sar (Sgn a 32) (Sgn c 32) 32) 32 else
  if op = 38 then Sar a c 64 else
  if op = 30 then Sar a c 64 else
  if op = 34 then BitI (LtS a c) else
  if op = 23 then BitI (LtS a c) else
  if op = 35 then BitI (LtU a c) else
  if op = 24 then BitI (LtU a c) else
  if op = 36 then bits .xor .u64 a c else
  if op = 25 then bits .xor .u64 a c else
  if op = 39 then bits .or .u64 a c else
  if op = 26 then bits .or .u64 a c else
  if op = 40 then bits .and .u64 a c else
  if op = 27 then bits .and .u64 a c else
  if op = 61 then Sgn (IntKind.u64.wrap ((Sgn a 32) * (Sgn c 32))) 32 else
  if op = 53 then IntKind.u64.wrap (a * c) else
  if op = 54 then Hgh a c true true else
  if op = 55 then Hgh a c true false else
  if op = 56 then Hgh a c false false else
  if op = 62 then Sgn (_root_.Go.Proofs.YtmggichckhoomaaGreatDoor.Quo (Sgn a 32) (Sgn c 32) true) 32 else
  if op = 57 then _root_.Go.Proofs.YtmggichckhoomaaGreatDoor.Quo a c true else
  if op = 63 then Sgn (_root_.Go.Proofs.YtmggichckhoomaaGreatDoor.Quo (Fld a 0 32) (Fld c 0 32) false) 32 else
  if op = 58 then _root_.Go.Proofs.YtmggichckhoomaaGreatDoor.Quo a c false else
  if op = 64 then Sgn (_root_.Go.Proofs.YtmggichckhoomaaGreatDoor.Rem (Sgn a 32) (Sgn c 32) true) 32 else
  if op = 59 then _root_.Go.Proofs.YtmggichckhoomaaGreatDoor.Rem a c true else
  if op = 65 then Sgn (_root_.Go.Proofs.YtmggichckhoomaaGreatDoor.Rem (Fld a 0 32) (Fld c 0 32) false) 32 else
  if op = 60 then _root_.Go.Proofs.YtmggichckhoomaaGreatDoor.Rem a c false else
  0
/-- What an instruction gives its register. -/
def VB (op im pc a b : Int) : Int := if op = 1 then IntKind.u64.wrap im else if op = 2 then IntKind.u64.wrap (pc + IntKind.u64.wrap im) else if op = 3 ∨ op = 4 then IntKind.u64.wrap (pc + 4) else WB op a (if ImmB op = true then IntKind.u64.wrap im else b)
/-- Is there a register to be given? -/
def HasB (op : Int) : Bool := decide ((1 ≤ op ∧ op ≤ 4) ∨ (22 ≤ op ∧ op ≤ 49) ∨ (53 ≤ op ∧ op ≤ 65))
set_option maxRecDepth 100000 in
set_option maxHeartbeats 1000000 in
theorem base_none (op a b n : Int) (h : op ≠ 45 ∧ op ≠ 41 ∧ op ≠ 31 ∧ op ≠ 22 ∧ op ≠ 46 ∧ op ≠ 32 ∧ op ≠ 47 ∧ op ≠ 42 ∧ op ≠ 33 ∧ op ≠ 28 ∧ op ≠ 48 ∧ op ≠ 43 ∧ op ≠ 37 ∧ op ≠ 29 ∧ op ≠ 49 ∧ op ≠ 44 ∧ op ≠ 38 ∧ op ≠ 30 ∧ op ≠ 34 ∧ op ≠ 23 ∧ op ≠ 35 ∧ op ≠ 24 ∧ op ≠ 36 ∧ op ≠ 25 ∧ op ≠ 39 ∧ op ≠ 26 ∧ op ≠ 40 ∧ op ≠ 27) (w : World) : Calls Tryz.prog 123 #[.int .i64 op, pairV a b n] w fun e w' => e = .returned (.tuple #[.nilFunc, .int .i64 0]) ∧ Nb w w' := by
  have e45 : (op == 45) = false := beq_eq_false_iff_ne.2 (by omega)
  have e41 : (op == 41) = false := beq_eq_false_iff_ne.2 (by omega)
  have e31 : (op == 31) = false := beq_eq_false_iff_ne.2 (by omega)
  have e22 : (op == 22) = false := beq_eq_false_iff_ne.2 (by omega)
  have e46 : (op == 46) = false := beq_eq_false_iff_ne.2 (by omega)
  have e32 : (op == 32) = false := beq_eq_false_iff_ne.2 (by omega)
  have e47 : (op == 47) = false := beq_eq_false_iff_ne.2 (by omega)
  have e42 : (op == 42) = false := beq_eq_false_iff_ne.2 (by omega)
  have e33 : (op == 33) = false := beq_eq_false_iff_ne.2 (by omega)
  have e28 : (op == 28) = false := beq_eq_false_iff_ne.2 (by omega)
  have e48 : (op == 48) = false := beq_eq_false_iff_ne.2 (by omega)
  have e43 : (op == 43) = false := beq_eq_false_iff_ne.2 (by omega)
  have e37 : (op == 37) = false := beq_eq_false_iff_ne.2 (by omega)
  have e29 : (op == 29) = false := beq_eq_false_iff_ne.2 (by omega)
  have e49 : (op == 49) = false := beq_eq_false_iff_ne.2 (by omega)
  have e44 : (op == 44) = false := beq_eq_false_iff_ne.2 (by omega)
  have e38 : (op == 38) = false := beq_eq_false_iff_ne.2 (by omega)
  have e30 : (op == 30) = false := beq_eq_false_iff_ne.2 (by omega)
  have e34 : (op == 34) = false := beq_eq_false_iff_ne.2 (by omega)
  have e23 : (op == 23) = false := beq_eq_false_iff_ne.2 (by omega)
  have e35 : (op == 35) = false := beq_eq_false_iff_ne.2 (by omega)
  have e24 : (op == 24) = false := beq_eq_false_iff_ne.2 (by omega)
  have e36 : (op == 36) = false := beq_eq_false_iff_ne.2 (by omega)
  have e25 : (op == 25) = false := beq_eq_false_iff_ne.2 (by omega)
  have e39 : (op == 39) = false := beq_eq_false_iff_ne.2 (by omega)
  have e26 : (op == 26) = false := beq_eq_false_iff_ne.2 (by omega)
  have e40 : (op == 40) = false := beq_eq_false_iff_ne.2 (by omega)
  have e27 : (op == 27) = false := beq_eq_false_iff_ne.2 (by omega)
  clear h
  unfold pairV
  go_enter Tryz.func123, Tryz.ntmps123
  repeat (first | (with_reducible refine then_exit ?_) | (with_reducible refine in_same ?_) | ((with_reducible refine in_other ?_ ?_); decide) | (with_reducible refine then_ret ?_) | (with_reducible refine in_ret ?_) | go_values | go_skip | go_guarded | go_step | go_upon | go_back)
  go_ret2
  exact ⟨rfl, (Nb.refl _).alloc _⟩
set_option maxRecDepth 100000 in
set_option maxHeartbeats 1000000 in
theorem prod_none (op a b n : Int) (h : op ≠ 61 ∧ op ≠ 53 ∧ op ≠ 54 ∧ op ≠ 55 ∧ op ≠ 56 ∧ op ≠ 62 ∧ op ≠ 57 ∧ op ≠ 63 ∧ op ≠ 58 ∧ op ≠ 64 ∧ op ≠ 59 ∧ op ≠ 65 ∧ op ≠ 60) (w : World) : Calls Tryz.prog 124 #[.int .i64 op, pairV a b n] w fun e w' => e = .returned (.tuple #[.nilFunc, .int .i64 0]) ∧ Nb w w' := by
  have e61 : (op == 61) = false := beq_eq_false_iff_ne.2 (by omega)
  have e53 : (op == 53) = false := beq_eq_false_iff_ne.2 (by omega)
  have e54 : (op == 54) = false := beq_eq_false_iff_ne.2 (by omega)
  have e55 : (op == 55) = false := beq_eq_false_iff_ne.2 (by omega)
  have e56 : (op == 56) = false := beq_eq_false_iff_ne.2 (by omega)
  have e62 : (op == 62) = false := beq_eq_false_iff_ne.2 (by omega)
  have e57 : (op == 57) = false := beq_eq_false_iff_ne.2 (by omega)
  have e63 : (op == 63) = false := beq_eq_false_iff_ne.2 (by omega)
  have e58 : (op == 58) = false := beq_eq_false_iff_ne.2 (by omega)
  have e64 : (op == 64) = false := beq_eq_false_iff_ne.2 (by omega)
  have e59 : (op == 59) = false := beq_eq_false_iff_ne.2 (by omega)
  have e65 : (op == 65) = false := beq_eq_false_iff_ne.2 (by omega)
  have e60 : (op == 60) = false := beq_eq_false_iff_ne.2 (by omega)
  clear h
  unfold pairV
  go_enter Tryz.func124, Tryz.ntmps124
  repeat (first | (with_reducible refine then_exit ?_) | (with_reducible refine in_same ?_) | ((with_reducible refine in_other ?_ ?_); decide) | (with_reducible refine then_ret ?_) | (with_reducible refine in_ret ?_) | go_values | go_skip | go_guarded | go_step | go_upon | go_back)
  go_ret2
  exact ⟨rfl, (Nb.refl _).alloc _⟩
set_option maxRecDepth 100000 in
set_option maxHeartbeats 1000000 in
theorem work_45 (a b : Int) (qa : InU a) (qb : InU b) (w : World) : Calls Tryz.prog 92 #[.int .i64 45, pairV a b 64] w fun e w' => e = .returned (.tuple #[.func (Fn.func 130) #[pairV (Sgn a 32) (Sgn b 32) 32] #[], .int .i64 32]) ∧ Nb w w' := by
  have HK := Lib.hid (base_45 a b qa.1 qa.2 qb.1 qb.2)
  have hnf := neq_fn
  have hnn := neq_nn
  unfold pairV at HK ⊢
  go_enter Tryz.func92, Tryz.ntmps92
  go_wp2_with fail
  obtain ⟨W1, hW⟩ : ∃ W1, w.alloc (.cells #[.int .u64 a, .int .u64 b, .int .i64 64] 131) = W1 := ⟨_, rfl⟩
  have hb := blk_made w _ hW rfl
  have h2 : Nb w W1 := by rw [← hW]; exact (Nb.refl _).alloc _
  rw [hW]
  clear hW
  clear hb
  refine (HK.out _).mono ?_
  rintro e w1 ⟨rfl, hn⟩
  go_wp2_with fail
  go_ret2
  exact ⟨rfl, h2.trans hn⟩
set_option maxRecDepth 100000 in
set_option maxHeartbeats 1000000 in
theorem work_41 (a b : Int) (qa : InU a) (qb : InU b) (w : World) : Calls Tryz.prog 92 #[.int .i64 41, pairV a b 64] w fun e w' => e = .returned (.tuple #[.func (Fn.func 130) #[pairV (Sgn a 32) (Sgn b 32) 32] #[], .int .i64 32]) ∧ Nb w w' := by
  have HK := Lib.hid (base_41 a b qa.1 qa.2 qb.1 qb.2)
  have hnf := neq_fn
  have hnn := neq_nn
  unfold pairV at HK ⊢
  go_enter Tryz.func92, Tryz.ntmps92
  go_wp2_with fail
  obtain ⟨W1, hW⟩ : ∃ W1, w.alloc (.cells #[.int .u64 a, .int .u64 b, .int .i64 64] 131) = W1 := ⟨_, rfl⟩
  have hb := blk_made w _ hW rfl
  have h2 : Nb w W1 := by rw [← hW]; exact (Nb.refl _).alloc _
  rw [hW]
  clear hW
  clear hb
  refine (HK.out _).mono ?_
  rintro e w1 ⟨rfl, hn⟩
  go_wp2_with fail
  go_ret2
  exact ⟨rfl, h2.trans hn⟩
set_option maxRecDepth 100000 in
set_option maxHeartbeats 1000000 in
theorem work_31 (a b : Int) (qa : InU a) (qb : InU b) (w : World) : Calls Tryz.prog 92 #[.int .i64 31, pairV a b 64] w fun e w' => e = .returned (.tuple #[.func (Fn.func 130) #[pairV a b 64] #[], .int .i64 64]) ∧ Nb w w' := by
  have HK := Lib.hid (base_31 a b qa.1 qa.2 qb.1 qb.2)
  have hnf := neq_fn
  have hnn := neq_nn
  unfold pairV at HK ⊢
  go_enter Tryz.func92, Tryz.ntmps92
  go_wp2_with fail
  obtain ⟨W1, hW⟩ : ∃ W1, w.alloc (.cells #[.int .u64 a, .int .u64 b, .int .i64 64] 131) = W1 := ⟨_, rfl⟩
  have hb := blk_made w _ hW rfl
  have h2 : Nb w W1 := by rw [← hW]; exact (Nb.refl _).alloc _
  rw [hW]
  clear hW
  clear hb
  refine (HK.out _).mono ?_
  rintro e w1 ⟨rfl, hn⟩
  go_wp2_with fail
  go_ret2
  exact ⟨rfl, h2.trans hn⟩
set_option maxRecDepth 100000 in
set_option maxHeartbeats 1000000 in
theorem work_22 (a b : Int) (qa : InU a) (qb : InU b) (w : World) : Calls Tryz.prog 92 #[.int .i64 22, pairV a b 64] w fun e w' => e = .returned (.tuple #[.func (Fn.func 130) #[pairV a b 64] #[], .int .i64 64]) ∧ Nb w w' := by
  have HK := Lib.hid (base_22 a b qa.1 qa.2 qb.1 qb.2)
  have hnf := neq_fn
  have hnn := neq_nn
  unfold pairV at HK ⊢
  go_enter Tryz.func92, Tryz.ntmps92
  go_wp2_with fail
  obtain ⟨W1, hW⟩ : ∃ W1, w.alloc (.cells #[.int .u64 a, .int .u64 b, .int .i64 64] 131) = W1 := ⟨_, rfl⟩
  have hb := blk_made w _ hW rfl
  have h2 : Nb w W1 := by rw [← hW]; exact (Nb.refl _).alloc _
  rw [hW]
  clear hW
  clear hb
  refine (HK.out _).mono ?_
  rintro e w1 ⟨rfl, hn⟩
  go_wp2_with fail
  go_ret2
  exact ⟨rfl, h2.trans hn⟩
set_option maxRecDepth 100000 in
set_option maxHeartbeats 1000000 in
theorem work_46 (a b : Int) (qa : InU a) (qb : InU b) (w : World) : Calls Tryz.prog 92 #[.int .i64 46, pairV a b 64] w fun e w' => e = .returned (.tuple #[.func (Fn.func 131) #[pairV (Sgn a 32) (Sgn b 32) 32] #[], .int .i64 32]) ∧ Nb w w' := by
  have HK := Lib.hid (base_46 a b qa.1 qa.2 qb.1 qb.2)
  have hnf := neq_fn
  have hnn := neq_nn
  unfold pairV at HK ⊢
  go_enter Tryz.func92, Tryz.ntmps92
  go_wp2_with fail
  obtain ⟨W1, hW⟩ : ∃ W1, w.alloc (.cells #[.int .u64 a, .int .u64 b, .int .i64 64] 131) = W1 := ⟨_, rfl⟩
  have hb := blk_made w _ hW rfl
  have h2 : Nb w W1 := by rw [← hW]; exact (Nb.refl _).alloc _
  rw [hW]
  clear hW
  clear hb
  refine (HK.out _).mono ?_
  rintro e w1 ⟨rfl, hn⟩
  go_wp2_with fail
  go_ret2
  exact ⟨rfl, h2.trans hn⟩
set_option maxRecDepth 100000 in
set_option maxHeartbeats 1000000 in
theorem work_32 (a b : Int) (qa : InU a) (qb : InU b) (w : World) : Calls Tryz.prog 92 #[.int .i64 32, pairV a b 64] w fun e w' => e = .returned (.tuple #[.func (Fn.func 131) #[pairV a b 64] #[], .int .i64 64]) ∧ Nb w w' := by
  have HK := Lib.hid (base_32 a b qa.1 qa.2 qb.1 qb.2)
  have hnf := neq_fn
  have hnn := neq_nn
  unfold pairV at HK ⊢
  go_enter Tryz.func92, Tryz.ntmps92
  go_wp2_with fail
  obtain ⟨W1, hW⟩ : ∃ W1, w.alloc (.cells #[.int .u64 a, .int .u64 b, .int .i64 64] 131) = W1 := ⟨_, rfl⟩
  have hb := blk_made w _ hW rfl
  have h2 : Nb w W1 := by rw [← hW]; exact (Nb.refl _).alloc _
  rw [hW]
  clear hW
  clear hb
  refine (HK.out _).mono ?_
  rintro e w1 ⟨rfl, hn⟩
  go_wp2_with fail
  go_ret2
  exact ⟨rfl, h2.trans hn⟩
set_option maxRecDepth 100000 in
set_option maxHeartbeats 1000000 in
theorem work_47 (a b : Int) (qa : InU a) (qb : InU b) (w : World) : Calls Tryz.prog 92 #[.int .i64 47, pairV a b 64] w fun e w' => ∃ B, e = .returned (.tuple #[.func (Fn.func 133) #[] #[.pointer (some ⟨B, 0, none⟩)], .int .i64 32]) ∧ Nb w w' ∧ w'.heap[B]? = some (.cells #[.int .u64 (Fld a 0 32), .int .u64 (Fld b 0 32), .int .i64 32] 131 (0, 0)) := by
  have HK := Lib.hid (base_47 a b qa.1 qa.2 qb.1 qb.2)
  have hnf := neq_fn
  have hnn := neq_nn
  unfold pairV at HK ⊢
  go_enter Tryz.func92, Tryz.ntmps92
  go_wp2_with fail
  obtain ⟨W1, hW⟩ : ∃ W1, w.alloc (.cells #[.int .u64 a, .int .u64 b, .int .i64 64] 131) = W1 := ⟨_, rfl⟩
  have hb := blk_made w _ hW rfl
  have h2 : Nb w W1 := by rw [← hW]; exact (Nb.refl _).alloc _
  rw [hW]
  clear hW
  clear hb
  refine (HK.out _).mono ?_
  rintro e w1 ⟨rfl, hn, hB⟩
  have HB := Lib.hid hB
  clear hB
  go_wp2_with fail
  go_ret2
  exact ⟨_, rfl, h2.trans hn, HB.out⟩
set_option maxRecDepth 100000 in
set_option maxHeartbeats 1000000 in
theorem work_42 (a b : Int) (qa : InU a) (qb : InU b) (w : World) : Calls Tryz.prog 92 #[.int .i64 42, pairV a b 64] w fun e w' => ∃ B, e = .returned (.tuple #[.func (Fn.func 133) #[] #[.pointer (some ⟨B, 0, none⟩)], .int .i64 32]) ∧ Nb w w' ∧ w'.heap[B]? = some (.cells #[.int .u64 (Fld a 0 32), .int .u64 (Fld b 0 32), .int .i64 32] 131 (0, 0)) := by
  have HK := Lib.hid (base_42 a b qa.1 qa.2 qb.1 qb.2)
  have hnf := neq_fn
  have hnn := neq_nn
  unfold pairV at HK ⊢
  go_enter Tryz.func92, Tryz.ntmps92
  go_wp2_with fail
  obtain ⟨W1, hW⟩ : ∃ W1, w.alloc (.cells #[.int .u64 a, .int .u64 b, .int .i64 64] 131) = W1 := ⟨_, rfl⟩
  have hb := blk_made w _ hW rfl
  have h2 : Nb w W1 := by rw [← hW]; exact (Nb.refl _).alloc _
  rw [hW]
  clear hW
  clear hb
  refine (HK.out _).mono ?_
  rintro e w1 ⟨rfl, hn, hB⟩
  have HB := Lib.hid hB
  clear hB
  go_wp2_with fail
  go_ret2
  exact ⟨_, rfl, h2.trans hn, HB.out⟩
set_option maxRecDepth 100000 in
set_option maxHeartbeats 1000000 in
theorem work_33 (a b : Int) (qa : InU a) (qb : InU b) (w : World) : Calls Tryz.prog 92 #[.int .i64 33, pairV a b 64] w fun e w' => ∃ B, e = .returned (.tuple #[.func (Fn.func 133) #[] #[.pointer (some ⟨B, 0, none⟩)], .int .i64 64]) ∧ Nb w w' ∧ w'.heap[B]? = some (.cells #[.int .u64 a, .int .u64 b, .int .i64 64] 131 (0, 0)) := by
  have HK := Lib.hid (base_33 a b qa.1 qa.2 qb.1 qb.2)
  have hnf := neq_fn
  have hnn := neq_nn
  unfold pairV at HK ⊢
  go_enter Tryz.func92, Tryz.ntmps92
  go_wp2_with fail
  obtain ⟨W1, hW⟩ : ∃ W1, w.alloc (.cells #[.int .u64 a, .int .u64 b, .int .i64 64] 131) = W1 := ⟨_, rfl⟩
  have hb := blk_made w _ hW rfl
  have h2 : Nb w W1 := by rw [← hW]; exact (Nb.refl _).alloc _
  rw [hW]
  clear hW
  clear hb
  refine (HK.out _).mono ?_
  rintro e w1 ⟨rfl, hn, hB⟩
  have HB := Lib.hid hB
  clear hB
  go_wp2_with fail
  go_ret2
  exact ⟨_, rfl, h2.trans hn, HB.out⟩
set_option maxRecDepth 100000 in
set_option maxHeartbeats 1000000 in
theorem work_28 (a b : Int) (qa : InU a) (qb : InU b) (w : World) : Calls Tryz.prog 92 #[.int .i64 28, pairV a b 64] w fun e w' => ∃ B, e = .returned (.tuple #[.func (Fn.func 133) #[] #[.pointer (some ⟨B, 0, none⟩)], .int .i64 64]) ∧ Nb w w' ∧ w'.heap[B]? = some (.cells #[.int .u64 a, .int .u64 b, .int .i64 64] 131 (0, 0)) := by
  have HK := Lib.hid (base_28 a b qa.1 qa.2 qb.1 qb.2)
  have hnf := neq_fn
  have hnn := neq_nn
  unfold pairV at HK ⊢
  go_enter Tryz.func92, Tryz.ntmps92
  go_wp2_with fail
  obtain ⟨W1, hW⟩ : ∃ W1, w.alloc (.cells #[.int .u64 a, .int .u64 b, .int .i64 64] 131) = W1 := ⟨_, rfl⟩
  have hb := blk_made w _ hW rfl
  have h2 : Nb w W1 := by rw [← hW]; exact (Nb.refl _).alloc _
  rw [hW]
  clear hW
  clear hb
  refine (HK.out _).mono ?_
  rintro e w1 ⟨rfl, hn, hB⟩
  have HB := Lib.hid hB
  clear hB
  go_wp2_with fail
  go_ret2
  exact ⟨_, rfl, h2.trans hn, HB.out⟩
set_option maxRecDepth 100000 in
set_option maxHeartbeats 1000000 in
theorem work_48 (a b : Int) (qa : InU a) (qb : InU b) (w : World) : Calls Tryz.prog 92 #[.int .i64 48, pairV a b 64] w fun e w' => ∃ B, e = .returned (.tuple #[.func (Fn.func 135) #[] #[.pointer (some ⟨B, 0, none⟩)], .int .i64 32]) ∧ Nb w w' ∧ w'.heap[B]? = some (.cells #[.int .u64 (Fld a 0 32), .int .u64 (Fld b 0 32), .int .i64 32] 131 (0, 0)) := by
  have HK := Lib.hid (base_48 a b qa.1 qa.2 qb.1 qb.2)
  have hnf := neq_fn
  have hnn := neq_nn
  unfold pairV at HK ⊢
  go_enter Tryz.func92, Tryz.ntmps92
  go_wp2_with fail
  obtain ⟨W1, hW⟩ : ∃ W1, w.alloc (.cells #[.int .u64 a, .int .u64 b, .int .i64 64] 131) = W1 := ⟨_, rfl⟩
  have hb := blk_made w _ hW rfl
  have h2 : Nb w W1 := by rw [← hW]; exact (Nb.refl _).alloc _
  rw [hW]
  clear hW
  clear hb
  refine (HK.out _).mono ?_
  rintro e w1 ⟨rfl, hn, hB⟩
  have HB := Lib.hid hB
  clear hB
  go_wp2_with fail
  go_ret2
  exact ⟨_, rfl, h2.trans hn, HB.out⟩
set_option maxRecDepth 100000 in
set_option maxHeartbeats 1000000 in
theorem work_43 (a b : Int) (qa : InU a) (qb : InU b) (w : World) : Calls Tryz.prog 92 #[.int .i64 43, pairV a b 64] w fun e w' => ∃ B, e = .returned (.tuple #[.func (Fn.func 135) #[] #[.pointer (some ⟨B, 0, none⟩)], .int .i64 32]) ∧ Nb w w' ∧ w'.heap[B]? = some (.cells #[.int .u64 (Fld a 0 32), .int .u64 (Fld b 0 32), .int .i64 32] 131 (0, 0)) := by
  have HK := Lib.hid (base_43 a b qa.1 qa.2 qb.1 qb.2)
  have hnf := neq_fn
  have hnn := neq_nn
  unfold pairV at HK ⊢
  go_enter Tryz.func92, Tryz.ntmps92
  go_wp2_with fail
  obtain ⟨W1, hW⟩ : ∃ W1, w.alloc (.cells #[.int .u64 a, .int .u64 b, .int .i64 64] 131) = W1 := ⟨_, rfl⟩
  have hb := blk_made w _ hW rfl
  have h2 : Nb w W1 := by rw [← hW]; exact (Nb.refl _).alloc _
  rw [hW]
  clear hW
  clear hb
  refine (HK.out _).mono ?_
  rintro e w1 ⟨rfl, hn, hB⟩
  have HB := Lib.hid hB
  clear hB
  go_wp2_with fail
  go_ret2
  exact ⟨_, rfl, h2.trans hn, HB.out⟩
set_option maxRecDepth 100000 in
set_option maxHeartbeats 1000000 in
theorem work_37 (a b : Int) (qa : InU a) (qb : InU b) (w : World) : Calls Tryz.prog 92 #[.int .i64 37, pairV a b 64] w fun e w' => ∃ B, e = .returned (.tuple #[.func (Fn.func 135) #[] #[.pointer (some ⟨B, 0, none⟩)], .int .i64 64]) ∧ Nb w w' ∧ w'.heap[B]? = some (.cells #[.int .u64 a, .int .u64 b, .int .i64 64] 131 (0, 0)) := by
  have HK := Lib.hid (base_37 a b qa.1 qa.2 qb.1 qb.2)
  have hnf := neq_fn
  have hnn := neq_nn
  unfold pairV at HK ⊢
  go_enter Tryz.func92, Tryz.ntmps92
  go_wp2_with fail
  obtain ⟨W1, hW⟩ : ∃ W1, w.alloc (.cells #[.int .u64 a, .int .u64 b, .int .i64 64] 131) = W1 := ⟨_, rfl⟩
  have hb := blk_made w _ hW rfl
  have h2 : Nb w W1 := by rw [← hW]; exact (Nb.refl _).alloc _
  rw [hW]
  clear hW
  clear hb
  refine (HK.out _).mono ?_
  rintro e w1 ⟨rfl, hn, hB⟩
  have HB := Lib.hid hB
  clear hB
  go_wp2_with fail
  go_ret2
  exact ⟨_, rfl, h2.trans hn, HB.out⟩
set_option maxRecDepth 100000 in
set_option maxHeartbeats 1000000 in
theorem work_29 (a b : Int) (qa : InU a) (qb : InU b) (w : World) : Calls Tryz.prog 92 #[.int .i64 29, pairV a b 64] w fun e w' => ∃ B, e = .returned (.tuple #[.func (Fn.func 135) #[] #[.pointer (some ⟨B, 0, none⟩)], .int .i64 64]) ∧ Nb w w' ∧ w'.heap[B]? = some (.cells #[.int .u64 a, .int .u64 b, .int .i64 64] 131 (0, 0)) := by
  have HK := Lib.hid (base_29 a b qa.1 qa.2 qb.1 qb.2)
  have hnf := neq_fn
  have hnn := neq_nn
  unfold pairV at HK ⊢
  go_enter Tryz.func92, Tryz.ntmps92
  go_wp2_with fail
  obtain ⟨W1, hW⟩ : ∃ W1, w.alloc (.cells #[.int .u64 a, .int .u64 b, .int .i64 64] 131) = W1 := ⟨_, rfl⟩
  have hb := blk_made w _ hW rfl
  have h2 : Nb w W1 := by rw [← hW]; exact (Nb.refl _).alloc _
  rw [hW]
  clear hW
  clear hb
  refine (HK.out _).mono ?_
  rintro e w1 ⟨rfl, hn, hB⟩
  have HB := Lib.hid hB
  clear hB
  go_wp2_with fail
  go_ret2
  exact ⟨_, rfl, h2.trans hn, HB.out⟩
set_option maxRecDepth 100000 in
set_option maxHeartbeats 1000000 in
theorem work_49 (a b : Int) (qa : InU a) (qb : InU b) (w : World) : Calls Tryz.prog 92 #[.int .i64 49, pairV a b 64] w fun e w' => ∃ B, e = .returned (.tuple #[.func (Fn.func 136) #[] #[.pointer (some ⟨B, 0, none⟩)], .int .i64 32]) ∧ Nb w w' ∧ w'.heap[B]? = some (.cells #[.int .u64 (Sgn a 32), .int .u64 (Sgn b 32), .int .i64 32] 131 (0, 0)) := by
  have HK := Lib.hid (base_49 a b qa.1 qa.2 qb.1 qb.2)
  have hnf := neq_fn
  have hnn := neq_nn
  unfold pairV at HK ⊢
  go_enter Tryz.func92, Tryz.ntmps92
  go_wp2_with fail
  obtain ⟨W1, hW⟩ : ∃ W1, w.alloc (.cells #[.int .u64 a, .int .u64 b, .int .i64 64] 131) = W1 := ⟨_, rfl⟩
  have hb := blk_made w _ hW rfl
  have h2 : Nb w W1 := by rw [← hW]; exact (Nb.refl _).alloc _
  rw [hW]
  clear hW
  clear hb
  refine (HK.out _).mono ?_
  rintro e w1 ⟨rfl, hn, hB⟩
  have HB := Lib.hid hB
  clear hB
  go_wp2_with fail
  go_ret2
  exact ⟨_, rfl, h2.trans hn, HB.out⟩
set_option maxRecDepth 100000 in
set_option maxHeartbeats 1000000 in
theorem work_44 (a b : Int) (qa : InU a) (qb : InU b) (w : World) : Calls Tryz.prog 92 #[.int .i64 44, pairV a b 64] w fun e w' => ∃ B, e = .returned (.tuple #[.func (Fn.func 136) #[] #[.pointer (some ⟨B, 0, none⟩)], .int .i64 32]) ∧ Nb w w' ∧ w'.heap[B]? = some (.cells #[.int .u64 (Sgn a 32), .int .u64 (Sgn b 32), .int .i64 32] 131 (0, 0)) := by
  have HK := Lib.hid (base_44 a b qa.1 qa.2 qb.1 qb.2)
  have hnf := neq_fn
  have hnn := neq_nn
  unfold pairV at HK ⊢
  go_enter Tryz.func92, Tryz.ntmps92
  go_wp2_with fail
  obtain ⟨W1, hW⟩ : ∃ W1, w.alloc (.cells #[.int .u64 a, .int .u64 b, .int .i64 64] 131) = W1 := ⟨_, rfl⟩
  have hb := blk_made w _ hW rfl
  have h2 : Nb w W1 := by rw [← hW]; exact (Nb.refl _).alloc _
  rw [hW]
  clear hW
  clear hb
  refine (HK.out _).mono ?_
  rintro e w1 ⟨rfl, hn, hB⟩
  have HB := Lib.hid hB
  clear hB
  go_wp2_with fail
  go_ret2
  exact ⟨_, rfl, h2.trans hn, HB.out⟩
set_option maxRecDepth 100000 in
set_option maxHeartbeats 1000000 in
theorem work_38 (a b : Int) (qa : InU a) (qb : InU b) (w : World) : Calls Tryz.prog 92 #[.int .i64 38, pairV a b 64] w fun e w' => ∃ B, e = .returned (.tuple #[.func (Fn.func 136) #[] #[.pointer (some ⟨B, 0, none⟩)], .int .i64 64]) ∧ Nb w w' ∧ w'.heap[B]? = some (.cells #[.int .u64 a, .int .u64 b, .int .i64 64] 131 (0, 0)) := by
  have HK := Lib.hid (base_38 a b qa.1 qa.2 qb.1 qb.2)
  have hnf := neq_fn
  have hnn := neq_nn
  unfold pairV at HK ⊢
  go_enter Tryz.func92, Tryz.ntmps92
  go_wp2_with fail
  obtain ⟨W1, hW⟩ : ∃ W1, w.alloc (.cells #[.int .u64 a, .int .u64 b, .int .i64 64] 131) = W1 := ⟨_, rfl⟩
  have hb := blk_made w _ hW rfl
  have h2 : Nb w W1 := by rw [← hW]; exact (Nb.refl _).alloc _
  rw [hW]
  clear hW
  clear hb
  refine (HK.out _).mono ?_
  rintro e w1 ⟨rfl, hn, hB⟩
  have HB := Lib.hid hB
  clear hB
  go_wp2_with fail
  go_ret2
  exact ⟨_, rfl, h2.trans hn, HB.out⟩
set_option maxRecDepth 100000 in
set_option maxHeartbeats 1000000 in
theorem work_30 (a b : Int) (qa : InU a) (qb : InU b) (w : World) : Calls Tryz.prog 92 #[.int .i64 30, pairV a b 64] w fun e w' => ∃ B, e = .returned (.tuple #[.func (Fn.func 136) #[] #[.pointer (some ⟨B, 0, none⟩)], .int .i64 64]) ∧ Nb w w' ∧ w'.heap[B]? = some (.cells #[.int .u64 a, .int .u64 b, .int .i64 64] 131 (0, 0)) := by
  have HK := Lib.hid (base_30 a b qa.1 qa.2 qb.1 qb.2)
  have hnf := neq_fn
  have hnn := neq_nn
  unfold pairV at HK ⊢
  go_enter Tryz.func92, Tryz.ntmps92
  go_wp2_with fail
  obtain ⟨W1, hW⟩ : ∃ W1, w.alloc (.cells #[.int .u64 a, .int .u64 b, .int .i64 64] 131) = W1 := ⟨_, rfl⟩
  have hb := blk_made w _ hW rfl
  have h2 : Nb w W1 := by rw [← hW]; exact (Nb.refl _).alloc _
  rw [hW]
  clear hW
  clear hb
  refine (HK.out _).mono ?_
  rintro e w1 ⟨rfl, hn, hB⟩
  have HB := Lib.hid hB
  clear hB
  go_wp2_with fail
  go_ret2
  exact ⟨_, rfl, h2.trans hn, HB.out⟩
set_option maxRecDepth 100000 in
set_option maxHeartbeats 1000000 in
theorem work_34 (a b : Int) (qa : InU a) (qb : InU b) (w : World) : Calls Tryz.prog 92 #[.int .i64 34, pairV a b 64] w fun e w' => e = .returned (.tuple #[.func (Fn.func 137) #[pairV a b 64] #[], .int .i64 64]) ∧ Nb w w' := by
  have HK := Lib.hid (base_34 a b qa.1 qa.2 qb.1 qb.2)
  have hnf := neq_fn
  have hnn := neq_nn
  unfold pairV at HK ⊢
  go_enter Tryz.func92, Tryz.ntmps92
  go_wp2_with fail
  obtain ⟨W1, hW⟩ : ∃ W1, w.alloc (.cells #[.int .u64 a, .int .u64 b, .int .i64 64] 131) = W1 := ⟨_, rfl⟩
  have hb := blk_made w _ hW rfl
  have h2 : Nb w W1 := by rw [← hW]; exact (Nb.refl _).alloc _
  rw [hW]
  clear hW
  clear hb
  refine (HK.out _).mono ?_
  rintro e w1 ⟨rfl, hn⟩
  go_wp2_with fail
  go_ret2
  exact ⟨rfl, h2.trans hn⟩
set_option maxRecDepth 100000 in
set_option maxHeartbeats 1000000 in
theorem work_23 (a b : Int) (qa : InU a) (qb : InU b) (w : World) : Calls Tryz.prog 92 #[.int .i64 23, pairV a b 64] w fun e w' => e = .returned (.tuple #[.func (Fn.func 137) #[pairV a b 64] #[], .int .i64 64]) ∧ Nb w w' := by
  have HK := Lib.hid (base_23 a b qa.1 qa.2 qb.1 qb.2)
  have hnf := neq_fn
  have hnn := neq_nn
  unfold pairV at HK ⊢
  go_enter Tryz.func92, Tryz.ntmps92
  go_wp2_with fail
  obtain ⟨W1, hW⟩ : ∃ W1, w.alloc (.cells #[.int .u64 a, .int .u64 b, .int .i64 64] 131) = W1 := ⟨_, rfl⟩
  have hb := blk_made w _ hW rfl
  have h2 : Nb w W1 := by rw [← hW]; exact (Nb.refl _).alloc _
  rw [hW]
  clear hW
  clear hb
  refine (HK.out _).mono ?_
  rintro e w1 ⟨rfl, hn⟩
  go_wp2_with fail
  go_ret2
  exact ⟨rfl, h2.trans hn⟩
set_option maxRecDepth 100000 in
set_option maxHeartbeats 1000000 in
theorem work_35 (a b : Int) (qa : InU a) (qb : InU b) (w : World) : Calls Tryz.prog 92 #[.int .i64 35, pairV a b 64] w fun e w' => e = .returned (.tuple #[.func (Fn.func 138) #[pairV a b 64] #[], .int .i64 64]) ∧ Nb w w' := by
  have HK := Lib.hid (base_35 a b qa.1 qa.2 qb.1 qb.2)
  have hnf := neq_fn
  have hnn := neq_nn
  unfold pairV at HK ⊢
  go_enter Tryz.func92, Tryz.ntmps92
  go_wp2_with fail
  obtain ⟨W1, hW⟩ : ∃ W1, w.alloc (.cells #[.int .u64 a, .int .u64 b, .int .i64 64] 131) = W1 := ⟨_, rfl⟩
  have hb := blk_made w _ hW rfl
  have h2 : Nb w W1 := by rw [← hW]; exact (Nb.refl _).alloc _
  rw [hW]
  clear hW
  clear hb
  refine (HK.out _).mono ?_
  rintro e w1 ⟨rfl, hn⟩
  go_wp2_with fail
  go_ret2
  exact ⟨rfl, h2.trans hn⟩
set_option maxRecDepth 100000 in
set_option maxHeartbeats 1000000 in
theorem work_24 (a b : Int) (qa : InU a) (qb : InU b) (w : World) : Calls Tryz.prog 92 #[.int .i64 24, pairV a b 64] w fun e w' => e = .returned (.tuple #[.func (Fn.func 138) #[pairV a b 64] #[], .int .i64 64]) ∧ Nb w w' := by
  have HK := Lib.hid (base_24 a b qa.1 qa.2 qb.1 qb.2)
  have hnf := neq_fn
  have hnn := neq_nn
  unfold pairV at HK ⊢
  go_enter Tryz.func92, Tryz.ntmps92
  go_wp2_with fail
  obtain ⟨W1, hW⟩ : ∃ W1, w.alloc (.cells #[.int .u64 a, .int .u64 b, .int .i64 64] 131) = W1 := ⟨_, rfl⟩
  have hb := blk_made w _ hW rfl
  have h2 : Nb w W1 := by rw [← hW]; exact (Nb.refl _).alloc _
  rw [hW]
  clear hW
  clear hb
  refine (HK.out _).mono ?_
  rintro e w1 ⟨rfl, hn⟩
  go_wp2_with fail
  go_ret2
  exact ⟨rfl, h2.trans hn⟩
set_option maxRecDepth 100000 in
set_option maxHeartbeats 1000000 in
theorem work_36 (a b : Int) (qa : InU a) (qb : InU b) (w : World) : Calls Tryz.prog 92 #[.int .i64 36, pairV a b 64] w fun e w' => e = .returned (.tuple #[.func (Fn.func 139) #[pairV a b 64] #[], .int .i64 64]) ∧ Nb w w' := by
  have HK := Lib.hid (base_36 a b qa.1 qa.2 qb.1 qb.2)
  have hnf := neq_fn
  have hnn := neq_nn
  unfold pairV at HK ⊢
  go_enter Tryz.func92, Tryz.ntmps92
  go_wp2_with fail
  obtain ⟨W1, hW⟩ : ∃ W1, w.alloc (.cells #[.int .u64 a, .int .u64 b, .int .i64 64] 131) = W1 := ⟨_, rfl⟩
  have hb := blk_made w _ hW rfl
  have h2 : Nb w W1 := by rw [← hW]; exact (Nb.refl _).alloc _
  rw [hW]
  clear hW
  clear hb
  refine (HK.out _).mono ?_
  rintro e w1 ⟨rfl, hn⟩
  go_wp2_with fail
  go_ret2
  exact ⟨rfl, h2.trans hn⟩
set_option maxRecDepth 100000 in
set_option maxHeartbeats 1000000 in
theorem work_25 (a b : Int) (qa : InU a) (qb : InU b) (w : World) : Calls Tryz.prog 92 #[.int .i64 25, pairV a b 64] w fun e w' => e = .returned (.tuple #[.func (Fn.func 139) #[pairV a b 64] #[], .int .i64 64]) ∧ Nb w w' := by
  have HK := Lib.hid (base_25 a b qa.1 qa.2 qb.1 qb.2)
  have hnf := neq_fn
  have hnn := neq_nn
  unfold pairV at HK ⊢
  go_enter Tryz.func92, Tryz.ntmps92
  go_wp2_with fail
  obtain ⟨W1, hW⟩ : ∃ W1, w.alloc (.cells #[.int .u64 a, .int .u64 b, .int .i64 64] 131) = W1 := ⟨_, rfl⟩
  have hb := blk_made w _ hW rfl
  have h2 : Nb w W1 := by rw [← hW]; exact (Nb.refl _).alloc _
  rw [hW]
  clear hW
  clear hb
  refine (HK.out _).mono ?_
  rintro e w1 ⟨rfl, hn⟩
  go_wp2_with fail
  go_ret2
  exact ⟨rfl, h2.trans hn⟩
set_option maxRecDepth 100000 in
set_option maxHeartbeats 1000000 in
theorem work_39 (a b : Int) (qa : InU a) (qb : InU b) (w : World) : Calls Tryz.prog 92 #[.int .i64 39, pairV a b 64] w fun e w' => e = .returned (.tuple #[.func (Fn.func 140) #[pairV a b 64] #[], .int .i64 64]) ∧ Nb w w' := by
  have HK := Lib.hid (base_39 a b qa.1 qa.2 qb.1 qb.2)
  have hnf := neq_fn
  have hnn := neq_nn
  unfold pairV at HK ⊢
  go_enter Tryz.func92, Tryz.ntmps92
  go_wp2_with fail
  obtain ⟨W1, hW⟩ : ∃ W1, w.alloc (.cells #[.int .u64 a, .int .u64 b, .int .i64 64] 131) = W1 := ⟨_, rfl⟩
  have hb := blk_made w _ hW rfl
  have h2 : Nb w W1 := by rw [← hW]; exact (Nb.refl _).alloc _
  rw [hW]
  clear hW
  clear hb
  refine (HK.out _).mono ?_
  rintro e w1 ⟨rfl, hn⟩
  go_wp2_with fail
  go_ret2
  exact ⟨rfl, h2.trans hn⟩
set_option maxRecDepth 100000 in
set_option maxHeartbeats 1000000 in
theorem work_26 (a b : Int) (qa : InU a) (qb : InU b) (w : World) : Calls Tryz.prog 92 #[.int .i64 26, pairV a b 64] w fun e w' => e = .returned (.tuple #[.func (Fn.func 140) #[pairV a b 64] #[], .int .i64 64]) ∧ Nb w w' := by
  have HK := Lib.hid (base_26 a b qa.1 qa.2 qb.1 qb.2)
  have hnf := neq_fn
  have hnn := neq_nn
  unfold pairV at HK ⊢
  go_enter Tryz.func92, Tryz.ntmps92
  go_wp2_with fail
  obtain ⟨W1, hW⟩ : ∃ W1, w.alloc (.cells #[.int .u64 a, .int .u64 b, .int .i64 64] 131) = W1 := ⟨_, rfl⟩
  have hb := blk_made w _ hW rfl
  have h2 : Nb w W1 := by rw [← hW]; exact (Nb.refl _).alloc _
  rw [hW]
  clear hW
  clear hb
  refine (HK.out _).mono ?_
  rintro e w1 ⟨rfl, hn⟩
  go_wp2_with fail
  go_ret2
  exact ⟨rfl, h2.trans hn⟩
set_option maxRecDepth 100000 in
set_option maxHeartbeats 1000000 in
theorem work_40 (a b : Int) (qa : InU a) (qb : InU b) (w : World) : Calls Tryz.prog 92 #[.int .i64 40, pairV a b 64] w fun e w' => e = .returned (.tuple #[.func (Fn.func 141) #[pairV a b 64] #[], .int .i64 64]) ∧ Nb w w' := by
  have HK := Lib.hid (base_40 a b qa.1 qa.2 qb.1 qb.2)
  have hnf := neq_fn
  have hnn := neq_nn
  unfold pairV at HK ⊢
  go_enter Tryz.func92, Tryz.ntmps92
  go_wp2_with fail
  obtain ⟨W1, hW⟩ : ∃ W1, w.alloc (.cells #[.int .u64 a, .int .u64 b, .int .i64 64] 131) = W1 := ⟨_, rfl⟩
  have hb := blk_made w _ hW rfl
  have h2 : Nb w W1 := by rw [← hW]; exact (Nb.refl _).alloc _
  rw [hW]
  clear hW
  clear hb
  refine (HK.out _).mono ?_
  rintro e w1 ⟨rfl, hn⟩
  go_wp2_with fail
  go_ret2
  exact ⟨rfl, h2.trans hn⟩
set_option maxRecDepth 100000 in
set_option maxHeartbeats 1000000 in
theorem work_27 (a b : Int) (qa : InU a) (qb : InU b) (w : World) : Calls Tryz.prog 92 #[.int .i64 27, pairV a b 64] w fun e w' => e = .returned (.tuple #[.func (Fn.func 141) #[pairV a b 64] #[], .int .i64 64]) ∧ Nb w w' := by
  have HK := Lib.hid (base_27 a b qa.1 qa.2 qb.1 qb.2)
  have hnf := neq_fn
  have hnn := neq_nn
  unfold pairV at HK ⊢
  go_enter Tryz.func92, Tryz.ntmps92
  go_wp2_with fail
  obtain ⟨W1, hW⟩ : ∃ W1, w.alloc (.cells #[.int .u64 a, .int .u64 b, .int .i64 64] 131) = W1 := ⟨_, rfl⟩
  have hb := blk_made w _ hW rfl
  have h2 : Nb w W1 := by rw [← hW]; exact (Nb.refl _).alloc _
  rw [hW]
  clear hW
  clear hb
  refine (HK.out _).mono ?_
  rintro e w1 ⟨rfl, hn⟩
  go_wp2_with fail
  go_ret2
  exact ⟨rfl, h2.trans hn⟩
set_option maxRecDepth 100000 in
set_option maxHeartbeats 1000000 in
theorem work_61 (a b : Int) (qa : InU a) (qb : InU b) (w : World) : Calls Tryz.prog 92 #[.int .i64 61, pairV a b 64] w fun e w' => e = .returned (.tuple #[.func (Fn.func 142) #[pairV (Sgn a 32) (Sgn b 32) 32] #[], .int .i64 32]) ∧ Nb w w' := by
  have HZ := Lib.hid (base_none 61 a b 64 (by decide))
  have HK := Lib.hid (prod_61 a b qa.1 qa.2 qb.1 qb.2)
  have hnf := neq_fn
  have hnn := neq_nn
  unfold pairV at HZ HK ⊢
  go_enter Tryz.func92, Tryz.ntmps92
  go_wp2_with fail
  obtain ⟨W1, hW⟩ : ∃ W1, w.alloc (.cells #[.int .u64 a, .int .u64 b, .int .i64 64] 131) = W1 := ⟨_, rfl⟩
  have hb := blk_made w _ hW rfl
  have h2 : Nb w W1 := by rw [← hW]; exact (Nb.refl _).alloc _
  rw [hW]
  clear hW
  refine (HZ.out _).mono ?_
  rintro e w0 ⟨rfl, hz⟩
  obtain ⟨n1, c0, c1, c2⟩ := cells3 (Nb.block hz hb)
  clear hb
  go_wp2_with fail
  refine (HK.out _).mono ?_
  rintro e w1 ⟨rfl, hn⟩
  clear n1 c0 c1 c2
  go_wp2_with fail
  go_ret2
  exact ⟨rfl, (h2.trans hz).trans hn⟩
set_option maxRecDepth 100000 in
set_option maxHeartbeats 1000000 in
theorem work_53 (a b : Int) (qa : InU a) (qb : InU b) (w : World) : Calls Tryz.prog 92 #[.int .i64 53, pairV a b 64] w fun e w' => e = .returned (.tuple #[.func (Fn.func 142) #[pairV a b 64] #[], .int .i64 64]) ∧ Nb w w' := by
  have HZ := Lib.hid (base_none 53 a b 64 (by decide))
  have HK := Lib.hid (prod_53 a b qa.1 qa.2 qb.1 qb.2)
  have hnf := neq_fn
  have hnn := neq_nn
  unfold pairV at HZ HK ⊢
  go_enter Tryz.func92, Tryz.ntmps92
  go_wp2_with fail
  obtain ⟨W1, hW⟩ : ∃ W1, w.alloc (.cells #[.int .u64 a, .int .u64 b, .int .i64 64] 131) = W1 := ⟨_, rfl⟩
  have hb := blk_made w _ hW rfl
  have h2 : Nb w W1 := by rw [← hW]; exact (Nb.refl _).alloc _
  rw [hW]
  clear hW
  refine (HZ.out _).mono ?_
  rintro e w0 ⟨rfl, hz⟩
  obtain ⟨n1, c0, c1, c2⟩ := cells3 (Nb.block hz hb)
  clear hb
  go_wp2_with fail
  refine (HK.out _).mono ?_
  rintro e w1 ⟨rfl, hn⟩
  clear n1 c0 c1 c2
  go_wp2_with fail
  go_ret2
  exact ⟨rfl, (h2.trans hz).trans hn⟩
set_option maxRecDepth 100000 in
set_option maxHeartbeats 1000000 in
theorem work_54 (a b : Int) (qa : InU a) (qb : InU b) (w : World) : Calls Tryz.prog 92 #[.int .i64 54, pairV a b 64] w fun e w' => e = .returned (.tuple #[.func (Fn.func 143) #[pairV a b 64] #[], .int .i64 64]) ∧ Nb w w' := by
  have HZ := Lib.hid (base_none 54 a b 64 (by decide))
  have HK := Lib.hid (prod_54 a b qa.1 qa.2 qb.1 qb.2)
  have hnf := neq_fn
  have hnn := neq_nn
  unfold pairV at HZ HK ⊢
  go_enter Tryz.func92, Tryz.ntmps92
  go_wp2_with fail
  obtain ⟨W1, hW⟩ : ∃ W1, w.alloc (.cells #[.int .u64 a, .int .u64 b, .int .i64 64] 131) = W1 := ⟨_, rfl⟩
  have hb := blk_made w _ hW rfl
  have h2 : Nb w W1 := by rw [← hW]; exact (Nb.refl _).alloc _
  rw [hW]
  clear hW
  refine (HZ.out _).mono ?_
  rintro e w0 ⟨rfl, hz⟩
  obtain ⟨n1, c0, c1, c2⟩ := cells3 (Nb.block hz hb)
  clear hb
  go_wp2_with fail
  refine (HK.out _).mono ?_
  rintro e w1 ⟨rfl, hn⟩
  clear n1 c0 c1 c2
  go_wp2_with fail
  go_ret2
  exact ⟨rfl, (h2.trans hz).trans hn⟩
set_option maxRecDepth 100000 in
set_option maxHeartbeats 1000000 in
theorem work_55 (a b : Int) (qa : InU a) (qb : InU b) (w : World) : Calls Tryz.prog 92 #[.int .i64 55, pairV a b 64] w fun e w' => e = .returned (.tuple #[.func (Fn.func 144) #[pairV a b 64] #[], .int .i64 64]) ∧ Nb w w' := by
  have HZ := Lib.hid (base_none 55 a b 64 (by decide))
  have HK := Lib.hid (prod_55 a b qa.1 qa.2 qb.1 qb.2)
  have hnf := neq_fn
  have hnn := neq_nn
  unfold pairV at HZ HK ⊢
  go_enter Tryz.func92, Tryz.ntmps92
  go_wp2_with fail
  obtain ⟨W1, hW⟩ : ∃ W1, w.alloc (.cells #[.int .u64 a, .int .u64 b, .int .i64 64] 131) = W1 := ⟨_, rfl⟩
  have hb := blk_made w _ hW rfl
  have h2 : Nb w W1 := by rw [← hW]; exact (Nb.refl _).alloc _
  rw [hW]
  clear hW
  refine (HZ.out _).mono ?_
  rintro e w0 ⟨rfl, hz⟩
  obtain ⟨n1, c0, c1, c2⟩ := cells3 (Nb.block hz hb)
  clear hb
  go_wp2_with fail
  refine (HK.out _).mono ?_
  rintro e w1 ⟨rfl, hn⟩
  clear n1 c0 c1 c2
  go_wp2_with fail
  go_ret2
  exact ⟨rfl, (h2.trans hz).trans hn⟩
set_option maxRecDepth 100000 in
set_option maxHeartbeats 1000000 in
theorem work_56 (a b : Int) (qa : InU a) (qb : InU b) (w : World) : Calls Tryz.prog 92 #[.int .i64 56, pairV a b 64] w fun e w' => e = .returned (.tuple #[.func (Fn.func 145) #[pairV a b 64] #[], .int .i64 64]) ∧ Nb w w' := by
  have HZ := Lib.hid (base_none 56 a b 64 (by decide))
  have HK := Lib.hid (prod_56 a b qa.1 qa.2 qb.1 qb.2)
  have hnf := neq_fn
  have hnn := neq_nn
  unfold pairV at HZ HK ⊢
  go_enter Tryz.func92, Tryz.ntmps92
  go_wp2_with fail
  obtain ⟨W1, hW⟩ : ∃ W1, w.alloc (.cells #[.int .u64 a, .int .u64 b, .int .i64 64] 131) = W1 := ⟨_, rfl⟩
  have hb := blk_made w _ hW rfl
  have h2 : Nb w W1 := by rw [← hW]; exact (Nb.refl _).alloc _
  rw [hW]
  clear hW
  refine (HZ.out _).mono ?_
  rintro e w0 ⟨rfl, hz⟩
  obtain ⟨n1, c0, c1, c2⟩ := cells3 (Nb.block hz hb)
  clear hb
  go_wp2_with fail
  refine (HK.out _).mono ?_
  rintro e w1 ⟨rfl, hn⟩
  clear n1 c0 c1 c2
  go_wp2_with fail
  go_ret2
  exact ⟨rfl, (h2.trans hz).trans hn⟩
set_option maxRecDepth 100000 in
set_option maxHeartbeats 1000000 in
theorem work_62 (a b : Int) (qa : InU a) (qb : InU b) (w : World) : Calls Tryz.prog 92 #[.int .i64 62, pairV a b 64] w fun e w' => e = .returned (.tuple #[.func (Fn.func 146) #[pairV (Sgn a 32) (Sgn b 32) 32] #[], .int .i64 32]) ∧ Nb w w' := by
  have HZ := Lib.hid (base_none 62 a b 64 (by decide))
  have HK := Lib.hid (prod_62 a b qa.1 qa.2 qb.1 qb.2)
  have hnf := neq_fn
  have hnn := neq_nn
  unfold pairV at HZ HK ⊢
  go_enter Tryz.func92, Tryz.ntmps92
  go_wp2_with fail
  obtain ⟨W1, hW⟩ : ∃ W1, w.alloc (.cells #[.int .u64 a, .int .u64 b, .int .i64 64] 131) = W1 := ⟨_, rfl⟩
  have hb := blk_made w _ hW rfl
  have h2 : Nb w W1 := by rw [← hW]; exact (Nb.refl _).alloc _
  rw [hW]
  clear hW
  refine (HZ.out _).mono ?_
  rintro e w0 ⟨rfl, hz⟩
  obtain ⟨n1, c0, c1, c2⟩ := cells3 (Nb.block hz hb)
  clear hb
  go_wp2_with fail
  refine (HK.out _).mono ?_
  rintro e w1 ⟨rfl, hn⟩
  clear n1 c0 c1 c2
  go_wp2_with fail
  go_ret2
  exact ⟨rfl, (h2.trans hz).trans hn⟩
set_option maxRecDepth 100000 in
set_option maxHeartbeats 1000000 in
theorem work_57 (a b : Int) (qa : InU a) (qb : InU b) (w : World) : Calls Tryz.prog 92 #[.int .i64 57, pairV a b 64] w fun e w' => e = .returned (.tuple #[.func (Fn.func 146) #[pairV a b 64] #[], .int .i64 64]) ∧ Nb w w' := by
  have HZ := Lib.hid (base_none 57 a b 64 (by decide))
  have HK := Lib.hid (prod_57 a b qa.1 qa.2 qb.1 qb.2)
  have hnf := neq_fn
  have hnn := neq_nn
  unfold pairV at HZ HK ⊢
  go_enter Tryz.func92, Tryz.ntmps92
  go_wp2_with fail
  obtain ⟨W1, hW⟩ : ∃ W1, w.alloc (.cells #[.int .u64 a, .int .u64 b, .int .i64 64] 131) = W1 := ⟨_, rfl⟩
  have hb := blk_made w _ hW rfl
  have h2 : Nb w W1 := by rw [← hW]; exact (Nb.refl _).alloc _
  rw [hW]
  clear hW
  refine (HZ.out _).mono ?_
  rintro e w0 ⟨rfl, hz⟩
  obtain ⟨n1, c0, c1, c2⟩ := cells3 (Nb.block hz hb)
  clear hb
  go_wp2_with fail
  refine (HK.out _).mono ?_
  rintro e w1 ⟨rfl, hn⟩
  clear n1 c0 c1 c2
  go_wp2_with fail
  go_ret2
  exact ⟨rfl, (h2.trans hz).trans hn⟩
set_option maxRecDepth 100000 in
set_option maxHeartbeats 1000000 in
theorem work_63 (a b : Int) (qa : InU a) (qb : InU b) (w : World) : Calls Tryz.prog 92 #[.int .i64 63, pairV a b 64] w fun e w' => e = .returned (.tuple #[.func (Fn.func 147) #[pairV (Fld a 0 32) (Fld b 0 32) 32] #[], .int .i64 32]) ∧ Nb w w' := by
  have HZ := Lib.hid (base_none 63 a b 64 (by decide))
  have HK := Lib.hid (prod_63 a b qa.1 qa.2 qb.1 qb.2)
  have hnf := neq_fn
  have hnn := neq_nn
  unfold pairV at HZ HK ⊢
  go_enter Tryz.func92, Tryz.ntmps92
  go_wp2_with fail
  obtain ⟨W1, hW⟩ : ∃ W1, w.alloc (.cells #[.int .u64 a, .int .u64 b, .int .i64 64] 131) = W1 := ⟨_, rfl⟩
  have hb := blk_made w _ hW rfl
  have h2 : Nb w W1 := by rw [← hW]; exact (Nb.refl _).alloc _
  rw [hW]
  clear hW
  refine (HZ.out _).mono ?_
  rintro e w0 ⟨rfl, hz⟩
  obtain ⟨n1, c0, c1, c2⟩ := cells3 (Nb.block hz hb)
  clear hb
  go_wp2_with fail
  refine (HK.out _).mono ?_
  rintro e w1 ⟨rfl, hn⟩
  clear n1 c0 c1 c2
  go_wp2_with fail
  go_ret2
  exact ⟨rfl, (h2.trans hz).trans hn⟩
set_option maxRecDepth 100000 in
set_option maxHeartbeats 1000000 in
theorem work_58 (a b : Int) (qa : InU a) (qb : InU b) (w : World) : Calls Tryz.prog 92 #[.int .i64 58, pairV a b 64] w fun e w' => e = .returned (.tuple #[.func (Fn.func 147) #[pairV a b 64] #[], .int .i64 64]) ∧ Nb w w' := by
  have HZ := Lib.hid (base_none 58 a b 64 (by decide))
  have HK := Lib.hid (prod_58 a b qa.1 qa.2 qb.1 qb.2)
  have hnf := neq_fn
  have hnn := neq_nn
  unfold pairV at HZ HK ⊢
  go_enter Tryz.func92, Tryz.ntmps92
  go_wp2_with fail
  obtain ⟨W1, hW⟩ : ∃ W1, w.alloc (.cells #[.int .u64 a, .int .u64 b, .int .i64 64] 131) = W1 := ⟨_, rfl⟩
  have hb := blk_made w _ hW rfl
  have h2 : Nb w W1 := by rw [← hW]; exact (Nb.refl _).alloc _
  rw [hW]
  clear hW
  refine (HZ.out _).mono ?_
  rintro e w0 ⟨rfl, hz⟩
  obtain ⟨n1, c0, c1, c2⟩ := cells3 (Nb.block hz hb)
  clear hb
  go_wp2_with fail
  refine (HK.out _).mono ?_
  rintro e w1 ⟨rfl, hn⟩
  clear n1 c0 c1 c2
  go_wp2_with fail
  go_ret2
  exact ⟨rfl, (h2.trans hz).trans hn⟩
set_option maxRecDepth 100000 in
set_option maxHeartbeats 1000000 in
theorem work_64 (a b : Int) (qa : InU a) (qb : InU b) (w : World) : Calls Tryz.prog 92 #[.int .i64 64, pairV a b 64] w fun e w' => e = .returned (.tuple #[.func (Fn.func 148) #[pairV (Sgn a 32) (Sgn b 32) 32] #[], .int .i64 32]) ∧ Nb w w' := by
  have HZ := Lib.hid (base_none 64 a b 64 (by decide))
  have HK := Lib.hid (prod_64 a b qa.1 qa.2 qb.1 qb.2)
  have hnf := neq_fn
  have hnn := neq_nn
  unfold pairV at HZ HK ⊢
  go_enter Tryz.func92, Tryz.ntmps92
  go_wp2_with fail
  obtain ⟨W1, hW⟩ : ∃ W1, w.alloc (.cells #[.int .u64 a, .int .u64 b, .int .i64 64] 131) = W1 := ⟨_, rfl⟩
  have hb := blk_made w _ hW rfl
  have h2 : Nb w W1 := by rw [← hW]; exact (Nb.refl _).alloc _
  rw [hW]
  clear hW
  refine (HZ.out _).mono ?_
  rintro e w0 ⟨rfl, hz⟩
  obtain ⟨n1, c0, c1, c2⟩ := cells3 (Nb.block hz hb)
  clear hb
  go_wp2_with fail
  refine (HK.out _).mono ?_
  rintro e w1 ⟨rfl, hn⟩
  clear n1 c0 c1 c2
  go_wp2_with fail
  go_ret2
  exact ⟨rfl, (h2.trans hz).trans hn⟩
set_option maxRecDepth 100000 in
set_option maxHeartbeats 1000000 in
theorem work_59 (a b : Int) (qa : InU a) (qb : InU b) (w : World) : Calls Tryz.prog 92 #[.int .i64 59, pairV a b 64] w fun e w' => e = .returned (.tuple #[.func (Fn.func 148) #[pairV a b 64] #[], .int .i64 64]) ∧ Nb w w' := by
  have HZ := Lib.hid (base_none 59 a b 64 (by decide))
  have HK := Lib.hid (prod_59 a b qa.1 qa.2 qb.1 qb.2)
  have hnf := neq_fn
  have hnn := neq_nn
  unfold pairV at HZ HK ⊢
  go_enter Tryz.func92, Tryz.ntmps92
  go_wp2_with fail
  obtain ⟨W1, hW⟩ : ∃ W1, w.alloc (.cells #[.int .u64 a, .int .u64 b, .int .i64 64] 131) = W1 := ⟨_, rfl⟩
  have hb := blk_made w _ hW rfl
  have h2 : Nb w W1 := by rw [← hW]; exact (Nb.refl _).alloc _
  rw [hW]
  clear hW
  refine (HZ.out _).mono ?_
  rintro e w0 ⟨rfl, hz⟩
  obtain ⟨n1, c0, c1, c2⟩ := cells3 (Nb.block hz hb)
  clear hb
  go_wp2_with fail
  refine (HK.out _).mono ?_
  rintro e w1 ⟨rfl, hn⟩
  clear n1 c0 c1 c2
  go_wp2_with fail
  go_ret2
  exact ⟨rfl, (h2.trans hz).trans hn⟩
set_option maxRecDepth 100000 in
set_option maxHeartbeats 1000000 in
theorem work_65 (a b : Int) (qa : InU a) (qb : InU b) (w : World) : Calls Tryz.prog 92 #[.int .i64 65, pairV a b 64] w fun e w' => e = .returned (.tuple #[.func (Fn.func 149) #[pairV (Fld a 0 32) (Fld b 0 32) 32] #[], .int .i64 32]) ∧ Nb w w' := by
  have HZ := Lib.hid (base_none 65 a b 64 (by decide))
  have HK := Lib.hid (prod_65 a b qa.1 qa.2 qb.1 qb.2)
  have hnf := neq_fn
  have hnn := neq_nn
  unfold pairV at HZ HK ⊢
  go_enter Tryz.func92, Tryz.ntmps92
  go_wp2_with fail
  obtain ⟨W1, hW⟩ : ∃ W1, w.alloc (.cells #[.int .u64 a, .int .u64 b, .int .i64 64] 131) = W1 := ⟨_, rfl⟩
  have hb := blk_made w _ hW rfl
  have h2 : Nb w W1 := by rw [← hW]; exact (Nb.refl _).alloc _
  rw [hW]
  clear hW
  refine (HZ.out _).mono ?_
  rintro e w0 ⟨rfl, hz⟩
  obtain ⟨n1, c0, c1, c2⟩ := cells3 (Nb.block hz hb)
  clear hb
  go_wp2_with fail
  refine (HK.out _).mono ?_
  rintro e w1 ⟨rfl, hn⟩
  clear n1 c0 c1 c2
  go_wp2_with fail
  go_ret2
  exact ⟨rfl, (h2.trans hz).trans hn⟩
set_option maxRecDepth 100000 in
set_option maxHeartbeats 1000000 in
theorem work_60 (a b : Int) (qa : InU a) (qb : InU b) (w : World) : Calls Tryz.prog 92 #[.int .i64 60, pairV a b 64] w fun e w' => e = .returned (.tuple #[.func (Fn.func 149) #[pairV a b 64] #[], .int .i64 64]) ∧ Nb w w' := by
  have HZ := Lib.hid (base_none 60 a b 64 (by decide))
  have HK := Lib.hid (prod_60 a b qa.1 qa.2 qb.1 qb.2)
  have hnf := neq_fn
  have hnn := neq_nn
  unfold pairV at HZ HK ⊢
  go_enter Tryz.func92, Tryz.ntmps92
  go_wp2_with fail
  obtain ⟨W1, hW⟩ : ∃ W1, w.alloc (.cells #[.int .u64 a, .int .u64 b, .int .i64 64] 131) = W1 := ⟨_, rfl⟩
  have hb := blk_made w _ hW rfl
  have h2 : Nb w W1 := by rw [← hW]; exact (Nb.refl _).alloc _
  rw [hW]
  clear hW
  refine (HZ.out _).mono ?_
  rintro e w0 ⟨rfl, hz⟩
  obtain ⟨n1, c0, c1, c2⟩ := cells3 (Nb.block hz hb)
  clear hb
  go_wp2_with fail
  refine (HK.out _).mono ?_
  rintro e w1 ⟨rfl, hn⟩
  clear n1 c0 c1 c2
  go_wp2_with fail
  go_ret2
  exact ⟨rfl, (h2.trans hz).trans hn⟩
set_option maxRecDepth 100000 in
theorem work_none (op a b : Int) (h : HasB op = false) (w : World) : Calls Tryz.prog 92 #[.int .i64 op, pairV a b 64] w fun e w' => e = .returned (.tuple #[.nilFunc, .int .i64 0]) ∧ Nb w w' := by
  unfold HasB at h
  simp at h
  have HZ := Lib.hid (base_none op a b 64 (by omega))
  have HK := Lib.hid (prod_none op a b 64 (by omega))
  clear h
  have hnn := neq_nn
  unfold pairV at HZ HK ⊢
  go_enter Tryz.func92, Tryz.ntmps92
  go_wp2_with fail
  obtain ⟨W1, hW⟩ : ∃ W1, w.alloc (.cells #[.int .u64 a, .int .u64 b, .int .i64 64] 131) = W1 := ⟨_, rfl⟩
  have hb := blk_made w _ hW rfl
  have h2 : Nb w W1 := by rw [← hW]; exact (Nb.refl _).alloc _
  rw [hW]
  clear hW
  refine (HZ.out _).mono ?_
  rintro e w0 ⟨rfl, hz⟩
  obtain ⟨n1, c0, c1, c2⟩ := cells3 (Nb.block hz hb)
  clear hb
  go_wp2_with fail
  refine (HK.out _).mono ?_
  rintro e w1 ⟨rfl, hn⟩
  clear n1 c0 c1 c2
  go_wp2_with fail
  go_ret2
  exact ⟨rfl, (h2.trans hz).trans hn⟩
end Go.Proofs.YtmggichckhoomaaGreatDoor
