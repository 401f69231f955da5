/-
  Proved here: what the reference says is stored. Conditions: the numbers are words.
-/
import Derived.Test.YtnifoghebnjonaaDoorDb
namespace Go.Proofs.YtnifoghebnjonaaDoor
open Go.RowKit
set_option linter.unusedVariables false
theorem fld_sgn8 (b : Int) (q : InU b) : Fld (Sgn b 8) 0 8 = Fld b 0 8 := by
  obtain ⟨n, rfl⟩ := Int.eq_ofNat_of_zero_le q.1
  rw [fld0 _ 8 (in_sgn _ 8 q).1 (by decide) (by decide), fld0 _ 8 q.1 (by decide) (by decide), ← sgn_yes _ 8 (by decide) (by decide), Int.toNat_natCast]
  have e : (2 : Nat) ^ ((8 : Int).toNat - 1) = 128 := by decide
  rw [e, show (((2 ^ (8 : Int).toNat : Nat)) : Int) = 256 from by decide]
  unfold sgh
  split <;> omega
theorem fld_sgn16 (b : Int) (q : InU b) : Fld (Sgn b 16) 0 16 = Fld b 0 16 := by
  obtain ⟨n, rfl⟩ := Int.eq_ofNat_of_zero_le q.1
  rw [fld0 _ 16 (in_sgn _ 16 q).1 (by decide) (by decide), fld0 _ 16 q.1 (by decide) (by decide), ← sgn_yes _ 16 (by decide) (by decide), Int.toNat_natCast]
  have e : (2 : Nat) ^ ((16 : Int).toNat - 1) = 32768 := by decide
  rw [e, show (((2 ^ (16 : Int).toNat : Nat)) : Int) = 65536 from by decide]
  unfold sgh
  split <;> omega
theorem fld_sgn32 (b : Int) (q : InU b) : Fld (Sgn b 32) 0 32 = Fld b 0 32 := by rw [fld32 _ (in_sgn _ 32 q).1, fld32 _ q.1, sgn_m b q.1]
theorem fld_add (a c : Int) (qa : InU a) (qc : InU c) : Fld (IntKind.u64.wrap (Sgn a 32 + Sgn c 32)) 0 32 = Fld (IntKind.u64.wrap (a + c)) 0 32 := by
  have h1 := sgn_m a qa.1
  have h2 := sgn_m c qc.1
  rw [fld32 _ (in_wrap _).1, fld32 _ (in_wrap _).1, wU, wU]; omega
theorem toNat_mod (a : Int) (qa : InU a) : (Sgn a 32).toNat % 4294967296 = a.toNat % 4294967296 := by
  have h := sgn_m a qa.1
  have h1 := (in_sgn a 32 qa).1
  have h2 := qa.1
  omega
theorem fld_xor (a c : Int) (qa : InU a) (qc : InU c) : Fld (bits .xor .u64 (Sgn a 32) (Sgn c 32)) 0 32 = Fld (bits .xor .u64 a c) 0 32 := by
  have p := in_sgn a 32 qa
  have r := in_sgn c 32 qc
  rw [fld32 _ (in_xor _ _ p r).1, fld32 _ (in_xor _ _ qa qc).1, u64_xor _ _ p.1 p.2 r.1 r.2, u64_xor a c qa.1 qa.2 qc.1 qc.2]
  have h : ((Sgn a 32).toNat ^^^ (Sgn c 32).toNat) % 2 ^ 32 = (a.toNat ^^^ c.toNat) % 2 ^ 32 := by
    rw [Nat.xor_mod_two_pow, Nat.xor_mod_two_pow (a := a.toNat), show (2 : Nat) ^ 32 = 4294967296 from by decide, toNat_mod a qa, toNat_mod c qc]
  rw [show (2 : Nat) ^ 32 = 4294967296 from by decide] at h
  omega
theorem fld_and (a c : Int) (qa : InU a) (qc : InU c) : Fld (bits .and .u64 (Sgn a 32) (Sgn c 32)) 0 32 = Fld (bits .and .u64 a c) 0 32 := by
  have p := in_sgn a 32 qa
  have r := in_sgn c 32 qc
  rw [fld32 _ (in_and _ _ p r).1, fld32 _ (in_and _ _ qa qc).1, u64_and _ _ p.1 p.2 r.1 r.2, u64_and a c qa.1 qa.2 qc.1 qc.2]
  have h : ((Sgn a 32).toNat &&& (Sgn c 32).toNat) % 2 ^ 32 = (a.toNat &&& c.toNat) % 2 ^ 32 := by
    rw [Nat.and_mod_two_pow, Nat.and_mod_two_pow (a := a.toNat), show (2 : Nat) ^ 32 = 4294967296 from by decide, toNat_mod a qa, toNat_mod c qc]
  rw [show (2 : Nat) ^ 32 = 4294967296 from by decide] at h
  omega
theorem fld_or (a c : Int) (qa : InU a) (qc : InU c) : Fld (bits .or .u64 (Sgn a 32) (Sgn c 32)) 0 32 = Fld (bits .or .u64 a c) 0 32 := by
  have p := in_sgn a 32 qa
  have r := in_sgn c 32 qc
  rw [fld32 _ (in_or _ _ p r).1, fld32 _ (in_or _ _ qa qc).1, u64_or _ _ p.1 p.2 r.1 r.2, u64_or a c qa.1 qa.2 qc.1 qc.2]
  have h : ((Sgn a 32).toNat ||| (Sgn c 32).toNat) % 2 ^ 32 = (a.toNat ||| c.toNat) % 2 ^ 32 := by
    rw [Nat.or_mod_two_pow, Nat.or_mod_two_pow (a := a.toNat), show (2 : Nat) ^ 32 = 4294967296 from by decide, toNat_mod a qa, toNat_mod c qc]
  rw [show (2 : Nat) ^ 32 = 4294967296 from by decide] at h
  omega
theorem pick_t (x y : Int) : PickI true x y = x := rfl
theorem pick_f (x y : Int) : PickI false x y = y := rfl
theorem s64_inj (x y : Int) (qx : InU x) (qy : InU y) (h1 : LtS x y = false) (h2 : LtS y x = false) : x = y := by
  unfold LtS S64 wrap64 at h1 h2
  have := qx.1; have := qx.2; have := qy.1; have := qy.2
  simp at h1 h2
  omega
theorem lts_asymm (x y : Int) (h : LtS x y = true) : LtS y x = false := by
  unfold LtS at *
  simp at *
  omega
theorem pick_max (x y : Int) (qx : InU x) (qy : InU y) : PickI (LtS y x) x y = PickI (LtS x y) y x := by
  unfold PickI
  cases h1 : LtS x y
  · cases h2 : LtS y x
    · simp; exact (s64_inj x y qx qy h1 h2).symm
    · simp
  · rw [lts_asymm x y h1]; simp
set_option maxRecDepth 100000 in
set_option maxHeartbeats 1000000 in
theorem rst_18 (old b : Int) (qo : InU old) (qb : InU b) (HL : Hid (∀ w, Calls Tryd.prog 82 #[.int .i64 18] w fun e w' => e = .returned (.bool true) ∧ w = w')) (HS : Hid (∀ w, Calls Tryd.prog 78 #[.int .i64 18] w fun e w' => e = .returned (.int .i64 1) ∧ w = w')) (w : World) :
    Calls Tryd.prog 38 #[.int .i64 18, .int .u64 old, .int .u64 b] w fun e w' => e = .returned (.int .u64 (Fld b 0 8)) ∧ w = w' := by
  have HE : Hid (Fld ((Sgn b 8)) 0 8 = Fld b 0 8) := Lib.hid (fld_sgn8 b qb)
  have QV : InU ((Sgn b 8)) := (in_sgn _ 8 qb)
  go_enter Tryd.func38, Tryd.ntmps38
  repeat (first | (with_reducible refine then_exit ?_) | (with_reducible refine in_same ?_) | ((with_reducible refine in_other ?_ ?_); decide) | (with_reducible refine then_ret ?_) | (with_reducible refine in_ret ?_) | go_values | go_skip | go_guarded | go_step | go_upon | go_back)
  refine (HL.out _).mono ?_
  rintro e w' ⟨rfl, rfl⟩
  simp only []
  repeat (first | (with_reducible refine then_exit ?_) | (with_reducible refine in_same ?_) | ((with_reducible refine in_other ?_ ?_); decide) | (with_reducible refine then_ret ?_) | (with_reducible refine in_ret ?_) | go_values | go_skip | go_guarded | go_step | go_upon | go_back)
  refine (HS.out _).mono ?_
  rintro e w' ⟨rfl, rfl⟩
  simp only []
  repeat (first | (with_reducible refine then_exit ?_) | (with_reducible refine in_same ?_) | ((with_reducible refine in_other ?_ ?_); decide) | (with_reducible refine then_ret ?_) | (with_reducible refine in_ret ?_) | go_values | go_skip | go_guarded | go_step | go_upon | go_back)
  refine (rsign_any _ _ qo.1 qo.2 _).mono ?_
  rintro e w' ⟨rfl, rfl⟩
  simp only []
  repeat (first | (with_reducible refine then_exit ?_) | (with_reducible refine in_same ?_) | ((with_reducible refine in_other ?_ ?_); decide) | (with_reducible refine then_ret ?_) | (with_reducible refine in_ret ?_) | go_values | go_skip | go_guarded | go_step | go_upon | go_back)
  refine (rsign_any _ _ qb.1 qb.2 _).mono ?_
  rintro e w' ⟨rfl, rfl⟩
  simp only []
  repeat (first | (with_reducible refine then_exit ?_) | (with_reducible refine in_same ?_) | ((with_reducible refine in_other ?_ ?_); decide) | (with_reducible refine then_ret ?_) | (with_reducible refine in_ret ?_) | go_values | go_skip | go_guarded | go_step | go_upon | go_back)
  refine (rfield_any _ _ _ qo.1 qo.2 _).mono ?_
  rintro e w' ⟨rfl, rfl⟩
  simp only []
  repeat (first | (with_reducible refine then_exit ?_) | (with_reducible refine in_same ?_) | ((with_reducible refine in_other ?_ ?_); decide) | (with_reducible refine then_ret ?_) | (with_reducible refine in_ret ?_) | go_values | go_skip | go_guarded | go_step | go_upon | go_back)
  refine (rfield_any _ _ _ qb.1 qb.2 _).mono ?_
  rintro e w' ⟨rfl, rfl⟩
  simp only []
  repeat (first | (with_reducible refine then_exit ?_) | (with_reducible refine in_same ?_) | ((with_reducible refine in_other ?_ ?_); decide) | (with_reducible refine then_ret ?_) | (with_reducible refine in_ret ?_) | go_values | go_skip | go_guarded | go_step | go_upon | go_back)
  refine (rfield_any _ _ _ QV.1 QV.2 _).mono ?_
  rintro e w' ⟨rfl, rfl⟩
  simp only []
  repeat (first | (with_reducible refine then_exit ?_) | (with_reducible refine in_same ?_) | ((with_reducible refine in_other ?_ ?_); decide) | (with_reducible refine then_ret ?_) | (with_reducible refine in_ret ?_) | go_values | go_skip | go_guarded | go_step | go_upon | go_back)
  go_ret
  exact ⟨ret_int HE.out, rfl⟩
set_option maxRecDepth 100000 in
set_option maxHeartbeats 1000000 in
theorem rst_19 (old b : Int) (qo : InU old) (qb : InU b) (HL : Hid (∀ w, Calls Tryd.prog 82 #[.int .i64 19] w fun e w' => e = .returned (.bool true) ∧ w = w')) (HS : Hid (∀ w, Calls Tryd.prog 78 #[.int .i64 19] w fun e w' => e = .returned (.int .i64 2) ∧ w = w')) (w : World) :
    Calls Tryd.prog 38 #[.int .i64 19, .int .u64 old, .int .u64 b] w fun e w' => e = .returned (.int .u64 (Fld b 0 16)) ∧ w = w' := by
  have HE : Hid (Fld ((Sgn b 16)) 0 16 = Fld b 0 16) := Lib.hid (fld_sgn16 b qb)
  have QV : InU ((Sgn b 16)) := (in_sgn _ 16 qb)
  go_enter Tryd.func38, Tryd.ntmps38
  repeat (first | (with_reducible refine then_exit ?_) | (with_reducible refine in_same ?_) | ((with_reducible refine in_other ?_ ?_); decide) | (with_reducible refine then_ret ?_) | (with_reducible refine in_ret ?_) | go_values | go_skip | go_guarded | go_step | go_upon | go_back)
  refine (HL.out _).mono ?_
  rintro e w' ⟨rfl, rfl⟩
  simp only []
  repeat (first | (with_reducible refine then_exit ?_) | (with_reducible refine in_same ?_) | ((with_reducible refine in_other ?_ ?_); decide) | (with_reducible refine then_ret ?_) | (with_reducible refine in_ret ?_) | go_values | go_skip | go_guarded | go_step | go_upon | go_back)
  refine (HS.out _).mono ?_
  rintro e w' ⟨rfl, rfl⟩
  simp only []
  repeat (first | (with_reducible refine then_exit ?_) | (with_reducible refine in_same ?_) | ((with_reducible refine in_other ?_ ?_); decide) | (with_reducible refine then_ret ?_) | (with_reducible refine in_ret ?_) | go_values | go_skip | go_guarded | go_step | go_upon | go_back)
  refine (rsign_any _ _ qo.1 qo.2 _).mono ?_
  rintro e w' ⟨rfl, rfl⟩
  simp only []
  repeat (first | (with_reducible refine then_exit ?_) | (with_reducible refine in_same ?_) | ((with_reducible refine in_other ?_ ?_); decide) | (with_reducible refine then_ret ?_) | (with_reducible refine in_ret ?_) | go_values | go_skip | go_guarded | go_step | go_upon | go_back)
  refine (rsign_any _ _ qb.1 qb.2 _).mono ?_
  rintro e w' ⟨rfl, rfl⟩
  simp only []
  repeat (first | (with_reducible refine then_exit ?_) | (with_reducible refine in_same ?_) | ((with_reducible refine in_other ?_ ?_); decide) | (with_reducible refine then_ret ?_) | (with_reducible refine in_ret ?_) | go_values | go_skip | go_guarded | go_step | go_upon | go_back)
  refine (rfield_any _ _ _ qo.1 qo.2 _).mono ?_
  rintro e w' ⟨rfl, rfl⟩
  simp only []
  repeat (first | (with_reducible refine then_exit ?_) | (with_reducible refine in_same ?_) | ((with_reducible refine in_other ?_ ?_); decide) | (with_reducible refine then_ret ?_) | (with_reducible refine in_ret ?_) | go_values | go_skip | go_guarded | go_step | go_upon | go_back)
  refine (rfield_any _ _ _ qb.1 qb.2 _).mono ?_
  rintro e w' ⟨rfl, rfl⟩
  simp only []
  repeat (first | (with_reducible refine then_exit ?_) | (with_reducible refine in_same ?_) | ((with_reducible refine in_other ?_ ?_); decide) | (with_reducible refine then_ret ?_) | (with_reducible refine in_ret ?_) | go_values | go_skip | go_guarded | go_step | go_upon | go_back)
  refine (rfield_any _ _ _ QV.1 QV.2 _).mono ?_
  rintro e w' ⟨rfl, rfl⟩
  simp only []
  repeat (first | (with_reducible refine then_exit ?_) | (with_reducible refine in_same ?_) | ((with_reducible refine in_other ?_ ?_); decide) | (with_reducible refine then_ret ?_) | (with_reducible refine in_ret ?_) | go_values | go_skip | go_guarded | go_step | go_upon | go_back)
  go_ret
  exact ⟨ret_int HE.out, rfl⟩
set_option maxRecDepth 100000 in
set_option maxHeartbeats 1000000 in
theorem rst_20 (old b : Int) (qo : InU old) (qb : InU b) (HL : Hid (∀ w, Calls Tryd.prog 82 #[.int .i64 20] w fun e w' => e = .returned (.bool true) ∧ w = w')) (HS : Hid (∀ w, Calls Tryd.prog 78 #[.int .i64 20] w fun e w' => e = .returned (.int .i64 4) ∧ w = w')) (w : World) :
    Calls Tryd.prog 38 #[.int .i64 20, .int .u64 old, .int .u64 b] w fun e w' => e = .returned (.int .u64 (Fld b 0 32)) ∧ w = w' := by
  have HE : Hid (Fld ((Sgn b 32)) 0 32 = Fld b 0 32) := Lib.hid (fld_sgn32 b qb)
  have QV : InU ((Sgn b 32)) := (in_sgn _ 32 qb)
  go_enter Tryd.func38, Tryd.ntmps38
  repeat (first | (with_reducible refine then_exit ?_) | (with_reducible refine in_same ?_) | ((with_reducible refine in_other ?_ ?_); decide) | (with_reducible refine then_ret ?_) | (with_reducible refine in_ret ?_) | go_values | go_skip | go_guarded | go_step | go_upon | go_back)
  refine (HL.out _).mono ?_
  rintro e w' ⟨rfl, rfl⟩
  simp only []
  repeat (first | (with_reducible refine then_exit ?_) | (with_reducible refine in_same ?_) | ((with_reducible refine in_other ?_ ?_); decide) | (with_reducible refine then_ret ?_) | (with_reducible refine in_ret ?_) | go_values | go_skip | go_guarded | go_step | go_upon | go_back)
  refine (HS.out _).mono ?_
  rintro e w' ⟨rfl, rfl⟩
  simp only []
  repeat (first | (with_reducible refine then_exit ?_) | (with_reducible refine in_same ?_) | ((with_reducible refine in_other ?_ ?_); decide) | (with_reducible refine then_ret ?_) | (with_reducible refine in_ret ?_) | go_values | go_skip | go_guarded | go_step | go_upon | go_back)
  refine (rsign_any _ _ qo.1 qo.2 _).mono ?_
  rintro e w' ⟨rfl, rfl⟩
  simp only []
  repeat (first | (with_reducible refine then_exit ?_) | (with_reducible refine in_same ?_) | ((with_reducible refine in_other ?_ ?_); decide) | (with_reducible refine then_ret ?_) | (with_reducible refine in_ret ?_) | go_values | go_skip | go_guarded | go_step | go_upon | go_back)
  refine (rsign_any _ _ qb.1 qb.2 _).mono ?_
  rintro e w' ⟨rfl, rfl⟩
  simp only []
  repeat (first | (with_reducible refine then_exit ?_) | (with_reducible refine in_same ?_) | ((with_reducible refine in_other ?_ ?_); decide) | (with_reducible refine then_ret ?_) | (with_reducible refine in_ret ?_) | go_values | go_skip | go_guarded | go_step | go_upon | go_back)
  refine (rfield_any _ _ _ qo.1 qo.2 _).mono ?_
  rintro e w' ⟨rfl, rfl⟩
  simp only []
  repeat (first | (with_reducible refine then_exit ?_) | (with_reducible refine in_same ?_) | ((with_reducible refine in_other ?_ ?_); decide) | (with_reducible refine then_ret ?_) | (with_reducible refine in_ret ?_) | go_values | go_skip | go_guarded | go_step | go_upon | go_back)
  refine (rfield_any _ _ _ qb.1 qb.2 _).mono ?_
  rintro e w' ⟨rfl, rfl⟩
  simp only []
  repeat (first | (with_reducible refine then_exit ?_) | (with_reducible refine in_same ?_) | ((with_reducible refine in_other ?_ ?_); decide) | (with_reducible refine then_ret ?_) | (with_reducible refine in_ret ?_) | go_values | go_skip | go_guarded | go_step | go_upon | go_back)
  refine (rfield_any _ _ _ QV.1 QV.2 _).mono ?_
  rintro e w' ⟨rfl, rfl⟩
  simp only []
  repeat (first | (with_reducible refine then_exit ?_) | (with_reducible refine in_same ?_) | ((with_reducible refine in_other ?_ ?_); decide) | (with_reducible refine then_ret ?_) | (with_reducible refine in_ret ?_) | go_values | go_skip | go_guarded | go_step | go_upon | go_back)
  go_ret
  exact ⟨ret_int HE.out, rfl⟩
set_option maxRecDepth 100000 in
set_option maxHeartbeats 1000000 in
theorem rst_21 (old b : Int) (qo : InU old) (qb : InU b) (HL : Hid (∀ w, Calls Tryd.prog 82 #[.int .i64 21] w fun e w' => e = .returned (.bool true) ∧ w = w')) (HS : Hid (∀ w, Calls Tryd.prog 78 #[.int .i64 21] w fun e w' => e = .returned (.int .i64 8) ∧ w = w')) (w : World) :
    Calls Tryd.prog 38 #[.int .i64 21, .int .u64 old, .int .u64 b] w fun e w' => e = .returned (.int .u64 (Fld b 0 64)) ∧ w = w' := by
  have HE : Hid (Fld (b) 0 64 = Fld b 0 64) := Lib.hid (rfl)
  have QV : InU (b) := qb
  have g1 := Lib.hid (sgn64 old)
  have g2 := Lib.hid (sgn64 b)
  have g3 := Lib.hid (fld64 old qo)
  have g4 := Lib.hid (fld64 b qb)
  go_enter Tryd.func38, Tryd.ntmps38
  repeat (first | (with_reducible refine then_exit ?_) | (with_reducible refine in_same ?_) | ((with_reducible refine in_other ?_ ?_); decide) | (with_reducible refine then_ret ?_) | (with_reducible refine in_ret ?_) | go_values | go_skip | go_guarded | go_step | go_upon | go_back)
  refine (HL.out _).mono ?_
  rintro e w' ⟨rfl, rfl⟩
  simp only []
  repeat (first | (with_reducible refine then_exit ?_) | (with_reducible refine in_same ?_) | ((with_reducible refine in_other ?_ ?_); decide) | (with_reducible refine then_ret ?_) | (with_reducible refine in_ret ?_) | go_values | go_skip | go_guarded | go_step | go_upon | go_back)
  refine (HS.out _).mono ?_
  rintro e w' ⟨rfl, rfl⟩
  simp only []
  repeat (first | (with_reducible refine then_exit ?_) | (with_reducible refine in_same ?_) | ((with_reducible refine in_other ?_ ?_); decide) | (with_reducible refine then_ret ?_) | (with_reducible refine in_ret ?_) | go_values | go_skip | go_guarded | go_step | go_upon | go_back)
  refine (rsign_any _ _ qo.1 qo.2 _).mono ?_
  rintro e w' ⟨rfl, rfl⟩
  rw [g1.out]
  simp only []
  repeat (first | (with_reducible refine then_exit ?_) | (with_reducible refine in_same ?_) | ((with_reducible refine in_other ?_ ?_); decide) | (with_reducible refine then_ret ?_) | (with_reducible refine in_ret ?_) | go_values | go_skip | go_guarded | go_step | go_upon | go_back)
  refine (rsign_any _ _ qb.1 qb.2 _).mono ?_
  rintro e w' ⟨rfl, rfl⟩
  rw [g2.out]
  simp only []
  repeat (first | (with_reducible refine then_exit ?_) | (with_reducible refine in_same ?_) | ((with_reducible refine in_other ?_ ?_); decide) | (with_reducible refine then_ret ?_) | (with_reducible refine in_ret ?_) | go_values | go_skip | go_guarded | go_step | go_upon | go_back)
  refine (rfield_any _ _ _ qo.1 qo.2 _).mono ?_
  rintro e w' ⟨rfl, rfl⟩
  rw [g3.out]
  simp only []
  repeat (first | (with_reducible refine then_exit ?_) | (with_reducible refine in_same ?_) | ((with_reducible refine in_other ?_ ?_); decide) | (with_reducible refine then_ret ?_) | (with_reducible refine in_ret ?_) | go_values | go_skip | go_guarded | go_step | go_upon | go_back)
  refine (rfield_any _ _ _ qb.1 qb.2 _).mono ?_
  rintro e w' ⟨rfl, rfl⟩
  rw [g4.out]
  simp only []
  repeat (first | (with_reducible refine then_exit ?_) | (with_reducible refine in_same ?_) | ((with_reducible refine in_other ?_ ?_); decide) | (with_reducible refine then_ret ?_) | (with_reducible refine in_ret ?_) | go_values | go_skip | go_guarded | go_step | go_upon | go_back)
  refine (rfield_any _ _ _ QV.1 QV.2 _).mono ?_
  rintro e w' ⟨rfl, rfl⟩
  simp only []
  repeat (first | (with_reducible refine then_exit ?_) | (with_reducible refine in_same ?_) | ((with_reducible refine in_other ?_ ?_); decide) | (with_reducible refine then_ret ?_) | (with_reducible refine in_ret ?_) | go_values | go_skip | go_guarded | go_step | go_upon | go_back)
  go_ret
  exact ⟨ret_int HE.out, rfl⟩
set_option maxRecDepth 100000 in
set_option maxHeartbeats 1000000 in
theorem rst_67 (old b : Int) (qo : InU old) (qb : InU b) (HL : Hid (∀ w, Calls Tryd.prog 82 #[.int .i64 67] w fun e w' => e = .returned (.bool true) ∧ w = w')) (HS : Hid (∀ w, Calls Tryd.prog 78 #[.int .i64 67] w fun e w' => e = .returned (.int .i64 4) ∧ w = w')) (w : World) :
    Calls Tryd.prog 38 #[.int .i64 67, .int .u64 old, .int .u64 b] w fun e w' => e = .returned (.int .u64 (Fld b 0 32)) ∧ w = w' := by
  have HE : Hid (Fld ((Sgn b 32)) 0 32 = Fld b 0 32) := Lib.hid (fld_sgn32 b qb)
  have QV : InU ((Sgn b 32)) := (in_sgn _ 32 qb)
  go_enter Tryd.func38, Tryd.ntmps38
  repeat (first | (with_reducible refine then_exit ?_) | (with_reducible refine in_same ?_) | ((with_reducible refine in_other ?_ ?_); decide) | (with_reducible refine then_ret ?_) | (with_reducible refine in_ret ?_) | go_values | go_skip | go_guarded | go_step | go_upon | go_back)
  refine (HL.out _).mono ?_
  rintro e w' ⟨rfl, rfl⟩
  simp only []
  repeat (first | (with_reducible refine then_exit ?_) | (with_reducible refine in_same ?_) | ((with_reducible refine in_other ?_ ?_); decide) | (with_reducible refine then_ret ?_) | (with_reducible refine in_ret ?_) | go_values | go_skip | go_guarded | go_step | go_upon | go_back)
  refine (HS.out _).mono ?_
  rintro e w' ⟨rfl, rfl⟩
  simp only []
  repeat (first | (with_reducible refine then_exit ?_) | (with_reducible refine in_same ?_) | ((with_reducible refine in_other ?_ ?_); decide) | (with_reducible refine then_ret ?_) | (with_reducible refine in_ret ?_) | go_values | go_skip | go_guarded | go_step | go_upon | go_back)
  refine (rsign_any _ _ qo.1 qo.2 _).mono ?_
  rintro e w' ⟨rfl, rfl⟩
  simp only []
  repeat (first | (with_reducible refine then_exit ?_) | (with_reducible refine in_same ?_) | ((with_reducible refine in_other ?_ ?_); decide) | (with_reducible refine then_ret ?_) | (with_reducible refine in_ret ?_) | go_values | go_skip | go_guarded | go_step | go_upon | go_back)
  refine (rsign_any _ _ qb.1 qb.2 _).mono ?_
  rintro e w' ⟨rfl, rfl⟩
  simp only []
  repeat (first | (with_reducible refine then_exit ?_) | (with_reducible refine in_same ?_) | ((with_reducible refine in_other ?_ ?_); decide) | (with_reducible refine then_ret ?_) | (with_reducible refine in_ret ?_) | go_values | go_skip | go_guarded | go_step | go_upon | go_back)
  refine (rfield_any _ _ _ qo.1 qo.2 _).mono ?_
  rintro e w' ⟨rfl, rfl⟩
  simp only []
  repeat (first | (with_reducible refine then_exit ?_) | (with_reducible refine in_same ?_) | ((with_reducible refine in_other ?_ ?_); decide) | (with_reducible refine then_ret ?_) | (with_reducible refine in_ret ?_) | go_values | go_skip | go_guarded | go_step | go_upon | go_back)
  refine (rfield_any _ _ _ qb.1 qb.2 _).mono ?_
  rintro e w' ⟨rfl, rfl⟩
  simp only []
  repeat (first | (with_reducible refine then_exit ?_) | (with_reducible refine in_same ?_) | ((with_reducible refine in_other ?_ ?_); decide) | (with_reducible refine then_ret ?_) | (with_reducible refine in_ret ?_) | go_values | go_skip | go_guarded | go_step | go_upon | go_back)
  refine (rfield_any _ _ _ QV.1 QV.2 _).mono ?_
  rintro e w' ⟨rfl, rfl⟩
  simp only []
  repeat (first | (with_reducible refine then_exit ?_) | (with_reducible refine in_same ?_) | ((with_reducible refine in_other ?_ ?_); decide) | (with_reducible refine then_ret ?_) | (with_reducible refine in_ret ?_) | go_values | go_skip | go_guarded | go_step | go_upon | go_back)
  go_ret
  exact ⟨ret_int HE.out, rfl⟩
set_option maxRecDepth 100000 in
set_option maxHeartbeats 1000000 in
theorem rst_68 (old b : Int) (qo : InU old) (qb : InU b) (HL : Hid (∀ w, Calls Tryd.prog 82 #[.int .i64 68] w fun e w' => e = .returned (.bool true) ∧ w = w')) (HS : Hid (∀ w, Calls Tryd.prog 78 #[.int .i64 68] w fun e w' => e = .returned (.int .i64 4) ∧ w = w')) (w : World) :
    Calls Tryd.prog 38 #[.int .i64 68, .int .u64 old, .int .u64 b] w fun e w' => e = .returned (.int .u64 (Fld b 0 32)) ∧ w = w' := by
  have HE : Hid (Fld ((Sgn b 32)) 0 32 = Fld b 0 32) := Lib.hid (fld_sgn32 b qb)
  have QV : InU ((Sgn b 32)) := (in_sgn _ 32 qb)
  go_enter Tryd.func38, Tryd.ntmps38
  repeat (first | (with_reducible refine then_exit ?_) | (with_reducible refine in_same ?_) | ((with_reducible refine in_other ?_ ?_); decide) | (with_reducible refine then_ret ?_) | (with_reducible refine in_ret ?_) | go_values | go_skip | go_guarded | go_step | go_upon | go_back)
  refine (HL.out _).mono ?_
  rintro e w' ⟨rfl, rfl⟩
  simp only []
  repeat (first | (with_reducible refine then_exit ?_) | (with_reducible refine in_same ?_) | ((with_reducible refine in_other ?_ ?_); decide) | (with_reducible refine then_ret ?_) | (with_reducible refine in_ret ?_) | go_values | go_skip | go_guarded | go_step | go_upon | go_back)
  refine (HS.out _).mono ?_
  rintro e w' ⟨rfl, rfl⟩
  simp only []
  repeat (first | (with_reducible refine then_exit ?_) | (with_reducible refine in_same ?_) | ((with_reducible refine in_other ?_ ?_); decide) | (with_reducible refine then_ret ?_) | (with_reducible refine in_ret ?_) | go_values | go_skip | go_guarded | go_step | go_upon | go_back)
  refine (rsign_any _ _ qo.1 qo.2 _).mono ?_
  rintro e w' ⟨rfl, rfl⟩
  simp only []
  repeat (first | (with_reducible refine then_exit ?_) | (with_reducible refine in_same ?_) | ((with_reducible refine in_other ?_ ?_); decide) | (with_reducible refine then_ret ?_) | (with_reducible refine in_ret ?_) | go_values | go_skip | go_guarded | go_step | go_upon | go_back)
  refine (rsign_any _ _ qb.1 qb.2 _).mono ?_
  rintro e w' ⟨rfl, rfl⟩
  simp only []
  repeat (first | (with_reducible refine then_exit ?_) | (with_reducible refine in_same ?_) | ((with_reducible refine in_other ?_ ?_); decide) | (with_reducible refine then_ret ?_) | (with_reducible refine in_ret ?_) | go_values | go_skip | go_guarded | go_step | go_upon | go_back)
  refine (rfield_any _ _ _ qo.1 qo.2 _).mono ?_
  rintro e w' ⟨rfl, rfl⟩
  simp only []
  repeat (first | (with_reducible refine then_exit ?_) | (with_reducible refine in_same ?_) | ((with_reducible refine in_other ?_ ?_); decide) | (with_reducible refine then_ret ?_) | (with_reducible refine in_ret ?_) | go_values | go_skip | go_guarded | go_step | go_upon | go_back)
  refine (rfield_any _ _ _ qb.1 qb.2 _).mono ?_
  rintro e w' ⟨rfl, rfl⟩
  simp only []
  repeat (first | (with_reducible refine then_exit ?_) | (with_reducible refine in_same ?_) | ((with_reducible refine in_other ?_ ?_); decide) | (with_reducible refine then_ret ?_) | (with_reducible refine in_ret ?_) | go_values | go_skip | go_guarded | go_step | go_upon | go_back)
  refine (rfield_any _ _ _ QV.1 QV.2 _).mono ?_
  rintro e w' ⟨rfl, rfl⟩
  simp only []
  repeat (first | (with_reducible refine then_exit ?_) | (with_reducible refine in_same ?_) | ((with_reducible refine in_other ?_ ?_); decide) | (with_reducible refine then_ret ?_) | (with_reducible refine in_ret ?_) | go_values | go_skip | go_guarded | go_step | go_upon | go_back)
  go_ret
  exact ⟨ret_int HE.out, rfl⟩
set_option maxRecDepth 100000 in
set_option maxHeartbeats 1000000 in
theorem rst_69 (old b : Int) (qo : InU old) (qb : InU b) (HL : Hid (∀ w, Calls Tryd.prog 82 #[.int .i64 69] w fun e w' => e = .returned (.bool true) ∧ w = w')) (HS : Hid (∀ w, Calls Tryd.prog 78 #[.int .i64 69] w fun e w' => e = .returned (.int .i64 4) ∧ w = w')) (w : World) :
    Calls Tryd.prog 38 #[.int .i64 69, .int .u64 old, .int .u64 b] w fun e w' => e = .returned (.int .u64 (Fld (IntKind.u64.wrap (old + b)) 0 32)) ∧ w = w' := by
  have HE : Hid (Fld (IntKind.u64.wrap ((Sgn old 32) + (Sgn b 32))) 0 32 = Fld (IntKind.u64.wrap (old + b)) 0 32) := Lib.hid (fld_add old b qo qb)
  have QV : InU (IntKind.u64.wrap ((Sgn old 32) + (Sgn b 32))) := in_wrap _
  go_enter Tryd.func38, Tryd.ntmps38
  repeat (first | (with_reducible refine then_exit ?_) | (with_reducible refine in_same ?_) | ((with_reducible refine in_other ?_ ?_); decide) | (with_reducible refine then_ret ?_) | (with_reducible refine in_ret ?_) | go_values | go_skip | go_guarded | go_step | go_upon | go_back)
  refine (HL.out _).mono ?_
  rintro e w' ⟨rfl, rfl⟩
  simp only []
  repeat (first | (with_reducible refine then_exit ?_) | (with_reducible refine in_same ?_) | ((with_reducible refine in_other ?_ ?_); decide) | (with_reducible refine then_ret ?_) | (with_reducible refine in_ret ?_) | go_values | go_skip | go_guarded | go_step | go_upon | go_back)
  refine (HS.out _).mono ?_
  rintro e w' ⟨rfl, rfl⟩
  simp only []
  repeat (first | (with_reducible refine then_exit ?_) | (with_reducible refine in_same ?_) | ((with_reducible refine in_other ?_ ?_); decide) | (with_reducible refine then_ret ?_) | (with_reducible refine in_ret ?_) | go_values | go_skip | go_guarded | go_step | go_upon | go_back)
  refine (rsign_any _ _ qo.1 qo.2 _).mono ?_
  rintro e w' ⟨rfl, rfl⟩
  simp only []
  repeat (first | (with_reducible refine then_exit ?_) | (with_reducible refine in_same ?_) | ((with_reducible refine in_other ?_ ?_); decide) | (with_reducible refine then_ret ?_) | (with_reducible refine in_ret ?_) | go_values | go_skip | go_guarded | go_step | go_upon | go_back)
  refine (rsign_any _ _ qb.1 qb.2 _).mono ?_
  rintro e w' ⟨rfl, rfl⟩
  simp only []
  repeat (first | (with_reducible refine then_exit ?_) | (with_reducible refine in_same ?_) | ((with_reducible refine in_other ?_ ?_); decide) | (with_reducible refine then_ret ?_) | (with_reducible refine in_ret ?_) | go_values | go_skip | go_guarded | go_step | go_upon | go_back)
  refine (rfield_any _ _ _ qo.1 qo.2 _).mono ?_
  rintro e w' ⟨rfl, rfl⟩
  simp only []
  repeat (first | (with_reducible refine then_exit ?_) | (with_reducible refine in_same ?_) | ((with_reducible refine in_other ?_ ?_); decide) | (with_reducible refine then_ret ?_) | (with_reducible refine in_ret ?_) | go_values | go_skip | go_guarded | go_step | go_upon | go_back)
  refine (rfield_any _ _ _ qb.1 qb.2 _).mono ?_
  rintro e w' ⟨rfl, rfl⟩
  simp only []
  repeat (first | (with_reducible refine then_exit ?_) | (with_reducible refine in_same ?_) | ((with_reducible refine in_other ?_ ?_); decide) | (with_reducible refine then_ret ?_) | (with_reducible refine in_ret ?_) | go_values | go_skip | go_guarded | go_step | go_upon | go_back)
  refine (rfield_any _ _ _ QV.1 QV.2 _).mono ?_
  rintro e w' ⟨rfl, rfl⟩
  simp only []
  repeat (first | (with_reducible refine then_exit ?_) | (with_reducible refine in_same ?_) | ((with_reducible refine in_other ?_ ?_); decide) | (with_reducible refine then_ret ?_) | (with_reducible refine in_ret ?_) | go_values | go_skip | go_guarded | go_step | go_upon | go_back)
  go_ret
  exact ⟨ret_int HE.out, rfl⟩
set_option maxRecDepth 100000 in
set_option maxHeartbeats 1000000 in
theorem rst_70 (old b : Int) (qo : InU old) (qb : InU b) (HL : Hid (∀ w, Calls Tryd.prog 82 #[.int .i64 70] w fun e w' => e = .returned (.bool true) ∧ w = w')) (HS : Hid (∀ w, Calls Tryd.prog 78 #[.int .i64 70] w fun e w' => e = .returned (.int .i64 4) ∧ w = w')) (w : World) :
    Calls Tryd.prog 38 #[.int .i64 70, .int .u64 old, .int .u64 b] w fun e w' => e = .returned (.int .u64 (Fld (bits .xor .u64 old b) 0 32)) ∧ w = w' := by
  have HE : Hid (Fld (bits .xor .u64 (Sgn old 32) (Sgn b 32)) 0 32 = Fld (bits .xor .u64 old b) 0 32) := Lib.hid (fld_xor old b qo qb)
  have QV : InU (bits .xor .u64 (Sgn old 32) (Sgn b 32)) := in_xor _ _ (in_sgn _ 32 qo) (in_sgn _ 32 qb)
  go_enter Tryd.func38, Tryd.ntmps38
  repeat (first | (with_reducible refine then_exit ?_) | (with_reducible refine in_same ?_) | ((with_reducible refine in_other ?_ ?_); decide) | (with_reducible refine then_ret ?_) | (with_reducible refine in_ret ?_) | go_values | go_skip | go_guarded | go_step | go_upon | go_back)
  refine (HL.out _).mono ?_
  rintro e w' ⟨rfl, rfl⟩
  simp only []
  repeat (first | (with_reducible refine then_exit ?_) | (with_reducible refine in_same ?_) | ((with_reducible refine in_other ?_ ?_); decide) | (with_reducible refine then_ret ?_) | (with_reducible refine in_ret ?_) | go_values | go_skip | go_guarded | go_step | go_upon | go_back)
  refine (HS.out _).mono ?_
  rintro e w' ⟨rfl, rfl⟩
  simp only []
  repeat (first | (with_reducible refine then_exit ?_) | (with_reducible refine in_same ?_) | ((with_reducible refine in_other ?_ ?_); decide) | (with_reducible refine then_ret ?_) | (with_reducible refine in_ret ?_) | go_values | go_skip | go_guarded | go_step | go_upon | go_back)
  refine (rsign_any _ _ qo.1 qo.2 _).mono ?_
  rintro e w' ⟨rfl, rfl⟩
  simp only []
  repeat (first | (with_reducible refine then_exit ?_) | (with_reducible refine in_same ?_) | ((with_reducible refine in_other ?_ ?_); decide) | (with_reducible refine then_ret ?_) | (with_reducible refine in_ret ?_) | go_values | go_skip | go_guarded | go_step | go_upon | go_back)
  refine (rsign_any _ _ qb.1 qb.2 _).mono ?_
  rintro e w' ⟨rfl, rfl⟩
  simp only []
  repeat (first | (with_reducible refine then_exit ?_) | (with_reducible refine in_same ?_) | ((with_reducible refine in_other ?_ ?_); decide) | (with_reducible refine then_ret ?_) | (with_reducible refine in_ret ?_) | go_values | go_skip | go_guarded | go_step | go_upon | go_back)
  refine (rfield_any _ _ _ qo.1 qo.2 _).mono ?_
  rintro e w' ⟨rfl, rfl⟩
  simp only []
  repeat (first | (with_reducible refine then_exit ?_) | (with_reducible refine in_same ?_) | ((with_reducible refine in_other ?_ ?_); decide) | (with_reducible refine then_ret ?_) | (with_reducible refine in_ret ?_) | go_values | go_skip | go_guarded | go_step | go_upon | go_back)
  refine (rfield_any _ _ _ qb.1 qb.2 _).mono ?_
  rintro e w' ⟨rfl, rfl⟩
  simp only []
  repeat (first | (with_reducible refine then_exit ?_) | (with_reducible refine in_same ?_) | ((with_reducible refine in_other ?_ ?_); decide) | (with_reducible refine then_ret ?_) | (with_reducible refine in_ret ?_) | go_values | go_skip | go_guarded | go_step | go_upon | go_back)
  refine (rfield_any _ _ _ QV.1 QV.2 _).mono ?_
  rintro e w' ⟨rfl, rfl⟩
  simp only []
  repeat (first | (with_reducible refine then_exit ?_) | (with_reducible refine in_same ?_) | ((with_reducible refine in_other ?_ ?_); decide) | (with_reducible refine then_ret ?_) | (with_reducible refine in_ret ?_) | go_values | go_skip | go_guarded | go_step | go_upon | go_back)
  go_ret
  exact ⟨ret_int HE.out, rfl⟩
set_option maxRecDepth 100000 in
set_option maxHeartbeats 1000000 in
theorem rst_71 (old b : Int) (qo : InU old) (qb : InU b) (HL : Hid (∀ w, Calls Tryd.prog 82 #[.int .i64 71] w fun e w' => e = .returned (.bool true) ∧ w = w')) (HS : Hid (∀ w, Calls Tryd.prog 78 #[.int .i64 71] w fun e w' => e = .returned (.int .i64 4) ∧ w = w')) (w : World) :
    Calls Tryd.prog 38 #[.int .i64 71, .int .u64 old, .int .u64 b] w fun e w' => e = .returned (.int .u64 (Fld (bits .and .u64 old b) 0 32)) ∧ w = w' := by
  have HE : Hid (Fld (bits .and .u64 (Sgn old 32) (Sgn b 32)) 0 32 = Fld (bits .and .u64 old b) 0 32) := Lib.hid (fld_and old b qo qb)
  have QV : InU (bits .and .u64 (Sgn old 32) (Sgn b 32)) := in_and _ _ (in_sgn _ 32 qo) (in_sgn _ 32 qb)
  go_enter Tryd.func38, Tryd.ntmps38
  repeat (first | (with_reducible refine then_exit ?_) | (with_reducible refine in_same ?_) | ((with_reducible refine in_other ?_ ?_); decide) | (with_reducible refine then_ret ?_) | (with_reducible refine in_ret ?_) | go_values | go_skip | go_guarded | go_step | go_upon | go_back)
  refine (HL.out _).mono ?_
  rintro e w' ⟨rfl, rfl⟩
  simp only []
  repeat (first | (with_reducible refine then_exit ?_) | (with_reducible refine in_same ?_) | ((with_reducible refine in_other ?_ ?_); decide) | (with_reducible refine then_ret ?_) | (with_reducible refine in_ret ?_) | go_values | go_skip | go_guarded | go_step | go_upon | go_back)
  refine (HS.out _).mono ?_
  rintro e w' ⟨rfl, rfl⟩
  simp only []
  repeat (first | (with_reducible refine then_exit ?_) | (with_reducible refine in_same ?_) | ((with_reducible refine in_other ?_ ?_); decide) | (with_reducible refine then_ret ?_) | (with_reducible refine in_ret ?_) | go_values | go_skip | go_guarded | go_step | go_upon | go_back)
  refine (rsign_any _ _ qo.1 qo.2 _).mono ?_
  rintro e w' ⟨rfl, rfl⟩
  simp only []
  repeat (first | (with_reducible refine then_exit ?_) | (with_reducible refine in_same ?_) | ((with_reducible refine in_other ?_ ?_); decide) | (with_reducible refine then_ret ?_) | (with_reducible refine in_ret ?_) | go_values | go_skip | go_guarded | go_step | go_upon | go_back)
  refine (rsign_any _ _ qb.1 qb.2 _).mono ?_
  rintro e w' ⟨rfl, rfl⟩
  simp only []
  repeat (first | (with_reducible refine then_exit ?_) | (with_reducible refine in_same ?_) | ((with_reducible refine in_other ?_ ?_); decide) | (with_reducible refine then_ret ?_) | (with_reducible refine in_ret ?_) | go_values | go_skip | go_guarded | go_step | go_upon | go_back)
  refine (rfield_any _ _ _ qo.1 qo.2 _).mono ?_
  rintro e w' ⟨rfl, rfl⟩
  simp only []
  repeat (first | (with_reducible refine then_exit ?_) | (with_reducible refine in_same ?_) | ((with_reducible refine in_other ?_ ?_); decide) | (with_reducible refine then_ret ?_) | (with_reducible refine in_ret ?_) | go_values | go_skip | go_guarded | go_step | go_upon | go_back)
  refine (rfield_any _ _ _ qb.1 qb.2 _).mono ?_
  rintro e w' ⟨rfl, rfl⟩
  simp only []
  repeat (first | (with_reducible refine then_exit ?_) | (with_reducible refine in_same ?_) | ((with_reducible refine in_other ?_ ?_); decide) | (with_reducible refine then_ret ?_) | (with_reducible refine in_ret ?_) | go_values | go_skip | go_guarded | go_step | go_upon | go_back)
  refine (rfield_any _ _ _ QV.1 QV.2 _).mono ?_
  rintro e w' ⟨rfl, rfl⟩
  simp only []
  repeat (first | (with_reducible refine then_exit ?_) | (with_reducible refine in_same ?_) | ((with_reducible refine in_other ?_ ?_); decide) | (with_reducible refine then_ret ?_) | (with_reducible refine in_ret ?_) | go_values | go_skip | go_guarded | go_step | go_upon | go_back)
  go_ret
  exact ⟨ret_int HE.out, rfl⟩
set_option maxRecDepth 100000 in
set_option maxHeartbeats 1000000 in
theorem rst_72 (old b : Int) (qo : InU old) (qb : InU b) (HL : Hid (∀ w, Calls Tryd.prog 82 #[.int .i64 72] w fun e w' => e = .returned (.bool true) ∧ w = w')) (HS : Hid (∀ w, Calls Tryd.prog 78 #[.int .i64 72] w fun e w' => e = .returned (.int .i64 4) ∧ w = w')) (w : World) :
    Calls Tryd.prog 38 #[.int .i64 72, .int .u64 old, .int .u64 b] w fun e w' => e = .returned (.int .u64 (Fld (bits .or .u64 old b) 0 32)) ∧ w = w' := by
  have HE : Hid (Fld (bits .or .u64 (Sgn old 32) (Sgn b 32)) 0 32 = Fld (bits .or .u64 old b) 0 32) := Lib.hid (fld_or old b qo qb)
  have QV : InU (bits .or .u64 (Sgn old 32) (Sgn b 32)) := in_or _ _ (in_sgn _ 32 qo) (in_sgn _ 32 qb)
  go_enter Tryd.func38, Tryd.ntmps38
  repeat (first | (with_reducible refine then_exit ?_) | (with_reducible refine in_same ?_) | ((with_reducible refine in_other ?_ ?_); decide) | (with_reducible refine then_ret ?_) | (with_reducible refine in_ret ?_) | go_values | go_skip | go_guarded | go_step | go_upon | go_back)
  refine (HL.out _).mono ?_
  rintro e w' ⟨rfl, rfl⟩
  simp only []
  repeat (first | (with_reducible refine then_exit ?_) | (with_reducible refine in_same ?_) | ((with_reducible refine in_other ?_ ?_); decide) | (with_reducible refine then_ret ?_) | (with_reducible refine in_ret ?_) | go_values | go_skip | go_guarded | go_step | go_upon | go_back)
  refine (HS.out _).mono ?_
  rintro e w' ⟨rfl, rfl⟩
  simp only []
  repeat (first | (with_reducible refine then_exit ?_) | (with_reducible refine in_same ?_) | ((with_reducible refine in_other ?_ ?_); decide) | (with_reducible refine then_ret ?_) | (with_reducible refine in_ret ?_) | go_values | go_skip | go_guarded | go_step | go_upon | go_back)
  refine (rsign_any _ _ qo.1 qo.2 _).mono ?_
  rintro e w' ⟨rfl, rfl⟩
  simp only []
  repeat (first | (with_reducible refine then_exit ?_) | (with_reducible refine in_same ?_) | ((with_reducible refine in_other ?_ ?_); decide) | (with_reducible refine then_ret ?_) | (with_reducible refine in_ret ?_) | go_values | go_skip | go_guarded | go_step | go_upon | go_back)
  refine (rsign_any _ _ qb.1 qb.2 _).mono ?_
  rintro e w' ⟨rfl, rfl⟩
  simp only []
  repeat (first | (with_reducible refine then_exit ?_) | (with_reducible refine in_same ?_) | ((with_reducible refine in_other ?_ ?_); decide) | (with_reducible refine then_ret ?_) | (with_reducible refine in_ret ?_) | go_values | go_skip | go_guarded | go_step | go_upon | go_back)
  refine (rfield_any _ _ _ qo.1 qo.2 _).mono ?_
  rintro e w' ⟨rfl, rfl⟩
  simp only []
  repeat (first | (with_reducible refine then_exit ?_) | (with_reducible refine in_same ?_) | ((with_reducible refine in_other ?_ ?_); decide) | (with_reducible refine then_ret ?_) | (with_reducible refine in_ret ?_) | go_values | go_skip | go_guarded | go_step | go_upon | go_back)
  refine (rfield_any _ _ _ qb.1 qb.2 _).mono ?_
  rintro e w' ⟨rfl, rfl⟩
  simp only []
  repeat (first | (with_reducible refine then_exit ?_) | (with_reducible refine in_same ?_) | ((with_reducible refine in_other ?_ ?_); decide) | (with_reducible refine then_ret ?_) | (with_reducible refine in_ret ?_) | go_values | go_skip | go_guarded | go_step | go_upon | go_back)
  refine (rfield_any _ _ _ QV.1 QV.2 _).mono ?_
  rintro e w' ⟨rfl, rfl⟩
  simp only []
  repeat (first | (with_reducible refine then_exit ?_) | (with_reducible refine in_same ?_) | ((with_reducible refine in_other ?_ ?_); decide) | (with_reducible refine then_ret ?_) | (with_reducible refine in_ret ?_) | go_values | go_skip | go_guarded | go_step | go_upon | go_back)
  go_ret
  exact ⟨ret_int HE.out, rfl⟩
set_option maxRecDepth 100000 in
set_option maxHeartbeats 1000000 in
theorem rst_73 (old b : Int) (qo : InU old) (qb : InU b) (HL : Hid (∀ w, Calls Tryd.prog 82 #[.int .i64 73] w fun e w' => e = .returned (.bool true) ∧ w = w')) (HS : Hid (∀ w, Calls Tryd.prog 78 #[.int .i64 73] w fun e w' => e = .returned (.int .i64 4) ∧ w = w')) (w : World) :
    Calls Tryd.prog 38 #[.int .i64 73, .int .u64 old, .int .u64 b] w fun e w' => e = .returned (.int .u64 (Fld (PickI (LtS (Sgn old 32) (Sgn b 32)) (Sgn old 32) (Sgn b 32)) 0 32)) ∧ w = w' := by
  have HE : Hid (Fld (PickI (LtS (Sgn old 32) (Sgn b 32)) (Sgn old 32) (Sgn b 32)) 0 32 = Fld (PickI (LtS (Sgn old 32) (Sgn b 32)) (Sgn old 32) (Sgn b 32)) 0 32) := Lib.hid (rfl)
  have QV : InU (PickI (LtS (Sgn old 32) (Sgn b 32)) (Sgn old 32) (Sgn b 32)) := in_pick _ _ _ (in_sgn _ 32 qo) (in_sgn _ 32 qb)
  have HR := fun w => rless_any (Sgn old 32) (Sgn b 32) (in_sgn _ 32 qo) (in_sgn _ 32 qb) w
  cases hl : LtS (Sgn old 32) (Sgn b 32) <;> rw [hl] at HR HE QV <;> have HRR := Lib.hid HR <;> clear HR
  all_goals
    first | rw [pick_t] at HE QV | rw [pick_f] at HE QV
    try rw [pick_t]
    try rw [pick_f]
    go_enter Tryd.func38, Tryd.ntmps38
    repeat (first | (with_reducible refine then_exit ?_) | (with_reducible refine in_same ?_) | ((with_reducible refine in_other ?_ ?_); decide) | (with_reducible refine then_ret ?_) | (with_reducible refine in_ret ?_) | go_values | go_skip | go_guarded | go_step | go_upon | go_back)
    refine (HL.out _).mono ?_
    rintro e w' ⟨rfl, rfl⟩
    simp only []
    repeat (first | (with_reducible refine then_exit ?_) | (with_reducible refine in_same ?_) | ((with_reducible refine in_other ?_ ?_); decide) | (with_reducible refine then_ret ?_) | (with_reducible refine in_ret ?_) | go_values | go_skip | go_guarded | go_step | go_upon | go_back)
    refine (HS.out _).mono ?_
    rintro e w' ⟨rfl, rfl⟩
    simp only []
    repeat (first | (with_reducible refine then_exit ?_) | (with_reducible refine in_same ?_) | ((with_reducible refine in_other ?_ ?_); decide) | (with_reducible refine then_ret ?_) | (with_reducible refine in_ret ?_) | go_values | go_skip | go_guarded | go_step | go_upon | go_back)
    refine (rsign_any _ _ qo.1 qo.2 _).mono ?_
    rintro e w' ⟨rfl, rfl⟩
    simp only []
    repeat (first | (with_reducible refine then_exit ?_) | (with_reducible refine in_same ?_) | ((with_reducible refine in_other ?_ ?_); decide) | (with_reducible refine then_ret ?_) | (with_reducible refine in_ret ?_) | go_values | go_skip | go_guarded | go_step | go_upon | go_back)
    refine (rsign_any _ _ qb.1 qb.2 _).mono ?_
    rintro e w' ⟨rfl, rfl⟩
    simp only []
    repeat (first | (with_reducible refine then_exit ?_) | (with_reducible refine in_same ?_) | ((with_reducible refine in_other ?_ ?_); decide) | (with_reducible refine then_ret ?_) | (with_reducible refine in_ret ?_) | go_values | go_skip | go_guarded | go_step | go_upon | go_back)
    refine (rfield_any _ _ _ qo.1 qo.2 _).mono ?_
    rintro e w' ⟨rfl, rfl⟩
    simp only []
    repeat (first | (with_reducible refine then_exit ?_) | (with_reducible refine in_same ?_) | ((with_reducible refine in_other ?_ ?_); decide) | (with_reducible refine then_ret ?_) | (with_reducible refine in_ret ?_) | go_values | go_skip | go_guarded | go_step | go_upon | go_back)
    refine (rfield_any _ _ _ qb.1 qb.2 _).mono ?_
    rintro e w' ⟨rfl, rfl⟩
    simp only []
    repeat (first | (with_reducible refine then_exit ?_) | (with_reducible refine in_same ?_) | ((with_reducible refine in_other ?_ ?_); decide) | (with_reducible refine then_ret ?_) | (with_reducible refine in_ret ?_) | go_values | go_skip | go_guarded | go_step | go_upon | go_back)
    refine (HRR.out _).mono ?_
    rintro e w' ⟨rfl, rfl⟩
    simp only []
    repeat (first | (with_reducible refine then_exit ?_) | (with_reducible refine in_same ?_) | ((with_reducible refine in_other ?_ ?_); decide) | (with_reducible refine then_ret ?_) | (with_reducible refine in_ret ?_) | go_values | go_skip | go_guarded | go_step | go_upon | go_back)
    refine (rfield_any _ _ _ QV.1 QV.2 _).mono ?_
    rintro e w' ⟨rfl, rfl⟩
    simp only []
    repeat (first | (with_reducible refine then_exit ?_) | (with_reducible refine in_same ?_) | ((with_reducible refine in_other ?_ ?_); decide) | (with_reducible refine then_ret ?_) | (with_reducible refine in_ret ?_) | go_values | go_skip | go_guarded | go_step | go_upon | go_back)
    go_ret
    exact ⟨ret_int HE.out, rfl⟩
set_option maxRecDepth 100000 in
set_option maxHeartbeats 1000000 in
theorem rst_74 (old b : Int) (qo : InU old) (qb : InU b) (HL : Hid (∀ w, Calls Tryd.prog 82 #[.int .i64 74] w fun e w' => e = .returned (.bool true) ∧ w = w')) (HS : Hid (∀ w, Calls Tryd.prog 78 #[.int .i64 74] w fun e w' => e = .returned (.int .i64 4) ∧ w = w')) (w : World) :
    Calls Tryd.prog 38 #[.int .i64 74, .int .u64 old, .int .u64 b] w fun e w' => e = .returned (.int .u64 (Fld (PickI (LtS (Sgn old 32) (Sgn b 32)) (Sgn b 32) (Sgn old 32)) 0 32)) ∧ w = w' := by
  have HE : Hid (Fld (PickI (LtS (Sgn b 32) (Sgn old 32)) (Sgn old 32) (Sgn b 32)) 0 32 = Fld (PickI (LtS (Sgn old 32) (Sgn b 32)) (Sgn b 32) (Sgn old 32)) 0 32) := Lib.hid (by rw [pick_max (Sgn old 32) (Sgn b 32) (in_sgn _ 32 qo) (in_sgn _ 32 qb)])
  have QV : InU (PickI (LtS (Sgn b 32) (Sgn old 32)) (Sgn old 32) (Sgn b 32)) := in_pick _ _ _ (in_sgn _ 32 qo) (in_sgn _ 32 qb)
  have HR := fun w => rless_any (Sgn b 32) (Sgn old 32) (in_sgn _ 32 qb) (in_sgn _ 32 qo) w
  cases hl : LtS (Sgn b 32) (Sgn old 32) <;> rw [hl] at HR HE QV <;> have HRR := Lib.hid HR <;> clear HR
  all_goals
    first | rw [pick_t] at HE QV | rw [pick_f] at HE QV
    try rw [pick_t]
    try rw [pick_f]
    go_enter Tryd.func38, Tryd.ntmps38
    repeat (first | (with_reducible refine then_exit ?_) | (with_reducible refine in_same ?_) | ((with_reducible refine in_other ?_ ?_); decide) | (with_reducible refine then_ret ?_) | (with_reducible refine in_ret ?_) | go_values | go_skip | go_guarded | go_step | go_upon | go_back)
    refine (HL.out _).mono ?_
    rintro e w' ⟨rfl, rfl⟩
    simp only []
    repeat (first | (with_reducible refine then_exit ?_) | (with_reducible refine in_same ?_) | ((with_reducible refine in_other ?_ ?_); decide) | (with_reducible refine then_ret ?_) | (with_reducible refine in_ret ?_) | go_values | go_skip | go_guarded | go_step | go_upon | go_back)
    refine (HS.out _).mono ?_
    rintro e w' ⟨rfl, rfl⟩
    simp only []
    repeat (first | (with_reducible refine then_exit ?_) | (with_reducible refine in_same ?_) | ((with_reducible refine in_other ?_ ?_); decide) | (with_reducible refine then_ret ?_) | (with_reducible refine in_ret ?_) | go_values | go_skip | go_guarded | go_step | go_upon | go_back)
    refine (rsign_any _ _ qo.1 qo.2 _).mono ?_
    rintro e w' ⟨rfl, rfl⟩
    simp only []
    repeat (first | (with_reducible refine then_exit ?_) | (with_reducible refine in_same ?_) | ((with_reducible refine in_other ?_ ?_); decide) | (with_reducible refine then_ret ?_) | (with_reducible refine in_ret ?_) | go_values | go_skip | go_guarded | go_step | go_upon | go_back)
    refine (rsign_any _ _ qb.1 qb.2 _).mono ?_
    rintro e w' ⟨rfl, rfl⟩
    simp only []
    repeat (first | (with_reducible refine then_exit ?_) | (with_reducible refine in_same ?_) | ((with_reducible refine in_other ?_ ?_); decide) | (with_reducible refine then_ret ?_) | (with_reducible refine in_ret ?_) | go_values | go_skip | go_guarded | go_step | go_upon | go_back)
    refine (rfield_any _ _ _ qo.1 qo.2 _).mono ?_
    rintro e w' ⟨rfl, rfl⟩
    simp only []
    repeat (first | (with_reducible refine then_exit ?_) | (with_reducible refine in_same ?_) | ((with_reducible refine in_other ?_ ?_); decide) | (with_reducible refine then_ret ?_) | (with_reducible refine in_ret ?_) | go_values | go_skip | go_guarded | go_step | go_upon | go_back)
    refine (rfield_any _ _ _ qb.1 qb.2 _).mono ?_
    rintro e w' ⟨rfl, rfl⟩
    simp only []
    repeat (first | (with_reducible refine then_exit ?_) | (with_reducible refine in_same ?_) | ((with_reducible refine in_other ?_ ?_); decide) | (with_reducible refine then_ret ?_) | (with_reducible refine in_ret ?_) | go_values | go_skip | go_guarded | go_step | go_upon | go_back)
    refine (HRR.out _).mono ?_
    rintro e w' ⟨rfl, rfl⟩
    simp only []
    repeat (first | (with_reducible refine then_exit ?_) | (with_reducible refine in_same ?_) | ((with_reducible refine in_other ?_ ?_); decide) | (with_reducible refine then_ret ?_) | (with_reducible refine in_ret ?_) | go_values | go_skip | go_guarded | go_step | go_upon | go_back)
    refine (rfield_any _ _ _ QV.1 QV.2 _).mono ?_
    rintro e w' ⟨rfl, rfl⟩
    simp only []
    repeat (first | (with_reducible refine then_exit ?_) | (with_reducible refine in_same ?_) | ((with_reducible refine in_other ?_ ?_); decide) | (with_reducible refine then_ret ?_) | (with_reducible refine in_ret ?_) | go_values | go_skip | go_guarded | go_step | go_upon | go_back)
    go_ret
    exact ⟨ret_int HE.out, rfl⟩
set_option maxRecDepth 100000 in
set_option maxHeartbeats 1000000 in
theorem rst_75 (old b : Int) (qo : InU old) (qb : InU b) (HL : Hid (∀ w, Calls Tryd.prog 82 #[.int .i64 75] w fun e w' => e = .returned (.bool true) ∧ w = w')) (HS : Hid (∀ w, Calls Tryd.prog 78 #[.int .i64 75] w fun e w' => e = .returned (.int .i64 4) ∧ w = w')) (w : World) :
    Calls Tryd.prog 38 #[.int .i64 75, .int .u64 old, .int .u64 b] w fun e w' => e = .returned (.int .u64 (Fld (MinI (Fld old 0 32) (Fld b 0 32)) 0 32)) ∧ w = w' := by
  have HE : Hid (Fld (min (Fld old 0 32) (Fld b 0 32)) 0 32 = Fld (min (Fld old 0 32) (Fld b 0 32)) 0 32) := Lib.hid (rfl)
  have QV : InU (min (Fld old 0 32) (Fld b 0 32)) := in_min _ _ (in_fld _ 0 32 qo) (in_fld _ 0 32 qb)
  go_enter Tryd.func38, Tryd.ntmps38
  repeat (first | (with_reducible refine then_exit ?_) | (with_reducible refine in_same ?_) | ((with_reducible refine in_other ?_ ?_); decide) | (with_reducible refine then_ret ?_) | (with_reducible refine in_ret ?_) | go_values | go_skip | go_guarded | go_step | go_upon | go_back)
  refine (HL.out _).mono ?_
  rintro e w' ⟨rfl, rfl⟩
  simp only []
  repeat (first | (with_reducible refine then_exit ?_) | (with_reducible refine in_same ?_) | ((with_reducible refine in_other ?_ ?_); decide) | (with_reducible refine then_ret ?_) | (with_reducible refine in_ret ?_) | go_values | go_skip | go_guarded | go_step | go_upon | go_back)
  refine (HS.out _).mono ?_
  rintro e w' ⟨rfl, rfl⟩
  simp only []
  repeat (first | (with_reducible refine then_exit ?_) | (with_reducible refine in_same ?_) | ((with_reducible refine in_other ?_ ?_); decide) | (with_reducible refine then_ret ?_) | (with_reducible refine in_ret ?_) | go_values | go_skip | go_guarded | go_step | go_upon | go_back)
  refine (rsign_any _ _ qo.1 qo.2 _).mono ?_
  rintro e w' ⟨rfl, rfl⟩
  simp only []
  repeat (first | (with_reducible refine then_exit ?_) | (with_reducible refine in_same ?_) | ((with_reducible refine in_other ?_ ?_); decide) | (with_reducible refine then_ret ?_) | (with_reducible refine in_ret ?_) | go_values | go_skip | go_guarded | go_step | go_upon | go_back)
  refine (rsign_any _ _ qb.1 qb.2 _).mono ?_
  rintro e w' ⟨rfl, rfl⟩
  simp only []
  repeat (first | (with_reducible refine then_exit ?_) | (with_reducible refine in_same ?_) | ((with_reducible refine in_other ?_ ?_); decide) | (with_reducible refine then_ret ?_) | (with_reducible refine in_ret ?_) | go_values | go_skip | go_guarded | go_step | go_upon | go_back)
  refine (rfield_any _ _ _ qo.1 qo.2 _).mono ?_
  rintro e w' ⟨rfl, rfl⟩
  simp only []
  repeat (first | (with_reducible refine then_exit ?_) | (with_reducible refine in_same ?_) | ((with_reducible refine in_other ?_ ?_); decide) | (with_reducible refine then_ret ?_) | (with_reducible refine in_ret ?_) | go_values | go_skip | go_guarded | go_step | go_upon | go_back)
  refine (rfield_any _ _ _ qb.1 qb.2 _).mono ?_
  rintro e w' ⟨rfl, rfl⟩
  simp only []
  repeat (first | (with_reducible refine then_exit ?_) | (with_reducible refine in_same ?_) | ((with_reducible refine in_other ?_ ?_); decide) | (with_reducible refine then_ret ?_) | (with_reducible refine in_ret ?_) | go_values | go_skip | go_guarded | go_step | go_upon | go_back)
  refine (rfield_any _ _ _ QV.1 QV.2 _).mono ?_
  rintro e w' ⟨rfl, rfl⟩
  simp only []
  repeat (first | (with_reducible refine then_exit ?_) | (with_reducible refine in_same ?_) | ((with_reducible refine in_other ?_ ?_); decide) | (with_reducible refine then_ret ?_) | (with_reducible refine in_ret ?_) | go_values | go_skip | go_guarded | go_step | go_upon | go_back)
  go_ret
  exact ⟨ret_int HE.out, rfl⟩
set_option maxRecDepth 100000 in
set_option maxHeartbeats 1000000 in
theorem rst_76 (old b : Int) (qo : InU old) (qb : InU b) (HL : Hid (∀ w, Calls Tryd.prog 82 #[.int .i64 76] w fun e w' => e = .returned (.bool true) ∧ w = w')) (HS : Hid (∀ w, Calls Tryd.prog 78 #[.int .i64 76] w fun e w' => e = .returned (.int .i64 4) ∧ w = w')) (w : World) :
    Calls Tryd.prog 38 #[.int .i64 76, .int .u64 old, .int .u64 b] w fun e w' => e = .returned (.int .u64 (Fld (MaxI (Fld old 0 32) (Fld b 0 32)) 0 32)) ∧ w = w' := by
  have HE : Hid (Fld (max (Fld old 0 32) (Fld b 0 32)) 0 32 = Fld (max (Fld old 0 32) (Fld b 0 32)) 0 32) := Lib.hid (rfl)
  have QV : InU (max (Fld old 0 32) (Fld b 0 32)) := in_max _ _ (in_fld _ 0 32 qo) (in_fld _ 0 32 qb)
  go_enter Tryd.func38, Tryd.ntmps38
  repeat (first | (with_reducible refine then_exit ?_) | (with_reducible refine in_same ?_) | ((with_reducible refine in_other ?_ ?_); decide) | (with_reducible refine then_ret ?_) | (with_reducible refine in_ret ?_) | go_values | go_skip | go_guarded | go_step | go_upon | go_back)
  refine (HL.out _).mono ?_
  rintro e w' ⟨rfl, rfl⟩
  simp only []
  repeat (first | (with_reducible refine then_exit ?_) | (with_reducible refine in_same ?_) | ((with_reducible refine in_other ?_ ?_); decide) | (with_reducible refine then_ret ?_) | (with_reducible refine in_ret ?_) | go_values | go_skip | go_guarded | go_step | go_upon | go_back)
  refine (HS.out _).mono ?_
  rintro e w' ⟨rfl, rfl⟩
  simp only []
  repeat (first | (with_reducible refine then_exit ?_) | (with_reducible refine in_same ?_) | ((with_reducible refine in_other ?_ ?_); decide) | (with_reducible refine then_ret ?_) | (with_reducible refine in_ret ?_) | go_values | go_skip | go_guarded | go_step | go_upon | go_back)
  refine (rsign_any _ _ qo.1 qo.2 _).mono ?_
  rintro e w' ⟨rfl, rfl⟩
  simp only []
  repeat (first | (with_reducible refine then_exit ?_) | (with_reducible refine in_same ?_) | ((with_reducible refine in_other ?_ ?_); decide) | (with_reducible refine then_ret ?_) | (with_reducible refine in_ret ?_) | go_values | go_skip | go_guarded | go_step | go_upon | go_back)
  refine (rsign_any _ _ qb.1 qb.2 _).mono ?_
  rintro e w' ⟨rfl, rfl⟩
  simp only []
  repeat (first | (with_reducible refine then_exit ?_) | (with_reducible refine in_same ?_) | ((with_reducible refine in_other ?_ ?_); decide) | (with_reducible refine then_ret ?_) | (with_reducible refine in_ret ?_) | go_values | go_skip | go_guarded | go_step | go_upon | go_back)
  refine (rfield_any _ _ _ qo.1 qo.2 _).mono ?_
  rintro e w' ⟨rfl, rfl⟩
  simp only []
  repeat (first | (with_reducible refine then_exit ?_) | (with_reducible refine in_same ?_) | ((with_reducible refine in_other ?_ ?_); decide) | (with_reducible refine then_ret ?_) | (with_reducible refine in_ret ?_) | go_values | go_skip | go_guarded | go_step | go_upon | go_back)
  refine (rfield_any _ _ _ qb.1 qb.2 _).mono ?_
  rintro e w' ⟨rfl, rfl⟩
  simp only []
  repeat (first | (with_reducible refine then_exit ?_) | (with_reducible refine in_same ?_) | ((with_reducible refine in_other ?_ ?_); decide) | (with_reducible refine then_ret ?_) | (with_reducible refine in_ret ?_) | go_values | go_skip | go_guarded | go_step | go_upon | go_back)
  refine (rfield_any _ _ _ QV.1 QV.2 _).mono ?_
  rintro e w' ⟨rfl, rfl⟩
  simp only []
  repeat (first | (with_reducible refine then_exit ?_) | (with_reducible refine in_same ?_) | ((with_reducible refine in_other ?_ ?_); decide) | (with_reducible refine then_ret ?_) | (with_reducible refine in_ret ?_) | go_values | go_skip | go_guarded | go_step | go_upon | go_back)
  go_ret
  exact ⟨ret_int HE.out, rfl⟩
set_option maxRecDepth 100000 in
set_option maxHeartbeats 1000000 in
theorem rst_78 (old b : Int) (qo : InU old) (qb : InU b) (HL : Hid (∀ w, Calls Tryd.prog 82 #[.int .i64 78] w fun e w' => e = .returned (.bool true) ∧ w = w')) (HS : Hid (∀ w, Calls Tryd.prog 78 #[.int .i64 78] w fun e w' => e = .returned (.int .i64 8) ∧ w = w')) (w : World) :
    Calls Tryd.prog 38 #[.int .i64 78, .int .u64 old, .int .u64 b] w fun e w' => e = .returned (.int .u64 (Fld b 0 64)) ∧ w = w' := by
  have HE : Hid (Fld (b) 0 64 = Fld b 0 64) := Lib.hid (rfl)
  have QV : InU (b) := qb
  have g1 := Lib.hid (sgn64 old)
  have g2 := Lib.hid (sgn64 b)
  have g3 := Lib.hid (fld64 old qo)
  have g4 := Lib.hid (fld64 b qb)
  go_enter Tryd.func38, Tryd.ntmps38
  repeat (first | (with_reducible refine then_exit ?_) | (with_reducible refine in_same ?_) | ((with_reducible refine in_other ?_ ?_); decide) | (with_reducible refine then_ret ?_) | (with_reducible refine in_ret ?_) | go_values | go_skip | go_guarded | go_step | go_upon | go_back)
  refine (HL.out _).mono ?_
  rintro e w' ⟨rfl, rfl⟩
  simp only []
  repeat (first | (with_reducible refine then_exit ?_) | (with_reducible refine in_same ?_) | ((with_reducible refine in_other ?_ ?_); decide) | (with_reducible refine then_ret ?_) | (with_reducible refine in_ret ?_) | go_values | go_skip | go_guarded | go_step | go_upon | go_back)
  refine (HS.out _).mono ?_
  rintro e w' ⟨rfl, rfl⟩
  simp only []
  repeat (first | (with_reducible refine then_exit ?_) | (with_reducible refine in_same ?_) | ((with_reducible refine in_other ?_ ?_); decide) | (with_reducible refine then_ret ?_) | (with_reducible refine in_ret ?_) | go_values | go_skip | go_guarded | go_step | go_upon | go_back)
  refine (rsign_any _ _ qo.1 qo.2 _).mono ?_
  rintro e w' ⟨rfl, rfl⟩
  rw [g1.out]
  simp only []
  repeat (first | (with_reducible refine then_exit ?_) | (with_reducible refine in_same ?_) | ((with_reducible refine in_other ?_ ?_); decide) | (with_reducible refine then_ret ?_) | (with_reducible refine in_ret ?_) | go_values | go_skip | go_guarded | go_step | go_upon | go_back)
  refine (rsign_any _ _ qb.1 qb.2 _).mono ?_
  rintro e w' ⟨rfl, rfl⟩
  rw [g2.out]
  simp only []
  repeat (first | (with_reducible refine then_exit ?_) | (with_reducible refine in_same ?_) | ((with_reducible refine in_other ?_ ?_); decide) | (with_reducible refine then_ret ?_) | (with_reducible refine in_ret ?_) | go_values | go_skip | go_guarded | go_step | go_upon | go_back)
  refine (rfield_any _ _ _ qo.1 qo.2 _).mono ?_
  rintro e w' ⟨rfl, rfl⟩
  rw [g3.out]
  simp only []
  repeat (first | (with_reducible refine then_exit ?_) | (with_reducible refine in_same ?_) | ((with_reducible refine in_other ?_ ?_); decide) | (with_reducible refine then_ret ?_) | (with_reducible refine in_ret ?_) | go_values | go_skip | go_guarded | go_step | go_upon | go_back)
  refine (rfield_any _ _ _ qb.1 qb.2 _).mono ?_
  rintro e w' ⟨rfl, rfl⟩
  rw [g4.out]
  simp only []
  repeat (first | (with_reducible refine then_exit ?_) | (with_reducible refine in_same ?_) | ((with_reducible refine in_other ?_ ?_); decide) | (with_reducible refine then_ret ?_) | (with_reducible refine in_ret ?_) | go_values | go_skip | go_guarded | go_step | go_upon | go_back)
  refine (rfield_any _ _ _ QV.1 QV.2 _).mono ?_
  rintro e w' ⟨rfl, rfl⟩
  simp only []
  repeat (first | (with_reducible refine then_exit ?_) | (with_reducible refine in_same ?_) | ((with_reducible refine in_other ?_ ?_); decide) | (with_reducible refine then_ret ?_) | (with_reducible refine in_ret ?_) | go_values | go_skip | go_guarded | go_step | go_upon | go_back)
  go_ret
  exact ⟨ret_int HE.out, rfl⟩
set_option maxRecDepth 100000 in
set_option maxHeartbeats 1000000 in
theorem rst_79 (old b : Int) (qo : InU old) (qb : InU b) (HL : Hid (∀ w, Calls Tryd.prog 82 #[.int .i64 79] w fun e w' => e = .returned (.bool true) ∧ w = w')) (HS : Hid (∀ w, Calls Tryd.prog 78 #[.int .i64 79] w fun e w' => e = .returned (.int .i64 8) ∧ w = w')) (w : World) :
    Calls Tryd.prog 38 #[.int .i64 79, .int .u64 old, .int .u64 b] w fun e w' => e = .returned (.int .u64 (Fld b 0 64)) ∧ w = w' := by
  have HE : Hid (Fld (b) 0 64 = Fld b 0 64) := Lib.hid (rfl)
  have QV : InU (b) := qb
  have g1 := Lib.hid (sgn64 old)
  have g2 := Lib.hid (sgn64 b)
  have g3 := Lib.hid (fld64 old qo)
  have g4 := Lib.hid (fld64 b qb)
  go_enter Tryd.func38, Tryd.ntmps38
  repeat (first | (with_reducible refine then_exit ?_) | (with_reducible refine in_same ?_) | ((with_reducible refine in_other ?_ ?_); decide) | (with_reducible refine then_ret ?_) | (with_reducible refine in_ret ?_) | go_values | go_skip | go_guarded | go_step | go_upon | go_back)
  refine (HL.out _).mono ?_
  rintro e w' ⟨rfl, rfl⟩
  simp only []
  repeat (first | (with_reducible refine then_exit ?_) | (with_reducible refine in_same ?_) | ((with_reducible refine in_other ?_ ?_); decide) | (with_reducible refine then_ret ?_) | (with_reducible refine in_ret ?_) | go_values | go_skip | go_guarded | go_step | go_upon | go_back)
  refine (HS.out _).mono ?_
  rintro e w' ⟨rfl, rfl⟩
  simp only []
  repeat (first | (with_reducible refine then_exit ?_) | (with_reducible refine in_same ?_) | ((with_reducible refine in_other ?_ ?_); decide) | (with_reducible refine then_ret ?_) | (with_reducible refine in_ret ?_) | go_values | go_skip | go_guarded | go_step | go_upon | go_back)
  refine (rsign_any _ _ qo.1 qo.2 _).mono ?_
  rintro e w' ⟨rfl, rfl⟩
  rw [g1.out]
  simp only []
  repeat (first | (with_reducible refine then_exit ?_) | (with_reducible refine in_same ?_) | ((with_reducible refine in_other ?_ ?_); decide) | (with_reducible refine then_ret ?_) | (with_reducible refine in_ret ?_) | go_values | go_skip | go_guarded | go_step | go_upon | go_back)
  refine (rsign_any _ _ qb.1 qb.2 _).mono ?_
  rintro e w' ⟨rfl, rfl⟩
  rw [g2.out]
  simp only []
  repeat (first | (with_reducible refine then_exit ?_) | (with_reducible refine in_same ?_) | ((with_reducible refine in_other ?_ ?_); decide) | (with_reducible refine then_ret ?_) | (with_reducible refine in_ret ?_) | go_values | go_skip | go_guarded | go_step | go_upon | go_back)
  refine (rfield_any _ _ _ qo.1 qo.2 _).mono ?_
  rintro e w' ⟨rfl, rfl⟩
  rw [g3.out]
  simp only []
  repeat (first | (with_reducible refine then_exit ?_) | (with_reducible refine in_same ?_) | ((with_reducible refine in_other ?_ ?_); decide) | (with_reducible refine then_ret ?_) | (with_reducible refine in_ret ?_) | go_values | go_skip | go_guarded | go_step | go_upon | go_back)
  refine (rfield_any _ _ _ qb.1 qb.2 _).mono ?_
  rintro e w' ⟨rfl, rfl⟩
  rw [g4.out]
  simp only []
  repeat (first | (with_reducible refine then_exit ?_) | (with_reducible refine in_same ?_) | ((with_reducible refine in_other ?_ ?_); decide) | (with_reducible refine then_ret ?_) | (with_reducible refine in_ret ?_) | go_values | go_skip | go_guarded | go_step | go_upon | go_back)
  refine (rfield_any _ _ _ QV.1 QV.2 _).mono ?_
  rintro e w' ⟨rfl, rfl⟩
  simp only []
  repeat (first | (with_reducible refine then_exit ?_) | (with_reducible refine in_same ?_) | ((with_reducible refine in_other ?_ ?_); decide) | (with_reducible refine then_ret ?_) | (with_reducible refine in_ret ?_) | go_values | go_skip | go_guarded | go_step | go_upon | go_back)
  go_ret
  exact ⟨ret_int HE.out, rfl⟩
set_option maxRecDepth 100000 in
set_option maxHeartbeats 1000000 in
theorem rst_80 (old b : Int) (qo : InU old) (qb : InU b) (HL : Hid (∀ w, Calls Tryd.prog 82 #[.int .i64 80] w fun e w' => e = .returned (.bool true) ∧ w = w')) (HS : Hid (∀ w, Calls Tryd.prog 78 #[.int .i64 80] w fun e w' => e = .returned (.int .i64 8) ∧ w = w')) (w : World) :
    Calls Tryd.prog 38 #[.int .i64 80, .int .u64 old, .int .u64 b] w fun e w' => e = .returned (.int .u64 (Fld (IntKind.u64.wrap (old + b)) 0 64)) ∧ w = w' := by
  have HE : Hid (Fld (IntKind.u64.wrap (old + b)) 0 64 = Fld (IntKind.u64.wrap (old + b)) 0 64) := Lib.hid (rfl)
  have QV : InU (IntKind.u64.wrap (old + b)) := in_wrap _
  have g1 := Lib.hid (sgn64 old)
  have g2 := Lib.hid (sgn64 b)
  have g3 := Lib.hid (fld64 old qo)
  have g4 := Lib.hid (fld64 b qb)
  go_enter Tryd.func38, Tryd.ntmps38
  repeat (first | (with_reducible refine then_exit ?_) | (with_reducible refine in_same ?_) | ((with_reducible refine in_other ?_ ?_); decide) | (with_reducible refine then_ret ?_) | (with_reducible refine in_ret ?_) | go_values | go_skip | go_guarded | go_step | go_upon | go_back)
  refine (HL.out _).mono ?_
  rintro e w' ⟨rfl, rfl⟩
  simp only []
  repeat (first | (with_reducible refine then_exit ?_) | (with_reducible refine in_same ?_) | ((with_reducible refine in_other ?_ ?_); decide) | (with_reducible refine then_ret ?_) | (with_reducible refine in_ret ?_) | go_values | go_skip | go_guarded | go_step | go_upon | go_back)
  refine (HS.out _).mono ?_
  rintro e w' ⟨rfl, rfl⟩
  simp only []
  repeat (first | (with_reducible refine then_exit ?_) | (with_reducible refine in_same ?_) | ((with_reducible refine in_other ?_ ?_); decide) | (with_reducible refine then_ret ?_) | (with_reducible refine in_ret ?_) | go_values | go_skip | go_guarded | go_step | go_upon | go_back)
  refine (rsign_any _ _ qo.1 qo.2 _).mono ?_
  rintro e w' ⟨rfl, rfl⟩
  rw [g1.out]
  simp only []
  repeat (first | (with_reducible refine then_exit ?_) | (with_reducible refine in_same ?_) | ((with_reducible refine in_other ?_ ?_); decide) | (with_reducible refine then_ret ?_) | (with_reducible refine in_ret ?_) | go_values | go_skip | go_guarded | go_step | go_upon | go_back)
  refine (rsign_any _ _ qb.1 qb.2 _).mono ?_
  rintro e w' ⟨rfl, rfl⟩
  rw [g2.out]
  simp only []
  repeat (first | (with_reducible refine then_exit ?_) | (with_reducible refine in_same ?_) | ((with_reducible refine in_other ?_ ?_); decide) | (with_reducible refine then_ret ?_) | (with_reducible refine in_ret ?_) | go_values | go_skip | go_guarded | go_step | go_upon | go_back)
  refine (rfield_any _ _ _ qo.1 qo.2 _).mono ?_
  rintro e w' ⟨rfl, rfl⟩
  rw [g3.out]
  simp only []
  repeat (first | (with_reducible refine then_exit ?_) | (with_reducible refine in_same ?_) | ((with_reducible refine in_other ?_ ?_); decide) | (with_reducible refine then_ret ?_) | (with_reducible refine in_ret ?_) | go_values | go_skip | go_guarded | go_step | go_upon | go_back)
  refine (rfield_any _ _ _ qb.1 qb.2 _).mono ?_
  rintro e w' ⟨rfl, rfl⟩
  rw [g4.out]
  simp only []
  repeat (first | (with_reducible refine then_exit ?_) | (with_reducible refine in_same ?_) | ((with_reducible refine in_other ?_ ?_); decide) | (with_reducible refine then_ret ?_) | (with_reducible refine in_ret ?_) | go_values | go_skip | go_guarded | go_step | go_upon | go_back)
  refine (rfield_any _ _ _ QV.1 QV.2 _).mono ?_
  rintro e w' ⟨rfl, rfl⟩
  simp only []
  repeat (first | (with_reducible refine then_exit ?_) | (with_reducible refine in_same ?_) | ((with_reducible refine in_other ?_ ?_); decide) | (with_reducible refine then_ret ?_) | (with_reducible refine in_ret ?_) | go_values | go_skip | go_guarded | go_step | go_upon | go_back)
  go_ret
  exact ⟨ret_int HE.out, rfl⟩
set_option maxRecDepth 100000 in
set_option maxHeartbeats 1000000 in
theorem rst_81 (old b : Int) (qo : InU old) (qb : InU b) (HL : Hid (∀ w, Calls Tryd.prog 82 #[.int .i64 81] w fun e w' => e = .returned (.bool true) ∧ w = w')) (HS : Hid (∀ w, Calls Tryd.prog 78 #[.int .i64 81] w fun e w' => e = .returned (.int .i64 8) ∧ w = w')) (w : World) :
    Calls Tryd.prog 38 #[.int .i64 81, .int .u64 old, .int .u64 b] w fun e w' => e = .returned (.int .u64 (Fld (bits .xor .u64 old b) 0 64)) ∧ w = w' := by
  have HE : Hid (Fld (bits .xor .u64 old b) 0 64 = Fld (bits .xor .u64 old b) 0 64) := Lib.hid (rfl)
  have QV : InU (bits .xor .u64 old b) := in_xor _ _ qo qb
  have g1 := Lib.hid (sgn64 old)
  have g2 := Lib.hid (sgn64 b)
  have g3 := Lib.hid (fld64 old qo)
  have g4 := Lib.hid (fld64 b qb)
  go_enter Tryd.func38, Tryd.ntmps38
  repeat (first | (with_reducible refine then_exit ?_) | (with_reducible refine in_same ?_) | ((with_reducible refine in_other ?_ ?_); decide) | (with_reducible refine then_ret ?_) | (with_reducible refine in_ret ?_) | go_values | go_skip | go_guarded | go_step | go_upon | go_back)
  refine (HL.out _).mono ?_
  rintro e w' ⟨rfl, rfl⟩
  simp only []
  repeat (first | (with_reducible refine then_exit ?_) | (with_reducible refine in_same ?_) | ((with_reducible refine in_other ?_ ?_); decide) | (with_reducible refine then_ret ?_) | (with_reducible refine in_ret ?_) | go_values | go_skip | go_guarded | go_step | go_upon | go_back)
  refine (HS.out _).mono ?_
  rintro e w' ⟨rfl, rfl⟩
  simp only []
  repeat (first | (with_reducible refine then_exit ?_) | (with_reducible refine in_same ?_) | ((with_reducible refine in_other ?_ ?_); decide) | (with_reducible refine then_ret ?_) | (with_reducible refine in_ret ?_) | go_values | go_skip | go_guarded | go_step | go_upon | go_back)
  refine (rsign_any _ _ qo.1 qo.2 _).mono ?_
  rintro e w' ⟨rfl, rfl⟩
  rw [g1.out]
  simp only []
  repeat (first | (with_reducible refine then_exit ?_) | (with_reducible refine in_same ?_) | ((with_reducible refine in_other ?_ ?_); decide) | (with_reducible refine then_ret ?_) | (with_reducible refine in_ret ?_) | go_values | go_skip | go_guarded | go_step | go_upon | go_back)
  refine (rsign_any _ _ qb.1 qb.2 _).mono ?_
  rintro e w' ⟨rfl, rfl⟩
  rw [g2.out]
  simp only []
  repeat (first | (with_reducible refine then_exit ?_) | (with_reducible refine in_same ?_) | ((with_reducible refine in_other ?_ ?_); decide) | (with_reducible refine then_ret ?_) | (with_reducible refine in_ret ?_) | go_values | go_skip | go_guarded | go_step | go_upon | go_back)
  refine (rfield_any _ _ _ qo.1 qo.2 _).mono ?_
  rintro e w' ⟨rfl, rfl⟩
  rw [g3.out]
  simp only []
  repeat (first | (with_reducible refine then_exit ?_) | (with_reducible refine in_same ?_) | ((with_reducible refine in_other ?_ ?_); decide) | (with_reducible refine then_ret ?_) | (with_reducible refine in_ret ?_) | go_values | go_skip | go_guarded | go_step | go_upon | go_back)
  refine (rfield_any _ _ _ qb.1 qb.2 _).mono ?_
  rintro e w' ⟨rfl, rfl⟩
  rw [g4.out]
  simp only []
  repeat (first | (with_reducible refine then_exit ?_) | (with_reducible refine in_same ?_) | ((with_reducible refine in_other ?_ ?_); decide) | (with_reducible refine then_ret ?_) | (with_reducible refine in_ret ?_) | go_values | go_skip | go_guarded | go_step | go_upon | go_back)
  refine (rfield_any _ _ _ QV.1 QV.2 _).mono ?_
  rintro e w' ⟨rfl, rfl⟩
  simp only []
  repeat (first | (with_reducible refine then_exit ?_) | (with_reducible refine in_same ?_) | ((with_reducible refine in_other ?_ ?_); decide) | (with_reducible refine then_ret ?_) | (with_reducible refine in_ret ?_) | go_values | go_skip | go_guarded | go_step | go_upon | go_back)
  go_ret
  exact ⟨ret_int HE.out, rfl⟩
set_option maxRecDepth 100000 in
set_option maxHeartbeats 1000000 in
theorem rst_82 (old b : Int) (qo : InU old) (qb : InU b) (HL : Hid (∀ w, Calls Tryd.prog 82 #[.int .i64 82] w fun e w' => e = .returned (.bool true) ∧ w = w')) (HS : Hid (∀ w, Calls Tryd.prog 78 #[.int .i64 82] w fun e w' => e = .returned (.int .i64 8) ∧ w = w')) (w : World) :
    Calls Tryd.prog 38 #[.int .i64 82, .int .u64 old, .int .u64 b] w fun e w' => e = .returned (.int .u64 (Fld (bits .and .u64 old b) 0 64)) ∧ w = w' := by
  have HE : Hid (Fld (bits .and .u64 old b) 0 64 = Fld (bits .and .u64 old b) 0 64) := Lib.hid (rfl)
  have QV : InU (bits .and .u64 old b) := in_and _ _ qo qb
  have g1 := Lib.hid (sgn64 old)
  have g2 := Lib.hid (sgn64 b)
  have g3 := Lib.hid (fld64 old qo)
  have g4 := Lib.hid (fld64 b qb)
  go_enter Tryd.func38, Tryd.ntmps38
  repeat (first | (with_reducible refine then_exit ?_) | (with_reducible refine in_same ?_) | ((with_reducible refine in_other ?_ ?_); decide) | (with_reducible refine then_ret ?_) | (with_reducible refine in_ret ?_) | go_values | go_skip | go_guarded | go_step | go_upon | go_back)
  refine (HL.out _).mono ?_
  rintro e w' ⟨rfl, rfl⟩
  simp only []
  repeat (first | (with_reducible refine then_exit ?_) | (with_reducible refine in_same ?_) | ((with_reducible refine in_other ?_ ?_); decide) | (with_reducible refine then_ret ?_) | (with_reducible refine in_ret ?_) | go_values | go_skip | go_guarded | go_step | go_upon | go_back)
  refine (HS.out _).mono ?_
  rintro e w' ⟨rfl, rfl⟩
  simp only []
  repeat (first | (with_reducible refine then_exit ?_) | (with_reducible refine in_same ?_) | ((with_reducible refine in_other ?_ ?_); decide) | (with_reducible refine then_ret ?_) | (with_reducible refine in_ret ?_) | go_values | go_skip | go_guarded | go_step | go_upon | go_back)
  refine (rsign_any _ _ qo.1 qo.2 _).mono ?_
  rintro e w' ⟨rfl, rfl⟩
  rw [g1.out]
  simp only []
  repeat (first | (with_reducible refine then_exit ?_) | (with_reducible refine in_same ?_) | ((with_reducible refine in_other ?_ ?_); decide) | (with_reducible refine then_ret ?_) | (with_reducible refine in_ret ?_) | go_values | go_skip | go_guarded | go_step | go_upon | go_back)
  refine (rsign_any _ _ qb.1 qb.2 _).mono ?_
  rintro e w' ⟨rfl, rfl⟩
  rw [g2.out]
  simp only []
  repeat (first | (with_reducible refine then_exit ?_) | (with_reducible refine in_same ?_) | ((with_reducible refine in_other ?_ ?_); decide) | (with_reducible refine then_ret ?_) | (with_reducible refine in_ret ?_) | go_values | go_skip | go_guarded | go_step | go_upon | go_back)
  refine (rfield_any _ _ _ qo.1 qo.2 _).mono ?_
  rintro e w' ⟨rfl, rfl⟩
  rw [g3.out]
  simp only []
  repeat (first | (with_reducible refine then_exit ?_) | (with_reducible refine in_same ?_) | ((with_reducible refine in_other ?_ ?_); decide) | (with_reducible refine then_ret ?_) | (with_reducible refine in_ret ?_) | go_values | go_skip | go_guarded | go_step | go_upon | go_back)
  refine (rfield_any _ _ _ qb.1 qb.2 _).mono ?_
  rintro e w' ⟨rfl, rfl⟩
  rw [g4.out]
  simp only []
  repeat (first | (with_reducible refine then_exit ?_) | (with_reducible refine in_same ?_) | ((with_reducible refine in_other ?_ ?_); decide) | (with_reducible refine then_ret ?_) | (with_reducible refine in_ret ?_) | go_values | go_skip | go_guarded | go_step | go_upon | go_back)
  refine (rfield_any _ _ _ QV.1 QV.2 _).mono ?_
  rintro e w' ⟨rfl, rfl⟩
  simp only []
  repeat (first | (with_reducible refine then_exit ?_) | (with_reducible refine in_same ?_) | ((with_reducible refine in_other ?_ ?_); decide) | (with_reducible refine then_ret ?_) | (with_reducible refine in_ret ?_) | go_values | go_skip | go_guarded | go_step | go_upon | go_back)
  go_ret
  exact ⟨ret_int HE.out, rfl⟩
set_option maxRecDepth 100000 in
set_option maxHeartbeats 1000000 in
theorem rst_83 (old b : Int) (qo : InU old) (qb : InU b) (HL : Hid (∀ w, Calls Tryd.prog 82 #[.int .i64 83] w fun e w' => e = .returned (.bool true) ∧ w = w')) (HS : Hid (∀ w, Calls Tryd.prog 78 #[.int .i64 83] w fun e w' => e = .returned (.int .i64 8) ∧ w = w')) (w : World) :
    Calls Tryd.prog 38 #[.int .i64 83, .int .u64 old, .int .u64 b] w fun e w' => e = .returned (.int .u64 (Fld (bits .or .u64 old b) 0 64)) ∧ w = w' := by
  have HE : Hid (Fld (bits .or .u64 old b) 0 64 = Fld (bits .or .u64 old b) 0 64) := Lib.hid (rfl)
  have QV : InU (bits .or .u64 old b) := in_or _ _ qo qb
  have g1 := Lib.hid (sgn64 old)
  have g2 := Lib.hid (sgn64 b)
  have g3 := Lib.hid (fld64 old qo)
  have g4 := Lib.hid (fld64 b qb)
  go_enter Tryd.func38, Tryd.ntmps38
  repeat (first | (with_reducible refine then_exit ?_) | (with_reducible refine in_same ?_) | ((with_reducible refine in_other ?_ ?_); decide) | (with_reducible refine then_ret ?_) | (with_reducible refine in_ret ?_) | go_values | go_skip | go_guarded | go_step | go_upon | go_back)
  refine (HL.out _).mono ?_
  rintro e w' ⟨rfl, rfl⟩
  simp only []
  repeat (first | (with_reducible refine then_exit ?_) | (with_reducible refine in_same ?_) | ((with_reducible refine in_other ?_ ?_); decide) | (with_reducible refine then_ret ?_) | (with_reducible refine in_ret ?_) | go_values | go_skip | go_guarded | go_step | go_upon | go_back)
  refine (HS.out _).mono ?_
  rintro e w' ⟨rfl, rfl⟩
  simp only []
  repeat (first | (with_reducible refine then_exit ?_) | (with_reducible refine in_same ?_) | ((with_reducible refine in_other ?_ ?_); decide) | (with_reducible refine then_ret ?_) | (with_reducible refine in_ret ?_) | go_values | go_skip | go_guarded | go_step | go_upon | go_back)
  refine (rsign_any _ _ qo.1 qo.2 _).mono ?_
  rintro e w' ⟨rfl, rfl⟩
  rw [g1.out]
  simp only []
  repeat (first | (with_reducible refine then_exit ?_) | (with_reducible refine in_same ?_) | ((with_reducible refine in_other ?_ ?_); decide) | (with_reducible refine then_ret ?_) | (with_reducible refine in_ret ?_) | go_values | go_skip | go_guarded | go_step | go_upon | go_back)
  refine (rsign_any _ _ qb.1 qb.2 _).mono ?_
  rintro e w' ⟨rfl, rfl⟩
  rw [g2.out]
  simp only []
  repeat (first | (with_reducible refine then_exit ?_) | (with_reducible refine in_same ?_) | ((with_reducible refine in_other ?_ ?_); decide) | (with_reducible refine then_ret ?_) | (with_reducible refine in_ret ?_) | go_values | go_skip | go_guarded | go_step | go_upon | go_back)
  refine (rfield_any _ _ _ qo.1 qo.2 _).mono ?_
  rintro e w' ⟨rfl, rfl⟩
  rw [g3.out]
  simp only []
  repeat (first | (with_reducible refine then_exit ?_) | (with_reducible refine in_same ?_) | ((with_reducible refine in_other ?_ ?_); decide) | (with_reducible refine then_ret ?_) | (with_reducible refine in_ret ?_) | go_values | go_skip | go_guarded | go_step | go_upon | go_back)
  refine (rfield_any _ _ _ qb.1 qb.2 _).mono ?_
  rintro e w' ⟨rfl, rfl⟩
  rw [g4.out]
  simp only []
  repeat (first | (with_reducible refine then_exit ?_) | (with_reducible refine in_same ?_) | ((with_reducible refine in_other ?_ ?_); decide) | (with_reducible refine then_ret ?_) | (with_reducible refine in_ret ?_) | go_values | go_skip | go_guarded | go_step | go_upon | go_back)
  refine (rfield_any _ _ _ QV.1 QV.2 _).mono ?_
  rintro e w' ⟨rfl, rfl⟩
  simp only []
  repeat (first | (with_reducible refine then_exit ?_) | (with_reducible refine in_same ?_) | ((with_reducible refine in_other ?_ ?_); decide) | (with_reducible refine then_ret ?_) | (with_reducible refine in_ret ?_) | go_values | go_skip | go_guarded | go_step | go_upon | go_back)
  go_ret
  exact ⟨ret_int HE.out, rfl⟩
set_option maxRecDepth 100000 in
set_option maxHeartbeats 1000000 in
theorem rst_84 (old b : Int) (qo : InU old) (qb : InU b) (HL : Hid (∀ w, Calls Tryd.prog 82 #[.int .i64 84] w fun e w' => e = .returned (.bool true) ∧ w = w')) (HS : Hid (∀ w, Calls Tryd.prog 78 #[.int .i64 84] w fun e w' => e = .returned (.int .i64 8) ∧ w = w')) (w : World) :
    Calls Tryd.prog 38 #[.int .i64 84, .int .u64 old, .int .u64 b] w fun e w' => e = .returned (.int .u64 (Fld (PickI (LtS old b) old b) 0 64)) ∧ w = w' := by
  have HE : Hid (Fld (PickI (LtS old b) old b) 0 64 = Fld (PickI (LtS old b) old b) 0 64) := Lib.hid (rfl)
  have QV : InU (PickI (LtS old b) old b) := in_pick _ _ _ qo qb
  have g1 := Lib.hid (sgn64 old)
  have g2 := Lib.hid (sgn64 b)
  have g3 := Lib.hid (fld64 old qo)
  have g4 := Lib.hid (fld64 b qb)
  have HR := fun w => rless_any old b qo qb w
  cases hl : LtS old b <;> rw [hl] at HR HE QV <;> have HRR := Lib.hid HR <;> clear HR
  all_goals
    first | rw [pick_t] at HE QV | rw [pick_f] at HE QV
    try rw [pick_t]
    try rw [pick_f]
    go_enter Tryd.func38, Tryd.ntmps38
    repeat (first | (with_reducible refine then_exit ?_) | (with_reducible refine in_same ?_) | ((with_reducible refine in_other ?_ ?_); decide) | (with_reducible refine then_ret ?_) | (with_reducible refine in_ret ?_) | go_values | go_skip | go_guarded | go_step | go_upon | go_back)
    refine (HL.out _).mono ?_
    rintro e w' ⟨rfl, rfl⟩
    simp only []
    repeat (first | (with_reducible refine then_exit ?_) | (with_reducible refine in_same ?_) | ((with_reducible refine in_other ?_ ?_); decide) | (with_reducible refine then_ret ?_) | (with_reducible refine in_ret ?_) | go_values | go_skip | go_guarded | go_step | go_upon | go_back)
    refine (HS.out _).mono ?_
    rintro e w' ⟨rfl, rfl⟩
    simp only []
    repeat (first | (with_reducible refine then_exit ?_) | (with_reducible refine in_same ?_) | ((with_reducible refine in_other ?_ ?_); decide) | (with_reducible refine then_ret ?_) | (with_reducible refine in_ret ?_) | go_values | go_skip | go_guarded | go_step | go_upon | go_back)
    refine (rsign_any _ _ qo.1 qo.2 _).mono ?_
    rintro e w' ⟨rfl, rfl⟩
    rw [g1.out]
    simp only []
    repeat (first | (with_reducible refine then_exit ?_) | (with_reducible refine in_same ?_) | ((with_reducible refine in_other ?_ ?_); decide) | (with_reducible refine then_ret ?_) | (with_reducible refine in_ret ?_) | go_values | go_skip | go_guarded | go_step | go_upon | go_back)
    refine (rsign_any _ _ qb.1 qb.2 _).mono ?_
    rintro e w' ⟨rfl, rfl⟩
    rw [g2.out]
    simp only []
    repeat (first | (with_reducible refine then_exit ?_) | (with_reducible refine in_same ?_) | ((with_reducible refine in_other ?_ ?_); decide) | (with_reducible refine then_ret ?_) | (with_reducible refine in_ret ?_) | go_values | go_skip | go_guarded | go_step | go_upon | go_back)
    refine (rfield_any _ _ _ qo.1 qo.2 _).mono ?_
    rintro e w' ⟨rfl, rfl⟩
    rw [g3.out]
    simp only []
    repeat (first | (with_reducible refine then_exit ?_) | (with_reducible refine in_same ?_) | ((with_reducible refine in_other ?_ ?_); decide) | (with_reducible refine then_ret ?_) | (with_reducible refine in_ret ?_) | go_values | go_skip | go_guarded | go_step | go_upon | go_back)
    refine (rfield_any _ _ _ qb.1 qb.2 _).mono ?_
    rintro e w' ⟨rfl, rfl⟩
    rw [g4.out]
    simp only []
    repeat (first | (with_reducible refine then_exit ?_) | (with_reducible refine in_same ?_) | ((with_reducible refine in_other ?_ ?_); decide) | (with_reducible refine then_ret ?_) | (with_reducible refine in_ret ?_) | go_values | go_skip | go_guarded | go_step | go_upon | go_back)
    refine (HRR.out _).mono ?_
    rintro e w' ⟨rfl, rfl⟩
    simp only []
    repeat (first | (with_reducible refine then_exit ?_) | (with_reducible refine in_same ?_) | ((with_reducible refine in_other ?_ ?_); decide) | (with_reducible refine then_ret ?_) | (with_reducible refine in_ret ?_) | go_values | go_skip | go_guarded | go_step | go_upon | go_back)
    refine (rfield_any _ _ _ QV.1 QV.2 _).mono ?_
    rintro e w' ⟨rfl, rfl⟩
    simp only []
    repeat (first | (with_reducible refine then_exit ?_) | (with_reducible refine in_same ?_) | ((with_reducible refine in_other ?_ ?_); decide) | (with_reducible refine then_ret ?_) | (with_reducible refine in_ret ?_) | go_values | go_skip | go_guarded | go_step | go_upon | go_back)
    go_ret
    exact ⟨ret_int HE.out, rfl⟩
set_option maxRecDepth 100000 in
set_option maxHeartbeats 1000000 in
theorem rst_85 (old b : Int) (qo : InU old) (qb : InU b) (HL : Hid (∀ w, Calls Tryd.prog 82 #[.int .i64 85] w fun e w' => e = .returned (.bool true) ∧ w = w')) (HS : Hid (∀ w, Calls Tryd.prog 78 #[.int .i64 85] w fun e w' => e = .returned (.int .i64 8) ∧ w = w')) (w : World) :
    Calls Tryd.prog 38 #[.int .i64 85, .int .u64 old, .int .u64 b] w fun e w' => e = .returned (.int .u64 (Fld (PickI (LtS old b) b old) 0 64)) ∧ w = w' := by
  have HE : Hid (Fld (PickI (LtS b old) old b) 0 64 = Fld (PickI (LtS old b) b old) 0 64) := Lib.hid (by rw [pick_max old b qo qb])
  have QV : InU (PickI (LtS b old) old b) := in_pick _ _ _ qo qb
  have g1 := Lib.hid (sgn64 old)
  have g2 := Lib.hid (sgn64 b)
  have g3 := Lib.hid (fld64 old qo)
  have g4 := Lib.hid (fld64 b qb)
  have HR := fun w => rless_any b old qb qo w
  cases hl : LtS b old <;> rw [hl] at HR HE QV <;> have HRR := Lib.hid HR <;> clear HR
  all_goals
    first | rw [pick_t] at HE QV | rw [pick_f] at HE QV
    try rw [pick_t]
    try rw [pick_f]
    go_enter Tryd.func38, Tryd.ntmps38
    repeat (first | (with_reducible refine then_exit ?_) | (with_reducible refine in_same ?_) | ((with_reducible refine in_other ?_ ?_); decide) | (with_reducible refine then_ret ?_) | (with_reducible refine in_ret ?_) | go_values | go_skip | go_guarded | go_step | go_upon | go_back)
    refine (HL.out _).mono ?_
    rintro e w' ⟨rfl, rfl⟩
    simp only []
    repeat (first | (with_reducible refine then_exit ?_) | (with_reducible refine in_same ?_) | ((with_reducible refine in_other ?_ ?_); decide) | (with_reducible refine then_ret ?_) | (with_reducible refine in_ret ?_) | go_values | go_skip | go_guarded | go_step | go_upon | go_back)
    refine (HS.out _).mono ?_
    rintro e w' ⟨rfl, rfl⟩
    simp only []
    repeat (first | (with_reducible refine then_exit ?_) | (with_reducible refine in_same ?_) | ((with_reducible refine in_other ?_ ?_); decide) | (with_reducible refine then_ret ?_) | (with_reducible refine in_ret ?_) | go_values | go_skip | go_guarded | go_step | go_upon | go_back)
    refine (rsign_any _ _ qo.1 qo.2 _).mono ?_
    rintro e w' ⟨rfl, rfl⟩
    rw [g1.out]
    simp only []
    repeat (first | (with_reducible refine then_exit ?_) | (with_reducible refine in_same ?_) | ((with_reducible refine in_other ?_ ?_); decide) | (with_reducible refine then_ret ?_) | (with_reducible refine in_ret ?_) | go_values | go_skip | go_guarded | go_step | go_upon | go_back)
    refine (rsign_any _ _ qb.1 qb.2 _).mono ?_
    rintro e w' ⟨rfl, rfl⟩
    rw [g2.out]
    simp only []
    repeat (first | (with_reducible refine then_exit ?_) | (with_reducible refine in_same ?_) | ((with_reducible refine in_other ?_ ?_); decide) | (with_reducible refine then_ret ?_) | (with_reducible refine in_ret ?_) | go_values | go_skip | go_guarded | go_step | go_upon | go_back)
    refine (rfield_any _ _ _ qo.1 qo.2 _).mono ?_
    rintro e w' ⟨rfl, rfl⟩
    rw [g3.out]
    simp only []
    repeat (first | (with_reducible refine then_exit ?_) | (with_reducible refine in_same ?_) | ((with_reducible refine in_other ?_ ?_); decide) | (with_reducible refine then_ret ?_) | (with_reducible refine in_ret ?_) | go_values | go_skip | go_guarded | go_step | go_upon | go_back)
    refine (rfield_any _ _ _ qb.1 qb.2 _).mono ?_
    rintro e w' ⟨rfl, rfl⟩
    rw [g4.out]
    simp only []
    repeat (first | (with_reducible refine then_exit ?_) | (with_reducible refine in_same ?_) | ((with_reducible refine in_other ?_ ?_); decide) | (with_reducible refine then_ret ?_) | (with_reducible refine in_ret ?_) | go_values | go_skip | go_guarded | go_step | go_upon | go_back)
    refine (HRR.out _).mono ?_
    rintro e w' ⟨rfl, rfl⟩
    simp only []
    repeat (first | (with_reducible refine then_exit ?_) | (with_reducible refine in_same ?_) | ((with_reducible refine in_other ?_ ?_); decide) | (with_reducible refine then_ret ?_) | (with_reducible refine in_ret ?_) | go_values | go_skip | go_guarded | go_step | go_upon | go_back)
    refine (rfield_any _ _ _ QV.1 QV.2 _).mono ?_
    rintro e w' ⟨rfl, rfl⟩
    simp only []
    repeat (first | (with_reducible refine then_exit ?_) | (with_reducible refine in_same ?_) | ((with_reducible refine in_other ?_ ?_); decide) | (with_reducible refine then_ret ?_) | (with_reducible refine in_ret ?_) | go_values | go_skip | go_guarded | go_step | go_upon | go_back)
    go_ret
    exact ⟨ret_int HE.out, rfl⟩
set_option maxRecDepth 100000 in
set_option maxHeartbeats 1000000 in
theorem rst_86 (old b : Int) (qo : InU old) (qb : InU b) (HL : Hid (∀ w, Calls Tryd.prog 82 #[.int .i64 86] w fun e w' => e = .returned (.bool true) ∧ w = w')) (HS : Hid (∀ w, Calls Tryd.prog 78 #[.int .i64 86] w fun e w' => e = .returned (.int .i64 8) ∧ w = w')) (w : World) :
    Calls Tryd.prog 38 #[.int .i64 86, .int .u64 old, .int .u64 b] w fun e w' => e = .returned (.int .u64 (Fld (MinI old b) 0 64)) ∧ w = w' := by
  have HE : Hid (Fld (min old b) 0 64 = Fld (min old b) 0 64) := Lib.hid (rfl)
  have QV : InU (min old b) := in_min _ _ qo qb
  have g1 := Lib.hid (sgn64 old)
  have g2 := Lib.hid (sgn64 b)
  have g3 := Lib.hid (fld64 old qo)
  have g4 := Lib.hid (fld64 b qb)
  go_enter Tryd.func38, Tryd.ntmps38
  repeat (first | (with_reducible refine then_exit ?_) | (with_reducible refine in_same ?_) | ((with_reducible refine in_other ?_ ?_); decide) | (with_reducible refine then_ret ?_) | (with_reducible refine in_ret ?_) | go_values | go_skip | go_guarded | go_step | go_upon | go_back)
  refine (HL.out _).mono ?_
  rintro e w' ⟨rfl, rfl⟩
  simp only []
  repeat (first | (with_reducible refine then_exit ?_) | (with_reducible refine in_same ?_) | ((with_reducible refine in_other ?_ ?_); decide) | (with_reducible refine then_ret ?_) | (with_reducible refine in_ret ?_) | go_values | go_skip | go_guarded | go_step | go_upon | go_back)
  refine (HS.out _).mono ?_
  rintro e w' ⟨rfl, rfl⟩
  simp only []
  repeat (first | (with_reducible refine then_exit ?_) | (with_reducible refine in_same ?_) | ((with_reducible refine in_other ?_ ?_); decide) | (with_reducible refine then_ret ?_) | (with_reducible refine in_ret ?_) | go_values | go_skip | go_guarded | go_step | go_upon | go_back)
  refine (rsign_any _ _ qo.1 qo.2 _).mono ?_
  rintro e w' ⟨rfl, rfl⟩
  rw [g1.out]
  simp only []
  repeat (first | (with_reducible refine then_exit ?_) | (with_reducible refine in_same ?_) | ((with_reducible refine in_other ?_ ?_); decide) | (with_reducible refine then_ret ?_) | (with_reducible refine in_ret ?_) | go_values | go_skip | go_guarded | go_step | go_upon | go_back)
  refine (rsign_any _ _ qb.1 qb.2 _).mono ?_
  rintro e w' ⟨rfl, rfl⟩
  rw [g2.out]
  simp only []
  repeat (first | (with_reducible refine then_exit ?_) | (with_reducible refine in_same ?_) | ((with_reducible refine in_other ?_ ?_); decide) | (with_reducible refine then_ret ?_) | (with_reducible refine in_ret ?_) | go_values | go_skip | go_guarded | go_step | go_upon | go_back)
  refine (rfield_any _ _ _ qo.1 qo.2 _).mono ?_
  rintro e w' ⟨rfl, rfl⟩
  rw [g3.out]
  simp only []
  repeat (first | (with_reducible refine then_exit ?_) | (with_reducible refine in_same ?_) | ((with_reducible refine in_other ?_ ?_); decide) | (with_reducible refine then_ret ?_) | (with_reducible refine in_ret ?_) | go_values | go_skip | go_guarded | go_step | go_upon | go_back)
  refine (rfield_any _ _ _ qb.1 qb.2 _).mono ?_
  rintro e w' ⟨rfl, rfl⟩
  rw [g4.out]
  simp only []
  repeat (first | (with_reducible refine then_exit ?_) | (with_reducible refine in_same ?_) | ((with_reducible refine in_other ?_ ?_); decide) | (with_reducible refine then_ret ?_) | (with_reducible refine in_ret ?_) | go_values | go_skip | go_guarded | go_step | go_upon | go_back)
  refine (rfield_any _ _ _ QV.1 QV.2 _).mono ?_
  rintro e w' ⟨rfl, rfl⟩
  simp only []
  repeat (first | (with_reducible refine then_exit ?_) | (with_reducible refine in_same ?_) | ((with_reducible refine in_other ?_ ?_); decide) | (with_reducible refine then_ret ?_) | (with_reducible refine in_ret ?_) | go_values | go_skip | go_guarded | go_step | go_upon | go_back)
  go_ret
  exact ⟨ret_int HE.out, rfl⟩
set_option maxRecDepth 100000 in
set_option maxHeartbeats 1000000 in
theorem rst_87 (old b : Int) (qo : InU old) (qb : InU b) (HL : Hid (∀ w, Calls Tryd.prog 82 #[.int .i64 87] w fun e w' => e = .returned (.bool true) ∧ w = w')) (HS : Hid (∀ w, Calls Tryd.prog 78 #[.int .i64 87] w fun e w' => e = .returned (.int .i64 8) ∧ w = w')) (w : World) :
    Calls Tryd.prog 38 #[.int .i64 87, .int .u64 old, .int .u64 b] w fun e w' => e = .returned (.int .u64 (Fld (MaxI old b) 0 64)) ∧ w = w' := by
  have HE : Hid (Fld (max old b) 0 64 = Fld (max old b) 0 64) := Lib.hid (rfl)
  have QV : InU (max old b) := in_max _ _ qo qb
  have g1 := Lib.hid (sgn64 old)
  have g2 := Lib.hid (sgn64 b)
  have g3 := Lib.hid (fld64 old qo)
  have g4 := Lib.hid (fld64 b qb)
  go_enter Tryd.func38, Tryd.ntmps38
  repeat (first | (with_reducible refine then_exit ?_) | (with_reducible refine in_same ?_) | ((with_reducible refine in_other ?_ ?_); decide) | (with_reducible refine then_ret ?_) | (with_reducible refine in_ret ?_) | go_values | go_skip | go_guarded | go_step | go_upon | go_back)
  refine (HL.out _).mono ?_
  rintro e w' ⟨rfl, rfl⟩
  simp only []
  repeat (first | (with_reducible refine then_exit ?_) | (with_reducible refine in_same ?_) | ((with_reducible refine in_other ?_ ?_); decide) | (with_reducible refine then_ret ?_) | (with_reducible refine in_ret ?_) | go_values | go_skip | go_guarded | go_step | go_upon | go_back)
  refine (HS.out _).mono ?_
  rintro e w' ⟨rfl, rfl⟩
  simp only []
  repeat (first | (with_reducible refine then_exit ?_) | (with_reducible refine in_same ?_) | ((with_reducible refine in_other ?_ ?_); decide) | (with_reducible refine then_ret ?_) | (with_reducible refine in_ret ?_) | go_values | go_skip | go_guarded | go_step | go_upon | go_back)
  refine (rsign_any _ _ qo.1 qo.2 _).mono ?_
  rintro e w' ⟨rfl, rfl⟩
  rw [g1.out]
  simp only []
  repeat (first | (with_reducible refine then_exit ?_) | (with_reducible refine in_same ?_) | ((with_reducible refine in_other ?_ ?_); decide) | (with_reducible refine then_ret ?_) | (with_reducible refine in_ret ?_) | go_values | go_skip | go_guarded | go_step | go_upon | go_back)
  refine (rsign_any _ _ qb.1 qb.2 _).mono ?_
  rintro e w' ⟨rfl, rfl⟩
  rw [g2.out]
  simp only []
  repeat (first | (with_reducible refine then_exit ?_) | (with_reducible refine in_same ?_) | ((with_reducible refine in_other ?_ ?_); decide) | (with_reducible refine then_ret ?_) | (with_reducible refine in_ret ?_) | go_values | go_skip | go_guarded | go_step | go_upon | go_back)
  refine (rfield_any _ _ _ qo.1 qo.2 _).mono ?_
  rintro e w' ⟨rfl, rfl⟩
  rw [g3.out]
  simp only []
  repeat (first | (with_reducible refine then_exit ?_) | (with_reducible refine in_same ?_) | ((with_reducible refine in_other ?_ ?_); decide) | (with_reducible refine then_ret ?_) | (with_reducible refine in_ret ?_) | go_values | go_skip | go_guarded | go_step | go_upon | go_back)
  refine (rfield_any _ _ _ qb.1 qb.2 _).mono ?_
  rintro e w' ⟨rfl, rfl⟩
  rw [g4.out]
  simp only []
  repeat (first | (with_reducible refine then_exit ?_) | (with_reducible refine in_same ?_) | ((with_reducible refine in_other ?_ ?_); decide) | (with_reducible refine then_ret ?_) | (with_reducible refine in_ret ?_) | go_values | go_skip | go_guarded | go_step | go_upon | go_back)
  refine (rfield_any _ _ _ QV.1 QV.2 _).mono ?_
  rintro e w' ⟨rfl, rfl⟩
  simp only []
  repeat (first | (with_reducible refine then_exit ?_) | (with_reducible refine in_same ?_) | ((with_reducible refine in_other ?_ ?_); decide) | (with_reducible refine then_ret ?_) | (with_reducible refine in_ret ?_) | go_values | go_skip | go_guarded | go_step | go_upon | go_back)
  go_ret
  exact ⟨ret_int HE.out, rfl⟩
set_option maxRecDepth 100000 in
theorem rst_no (op old b : Int) (HL : Hid (∀ w, Calls Tryd.prog 82 #[.int .i64 op] w fun e w' => e = .returned (.bool false) ∧ w = w')) (w : World) :
    Calls Tryd.prog 38 #[.int .i64 op, .int .u64 old, .int .u64 b] w fun e w' => e = .returned (.int .u64 0) ∧ w = w' := by
  go_enter Tryd.func38, Tryd.ntmps38
  repeat (first | (with_reducible refine then_exit ?_) | (with_reducible refine in_same ?_) | ((with_reducible refine in_other ?_ ?_); decide) | (with_reducible refine then_ret ?_) | (with_reducible refine in_ret ?_) | go_values | go_skip | go_guarded | go_step | go_upon | go_back)
  refine (HL.out _).mono ?_
  rintro e w' ⟨rfl, rfl⟩
  simp only []
  repeat (first | (with_reducible refine then_exit ?_) | (with_reducible refine in_same ?_) | ((with_reducible refine in_other ?_ ?_); decide) | (with_reducible refine then_ret ?_) | (with_reducible refine in_ret ?_) | go_values | go_skip | go_guarded | go_step | go_upon | go_back)
  go_ret
  exact ⟨rfl, rfl⟩
theorem rst_any (op old b : Int) (qo : InU old) (qb : InU b) (w : World) : Calls Tryd.prog 38 #[.int .i64 op, .int .u64 old, .int .u64 b] w fun e w' => e = .returned (.int .u64 (StB op old b)) ∧ w = w' := by
  have HL := fun w => rstores_any op w
  have HS := fun w => rsize_any op w
  unfold StB
  cases hl : StoreB op <;> rw [hl] at HL
  · exact rst_no op old b (Lib.hid HL) w
  rw [if_pos rfl]
  have h : op = 18 ∨ op = 19 ∨ op = 20 ∨ op = 21 ∨ op = 67 ∨ op = 68 ∨ op = 69 ∨ op = 70 ∨ op = 71 ∨ op = 72 ∨ op = 73 ∨ op = 74 ∨ op = 75 ∨ op = 76 ∨ op = 78 ∨ op = 79 ∨ op = 80 ∨ op = 81 ∨ op = 82 ∨ op = 83 ∨ op = 84 ∨ op = 85 ∨ op = 86 ∨ op = 87 := by unfold StoreB at hl; simp at hl; omega
  rcases h with rfl | rfl | rfl | rfl | rfl | rfl | rfl | rfl | rfl | rfl | rfl | rfl | rfl | rfl | rfl | rfl | rfl | rfl | rfl | rfl | rfl | rfl | rfl | rfl
  · rw [show SizeI 18 = 1 from by decide] at HS ⊢; rw [show CgB 18 old b = b from by simp only [CgB, Int.reduceEq, ↓reduceIte], show (8 : Int) * 1 = 8 from by decide]; exact rst_18 old b qo qb (Lib.hid HL) (Lib.hid HS) w
  · rw [show SizeI 19 = 2 from by decide] at HS ⊢; rw [show CgB 19 old b = b from by simp only [CgB, Int.reduceEq, ↓reduceIte], show (8 : Int) * 2 = 16 from by decide]; exact rst_19 old b qo qb (Lib.hid HL) (Lib.hid HS) w
  · rw [show SizeI 20 = 4 from by decide] at HS ⊢; rw [show CgB 20 old b = b from by simp only [CgB, Int.reduceEq, ↓reduceIte], show (8 : Int) * 4 = 32 from by decide]; exact rst_20 old b qo qb (Lib.hid HL) (Lib.hid HS) w
  · rw [show SizeI 21 = 8 from by decide] at HS ⊢; rw [show CgB 21 old b = b from by simp only [CgB, Int.reduceEq, ↓reduceIte], show (8 : Int) * 8 = 64 from by decide]; exact rst_21 old b qo qb (Lib.hid HL) (Lib.hid HS) w
  · rw [show SizeI 67 = 4 from by decide] at HS ⊢; rw [show CgB 67 old b = b from by simp only [CgB, Int.reduceEq, ↓reduceIte], show (8 : Int) * 4 = 32 from by decide]; exact rst_67 old b qo qb (Lib.hid HL) (Lib.hid HS) w
  · rw [show SizeI 68 = 4 from by decide] at HS ⊢; rw [show CgB 68 old b = b from by simp only [CgB, Int.reduceEq, ↓reduceIte], show (8 : Int) * 4 = 32 from by decide]; exact rst_68 old b qo qb (Lib.hid HL) (Lib.hid HS) w
  · rw [show SizeI 69 = 4 from by decide] at HS ⊢; rw [cg_69, show (8 : Int) * 4 = 32 from by decide]; exact rst_69 old b qo qb (Lib.hid HL) (Lib.hid HS) w
  · rw [show SizeI 70 = 4 from by decide] at HS ⊢; rw [cg_70, show (8 : Int) * 4 = 32 from by decide]; exact rst_70 old b qo qb (Lib.hid HL) (Lib.hid HS) w
  · rw [show SizeI 71 = 4 from by decide] at HS ⊢; rw [cg_71, show (8 : Int) * 4 = 32 from by decide]; exact rst_71 old b qo qb (Lib.hid HL) (Lib.hid HS) w
  · rw [show SizeI 72 = 4 from by decide] at HS ⊢; rw [cg_72, show (8 : Int) * 4 = 32 from by decide]; exact rst_72 old b qo qb (Lib.hid HL) (Lib.hid HS) w
  · rw [show SizeI 73 = 4 from by decide] at HS ⊢; rw [cg_73, show (8 : Int) * 4 = 32 from by decide]; exact rst_73 old b qo qb (Lib.hid HL) (Lib.hid HS) w
  · rw [show SizeI 74 = 4 from by decide] at HS ⊢; rw [cg_74, show (8 : Int) * 4 = 32 from by decide]; exact rst_74 old b qo qb (Lib.hid HL) (Lib.hid HS) w
  · rw [show SizeI 75 = 4 from by decide] at HS ⊢; rw [cg_75, show (8 : Int) * 4 = 32 from by decide]; exact rst_75 old b qo qb (Lib.hid HL) (Lib.hid HS) w
  · rw [show SizeI 76 = 4 from by decide] at HS ⊢; rw [cg_76, show (8 : Int) * 4 = 32 from by decide]; exact rst_76 old b qo qb (Lib.hid HL) (Lib.hid HS) w
  · rw [show SizeI 78 = 8 from by decide] at HS ⊢; rw [show CgB 78 old b = b from by simp only [CgB, Int.reduceEq, ↓reduceIte], show (8 : Int) * 8 = 64 from by decide]; exact rst_78 old b qo qb (Lib.hid HL) (Lib.hid HS) w
  · rw [show SizeI 79 = 8 from by decide] at HS ⊢; rw [show CgB 79 old b = b from by simp only [CgB, Int.reduceEq, ↓reduceIte], show (8 : Int) * 8 = 64 from by decide]; exact rst_79 old b qo qb (Lib.hid HL) (Lib.hid HS) w
  · rw [show SizeI 80 = 8 from by decide] at HS ⊢; rw [cg_80, show (8 : Int) * 8 = 64 from by decide]; exact rst_80 old b qo qb (Lib.hid HL) (Lib.hid HS) w
  · rw [show SizeI 81 = 8 from by decide] at HS ⊢; rw [cg_81, show (8 : Int) * 8 = 64 from by decide]; exact rst_81 old b qo qb (Lib.hid HL) (Lib.hid HS) w
  · rw [show SizeI 82 = 8 from by decide] at HS ⊢; rw [cg_82, show (8 : Int) * 8 = 64 from by decide]; exact rst_82 old b qo qb (Lib.hid HL) (Lib.hid HS) w
  · rw [show SizeI 83 = 8 from by decide] at HS ⊢; rw [cg_83, show (8 : Int) * 8 = 64 from by decide]; exact rst_83 old b qo qb (Lib.hid HL) (Lib.hid HS) w
  · rw [show SizeI 84 = 8 from by decide] at HS ⊢; rw [cg_84, show (8 : Int) * 8 = 64 from by decide]; exact rst_84 old b qo qb (Lib.hid HL) (Lib.hid HS) w
  · rw [show SizeI 85 = 8 from by decide] at HS ⊢; rw [cg_85, show (8 : Int) * 8 = 64 from by decide]; exact rst_85 old b qo qb (Lib.hid HL) (Lib.hid HS) w
  · rw [show SizeI 86 = 8 from by decide] at HS ⊢; rw [cg_86, show (8 : Int) * 8 = 64 from by decide]; exact rst_86 old b qo qb (Lib.hid HL) (Lib.hid HS) w
  · rw [show SizeI 87 = 8 from by decide] at HS ⊢; rw [cg_87, show (8 : Int) * 8 = 64 from by decide]; exact rst_87 old b qo qb (Lib.hid HL) (Lib.hid HS) w
end Go.Proofs.YtnifoghebnjonaaDoor
