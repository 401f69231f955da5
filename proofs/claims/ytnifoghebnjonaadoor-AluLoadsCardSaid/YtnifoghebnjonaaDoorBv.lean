/-
  Proved here: what the reference's small functions on words answer. Conditions: the numbers are words.
-/
import Derived.Test.YtnifoghebnjonaaDoorBu
namespace Go.Proofs.YtnifoghebnjonaaDoor
open Go.RowKit
set_option linter.unusedVariables false
theorem rneg_any (x : Int) (q : InU x) (w : World) : Calls Tryd.prog 111 #[.int .u64 x] w fun e w' => e = .returned (.bool (NegB x)) ∧ w = w' := by
  obtain ⟨h0, h1⟩ := q
  cases hn : NegB x
  · have H := Lib.hid (bt63_pos x h0 h1 hn)
    clear hn
    go_enter Tryd.func111, Tryd.ntmps111
    go_wp2_with fail
    refine (rbit_any _ _ h0 h1 (by decide) (by decide) _).mono ?_
    rintro e w' ⟨rfl, rfl⟩
    rw [H.out]
    go_wp2_with fail
    go_ret
    exact ⟨rfl, rfl⟩
  · have H := Lib.hid (bt63_neg x h0 h1 hn)
    clear hn
    go_enter Tryd.func111, Tryd.ntmps111
    go_wp2_with fail
    refine (rbit_any _ _ h0 h1 (by decide) (by decide) _).mono ?_
    rintro e w' ⟨rfl, rfl⟩
    rw [H.out]
    go_wp2_with fail
    go_ret
    exact ⟨rfl, rfl⟩
theorem rless_any (a b : Int) (qa : InU a) (qb : InU b) (w : World) : Calls Tryd.prog 70 #[.int .u64 a, .int .u64 b] w fun e w' => e = .returned (.bool (LtS a b)) ∧ w = w' := by
  have H := lts_neg a b qa qb
  have HA := Lib.hid (rneg_any a qa)
  have HB := Lib.hid (rneg_any b qb)
  cases h1 : NegB a <;> cases h2 : NegB b <;> rw [h1] at HA H <;> rw [h2] at HB H <;> have HH := Lib.hid H <;> clear H h1 h2
  all_goals
    go_enter Tryd.func70, Tryd.ntmps70
    go_wp2_with fail
    refine (HA.out _).mono ?_
    rintro e w' ⟨rfl, rfl⟩
    go_wp2_with fail
    refine (HB.out _).mono ?_
    rintro e w' ⟨rfl, rfl⟩
    go_wp2_with fail
    try (refine (HA.out _).mono ?_; rintro e w' ⟨rfl, rfl⟩; go_wp2_with fail)
    go_ret
    exact ⟨ret_bool HH.out.symm, rfl⟩
theorem rone_any (b : Bool) (w : World) : Calls Tryd.prog 105 #[.bool b] w fun e w' => e = .returned (.int .u64 (if b = true then 1 else 0)) ∧ w = w' := by
  cases b
  all_goals
    go_enter Tryd.func105, Tryd.ntmps105
    go_wp2
    go_ret
    exact ⟨rfl, rfl⟩
theorem rword_any (x : Int) (q : InU x) (w : World) : Calls Tryd.prog 106 #[.int .u64 x] w fun e w' => e = .returned (.int .u64 (Sgn x 32)) ∧ w = w' := by
  go_enter Tryd.func106, Tryd.ntmps106
  go_wp2_with fail
  refine (rsign_any _ _ q.1 q.2 _).mono ?_
  rintro e w' ⟨rfl, rfl⟩
  go_wp2_with fail
  go_ret
  exact ⟨rfl, rfl⟩
theorem rlow_any (x : Int) (q : InU x) (w : World) : Calls Tryd.prog 107 #[.int .u64 x] w fun e w' => e = .returned (.int .u64 (Fld x 0 32)) ∧ w = w' := by
  go_enter Tryd.func107, Tryd.ntmps107
  go_wp2_with fail
  refine (rfield_any _ _ _ q.1 q.2 _).mono ?_
  rintro e w' ⟨rfl, rfl⟩
  go_wp2_with fail
  go_ret
  exact ⟨rfl, rfl⟩
theorem rleft_any (x n : Int) (q : InU x) (n0 : 0 ≤ n) (n1 : n ≤ 63) (w : World) : Calls Tryd.prog 102 #[.int .u64 x, .int .i64 n] w fun e w' => e = .returned (.int .u64 (Shl x n.toNat)) ∧ w = w' := by
  go_enter Tryd.func102, Tryd.ntmps102
  go_wp2
  go_loop [0, 5] (fun y j => ∃ k : Nat, (k : Int) ≤ n ∧ y = .int .u64 (Shl x k) ∧ j = .int .i64 k) (fun _ j => (n - intOf j).toNat)
  case atStart => exact ⟨0, by omega, val_int (by rw [shl_zero x q]), rfl⟩
  case round =>
    obtain ⟨k, hk, rfl, rfl⟩ := hrel
    by_cases hlt : (k : Int) < n
    · clear hk
      go_wp2
      go_round
      case rel => exact ⟨k + 1, by omega, val_int (step_shl x k), by go_num⟩
      case measure => simp [intOf]; omega
    · have e : Hid (n.toNat = k) := Lib.hid (by omega)
      go_wp2
      go_ret
      exact ⟨ret_int (by rw [e.out]), rfl⟩
theorem rright0_any (x n : Int) (q : InU x) (n0 : 0 ≤ n) (n1 : n ≤ 63) (w : World) : Calls Tryd.prog 103 #[.int .u64 x, .int .i64 n, .int .u64 0] w fun e w' => e = .returned (.int .u64 (x / 2 ^ n.toNat)) ∧ w = w' := by
  go_enter Tryd.func103, Tryd.ntmps103
  go_wp2
  go_loop [0, 7] (fun y j => ∃ k : Nat, (k : Int) ≤ n ∧ y = .int .u64 (x / 2 ^ k) ∧ j = .int .i64 k) (fun _ j => (n - intOf j).toNat)
  case atStart => exact ⟨0, by omega, val_int (by simp), rfl⟩
  case round =>
    obtain ⟨k, hk, rfl, rfl⟩ := hrel
    have hs := Lib.hid (step_r0 x k q)
    have p : (0 : Int) < 2 ^ k := Int.pow_pos (by decide)
    have y0 : 0 ≤ x / 2 ^ k := Int.ediv_nonneg q.1 (Int.le_of_lt p)
    have y1 : x / 2 ^ k < 18446744073709551616 := Int.lt_of_le_of_lt (Int.ediv_le_self _ q.1) q.2
    clear p
    have HY : Hid (∃ y, x / 2 ^ k = y) := Lib.hid ⟨_, rfl⟩
    obtain ⟨y, hy⟩ := HY.out
    rw [hy] at hs y0 y1 ⊢
    have Hy := Lib.hid hy
    clear hy HY
    by_cases hlt : (k : Int) < n
    · clear hk
      go_wp2_with fail
      refine (rplace_any _ _ _ _ (by omega) (by omega) (by decide) (by decide) _).mono ?_
      rintro e w' ⟨rfl, rfl⟩
      go_wp2_with fail
      go_round
      case rel => exact ⟨k + 1, by omega, val_int hs.out, by go_num⟩
      case measure => simp [intOf]; omega
    · have e : Hid (n.toNat = k) := Lib.hid (by omega)
      go_wp2
      go_ret
      exact ⟨ret_int (by rw [e.out, Hy.out]), rfl⟩
theorem rrights_any (x n t : Int) (q : InU x) (ht : Hid (t = Bt x 63)) (t0 : 0 ≤ t) (t1 : t ≤ 1) (n0 : 0 ≤ n) (n1 : n ≤ 63) (w : World) : Calls Tryd.prog 103 #[.int .u64 x, .int .i64 n, .int .u64 t] w fun e w' => e = .returned (.int .u64 (Asr x n.toNat)) ∧ w = w' := by
  go_enter Tryd.func103, Tryd.ntmps103
  go_wp2
  go_loop [0, 7] (fun y j => ∃ k : Nat, (k : Int) ≤ n ∧ y = .int .u64 (Asr x k) ∧ j = .int .i64 k) (fun _ j => (n - intOf j).toNat)
  case atStart => exact ⟨0, by omega, val_int (by rw [asr_zero x q]), rfl⟩
  case round =>
    obtain ⟨k, hk, rfl, rfl⟩ := hrel
    have hs := Lib.hid (step_rs x k q)
    obtain ⟨y0, y1⟩ := asr_in x k
    by_cases hlt : (k : Int) < n
    · clear hk
      go_wp2_with fail
      refine (rplace_any _ _ _ _ (by omega) (by omega) (by omega) (by omega) _).mono ?_
      rintro e w' ⟨rfl, rfl⟩
      go_wp2_with fail
      go_round
      case rel => exact ⟨k + 1, by omega, val_int (by rw [← hs.out, ht.out]), by go_num⟩
      case measure => simp [intOf]; omega
    · have e : Hid (n.toNat = k) := Lib.hid (by omega)
      go_wp2
      go_ret
      exact ⟨ret_int (by rw [e.out]), rfl⟩
end Go.Proofs.YtnifoghebnjonaaDoor
