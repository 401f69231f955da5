/-
  Proved here: What width, Field, Place of the code and Bit, power of the reference answer for every word. Conditions: the arguments are words.
-/
import Derived.Test.YtmoggaecnjcjfaaProg
import Derived.Test.YtmoggaecnjcjfaaAr
import Derived.WalkKit
import Derived.WalkSpells
import Derived.WalkLawsBesides
import Derived.Deep.QuietTactic
import Derived.BigQuiet
import Derived.RowKit3
import Derived.Handy
import Derived.Lib.Hide
namespace Go.Proofs.Ytmoggaecnjcjfaa
open Go.RowKit
set_option linter.unusedVariables false

def wid (low n : Int) : Nat := if low < 0 ∨ 63 < low ∨ n < 1 then 0 else (min n (64 - low)).toNat
theorem wid_no (low n : Int) (h : low < 0 ∨ 63 < low ∨ n < 1) : wid low n = 0 := if_pos h
theorem wid_yes (low n : Int) (h0 : 0 ≤ low) (h1 : low ≤ 63) (h2 : 1 ≤ n) : (wid low n : Int) = min n (64 - low) := by
  unfold wid; rw [if_neg (by omega)]; omega
/-- A number below the width: the field may be. -/
theorem wid_lt (low n : Int) (k : Nat) (h : k < wid low n) : 0 ≤ low ∧ low + k ≤ 63 ∧ (k : Int) < n := by
  unfold wid at h; split at h <;> omega
def Fld (x low n : Int) : Int := ((fld x.toNat low.toNat (wid low n) : Nat) : Int)
def Plc (x low n v : Int) : Int := ((plc x.toNat low.toNat (wid low n) v.toNat : Nat) : Int)
theorem ret_int {k : IntKind} {a b : Int} (h : a = b) : Ending.returned (.int k a) = .returned (.int k b) := by rw [h]
theorem val_int {k : IntKind} {a b : Int} (h : a = b) : Value.int k a = .int k b := by rw [h]

def hv (x k : Nat) : Nat := x / 2 ^ k
theorem hv_succ (x k : Nat) : hv x (k + 1) = hv x k / 2 := by unfold hv; rw [Nat.pow_succ, ← Nat.div_div_eq_div_mul]
theorem hv_zero (x : Nat) : hv x 0 = x := by simp [hv]
theorem bt_hv (x i : Int) (k : Nat) (h : i.toNat = k) : Bt x i = ((hv x.toNat k : Nat) : Int) % 2 := by unfold Bt hv; rw [h]; rfl
theorem hv_le (x k : Nat) : hv x k ≤ x := Nat.div_le_self _ _
theorem rbit_any (x i : Int) (h0 : 0 ≤ x) (h1 : x < 18446744073709551616) (g0 : 0 ≤ i) (g1 : i ≤ 63) (w : World) :
    Calls Try.prog 50 #[.int .u64 x, .int .i64 i] w fun e w' => e = .returned (.int .u64 (Bt x i)) ∧ w = w' := by
  go_enter Try.func50, Try.ntmps50
  go_wp2
  go_loop [0, 5] (fun y j => ∃ k : Nat, (k : Int) ≤ i ∧ y = .int .u64 ((hv x.toNat k : Nat) : Int) ∧ j = .int .i64 k) (fun _ j => (i - intOf j).toNat)
  case atStart => exact ⟨0, by omega, val_int (by rw [hv_zero]; omega), rfl⟩
  case round =>
    obtain ⟨k, hk, rfl, rfl⟩ := hrel
    have hb : ((hv x.toNat k : Nat) : Int) < 18446744073709551616 := by have := hv_le x.toNat k; omega
    by_cases hlt : (k : Int) < i
    · clear hk
      go_wp2
      go_round
      case rel => exact ⟨k + 1, by omega, val_int (by rw [hv_succ]; omega), by go_num⟩
      case measure => simp [intOf]; omega
    · have e : Hid (i.toNat = k) := Lib.hid (by omega)
      go_wp2
      go_ret
      exact ⟨ret_int (bt_hv x i k e.out).symm, rfl⟩

theorem rpow_any (i : Int) (g0 : 0 ≤ i) (g1 : i ≤ 63) (w : World) :
    Calls Try.prog 51 #[.int .i64 i] w fun e w' => e = .returned (.int .u64 (Pw i)) ∧ w = w' := by
  go_enter Try.func51, Try.ntmps51
  go_wp2
  go_loop [3, 4] (fun y j => ∃ k : Nat, (k : Int) ≤ i ∧ y = .int .u64 ((2 ^ k : Nat) : Int) ∧ j = .int .i64 k) (fun _ j => (i - intOf j).toNat)
  case atStart => exact ⟨0, by omega, rfl, rfl⟩
  case round =>
    obtain ⟨k, hk, rfl, rfl⟩ := hrel
    by_cases hlt : (k : Int) < i
    · clear hk
      have h64 : (k : Int) < 64 := by omega
      go_wp2
      go_round
      case rel => exact ⟨k + 1, by omega, val_int (wrap_of _ _ (by rw [Nat.pow_succ, Nat.mul_comm]; rfl) (pow64 (by omega))), by go_num⟩
      case measure => simp [intOf]; omega
    · go_wp2
      go_ret
      exact ⟨ret_int (by unfold Pw; rw [show i.toNat = k by omega]; simp), rfl⟩
end Go.Proofs.Ytmoggaecnjcjfaa
