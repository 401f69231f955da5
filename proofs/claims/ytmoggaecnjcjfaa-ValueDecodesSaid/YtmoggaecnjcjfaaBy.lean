/-
  Proved here: What Sign and Fits of the code and of the reference answer. Conditions: the arguments are words.
-/
import Derived.Test.YtmoggaecnjcjfaaBx
import Derived.Test.YtmoggaecnjcjfaaSg
namespace Go.Proofs.Ytmoggaecnjcjfaa
open Go.RowKit
set_option linter.unusedVariables false

theorem ret_bool {a b : Bool} (h : a = b) : Ending.returned (.bool a) = .returned (.bool b) := by rw [h]
theorem rsign_any (x n : Int) (h0 : 0 ≤ x) (h1 : x < 18446744073709551616) (w : World) :
    Calls Try.prog 42 #[.int .u64 x, .int .i64 n] w fun e w' => e = .returned (.int .u64 (Sgn x n)) ∧ w = w' := by
  by_cases h : n < 1 ∨ 63 < n
  · have H := Lib.hid (sgn_no x n h)
    by_cases c1 : n < 1
    · clear h
      go_enter Try.func42, Try.ntmps42
      go_wp2
      go_ret
      exact ⟨ret_int H.out, rfl⟩
    have c2 : 63 < n := by omega
    clear h
    go_enter Try.func42, Try.ntmps42
    go_wp2
    go_ret
    exact ⟨ret_int H.out, rfl⟩
  · have g1 : 1 ≤ n := by omega
    have g2 : n ≤ 63 := by omega
    clear h
    go_enter Try.func42, Try.ntmps42
    go_wp2
    go_loop [5, 6] (fun f i => ∃ k : Nat, (k : Int) ≤ 64 ∧ f = .int .u64 ((sgk x.toNat n.toNat k : Nat) : Int) ∧ i = .int .i64 k) (fun _ i => 64 - (intOf i).toNat)
    case atStart => exact ⟨0, by decide, rfl, rfl⟩
    case round =>
      obtain ⟨k, hk, rfl, rfl⟩ := hrel
      by_cases hlt : (k : Int) < 64
      · clear hk
        by_cases c : (k : Int) < n
        · go_wp2_with (first | (go_at_call 50; refine (rbit_any _ _ (by omega) (by omega) (by omega) (by omega) _).mono ?_; rintro e w' ⟨rfl, rfl⟩) | (go_at_call 51; refine (rpow_any _ (by omega) (by omega) _).mono ?_; rintro e w' ⟨rfl, rfl⟩))
          go_round
          case rel => exact ⟨k + 1, by omega, val_int (rsign_low x n k c (by omega)), by go_num⟩
          case measure => simp [intOf]; omega
        · go_wp2_with (first | (go_at_call 50; refine (rbit_any _ _ (by omega) (by omega) (by omega) (by omega) _).mono ?_; rintro e w' ⟨rfl, rfl⟩) | (go_at_call 51; refine (rpow_any _ (by omega) (by omega) _).mono ?_; rintro e w' ⟨rfl, rfl⟩))
          go_round
          case rel => exact ⟨k + 1, by omega, val_int (rsign_high x n k g1 (by omega) (by omega)), by go_num⟩
          case measure => simp [intOf]; omega
      · have hkk : Hid (k = 64) := Lib.hid (by omega)
        have hge : (64 : Int) ≤ k := by omega
        clear hk hlt
        go_wp2
        go_ret
        exact ⟨ret_int (by rw [hkk.out]; exact rsign_end x n g1 g2), rfl⟩

/-- A signed number as one without. -/
def U (v : Int) : Int := IntKind.u64.wrap v
theorem u_cases (v : Int) (h0 : -9223372036854775808 ≤ v) (h1 : v < 9223372036854775808) : 0 ≤ U v ∧ U v < 18446744073709551616 ∧ (v = U v ∧ U v < 9223372036854775808 ∨ v = U v - 18446744073709551616 ∧ 9223372036854775808 ≤ U v) := by
  unfold U; rw [IntKind.wrap_u64]; omega
theorem rfits_any (v n : Int) (h0 : -9223372036854775808 ≤ v) (h1 : v < 9223372036854775808) (w : World) :
    Calls Try.prog 52 #[.int .i64 v, .int .i64 n] w fun e w' => e = .returned (.bool (FitB v n)) ∧ w = w' := by
  by_cases c1 : n < 1
  · have H := Lib.hid (fit_no v n c1)
    go_enter Try.func52, Try.ntmps52
    go_wp2
    go_ret
    exact ⟨ret_bool H.out.symm, rfl⟩
  by_cases c2 : 63 < n
  · have H := Lib.hid (fit_all v n c2)
    go_enter Try.func52, Try.ntmps52
    go_wp2
    go_ret
    exact ⟨ret_bool H.out.symm, rfl⟩
  have g1 : 1 ≤ n := by omega
  have g2 : n ≤ 63 := by omega
  obtain ⟨u0, u1, uc⟩ := u_cases v h0 h1
  have H := Lib.hid (fit_iff (U v) v n u0 u1 uc g1 g2)
  clear c1 c2 uc
  go_enter Try.func52, Try.ntmps52
  go_wp2_with fail
  go_wp2_with (go_at_call 42; refine (rsign_any (U v) n u0 u1 _).mono ?_; rintro e w' ⟨rfl, rfl⟩)
  go_ret
  exact ⟨ret_bool H.out, rfl⟩
end Go.Proofs.Ytmoggaecnjcjfaa
