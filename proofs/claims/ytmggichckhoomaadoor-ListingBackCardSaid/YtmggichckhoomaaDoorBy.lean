/-
  Proved here: What Sign and Fits of the code and of the reference answer. Conditions: the arguments are words.
-/
import Derived.Test.YtmggichckhoomaaDoorBx
import Derived.Test.YtmggichckhoomaaDoorSg
namespace Go.Proofs.YtmggichckhoomaaDoor
open Go.RowKit
set_option linter.unusedVariables false

theorem ret_bool {a b : Bool} (h : a = b) : Ending.returned (.bool a) = .returned (.bool b) := by rw [h]
theorem rsign_any (x n : Int) (h0 : 0 ≤ x) (h1 : x < 18446744073709551616) (w : World) :
    Calls Tryd.prog 63 #[.int .u64 x, .int .i64 n] w fun e w' => e = .returned (.int .u64 (Sgn x n)) ∧ w = w' := by
  by_cases h : n < 1 ∨ 63 < n
  · have H := Lib.hid (sgn_no x n h)
    by_cases c1 : n < 1
    · clear h
      go_enter Tryd.func63, Tryd.ntmps63
      go_wp2
      go_ret
      exact ⟨ret_int H.out, rfl⟩
    have c2 : 63 < n := by omega
    clear h
    go_enter Tryd.func63, Tryd.ntmps63
    go_wp2
    go_ret
    exact ⟨ret_int H.out, rfl⟩
  · have g1 : 1 ≤ n := by omega
    have g2 : n ≤ 63 := by omega
    clear h
    go_enter Tryd.func63, Tryd.ntmps63
    go_wp2
    go_loop [5, 6] (fun f i => ∃ k : Nat, (k : Int) ≤ 64 ∧ f = .int .u64 ((sgk x.toNat n.toNat k : Nat) : Int) ∧ i = .int .i64 k) (fun _ i => 64 - (intOf i).toNat)
    case atStart => exact ⟨0, by decide, rfl, rfl⟩
    case round =>
      obtain ⟨k, hk, rfl, rfl⟩ := hrel
      by_cases hlt : (k : Int) < 64
      · clear hk
        by_cases c : (k : Int) < n
        · go_wp2_with (first | (go_at_call 78; refine (rbit_any _ _ (by omega) (by omega) (by omega) (by omega) _).mono ?_; rintro e w' ⟨rfl, rfl⟩) | (go_at_call 79; refine (rpow_any _ (by omega) (by omega) _).mono ?_; rintro e w' ⟨rfl, rfl⟩))
          go_round
          case rel => exact ⟨k + 1, by omega, val_int (rsign_low x n k c (by omega)), by go_num⟩
          case measure => simp [intOf]; omega
        · go_wp2_with (first | (go_at_call 78; refine (rbit_any _ _ (by omega) (by omega) (by omega) (by omega) _).mono ?_; rintro e w' ⟨rfl, rfl⟩) | (go_at_call 79; refine (rpow_any _ (by omega) (by omega) _).mono ?_; rintro e w' ⟨rfl, rfl⟩))
          go_round
          case rel => exact ⟨k + 1, by omega, val_int (rsign_high x n k g1 (by omega) (by omega)), by go_num⟩
          case measure => simp [intOf]; omega
      · have hkk : Hid (k = 64) := Lib.hid (by omega)
        have hge : (64 : Int) ≤ k := by omega
        clear hk hlt
        go_wp2
        go_ret
        exact ⟨ret_int (by rw [hkk.out]; exact rsign_end x n g1 g2), rfl⟩

theorem fits_any (v n : Int) (h0 : -9223372036854775808 ≤ v) (h1 : v < 9223372036854775808) (w : World) :
    Calls Tryd.prog 60 #[.int .i64 v, .int .i64 n] w fun e w' => e = .returned (.bool (FitB v n)) ∧ w = w' := by
  by_cases c1 : n < 1
  · have H := Lib.hid (fit_no v n c1)
    go_enter Tryd.func60, Tryd.ntmps60
    go_wp2
    go_ret
    exact ⟨ret_bool H.out.symm, rfl⟩
  by_cases c2 : 63 < n
  · have H := Lib.hid (fit_all v n c2)
    go_enter Tryd.func60, Tryd.ntmps60
    go_wp2
    go_ret
    exact ⟨ret_bool H.out.symm, rfl⟩
  have g1 : 1 ≤ n := by omega
  have g2 : n ≤ 63 := by omega
  have H := Lib.hid (fit_mid v n g1 g2)
  clear c1 c2
  have hp := half_le n g1 g2
  have e : Hid ((2 : Int) ^ (n.toNat - 1) = ((2 ^ (n.toNat - 1) : Nat) : Int)) := by show _ = _; simp
  by_cases c3 : -(2 : Int) ^ (n.toNat - 1) ≤ v
  · go_enter Tryd.func60, Tryd.ntmps60
    go_wp2
    go_ret
    exact ⟨ret_bool (by rw [H.out, ← e.out]; simp [c3]), rfl⟩
  · go_enter Tryd.func60, Tryd.ntmps60
    go_wp2
    go_ret
    exact ⟨ret_bool (by rw [H.out, ← e.out, decide_eq_false (by omega)]; rfl), rfl⟩
/-- A signed number as one without. -/
def U (v : Int) : Int := IntKind.u64.wrap v
theorem u_cases (v : Int) (h0 : -9223372036854775808 ≤ v) (h1 : v < 9223372036854775808) : 0 ≤ U v ∧ U v < 18446744073709551616 ∧ (v = U v ∧ U v < 9223372036854775808 ∨ v = U v - 18446744073709551616 ∧ 9223372036854775808 ≤ U v) := by
  unfold U; rw [IntKind.wrap_u64]; omega
theorem rfits_any (v n : Int) (h0 : -9223372036854775808 ≤ v) (h1 : v < 9223372036854775808) (w : World) :
    Calls Tryd.prog 49 #[.int .i64 v, .int .i64 n] w fun e w' => e = .returned (.bool (FitB v n)) ∧ w = w' := by
  by_cases c1 : n < 1
  · have H := Lib.hid (fit_no v n c1)
    go_enter Tryd.func49, Tryd.ntmps49
    go_wp2
    go_ret
    exact ⟨ret_bool H.out.symm, rfl⟩
  by_cases c2 : 63 < n
  · have H := Lib.hid (fit_all v n c2)
    go_enter Tryd.func49, Tryd.ntmps49
    go_wp2
    go_ret
    exact ⟨ret_bool H.out.symm, rfl⟩
  have g1 : 1 ≤ n := by omega
  have g2 : n ≤ 63 := by omega
  obtain ⟨u0, u1, uc⟩ := u_cases v h0 h1
  have H := Lib.hid (fit_iff (U v) v n u0 u1 uc g1 g2)
  clear c1 c2 uc
  go_enter Tryd.func49, Tryd.ntmps49
  go_wp2_with fail
  go_wp2_with (go_at_call 63; refine (rsign_any (U v) n u0 u1 _).mono ?_; rintro e w' ⟨rfl, rfl⟩)
  go_ret
  exact ⟨ret_bool H.out, rfl⟩
end Go.Proofs.YtmggichckhoomaaDoor
