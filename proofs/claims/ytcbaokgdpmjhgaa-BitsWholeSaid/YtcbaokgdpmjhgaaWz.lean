/-
  Proved here: The law BitsWhole walks to true for every input. No condition but the ranges of the arguments.
-/
import Derived.Test.YtcbaokgdpmjhgaaWh
namespace Go.Proofs.Ytcbaokgdpmjhgaa
open Go.RowKit
set_option linter.unusedVariables false

theorem whole_0 (a0 a1 : Int) (a2 : Bool) (x0 : 0 ≤ a0) (x1 : a0 < 18446744073709551616) (v0 : 0 ≤ a1) (v1 : a1 < 18446744073709551616) (e2 : (a1 == 0) = true) (w : World) :
    Calls Try.prog 7 #[.int .u64 a0, .int .u64 a1, .bool a2] w fun e w' => e = .returned (.bool true) ∧ Grown w w' := by
  have e1 := whole_eq a0 a1 a2 x0 x1
  go_enter Try.func7, Try.ntmps7
  go_wp2_with fail
  refine (quo_any _ _ _ x0 x1 v0 v1 _).mono ?_
  rintro e w' ⟨rfl, rfl⟩
  go_wp2_with fail
  refine (rem_any _ _ _ x0 x1 v0 v1 _).mono ?_
  rintro e w' ⟨rfl, rfl⟩
  go_wp2_with fail
  refine (lives_any _).mono ?_
  rintro e w1 ⟨rfl, hg⟩
  go_wp2_with fail
  go_ret
  exact ⟨rfl, hg⟩
theorem whole_u (a0 a1 : Int) (x0 : 0 ≤ a0) (x1 : a0 < 18446744073709551616) (b1 : 1 ≤ a1) (v1 : a1 < 18446744073709551616) (w : World) :
    Calls Try.prog 7 #[.int .u64 a0, .int .u64 a1, .bool false] w fun e w' => e = .returned (.bool true) ∧ Grown w w' := by
  have v0 : 0 ≤ a1 := by omega
  have e1 := whole_eq a0 a1 false x0 x1
  have e2 : (a1 == 0) = false := by rw [beq_eq_false_iff_ne]; omega
  have e3 := rem_u a0 a1 x0 x1 b1 v1
  go_enter Try.func7, Try.ntmps7
  go_wp2_with fail
  refine (quo_any _ _ _ x0 x1 v0 v1 _).mono ?_
  rintro e w' ⟨rfl, rfl⟩
  go_wp2_with fail
  refine (rem_any _ _ _ x0 x1 v0 v1 _).mono ?_
  rintro e w' ⟨rfl, rfl⟩
  go_wp2_with fail
  refine (lives_any _).mono ?_
  rintro e w1 ⟨rfl, hg⟩
  go_wp2_with fail
  go_ret
  exact ⟨rfl, hg⟩
theorem whole_1 (a0 a1 : Int) (x0 : 0 ≤ a0) (x1 : a0 < 18446744073709551616) (b1 : 1 ≤ a1) (v1 : a1 < 18446744073709551616) (e3 : (a1 == 18446744073709551615) = true) (w : World) :
    Calls Try.prog 7 #[.int .u64 a0, .int .u64 a1, .bool true] w fun e w' => e = .returned (.bool true) ∧ Grown w w' := by
  have v0 : 0 ≤ a1 := by omega
  have e1 := whole_eq a0 a1 true x0 x1
  have e2 : (a1 == 0) = false := by rw [beq_eq_false_iff_ne]; omega
  go_enter Try.func7, Try.ntmps7
  go_wp2_with fail
  refine (quo_any _ _ _ x0 x1 v0 v1 _).mono ?_
  rintro e w' ⟨rfl, rfl⟩
  go_wp2_with fail
  refine (rem_any _ _ _ x0 x1 v0 v1 _).mono ?_
  rintro e w' ⟨rfl, rfl⟩
  go_wp2_with fail
  refine (lives_any _).mono ?_
  rintro e w1 ⟨rfl, hg⟩
  go_wp2_with fail
  go_ret
  exact ⟨rfl, hg⟩
set_option maxHeartbeats 400000 in
theorem ws_pp (a0 a1 : Int) (x0 : 0 ≤ a0) (x1 : a0 < 18446744073709551616) (b1 : 1 ≤ a1) (v1 : a1 < 18446744073709551616) (e3 : (a1 == 18446744073709551615) = false)
    (f3 : -9223372036854775808 < wrap64 (Rem a0 a1 true)) (f4 : wrap64 (Rem a0 a1 true) ≤ 9223372036854775807) (c0 : 0 < wrap64 (Rem a0 a1 true)) (c1 : 0 ≤ wrap64 a0) (c2 : 0 < wrap64 a1) (c3 : wrap64 (Rem a0 a1 true) < wrap64 a1) (c4 : -wrap64 (Rem a0 a1 true) < wrap64 a1) (w : World) :
    Calls Try.prog 7 #[.int .u64 a0, .int .u64 a1, .bool true] w fun e w' => e = .returned (.bool true) ∧ Grown w w' := by
  have v0 : 0 ≤ a1 := by omega
  have e1 := whole_eq a0 a1 true x0 x1
  have e2 : (a1 == 0) = false := by rw [beq_eq_false_iff_ne]; omega
  go_enter Try.func7, Try.ntmps7
  go_wp2_with fail
  refine (quo_any _ _ _ x0 x1 v0 v1 _).mono ?_
  rintro e w' ⟨rfl, rfl⟩
  go_wp2_with fail
  refine (rem_any _ _ _ x0 x1 v0 v1 _).mono ?_
  rintro e w' ⟨rfl, rfl⟩
  go_wp2_with fail
  refine (lives_any _).mono ?_
  rintro e w1 ⟨rfl, hg⟩
  go_wp2_with fail
  go_ret
  exact ⟨rfl, hg⟩
set_option maxHeartbeats 400000 in
theorem ws_pn (a0 a1 : Int) (x0 : 0 ≤ a0) (x1 : a0 < 18446744073709551616) (b1 : 1 ≤ a1) (v1 : a1 < 18446744073709551616) (e3 : (a1 == 18446744073709551615) = false)
    (f3 : -9223372036854775808 < wrap64 (Rem a0 a1 true)) (f4 : wrap64 (Rem a0 a1 true) ≤ 9223372036854775807) (c0 : 0 < wrap64 (Rem a0 a1 true)) (c1 : 0 ≤ wrap64 a0) (c2 : wrap64 a1 < 0) (c3 : wrap64 a1 < wrap64 (Rem a0 a1 true)) (c4 : wrap64 a1 < -wrap64 (Rem a0 a1 true)) (w : World) :
    Calls Try.prog 7 #[.int .u64 a0, .int .u64 a1, .bool true] w fun e w' => e = .returned (.bool true) ∧ Grown w w' := by
  have v0 : 0 ≤ a1 := by omega
  have e1 := whole_eq a0 a1 true x0 x1
  have e2 : (a1 == 0) = false := by rw [beq_eq_false_iff_ne]; omega
  go_enter Try.func7, Try.ntmps7
  go_wp2_with fail
  refine (quo_any _ _ _ x0 x1 v0 v1 _).mono ?_
  rintro e w' ⟨rfl, rfl⟩
  go_wp2_with fail
  refine (rem_any _ _ _ x0 x1 v0 v1 _).mono ?_
  rintro e w' ⟨rfl, rfl⟩
  go_wp2_with fail
  refine (lives_any _).mono ?_
  rintro e w1 ⟨rfl, hg⟩
  go_wp2_with fail
  go_ret
  exact ⟨rfl, hg⟩
set_option maxHeartbeats 400000 in
theorem ws_np (a0 a1 : Int) (x0 : 0 ≤ a0) (x1 : a0 < 18446744073709551616) (b1 : 1 ≤ a1) (v1 : a1 < 18446744073709551616) (e3 : (a1 == 18446744073709551615) = false)
    (f3 : -9223372036854775808 < wrap64 (Rem a0 a1 true)) (f4 : wrap64 (Rem a0 a1 true) ≤ 9223372036854775807) (c0 : wrap64 (Rem a0 a1 true) < 0) (c1 : wrap64 a0 < 0) (c2 : 0 < wrap64 a1) (c3 : wrap64 (Rem a0 a1 true) < wrap64 a1) (c4 : -wrap64 (Rem a0 a1 true) < wrap64 a1) (w : World) :
    Calls Try.prog 7 #[.int .u64 a0, .int .u64 a1, .bool true] w fun e w' => e = .returned (.bool true) ∧ Grown w w' := by
  have v0 : 0 ≤ a1 := by omega
  have e1 := whole_eq a0 a1 true x0 x1
  have e2 : (a1 == 0) = false := by rw [beq_eq_false_iff_ne]; omega
  go_enter Try.func7, Try.ntmps7
  go_wp2_with fail
  refine (quo_any _ _ _ x0 x1 v0 v1 _).mono ?_
  rintro e w' ⟨rfl, rfl⟩
  go_wp2_with fail
  refine (rem_any _ _ _ x0 x1 v0 v1 _).mono ?_
  rintro e w' ⟨rfl, rfl⟩
  go_wp2_with fail
  refine (lives_any _).mono ?_
  rintro e w1 ⟨rfl, hg⟩
  go_wp2_with fail
  go_ret
  exact ⟨rfl, hg⟩
set_option maxHeartbeats 400000 in
theorem ws_nn (a0 a1 : Int) (x0 : 0 ≤ a0) (x1 : a0 < 18446744073709551616) (b1 : 1 ≤ a1) (v1 : a1 < 18446744073709551616) (e3 : (a1 == 18446744073709551615) = false)
    (f3 : -9223372036854775808 < wrap64 (Rem a0 a1 true)) (f4 : wrap64 (Rem a0 a1 true) ≤ 9223372036854775807) (c0 : wrap64 (Rem a0 a1 true) < 0) (c1 : wrap64 a0 < 0) (c2 : wrap64 a1 < 0) (c3 : wrap64 a1 < wrap64 (Rem a0 a1 true)) (c4 : wrap64 a1 < -wrap64 (Rem a0 a1 true)) (w : World) :
    Calls Try.prog 7 #[.int .u64 a0, .int .u64 a1, .bool true] w fun e w' => e = .returned (.bool true) ∧ Grown w w' := by
  have v0 : 0 ≤ a1 := by omega
  have e1 := whole_eq a0 a1 true x0 x1
  have e2 : (a1 == 0) = false := by rw [beq_eq_false_iff_ne]; omega
  go_enter Try.func7, Try.ntmps7
  go_wp2_with fail
  refine (quo_any _ _ _ x0 x1 v0 v1 _).mono ?_
  rintro e w' ⟨rfl, rfl⟩
  go_wp2_with fail
  refine (rem_any _ _ _ x0 x1 v0 v1 _).mono ?_
  rintro e w' ⟨rfl, rfl⟩
  go_wp2_with fail
  refine (lives_any _).mono ?_
  rintro e w1 ⟨rfl, hg⟩
  go_wp2_with fail
  go_ret
  exact ⟨rfl, hg⟩
set_option maxHeartbeats 400000 in
theorem ws_zp (a0 a1 : Int) (x0 : 0 ≤ a0) (x1 : a0 < 18446744073709551616) (b1 : 1 ≤ a1) (v1 : a1 < 18446744073709551616) (e3 : (a1 == 18446744073709551615) = false)
    (f3 : -9223372036854775808 < wrap64 (Rem a0 a1 true)) (f4 : wrap64 (Rem a0 a1 true) ≤ 9223372036854775807) (c0 : 0 ≤ wrap64 (Rem a0 a1 true)) (c1 : wrap64 (Rem a0 a1 true) ≤ 0) (c2 : 0 < wrap64 a1) (c3 : wrap64 (Rem a0 a1 true) < wrap64 a1) (c4 : -wrap64 (Rem a0 a1 true) < wrap64 a1) (w : World) :
    Calls Try.prog 7 #[.int .u64 a0, .int .u64 a1, .bool true] w fun e w' => e = .returned (.bool true) ∧ Grown w w' := by
  have v0 : 0 ≤ a1 := by omega
  have e1 := whole_eq a0 a1 true x0 x1
  have e2 : (a1 == 0) = false := by rw [beq_eq_false_iff_ne]; omega
  go_enter Try.func7, Try.ntmps7
  go_wp2_with fail
  refine (quo_any _ _ _ x0 x1 v0 v1 _).mono ?_
  rintro e w' ⟨rfl, rfl⟩
  go_wp2_with fail
  refine (rem_any _ _ _ x0 x1 v0 v1 _).mono ?_
  rintro e w' ⟨rfl, rfl⟩
  go_wp2_with fail
  refine (lives_any _).mono ?_
  rintro e w1 ⟨rfl, hg⟩
  go_wp2_with fail
  go_ret
  exact ⟨rfl, hg⟩
set_option maxHeartbeats 400000 in
theorem ws_zn (a0 a1 : Int) (x0 : 0 ≤ a0) (x1 : a0 < 18446744073709551616) (b1 : 1 ≤ a1) (v1 : a1 < 18446744073709551616) (e3 : (a1 == 18446744073709551615) = false)
    (f3 : -9223372036854775808 < wrap64 (Rem a0 a1 true)) (f4 : wrap64 (Rem a0 a1 true) ≤ 9223372036854775807) (c0 : 0 ≤ wrap64 (Rem a0 a1 true)) (c1 : wrap64 (Rem a0 a1 true) ≤ 0) (c2 : wrap64 a1 < 0) (c3 : wrap64 a1 < wrap64 (Rem a0 a1 true)) (c4 : wrap64 a1 < -wrap64 (Rem a0 a1 true)) (w : World) :
    Calls Try.prog 7 #[.int .u64 a0, .int .u64 a1, .bool true] w fun e w' => e = .returned (.bool true) ∧ Grown w w' := by
  have v0 : 0 ≤ a1 := by omega
  have e1 := whole_eq a0 a1 true x0 x1
  have e2 : (a1 == 0) = false := by rw [beq_eq_false_iff_ne]; omega
  go_enter Try.func7, Try.ntmps7
  go_wp2_with fail
  refine (quo_any _ _ _ x0 x1 v0 v1 _).mono ?_
  rintro e w' ⟨rfl, rfl⟩
  go_wp2_with fail
  refine (rem_any _ _ _ x0 x1 v0 v1 _).mono ?_
  rintro e w' ⟨rfl, rfl⟩
  go_wp2_with fail
  refine (lives_any _).mono ?_
  rintro e w1 ⟨rfl, hg⟩
  go_wp2_with fail
  go_ret
  exact ⟨rfl, hg⟩
theorem whole_s (a0 a1 : Int) (x0 : 0 ≤ a0) (x1 : a0 < 18446744073709551616) (b1 : 1 ≤ a1) (v1 : a1 < 18446744073709551616) (ha : a1 ≠ 18446744073709551615) (w : World) :
    Calls Try.prog 7 #[.int .u64 a0, .int .u64 a1, .bool true] w fun e w' => e = .returned (.bool true) ∧ Grown w w' := by
  have e3 : (a1 == 18446744073709551615) = false := by rw [beq_eq_false_iff_ne]; exact ha
  obtain ⟨f1, f2, f3, f4, f5⟩ := rem_facts a0 a1 x0 x1 b1 v1 ha
  by_cases p : 0 < wrap64 (Rem a0 a1 true)
  · rcases f5 with ⟨g1, g2, g3⟩ | ⟨g1, _, g2, g3⟩
    · exact ws_pp a0 a1 x0 x1 b1 v1 e3 f3 f4 p (by omega) g1 g2 g3 w
    · exact ws_pn a0 a1 x0 x1 b1 v1 e3 f3 f4 p (by omega) g1 g2 g3 w
  by_cases n : wrap64 (Rem a0 a1 true) < 0
  · rcases f5 with ⟨g1, g2, g3⟩ | ⟨g1, _, g2, g3⟩
    · exact ws_np a0 a1 x0 x1 b1 v1 e3 f3 f4 n (by omega) g1 g2 g3 w
    · exact ws_nn a0 a1 x0 x1 b1 v1 e3 f3 f4 n (by omega) g1 g2 g3 w
  rcases f5 with ⟨g1, g2, g3⟩ | ⟨g1, _, g2, g3⟩
  · exact ws_zp a0 a1 x0 x1 b1 v1 e3 f3 f4 (by omega) (by omega) g1 g2 g3 w
  · exact ws_zn a0 a1 x0 x1 b1 v1 e3 f3 f4 (by omega) (by omega) g1 g2 g3 w
theorem whole_walk (a0 a1 : Int) (a2 : Bool) (w0 : (Lit.int .u64 a0).wf = true) (w1 : (Lit.int .u64 a1).wf = true) (w : World) :
    Calls Try.prog 7 #[.int .u64 a0, .int .u64 a1, .bool a2] w fun e w' => e = .returned (.bool true) ∧ Grown w w' := by
  obtain ⟨x0, x1⟩ := word_of w0
  obtain ⟨v0, v1⟩ := word_of w1
  by_cases hb : a1 = 0
  · exact whole_0 a0 a1 a2 x0 x1 v0 v1 (by rw [beq_iff_eq]; exact hb) w
  cases a2
  · exact whole_u a0 a1 x0 x1 (by omega) v1 w
  by_cases ha : a1 = 18446744073709551615
  · exact whole_1 a0 a1 x0 x1 (by omega) v1 (by rw [beq_iff_eq]; exact ha) w
  · exact whole_s a0 a1 x0 x1 (by omega) v1 ha w
end Go.Proofs.Ytcbaokgdpmjhgaa
