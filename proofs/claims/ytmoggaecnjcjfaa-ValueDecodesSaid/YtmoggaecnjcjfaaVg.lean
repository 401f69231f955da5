/-
  Proved here: integers of values: how they wrap, what counts; words of what is no tuple. Conditions: none.
-/
import Derived.Test.YtmoggaecnjcjfaaVb
import Derived.Test.YtmoggaecnjcjfaaBy
namespace Go.Proofs.Ytmoggaecnjcjfaa
open Go.RowKit
set_option linter.unusedVariables false
set_option linter.unusedSimpArgs false
set_option maxRecDepth 100000
set_option maxHeartbeats 4000000
/-- The integer that a number is. -/
def Wr (n : Int) : Int := wrap64 (n * 4) / 4
theorem wrap_any (n : Int) (w : World) : Calls Try.prog 23 #[.int .i64 n] w fun r w' => r = .returned (.int .i64 (Wr n)) ∧ w = w' := by
  go_enter Try.func23, Try.ntmps23
  go_wp2
  go_ret
  exact ⟨rfl, rfl⟩
def cnt (k n : Int) : Int := if k = 1 then n else 0
theorem counts_any (k n : Int) (A : Option Addr) (L cap : Nat) (w : World) : Calls Try.prog 26 #[.agg #[.int .i64 k, .int .i64 n, .slice A L cap]] w fun r w' => r = .returned (.int .i64 (cnt k n)) ∧ Nb w w' := by
  by_cases h : k = 1
  · subst h
    go_enter Try.func26, Try.ntmps26
    go_wp2
    go_ret
    exact ⟨rfl, by repeat (first | exact Nb.refl _ | apply Nb.alloc)⟩
  · have hc : cnt k n = 0 := by unfold cnt; rw [if_neg h]
    rw [hc]
    clear hc
    go_enter Try.func26, Try.ntmps26
    go_wp2
    go_ret
    exact ⟨rfl, by repeat (first | exact Nb.refl _ | apply Nb.alloc)⟩
theorem number_any (k n : Int) (A : Option Addr) (L cap : Nat) (w : World) : Calls Try.prog 29 #[.agg #[.int .i64 k, .int .i64 n, .slice A L cap]] w fun r w' => r = .returned (.int .i64 (cnt k n)) ∧ Nb w w' := by
  by_cases h : k = 1
  · subst h
    go_enter Try.func29, Try.ntmps29
    go_wp2
    go_ret
    exact ⟨rfl, by repeat (first | exact Nb.refl _ | apply Nb.alloc)⟩
  · have hc : cnt k n = 0 := by unfold cnt; rw [if_neg h]
    rw [hc]
    clear hc
    go_enter Try.func29, Try.ntmps29
    go_wp2
    go_ret
    exact ⟨rfl, by repeat (first | exact Nb.refl _ | apply Nb.alloc)⟩
theorem told_any (b : Bool) (w : World) : Calls Try.prog 27 #[.bool b] w fun r w' => r = .returned (.int .i64 (if b = true then 1 else 0)) ∧ w = w' := by
  cases b with
  | true =>
    go_enter Try.func27, Try.ntmps27
    go_wp2
    go_ret
    exact ⟨rfl, rfl⟩
  | false =>
    go_enter Try.func27, Try.ntmps27
    go_wp2
    go_ret
    exact ⟨rfl, rfl⟩
theorem holds_any (k n : Int) (A : Option Addr) (L cap : Nat) (w : World) : Calls Try.prog 13 #[.agg #[.int .i64 k, .int .i64 n, .slice A L cap]] w fun r w' => r = .returned (.bool (cnt k n != 0)) ∧ Nb w w' := by
  go_enter Try.func13, Try.ntmps13
  go_wp2_with (go_at_call 26; refine (counts_any _ _ _ _ _ _).mono ?_; rintro r w2 ⟨rfl, n2⟩)
  go_ret
  exact ⟨rfl, (alloc_nb' _ _).trans n2⟩
theorem rholds_any (k n : Int) (A : Option Addr) (L cap : Nat) (w : World) : Calls Try.prog 14 #[.agg #[.int .i64 k, .int .i64 n, .slice A L cap]] w fun r w' => r = .returned (.bool (cnt k n != 0)) ∧ Nb w w' := by
  go_enter Try.func14, Try.ntmps14
  go_wp2_with (go_at_call 29; refine (number_any _ _ _ _ _ _).mono ?_; rintro r w2 ⟨rfl, n2⟩)
  go_ret
  exact ⟨rfl, (alloc_nb' _ _).trans n2⟩
theorem rwrap_any (n : Int) (h : -9223372036854775808 ≤ n ∧ n < 9223372036854775808) (w : World) : Calls Try.prog 28 #[.int .i64 n] w fun r w' => r = .returned (.int .i64 (Wr n)) ∧ w = w' := by
  have h0 : 0 ≤ IntKind.u64.wrap n ∧ IntKind.u64.wrap n < 18446744073709551616 := by rw [IntKind.wrap_u64]; omega
  have hs : Hid (∀ W, Calls Try.prog 42 #[.int .u64 (IntKind.u64.wrap n), .int .i64 62] W fun e w' => e = .returned (.int .u64 (Sgn (IntKind.u64.wrap n) 62)) ∧ W = w') := Lib.hid (fun W => rsign_any _ _ h0.1 h0.2 W)
  have he : wrap64 (Sgn (IntKind.u64.wrap n) 62) = Wr n := by
    rw [← sgn_yes _ _ (by decide) (by decide), IntKind.wrap_u64]
    rw [show (2 ^ ((62 : Int).toNat - 1) : Nat) = 2305843009213693952 by decide]
    obtain ⟨u, hu⟩ : ∃ u : Nat, n % 18446744073709551616 = (u : Int) := ⟨(n % 18446744073709551616).toNat, by omega⟩
    rw [hu, Int.toNat_natCast]
    unfold Wr sgh wrap64
    split <;> omega
  replace he := Lib.hid he
  clear h h0
  go_enter Try.func28, Try.ntmps28
  go_wp2_with (go_at_call 42; refine (hs.out _).mono ?_; rintro r w2 ⟨rfl, rfl⟩)
  go_ret
  exact ⟨retI he.out, rfl⟩
end Go.Proofs.Ytmoggaecnjcjfaa
