/-
  Proved here: heads of values: what they are, whether they may be; where lists stand; sums that stay. Conditions: none.
-/
import Derived.Test.YtmoggaecnjcjfaaVa
import Derived.ChangeKeysEq
namespace Go.Proofs.Ytmoggaecnjcjfaa
open Go.RowKit
set_option linter.unusedVariables false
set_option linter.unusedSimpArgs false
set_option maxRecDepth 100000
set_option maxHeartbeats 4000000
theorem alloc_nb' (w : World) (o : Obj) : Nb w (w.alloc o) := (Nb.refl w).alloc o
theorem retB {a b : Bool} (h : a = b) : Ending.returned (.bool a) = .returned (.bool b) := by rw [h]
theorem retI {a b : Int} (h : a = b) : Ending.returned (.int .i64 a) = .returned (.int .i64 b) := by rw [h]
theorem within_any (n a b : Int) (w : World) : Calls Try.prog 53 #[.int .i64 n, .int .i64 a, .int .i64 b] w fun r w' => r = .returned (.bool (decide (a ≤ n) && decide (n ≤ b))) ∧ w = w' := by
  by_cases h1 : a ≤ n
  · by_cases h2 : n ≤ b
    · go_enter Try.func53, Try.ntmps53
      go_wp2
      go_ret
      exact ⟨by simp [h1, h2], rfl⟩
    · go_enter Try.func53, Try.ntmps53
      go_wp2
      go_ret
      exact ⟨by simp [h1, h2], rfl⟩
  · go_enter Try.func53, Try.ntmps53
    go_wp2
    go_ret
    exact ⟨retB (by rw [decide_eq_false (by omega : ¬ a ≤ n)]; rfl), rfl⟩
theorem headOf_any (k n : Int) (A : Option Addr) (L cap : Nat) (w : World) : Calls Try.prog 45 #[.agg #[.int .i64 k, .int .i64 n, .slice A L cap]] w fun r w' => r = .returned (.agg #[.int .i64 k, .int .i64 n, .int .i64 (L : Int)]) ∧ Nb w w' := by
  go_enter Try.func45, Try.ntmps45
  go_wp2
  exact bodyPost_ret (v := .agg #[.int .i64 k, .int .i64 n, .int .i64 (L : Int)]) (by simp [results, Try.results45, go_sem]) rfl ⟨rfl, by repeat (first | exact Nb.refl _ | apply Nb.alloc)⟩
theorem listOf_nil (A : Option Addr) (cap : Nat) (w : World) : Calls Try.prog 47 #[.slice A 0 cap] w fun r w' => r = .returned (.agg #[.pointer none, .int .i64 0]) ∧ Nb w w' := by
  go_enter Try.func47, Try.ntmps47
  go_wp2
  exact bodyPost_ret (v := .agg #[.pointer none, .int .i64 0]) (by simp [results, Try.results47, go_sem]) rfl ⟨rfl, by repeat (first | exact Nb.refl _ | apply Nb.alloc)⟩
theorem listOf_any (b o L cap : Nat) (w : World) (h0 : 0 < L) : Calls Try.prog 47 #[.slice (some ⟨b, o, none⟩) L cap] w fun r w' => r = .returned (.agg #[.pointer (some ⟨b, o, none⟩), .int .i64 (L : Int)]) ∧ Nb w w' := by
  have h1 : ¬ (L : Int) = 0 := by omega
  have h2 : (0 : Int) < (L : Int) := by omega
  go_enter Try.func47, Try.ntmps47
  go_wp2
  exact bodyPost_ret (v := .agg #[.pointer (some ⟨b, o, none⟩), .int .i64 (L : Int)]) (by simp [results, Try.results47, go_sem]) rfl ⟨rfl, by repeat (first | exact Nb.refl _ | apply Nb.alloc)⟩
theorem sum_any (a b : Nat) (ha : a ≤ 9223372036854775807) (hb : b ≤ 9223372036854775807) (w : World) : Calls Try.prog 48 #[.int .i64 (a : Int), .int .i64 (b : Int)] w fun r w' => r = .returned (.int .i64 ((min (a + b) 9223372036854775807 : Nat) : Int)) ∧ w = w' := by
  by_cases h : (b : Int) ≤ 9223372036854775807 - (a : Int)
  · have e : min (b : Int) (9223372036854775807 - (a : Int)) = b := by omega
    go_enter Try.func48, Try.ntmps48
    go_wp2
    go_ret
    exact ⟨retI (by omega), rfl⟩
  · have e : min (b : Int) (9223372036854775807 - (a : Int)) = 9223372036854775807 - (a : Int) := by omega
    go_enter Try.func48, Try.ntmps48
    go_wp2
    go_ret
    exact ⟨retI (by omega), rfl⟩
theorem may_any (k n : Int) (len : Nat) (w : World) : Calls Try.prog 46 #[.agg #[.int .i64 k, .int .i64 n, .int .i64 (len : Int)]] w fun r w' => r = .returned (.bool (mayHd k n len)) ∧ Nb w w' := by
  by_cases k1 : k = 1
  · subst k1
    by_cases hl : len = 0
    · subst hl
      go_enter Try.func46, Try.ntmps46
      go_wp2_with (go_at_call 53; refine (within_any _ _ _ _).mono ?_; rintro e w' ⟨rfl, rfl⟩)
      go_ret
      exact ⟨retB (by simp [mayHd]), by repeat (first | exact Nb.refl _ | apply Nb.alloc)⟩
    · have hl2 : ¬ (len : Int) = 0 := by omega
      go_enter Try.func46, Try.ntmps46
      go_wp2_with (go_at_call 53; refine (within_any _ _ _ _).mono ?_; rintro e w' ⟨rfl, rfl⟩)
      go_ret
      exact ⟨retB (by simp [mayHd, hl]), by repeat (first | exact Nb.refl _ | apply Nb.alloc)⟩
  · by_cases k2 : k = 2
    · subst k2
      by_cases hl : len = 0
      · subst hl
        go_enter Try.func46, Try.ntmps46
        go_wp2_with (go_at_call 53; refine (within_any _ _ _ _).mono ?_; rintro e w' ⟨rfl, rfl⟩)
        go_ret
        exact ⟨retB (by simp [mayHd]), by repeat (first | exact Nb.refl _ | apply Nb.alloc)⟩
      · have hl2 : ¬ (len : Int) = 0 := by omega
        go_enter Try.func46, Try.ntmps46
        go_wp2_with (go_at_call 53; refine (within_any _ _ _ _).mono ?_; rintro e w' ⟨rfl, rfl⟩)
        go_ret
        exact ⟨retB (by simp [mayHd, hl]), by repeat (first | exact Nb.refl _ | apply Nb.alloc)⟩
    · by_cases k3 : k = 3
      · subst k3
        by_cases hl : len = 0
        · subst hl
          go_enter Try.func46, Try.ntmps46
          go_wp2_with (go_at_call 53; refine (within_any _ _ _ _).mono ?_; rintro e w' ⟨rfl, rfl⟩)
          go_ret
          exact ⟨retB (by simp [mayHd]), by repeat (first | exact Nb.refl _ | apply Nb.alloc)⟩
        · have hl2 : ¬ (len : Int) = 0 := by omega
          go_enter Try.func46, Try.ntmps46
          go_wp2_with (go_at_call 53; refine (within_any _ _ _ _).mono ?_; rintro e w' ⟨rfl, rfl⟩)
          go_ret
          exact ⟨retB (by simp [mayHd, hl]), by repeat (first | exact Nb.refl _ | apply Nb.alloc)⟩
      · by_cases k4 : k = 4
        · subst k4
          by_cases hn : n = 0
          · subst hn
            go_enter Try.func46, Try.ntmps46
            go_wp2_with (go_at_call 53; refine (within_any _ _ _ _).mono ?_; rintro e w' ⟨rfl, rfl⟩)
            go_ret
            exact ⟨retB (by rw [Bool.eq_iff_iff]; simp [mayHd]; omega), by repeat (first | exact Nb.refl _ | apply Nb.alloc)⟩
          · go_enter Try.func46, Try.ntmps46
            go_wp2_with (go_at_call 53; refine (within_any _ _ _ _).mono ?_; rintro e w' ⟨rfl, rfl⟩)
            go_ret
            exact ⟨retB (by simp [mayHd, hn]), by repeat (first | exact Nb.refl _ | apply Nb.alloc)⟩
        · go_enter Try.func46, Try.ntmps46
          go_wp2_with fail
          go_ret
          exact ⟨retB (by simp [mayHd, k1, k2, k3, k4]), by repeat (first | exact Nb.refl _ | apply Nb.alloc)⟩
end Go.Proofs.Ytmoggaecnjcjfaa
