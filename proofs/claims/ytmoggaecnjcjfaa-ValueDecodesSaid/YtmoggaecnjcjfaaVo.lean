/-
  Proved here: the reference's Same of two integers; sums and products modulo 2^62. Conditions: none.
-/
import Derived.Test.YtmoggaecnjcjfaaVb
import Derived.Test.YtmoggaecnjcjfaaVg
import Derived.LoopN
namespace Go.Proofs.Ytmoggaecnjcjfaa
open Go.RowKit Go.ChangeMaps
set_option linter.unusedVariables false
set_option linter.unusedSimpArgs false
set_option maxRecDepth 100000
set_option maxHeartbeats 4000000
theorem rsame_int (k n k' n' : Int) (w : World) : Calls Try.prog 10 #[.agg #[.int .i64 k, .int .i64 n, .slice none 0 0], .agg #[.int .i64 k', .int .i64 n', .slice none 0 0]] w fun r w' => r = .returned (.bool (k == k' && n == n')) ∧ Nb w w' := by
  by_cases e1 : k = k'
  · subst e1
    by_cases e2 : n = n'
    · subst e2
      go_enter Try.func10, Try.ntmps10
      go_wp2
      refine wp_loop_rounds 1 ?_
      rw [rounds_succ]
      go_wp2
      go_ret
      exact ⟨retB (by simp), ((Nb.refl w).alloc _).alloc _⟩
    · have e3 : (n == n') = false := by simpa using e2
      have e4 : (n != n') = true := by simpa using e2
      clear e2
      go_enter Try.func10, Try.ntmps10
      go_wp2
      go_ret
      exact ⟨retB (by simp [e3]), ((Nb.refl w).alloc _).alloc _⟩
  · have e3 : (k == k') = false := by simpa using e1
    have e4 : (k != k') = true := by simpa using e1
    clear e1
    go_enter Try.func10, Try.ntmps10
    go_wp2
    go_ret
    exact ⟨retB (by simp [e3]), ((Nb.refl w).alloc _).alloc _⟩
theorem wr_mod (u : Int) : Wr u = (u + 2305843009213693952) % 4611686018427387904 - 2305843009213693952 := by
  unfold Wr wrap64
  omega
theorem wr_wrap (u : Int) : Wr (wrap64 u) = Wr u := by
  rw [wr_mod, wr_mod]
  unfold wrap64
  omega
theorem wr_congr {u v : Int} (h : u % 4611686018427387904 = v % 4611686018427387904) : Wr u = Wr v := by
  rw [wr_mod, wr_mod]
  omega
theorem wr_emod (u : Int) : Wr u % 4611686018427387904 = u % 4611686018427387904 := by
  rw [wr_mod]
  omega
theorem wr_own {u : Int} (h : -2305843009213693952 ≤ u ∧ u < 2305843009213693952) : Wr u = u := by
  rw [wr_mod]
  omega
theorem wr_room (u : Int) : -2305843009213693952 ≤ Wr u ∧ Wr u < 2305843009213693952 := by
  rw [wr_mod]
  omega
theorem ring_add (x y z : Int) : Wr (Wr (x + y) + z) = Wr (x + Wr (y + z)) := by
  apply wr_congr
  have h1 := wr_emod (x + y)
  have h2 := wr_emod (y + z)
  omega
theorem ring_mul (x y z : Int) : Wr (Wr (x * y) * z) = Wr (x * Wr (y * z)) := by
  apply wr_congr
  rw [Int.mul_emod, wr_emod, ← Int.mul_emod, Int.mul_emod x, wr_emod, ← Int.mul_emod, Int.mul_assoc]
theorem ring_both (x y z : Int) : Wr (x * Wr (y + z)) = Wr (Wr (x * y) + Wr (x * z)) := by
  apply wr_congr
  have h1 := wr_emod (x * y)
  have h2 := wr_emod (x * z)
  rw [Int.mul_emod, wr_emod, ← Int.mul_emod, Int.mul_add]
  omega
theorem ring_back (x y : Int) (h : -2305843009213693952 ≤ x ∧ x < 2305843009213693952) : Wr (Wr (x + y) - y) = x := by
  have h1 := wr_emod (x + y)
  rw [← wr_own h]
  apply wr_congr
  rw [wr_own h]
  omega
end Go.Proofs.Ytmoggaecnjcjfaa
