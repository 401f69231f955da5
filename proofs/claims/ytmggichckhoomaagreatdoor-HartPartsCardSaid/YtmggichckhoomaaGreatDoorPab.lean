/-
  Proved here: some steps, and more behind, are both together. Conditions: none.
-/
import Derived.Test.YtmggichckhoomaaGreatDoorQbn
namespace Go.Proofs.YtmggichckhoomaaGreatDoor
open Go.RowKit
set_option linter.unusedVariables false
set_option linter.unusedSimpArgs false
theorem runS_ok {h : HV} {bs : By} (he : (stepS h bs).2.1 = 0) (k n : Nat) : runS (k + 1) n h bs = runS k (n + 1) (stepS h bs).1 (stepS h bs).2.2 := if_pos he
theorem runS_no {h : HV} {bs : By} (he : ¬ (stepS h bs).2.1 = 0) (k n : Nat) : runS (k + 1) n h bs = (h, n, (stepS h bs).2.1, (stepS h bs).2.2) := if_neg he
theorem run_add (a b n : Nat) (h : HV) (bs : By) : runS (a + b) n h bs = if (runS a n h bs).2.2.1 = 0 then runS b (runS a n h bs).2.1 (runS a n h bs).1 (runS a n h bs).2.2.2 else runS a n h bs := by
  induction a generalizing n h bs with
  | zero => rw [Nat.zero_add]; exact (if_pos rfl).symm
  | succ a ih =>
    rw [Nat.add_right_comm]
    by_cases he : (stepS h bs).2.1 = 0
    · rw [runS_ok he, runS_ok he]
      exact ih (n + 1) (stepS h bs).1 (stepS h bs).2.2
    · rw [runS_no he, runS_no he]
      exact (if_neg he).symm
theorem run_from (k n m : Nat) (h : HV) (bs : By) : runS k (n + m) h bs = ((runS k n h bs).1, (runS k n h bs).2.1 + m, (runS k n h bs).2.2) := by
  induction k generalizing n h bs with
  | zero => rfl
  | succ k ih =>
    by_cases he : (stepS h bs).2.1 = 0
    · rw [runS_ok he, runS_ok he, Nat.add_right_comm, ih (n + 1)]
    · rw [runS_no he, runS_no he]
end Go.Proofs.YtmggichckhoomaaGreatDoor
