/-
  Proved here: What Sign and Fits of the code and of the reference answer. Conditions: the arguments are words. ¦ plain facts on bytes as numbers, the lowest first. Conditions: none.
-/
import Derived.Test.YtmggichckhoomaaGreatDoorQaa
import Derived.Test.YtmggichckhoomaaGreatDoorQab
import Derived.Test.YtmggichckhoomaaGreatDoorQal
import Derived.Lib.UnsafeStr
import Derived.Laws.Bits64b
section
namespace Go.Proofs.YtmggichckhoomaaGreatDoor
open Go.RowKit
set_option linter.unusedVariables false

/-- A signed number as one without. -/
def U (v : Int) : Int := IntKind.u64.wrap v
end Go.Proofs.YtmggichckhoomaaGreatDoor
end
section
namespace Go.Proofs.YtmggichckhoomaaGreatDoor
theorem leV_leB (k v : Nat) : leV (leB k v) = v % 256 ^ k := by
  induction k generalizing v with
  | zero => simp [leB, leV, Nat.mod_one]
  | succ k ih =>
    simp only [leB, leV, ih]
    have h : (UInt8.ofNat (v % 256)).toNat = v % 256 := by simp
    rw [h, Nat.pow_succ, Nat.mul_comm (256 ^ k), Nat.mod_mul]
theorem lay_at (bs : By) (a : Nat) (x : By) (h : a + x.length ≤ bs.length) : ((lay bs a x).drop a).take x.length = x := by
  unfold lay
  have h1 : (bs.take a).length = a := by simp; omega
  rw [List.drop_append, h1, Nat.sub_self, List.drop_zero, List.drop_of_length_le (by omega), List.nil_append, List.take_append_of_le_length (Nat.le_refl _), List.take_length]
theorem lay_get (bs : By) (a : Nat) (x : By) (h : a + x.length ≤ bs.length) (j : Nat) : (lay bs a x)[j]? = if a ≤ j ∧ j < a + x.length then x[j - a]? else bs[j]? := by
  unfold lay
  have h1 : (bs.take a).length = a := by simp; omega
  by_cases hj : j < a
  · rw [if_neg (by omega), List.getElem?_append_left (by omega), List.getElem?_take, if_pos hj]
  · rw [List.getElem?_append_right (by omega), h1]
    by_cases h2 : j < a + x.length
    · rw [if_pos (by omega), List.getElem?_append_left (by omega)]
    · rw [if_neg (by omega), List.getElem?_append_right (by omega), List.getElem?_drop]
      congr 1; omega
end Go.Proofs.YtmggichckhoomaaGreatDoor
end
