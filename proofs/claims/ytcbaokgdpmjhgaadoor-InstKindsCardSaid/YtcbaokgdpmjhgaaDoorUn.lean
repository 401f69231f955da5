/-
  Proved here: of two operations at most one has the opcode and the fixed bits of a word. Conditions: the operations are those of the table.
-/
import Derived.Test.YtcbaokgdpmjhgaaDoorId
import Derived.Test.YtcbaokgdpmjhgaaDoorWm2
namespace Go.Proofs.YtcbaokgdpmjhgaaDoor
open Go.RowKit
set_option linter.unusedVariables false
def Alike (i j : Int) : Bool := ((refRow i).2.1 == (refRow j).2.1) && (((f3T (refRow i).1 != f3T (refRow j).1) || ((refRow i).2.2.1 == (refRow j).2.2.1)) && ((f7T (refRow i).1 != f7T (refRow j).1) || ((refRow i).2.2.2 == (refRow j).2.2.2)))
set_option maxRecDepth 100000 in
theorem rows_apart : ∀ i : Nat, i < 88 → ∀ j : Nat, j < 88 → 1 ≤ i → 1 ≤ j → Alike (i : Int) (j : Int) = true → i = j := by decide +kernel
theorem eqh {f o a b f' o' a' b' : Int} (h : EqH f o a b f' o' a' b' = true) : o = o' ∧ a = a' ∧ b = b' := by
  unfold EqH at h
  simp only [Bool.and_eq_true, beq_iff_eq] at h
  exact ⟨h.2.1, h.2.2.1, h.2.2.2⟩
theorem head_one {i j : Nat} {u : Int} (i0 : 1 ≤ i) (i1 : i < 88) (j0 : 1 ≤ j) (j1 : j < 88) (hi : HeadB i u = true) (hj : HeadB j u = true) : i = j := by
  obtain ⟨a1, a2, a3⟩ := eqh hi
  obtain ⟨b1, b2, b3⟩ := eqh hj
  refine rows_apart i i1 j j1 i0 j0 ?_
  have c1 : (refRow (i : Int)).2.1 = (refRow (j : Int)).2.1 := a1.trans b1.symm
  unfold Alike
  rw [beq_iff_eq.2 c1, Bool.true_and, Bool.and_eq_true]
  refine ⟨?_, ?_⟩
  · by_cases e : f3T (refRow (i : Int)).1 = f3T (refRow (j : Int)).1
    · have : (refRow (i : Int)).2.2.1 = (refRow (j : Int)).2.2.1 := by rw [a2, b2, e]
      rw [beq_iff_eq.2 this, Bool.or_true]
    · rw [bne_iff_ne.2 e, Bool.true_or]
  · by_cases e : f7T (refRow (i : Int)).1 = f7T (refRow (j : Int)).1
    · have : (refRow (i : Int)).2.2.2 = (refRow (j : Int)).2.2.2 := by rw [a3, b3, e]
      rw [beq_iff_eq.2 this, Bool.or_true]
    · rw [bne_iff_ne.2 e, Bool.true_or]
theorem match_head {k u : Int} (h : MatchB k u = true) : HeadB k u = true := by
  unfold MatchB at h
  simp only [Bool.and_eq_true] at h
  exact h.2.1
end Go.Proofs.YtcbaokgdpmjhgaaDoor
