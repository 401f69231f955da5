/-
  Proved here: the examples of the chapter on instructions stand. Condition: the table of codes holds what its text lays.
-/
import Derived.Test.YtcbaokgdpmjhgaaDoorId
namespace Go.Proofs.YtcbaokgdpmjhgaaDoor
open Go.RowKit Go.Sort
set_option linter.unusedVariables false
theorem ex_good : GoodB 22 1 2 0 (-1) false false = true := by decide +kernel
theorem ex_word : EncW 22 1 2 0 (-1) false false = 4293984403 := by decide +kernel
theorem ex_yes : MatchB 51 115 = true := by decide +kernel
theorem ex_no : ∀ j : Nat, j < 51 → (decide (1 ≤ j) && MatchB (j : Int) 115) = false := by decide +kernel
theorem ex_ins : Ird 51 115 = 0 ∧ Irs1 51 115 = 0 ∧ Irs2 51 115 = 0 ∧ Iim 51 115 = 0 ∧ Iaq 51 115 = false ∧ Irl 51 115 = false := by decide +kernel
theorem ex_dec {e : Ending} (h : DecAns 115 e) : e = .returned (.tuple #[.agg #[.int .i64 51, .int .i64 0, .int .i64 0, .int .i64 0, .int .i64 0, .bool false, .bool false], .int .i64 0]) := by
  have hno : ∀ j : Nat, 1 ≤ j → j < 51 → MatchB (j : Int) 115 = false := by
    intro j h1 h2
    have := ex_no j h2
    rw [decide_eq_true h1, Bool.true_and] at this
    exact this
  rcases h with ⟨k, k1, k2, hm, hn, rfl⟩ | ⟨hn, rfl⟩
  · have hk : k = 51 := by
      rcases Nat.lt_trichotomy k 51 with h | h | h
      · rw [hno k k1 h] at hm; cases hm
      · exact h
      · have := hn 51 (by decide) h
        rw [show ((51 : Nat) : Int) = 51 from rfl, ex_yes] at this; cases this
    subst hk
    obtain ⟨a, b, c, d, e, f⟩ := ex_ins
    rw [show ((51 : Nat) : Int) = 51 from rfl, a, b, c, d, e, f]
  · have := hn 51 (by decide) (by decide)
    rw [show ((51 : Nat) : Int) = 51 from rfl, ex_yes] at this; cases this
set_option maxRecDepth 100000 in
set_option maxHeartbeats 4000000 in
theorem ilives_any (w : World) (hC : Cod w) : Calls Tryd.prog 14 #[] w fun e w' => e = .returned (.bool true) ∧ Nb w w' := by
  go_enter Tryd.func14, Tryd.ntmps14
  go_wp2_with fail
  refine (enc_yes 22 1 2 0 (-1) false false (by decide) (by decide) ex_good _ hC).mono ?_
  rintro e w1 ⟨rfl, hn1⟩
  rw [ex_word]
  go_wp2_with fail
  refine (dec_any 115 (by decide) (by decide) _ (hC.of_nb hn1)).mono ?_
  rintro e w2 ⟨hd, hn2⟩
  rw [ex_dec hd]
  go_wp2
  go_ret
  exact ⟨rfl, (hn1.trans hn2).alloc _⟩
end Go.Proofs.YtcbaokgdpmjhgaaDoor
