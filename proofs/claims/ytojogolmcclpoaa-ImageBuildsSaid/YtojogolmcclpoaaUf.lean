/-
  Proved here: what image and its reference lay of any config, code and slots; the chapter's example stands. Conditions: none.
-/
import Derived.Test.YtojogolmcclpoaaUe
namespace Go.Proofs.Ytojogolmcclpoaa
open Go.RowKit
set_option linter.unusedVariables false
set_option linter.unusedSimpArgs false
set_option maxRecDepth 100000
set_option maxHeartbeats 4000000
/-- The layout, and the error. -/
def layA (c : Cf) (code slots : Int) : Ly := if okL c code slots = true then layN code.toNat slots.toNat c.actors.toNat c.blocks.toNat c.words.toNat else Ly.zero
def layE (c : Cf) (code slots : Int) : Int := if okL c code slots = true then 0 else 2
theorem okL_nat {c : Cf} {code slots : Int} (h : okL c code slots = true) : ∃ (C S A B W : Nat) (x0 x4 : Int), c = ⟨x0, A, B, W, x4⟩ ∧ code = C ∧ slots = S ∧ c.good = true ∧ C ≤ 65536 ∧ (1 ≤ S ∧ S ≤ 256) ∧ (1 ≤ A ∧ A ≤ 64) ∧ (1 ≤ B ∧ B ≤ 256) ∧ (8 ≤ W ∧ W ≤ 1024) := by
  obtain ⟨x0, x1, x2, x3, x4⟩ := c
  unfold okL at h
  rw [Bool.and_eq_true, Bool.and_eq_true] at h
  obtain ⟨h0, h1, h2⟩ := h
  have hg := h0
  unfold Cf.good at h0
  unfold inB at h0 h1 h2
  simp only [Bool.and_eq_true, decide_eq_true_eq] at h0 h1 h2
  obtain ⟨C, rfl⟩ : ∃ C : Nat, code = C := ⟨code.toNat, by omega⟩
  obtain ⟨S, rfl⟩ : ∃ C : Nat, slots = C := ⟨slots.toNat, by omega⟩
  obtain ⟨A, rfl⟩ : ∃ C : Nat, x1 = C := ⟨x1.toNat, by omega⟩
  obtain ⟨B, rfl⟩ : ∃ C : Nat, x2 = C := ⟨x2.toNat, by omega⟩
  obtain ⟨W, rfl⟩ : ∃ C : Nat, x3 = C := ⟨x3.toNat, by omega⟩
  exact ⟨C, S, A, B, W, x0, x4, rfl, rfl, rfl, hg, by omega, by omega, by omega, by omega, by omega⟩
theorem lay_any (c : Cf) (code slots : Int) (w : World) : Calls Try.prog 7 #[c.v, .int .i64 code, .int .i64 slots] w fun e w' => e = .returned (.tuple #[(layA c code slots).v, .int .i64 (layE c code slots)]) ∧ Nb w w' := by
  cases h : okL c code slots with
  | false =>
    unfold layA layE
    rw [h, if_neg (by simp), if_neg (by simp)]
    exact lay_no c code slots h w
  | true =>
    unfold layA layE
    rw [h, if_pos rfl, if_pos rfl]
    obtain ⟨C, S, A, B, W, x0, x4, rfl, rfl, rfl, hg, hC, hS, -⟩ := okL_nat h
    exact lay_ok C S A B W x0 x4 hg hC hS w
theorem rlay_any (c : Cf) (code slots : Int) (w : World) : Calls Try.prog 8 #[c.v, .int .i64 code, .int .i64 slots] w fun e w' => e = .returned (.tuple #[(layA c code slots).v, .int .i64 (layE c code slots)]) ∧ Nb w w' := by
  cases h : okL c code slots with
  | false =>
    unfold layA layE
    rw [h, if_neg (by simp), if_neg (by simp)]
    exact rlay_no c code slots h w
  | true =>
    unfold layA layE
    rw [h, if_pos rfl, if_pos rfl]
    obtain ⟨C, S, A, B, W, x0, x4, rfl, rfl, rfl, hg, hC, hS, -⟩ := okL_nat h
    exact rlay_ok C S A B W x0 x4 hg hC hS w
theorem lives_any (w : World) : Calls Try.prog 13 #[] w fun e w' => e = .returned (.bool true) ∧ Nb w w' := by
  have h := fun w => lay_ok 10 4 2 3 8 1 1 (by decide) (by omega) (by omega) w
  change ∀ w, Calls Try.prog 7 #[.agg #[.int .i64 1, .int .i64 2, .int .i64 3, .int .i64 8, .int .i64 1], .int .i64 10, .int .i64 4] w fun e w' => e = .returned (.tuple #[.agg #[.int .u64 0, .int .u64 64, .int .u64 128, .int .u64 256, .int .u64 640, .int .u64 256, .int .u64 1408, .int .i64 4], .int .i64 0]) ∧ Nb w w' at h
  replace h := Lib.hid h
  go_enter Try.func13, Try.ntmps13
  go_upto_region 2 with (go_at_call 7; refine (h.out _).mono ?_; rintro r w1 ⟨rfl, n1⟩)
  obtain ⟨W1, hW1⟩ : ∃ W1, w1.alloc (.cells #[.int .u64 0, .int .u64 64, .int .u64 128, .int .u64 256, .int .u64 640, .int .u64 256, .int .u64 1408, .int .i64 4] 26) = W1 := ⟨_, rfl⟩
  have n2 : Nb w W1 := by rw [← hW1]; exact n1.trans (alloc_nb _ _)
  have b1 : W1.heap[w1.heap.size]? = some (.cells #[.int .u64 0, .int .u64 64, .int .u64 128, .int .u64 256, .int .u64 640, .int .u64 256, .int .u64 1408, .int .i64 4] 26 (0, 0)) := by rw [← hW1]; exact new_blk _ _ rfl
  rw [hW1]
  clear hW1
  obtain ⟨B, hB⟩ : ∃ B, w1.heap.size = B := ⟨_, rfl⟩
  rw [hB] at b1 ⊢
  clear hB
  have c1 := cell_of_row _ _ 1 _ _ _ b1
  have c2 := cell_of_row _ _ 2 _ _ _ b1
  have c3 := cell_of_row _ _ 3 _ _ _ b1
  have c4 := cell_of_row _ _ 4 _ _ _ b1
  have c6 := cell_of_row _ _ 6 _ _ _ b1
  go_wp2_with fail
  go_ret
  exact ⟨rfl, n2⟩
end Go.Proofs.Ytojogolmcclpoaa
