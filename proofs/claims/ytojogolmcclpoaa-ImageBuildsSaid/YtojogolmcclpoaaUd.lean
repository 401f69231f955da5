/-
  Proved here: the code of image refuses what may not be; where the reference lays all, and that it refuses the same. Conditions: none.
-/
import Derived.Test.YtojogolmcclpoaaUc
namespace Go.Proofs.Ytojogolmcclpoaa
open Go.RowKit
set_option linter.unusedVariables false
set_option linter.unusedSimpArgs false
set_option maxRecDepth 100000
set_option maxHeartbeats 4000000
theorem lay_no (c : Cf) (code slots : Int) (hno : okL c code slots = false) (w : World) :
    Calls Try.prog 7 #[c.v, .int .i64 code, .int .i64 slots] w fun e w' => e = .returned (.tuple #[Ly.zero.v, .int .i64 2]) ∧ Nb w w' := by
  have hgood := fun w => good_any c w
  have hw1 := fun w => within_any code 0 65536 w
  have hw2 := fun w => within_any slots 1 256 w
  unfold okL at hno
  obtain ⟨q0, e0⟩ : ∃ q, c.good = q := ⟨_, rfl⟩
  obtain ⟨q1, e1⟩ : ∃ q, inB code 0 65536 = q := ⟨_, rfl⟩
  obtain ⟨q2, e2⟩ : ∃ q, inB slots 1 256 = q := ⟨_, rfl⟩
  rw [e0, e1, e2] at hno
  simp only [e0] at hgood
  simp only [e1] at hw1
  simp only [e2] at hw2
  clear e0 e1 e2
  obtain ⟨x0, x1, x2, x3, x4⟩ := c
  replace hgood := Lib.hid hgood
  replace hw1 := Lib.hid hw1
  replace hw2 := Lib.hid hw2
  show Calls Try.prog 7 #[.agg #[.int .i64 x0, .int .i64 x1, .int .i64 x2, .int .i64 x3, .int .i64 x4], .int .i64 code, .int .i64 slots] w fun e w' => e = .returned (.tuple #[.agg #[.int .u64 0, .int .u64 0, .int .u64 0, .int .u64 0, .int .u64 0, .int .u64 0, .int .u64 0, .int .i64 0], .int .i64 2]) ∧ Nb w w'
  change Hid (∀ w, Calls Try.prog 9 #[.agg #[.int .i64 x0, .int .i64 x1, .int .i64 x2, .int .i64 x3, .int .i64 x4]] w _) at hgood
  go_enter Try.func7, Try.ntmps7
  go_upto_region 1 with (fail)
  obtain ⟨W1, hW1⟩ : ∃ W1, (w.alloc (.cells #[.int .i64 x0, .int .i64 x1, .int .i64 x2, .int .i64 x3, .int .i64 x4] 23)).alloc (.cells #[.int .u64 0, .int .u64 0, .int .u64 0, .int .u64 0, .int .u64 0, .int .u64 0, .int .u64 0, .int .i64 0] 26) = W1 := ⟨_, rfl⟩
  have hnb : Nb w W1 := by rw [← hW1]; exact (alloc_nb _ _).trans (alloc_nb _ _)
  have b0 : W1.heap[w.heap.size]? = some (.cells #[.int .i64 x0, .int .i64 x1, .int .i64 x2, .int .i64 x3, .int .i64 x4] 23 (0, 0)) := by rw [← hW1]; exact (alloc_nb _ _).block (new_blk _ _ rfl)
  have b1 : W1.heap[w.heap.size + 1]? = some (.cells #[.int .u64 0, .int .u64 0, .int .u64 0, .int .u64 0, .int .u64 0, .int .u64 0, .int .u64 0, .int .i64 0] 26 (0, 0)) := by rw [← hW1]; exact new_blk _ _ (size_alloc1 _ _)
  rw [hW1]
  clear hW1
  have c0 := cell_of_row _ _ 0 _ _ _ b0
  have c1 := cell_of_row _ _ 1 _ _ _ b0
  have c2 := cell_of_row _ _ 2 _ _ _ b0
  have c3 := cell_of_row _ _ 3 _ _ _ b0
  have c4 := cell_of_row _ _ 4 _ _ _ b0
  have y0 := cell_of_row _ _ 0 _ _ _ b1
  have y1 := cell_of_row _ _ 1 _ _ _ b1
  have y2 := cell_of_row _ _ 2 _ _ _ b1
  have y3 := cell_of_row _ _ 3 _ _ _ b1
  have y4 := cell_of_row _ _ 4 _ _ _ b1
  have y5 := cell_of_row _ _ 5 _ _ _ b1
  have y6 := cell_of_row _ _ 6 _ _ _ b1
  have y7 := cell_of_row _ _ 7 _ _ _ b1
  clear b0
  cases q0 with
  | false =>
    go_wp2_with (first
        | (go_at_call 9; refine (hgood.out _).mono ?_; rintro r w2 ⟨rfl, g2⟩; replace hnb := hnb.trans g2; replace b1 := g2.block b1; replace c0 := g2.cell c0; replace c1 := g2.cell c1; replace c2 := g2.cell c2; replace c3 := g2.cell c3; replace c4 := g2.cell c4; replace y0 := g2.cell y0; replace y1 := g2.cell y1; replace y2 := g2.cell y2; replace y3 := g2.cell y3; replace y4 := g2.cell y4; replace y5 := g2.cell y5; replace y6 := g2.cell y6; replace y7 := g2.cell y7; have b1h := Lib.hid b1; have f0 := frozen_bk b1 0; have f1 := frozen_bk b1 1; have f2 := frozen_bk b1 2; have f3 := frozen_bk b1 3; have f4 := frozen_bk b1 4; have f5 := frozen_bk b1 5; have f6 := frozen_bk b1 6; have f7 := frozen_bk b1 7; clear b1)
        | (go_at_call 18; refine (hw1.out _).mono ?_; clear hw1; rintro r w' ⟨rfl, rfl⟩)
        | (go_at_call 18; refine (hw2.out _).mono ?_; clear hw2; rintro r w' ⟨rfl, rfl⟩))
    refine bodyPost_ret (results_rt rfl _ _ (w.heap.size + 1) _ rfl (run_loadVar_row _ _ _ _ _ _ _ (set8_all b1h.out) Try.underlying26 rfl (by kernel_rfl))) rfl ?_
    exact ⟨by first | rfl | simp, nb8 hnb (by omega)⟩
  | true =>
  cases q1 with
  | false =>
    go_wp2_with (first
        | (go_at_call 9; refine (hgood.out _).mono ?_; rintro r w2 ⟨rfl, g2⟩; replace hnb := hnb.trans g2; replace b1 := g2.block b1; replace c0 := g2.cell c0; replace c1 := g2.cell c1; replace c2 := g2.cell c2; replace c3 := g2.cell c3; replace c4 := g2.cell c4; replace y0 := g2.cell y0; replace y1 := g2.cell y1; replace y2 := g2.cell y2; replace y3 := g2.cell y3; replace y4 := g2.cell y4; replace y5 := g2.cell y5; replace y6 := g2.cell y6; replace y7 := g2.cell y7; have b1h := Lib.hid b1; have f0 := frozen_bk b1 0; have f1 := frozen_bk b1 1; have f2 := frozen_bk b1 2; have f3 := frozen_bk b1 3; have f4 := frozen_bk b1 4; have f5 := frozen_bk b1 5; have f6 := frozen_bk b1 6; have f7 := frozen_bk b1 7; clear b1)
        | (go_at_call 18; refine (hw1.out _).mono ?_; clear hw1; rintro r w' ⟨rfl, rfl⟩)
        | (go_at_call 18; refine (hw2.out _).mono ?_; clear hw2; rintro r w' ⟨rfl, rfl⟩))
    refine bodyPost_ret (results_rt rfl _ _ (w.heap.size + 1) _ rfl (run_loadVar_row _ _ _ _ _ _ _ (set8_all b1h.out) Try.underlying26 rfl (by kernel_rfl))) rfl ?_
    exact ⟨by first | rfl | simp, nb8 hnb (by omega)⟩
  | true =>
  obtain rfl : q2 = false := by simpa using hno
  go_wp2_with (first
      | (go_at_call 9; refine (hgood.out _).mono ?_; rintro r w2 ⟨rfl, g2⟩; replace hnb := hnb.trans g2; replace b1 := g2.block b1; replace c0 := g2.cell c0; replace c1 := g2.cell c1; replace c2 := g2.cell c2; replace c3 := g2.cell c3; replace c4 := g2.cell c4; replace y0 := g2.cell y0; replace y1 := g2.cell y1; replace y2 := g2.cell y2; replace y3 := g2.cell y3; replace y4 := g2.cell y4; replace y5 := g2.cell y5; replace y6 := g2.cell y6; replace y7 := g2.cell y7; have b1h := Lib.hid b1; have f0 := frozen_bk b1 0; have f1 := frozen_bk b1 1; have f2 := frozen_bk b1 2; have f3 := frozen_bk b1 3; have f4 := frozen_bk b1 4; have f5 := frozen_bk b1 5; have f6 := frozen_bk b1 6; have f7 := frozen_bk b1 7; clear b1)
      | (go_at_call 18; refine (hw1.out _).mono ?_; clear hw1; rintro r w' ⟨rfl, rfl⟩)
      | (go_at_call 18; refine (hw2.out _).mono ?_; clear hw2; rintro r w' ⟨rfl, rfl⟩))
  refine bodyPost_ret (results_rt rfl _ _ (w.heap.size + 1) _ rfl (run_loadVar_row _ _ _ _ _ _ _ (set8_all b1h.out) Try.underlying26 rfl (by kernel_rfl))) rfl ?_
  exact ⟨by first | rfl | simp, nb8 hnb (by omega)⟩
theorem rlay_no (c : Cf) (code slots : Int) (hno : okL c code slots = false) (w : World) :
    Calls Try.prog 8 #[c.v, .int .i64 code, .int .i64 slots] w fun e w' => e = .returned (.tuple #[Ly.zero.v, .int .i64 2]) ∧ Nb w w' := by
  have hgood := fun w => rgood_any c w
  have hw1 := fun w => rin_any code 0 65536 w
  have hw2 := fun w => rin_any slots 1 256 w
  unfold okL at hno
  obtain ⟨q0, e0⟩ : ∃ q, c.good = q := ⟨_, rfl⟩
  obtain ⟨q1, e1⟩ : ∃ q, inB code 0 65536 = q := ⟨_, rfl⟩
  obtain ⟨q2, e2⟩ : ∃ q, inB slots 1 256 = q := ⟨_, rfl⟩
  rw [e0, e1, e2] at hno
  simp only [e0] at hgood
  simp only [e1] at hw1
  simp only [e2] at hw2
  clear e0 e1 e2
  obtain ⟨x0, x1, x2, x3, x4⟩ := c
  replace hgood := Lib.hid hgood
  replace hw1 := Lib.hid hw1
  replace hw2 := Lib.hid hw2
  show Calls Try.prog 8 #[.agg #[.int .i64 x0, .int .i64 x1, .int .i64 x2, .int .i64 x3, .int .i64 x4], .int .i64 code, .int .i64 slots] w fun e w' => e = .returned (.tuple #[.agg #[.int .u64 0, .int .u64 0, .int .u64 0, .int .u64 0, .int .u64 0, .int .u64 0, .int .u64 0, .int .i64 0], .int .i64 2]) ∧ Nb w w'
  change Hid (∀ w, Calls Try.prog 10 #[.agg #[.int .i64 x0, .int .i64 x1, .int .i64 x2, .int .i64 x3, .int .i64 x4]] w _) at hgood
  go_enter Try.func8, Try.ntmps8
  go_upto_region 1 with (fail)
  obtain ⟨W1, hW1⟩ : ∃ W1, (w.alloc (.cells #[.int .i64 x0, .int .i64 x1, .int .i64 x2, .int .i64 x3, .int .i64 x4] 23)).alloc (.cells #[.int .u64 0, .int .u64 0, .int .u64 0, .int .u64 0, .int .u64 0, .int .u64 0, .int .u64 0, .int .i64 0] 26) = W1 := ⟨_, rfl⟩
  have hnb : Nb w W1 := by rw [← hW1]; exact (alloc_nb _ _).trans (alloc_nb _ _)
  have b0 : W1.heap[w.heap.size]? = some (.cells #[.int .i64 x0, .int .i64 x1, .int .i64 x2, .int .i64 x3, .int .i64 x4] 23 (0, 0)) := by rw [← hW1]; exact (alloc_nb _ _).block (new_blk _ _ rfl)
  have b1 : W1.heap[w.heap.size + 1]? = some (.cells #[.int .u64 0, .int .u64 0, .int .u64 0, .int .u64 0, .int .u64 0, .int .u64 0, .int .u64 0, .int .i64 0] 26 (0, 0)) := by rw [← hW1]; exact new_blk _ _ (size_alloc1 _ _)
  rw [hW1]
  clear hW1
  have c0 := cell_of_row _ _ 0 _ _ _ b0
  have c1 := cell_of_row _ _ 1 _ _ _ b0
  have c2 := cell_of_row _ _ 2 _ _ _ b0
  have c3 := cell_of_row _ _ 3 _ _ _ b0
  have c4 := cell_of_row _ _ 4 _ _ _ b0
  have y0 := cell_of_row _ _ 0 _ _ _ b1
  have y1 := cell_of_row _ _ 1 _ _ _ b1
  have y2 := cell_of_row _ _ 2 _ _ _ b1
  have y3 := cell_of_row _ _ 3 _ _ _ b1
  have y4 := cell_of_row _ _ 4 _ _ _ b1
  have y5 := cell_of_row _ _ 5 _ _ _ b1
  have y6 := cell_of_row _ _ 6 _ _ _ b1
  have y7 := cell_of_row _ _ 7 _ _ _ b1
  clear b0
  cases q0 with
  | false =>
    go_wp2_with (first
        | (go_at_call 10; refine (hgood.out _).mono ?_; rintro r w2 ⟨rfl, g2⟩; replace hnb := hnb.trans g2; replace b1 := g2.block b1; replace c0 := g2.cell c0; replace c1 := g2.cell c1; replace c2 := g2.cell c2; replace c3 := g2.cell c3; replace c4 := g2.cell c4; replace y0 := g2.cell y0; replace y1 := g2.cell y1; replace y2 := g2.cell y2; replace y3 := g2.cell y3; replace y4 := g2.cell y4; replace y5 := g2.cell y5; replace y6 := g2.cell y6; replace y7 := g2.cell y7; have b1h := Lib.hid b1; have f0 := frozen_bk b1 0; have f1 := frozen_bk b1 1; have f2 := frozen_bk b1 2; have f3 := frozen_bk b1 3; have f4 := frozen_bk b1 4; have f5 := frozen_bk b1 5; have f6 := frozen_bk b1 6; have f7 := frozen_bk b1 7; clear b1)
        | (go_at_call 21; refine (hw1.out _).mono ?_; clear hw1; rintro r w' ⟨rfl, rfl⟩)
        | (go_at_call 21; refine (hw2.out _).mono ?_; clear hw2; rintro r w' ⟨rfl, rfl⟩))
    refine bodyPost_ret (results_rt rfl _ _ (w.heap.size + 1) _ rfl (run_loadVar_row _ _ _ _ _ _ _ (set8_all b1h.out) Try.underlying26 rfl (by kernel_rfl))) rfl ?_
    exact ⟨by first | rfl | simp, nb8 hnb (by omega)⟩
  | true =>
  cases q1 with
  | false =>
    go_wp2_with (first
        | (go_at_call 10; refine (hgood.out _).mono ?_; rintro r w2 ⟨rfl, g2⟩; replace hnb := hnb.trans g2; replace b1 := g2.block b1; replace c0 := g2.cell c0; replace c1 := g2.cell c1; replace c2 := g2.cell c2; replace c3 := g2.cell c3; replace c4 := g2.cell c4; replace y0 := g2.cell y0; replace y1 := g2.cell y1; replace y2 := g2.cell y2; replace y3 := g2.cell y3; replace y4 := g2.cell y4; replace y5 := g2.cell y5; replace y6 := g2.cell y6; replace y7 := g2.cell y7; have b1h := Lib.hid b1; have f0 := frozen_bk b1 0; have f1 := frozen_bk b1 1; have f2 := frozen_bk b1 2; have f3 := frozen_bk b1 3; have f4 := frozen_bk b1 4; have f5 := frozen_bk b1 5; have f6 := frozen_bk b1 6; have f7 := frozen_bk b1 7; clear b1)
        | (go_at_call 21; refine (hw1.out _).mono ?_; clear hw1; rintro r w' ⟨rfl, rfl⟩)
        | (go_at_call 21; refine (hw2.out _).mono ?_; clear hw2; rintro r w' ⟨rfl, rfl⟩))
    refine bodyPost_ret (results_rt rfl _ _ (w.heap.size + 1) _ rfl (run_loadVar_row _ _ _ _ _ _ _ (set8_all b1h.out) Try.underlying26 rfl (by kernel_rfl))) rfl ?_
    exact ⟨by first | rfl | simp, nb8 hnb (by omega)⟩
  | true =>
  obtain rfl : q2 = false := by simpa using hno
  go_wp2_with (first
      | (go_at_call 10; refine (hgood.out _).mono ?_; rintro r w2 ⟨rfl, g2⟩; replace hnb := hnb.trans g2; replace b1 := g2.block b1; replace c0 := g2.cell c0; replace c1 := g2.cell c1; replace c2 := g2.cell c2; replace c3 := g2.cell c3; replace c4 := g2.cell c4; replace y0 := g2.cell y0; replace y1 := g2.cell y1; replace y2 := g2.cell y2; replace y3 := g2.cell y3; replace y4 := g2.cell y4; replace y5 := g2.cell y5; replace y6 := g2.cell y6; replace y7 := g2.cell y7; have b1h := Lib.hid b1; have f0 := frozen_bk b1 0; have f1 := frozen_bk b1 1; have f2 := frozen_bk b1 2; have f3 := frozen_bk b1 3; have f4 := frozen_bk b1 4; have f5 := frozen_bk b1 5; have f6 := frozen_bk b1 6; have f7 := frozen_bk b1 7; clear b1)
      | (go_at_call 21; refine (hw1.out _).mono ?_; clear hw1; rintro r w' ⟨rfl, rfl⟩)
      | (go_at_call 21; refine (hw2.out _).mono ?_; clear hw2; rintro r w' ⟨rfl, rfl⟩))
  refine bodyPost_ret (results_rt rfl _ _ (w.heap.size + 1) _ rfl (run_loadVar_row _ _ _ _ _ _ _ (set8_all b1h.out) Try.underlying26 rfl (by kernel_rfl))) rfl ?_
  exact ⟨by first | rfl | simp, nb8 hnb (by omega)⟩
end Go.Proofs.Ytojogolmcclpoaa
