/-
  Proved here: image and its reference refuse to build what was laid otherwise. Conditions: the memory holds the words.
-/
import Derived.Test.YtojogolmcclpoaaUg
namespace Go.Proofs.Ytojogolmcclpoaa
open Go.RowKit
set_option linter.unusedVariables false
set_option linter.unusedSimpArgs false
set_option maxRecDepth 100000
set_option maxHeartbeats 4000000
attribute [-go_sem] run_neq_struct
theorem build_no (c : Cf) (l : Ly) (v : Value) (xs : List Int) (w : World) (hx : U32R w v xs) (hno : layE c xs.length l.slots ≠ 0 ∨ layA c xs.length l.slots ≠ l) :
    Calls Try.prog 14 #[c.v, l.v, v] w fun e w' => e = .returned (.tuple #[.pointer none, .int .i64 2]) ∧ Nb w w' := by
  obtain ⟨A, cap, rfl, hcap, -⟩ := hx
  have hlay := fun w => lay_any c xs.length l.slots w
  have hE : layE c xs.length l.slots = 0 ∨ layE c xs.length l.slots = 2 := by unfold layE; split <;> simp
  obtain ⟨E, hEe⟩ : ∃ e, layE c xs.length l.slots = e := ⟨_, rfl⟩
  obtain ⟨q, hl2⟩ : ∃ e, layA c xs.length l.slots = e := ⟨_, rfl⟩
  rw [hEe] at hE hno
  rw [hl2] at hno
  simp only [hEe, hl2] at hlay
  clear hEe hl2
  have hne := fun (h : q ≠ l) w => ne_ly l q h.symm w
  obtain ⟨x0, x1, x2, x3, x4⟩ := c
  obtain ⟨l0, l1, l2, l3, l4, l5, l6, l7⟩ := l
  obtain ⟨m0, m1, m2, m3, m4, m5, m6, m7⟩ := q
  obtain ⟨N, hN⟩ : ∃ N, xs.length = N := ⟨_, rfl⟩
  rw [hN] at hcap ⊢
  simp only [hN] at hlay
  clear hN
  change ∀ w, Calls Try.prog 7 #[.agg #[.int .i64 x0, .int .i64 x1, .int .i64 x2, .int .i64 x3, .int .i64 x4], .int .i64 (N : Int), .int .i64 l7] w fun e w' => e = .returned (.tuple #[.agg #[.int .u64 m0, .int .u64 m1, .int .u64 m2, .int .u64 m3, .int .u64 m4, .int .u64 m5, .int .u64 m6, .int .i64 m7], .int .i64 E]) ∧ Nb w w' at hlay
  replace hlay := Lib.hid hlay
  show Calls Try.prog 14 #[.agg #[.int .i64 x0, .int .i64 x1, .int .i64 x2, .int .i64 x3, .int .i64 x4], .agg #[.int .u64 l0, .int .u64 l1, .int .u64 l2, .int .u64 l3, .int .u64 l4, .int .u64 l5, .int .u64 l6, .int .i64 l7], .slice A N cap] w _
  go_enter Try.func14, Try.ntmps14
  go_upto_region 1 with (fail)
  obtain ⟨W1, hW1⟩ : ∃ W1, (w.alloc (.cells #[.int .i64 x0, .int .i64 x1, .int .i64 x2, .int .i64 x3, .int .i64 x4] 23)).alloc (.cells #[.int .u64 l0, .int .u64 l1, .int .u64 l2, .int .u64 l3, .int .u64 l4, .int .u64 l5, .int .u64 l6, .int .i64 l7] 26) = W1 := ⟨_, rfl⟩
  have n1 : Nb w W1 := by rw [← hW1]; exact (alloc_nb _ _).trans (alloc_nb _ _)
  have b0 : W1.heap[w.heap.size]? = some (.cells #[.int .i64 x0, .int .i64 x1, .int .i64 x2, .int .i64 x3, .int .i64 x4] 23 (0, 0)) := by rw [← hW1]; exact (alloc_nb _ _).block (new_blk _ _ rfl)
  have b1 : W1.heap[w.heap.size + 1]? = some (.cells #[.int .u64 l0, .int .u64 l1, .int .u64 l2, .int .u64 l3, .int .u64 l4, .int .u64 l5, .int .u64 l6, .int .i64 l7] 26 (0, 0)) := by rw [← hW1]; exact new_blk _ _ (size_alloc1 _ _)
  rw [hW1]
  clear hW1
  obtain ⟨H, hH⟩ : ∃ H, w.heap.size = H := ⟨_, rfl⟩
  rw [hH] at b0 b1 ⊢
  clear hH
  obtain ⟨H1, hH1⟩ : ∃ H1, H + 1 = H1 := ⟨_, rfl⟩
  rw [hH1] at b1 ⊢
  clear hH1
  have c0 := cell_of_row _ _ 0 _ _ _ b0
  have c1 := cell_of_row _ _ 1 _ _ _ b0
  have c2 := cell_of_row _ _ 2 _ _ _ b0
  have c3 := cell_of_row _ _ 3 _ _ _ b0
  have c4 := cell_of_row _ _ 4 _ _ _ b0
  have z0 := cell_of_row _ _ 0 _ _ _ b1
  have z1 := cell_of_row _ _ 1 _ _ _ b1
  have z2 := cell_of_row _ _ 2 _ _ _ b1
  have z3 := cell_of_row _ _ 3 _ _ _ b1
  have z4 := cell_of_row _ _ 4 _ _ _ b1
  have z5 := cell_of_row _ _ 5 _ _ _ b1
  have z6 := cell_of_row _ _ 6 _ _ _ b1
  have z7 := cell_of_row _ _ 7 _ _ _ b1
  go_upto_region 2 with (go_at_call 7; refine (hlay.out _).mono ?_; rintro r w1 ⟨rfl, g1⟩)
  obtain ⟨W2, hW2⟩ : ∃ W2, w1.alloc (.cells #[.int .u64 m0, .int .u64 m1, .int .u64 m2, .int .u64 m3, .int .u64 m4, .int .u64 m5, .int .u64 m6, .int .i64 m7] 26) = W2 := ⟨_, rfl⟩
  have n2 : Nb W1 W2 := by rw [← hW2]; exact g1.trans (alloc_nb _ _)
  have b2 : W2.heap[w1.heap.size]? = some (.cells #[.int .u64 m0, .int .u64 m1, .int .u64 m2, .int .u64 m3, .int .u64 m4, .int .u64 m5, .int .u64 m6, .int .i64 m7] 26 (0, 0)) := by rw [← hW2]; exact new_blk _ _ rfl
  rw [hW2]
  clear hW2
  obtain ⟨H2, hH2⟩ : ∃ H, w1.heap.size = H := ⟨_, rfl⟩
  rw [hH2] at b2 ⊢
  clear hH2 c0 c1 c2 c3 c4 z0 z1 z2 z3 z4 z5 z6 z7
  replace b0 := n2.block b0
  replace b1 := n2.block b1
  replace n1 := n1.trans n2
  clear n2 g1
  have z0 := cell_of_row _ _ 0 _ _ _ b1
  have y0 := cell_of_row _ _ 0 _ _ _ b2
  have z1 := cell_of_row _ _ 1 _ _ _ b1
  have y1 := cell_of_row _ _ 1 _ _ _ b2
  have z2 := cell_of_row _ _ 2 _ _ _ b1
  have y2 := cell_of_row _ _ 2 _ _ _ b2
  have z3 := cell_of_row _ _ 3 _ _ _ b1
  have y3 := cell_of_row _ _ 3 _ _ _ b2
  have z4 := cell_of_row _ _ 4 _ _ _ b1
  have y4 := cell_of_row _ _ 4 _ _ _ b2
  have z5 := cell_of_row _ _ 5 _ _ _ b1
  have y5 := cell_of_row _ _ 5 _ _ _ b2
  have z6 := cell_of_row _ _ 6 _ _ _ b1
  have y6 := cell_of_row _ _ 6 _ _ _ b2
  have z7 := cell_of_row _ _ 7 _ _ _ b1
  have y7 := cell_of_row _ _ 7 _ _ _ b2
  rcases hE with rfl | rfl
  · have hq := hne (by rcases hno with h | h; exact absurd rfl h; exact h)
    change ∀ w, (binOp .neq 26 (.agg #[.int .u64 l0, .int .u64 l1, .int .u64 l2, .int .u64 l3, .int .u64 l4, .int .u64 l5, .int .u64 l6, .int .i64 l7]) (.agg #[.int .u64 m0, .int .u64 m1, .int .u64 m2, .int .u64 m3, .int .u64 m4, .int .u64 m5, .int .u64 m6, .int .i64 m7])).run Try.prog w = .ok (.bool true) w at hq
    clear hne hno
    go_wp2_with fail
    go_ret2
    exact ⟨rfl, n1⟩
  · clear hne hno
    go_wp2_with fail
    go_ret2
    exact ⟨rfl, n1⟩
theorem rbuild_no (c : Cf) (l : Ly) (v : Value) (xs : List Int) (w : World) (hx : U32R w v xs) (hno : layE c xs.length l.slots ≠ 0 ∨ layA c xs.length l.slots ≠ l) :
    Calls Try.prog 15 #[c.v, l.v, v] w fun e w' => e = .returned (.tuple #[.pointer none, .int .i64 2]) ∧ Nb w w' := by
  obtain ⟨A, cap, rfl, hcap, -⟩ := hx
  have hlay := fun w => rlay_any c xs.length l.slots w
  have hE : layE c xs.length l.slots = 0 ∨ layE c xs.length l.slots = 2 := by unfold layE; split <;> simp
  obtain ⟨E, hEe⟩ : ∃ e, layE c xs.length l.slots = e := ⟨_, rfl⟩
  obtain ⟨q, hl2⟩ : ∃ e, layA c xs.length l.slots = e := ⟨_, rfl⟩
  rw [hEe] at hE hno
  rw [hl2] at hno
  simp only [hEe, hl2] at hlay
  clear hEe hl2
  have hne := fun (h : q ≠ l) w => ne_ly q l h w
  obtain ⟨x0, x1, x2, x3, x4⟩ := c
  obtain ⟨l0, l1, l2, l3, l4, l5, l6, l7⟩ := l
  obtain ⟨m0, m1, m2, m3, m4, m5, m6, m7⟩ := q
  obtain ⟨N, hN⟩ : ∃ N, xs.length = N := ⟨_, rfl⟩
  rw [hN] at hcap ⊢
  simp only [hN] at hlay
  clear hN
  change ∀ w, Calls Try.prog 8 #[.agg #[.int .i64 x0, .int .i64 x1, .int .i64 x2, .int .i64 x3, .int .i64 x4], .int .i64 (N : Int), .int .i64 l7] w fun e w' => e = .returned (.tuple #[.agg #[.int .u64 m0, .int .u64 m1, .int .u64 m2, .int .u64 m3, .int .u64 m4, .int .u64 m5, .int .u64 m6, .int .i64 m7], .int .i64 E]) ∧ Nb w w' at hlay
  replace hlay := Lib.hid hlay
  show Calls Try.prog 15 #[.agg #[.int .i64 x0, .int .i64 x1, .int .i64 x2, .int .i64 x3, .int .i64 x4], .agg #[.int .u64 l0, .int .u64 l1, .int .u64 l2, .int .u64 l3, .int .u64 l4, .int .u64 l5, .int .u64 l6, .int .i64 l7], .slice A N cap] w _
  go_enter Try.func15, Try.ntmps15
  go_upto_region 1 with (fail)
  obtain ⟨W1, hW1⟩ : ∃ W1, (w.alloc (.cells #[.int .i64 x0, .int .i64 x1, .int .i64 x2, .int .i64 x3, .int .i64 x4] 23)).alloc (.cells #[.int .u64 l0, .int .u64 l1, .int .u64 l2, .int .u64 l3, .int .u64 l4, .int .u64 l5, .int .u64 l6, .int .i64 l7] 26) = W1 := ⟨_, rfl⟩
  have n1 : Nb w W1 := by rw [← hW1]; exact (alloc_nb _ _).trans (alloc_nb _ _)
  have b0 : W1.heap[w.heap.size]? = some (.cells #[.int .i64 x0, .int .i64 x1, .int .i64 x2, .int .i64 x3, .int .i64 x4] 23 (0, 0)) := by rw [← hW1]; exact (alloc_nb _ _).block (new_blk _ _ rfl)
  have b1 : W1.heap[w.heap.size + 1]? = some (.cells #[.int .u64 l0, .int .u64 l1, .int .u64 l2, .int .u64 l3, .int .u64 l4, .int .u64 l5, .int .u64 l6, .int .i64 l7] 26 (0, 0)) := by rw [← hW1]; exact new_blk _ _ (size_alloc1 _ _)
  rw [hW1]
  clear hW1
  obtain ⟨H, hH⟩ : ∃ H, w.heap.size = H := ⟨_, rfl⟩
  rw [hH] at b0 b1 ⊢
  clear hH
  obtain ⟨H1, hH1⟩ : ∃ H1, H + 1 = H1 := ⟨_, rfl⟩
  rw [hH1] at b1 ⊢
  clear hH1
  have c0 := cell_of_row _ _ 0 _ _ _ b0
  have c1 := cell_of_row _ _ 1 _ _ _ b0
  have c2 := cell_of_row _ _ 2 _ _ _ b0
  have c3 := cell_of_row _ _ 3 _ _ _ b0
  have c4 := cell_of_row _ _ 4 _ _ _ b0
  have z0 := cell_of_row _ _ 0 _ _ _ b1
  have z1 := cell_of_row _ _ 1 _ _ _ b1
  have z2 := cell_of_row _ _ 2 _ _ _ b1
  have z3 := cell_of_row _ _ 3 _ _ _ b1
  have z4 := cell_of_row _ _ 4 _ _ _ b1
  have z5 := cell_of_row _ _ 5 _ _ _ b1
  have z6 := cell_of_row _ _ 6 _ _ _ b1
  have z7 := cell_of_row _ _ 7 _ _ _ b1
  go_upto_region 2 with (go_at_call 8; refine (hlay.out _).mono ?_; rintro r w1 ⟨rfl, g1⟩)
  obtain ⟨W2, hW2⟩ : ∃ W2, w1.alloc (.cells #[.int .u64 m0, .int .u64 m1, .int .u64 m2, .int .u64 m3, .int .u64 m4, .int .u64 m5, .int .u64 m6, .int .i64 m7] 26) = W2 := ⟨_, rfl⟩
  have n2 : Nb W1 W2 := by rw [← hW2]; exact g1.trans (alloc_nb _ _)
  have b2 : W2.heap[w1.heap.size]? = some (.cells #[.int .u64 m0, .int .u64 m1, .int .u64 m2, .int .u64 m3, .int .u64 m4, .int .u64 m5, .int .u64 m6, .int .i64 m7] 26 (0, 0)) := by rw [← hW2]; exact new_blk _ _ rfl
  rw [hW2]
  clear hW2
  obtain ⟨H2, hH2⟩ : ∃ H, w1.heap.size = H := ⟨_, rfl⟩
  rw [hH2] at b2 ⊢
  clear hH2 c0 c1 c2 c3 c4 z0 z1 z2 z3 z4 z5 z6 z7
  replace b0 := n2.block b0
  replace b1 := n2.block b1
  replace n1 := n1.trans n2
  clear n2 g1
  have z0 := cell_of_row _ _ 0 _ _ _ b1
  have y0 := cell_of_row _ _ 0 _ _ _ b2
  have z1 := cell_of_row _ _ 1 _ _ _ b1
  have y1 := cell_of_row _ _ 1 _ _ _ b2
  have z2 := cell_of_row _ _ 2 _ _ _ b1
  have y2 := cell_of_row _ _ 2 _ _ _ b2
  have z3 := cell_of_row _ _ 3 _ _ _ b1
  have y3 := cell_of_row _ _ 3 _ _ _ b2
  have z4 := cell_of_row _ _ 4 _ _ _ b1
  have y4 := cell_of_row _ _ 4 _ _ _ b2
  have z5 := cell_of_row _ _ 5 _ _ _ b1
  have y5 := cell_of_row _ _ 5 _ _ _ b2
  have z6 := cell_of_row _ _ 6 _ _ _ b1
  have y6 := cell_of_row _ _ 6 _ _ _ b2
  have z7 := cell_of_row _ _ 7 _ _ _ b1
  have y7 := cell_of_row _ _ 7 _ _ _ b2
  rcases hE with rfl | rfl
  · have hq := hne (by rcases hno with h | h; exact absurd rfl h; exact h)
    change ∀ w, (binOp .neq 26 (.agg #[.int .u64 m0, .int .u64 m1, .int .u64 m2, .int .u64 m3, .int .u64 m4, .int .u64 m5, .int .u64 m6, .int .i64 m7]) (.agg #[.int .u64 l0, .int .u64 l1, .int .u64 l2, .int .u64 l3, .int .u64 l4, .int .u64 l5, .int .u64 l6, .int .i64 l7])).run Try.prog w = .ok (.bool true) w at hq
    clear hne hno
    go_wp2_with fail
    go_ret2
    exact ⟨rfl, n1⟩
  · clear hne hno
    go_wp2_with fail
    go_ret2
    exact ⟨rfl, n1⟩
end Go.Proofs.Ytojogolmcclpoaa
