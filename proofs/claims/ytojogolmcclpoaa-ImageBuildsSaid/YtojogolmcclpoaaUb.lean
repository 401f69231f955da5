/-
  Proved here: of image: the first line that is not below a number, a place behind the others, where a record and a block stand. Conditions: none but that the numbers are words.
-/
import Derived.Test.YtojogolmcclpoaaUa
namespace Go.Proofs.Ytojogolmcclpoaa
open Go.RowKit
set_option linter.unusedVariables false
set_option linter.unusedSimpArgs false
set_option maxRecDepth 100000
set_option maxHeartbeats 4000000
theorem ret_u {a b : Int} (h : a = b) : Ending.returned (.int .u64 a) = .returned (.int .u64 b) := by rw [h]
theorem lines_any (n : Nat) (hn : n ≤ 1000000) (w : World) : Calls Try.prog 20 #[.int .u64 (n : Int)] w fun e w' => e = .returned (.int .u64 (((n + 63) / 64 * 64 : Nat) : Int)) ∧ w' = w := by
  go_enter Try.func20, Try.ntmps20
  go_wp2_with fail
  go_ret
  exact ⟨ret_u (by first | omega | (simp only [IntKind.wrap_u64]; omega)), rfl⟩
theorem place_any (g : Nat) (n b : Int) (h0 : 0 ≤ n + b) (h1 : n + b < 18446744073709551616) (w : World) (hB : w.heap[g]? = some (.cells #[.int .u64 n] 24 (0, 0))) :
    Calls Try.prog 19 #[.int .u64 b, .pointer (some ⟨g, 0, none⟩)] w fun e w' => e = .returned (.int .u64 n) ∧ w' = w.setCell ⟨g, 0, none⟩ (.int .u64 (n + b)) := by
  have c0 := cell_of_row _ _ 0 _ _ _ hB
  have f0 := frozen_bk hB 0
  have hs : IntKind.u64.wrap (n + b) = n + b := by rw [IntKind.wrap_u64]; omega
  clear hB h0 h1
  go_enter Try.func19, Try.ntmps19
  go_wp2_with fail
  go_ret
  exact ⟨rfl, by first | rfl | simp only [hs]⟩
/-- A layout. -/
structure Ly where
  code : Int
  globals : Int
  actors : Int
  asize : Int
  blocks : Int
  bsize : Int
  stop : Int
  slots : Int
def Ly.cells (l : Ly) : List Value := [.int .u64 l.code, .int .u64 l.globals, .int .u64 l.actors, .int .u64 l.asize, .int .u64 l.blocks, .int .u64 l.bsize, .int .u64 l.stop, .int .i64 l.slots]
def Ly.v (l : Ly) : Value := .agg l.cells.toArray
def wU (x : Int) : Int := IntKind.u64.wrap x
theorem actor_any (l : Ly) (n : Int) (w : World) : Calls Try.prog 11 #[l.v, .int .i64 n] w fun e w' => e = .returned (.int .u64 (wU (l.actors + wU (wU n * l.asize)))) ∧ Nb w w' := by
  obtain ⟨x0, x1, x2, x3, x4, x5, x6, x7⟩ := l
  show Calls Try.prog 11 #[.agg #[.int .u64 x0, .int .u64 x1, .int .u64 x2, .int .u64 x3, .int .u64 x4, .int .u64 x5, .int .u64 x6, .int .i64 x7], .int .i64 n] w fun e w' => e = .returned (.int .u64 (wU (x2 + wU (wU n * x3)))) ∧ Nb w w'
  obtain ⟨r, hr⟩ : ∃ r, wU (x2 + wU (wU n * x3)) = r := ⟨_, rfl⟩
  rw [hr]
  replace hr := Lib.hid hr
  go_enter Try.func11, Try.ntmps11
  go_upto_region 1 with (fail)
  obtain ⟨W1, hW1⟩ : ∃ W1, w.alloc (.cells #[.int .u64 x0, .int .u64 x1, .int .u64 x2, .int .u64 x3, .int .u64 x4, .int .u64 x5, .int .u64 x6, .int .i64 x7] 26) = W1 := ⟨_, rfl⟩
  have b1 : W1.heap[w.heap.size]? = some (.cells #[.int .u64 x0, .int .u64 x1, .int .u64 x2, .int .u64 x3, .int .u64 x4, .int .u64 x5, .int .u64 x6, .int .i64 x7] 26 (0, 0)) := by rw [← hW1]; exact new_blk _ _ rfl
  have n1 : Nb w W1 := by rw [← hW1]; exact alloc_nb _ _
  rw [hW1]
  clear hW1
  obtain ⟨B, hB⟩ : ∃ B, w.heap.size = B := ⟨_, rfl⟩
  rw [hB] at b1 ⊢
  clear hB
  have c2 := cell_of_row _ _ 2 _ _ _ b1
  have c3 := cell_of_row _ _ 3 _ _ _ b1
  go_wp2_with fail
  go_ret
  exact ⟨ret_u (by rw [← hr.out]; rfl), n1⟩
theorem block_any (l : Ly) (n : Int) (w : World) : Calls Try.prog 12 #[l.v, .int .i64 n] w fun e w' => e = .returned (.int .u64 (wU (l.blocks + wU (wU n * l.bsize)))) ∧ Nb w w' := by
  obtain ⟨x0, x1, x2, x3, x4, x5, x6, x7⟩ := l
  show Calls Try.prog 12 #[.agg #[.int .u64 x0, .int .u64 x1, .int .u64 x2, .int .u64 x3, .int .u64 x4, .int .u64 x5, .int .u64 x6, .int .i64 x7], .int .i64 n] w fun e w' => e = .returned (.int .u64 (wU (x4 + wU (wU n * x5)))) ∧ Nb w w'
  obtain ⟨r, hr⟩ : ∃ r, wU (x4 + wU (wU n * x5)) = r := ⟨_, rfl⟩
  rw [hr]
  replace hr := Lib.hid hr
  go_enter Try.func12, Try.ntmps12
  go_upto_region 1 with (fail)
  obtain ⟨W1, hW1⟩ : ∃ W1, w.alloc (.cells #[.int .u64 x0, .int .u64 x1, .int .u64 x2, .int .u64 x3, .int .u64 x4, .int .u64 x5, .int .u64 x6, .int .i64 x7] 26) = W1 := ⟨_, rfl⟩
  have b1 : W1.heap[w.heap.size]? = some (.cells #[.int .u64 x0, .int .u64 x1, .int .u64 x2, .int .u64 x3, .int .u64 x4, .int .u64 x5, .int .u64 x6, .int .i64 x7] 26 (0, 0)) := by rw [← hW1]; exact new_blk _ _ rfl
  have n1 : Nb w W1 := by rw [← hW1]; exact alloc_nb _ _
  rw [hW1]
  clear hW1
  obtain ⟨B, hB⟩ : ∃ B, w.heap.size = B := ⟨_, rfl⟩
  rw [hB] at b1 ⊢
  clear hB
  have c2 := cell_of_row _ _ 4 _ _ _ b1
  have c3 := cell_of_row _ _ 5 _ _ _ b1
  go_wp2_with fail
  go_ret
  exact ⟨ret_u (by rw [← hr.out]; rfl), n1⟩
end Go.Proofs.Ytojogolmcclpoaa
