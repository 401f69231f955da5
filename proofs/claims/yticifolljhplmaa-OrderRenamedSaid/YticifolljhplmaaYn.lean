/-
  Proved here: rule and holding of the code: the closures that they hand out. Conditions: none.
-/
import Derived.Test.YticifolljhplmaaYl
namespace Go.Proofs.Yticifolljhplmaa
open Go.RowKit Go.Sort Go.Shelf
set_option linter.unusedVariables false
set_option linter.unusedSimpArgs false
set_option maxRecDepth 100000
set_option maxHeartbeats 4000000
theorem rule_any (ab ao bb bo : Nat) (p : Option Addr) (n c : Nat) (w : World) :
    Calls Try.prog 39 #[pairV ab ao bb bo (.slice p n c)] w fun e w' => ∃ ga gb gp : Nat, e = .returned (.func (.func 50) #[] #[.pointer (some ⟨gb, 0, none⟩), .pointer (some ⟨ga, 0, none⟩), .pointer (some ⟨gp, 0, none⟩)]) ∧ Nb w w' ∧
      w'.heap[ga]? = some (.cells #[.pointer (some ⟨ab, ao, none⟩)] 56 (0, 0)) ∧ w'.heap[gb]? = some (.cells #[.pointer (some ⟨bb, bo, none⟩)] 56 (0, 0)) ∧
      w'.heap[gp]? = some (.cells #[.pointer (some ⟨ab, ao, none⟩), .pointer (some ⟨bb, bo, none⟩), .slice p n c] 67 (0, 0)) := by
  unfold pairV
  obtain ⟨W1, hW⟩ : ∃ W1, w.alloc (.cells #[.pointer (some ⟨ab, ao, none⟩), .pointer (some ⟨bb, bo, none⟩), .slice p n c] 67) = W1 := ⟨_, rfl⟩
  have n1 : Nb w W1 := by rw [← hW]; exact (Nb.refl w).alloc _
  have p0 : W1.heap[w.heap.size]? = some (.cells #[.pointer (some ⟨ab, ao, none⟩), .pointer (some ⟨bb, bo, none⟩), .slice p n c] 67 (0, 0)) := by rw [← hW]; exact new_blk w _ rfl
  go_enter Try.func39, Try.ntmps39
  go_upto_region 1 with (fail)
  clear hW
  have q0 : W1.cell? ⟨w.heap.size, 0, none⟩ = some (.pointer (some ⟨ab, ao, none⟩)) := cell_of_row _ _ 0 _ _ _ p0
  have q1 : W1.cell? ⟨w.heap.size, 1, none⟩ = some (.pointer (some ⟨bb, bo, none⟩)) := cell_of_row _ _ 1 _ _ _ p0
  have hlt := lt_blk p0
  go_region
  all_goals go_wp2
  all_goals go_ret
  all_goals first
    | exact ⟨_, _, _, rfl, ((n1.alloc _).alloc _).drew1, old_blk (new_blk W1 _ rfl) _, new_blk _ _ (by simp), old_blk (old_blk p0 _) _⟩
    | exact ⟨_, _, _, rfl, ((n1.alloc _).alloc _).drew1, new_blk _ _ (by simp), old_blk (new_blk W1 _ rfl) _, old_blk (old_blk p0 _) _⟩
/-- **holding**: its three arguments are boxed; the function value captures the boxes. -/
theorem holding_any (p : Option Addr) (n c : Nat) (i j : Int) (w : World) :
    Calls Try.prog 27 #[.slice p n c, .int .i64 i, .int .i64 j] w fun e w' => e = .returned (.func (.func 37) #[] #[.pointer (some ⟨w.heap.size + 1, 0, none⟩), .pointer (some ⟨w.heap.size + 2, 0, none⟩), .pointer (some ⟨w.heap.size, 0, none⟩)]) ∧
      w' = ((w.alloc (.cells #[.slice p n c] 22)).alloc (.cells #[.int .i64 i] 3)).alloc (.cells #[.int .i64 j] 3) := by
  go_enter Try.func27, Try.ntmps27
  go_wp2
  go_ret
  exact ⟨rfl, rfl⟩
end Go.Proofs.Yticifolljhplmaa
