/-
  Proved here: the bytes of an operation (bytesOf of the code). Conditions: the pointer points at an operation; its numbers are words.
-/
import Derived.Test.YticifolljhplmaaYb
namespace Go.Proofs.Yticifolljhplmaa
open Go.RowKit
set_option linter.unusedVariables false
set_option linter.unusedSimpArgs false
set_option maxRecDepth 100000
set_option maxHeartbeats 2000000
theorem bytesOf_any (b o : Nat) (d : OpD) (w : World) (h : OpAt w b o d) : Calls Try.prog 40 #[.pointer (some ⟨b, o, none⟩)] w fun e w' => e = .returned (.agg #[.int .u64 (spanS d).1, .int .u64 (spanS d).2]) ∧ Nb w w' := by
  obtain ⟨lt, c0, c1, c2, c3, c4, c5, -, -, -, -, -, -, -, -, -, -, -, -, -, -, -, ok⟩ := h
  obtain ⟨a0, a1, s0, s1, -⟩ := ok
  go_enter Try.func40, Try.ntmps40
  unfold spanS
  generalize d.load = x1 at *
  generalize d.store = x2 at *
  generalize d.addr = ad at *
  generalize d.size = sz at *
  have hg : ∀ (w' : World), Nb (w.alloc (.cells #[.int .u64 0, .int .u64 0] 70)) w' → w'.heap[w.heap.size]? = some (.cells #[.int .u64 0, .int .u64 0] 70 (0, 0)) ∧ w'.cell? ⟨w.heap.size, 0, none⟩ = some (.int .u64 0) ∧ w'.cell? ⟨w.heap.size, 1, none⟩ = some (.int .u64 0) ∧ w'.frozen? ⟨w.heap.size, 0, none⟩ = false ∧ w'.frozen? ⟨w.heap.size, 1, none⟩ = false ∧ Nb w w' := by
    intro w' k
    have hb := k.block (new_blk w (.cells #[.int .u64 0, .int .u64 0] 70) rfl)
    obtain ⟨e0, e1, e2, e3⟩ := cells2 hb
    exact ⟨hb, e0, e1, e2, e3, ((Nb.refl w).alloc _).trans k⟩
  by_cases hA : ((!x1 && !x2) || decide (sz < 1) || decide (16777216 < sz)) = true
  · rw [if_pos hA]
    cases x1 <;> cases x2 <;> simp at hA <;> go_wp2_with (go_at_call 58; refine (nowhere_any _).mono ?_; rintro e w1 ⟨rfl, k⟩; obtain ⟨qb, q0, q1, f0, f1, kk⟩ := hg _ k)
    all_goals first
      | (exfalso; omega)
      | exact bodyPost_ret (res_span rfl _ _ w.heap.size _ _ _ rfl (set2 qb _ _)) rfl ⟨rfl, (kk.setCell (Nat.le_refl _) _).setCell (Nat.le_refl _) _⟩
  · rw [if_neg hA]
    have hs : 1 ≤ sz ∧ sz ≤ 16777216 := by simp at hA; omega
    have hx : (!x1 && !x2) = false := by revert hA; cases x1 <;> cases x2 <;> simp
    have e1 : IntKind.i64.wrap (sz - 1) = sz - 1 := by rw [IntKind.wrap_i64]; omega
    have e2 : IntKind.u64.wrap (sz - 1) = sz - 1 := by rw [IntKind.wrap_u64]; omega
    have e3 : IntKind.u64.wrap (18446744073709551615 - (sz - 1)) = 18446744073709551615 - (sz - 1) := by rw [IntKind.wrap_u64]; omega
    have n1 : ¬ sz < 1 := by omega
    have n2 : ¬ 16777216 < sz := by omega
    by_cases hB : 18446744073709551615 - (sz - 1) < ad
    · rw [if_pos hB]
      cases x1 <;> cases x2 <;> simp at hx <;> go_wp2_with (go_at_call 58; refine (nowhere_any _).mono ?_; rintro e w1 ⟨rfl, k⟩; obtain ⟨qb, q0, q1, f0, f1, kk⟩ := hg _ k)
      all_goals first
        | exact bodyPost_ret (res_span rfl _ _ w.heap.size _ _ _ rfl (set2 qb _ _)) rfl ⟨rfl, (kk.setCell (Nat.le_refl _) _).setCell (Nat.le_refl _) _⟩
        | trace_state
    · rw [if_neg hB]
      have e4 : IntKind.u64.wrap (ad + (sz - 1)) = ad + (sz - 1) := by rw [IntKind.wrap_u64]; omega
      obtain ⟨qb, q0, q1, f0, f1, kk⟩ := hg _ (Nb.refl _)
      cases x1 <;> cases x2 <;> simp at hx <;> go_wp2
      all_goals go_region
      all_goals go_wp2
      all_goals exact bodyPost_ret (res_span rfl _ _ w.heap.size _ _ _ rfl (new_blk w _ rfl)) rfl ⟨rfl, ((Nb.refl w).alloc _).drewN 1⟩
end Go.Proofs.Yticifolljhplmaa
