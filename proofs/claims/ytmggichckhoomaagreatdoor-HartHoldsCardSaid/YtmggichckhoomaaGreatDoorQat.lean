/-
  Proved here: what the pair's words and the shifts' closures of the code answer. Conditions: the numbers are words; a closure's block holds its pair.
-/
import Derived.Test.YtmggichckhoomaaGreatDoorQas
import Derived.Deep.RegionHeld3
namespace Go.Proofs.YtmggichckhoomaaGreatDoor
open Go.RowKit
set_option linter.unusedVariables false
theorem cells3 {w : World} {n : Nat} {t : TypeId} {v0 v1 v2 : Value} (h : w.heap[n]? = some (.cells #[v0, v1, v2] t (0, 0))) :
    n < w.heap.size ∧ w.cell? ⟨n, 0, .none⟩ = some v0 ∧ w.cell? ⟨n, 1, .none⟩ = some v1 ∧ w.cell? ⟨n, 2, .none⟩ = some v2 :=
  ⟨lt_of_block h, cell_of_row _ _ 0 _ _ _ h, cell_of_row _ _ 1 _ _ _ h, cell_of_row _ _ 2 _ _ _ h⟩
theorem kp3 {w wc w' : World} {B : Nat} {v0 v1 v2 : Value} (hn : Nb wc w') (h : Nb w wc ∧ B < wc.heap.size ∧ wc.cell? ⟨B, 0, .none⟩ = some v0 ∧ wc.cell? ⟨B, 1, .none⟩ = some v1 ∧ wc.cell? ⟨B, 2, .none⟩ = some v2) :
    Nb w w' ∧ B < w'.heap.size ∧ w'.cell? ⟨B, 0, .none⟩ = some v0 ∧ w'.cell? ⟨B, 1, .none⟩ = some v1 ∧ w'.cell? ⟨B, 2, .none⟩ = some v2 :=
  ⟨h.1.trans hn, Nat.lt_of_lt_of_le h.2.1 hn.size, hn.cell h.2.2.1, hn.cell h.2.2.2.1, hn.cell h.2.2.2.2⟩
theorem sign_q (x n : Int) (h0 : 0 ≤ x) (h1 : x < 18446744073709551616) (w : World) :
    Calls Tryz.prog 93 #[.int .u64 x, .int .i64 n] w fun e w' => e = .returned (.int .u64 (Sgn x n)) ∧ w' = w := (sign_any x n h0 h1 w).mono fun _ _ ⟨h, k⟩ => ⟨h, k.symm⟩
set_option maxRecDepth 100000 in
theorem signed_any (a b n : Int) (h0 : 0 ≤ a) (h1 : a < 18446744073709551616) (g0 : 0 ≤ b) (g1 : b < 18446744073709551616) (w : World) :
    Calls Tryz.prog 129 #[pairV a b n] w fun e w' => e = .returned (pairV (Sgn a 32) (Sgn b 32) 32) ∧ Nb w w' := by
  unfold pairV
  go_enter Tryz.func129, Tryz.ntmps129
  go_wp2_with fail
  obtain ⟨W1, hW⟩ : ∃ W1, w.alloc (.cells #[.int .u64 a, .int .u64 b, .int .i64 n] 131) = W1 := ⟨_, rfl⟩
  have hb := blk_made w _ hW rfl
  have h2 : Nb w W1 := by rw [← hW]; exact (Nb.refl _).alloc _
  have hz : w.heap.size + 1 = W1.heap.size := by rw [← hW]; simp
  rw [hW, hz]
  clear hW
  obtain ⟨hL, c0, c1⟩ : w.heap.size < W1.heap.size ∧ W1.cell? ⟨w.heap.size, 0, .none⟩ = some (.int .u64 a) ∧ W1.cell? ⟨w.heap.size, 1, .none⟩ = some (.int .u64 b) := ⟨lt_of_block hb, cell_of_row _ _ 0 _ _ _ hb, cell_of_row _ _ 1 _ _ _ hb⟩
  clear hz hb
  refine wp_region_still_tail 7 (by kernel_rfl) (by kernel_rfl) ?_
  simp only [List.take_succ_cons, List.take_zero, List.drop_succ_cons, List.drop_zero]
  change wpStill _ _ (W1.alloc (.cells #[.int .u64 0, .int .u64 0, .int .i64 0] 131)).drew (fun a' => wpList _ _ _ _ a' (W1.alloc (.cells #[.int .u64 0, .int .u64 0, .int .i64 0] 131)).drew) _ _
  repeat (first | still_step | still_call (sign_q _ _ (by assumption) (by assumption) _))
  refine wpStill_nil ?_
  go_wp2
  exact bodyPost_ret (v := pairV (Sgn a 32) (Sgn b 32) 32) (by simp [results, Tryz.results129, go_sem, pairV]) rfl ⟨rfl, h2.trans (((Nb.refl _).alloc _).drew)⟩
theorem field_q0 (x low n : Int) (h0 : 0 ≤ x) (h1 : x < 18446744073709551616) (w : World) :
    Calls Tryz.prog 88 #[.int .u64 x, .int .i64 low, .int .i64 n] w fun e w' => e = .returned (.int .u64 (Fld x low n)) ∧ w' = w := (field_any x low n h0 h1 w).mono fun _ _ ⟨h, k⟩ => ⟨h, k.symm⟩
set_option maxRecDepth 100000 in
theorem words_any (a b n : Int) (h0 : 0 ≤ a) (h1 : a < 18446744073709551616) (g0 : 0 ≤ b) (g1 : b < 18446744073709551616) (w : World) :
    Calls Tryz.prog 132 #[pairV a b n] w fun e w' => e = .returned (pairV (Fld a 0 32) (Fld b 0 32) 32) ∧ Nb w w' := by
  unfold pairV
  go_enter Tryz.func132, Tryz.ntmps132
  go_wp2_with fail
  obtain ⟨W1, hW⟩ : ∃ W1, w.alloc (.cells #[.int .u64 a, .int .u64 b, .int .i64 n] 131) = W1 := ⟨_, rfl⟩
  have hb := blk_made w _ hW rfl
  have h2 : Nb w W1 := by rw [← hW]; exact (Nb.refl _).alloc _
  have hz : w.heap.size + 1 = W1.heap.size := by rw [← hW]; simp
  rw [hW, hz]
  clear hW
  obtain ⟨hL, c0, c1⟩ : w.heap.size < W1.heap.size ∧ W1.cell? ⟨w.heap.size, 0, .none⟩ = some (.int .u64 a) ∧ W1.cell? ⟨w.heap.size, 1, .none⟩ = some (.int .u64 b) := ⟨lt_of_block hb, cell_of_row _ _ 0 _ _ _ hb, cell_of_row _ _ 1 _ _ _ hb⟩
  clear hz hb
  refine wp_region_still_tail 7 (by kernel_rfl) (by kernel_rfl) ?_
  simp only [List.take_succ_cons, List.take_zero, List.drop_succ_cons, List.drop_zero]
  change wpStill _ _ (W1.alloc (.cells #[.int .u64 0, .int .u64 0, .int .i64 0] 131)).drew (fun a' => wpList _ _ _ _ a' (W1.alloc (.cells #[.int .u64 0, .int .u64 0, .int .i64 0] 131)).drew) _ _
  repeat (first | still_step | still_call (field_q0 _ _ _ (by assumption) (by assumption) _))
  refine wpStill_nil ?_
  go_wp2
  exact bodyPost_ret (v := pairV (Fld a 0 32) (Fld b 0 32) 32) (by simp [results, Tryz.results132, go_sem, pairV]) rfl ⟨rfl, h2.trans (((Nb.refl _).alloc _).drew)⟩
theorem far64 (a b : Int) (g0 : 0 ≤ b) (w : World) : Calls Tryz.prog 134 #[.agg #[.int .u64 a, .int .u64 b, .int .i64 64]] w fun e w' => e = .returned (.int .u64 (b % 64)) ∧ Nb w w' := by
  go_enter Tryz.func134, Tryz.ntmps134
  go_wp2
  go_ret
  exact ⟨rfl, (Nb.refl _).alloc _⟩
theorem far32 (a b : Int) (g0 : 0 ≤ b) (w : World) : Calls Tryz.prog 134 #[.agg #[.int .u64 a, .int .u64 b, .int .i64 32]] w fun e w' => e = .returned (.int .u64 (b % 32)) ∧ Nb w w' := by
  go_enter Tryz.func134, Tryz.ntmps134
  go_wp2
  go_ret
  exact ⟨rfl, (Nb.refl _).alloc _⟩
set_option maxRecDepth 100000 in
set_option maxHeartbeats 1000000 in
theorem shl64 (a b : Int) (B : Nat) (h0 : 0 ≤ a) (h1 : a < 18446744073709551616) (g0 : 0 ≤ b) (g1 : b < 18446744073709551616) (w : World) (hb : w.heap[B]? = some (.cells #[.int .u64 a, .int .u64 b, .int .i64 64] 131 (0, 0))) :
    Calls Tryz.prog 133 #[.pointer (some ⟨B, 0, none⟩)] w fun e w' => e = .returned (.int .u64 (IntKind.u64.wrap (a * 2 ^ (b % 64).toNat))) ∧ Nb w w' := by
  obtain ⟨n1, c0, c1, c2⟩ := cells3 hb
  clear hb
  have m0 : 0 ≤ b % 64 := by omega
  have m1 : b % 64 < 64 := by omega
  go_enter Tryz.func133, Tryz.ntmps133
  go_wp2_with fail
  go_region_held3 (fun w' => Nb w w' ∧ B < w'.heap.size ∧ w'.cell? ⟨B, 0, none⟩ = some (.int .u64 a) ∧ w'.cell? ⟨B, 1, none⟩ = some (.int .u64 b) ∧ w'.cell? ⟨B, 2, none⟩ = some (.int .i64 64))
    (first | assumption | (exact kp3 (by assumption) (by assumption)) | (exact ⟨(Nb.refl _).drewN 1, n1, c0, c1, c2⟩))
    ((go_at_call 134; refine (far64 a b g0 _).mono ?_; rintro e w1 ⟨rfl, hn1⟩))
  rename_i hH
  have hN := hH.1
  clear hH n1 c0 c1 c2
  go_wp2_with fail
  go_ret
  exact ⟨rfl, hN⟩
set_option maxRecDepth 100000 in
set_option maxHeartbeats 1000000 in
theorem shl32 (a b : Int) (B : Nat) (h0 : 0 ≤ a) (h1 : a < 18446744073709551616) (g0 : 0 ≤ b) (g1 : b < 18446744073709551616) (w : World) (hb : w.heap[B]? = some (.cells #[.int .u64 a, .int .u64 b, .int .i64 32] 131 (0, 0))) :
    Calls Tryz.prog 133 #[.pointer (some ⟨B, 0, none⟩)] w fun e w' => e = .returned (.int .u64 (IntKind.u64.wrap (a * 2 ^ (b % 32).toNat))) ∧ Nb w w' := by
  obtain ⟨n1, c0, c1, c2⟩ := cells3 hb
  clear hb
  have m0 : 0 ≤ b % 32 := by omega
  have m1 : b % 32 < 32 := by omega
  go_enter Tryz.func133, Tryz.ntmps133
  go_wp2_with fail
  go_region_held3 (fun w' => Nb w w' ∧ B < w'.heap.size ∧ w'.cell? ⟨B, 0, none⟩ = some (.int .u64 a) ∧ w'.cell? ⟨B, 1, none⟩ = some (.int .u64 b) ∧ w'.cell? ⟨B, 2, none⟩ = some (.int .i64 32))
    (first | assumption | (exact kp3 (by assumption) (by assumption)) | (exact ⟨(Nb.refl _).drewN 1, n1, c0, c1, c2⟩))
    ((go_at_call 134; refine (far32 a b g0 _).mono ?_; rintro e w1 ⟨rfl, hn1⟩))
  rename_i hH
  have hN := hH.1
  clear hH n1 c0 c1 c2
  go_wp2_with fail
  go_ret
  exact ⟨rfl, hN⟩
set_option maxRecDepth 100000 in
set_option maxHeartbeats 1000000 in
theorem shr64 (a b : Int) (B : Nat) (h0 : 0 ≤ a) (h1 : a < 18446744073709551616) (g0 : 0 ≤ b) (g1 : b < 18446744073709551616) (w : World) (hb : w.heap[B]? = some (.cells #[.int .u64 a, .int .u64 b, .int .i64 64] 131 (0, 0))) :
    Calls Tryz.prog 135 #[.pointer (some ⟨B, 0, none⟩)] w fun e w' => e = .returned (.int .u64 (a / 2 ^ (b % 64).toNat)) ∧ Nb w w' := by
  obtain ⟨n1, c0, c1, c2⟩ := cells3 hb
  clear hb
  have m0 : 0 ≤ b % 64 := by omega
  have m1 : b % 64 < 64 := by omega
  go_enter Tryz.func135, Tryz.ntmps135
  go_wp2_with fail
  go_region_held3 (fun w' => Nb w w' ∧ B < w'.heap.size ∧ w'.cell? ⟨B, 0, none⟩ = some (.int .u64 a) ∧ w'.cell? ⟨B, 1, none⟩ = some (.int .u64 b) ∧ w'.cell? ⟨B, 2, none⟩ = some (.int .i64 64))
    (first | assumption | (exact kp3 (by assumption) (by assumption)) | (exact ⟨(Nb.refl _).drewN 1, n1, c0, c1, c2⟩))
    ((go_at_call 134; refine (far64 a b g0 _).mono ?_; rintro e w1 ⟨rfl, hn1⟩))
  rename_i hH
  have hN := hH.1
  clear hH n1 c0 c1 c2
  go_wp2_with fail
  go_ret
  exact ⟨rfl, hN⟩
set_option maxRecDepth 100000 in
set_option maxHeartbeats 1000000 in
theorem shr32 (a b : Int) (B : Nat) (h0 : 0 ≤ a) (h1 : a < 18446744073709551616) (g0 : 0 ≤ b) (g1 : b < 18446744073709551616) (w : World) (hb : w.heap[B]? = some (.cells #[.int .u64 a, .int .u64 b, .int .i64 32] 131 (0, 0))) :
    Calls Tryz.prog 135 #[.pointer (some ⟨B, 0, none⟩)] w fun e w' => e = .returned (.int .u64 (a / 2 ^ (b % 32).toNat)) ∧ Nb w w' := by
  obtain ⟨n1, c0, c1, c2⟩ := cells3 hb
  clear hb
  have m0 : 0 ≤ b % 32 := by omega
  have m1 : b % 32 < 32 := by omega
  go_enter Tryz.func135, Tryz.ntmps135
  go_wp2_with fail
  go_region_held3 (fun w' => Nb w w' ∧ B < w'.heap.size ∧ w'.cell? ⟨B, 0, none⟩ = some (.int .u64 a) ∧ w'.cell? ⟨B, 1, none⟩ = some (.int .u64 b) ∧ w'.cell? ⟨B, 2, none⟩ = some (.int .i64 32))
    (first | assumption | (exact kp3 (by assumption) (by assumption)) | (exact ⟨(Nb.refl _).drewN 1, n1, c0, c1, c2⟩))
    ((go_at_call 134; refine (far32 a b g0 _).mono ?_; rintro e w1 ⟨rfl, hn1⟩))
  rename_i hH
  have hN := hH.1
  clear hH n1 c0 c1 c2
  go_wp2_with fail
  go_ret
  exact ⟨rfl, hN⟩
set_option maxRecDepth 100000 in
set_option maxHeartbeats 1000000 in
theorem sar64 (a b : Int) (B : Nat) (h0 : 0 ≤ a) (h1 : a < 18446744073709551616) (g0 : 0 ≤ b) (g1 : b < 18446744073709551616) (w : World) (hb : w.heap[B]? = some (.cells #[.int .u64 a, .int .u64 b, .int .i64 64] 131 (0, 0))) :
    Calls Tryz.prog 136 #[.pointer (some ⟨B, 0, none⟩)] w fun e w' => e = .returned (.int .u64 (IntKind.u64.wrap (IntKind.i64.wrap a / 2 ^ (b % 64).toNat))) ∧ Nb w w' := by
  obtain ⟨n1, c0, c1, c2⟩ := cells3 hb
  clear hb
  have m0 : 0 ≤ b % 64 := by omega
  have m1 : b % 64 < 64 := by omega
  go_enter Tryz.func136, Tryz.ntmps136
  go_wp2_with fail
  go_region_held3 (fun w' => Nb w w' ∧ B < w'.heap.size ∧ w'.cell? ⟨B, 0, none⟩ = some (.int .u64 a) ∧ w'.cell? ⟨B, 1, none⟩ = some (.int .u64 b) ∧ w'.cell? ⟨B, 2, none⟩ = some (.int .i64 64))
    (first | assumption | (exact kp3 (by assumption) (by assumption)) | (exact ⟨(Nb.refl _).drewN 1, n1, c0, c1, c2⟩))
    ((go_at_call 134; refine (far64 a b g0 _).mono ?_; rintro e w1 ⟨rfl, hn1⟩))
  rename_i hH
  have hN := hH.1
  clear hH n1 c0 c1 c2
  go_wp2_with fail
  go_ret
  exact ⟨rfl, hN⟩
set_option maxRecDepth 100000 in
set_option maxHeartbeats 1000000 in
theorem sar32 (a b : Int) (B : Nat) (h0 : 0 ≤ a) (h1 : a < 18446744073709551616) (g0 : 0 ≤ b) (g1 : b < 18446744073709551616) (w : World) (hb : w.heap[B]? = some (.cells #[.int .u64 a, .int .u64 b, .int .i64 32] 131 (0, 0))) :
    Calls Tryz.prog 136 #[.pointer (some ⟨B, 0, none⟩)] w fun e w' => e = .returned (.int .u64 (IntKind.u64.wrap (IntKind.i64.wrap a / 2 ^ (b % 32).toNat))) ∧ Nb w w' := by
  obtain ⟨n1, c0, c1, c2⟩ := cells3 hb
  clear hb
  have m0 : 0 ≤ b % 32 := by omega
  have m1 : b % 32 < 32 := by omega
  go_enter Tryz.func136, Tryz.ntmps136
  go_wp2_with fail
  go_region_held3 (fun w' => Nb w w' ∧ B < w'.heap.size ∧ w'.cell? ⟨B, 0, none⟩ = some (.int .u64 a) ∧ w'.cell? ⟨B, 1, none⟩ = some (.int .u64 b) ∧ w'.cell? ⟨B, 2, none⟩ = some (.int .i64 32))
    (first | assumption | (exact kp3 (by assumption) (by assumption)) | (exact ⟨(Nb.refl _).drewN 1, n1, c0, c1, c2⟩))
    ((go_at_call 134; refine (far32 a b g0 _).mono ?_; rintro e w1 ⟨rfl, hn1⟩))
  rename_i hH
  have hN := hH.1
  clear hH n1 c0 c1 c2
  go_wp2_with fail
  go_ret
  exact ⟨rfl, hN⟩
end Go.Proofs.YtmggichckhoomaaGreatDoor
