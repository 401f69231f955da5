/-
  Proved here: the bytes that an operation returns (returnedBy of the code). Conditions: the pointer points at an operation; its numbers are words.
-/
import Derived.Test.YticifolljhplmaaYc
namespace Go.Proofs.Yticifolljhplmaa
open Go.RowKit
set_option linter.unusedVariables false
set_option linter.unusedSimpArgs false
set_option maxRecDepth 100000
set_option maxHeartbeats 4000000
theorem span_out (d : OpD) : emptyS (spanS d) = false → 1 ≤ d.size ∧ d.size ≤ 16777216 ∧ (spanS d).1 = d.addr ∧ d.addr + (d.size - 1) ≤ 18446744073709551615 ∧ (d.load || d.store) = true ∧ (spanS d).2 = d.addr + (d.size - 1) := by
  intro h
  unfold emptyS spanS at *
  split at h <;> rename_i h1
  · simp at h
  · rw [if_neg h1]
    split at h <;> rename_i h2
    · simp at h
    · rw [if_neg h2]
      simp at h1 ⊢
      refine ⟨by omega, by omega, by omega, ?_⟩
      have := h1.1.1
      revert this
      cases d.load <;> cases d.store <;> simp
theorem IntsR.cases {w : World} {v : Value} {xs : List Int} (h : IntsR w v xs) : ∃ (p : Option Addr) (c : Nat), v = .slice p xs.length c := by
  rcases h with ⟨⟨p, c, rfl⟩, rfl⟩ | ⟨b, o, c, rfl, -⟩
  · exact ⟨p, c, rfl⟩
  · exact ⟨_, _, rfl⟩
theorem returnedBy_any (b o : Nat) (d : OpD) (w : World) (h : OpAt w b o d) : Calls Try.prog 59 #[.pointer (some ⟨b, o, none⟩)] w fun e w' => e = .returned (.agg #[.int .u64 (retS d).1, .int .u64 (retS d).2]) ∧ Nb w w' := by
  have hB := fun w1 (k : Nb w w1) => bytesOf_any b o d w1 (h.nb k)
  have hC : ∀ w1, Nb w w1 → w1.cell? ⟨b, o + 1, none⟩ = some (.bool d.load) ∧ w1.cell? ⟨b, o + 5, none⟩ = some (.int .i64 d.size) ∧ w1.cell? ⟨b, o + 12, none⟩ = some d.fv := fun w1 k => ⟨k.cell h.c1, k.cell h.c5, k.cell h.c12⟩
  have ok := h.ok
  obtain ⟨p, c, hf⟩ := h.rf.cases
  have hsp := span_in ok
  have hso := span_out d
  rw [hf] at hC
  clear hf h
  obtain ⟨R, hR⟩ : ∃ R, retS d = R := ⟨_, rfl⟩
  rw [hR]
  unfold retS at hR
  obtain ⟨a0, a1, s0, s1, fl, -⟩ := ok
  generalize d.load = x1 at *
  generalize d.size = sz at *
  generalize d.from_.length = n at *
  generalize spanS d = sp at *
  obtain ⟨u1, u2⟩ := sp
  dsimp only at hR hB hso hsp
  go_enter Try.func59, Try.ntmps59
  go_upto_region 1 with (fail)
  have n0 : Nb w (w.alloc (.cells #[.int .u64 0, .int .u64 0] 70)) := (Nb.refl w).alloc _
  have b0 := new_blk w (.cells #[.int .u64 0, .int .u64 0] 70) rfl
  go_upto_region 2 with (go_at_call 40; refine (hB _ n0).mono ?_; rintro e w1 ⟨rfl, k1⟩)
  obtain ⟨W2, hW⟩ : ∃ W2, w1.alloc (.cells #[.int .u64 u1, .int .u64 u2] 70) = W2 := ⟨_, rfl⟩
  have b2 : W2.heap[w1.heap.size]? = some (.cells #[.int .u64 u1, .int .u64 u2] 70 (0, 0)) := by rw [← hW]; exact new_blk _ _ rfl
  have n2 : Nb w W2 := by rw [← hW]; exact (n0.trans k1).alloc _
  have b02 : W2.heap[w.heap.size]? = some (.cells #[.int .u64 0, .int .u64 0] 70 (0, 0)) := by rw [← hW]; exact old_blk (k1.block b0) _
  have hz : w.heap.size < w1.heap.size := lt_blk (k1.block b0)
  rw [hW]
  clear hW hB k1 n0 b0
  obtain ⟨c1, c5, c12⟩ := hC W2 n2
  obtain ⟨q0, q1, f0, f1⟩ := cells2 b2
  have hF : ∀ w3, Nb W2 w3 → w3.heap[w.heap.size]? = some (.cells #[.int .u64 0, .int .u64 0] 70 (0, 0)) ∧ w3.heap[w1.heap.size]? = some (.cells #[.int .u64 u1, .int .u64 u2] 70 (0, 0)) ∧ Nb w w3 := fun w3 k => ⟨k.block b02, k.block b2, n2.trans k⟩
  cases x1 with
  | false =>
    simp only [Bool.not_false, Bool.true_or, if_true] at hR
    subst hR
    go_wp2_with (go_at_call 58; refine (nowhere_any _).mono ?_; rintro e w3 ⟨rfl, k3⟩; obtain ⟨r0, r1, n3⟩ := hF _ k3; obtain ⟨s0, s1, g0, g1⟩ := cells2 r0)
    exact bodyPost_ret (res_span rfl _ _ w.heap.size _ _ _ rfl (set2 r0 _ _)) rfl ⟨rfl, (n3.setCell (Nat.le_refl _) _).setCell (Nat.le_refl _) _⟩
  | true =>
    cases hE : emptyS (u1, u2) with
    | true =>
      simp only [hE, Bool.not_true, Bool.false_or, Bool.true_or, if_true] at hR
      subst hR
      go_wp2_with (first
        | (go_at_call 41; refine (empty_any _ _ _).mono ?_; rintro e w3 ⟨rfl, k3⟩; rw [hE]; obtain ⟨r0, r1, n3⟩ := hF _ k3)
        | (go_at_call 58; refine (nowhere_any _).mono ?_; rintro e w4 ⟨rfl, k4⟩; obtain ⟨t0, t1, n4⟩ := hF _ (k3.trans k4); obtain ⟨s0, s1, g0, g1⟩ := cells2 t0))
      exact bodyPost_ret (res_span rfl _ _ w.heap.size _ _ _ rfl (set2 t0 _ _)) rfl ⟨rfl, (n4.setCell (Nat.le_refl _) _).setCell (Nat.le_refl _) _⟩
    | false =>
      obtain ⟨z1, z2, z3, z4, -⟩ := hso hE
      have zz : u1 + (sz - 1) ≤ 18446744073709551615 := by omega
      clear z3 z4
      have u10 : 0 ≤ u1 := hsp.1
      by_cases hn : n = 0
      · subst hn
        simp only [hE, Bool.not_true, Bool.false_or, decide_true, if_true] at hR
        subst hR
        go_wp2_with (first
          | (go_at_call 41; refine (empty_any _ _ _).mono ?_; rintro e w3 ⟨rfl, k3⟩; rw [hE]; obtain ⟨r0, r1, n3⟩ := hF _ k3; obtain ⟨d1, d5, d12⟩ := hC _ n3)
          | (go_at_call 58; refine (nowhere_any _).mono ?_; rintro e w4 ⟨rfl, k4⟩; obtain ⟨t0, t1, n4⟩ := hF _ (k3.trans k4); obtain ⟨s0, s1, g0, g1⟩ := cells2 t0))
        exact bodyPost_ret (res_span rfl _ _ w.heap.size _ _ _ rfl (set2 t0 _ _)) rfl ⟨rfl, (n4.setCell (Nat.le_refl _) _).setCell (Nat.le_refl _) _⟩
      · have hn1 : ((n : Int) == 0) = false := by simp; omega
        simp only [hE, hn, Bool.not_true, Bool.false_or, decide_false, Bool.false_eq_true, if_false] at hR
        obtain ⟨m, hm⟩ : ∃ m : Int, min sz (n : Int) = m := ⟨_, rfl⟩
        rw [hm] at hR
        subst hR
        have hm' := Lib.hid hm
        clear hm
        go_upto_region 4 with (first
          | (go_at_call 41; refine (empty_any _ _ _).mono ?_; rintro e w3 ⟨rfl, k3⟩; rw [hE]; obtain ⟨r0, r1, n3⟩ := hF _ k3; obtain ⟨d1, d5, d12⟩ := hC _ n3; obtain ⟨s0, s1, g0, g1⟩ := cells2 r1))
        have r02 : w.heap.size ≠ w1.heap.size := by omega
        have hm := hm'.out
        have m0 : 1 ≤ m ∧ m ≤ sz := by omega
        have e1 : IntKind.i64.wrap (m - 1) = m - 1 := by rw [IntKind.wrap_i64]; omega
        have e2 : IntKind.u64.wrap (m - 1) = m - 1 := by rw [IntKind.wrap_u64]; omega
        have e3 : IntKind.u64.wrap (u1 + (m - 1)) = u1 + (m - 1) := by rw [IntKind.wrap_u64]; omega
        have hend : ∀ W5, W5 = (w3.setCell ⟨w1.heap.size, 1, none⟩ (.int .u64 (u1 + (m - 1)))).drew → W5.heap[w1.heap.size]? = some (.cells #[.int .u64 u1, .int .u64 (u1 + (m - 1))] 70 (0, 0)) ∧ W5.heap[w.heap.size]? = some (.cells #[.int .u64 0, .int .u64 0] 70 (0, 0)) ∧ Nb w W5 := by
          intro W5 e
          subst e
          have h1 := set_blk r1 1 (.int .u64 (u1 + (m - 1)))
          refine ⟨by show (w3.setCell ⟨w1.heap.size, 1, none⟩ (.int .u64 (u1 + (m - 1)))).heap[w1.heap.size]? = _; rw [h1]; rfl, (Below.heap_setCell _ _ _ _ r02).trans r0, (n3.setCell (by show w.heap.size ≤ w1.heap.size; omega) _).drewN 1⟩
        by_cases hlt : sz ≤ (n : Int)
        · obtain rfl : m = sz := by omega
          clear hm
          go_region
          obtain ⟨W5, e5⟩ : ∃ W5, W5 = (w3.setCell ⟨w1.heap.size, 1, none⟩ (.int .u64 (u1 + (m - 1)))).drew := ⟨_, rfl⟩
          rw [← e5]
          obtain ⟨t1, t0, n5⟩ := hend _ e5
          clear e5 hend
          obtain ⟨x0, x1, y0, y1⟩ := cells2 t1
          obtain ⟨v0, v1, i0, i1⟩ := cells2 t0
          go_wp2
          exact bodyPost_ret (res_span rfl _ _ w.heap.size _ _ _ rfl (set2 t0 _ _)) rfl ⟨rfl, (n5.setCell (Nat.le_refl _) _).setCell (Nat.le_refl _) _⟩
        · obtain rfl : m = (n : Int) := by omega
          clear hm
          go_region
          obtain ⟨W5, e5⟩ : ∃ W5, W5 = (w3.setCell ⟨w1.heap.size, 1, none⟩ (.int .u64 (u1 + ((n : Int) - 1)))).drew := ⟨_, rfl⟩
          rw [← e5]
          obtain ⟨t1, t0, n5⟩ := hend _ e5
          clear e5 hend
          obtain ⟨x0, x1, y0, y1⟩ := cells2 t1
          obtain ⟨v0, v1, i0, i1⟩ := cells2 t0
          go_wp2
          exact bodyPost_ret (res_span rfl _ _ w.heap.size _ _ _ rfl (set2 t0 _ _)) rfl ⟨rfl, (n5.setCell (Nat.le_refl _) _).setCell (Nat.le_refl _) _⟩
end Go.Proofs.Yticifolljhplmaa
