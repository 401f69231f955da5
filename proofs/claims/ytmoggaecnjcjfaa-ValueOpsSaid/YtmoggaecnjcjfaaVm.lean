/-
  Proved here: what a sign makes of two values, the code's and the reference's. Conditions: none.
-/
import Derived.Test.YtmoggaecnjcjfaaVg
import Derived.Test.YtmoggaecnjcjfaaVe
namespace Go.Proofs.Ytmoggaecnjcjfaa
open Go.RowKit Go.ChangeMaps
set_option linter.unusedVariables false
set_option linter.unusedSimpArgs false
set_option maxRecDepth 100000
set_option maxHeartbeats 4000000
def opS (s : ByteArray) (ka na kb nb : Int) : Int :=
  if s.toList = [43] then Wr (wrap64 (cnt ka na + cnt kb nb)) else if s.toList = [45] then Wr (wrap64 (cnt ka na - cnt kb nb)) else if s.toList = [42] then Wr (wrap64 (cnt ka na * cnt kb nb))
  else if s.toList = [60] then (if cnt ka na < cnt kb nb then 1 else 0) else if s.toList = [61, 61] then (if (ka = kb ∧ ka ≠ 4) ∧ na = nb then 1 else 0) else 0
theorem set3_all {w : World} {S : Nat} {a b c x y z : Value} {t : TypeId} (h : w.heap[S]? = some (.cells #[a, b, c] t (0, 0))) : (((w.setCell ⟨S, 0, none⟩ x).setCell ⟨S, 1, none⟩ y).setCell ⟨S, 2, none⟩ z).heap[S]? = some (.cells #[x, y, z] t (0, 0)) := by
  have h2 := heap_setCell_same w S 0 _ _ x h
  have h3 := heap_setCell_same _ S 1 _ _ y h2
  have h4 := heap_setCell_same _ S 2 _ _ z h3
  simpa using h4
theorem keep6 {W1 w' w'' : World} {B D : Nat} {a0 a1 a2 b0 b1 b2 : Value} (h : Nb W1 w' ∧ B < w'.heap.size ∧ D < w'.heap.size ∧ w'.cell? ⟨B, 0, none⟩ = some a0 ∧ w'.cell? ⟨B, 1, none⟩ = some a1 ∧ w'.cell? ⟨B, 2, none⟩ = some a2 ∧ w'.cell? ⟨D, 0, none⟩ = some b0 ∧ w'.cell? ⟨D, 1, none⟩ = some b1 ∧ w'.cell? ⟨D, 2, none⟩ = some b2) (k : Nb w' w'') :
    Nb W1 w'' ∧ B < w''.heap.size ∧ D < w''.heap.size ∧ w''.cell? ⟨B, 0, none⟩ = some a0 ∧ w''.cell? ⟨B, 1, none⟩ = some a1 ∧ w''.cell? ⟨B, 2, none⟩ = some a2 ∧ w''.cell? ⟨D, 0, none⟩ = some b0 ∧ w''.cell? ⟨D, 1, none⟩ = some b1 ∧ w''.cell? ⟨D, 2, none⟩ = some b2 :=
  ⟨h.1.trans k, Nat.lt_of_lt_of_le h.2.1 k.size, Nat.lt_of_lt_of_le h.2.2.1 k.size, k.cell h.2.2.2.1, k.cell h.2.2.2.2.1, k.cell h.2.2.2.2.2.1, k.cell h.2.2.2.2.2.2.1, k.cell h.2.2.2.2.2.2.2.1, k.cell h.2.2.2.2.2.2.2.2⟩
theorem op_any (s : ByteArray) (ka na kb nb : Int) (A A2 : Option Addr) (L c L2 c2 : Nat) (w : World) :
    Calls Try.prog 11 #[.string s, .agg #[.int .i64 ka, .int .i64 na, .slice A L c], .agg #[.int .i64 kb, .int .i64 nb, .slice A2 L2 c2]] w fun r w' => r = .returned (.agg #[.int .i64 1, .int .i64 (opS s ka na kb nb), .slice none 0 0]) ∧ Nb w w' := by
  obtain ⟨T, hT⟩ : ∃ T, opS s ka na kb nb = T := ⟨_, rfl⟩
  rw [hT]
  unfold opS at hT
  obtain ⟨x, hx⟩ : ∃ x, cnt ka na = x := ⟨_, rfl⟩
  obtain ⟨y, hy⟩ : ∃ y, cnt kb nb = y := ⟨_, rfl⟩
  rw [hx, hy] at hT
  have hca := fun W => counts_any ka na A L c W
  have hcb := fun W => counts_any kb nb A2 L2 c2 W
  rw [hx] at hca
  rw [hy] at hcb
  replace hca := Lib.hid hca
  replace hcb := Lib.hid hcb
  replace hT := Lib.hid hT
  clear hx hy
  go_enter Try.func11, Try.ntmps11
  go_wp2_with fail
  obtain ⟨W1, hW⟩ : ∃ W1, ((w.alloc (Obj.cells #[.int .i64 ka, .int .i64 na, .slice A L c] 24)).alloc (Obj.cells #[.int .i64 kb, .int .i64 nb, .slice A2 L2 c2] 24)).alloc (Obj.cells #[.int .i64 0, .int .i64 0, .slice none 0 0] 24) = W1 := ⟨_, rfl⟩
  have n1 : Nb w W1 := by rw [← hW]; exact (((Nb.refl w).alloc _).alloc _).alloc _
  have bA : W1.heap[w.heap.size]? = some (.cells #[.int .i64 ka, .int .i64 na, .slice A L c] 24 (0, 0)) := by rw [← hW]; exact old_blk (old_blk (new_blk _ _ rfl) _) _
  have bB : W1.heap[w.heap.size + 1]? = some (.cells #[.int .i64 kb, .int .i64 nb, .slice A2 L2 c2] 24 (0, 0)) := by rw [← hW]; exact old_blk (new_blk _ _ (by simp)) _
  have bR : W1.heap[w.heap.size + 1 + 1]? = some (.cells #[.int .i64 0, .int .i64 0, .slice none 0 0] 24 (0, 0)) := by rw [← hW]; exact new_blk _ _ (by simp)
  rw [hW]
  clear hW
  obtain ⟨R, hR⟩ : ∃ R, w.heap.size + 1 + 1 = R := ⟨_, rfl⟩
  obtain ⟨D, hD⟩ : ∃ D, w.heap.size + 1 = D := ⟨_, rfl⟩
  obtain ⟨B, hB⟩ : ∃ B, w.heap.size = B := ⟨_, rfl⟩
  have hRw : w.heap.size ≤ R := by omega
  rw [hR] at bR ⊢
  rw [hD] at bB ⊢
  rw [hB] at bA ⊢
  clear hR hD hB
  have zA := lt_blk bA
  have zB := lt_blk bB
  have a0 := cell_of_row _ _ 0 _ _ _ bA
  have a1 := cell_of_row _ _ 1 _ _ _ bA
  have a2 := cell_of_row _ _ 2 _ _ _ bA
  have b0 := cell_of_row _ _ 0 _ _ _ bB
  have b1 := cell_of_row _ _ 1 _ _ _ bB
  have b2 := cell_of_row _ _ 2 _ _ _ bB
  clear bA bB
  go_region_held3 (fun w' => Nb W1 w' ∧ B < w'.heap.size ∧ D < w'.heap.size ∧ w'.cell? ⟨B, 0, none⟩ = some (.int .i64 ka) ∧ w'.cell? ⟨B, 1, none⟩ = some (.int .i64 na) ∧ w'.cell? ⟨B, 2, none⟩ = some (.slice A L c) ∧ w'.cell? ⟨D, 0, none⟩ = some (.int .i64 kb) ∧ w'.cell? ⟨D, 1, none⟩ = some (.int .i64 nb) ∧ w'.cell? ⟨D, 2, none⟩ = some (.slice A2 L2 c2))
    (first | assumption | (exact keep6 (by assumption) (by assumption)) | (exact ⟨(Nb.refl _).drewN 1, zA, zB, a0, a1, a2, b0, b1, b2⟩))
    (first
      | (go_at_call 26; refine (hca.out _).mono ?_; rintro r w1 ⟨rfl, k1⟩)
      | (go_at_call 26; refine (hcb.out _).mono ?_; rintro r w1 ⟨rfl, k1⟩))
  rename_i hH
  obtain ⟨nn, -, -, a0, a1, a2, b0, b1, b2⟩ := hH
  replace bR := nn.block bR
  replace nn := n1.trans nn
  clear n1 zA zB k1 hca hcb
  have r0 := cell_of_row _ _ 0 _ _ _ bR
  have r1 := cell_of_row _ _ 1 _ _ _ bR
  have r2 := cell_of_row _ _ 2 _ _ _ bR
  have f0 := frozen_blk bR 0
  have f1 := frozen_blk bR 1
  have f2 := frozen_blk bR 2
  by_cases s0 : s.toList = [43]
  · have hTv : Wr (wrap64 (x + y)) = T := by have := hT.out; rw [if_pos s0] at this; exact this
    replace hTv := Lib.hid hTv
    clear hT
    go_wp2_with (go_at_call 23; refine (wrap_any _ _).mono ?_; rintro r w2 ⟨rfl, rfl⟩)
    refine bodyPost_ret (v := .agg #[.int .i64 1, .int .i64 _, .slice none 0 0]) (results_cell_row rfl _ _ R 24 _ (0, 0) _ rfl (set3_all bR) Try.underlying24 rfl (by kernel_rfl)) rfl ⟨?_, ((nn.setCell (p := ⟨R, 0, none⟩) hRw _).setCell (p := ⟨R, 1, none⟩) hRw _).setCell (p := ⟨R, 2, none⟩) hRw _⟩
    rw [← hTv.out]
  by_cases s1 : s.toList = [45]
  · have hTv : Wr (wrap64 (x - y)) = T := by have := hT.out; rw [if_neg s0, if_pos s1] at this; exact this
    replace hTv := Lib.hid hTv
    replace s0 : (s.toList == [43]) = false := by simpa using s0
    clear hT
    go_wp2_with (go_at_call 23; refine (wrap_any _ _).mono ?_; rintro r w2 ⟨rfl, rfl⟩)
    refine bodyPost_ret (v := .agg #[.int .i64 1, .int .i64 _, .slice none 0 0]) (results_cell_row rfl _ _ R 24 _ (0, 0) _ rfl (set3_all bR) Try.underlying24 rfl (by kernel_rfl)) rfl ⟨?_, ((nn.setCell (p := ⟨R, 0, none⟩) hRw _).setCell (p := ⟨R, 1, none⟩) hRw _).setCell (p := ⟨R, 2, none⟩) hRw _⟩
    rw [← hTv.out]
  by_cases s2 : s.toList = [42]
  · have hTv : Wr (wrap64 (x * y)) = T := by have := hT.out; rw [if_neg s0, if_neg s1, if_pos s2] at this; exact this
    replace hTv := Lib.hid hTv
    replace s0 : (s.toList == [43]) = false := by simpa using s0
    replace s1 : (s.toList == [45]) = false := by simpa using s1
    clear hT
    go_wp2_with (go_at_call 23; refine (wrap_any _ _).mono ?_; rintro r w2 ⟨rfl, rfl⟩)
    refine bodyPost_ret (v := .agg #[.int .i64 1, .int .i64 _, .slice none 0 0]) (results_cell_row rfl _ _ R 24 _ (0, 0) _ rfl (set3_all bR) Try.underlying24 rfl (by kernel_rfl)) rfl ⟨?_, ((nn.setCell (p := ⟨R, 0, none⟩) hRw _).setCell (p := ⟨R, 1, none⟩) hRw _).setCell (p := ⟨R, 2, none⟩) hRw _⟩
    rw [← hTv.out]
  by_cases s3 : s.toList = [60]
  · have hTv : (if x < y then (1 : Int) else 0) = T := by have := hT.out; rw [if_neg s0, if_neg s1, if_neg s2, if_pos s3] at this; exact this
    replace s0 : (s.toList == [43]) = false := by simpa using s0
    replace s1 : (s.toList == [45]) = false := by simpa using s1
    replace s2 : (s.toList == [42]) = false := by simpa using s2
    clear hT
    by_cases hlt : x < y
    · rw [if_pos hlt] at hTv
      replace hTv := Lib.hid hTv
      go_wp2_with (go_at_call 27; refine (told_any _ _).mono ?_; rintro r w2 ⟨rfl, rfl⟩)
      refine bodyPost_ret (v := .agg #[.int .i64 1, .int .i64 _, .slice none 0 0]) (results_cell_row rfl _ _ R 24 _ (0, 0) _ rfl (set3_all bR) Try.underlying24 rfl (by kernel_rfl)) rfl ⟨?_, ((nn.setCell (p := ⟨R, 0, none⟩) hRw _).setCell (p := ⟨R, 1, none⟩) hRw _).setCell (p := ⟨R, 2, none⟩) hRw _⟩
      rw [← hTv.out]
    · rw [if_neg hlt] at hTv
      replace hTv := Lib.hid hTv
      go_wp2_with (go_at_call 27; refine (told_any _ _).mono ?_; rintro r w2 ⟨rfl, rfl⟩)
      refine bodyPost_ret (v := .agg #[.int .i64 1, .int .i64 _, .slice none 0 0]) (results_cell_row rfl _ _ R 24 _ (0, 0) _ rfl (set3_all bR) Try.underlying24 rfl (by kernel_rfl)) rfl ⟨?_, ((nn.setCell (p := ⟨R, 0, none⟩) hRw _).setCell (p := ⟨R, 1, none⟩) hRw _).setCell (p := ⟨R, 2, none⟩) hRw _⟩
      rw [← hTv.out]
  by_cases s4 : s.toList = [61, 61]
  · have hTv : (if (ka = kb ∧ ka ≠ 4) ∧ na = nb then (1 : Int) else 0) = T := by have := hT.out; rw [if_neg s0, if_neg s1, if_neg s2, if_neg s3, if_pos s4] at this; exact this
    replace s0 : (s.toList == [43]) = false := by simpa using s0
    replace s1 : (s.toList == [45]) = false := by simpa using s1
    replace s2 : (s.toList == [42]) = false := by simpa using s2
    replace s3 : (s.toList == [60]) = false := by simpa using s3
    clear hT
    by_cases e1 : ka = kb
    · by_cases e2 : ka = 4
      · rw [if_neg (fun h => h.1.2 e2)] at hTv
        subst e1
        subst e2
        replace hTv := Lib.hid hTv
        go_wp2_with (go_at_call 27; refine (told_any _ _).mono ?_; rintro r w2 ⟨rfl, rfl⟩)
        refine bodyPost_ret (v := .agg #[.int .i64 1, .int .i64 _, .slice none 0 0]) (results_cell_row rfl _ _ R 24 _ (0, 0) _ rfl (set3_all bR) Try.underlying24 rfl (by kernel_rfl)) rfl ⟨?_, ((nn.setCell (p := ⟨R, 0, none⟩) hRw _).setCell (p := ⟨R, 1, none⟩) hRw _).setCell (p := ⟨R, 2, none⟩) hRw _⟩
        rw [← hTv.out]
      · by_cases e3 : na = nb
        · rw [if_pos ⟨⟨e1, e2⟩, e3⟩] at hTv
          subst e1
          subst e3
          replace hTv := Lib.hid hTv
          go_wp2_with (go_at_call 27; refine (told_any _ _).mono ?_; rintro r w2 ⟨rfl, rfl⟩)
          refine bodyPost_ret (v := .agg #[.int .i64 1, .int .i64 _, .slice none 0 0]) (results_cell_row rfl _ _ R 24 _ (0, 0) _ rfl (set3_all bR) Try.underlying24 rfl (by kernel_rfl)) rfl ⟨?_, ((nn.setCell (p := ⟨R, 0, none⟩) hRw _).setCell (p := ⟨R, 1, none⟩) hRw _).setCell (p := ⟨R, 2, none⟩) hRw _⟩
          rw [← hTv.out]
        · rw [if_neg (fun h => e3 h.2)] at hTv
          subst e1
          replace hTv := Lib.hid hTv
          go_wp2_with (go_at_call 27; refine (told_any _ _).mono ?_; rintro r w2 ⟨rfl, rfl⟩)
          refine bodyPost_ret (v := .agg #[.int .i64 1, .int .i64 _, .slice none 0 0]) (results_cell_row rfl _ _ R 24 _ (0, 0) _ rfl (set3_all bR) Try.underlying24 rfl (by kernel_rfl)) rfl ⟨?_, ((nn.setCell (p := ⟨R, 0, none⟩) hRw _).setCell (p := ⟨R, 1, none⟩) hRw _).setCell (p := ⟨R, 2, none⟩) hRw _⟩
          rw [← hTv.out]
    · rw [if_neg (fun h => e1 h.1.1)] at hTv
      replace hTv := Lib.hid hTv
      go_wp2_with (go_at_call 27; refine (told_any _ _).mono ?_; rintro r w2 ⟨rfl, rfl⟩)
      refine bodyPost_ret (v := .agg #[.int .i64 1, .int .i64 _, .slice none 0 0]) (results_cell_row rfl _ _ R 24 _ (0, 0) _ rfl (set3_all bR) Try.underlying24 rfl (by kernel_rfl)) rfl ⟨?_, ((nn.setCell (p := ⟨R, 0, none⟩) hRw _).setCell (p := ⟨R, 1, none⟩) hRw _).setCell (p := ⟨R, 2, none⟩) hRw _⟩
      rw [← hTv.out]
  have hTv : 0 = T := by have := hT.out; rw [if_neg s0, if_neg s1, if_neg s2, if_neg s3, if_neg s4] at this; exact this
  replace s0 : (s.toList == [43]) = false := by simpa using s0
  replace s1 : (s.toList == [45]) = false := by simpa using s1
  replace s2 : (s.toList == [42]) = false := by simpa using s2
  replace s3 : (s.toList == [60]) = false := by simpa using s3
  replace s4 : (s.toList == [61, 61]) = false := by simpa using s4
  clear hT
  replace hTv := Lib.hid hTv
  go_wp2_with fail
  refine bodyPost_ret (v := .agg #[.int .i64 1, .int .i64 _, .slice none 0 0]) (results_cell_row rfl _ _ R 24 _ (0, 0) _ rfl (set3_all bR) Try.underlying24 rfl (by kernel_rfl)) rfl ⟨?_, ((nn.setCell (p := ⟨R, 0, none⟩) hRw _).setCell (p := ⟨R, 1, none⟩) hRw _).setCell (p := ⟨R, 2, none⟩) hRw _⟩
  rw [← hTv.out]
end Go.Proofs.Ytmoggaecnjcjfaa
