/-
  Proved here: with more of anything an image ends no earlier, by the code's Lay. No condition.
-/
import Derived.Test.YtojogolmcclpoaaUf
import Derived.Test.YtojogolmcclpoaaUh
namespace Go.Proofs.Ytojogolmcclpoaa.imageMore
open Go.ChangeShapes Go.WideShapes Go.ChangeAt Go.RowKit
set_option linter.unusedVariables false
set_option linter.unusedSimpArgs false
set_option maxRecDepth 100000
set_option maxHeartbeats 4000000
theorem layE_or (c : Cf) (code slots : Int) : layE c code slots = 0 ∨ layE c code slots = 2 := by unfold layE; split <;> simp
theorem ok_of {c : Cf} {code slots : Int} (h : layE c code slots = 0) : okL c code slots = true := by
  unfold layE at h
  split at h
  · assumption
  · cases h
theorem more_le {C S A B W C' S' A' B' W' : Nat} {x0 x4 : Int} (h : okL ⟨x0, A, B, W, x4⟩ C S = true) (hC : C ≤ C') (hS : S ≤ S') (hA : A ≤ A') (hB : B ≤ B') (hW : W ≤ W') (h' : layE ⟨x0, A', B', W', x4⟩ C' S' = 0) :
    (layA ⟨x0, A, B, W, x4⟩ C S).stop ≤ (layA ⟨x0, A', B', W', x4⟩ C' S').stop ∧ (layA ⟨x0, A, B, W, x4⟩ C S).globals ≤ (layA ⟨x0, A', B', W', x4⟩ C' S').globals := by
  unfold layA
  rw [h, ok_of h', if_pos rfl, if_pos rfl]
  show (layN C S A B W).stop ≤ (layN C' S' A' B' W').stop ∧ (layN C S A B W).globals ≤ (layN C' S' A' B' W').globals
  unfold layN
  have h1 : (4 * C + 63) / 64 * 64 ≤ (4 * C' + 63) / 64 * 64 := Nat.mul_le_mul (Nat.div_le_div_right (by omega)) (Nat.le_refl _)
  have h2 : 8 * (12 + S + 2 * W) * A ≤ 8 * (12 + S' + 2 * W') * A' := Nat.mul_le_mul (by omega) hA
  constructor
  · show (((4 * C + 63) / 64 * 64 + 64 + 8 * (12 + S + 2 * W) * A + 256 * B : Nat) : Int) ≤ (((4 * C' + 63) / 64 * 64 + 64 + 8 * (12 + S' + 2 * W') * A' + 256 * B' : Nat) : Int)
    omega
  · show (((4 * C + 63) / 64 * 64 : Nat) : Int) ≤ (((4 * C' + 63) / 64 * 64 : Nat) : Int)
    omega
theorem ly_v (l : Ly) : l.v = .agg #[.int .u64 l.code, .int .u64 l.globals, .int .u64 l.actors, .int .u64 l.asize, .int .u64 l.blocks, .int .u64 l.bsize, .int .u64 l.stop, .int .i64 l.slots] := rfl
theorem walk (c : Cf) (code slots which : Int) (hc : c.In) (h1 : IR code) (h2 : IR slots) (h3 : IR which) (w : World) :
    Calls Try.prog 6 #[c.v, .int .i64 code, .int .i64 slots, .int .i64 which] w fun e w' => e = .returned (.bool true) ∧ Nb w w' := by
  have hlives := Lib.hid (fun w => lives_any w)
  cases hok : okL c code slots with
  | false =>
    have hlay := fun w => lay_any c code slots w
    rw [show layE c code slots = 2 by unfold layE; rw [hok]; rfl, show layA c code slots = Ly.zero by unfold layA; rw [hok]; rfl] at hlay
    obtain ⟨x0, x1, x2, x3, x4⟩ := c
    change ∀ w, Calls Try.prog 7 #[.agg #[.int .i64 x0, .int .i64 x1, .int .i64 x2, .int .i64 x3, .int .i64 x4], .int .i64 code, .int .i64 slots] w fun e w' => e = .returned (.tuple #[.agg #[.int .u64 0, .int .u64 0, .int .u64 0, .int .u64 0, .int .u64 0, .int .u64 0, .int .u64 0, .int .i64 0], .int .i64 2]) ∧ Nb w w' at hlay
    replace hlay := Lib.hid hlay
    show Calls Try.prog 6 #[.agg #[.int .i64 x0, .int .i64 x1, .int .i64 x2, .int .i64 x3, .int .i64 x4], .int .i64 code, .int .i64 slots, .int .i64 which] w _
    go_enter Try.func6, Try.ntmps6
    go_upto_region 1 with (fail)
    obtain ⟨W1, hW1⟩ : ∃ W1, w.alloc (.cells #[.int .i64 x0, .int .i64 x1, .int .i64 x2, .int .i64 x3, .int .i64 x4] 23) = W1 := ⟨_, rfl⟩
    have n1 : Nb w W1 := by rw [← hW1]; exact alloc_nb _ _
    have b1 : W1.heap[w.heap.size]? = some (.cells #[.int .i64 x0, .int .i64 x1, .int .i64 x2, .int .i64 x3, .int .i64 x4] 23 (0, 0)) := by rw [← hW1]; exact new_blk _ _ rfl
    rw [hW1]
    clear hW1
    have c0 := cell_of_row _ _ 0 _ _ _ b1
    have c1 := cell_of_row _ _ 1 _ _ _ b1
    have c2 := cell_of_row _ _ 2 _ _ _ b1
    have c3 := cell_of_row _ _ 3 _ _ _ b1
    have c4 := cell_of_row _ _ 4 _ _ _ b1
    go_wp2_with (first
      | (go_at_call 7; refine (hlay.out _).mono ?_; rintro r w1 ⟨rfl, g1⟩)
      | (go_at_call 13; refine (hlives.out _).mono ?_; rintro r w2 ⟨rfl, g2⟩))
    go_ret
    exact ⟨rfl, (n1.trans (g1.trans (alloc_nb _ _))).trans g2⟩
  | true =>
    obtain ⟨C, S, A, B, W, x0, x4, rfl, rfl, rfl, -, hC, hS, hA, hB, hW⟩ := okL_nat hok
    have hlay := fun w => lay_any ⟨x0, A, B, W, x4⟩ C S w
    rw [show layE ⟨x0, A, B, W, x4⟩ C S = 0 by unfold layE; rw [hok]; rfl, ly_v] at hlay
    have hmore := fun C' S' A' B' W' a1 a2 a3 a4 a5 a6 => more_le (C' := C') (S' := S') (A' := A') (B' := B') (W' := W') hok a1 a2 a3 a4 a5 a6
    obtain ⟨Lx, hLx⟩ : ∃ l, layA ⟨x0, A, B, W, x4⟩ C S = l := ⟨_, rfl⟩
    rw [hLx] at hlay hmore
    clear hLx
    obtain ⟨l0, l1, l2, l3, l4, l5, l6, l7⟩ := Lx
    change ∀ w, Calls Try.prog 7 #[.agg #[.int .i64 x0, .int .i64 (A : Int), .int .i64 (B : Int), .int .i64 (W : Int), .int .i64 x4], .int .i64 (C : Int), .int .i64 (S : Int)] w fun e w' => e = .returned (.tuple #[.agg #[.int .u64 l0, .int .u64 l1, .int .u64 l2, .int .u64 l3, .int .u64 l4, .int .u64 l5, .int .u64 l6, .int .i64 l7], .int .i64 0]) ∧ Nb w w' at hlay
    replace hlay := Lib.hid hlay
    replace hmore := Lib.hid hmore
    obtain ⟨k, hk0, hk5⟩ : ∃ k : Nat, wrap64 ((IntKind.u64.wrap which).tmod 5) = (k : Int) ∧ k < 5 := by
      have h0 : 0 ≤ IntKind.u64.wrap which := by rw [IntKind.wrap_u64]; omega
      rw [Int.tmod_eq_emod_of_nonneg h0]
      refine ⟨(IntKind.u64.wrap which % 5).toNat, ?_, by omega⟩
      unfold wrap64
      omega
    have hk := Lib.hid hk0
    clear hk0
    show Calls Try.prog 6 #[.agg #[.int .i64 x0, .int .i64 (A : Int), .int .i64 (B : Int), .int .i64 (W : Int), .int .i64 x4], .int .i64 (C : Int), .int .i64 (S : Int), .int .i64 which] w _
    go_enter Try.func6, Try.ntmps6
    go_upto_region 1 with (fail)
    obtain ⟨W1, hW1⟩ : ∃ W1, w.alloc (.cells #[.int .i64 x0, .int .i64 (A : Int), .int .i64 (B : Int), .int .i64 (W : Int), .int .i64 x4] 23) = W1 := ⟨_, rfl⟩
    have n1 : Nb w W1 := by rw [← hW1]; exact alloc_nb _ _
    have b1 : W1.heap[w.heap.size]? = some (.cells #[.int .i64 x0, .int .i64 (A : Int), .int .i64 (B : Int), .int .i64 (W : Int), .int .i64 x4] 23 (0, 0)) := by rw [← hW1]; exact new_blk _ _ rfl
    rw [hW1]
    clear hW1
    obtain ⟨H, hH⟩ : ∃ H, w.heap.size = H := ⟨_, rfl⟩
    rw [hH] at b1 ⊢
    have c0 := cell_of_row _ _ 0 _ _ _ b1
    have c1 := cell_of_row _ _ 1 _ _ _ b1
    have c2 := cell_of_row _ _ 2 _ _ _ b1
    have c3 := cell_of_row _ _ 3 _ _ _ b1
    have c4 := cell_of_row _ _ 4 _ _ _ b1
    go_upto_region 2 with (go_at_call 7; refine (hlay.out _).mono ?_; rintro r w1 ⟨rfl, g1⟩)
    obtain ⟨W2, hW2⟩ : ∃ W2, w1.alloc (.cells #[.int .u64 l0, .int .u64 l1, .int .u64 l2, .int .u64 l3, .int .u64 l4, .int .u64 l5, .int .u64 l6, .int .i64 l7] 26) = W2 := ⟨_, rfl⟩
    have n2 : Nb W1 W2 := by rw [← hW2]; exact g1.trans (alloc_nb _ _)
    have b2 : W2.heap[w1.heap.size]? = some (.cells #[.int .u64 l0, .int .u64 l1, .int .u64 l2, .int .u64 l3, .int .u64 l4, .int .u64 l5, .int .u64 l6, .int .i64 l7] 26 (0, 0)) := by rw [← hW2]; exact new_blk _ _ rfl
    rw [hW2]
    clear hW2
    have hlt : H < w1.heap.size := Nat.lt_of_lt_of_le (lt_blk b1) g1.size
    obtain ⟨H1, hH1⟩ : ∃ H, w1.heap.size = H := ⟨_, rfl⟩
    rw [hH1] at b2 hlt ⊢
    clear hH1 c0 c1 c2 c3 c4
    replace b1 := n2.block b1
    replace n1 := n1.trans n2
    clear n2 g1
    go_upto_region 4 with (fail)
    go_upto_region 5 with (fail)
    rw [hk.out]
    match k, hk5 with
    | 0, _ =>
      have c1 := cell_of_row _ _ 1 _ _ _ b1
      have f1 := frozen_blk b1 1
      have b1h := Lib.hid b1
      clear b1
      have hlay2 := fun w => lay_any ⟨x0, (((A + 1) : Nat) : Int), ((B : Nat) : Int), ((W : Nat) : Int), x4⟩ ((C : Nat) : Int) ((S : Nat) : Int) w
      have hm2 := hmore.out C S (A + 1) B W (by omega) (by omega) (by omega) (by omega) (by omega)
      have ho2 := layE_or ⟨x0, (((A + 1) : Nat) : Int), ((B : Nat) : Int), ((W : Nat) : Int), x4⟩ ((C : Nat) : Int) ((S : Nat) : Int)
      rw [ly_v] at hlay2
      rw [show (((A + 1 : Nat)) : Int) = (A : Int) + 1 by omega] at hlay2 hm2 ho2
      obtain ⟨Mx, hMx⟩ : ∃ l, layA ⟨x0, ((A : Int) + 1), (B : Int), (W : Int), x4⟩ (C : Int) (S : Int) = l := ⟨_, rfl⟩
      rw [hMx] at hlay2 hm2
      obtain ⟨E2, hE2⟩ : ∃ l, layE ⟨x0, ((A : Int) + 1), (B : Int), (W : Int), x4⟩ (C : Int) (S : Int) = l := ⟨_, rfl⟩
      rw [hE2] at hlay2 hm2 ho2
      clear hMx hE2
      obtain ⟨m0, m1, m2, m3, m4, m5, m6, m7⟩ := Mx
      change ∀ w, Calls Try.prog 7 #[.agg #[.int .i64 x0, .int .i64 ((A : Int) + 1), .int .i64 (B : Int), .int .i64 (W : Int), .int .i64 x4], .int .i64 (C : Int), .int .i64 (S : Int)] w fun e w' => e = .returned (.tuple #[.agg #[.int .u64 m0, .int .u64 m1, .int .u64 m2, .int .u64 m3, .int .u64 m4, .int .u64 m5, .int .u64 m6, .int .i64 m7], .int .i64 E2]) ∧ Nb w w' at hlay2
      change E2 = 0 → l6 ≤ m6 ∧ l1 ≤ m1 at hm2
      replace hlay2 := Lib.hid hlay2
      replace hm2 := Lib.hid hm2
      replace ho2 := Lib.hid ho2
      go_upto_region 15 with (fail)
      obtain ⟨W3, hW3⟩ : ∃ W3, W2.setCell ⟨H, 1, none⟩ (.int .i64 (((A : Nat) : Int) + 1)) = W3 := ⟨_, rfl⟩
      have n3 : Nb w W3 := by rw [← hW3]; exact n1.setCell (p := ⟨H, 1, none⟩) (by show _ ≤ H; omega) _
      have b3 : W3.heap[H]? = some (.cells #[.int .i64 x0, .int .i64 ((A : Int) + 1), .int .i64 (B : Int), .int .i64 (W : Int), .int .i64 x4] 23 (0, 0)) := by rw [← hW3, set_blk b1h.out]; rfl
      replace b2 : W3.heap[H1]? = some (.cells #[.int .u64 l0, .int .u64 l1, .int .u64 l2, .int .u64 l3, .int .u64 l4, .int .u64 l5, .int .u64 l6, .int .i64 l7] 26 (0, 0)) := by rw [← hW3]; exact set_other b2 (by omega)
      rw [hW3]
      clear hW3 c1 f1 b1h
      have c0 := cell_of_row _ _ 0 _ _ _ b3
      have c1 := cell_of_row _ _ 1 _ _ _ b3
      have c2 := cell_of_row _ _ 2 _ _ _ b3
      have c3 := cell_of_row _ _ 3 _ _ _ b3
      have c4 := cell_of_row _ _ 4 _ _ _ b3
      go_upto_region 16 with (go_at_call 7; refine (hlay2.out _).mono ?_; rintro r w4 ⟨rfl, g4⟩)
      obtain ⟨W5, hW5⟩ : ∃ W5, w4.alloc (.cells #[.int .u64 m0, .int .u64 m1, .int .u64 m2, .int .u64 m3, .int .u64 m4, .int .u64 m5, .int .u64 m6, .int .i64 m7] 26) = W5 := ⟨_, rfl⟩
      have n5 : Nb w4 W5 := by rw [← hW5]; exact alloc_nb _ _
      have b5 : W5.heap[w4.heap.size]? = some (.cells #[.int .u64 m0, .int .u64 m1, .int .u64 m2, .int .u64 m3, .int .u64 m4, .int .u64 m5, .int .u64 m6, .int .i64 m7] 26 (0, 0)) := by rw [← hW5]; exact new_blk _ _ rfl
      rw [hW5]
      clear hW5
      obtain ⟨H2, hH2⟩ : ∃ H, w4.heap.size = H := ⟨_, rfl⟩
      rw [hH2] at b5 ⊢
      clear hH2 c0 c1 c2 c3 c4
      replace b2 := n5.block (g4.block b2)
      have y1 := cell_of_row _ _ 1 _ _ _ b2
      have y6 := cell_of_row _ _ 6 _ _ _ b2
      have z1 := cell_of_row _ _ 1 _ _ _ b5
      have z6 := cell_of_row _ _ 6 _ _ _ b5
      have n6 := n3.trans (g4.trans n5)
      rcases ho2.out with rfl | rfl
      · obtain ⟨i1, i2⟩ := hm2.out rfl
        have d1 : decide (l6 ≤ m6) = true := decide_eq_true i1
        have d2 : decide (l1 ≤ m1) = true := decide_eq_true i2
        by_cases h16 : Int.tmod (C : Int) 16 = 1
        · have d3 : (Int.tmod (C : Int) 16 == 1) = true := by rw [h16]; rfl
          have d4 : (Int.tmod (C : Int) 16 != 1) = false := by rw [bne, d3]; rfl
          clear h16
          go_wp2_with (go_at_call 13; refine (hlives.out _).mono ?_; rintro r w7 ⟨rfl, g7⟩)
          all_goals go_ret
          all_goals exact ⟨rfl, n6.trans g7⟩
        · have d3 : (Int.tmod (C : Int) 16 == 1) = false := beq_false_of_ne h16
          have d4 : (Int.tmod (C : Int) 16 != 1) = true := by rw [bne, d3]; rfl
          clear h16
          go_wp2_with (go_at_call 13; refine (hlives.out _).mono ?_; rintro r w7 ⟨rfl, g7⟩)
          all_goals go_ret
          all_goals exact ⟨rfl, n6.trans g7⟩
      · go_wp2_with (go_at_call 13; refine (hlives.out _).mono ?_; rintro r w7 ⟨rfl, g7⟩)
        go_ret
        exact ⟨rfl, n6.trans g7⟩
    | 1, _ =>
      have c2 := cell_of_row _ _ 2 _ _ _ b1
      have f2 := frozen_blk b1 2
      have b1h := Lib.hid b1
      clear b1
      have hlay2 := fun w => lay_any ⟨x0, ((A : Nat) : Int), (((B + 1) : Nat) : Int), ((W : Nat) : Int), x4⟩ ((C : Nat) : Int) ((S : Nat) : Int) w
      have hm2 := hmore.out C S A (B + 1) W (by omega) (by omega) (by omega) (by omega) (by omega)
      have ho2 := layE_or ⟨x0, ((A : Nat) : Int), (((B + 1) : Nat) : Int), ((W : Nat) : Int), x4⟩ ((C : Nat) : Int) ((S : Nat) : Int)
      rw [ly_v] at hlay2
      rw [show (((B + 1 : Nat)) : Int) = (B : Int) + 1 by omega] at hlay2 hm2 ho2
      obtain ⟨Mx, hMx⟩ : ∃ l, layA ⟨x0, (A : Int), ((B : Int) + 1), (W : Int), x4⟩ (C : Int) (S : Int) = l := ⟨_, rfl⟩
      rw [hMx] at hlay2 hm2
      obtain ⟨E2, hE2⟩ : ∃ l, layE ⟨x0, (A : Int), ((B : Int) + 1), (W : Int), x4⟩ (C : Int) (S : Int) = l := ⟨_, rfl⟩
      rw [hE2] at hlay2 hm2 ho2
      clear hMx hE2
      obtain ⟨m0, m1, m2, m3, m4, m5, m6, m7⟩ := Mx
      change ∀ w, Calls Try.prog 7 #[.agg #[.int .i64 x0, .int .i64 (A : Int), .int .i64 ((B : Int) + 1), .int .i64 (W : Int), .int .i64 x4], .int .i64 (C : Int), .int .i64 (S : Int)] w fun e w' => e = .returned (.tuple #[.agg #[.int .u64 m0, .int .u64 m1, .int .u64 m2, .int .u64 m3, .int .u64 m4, .int .u64 m5, .int .u64 m6, .int .i64 m7], .int .i64 E2]) ∧ Nb w w' at hlay2
      change E2 = 0 → l6 ≤ m6 ∧ l1 ≤ m1 at hm2
      replace hlay2 := Lib.hid hlay2
      replace hm2 := Lib.hid hm2
      replace ho2 := Lib.hid ho2
      go_upto_region 15 with (fail)
      obtain ⟨W3, hW3⟩ : ∃ W3, W2.setCell ⟨H, 2, none⟩ (.int .i64 (((B : Nat) : Int) + 1)) = W3 := ⟨_, rfl⟩
      have n3 : Nb w W3 := by rw [← hW3]; exact n1.setCell (p := ⟨H, 2, none⟩) (by show _ ≤ H; omega) _
      have b3 : W3.heap[H]? = some (.cells #[.int .i64 x0, .int .i64 (A : Int), .int .i64 ((B : Int) + 1), .int .i64 (W : Int), .int .i64 x4] 23 (0, 0)) := by rw [← hW3, set_blk b1h.out]; rfl
      replace b2 : W3.heap[H1]? = some (.cells #[.int .u64 l0, .int .u64 l1, .int .u64 l2, .int .u64 l3, .int .u64 l4, .int .u64 l5, .int .u64 l6, .int .i64 l7] 26 (0, 0)) := by rw [← hW3]; exact set_other b2 (by omega)
      rw [hW3]
      clear hW3 c2 f2 b1h
      have c0 := cell_of_row _ _ 0 _ _ _ b3
      have c1 := cell_of_row _ _ 1 _ _ _ b3
      have c2 := cell_of_row _ _ 2 _ _ _ b3
      have c3 := cell_of_row _ _ 3 _ _ _ b3
      have c4 := cell_of_row _ _ 4 _ _ _ b3
      go_upto_region 16 with (go_at_call 7; refine (hlay2.out _).mono ?_; rintro r w4 ⟨rfl, g4⟩)
      obtain ⟨W5, hW5⟩ : ∃ W5, w4.alloc (.cells #[.int .u64 m0, .int .u64 m1, .int .u64 m2, .int .u64 m3, .int .u64 m4, .int .u64 m5, .int .u64 m6, .int .i64 m7] 26) = W5 := ⟨_, rfl⟩
      have n5 : Nb w4 W5 := by rw [← hW5]; exact alloc_nb _ _
      have b5 : W5.heap[w4.heap.size]? = some (.cells #[.int .u64 m0, .int .u64 m1, .int .u64 m2, .int .u64 m3, .int .u64 m4, .int .u64 m5, .int .u64 m6, .int .i64 m7] 26 (0, 0)) := by rw [← hW5]; exact new_blk _ _ rfl
      rw [hW5]
      clear hW5
      obtain ⟨H2, hH2⟩ : ∃ H, w4.heap.size = H := ⟨_, rfl⟩
      rw [hH2] at b5 ⊢
      clear hH2 c0 c1 c2 c3 c4
      replace b2 := n5.block (g4.block b2)
      have y1 := cell_of_row _ _ 1 _ _ _ b2
      have y6 := cell_of_row _ _ 6 _ _ _ b2
      have z1 := cell_of_row _ _ 1 _ _ _ b5
      have z6 := cell_of_row _ _ 6 _ _ _ b5
      have n6 := n3.trans (g4.trans n5)
      rcases ho2.out with rfl | rfl
      · obtain ⟨i1, i2⟩ := hm2.out rfl
        have d1 : decide (l6 ≤ m6) = true := decide_eq_true i1
        have d2 : decide (l1 ≤ m1) = true := decide_eq_true i2
        by_cases h16 : Int.tmod (C : Int) 16 = 1
        · have d3 : (Int.tmod (C : Int) 16 == 1) = true := by rw [h16]; rfl
          have d4 : (Int.tmod (C : Int) 16 != 1) = false := by rw [bne, d3]; rfl
          clear h16
          go_wp2_with (go_at_call 13; refine (hlives.out _).mono ?_; rintro r w7 ⟨rfl, g7⟩)
          all_goals go_ret
          all_goals exact ⟨rfl, n6.trans g7⟩
        · have d3 : (Int.tmod (C : Int) 16 == 1) = false := beq_false_of_ne h16
          have d4 : (Int.tmod (C : Int) 16 != 1) = true := by rw [bne, d3]; rfl
          clear h16
          go_wp2_with (go_at_call 13; refine (hlives.out _).mono ?_; rintro r w7 ⟨rfl, g7⟩)
          all_goals go_ret
          all_goals exact ⟨rfl, n6.trans g7⟩
      · go_wp2_with (go_at_call 13; refine (hlives.out _).mono ?_; rintro r w7 ⟨rfl, g7⟩)
        go_ret
        exact ⟨rfl, n6.trans g7⟩
    | 2, _ =>
      have c3 := cell_of_row _ _ 3 _ _ _ b1
      have f3 := frozen_blk b1 3
      have b1h := Lib.hid b1
      clear b1
      have hlay2 := fun w => lay_any ⟨x0, ((A : Nat) : Int), ((B : Nat) : Int), (((W + 1) : Nat) : Int), x4⟩ ((C : Nat) : Int) ((S : Nat) : Int) w
      have hm2 := hmore.out C S A B (W + 1) (by omega) (by omega) (by omega) (by omega) (by omega)
      have ho2 := layE_or ⟨x0, ((A : Nat) : Int), ((B : Nat) : Int), (((W + 1) : Nat) : Int), x4⟩ ((C : Nat) : Int) ((S : Nat) : Int)
      rw [ly_v] at hlay2
      rw [show (((W + 1 : Nat)) : Int) = (W : Int) + 1 by omega] at hlay2 hm2 ho2
      obtain ⟨Mx, hMx⟩ : ∃ l, layA ⟨x0, (A : Int), (B : Int), ((W : Int) + 1), x4⟩ (C : Int) (S : Int) = l := ⟨_, rfl⟩
      rw [hMx] at hlay2 hm2
      obtain ⟨E2, hE2⟩ : ∃ l, layE ⟨x0, (A : Int), (B : Int), ((W : Int) + 1), x4⟩ (C : Int) (S : Int) = l := ⟨_, rfl⟩
      rw [hE2] at hlay2 hm2 ho2
      clear hMx hE2
      obtain ⟨m0, m1, m2, m3, m4, m5, m6, m7⟩ := Mx
      change ∀ w, Calls Try.prog 7 #[.agg #[.int .i64 x0, .int .i64 (A : Int), .int .i64 (B : Int), .int .i64 ((W : Int) + 1), .int .i64 x4], .int .i64 (C : Int), .int .i64 (S : Int)] w fun e w' => e = .returned (.tuple #[.agg #[.int .u64 m0, .int .u64 m1, .int .u64 m2, .int .u64 m3, .int .u64 m4, .int .u64 m5, .int .u64 m6, .int .i64 m7], .int .i64 E2]) ∧ Nb w w' at hlay2
      change E2 = 0 → l6 ≤ m6 ∧ l1 ≤ m1 at hm2
      replace hlay2 := Lib.hid hlay2
      replace hm2 := Lib.hid hm2
      replace ho2 := Lib.hid ho2
      go_upto_region 15 with (fail)
      obtain ⟨W3, hW3⟩ : ∃ W3, W2.setCell ⟨H, 3, none⟩ (.int .i64 (((W : Nat) : Int) + 1)) = W3 := ⟨_, rfl⟩
      have n3 : Nb w W3 := by rw [← hW3]; exact n1.setCell (p := ⟨H, 3, none⟩) (by show _ ≤ H; omega) _
      have b3 : W3.heap[H]? = some (.cells #[.int .i64 x0, .int .i64 (A : Int), .int .i64 (B : Int), .int .i64 ((W : Int) + 1), .int .i64 x4] 23 (0, 0)) := by rw [← hW3, set_blk b1h.out]; rfl
      replace b2 : W3.heap[H1]? = some (.cells #[.int .u64 l0, .int .u64 l1, .int .u64 l2, .int .u64 l3, .int .u64 l4, .int .u64 l5, .int .u64 l6, .int .i64 l7] 26 (0, 0)) := by rw [← hW3]; exact set_other b2 (by omega)
      rw [hW3]
      clear hW3 c3 f3 b1h
      have c0 := cell_of_row _ _ 0 _ _ _ b3
      have c1 := cell_of_row _ _ 1 _ _ _ b3
      have c2 := cell_of_row _ _ 2 _ _ _ b3
      have c3 := cell_of_row _ _ 3 _ _ _ b3
      have c4 := cell_of_row _ _ 4 _ _ _ b3
      go_upto_region 16 with (go_at_call 7; refine (hlay2.out _).mono ?_; rintro r w4 ⟨rfl, g4⟩)
      obtain ⟨W5, hW5⟩ : ∃ W5, w4.alloc (.cells #[.int .u64 m0, .int .u64 m1, .int .u64 m2, .int .u64 m3, .int .u64 m4, .int .u64 m5, .int .u64 m6, .int .i64 m7] 26) = W5 := ⟨_, rfl⟩
      have n5 : Nb w4 W5 := by rw [← hW5]; exact alloc_nb _ _
      have b5 : W5.heap[w4.heap.size]? = some (.cells #[.int .u64 m0, .int .u64 m1, .int .u64 m2, .int .u64 m3, .int .u64 m4, .int .u64 m5, .int .u64 m6, .int .i64 m7] 26 (0, 0)) := by rw [← hW5]; exact new_blk _ _ rfl
      rw [hW5]
      clear hW5
      obtain ⟨H2, hH2⟩ : ∃ H, w4.heap.size = H := ⟨_, rfl⟩
      rw [hH2] at b5 ⊢
      clear hH2 c0 c1 c2 c3 c4
      replace b2 := n5.block (g4.block b2)
      have y1 := cell_of_row _ _ 1 _ _ _ b2
      have y6 := cell_of_row _ _ 6 _ _ _ b2
      have z1 := cell_of_row _ _ 1 _ _ _ b5
      have z6 := cell_of_row _ _ 6 _ _ _ b5
      have n6 := n3.trans (g4.trans n5)
      rcases ho2.out with rfl | rfl
      · obtain ⟨i1, i2⟩ := hm2.out rfl
        have d1 : decide (l6 ≤ m6) = true := decide_eq_true i1
        have d2 : decide (l1 ≤ m1) = true := decide_eq_true i2
        by_cases h16 : Int.tmod (C : Int) 16 = 1
        · have d3 : (Int.tmod (C : Int) 16 == 1) = true := by rw [h16]; rfl
          have d4 : (Int.tmod (C : Int) 16 != 1) = false := by rw [bne, d3]; rfl
          clear h16
          go_wp2_with (go_at_call 13; refine (hlives.out _).mono ?_; rintro r w7 ⟨rfl, g7⟩)
          all_goals go_ret
          all_goals exact ⟨rfl, n6.trans g7⟩
        · have d3 : (Int.tmod (C : Int) 16 == 1) = false := beq_false_of_ne h16
          have d4 : (Int.tmod (C : Int) 16 != 1) = true := by rw [bne, d3]; rfl
          clear h16
          go_wp2_with (go_at_call 13; refine (hlives.out _).mono ?_; rintro r w7 ⟨rfl, g7⟩)
          all_goals go_ret
          all_goals exact ⟨rfl, n6.trans g7⟩
      · go_wp2_with (go_at_call 13; refine (hlives.out _).mono ?_; rintro r w7 ⟨rfl, g7⟩)
        go_ret
        exact ⟨rfl, n6.trans g7⟩
    | 3, _ =>
      have hlay2 := fun w => lay_any ⟨x0, ((A : Nat) : Int), ((B : Nat) : Int), ((W : Nat) : Int), x4⟩ (((C + 1) : Nat) : Int) ((S : Nat) : Int) w
      have hm2 := hmore.out (C + 1) S A B W (by omega) (by omega) (by omega) (by omega) (by omega)
      have ho2 := layE_or ⟨x0, ((A : Nat) : Int), ((B : Nat) : Int), ((W : Nat) : Int), x4⟩ (((C + 1) : Nat) : Int) ((S : Nat) : Int)
      rw [ly_v] at hlay2
      rw [show (((C + 1 : Nat)) : Int) = (C : Int) + 1 by omega] at hlay2 hm2 ho2
      obtain ⟨Mx, hMx⟩ : ∃ l, layA ⟨x0, (A : Int), (B : Int), (W : Int), x4⟩ ((C : Int) + 1) (S : Int) = l := ⟨_, rfl⟩
      rw [hMx] at hlay2 hm2
      obtain ⟨E2, hE2⟩ : ∃ l, layE ⟨x0, (A : Int), (B : Int), (W : Int), x4⟩ ((C : Int) + 1) (S : Int) = l := ⟨_, rfl⟩
      rw [hE2] at hlay2 hm2 ho2
      clear hMx hE2
      obtain ⟨m0, m1, m2, m3, m4, m5, m6, m7⟩ := Mx
      change ∀ w, Calls Try.prog 7 #[.agg #[.int .i64 x0, .int .i64 (A : Int), .int .i64 (B : Int), .int .i64 (W : Int), .int .i64 x4], .int .i64 ((C : Int) + 1), .int .i64 (S : Int)] w fun e w' => e = .returned (.tuple #[.agg #[.int .u64 m0, .int .u64 m1, .int .u64 m2, .int .u64 m3, .int .u64 m4, .int .u64 m5, .int .u64 m6, .int .i64 m7], .int .i64 E2]) ∧ Nb w w' at hlay2
      change E2 = 0 → l6 ≤ m6 ∧ l1 ≤ m1 at hm2
      replace hlay2 := Lib.hid hlay2
      replace hm2 := Lib.hid hm2
      replace ho2 := Lib.hid ho2
      go_upto_region 15 with (fail)
      have n3 := n1
      have b3 := b1
      have c0 := cell_of_row _ _ 0 _ _ _ b3
      have c1 := cell_of_row _ _ 1 _ _ _ b3
      have c2 := cell_of_row _ _ 2 _ _ _ b3
      have c3 := cell_of_row _ _ 3 _ _ _ b3
      have c4 := cell_of_row _ _ 4 _ _ _ b3
      go_upto_region 16 with (go_at_call 7; refine (hlay2.out _).mono ?_; rintro r w4 ⟨rfl, g4⟩)
      obtain ⟨W5, hW5⟩ : ∃ W5, w4.alloc (.cells #[.int .u64 m0, .int .u64 m1, .int .u64 m2, .int .u64 m3, .int .u64 m4, .int .u64 m5, .int .u64 m6, .int .i64 m7] 26) = W5 := ⟨_, rfl⟩
      have n5 : Nb w4 W5 := by rw [← hW5]; exact alloc_nb _ _
      have b5 : W5.heap[w4.heap.size]? = some (.cells #[.int .u64 m0, .int .u64 m1, .int .u64 m2, .int .u64 m3, .int .u64 m4, .int .u64 m5, .int .u64 m6, .int .i64 m7] 26 (0, 0)) := by rw [← hW5]; exact new_blk _ _ rfl
      rw [hW5]
      clear hW5
      obtain ⟨H2, hH2⟩ : ∃ H, w4.heap.size = H := ⟨_, rfl⟩
      rw [hH2] at b5 ⊢
      clear hH2 c0 c1 c2 c3 c4
      replace b2 := n5.block (g4.block b2)
      have y1 := cell_of_row _ _ 1 _ _ _ b2
      have y6 := cell_of_row _ _ 6 _ _ _ b2
      have z1 := cell_of_row _ _ 1 _ _ _ b5
      have z6 := cell_of_row _ _ 6 _ _ _ b5
      have n6 := n3.trans (g4.trans n5)
      rcases ho2.out with rfl | rfl
      · obtain ⟨i1, i2⟩ := hm2.out rfl
        have d1 : decide (l6 ≤ m6) = true := decide_eq_true i1
        have d2 : decide (l1 ≤ m1) = true := decide_eq_true i2
        by_cases h16 : Int.tmod ((C : Int) + 1) 16 = 1
        · have d3 : (Int.tmod ((C : Int) + 1) 16 == 1) = true := by rw [h16]; rfl
          have d4 : (Int.tmod ((C : Int) + 1) 16 != 1) = false := by rw [bne, d3]; rfl
          clear h16
          go_wp2_with (go_at_call 13; refine (hlives.out _).mono ?_; rintro r w7 ⟨rfl, g7⟩)
          all_goals go_ret
          all_goals exact ⟨rfl, n6.trans g7⟩
        · have d3 : (Int.tmod ((C : Int) + 1) 16 == 1) = false := beq_false_of_ne h16
          have d4 : (Int.tmod ((C : Int) + 1) 16 != 1) = true := by rw [bne, d3]; rfl
          clear h16
          go_wp2_with (go_at_call 13; refine (hlives.out _).mono ?_; rintro r w7 ⟨rfl, g7⟩)
          all_goals go_ret
          all_goals exact ⟨rfl, n6.trans g7⟩
      · go_wp2_with (go_at_call 13; refine (hlives.out _).mono ?_; rintro r w7 ⟨rfl, g7⟩)
        go_ret
        exact ⟨rfl, n6.trans g7⟩
    | 4, _ =>
      have hlay2 := fun w => lay_any ⟨x0, ((A : Nat) : Int), ((B : Nat) : Int), ((W : Nat) : Int), x4⟩ ((C : Nat) : Int) (((S + 1) : Nat) : Int) w
      have hm2 := hmore.out C (S + 1) A B W (by omega) (by omega) (by omega) (by omega) (by omega)
      have ho2 := layE_or ⟨x0, ((A : Nat) : Int), ((B : Nat) : Int), ((W : Nat) : Int), x4⟩ ((C : Nat) : Int) (((S + 1) : Nat) : Int)
      rw [ly_v] at hlay2
      rw [show (((S + 1 : Nat)) : Int) = (S : Int) + 1 by omega] at hlay2 hm2 ho2
      obtain ⟨Mx, hMx⟩ : ∃ l, layA ⟨x0, (A : Int), (B : Int), (W : Int), x4⟩ (C : Int) ((S : Int) + 1) = l := ⟨_, rfl⟩
      rw [hMx] at hlay2 hm2
      obtain ⟨E2, hE2⟩ : ∃ l, layE ⟨x0, (A : Int), (B : Int), (W : Int), x4⟩ (C : Int) ((S : Int) + 1) = l := ⟨_, rfl⟩
      rw [hE2] at hlay2 hm2 ho2
      clear hMx hE2
      obtain ⟨m0, m1, m2, m3, m4, m5, m6, m7⟩ := Mx
      change ∀ w, Calls Try.prog 7 #[.agg #[.int .i64 x0, .int .i64 (A : Int), .int .i64 (B : Int), .int .i64 (W : Int), .int .i64 x4], .int .i64 (C : Int), .int .i64 ((S : Int) + 1)] w fun e w' => e = .returned (.tuple #[.agg #[.int .u64 m0, .int .u64 m1, .int .u64 m2, .int .u64 m3, .int .u64 m4, .int .u64 m5, .int .u64 m6, .int .i64 m7], .int .i64 E2]) ∧ Nb w w' at hlay2
      change E2 = 0 → l6 ≤ m6 ∧ l1 ≤ m1 at hm2
      replace hlay2 := Lib.hid hlay2
      replace hm2 := Lib.hid hm2
      replace ho2 := Lib.hid ho2
      go_upto_region 15 with (fail)
      have n3 := n1
      have b3 := b1
      have c0 := cell_of_row _ _ 0 _ _ _ b3
      have c1 := cell_of_row _ _ 1 _ _ _ b3
      have c2 := cell_of_row _ _ 2 _ _ _ b3
      have c3 := cell_of_row _ _ 3 _ _ _ b3
      have c4 := cell_of_row _ _ 4 _ _ _ b3
      go_upto_region 16 with (go_at_call 7; refine (hlay2.out _).mono ?_; rintro r w4 ⟨rfl, g4⟩)
      obtain ⟨W5, hW5⟩ : ∃ W5, w4.alloc (.cells #[.int .u64 m0, .int .u64 m1, .int .u64 m2, .int .u64 m3, .int .u64 m4, .int .u64 m5, .int .u64 m6, .int .i64 m7] 26) = W5 := ⟨_, rfl⟩
      have n5 : Nb w4 W5 := by rw [← hW5]; exact alloc_nb _ _
      have b5 : W5.heap[w4.heap.size]? = some (.cells #[.int .u64 m0, .int .u64 m1, .int .u64 m2, .int .u64 m3, .int .u64 m4, .int .u64 m5, .int .u64 m6, .int .i64 m7] 26 (0, 0)) := by rw [← hW5]; exact new_blk _ _ rfl
      rw [hW5]
      clear hW5
      obtain ⟨H2, hH2⟩ : ∃ H, w4.heap.size = H := ⟨_, rfl⟩
      rw [hH2] at b5 ⊢
      clear hH2 c0 c1 c2 c3 c4
      replace b2 := n5.block (g4.block b2)
      have y1 := cell_of_row _ _ 1 _ _ _ b2
      have y6 := cell_of_row _ _ 6 _ _ _ b2
      have z1 := cell_of_row _ _ 1 _ _ _ b5
      have z6 := cell_of_row _ _ 6 _ _ _ b5
      have n6 := n3.trans (g4.trans n5)
      rcases ho2.out with rfl | rfl
      · obtain ⟨i1, i2⟩ := hm2.out rfl
        have d1 : decide (l6 ≤ m6) = true := decide_eq_true i1
        have d2 : decide (l1 ≤ m1) = true := decide_eq_true i2
        by_cases h16 : Int.tmod (C : Int) 16 = 1
        · have d3 : (Int.tmod (C : Int) 16 == 1) = true := by rw [h16]; rfl
          have d4 : (Int.tmod (C : Int) 16 != 1) = false := by rw [bne, d3]; rfl
          clear h16
          go_wp2_with (go_at_call 13; refine (hlives.out _).mono ?_; rintro r w7 ⟨rfl, g7⟩)
          all_goals go_ret
          all_goals exact ⟨rfl, n6.trans g7⟩
        · have d3 : (Int.tmod (C : Int) 16 == 1) = false := beq_false_of_ne h16
          have d4 : (Int.tmod (C : Int) 16 != 1) = true := by rw [bne, d3]; rfl
          clear h16
          go_wp2_with (go_at_call 13; refine (hlives.out _).mono ?_; rintro r w7 ⟨rfl, g7⟩)
          all_goals go_ret
          all_goals exact ⟨rfl, n6.trans g7⟩
      · go_wp2_with (go_at_call 13; refine (hlives.out _).mono ?_; rintro r w7 ⟨rfl, g7⟩)
        go_ret
        exact ⟨rfl, n6.trans g7⟩
/-! The row's step. -/
set_option maxRecDepth 100000 in
set_option maxHeartbeats 1000000 in
theorem lifted (os : Os) (started : os.Started) (H : Type) (enc : TypeId × Value → H) :
    ReturnsInHanded {} Try.checked os 6 .any (Rows.imageMoreSpec.pre6 enc Try.prog Try.f6 Rows.imageMoreRow.domain false)
      (Rows.imageMoreSpec.post enc Try.prog Try.f6 false true false false) := by
  refine returnsInHanded_of_change (C := Try.checked) own started (by kernel_rfl) Try.func6
    (ChangeSpec.witness6 (enc := enc) (C := Try.checked) false ⟨#[], #[.agg #[.int .i64 0, .int .i64 0, .int .i64 0, .int .i64 0, .int .i64 0], .int .i64 0, .int .i64 0, .int .i64 0], []⟩ 8 (by kernel_rfl) (by kernel_rfl) (by kernel_rfl) (by kernel_rfl)) ?_
  intro W base args ds gs before hval0 hW _ _
  have hval : ∀ (j : Nat) t v, Try.f6.params[j]? = some t → args[j]? = some v → Value.okWide Try.prog W .any base t v := hval0
  have hW' := hW
  obtain ⟨p, q, hA0, hV, rfl, hfz, hnd⟩ := hW
  have hA1 : DataW.TrodAll enc Try.prog W 0 (fun _ => true) true Try.f6.params.toList args.toList ds p := hA0
  have hA := hA1
  rw [Try.params6] at hA hval
  obtain ⟨v0, vs0, d0, ds0, p0, q0, hargs0, rfl, -, h0, r0⟩ := trodAll_cons hA
  obtain ⟨v1, vs1, d1, ds1, p1, q1, hargs1, rfl, -, h1, r1⟩ := trodAll_cons r0
  obtain ⟨v2, vs2, d2, ds2, p2, q2, hargs2, rfl, -, h2, r2⟩ := trodAll_cons r1
  obtain ⟨v3, vs3, d3, ds3, p3, q3, hargs3, rfl, -, h3, r3⟩ := trodAll_cons r2
  obtain ⟨rfl, rfl, -⟩ := trodAll_nil r3
  obtain rfl : args = #[v0, v1, v2, v3] := by cases args; simp_all
  obtain ⟨rfl, rfl⟩ := trodVars_none hV
  obtain ⟨q0, rfl, w0⟩ := open_conf (hval 0 23 v0 rfl rfl) h0
  obtain ⟨n1, rfl, -, -, w1⟩ := open_int Try.underlying3 (hval 1 3 v1 rfl rfl) h1
  obtain ⟨n2, rfl, -, -, w2⟩ := open_int Try.underlying3 (hval 2 3 v2 rfl rfl) h2
  obtain ⟨n3, rfl, -, -, w3⟩ := open_int Try.underlying3 (hval 3 3 v3 rfl rfl) h3
  clear hval0
  simp only [List.append_nil] at hW'
  refine (walk q0 n1 n2 n3 w0 (i64_of w1) (i64_of w2) (i64_of w3) W ).mono fun e W' ⟨he, hg⟩ => ?_
  subst he
  exact ⟨_, rfl, post_of_nb (pa := p) (pv := []) hW' (fun _ _ _ => (trodAll_cons_mk (shut_bool Try.underlying4 _) trodAll_mk0))
    (fun sp hsp => args_stay (by kernel_rfl) hg hA1 (fun t ht => by
      have h0 : (Try.f6.params.toList.all fun t => Try.prog.readableRec t && decide (t < Try.prog.types.size)) = true := by kernel_rfl
      have h1 := List.all_eq_true.1 h0 t ht
      rw [Bool.and_eq_true, decide_eq_true_eq] at h1
      exact h1) (fun x hx => hW'.lt x hx) hsp)
    (fun _ _ => rfl) (by simp) hg (ok_one (by kernel_rfl) rfl (okWide_bool_mk Try.underlying4 _))⟩
theorem over : Rows.imageMoreRow.holds Try.pinned (OpenSpec.ofChange Rows.imageMoreSpec) :=
  OpenClaim.holds_of_wide 6 Try.f6 rfl rfl rfl rfl rfl rfl rfl ⟨rfl, rfl, rfl, rfl, rfl⟩ rfl rfl rfl rfl rfl (by kernel_rfl) Try.func6 (by kernel_rfl)
    (of_decide_eq_true (by kernel_rfl)) (by unfold Func.isWrapper; first | (rw [if_pos (by decide +kernel)]; kernel_rfl) | (rw [if_neg (by decide +kernel)]; exact ⟨rfl, rfl⟩))
    (fun os started H enc _ => lifted os started H enc)
/-- The statement. -/
theorem proved : Rows.ImageMoreSaid := over
#print axioms proved
end Go.Proofs.Ytojogolmcclpoaa.imageMore
