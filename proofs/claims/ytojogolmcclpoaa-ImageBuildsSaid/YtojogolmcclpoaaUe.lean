/-
  Proved here: where the reference lays all, of a config that may be. Conditions: none.
-/
import Derived.Test.YtojogolmcclpoaaUd
namespace Go.Proofs.Ytojogolmcclpoaa
open Go.RowKit
set_option linter.unusedVariables false
set_option linter.unusedSimpArgs false
set_option maxRecDepth 100000
set_option maxHeartbeats 4000000
/-- What the memory has while the reference lays all. -/
structure LayV (w W : World) (cf lc : List Value) (B0 B1 B2 : Nat) : Prop where
  b0 : W.heap[B0]? = some (.cells cf.toArray 23 (0, 0))
  b1 : W.heap[B1]? = some (.cells #[.int .u64 0, .int .u64 0, .int .u64 0, .int .u64 0, .int .u64 0, .int .u64 0, .int .u64 0, .int .i64 0] 26 (0, 0))
  b2 : W.heap[B2]? = some (.cells lc.toArray 26 (0, 0))
  nb : Nb w W
  lt : w.heap.size ≤ B0 ∧ B0 < B1 ∧ B1 < B2
theorem LayV.put {w W W' : World} {cf lc ld : List Value} {B0 B1 B2 : Nat} (h : LayV w W cf lc B0 B1 B2) {k : Nat} {u : Value} (hw : W.setCell ⟨B2, k, none⟩ u = W') (hl : lc.set k u = ld) : LayV w W' cf ld B0 B1 B2 := by
  obtain ⟨l0, l1, l2⟩ := h.lt
  subst hw hl
  exact ⟨set_other h.b0 (by omega), set_other h.b1 (by omega), by rw [set_bk h.b2 k u]; simp, h.nb.setCell (p := ⟨B2, k, none⟩) (by show _ ≤ B2; omega) _, h.lt⟩
def cellI (w : World) (p : Addr) : Nat := (intOf ((w.cell? p).getD undef)).toNat
theorem rlay_ok (C S A B W : Nat) (x0 x4 : Int) (hg : (Cf.mk x0 A B W x4).good = true) (hC : C ≤ 65536) (hS : 1 ≤ S ∧ S ≤ 256) (w : World) :
    Calls Try.prog 8 #[(Cf.mk x0 A B W x4).v, .int .i64 (C : Int), .int .i64 (S : Int)] w fun e w' => e = .returned (.tuple #[(layN C S A B W).v, .int .i64 0]) ∧ Nb w w' := by
  have hgood := Lib.hid (fun w => rgood_any (Cf.mk x0 A B W x4) w)
  have hr : A ≤ 64 ∧ B ≤ 256 ∧ W ≤ 1024 := by
    unfold Cf.good inB at hg
    simp only [Bool.and_eq_true, decide_eq_true_eq] at hg
    omega
  rw [hg] at hgood
  obtain ⟨hA, hB, hW⟩ := hr
  clear hg
  have hprod : 8 * (12 + S + 2 * W) * A ≤ 18528 * 64 := Nat.mul_le_mul (by omega) hA
  obtain ⟨az, has⟩ : ∃ n, 8 * (12 + S + 2 * W) = n := ⟨_, rfl⟩
  obtain ⟨aa, haa⟩ : ∃ n, az * A = n := ⟨_, rfl⟩
  obtain ⟨g, hgl⟩ : ∃ n, (4 * C + 63) / 64 * 64 = n := ⟨_, rfl⟩
  have hg2 : g ≤ 300000 := by omega
  have hly : (layN C S A B W).v = .agg #[.int .u64 0, .int .u64 (g : Int), .int .u64 ((g : Int) + 64), .int .u64 (az : Int), .int .u64 ((g : Int) + 64 + (aa : Int)), .int .u64 256, .int .u64 ((g : Int) + 64 + (aa : Int) + 256 * (B : Int)), .int .i64 (S : Int)] := by
    unfold layN
    rw [has, haa, hgl]
    simp [Ly.v, Ly.cells]
  rw [has, haa] at hprod
  rw [hly]
  clear hly
  have w1 : inB (C : Int) 0 65536 = true := decide_eq_true (by omega)
  have w2 : inB (S : Int) 1 256 = true := decide_eq_true (by omega)
  have hw1 := Lib.hid (fun w => rin_any (C : Int) 0 65536 w)
  have hw2 := Lib.hid (fun w => rin_any (S : Int) 1 256 w)
  rw [w1] at hw1
  rw [w2] at hw2
  clear w1 w2
  show Calls Try.prog 8 #[.agg #[.int .i64 x0, .int .i64 (A : Int), .int .i64 (B : Int), .int .i64 (W : Int), .int .i64 x4], .int .i64 (C : Int), .int .i64 (S : Int)] w _
  change Hid (∀ w, Calls Try.prog 10 #[.agg #[.int .i64 x0, .int .i64 (A : Int), .int .i64 (B : Int), .int .i64 (W : Int), .int .i64 x4]] w _) at hgood
  go_enter Try.func8, Try.ntmps8
  go_upto_region 1 with (fail)
  obtain ⟨W1, hW1⟩ : ∃ W1, (w.alloc (.cells #[.int .i64 x0, .int .i64 (A : Int), .int .i64 (B : Int), .int .i64 (W : Int), .int .i64 x4] 23)).alloc (.cells #[.int .u64 0, .int .u64 0, .int .u64 0, .int .u64 0, .int .u64 0, .int .u64 0, .int .u64 0, .int .i64 0] 26) = W1 := ⟨_, rfl⟩
  have n1 : Nb w W1 := by rw [← hW1]; exact (alloc_nb _ _).trans (alloc_nb _ _)
  have s1 : W1.heap.size = w.heap.size + 2 := by rw [← hW1, size_alloc1, size_alloc1]
  have b0 : W1.heap[w.heap.size]? = some (.cells #[.int .i64 x0, .int .i64 (A : Int), .int .i64 (B : Int), .int .i64 (W : Int), .int .i64 x4] 23 (0, 0)) := by rw [← hW1]; exact (alloc_nb _ _).block (new_blk _ _ rfl)
  have b1 : W1.heap[w.heap.size + 1]? = some (.cells #[.int .u64 0, .int .u64 0, .int .u64 0, .int .u64 0, .int .u64 0, .int .u64 0, .int .u64 0, .int .i64 0] 26 (0, 0)) := by rw [← hW1]; exact new_blk _ _ (size_alloc1 _ _)
  rw [hW1]
  clear hW1
  obtain ⟨H, hH⟩ : ∃ H, w.heap.size = H := ⟨_, rfl⟩
  rw [hH] at s1 b0 b1 ⊢
  obtain ⟨H1, hH1⟩ : ∃ H1, H + 1 = H1 := ⟨_, rfl⟩
  rw [hH1] at b1 ⊢
  have c0 := cell_of_row _ _ 0 _ _ _ b0
  have c1 := cell_of_row _ _ 1 _ _ _ b0
  have c2 := cell_of_row _ _ 2 _ _ _ b0
  have c3 := cell_of_row _ _ 3 _ _ _ b0
  have c4 := cell_of_row _ _ 4 _ _ _ b0
  go_upto_region 3 with (first
    | (go_at_call 10; refine (hgood.out _).mono ?_; rintro r w2 ⟨rfl, g2⟩)
    | (go_at_call 21; refine (hw1.out _).mono ?_; clear hw1; rintro r w' ⟨rfl, rfl⟩)
    | (go_at_call 21; refine (hw2.out _).mono ?_; clear hw2; rintro r w' ⟨rfl, rfl⟩))
  obtain ⟨W2, hW2⟩ : ∃ W, w' = W := ⟨_, rfl⟩
  rw [hW2] at g2 ⊢
  clear hW2
  replace b0 := g2.block b0
  replace b1 := g2.block b1
  replace n1 := n1.trans g2
  replace s1 := Nat.le_trans (Nat.le_of_eq s1.symm) g2.size
  clear g2 c0 c1 c2 c3 c4
  go_upto_region 4 with (fail)
  obtain ⟨W3, hW3⟩ : ∃ W3, W2.alloc (.cells #[.int .u64 0, .int .u64 0, .int .u64 0, .int .u64 0, .int .u64 0, .int .u64 0, .int .u64 0, .int .i64 (S : Int)] 26) = W3 := ⟨_, rfl⟩
  have n3 : Nb W2 W3 := by rw [← hW3]; exact alloc_nb _ _
  have b2 : W3.heap[W2.heap.size]? = some (.cells #[.int .u64 0, .int .u64 0, .int .u64 0, .int .u64 0, .int .u64 0, .int .u64 0, .int .u64 0, .int .i64 (S : Int)] 26 (0, 0)) := by rw [← hW3]; exact new_blk _ _ rfl
  rw [hW3]
  clear hW3
  obtain ⟨H2, hH2⟩ : ∃ H2, W2.heap.size = H2 := ⟨_, rfl⟩
  rw [hH2] at s1 b2 ⊢
  have hL0 : LayV w W3 (#[.int .i64 x0, .int .i64 (A : Int), .int .i64 (B : Int), .int .i64 (W : Int), .int .i64 x4] : Array Value).toList [.int .u64 0, .int .u64 0, .int .u64 0, .int .u64 0, .int .u64 0, .int .u64 0, .int .u64 0, .int .i64 (S : Int)] H H1 H2 := ⟨n3.block b0, n3.block b1, b2, n1.trans n3, by omega⟩
  clear b0 b1 b2 n1 n3 s1 hH hH1 hH2
  have hpr : IntKind.u64.wrap ((A : Int) * (az : Int)) = (aa : Int) := by
    have h : ((A : Int) * (az : Int)) = ((az * A : Nat) : Int) := by rw [Int.natCast_mul, Int.mul_comm]
    rw [h, haa, IntKind.wrap_u64]
    omega
  go_loopw [] (fun wr => ∃ n : Nat, 64 * n < 4 * C + 64 ∧ LayV w wr (#[.int .i64 x0, .int .i64 (A : Int), .int .i64 (B : Int), .int .i64 (W : Int), .int .i64 x4] : Array Value).toList [.int .u64 0, .int .u64 ((64 * n : Nat) : Int), .int .u64 0, .int .u64 0, .int .u64 0, .int .u64 0, .int .u64 0, .int .i64 (S : Int)] H H1 H2) (fun wr => 300000 - cellI wr ⟨H2, 1, none⟩)
  case atStart => exact ⟨0, by omega, hL0⟩
  case round =>
    obtain ⟨n, hn, hL⟩ := hrel
    have z1 := cell_of_row _ _ 1 _ _ _ hL.b2
    have f1 := frozen_bk hL.b2 1
    have hcn : cellI wr ⟨H2, 1, none⟩ = 64 * n := by unfold cellI; rw [z1]; simp [intOf] <;> omega
    replace z1 : wr.cell? ⟨H2, 1, none⟩ = some (.int .u64 (64 * (n : Int))) := by rw [z1]; simp
    rw [hcn]
    clear hcn
    by_cases hlt : 64 * n < 4 * C
    · have q1 : decide (64 * (n : Int) < 4 * (C : Int)) = true := decide_eq_true (by omega)
      have hLh := Lib.hid hL
      clear hL hL0
      go_wp2_with fail
      have hL := hLh.out.put (W' := wr.setCell ⟨H2, 1, none⟩ (.int .u64 (64 * (n : Int) + 64))) rfl (show _ = [.int .u64 0, .int .u64 ((64 * (n + 1) : Nat) : Int), .int .u64 0, .int .u64 0, .int .u64 0, .int .u64 0, .int .u64 0, .int .i64 (S : Int)] by simp <;> omega)
      refine ⟨⟨n + 1, by omega, hL⟩, ?_⟩
      unfold cellI
      rw [cell_of_row _ _ 1 _ _ _ hL.b2]
      simp [intOf]
      omega
    · have q1 : decide (64 * (n : Int) < 4 * (C : Int)) = false := decide_eq_false (by omega)
      obtain rfl : 64 * n = g := by omega
      obtain ⟨g, hgg⟩ : ∃ g, 64 * n = g := ⟨_, rfl⟩
      have e1 : 64 * (n : Int) = (g : Int) := by omega
      rw [e1] at z1 q1
      rw [hgg] at hL hgl hg2 ⊢
      have e1h := Lib.hid e1
      clear e1 hgg hL0
      replace hL : LayV w wr (#[.int .i64 x0, .int .i64 (A : Int), .int .i64 (B : Int), .int .i64 (W : Int), .int .i64 x4] : Array Value).toList [.int .u64 0, .int .u64 (g : Int), .int .u64 0, .int .u64 0, .int .u64 0, .int .u64 0, .int .u64 0, .int .i64 (S : Int)] H H1 H2 := hL
      have q1 := cell_of_row _ _ 1 _ _ _ hL.b0
      have q2 := cell_of_row _ _ 2 _ _ _ hL.b0
      have q3 := cell_of_row _ _ 3 _ _ _ hL.b0
      have z1 := cell_of_row _ _ 1 _ _ _ hL.b2
      have z2 := cell_of_row _ _ 2 _ _ _ hL.b2
      have f2 := frozen_bk hL.b2 2
      have hL0 := Lib.hid hL
      clear hL
      go_upto_region 7 with (fail)
      obtain ⟨V0, hV0⟩ : ∃ V, World.setCell wr ⟨H2, 2, none⟩ (.int .u64 ((g : Int) + 64)) = V := ⟨_, rfl⟩
      have hL := hL0.out.put hV0 (show _ = [.int .u64 0, .int .u64 (g : Int), .int .u64 ((g : Int) + 64), .int .u64 0, .int .u64 0, .int .u64 0, .int .u64 0, .int .i64 (S : Int)] from rfl)
      rw [hV0]
      clear hV0 hL0 f2 q1 q2 q3 z1 z2
      have q1 := cell_of_row _ _ 1 _ _ _ hL.b0
      have q2 := cell_of_row _ _ 2 _ _ _ hL.b0
      have q3 := cell_of_row _ _ 3 _ _ _ hL.b0
      have z3 := cell_of_row _ _ 3 _ _ _ hL.b2
      have f3 := frozen_bk hL.b2 3
      have hL1 := Lib.hid hL
      clear hL
      have e1 : (8 * (12 + (S : Int) + 2 * (W : Int))) = (az : Int) := by omega
      go_upto_region 8 with (fail)
      obtain ⟨V1, hV1⟩ : ∃ V, World.setCell V0 ⟨H2, 3, none⟩ (.int .u64 (az : Int)) = V := ⟨_, rfl⟩
      have hL := hL1.out.put hV1 (show _ = [.int .u64 0, .int .u64 (g : Int), .int .u64 ((g : Int) + 64), .int .u64 (az : Int), .int .u64 0, .int .u64 0, .int .u64 0, .int .i64 (S : Int)] from rfl)
      rw [hV1]
      clear hV1 hL1 f3 q1 q2 q3 z3 e1
      have q1 := cell_of_row _ _ 1 _ _ _ hL.b0
      have q2 := cell_of_row _ _ 2 _ _ _ hL.b0
      have q3 := cell_of_row _ _ 3 _ _ _ hL.b0
      have z2 := cell_of_row _ _ 2 _ _ _ hL.b2
      have z3 := cell_of_row _ _ 3 _ _ _ hL.b2
      have z4 := cell_of_row _ _ 4 _ _ _ hL.b2
      have f4 := frozen_bk hL.b2 4
      have hL2 := Lib.hid hL
      clear hL
      go_upto_region 9 with (fail)
      obtain ⟨V2, hV2⟩ : ∃ V, World.setCell V1 ⟨H2, 4, none⟩ (.int .u64 ((g : Int) + 64 + (aa : Int))) = V := ⟨_, rfl⟩
      have hL := hL2.out.put hV2 (show _ = [.int .u64 0, .int .u64 (g : Int), .int .u64 ((g : Int) + 64), .int .u64 (az : Int), .int .u64 ((g : Int) + 64 + (aa : Int)), .int .u64 0, .int .u64 0, .int .i64 (S : Int)] from rfl)
      rw [hV2]
      clear hV2 hL2 f4 q1 q2 q3 z2 z3 z4
      have q1 := cell_of_row _ _ 1 _ _ _ hL.b0
      have q2 := cell_of_row _ _ 2 _ _ _ hL.b0
      have q3 := cell_of_row _ _ 3 _ _ _ hL.b0
      have z5 := cell_of_row _ _ 5 _ _ _ hL.b2
      have f5 := frozen_bk hL.b2 5
      have hL3 := Lib.hid hL
      clear hL
      go_upto_region 10 with (fail)
      obtain ⟨V3, hV3⟩ : ∃ V, World.setCell V2 ⟨H2, 5, none⟩ (.int .u64 256) = V := ⟨_, rfl⟩
      have hL := hL3.out.put hV3 (show _ = [.int .u64 0, .int .u64 (g : Int), .int .u64 ((g : Int) + 64), .int .u64 (az : Int), .int .u64 ((g : Int) + 64 + (aa : Int)), .int .u64 256, .int .u64 0, .int .i64 (S : Int)] from rfl)
      rw [hV3]
      clear hV3 hL3 f5 q1 q2 q3 z5
      have q1 := cell_of_row _ _ 1 _ _ _ hL.b0
      have q2 := cell_of_row _ _ 2 _ _ _ hL.b0
      have q3 := cell_of_row _ _ 3 _ _ _ hL.b0
      have z4 := cell_of_row _ _ 4 _ _ _ hL.b2
      have z6 := cell_of_row _ _ 6 _ _ _ hL.b2
      have f6 := frozen_bk hL.b2 6
      have hL4 := Lib.hid hL
      clear hL
      go_upto_region 11 with (fail)
      obtain ⟨V4, hV4⟩ : ∃ V, World.setCell V3 ⟨H2, 6, none⟩ (.int .u64 ((g : Int) + 64 + (aa : Int) + 256 * (B : Int))) = V := ⟨_, rfl⟩
      have hL := hL4.out.put hV4 (show _ = [.int .u64 0, .int .u64 (g : Int), .int .u64 ((g : Int) + 64), .int .u64 (az : Int), .int .u64 ((g : Int) + 64 + (aa : Int)), .int .u64 256, .int .u64 ((g : Int) + 64 + (aa : Int) + 256 * (B : Int)), .int .i64 (S : Int)] from rfl)
      rw [hV4]
      clear hV4 hL4 f6 q1 q2 q3 z4 z6
      have b1 := hL.b1
      have z0 := cell_of_row _ _ 0 _ _ _ hL.b2
      have y0 := cell_of_row _ _ 0 _ _ _ b1
      have f0 := frozen_bk b1 0
      have z1 := cell_of_row _ _ 1 _ _ _ hL.b2
      have y1 := cell_of_row _ _ 1 _ _ _ b1
      have f1 := frozen_bk b1 1
      have z2 := cell_of_row _ _ 2 _ _ _ hL.b2
      have y2 := cell_of_row _ _ 2 _ _ _ b1
      have f2 := frozen_bk b1 2
      have z3 := cell_of_row _ _ 3 _ _ _ hL.b2
      have y3 := cell_of_row _ _ 3 _ _ _ b1
      have f3 := frozen_bk b1 3
      have z4 := cell_of_row _ _ 4 _ _ _ hL.b2
      have y4 := cell_of_row _ _ 4 _ _ _ b1
      have f4 := frozen_bk b1 4
      have z5 := cell_of_row _ _ 5 _ _ _ hL.b2
      have y5 := cell_of_row _ _ 5 _ _ _ b1
      have f5 := frozen_bk b1 5
      have z6 := cell_of_row _ _ 6 _ _ _ hL.b2
      have y6 := cell_of_row _ _ 6 _ _ _ b1
      have f6 := frozen_bk b1 6
      have z7 := cell_of_row _ _ 7 _ _ _ hL.b2
      have y7 := cell_of_row _ _ 7 _ _ _ b1
      have f7 := frozen_bk b1 7
      have hend : decide (16777216 < (g : Int) + 64 + (aa : Int) + 256 * (B : Int)) = false := decide_eq_false (by omega)
      have hLh := Lib.hid hL
      have b1h := Lib.hid b1
      clear hL b1
      go_wp2_with fail
      refine bodyPost_ret (results_rt rfl _ _ H1 _ rfl (run_loadVar_row _ _ _ _ _ _ _ (set8_all b1h.out) Try.underlying26 rfl (by kernel_rfl))) rfl ?_
      exact ⟨by first | rfl | (simp; exact e1h.out.symm), nb8 hLh.out.nb (by have := hLh.out.lt; omega)⟩
end Go.Proofs.Ytojogolmcclpoaa
