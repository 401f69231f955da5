/-
  Proved here: where the code of image lays all, of a config that may be; and that it refuses others. Conditions: none.
-/
import Derived.Test.YtojogolmcclpoaaUb
namespace Go.Proofs.Ytojogolmcclpoaa
open Go.RowKit
set_option linter.unusedVariables false
set_option linter.unusedSimpArgs false
set_option maxRecDepth 100000
set_option maxHeartbeats 4000000
/-- The layout of a config, code and slots. -/
def layN (C S A B W : Nat) : Ly :=
  ⟨0, ((4 * C + 63) / 64 * 64 : Nat), ((4 * C + 63) / 64 * 64 + 64 : Nat), (8 * (12 + S + 2 * W) : Nat), ((4 * C + 63) / 64 * 64 + 64 + 8 * (12 + S + 2 * W) * A : Nat), 256, ((4 * C + 63) / 64 * 64 + 64 + 8 * (12 + S + 2 * W) * A + 256 * B : Nat), S⟩
def Ly.zero : Ly := ⟨0, 0, 0, 0, 0, 0, 0, 0⟩
/-- May a layout be? -/
def okL (c : Cf) (code slots : Int) : Bool := c.good && (inB code 0 65536 && inB slots 1 256)
theorem set_other {w : World} {g n k : Nat} {o : Obj} {v : Value} (h : w.heap[n]? = some o) (hne : n ≠ g) : (w.setCell ⟨g, k, none⟩ v).heap[n]? = some o := by
  simp [World.setCell, Array.getElem?_modify, h]
  omega
theorem size_alloc1 (w : World) (o : Obj) : (w.alloc o).heap.size = w.heap.size + 1 := by show (w.heap.push _).size = _; exact Array.size_push ..
/-- What the memory has while all is laid. -/
structure LayW (w W : World) (cf lc : List Value) (B0 B1 B2 B3 : Nat) (nx : Int) : Prop where
  b0 : W.heap[B0]? = some (.cells cf.toArray 23 (0, 0))
  b1 : W.heap[B1]? = some (.cells Ly.zero.cells.toArray 26 (0, 0))
  b2 : W.heap[B2]? = some (.cells lc.toArray 26 (0, 0))
  b3 : W.heap[B3]? = some (.cells #[.int .u64 nx] 24 (0, 0))
  nb : Nb w W
  lt : w.heap.size ≤ B0 ∧ B0 < B1 ∧ B1 < B2 ∧ B2 < B3
theorem LayW.mid {w W W' : World} {cf lc : List Value} {B0 B1 B2 B3 : Nat} {nx : Int} (h : LayW w W cf lc B0 B1 B2 B3 nx) {n m : Int} (hw : W' = W.setCell ⟨B3, 0, none⟩ (.int .u64 n)) (hn : n = m) : LayW w W' cf lc B0 B1 B2 B3 m := by
  obtain ⟨l0, l1, l2, l3⟩ := h.lt
  subst hw hn
  exact ⟨set_other h.b0 (by omega), set_other h.b1 (by omega), set_other h.b2 (by omega), by rw [set_bk h.b3 0 _]; rfl, h.nb.setCell (p := ⟨B3, 0, none⟩) (by show _ ≤ B3; omega) _, h.lt⟩
theorem LayW.put {w W W' : World} {cf lc ld : List Value} {B0 B1 B2 B3 : Nat} {nx : Int} (h : LayW w W cf lc B0 B1 B2 B3 nx) {k : Nat} {u : Value} (hw : W.setCell ⟨B2, k, none⟩ u = W') (hl : lc.set k u = ld) : LayW w W' cf ld B0 B1 B2 B3 nx := by
  obtain ⟨l0, l1, l2, l3⟩ := h.lt
  subst hw hl
  exact ⟨set_other h.b0 (by omega), set_other h.b1 (by omega), by rw [set_bk h.b2 k u]; simp, set_other h.b3 (by omega), h.nb.setCell (p := ⟨B2, k, none⟩) (by show _ ≤ B2; omega) _, h.lt⟩
theorem results_rt {fn : Func} {p u : Tmp} {ty : TypeId} {P : Program} (h : fn.results = #[.cell p ty, .tmp u]) (tmps : Array Value) (w : World) (g : Nat) (cs : Array Value)
    (hp : tmps.getD p undef = .pointer (some ⟨g, 0, none⟩)) (hl : (loadVar ty ⟨g, 0, none⟩).run P w = .ok (.agg cs) w) :
    (results fn tmps).run P w = .ok (.tuple #[.agg cs, tmps.getD u undef]) w := by
  rw [results_cell_tmp h, hp]
  have e : (asAddr (.pointer (some ⟨g, 0, none⟩))).run P w = .ok ⟨g, 0, none⟩ w := rfl
  rw [e]
  simp only [Result.andThen_ok, hl]
theorem set8_all {w : World} {S : Nat} {t : TypeId} {a0 a1 a2 a3 a4 a5 a6 a7 x0 x1 x2 x3 x4 x5 x6 x7 : Value} (h : w.heap[S]? = some (.cells #[a0, a1, a2, a3, a4, a5, a6, a7] t (0, 0))) :
    ((((((((w.setCell ⟨S, 0, none⟩ x0).setCell ⟨S, 1, none⟩ x1).setCell ⟨S, 2, none⟩ x2).setCell ⟨S, 3, none⟩ x3).setCell ⟨S, 4, none⟩ x4).setCell ⟨S, 5, none⟩ x5).setCell ⟨S, 6, none⟩ x6).setCell ⟨S, 7, none⟩ x7).heap[S]? = some (.cells #[x0, x1, x2, x3, x4, x5, x6, x7] t (0, 0)) := by
  have h0 := set_bk h 0 x0
  have h1 := set_bk h0 1 x1
  have h2 := set_bk h1 2 x2
  have h3 := set_bk h2 3 x3
  have h4 := set_bk h3 4 x4
  have h5 := set_bk h4 5 x5
  have h6 := set_bk h5 6 x6
  have h7 := set_bk h6 7 x7
  simpa using h7
theorem nb8 {u w : World} {S : Nat} {x0 x1 x2 x3 x4 x5 x6 x7 : Value} (h : Nb u w) (hS : u.heap.size ≤ S) :
    Nb u ((((((((w.setCell ⟨S, 0, none⟩ x0).setCell ⟨S, 1, none⟩ x1).setCell ⟨S, 2, none⟩ x2).setCell ⟨S, 3, none⟩ x3).setCell ⟨S, 4, none⟩ x4).setCell ⟨S, 5, none⟩ x5).setCell ⟨S, 6, none⟩ x6).setCell ⟨S, 7, none⟩ x7) :=
  (((((((h.setCell (p := ⟨S, 0, none⟩) hS _).setCell (p := ⟨S, 1, none⟩) hS _).setCell (p := ⟨S, 2, none⟩) hS _).setCell (p := ⟨S, 3, none⟩) hS _).setCell (p := ⟨S, 4, none⟩) hS _).setCell (p := ⟨S, 5, none⟩) hS _).setCell (p := ⟨S, 6, none⟩) hS _).setCell (p := ⟨S, 7, none⟩) hS _
theorem lay_ok (C S A B W : Nat) (x0 x4 : Int) (hg : (Cf.mk x0 A B W x4).good = true) (hC : C ≤ 65536) (hS : 1 ≤ S ∧ S ≤ 256) (w : World) :
    Calls Try.prog 7 #[(Cf.mk x0 A B W x4).v, .int .i64 (C : Int), .int .i64 (S : Int)] w fun e w' => e = .returned (.tuple #[(layN C S A B W).v, .int .i64 0]) ∧ Nb w w' := by
  have hgood := Lib.hid (fun w => good_any (Cf.mk x0 A B W x4) w)
  have hr : A ≤ 64 ∧ B ≤ 256 ∧ W ≤ 1024 := by
    unfold Cf.good inB at hg
    simp only [Bool.and_eq_true, decide_eq_true_eq] at hg
    omega
  rw [hg] at hgood
  obtain ⟨hA, hB, hW⟩ := hr
  clear hg
  have hprod : 8 * (12 + S + 2 * W) * A ≤ 18528 * 64 := Nat.mul_le_mul (by omega) hA
  obtain ⟨az, has⟩ : ∃ n, 8 * (12 + S + 2 * W) = n := ⟨_, rfl⟩
  obtain ⟨aa, haa⟩ : ∃ n, az * A = n := ⟨_, rfl⟩
  obtain ⟨g, hgl⟩ : ∃ n, (4 * C + 63) / 64 * 64 = n := ⟨_, rfl⟩
  have hg2 : g ≤ 300000 := by omega
  have hlines := fun w => lines_any (4 * C) (by omega) w
  rw [show ((4 * C : Nat) : Int) = 4 * (C : Int) by omega] at hlines
  replace hlines := Lib.hid hlines
  have hly : (layN C S A B W).v = .agg #[.int .u64 0, .int .u64 (g : Int), .int .u64 ((g : Int) + 64), .int .u64 (az : Int), .int .u64 ((g : Int) + 64 + (aa : Int)), .int .u64 256, .int .u64 ((g : Int) + 64 + (aa : Int) + 256 * (B : Int)), .int .i64 (S : Int)] := by
    unfold layN
    rw [has, haa, hgl]
    simp [Ly.v, Ly.cells]
  rw [hgl] at hlines
  rw [has, haa] at hprod
  rw [hly]
  clear hly hgl
  have w1 : inB (C : Int) 0 65536 = true := decide_eq_true (by omega)
  have w2 : inB (S : Int) 1 256 = true := decide_eq_true (by omega)
  have hw1 := Lib.hid (fun w => within_any (C : Int) 0 65536 w)
  have hw2 := Lib.hid (fun w => within_any (S : Int) 1 256 w)
  rw [w1] at hw1
  rw [w2] at hw2
  clear w1 w2
  show Calls Try.prog 7 #[.agg #[.int .i64 x0, .int .i64 (A : Int), .int .i64 (B : Int), .int .i64 (W : Int), .int .i64 x4], .int .i64 (C : Int), .int .i64 (S : Int)] w _
  change Hid (∀ w, Calls Try.prog 9 #[.agg #[.int .i64 x0, .int .i64 (A : Int), .int .i64 (B : Int), .int .i64 (W : Int), .int .i64 x4]] w _) at hgood
  go_enter Try.func7, Try.ntmps7
  go_upto_region 1 with (fail)
  obtain ⟨W1, hW1⟩ : ∃ W1, (w.alloc (.cells #[.int .i64 x0, .int .i64 (A : Int), .int .i64 (B : Int), .int .i64 (W : Int), .int .i64 x4] 23)).alloc (.cells #[.int .u64 0, .int .u64 0, .int .u64 0, .int .u64 0, .int .u64 0, .int .u64 0, .int .u64 0, .int .i64 0] 26) = W1 := ⟨_, rfl⟩
  have n1 : Nb w W1 := by rw [← hW1]; exact (alloc_nb _ _).trans (alloc_nb _ _)
  have s1 : W1.heap.size = w.heap.size + 2 := by rw [← hW1, size_alloc1, size_alloc1]
  have b0 : W1.heap[w.heap.size]? = some (.cells #[.int .i64 x0, .int .i64 (A : Int), .int .i64 (B : Int), .int .i64 (W : Int), .int .i64 x4] 23 (0, 0)) := by rw [← hW1]; exact (alloc_nb _ _).block (new_blk _ _ rfl)
  have b1 : W1.heap[w.heap.size + 1]? = some (.cells #[.int .u64 0, .int .u64 0, .int .u64 0, .int .u64 0, .int .u64 0, .int .u64 0, .int .u64 0, .int .i64 0] 26 (0, 0)) := by rw [← hW1]; exact new_blk _ _ (size_alloc1 _ _)
  rw [hW1]
  clear hW1
  obtain ⟨H, hH⟩ : ∃ H, w.heap.size = H := ⟨_, rfl⟩
  rw [hH] at s1 b0 b1 ⊢
  obtain ⟨H1, hH1⟩ : ∃ H1, H + 1 = H1 := ⟨_, rfl⟩
  rw [hH1] at b1 ⊢
  have c1 := cell_of_row _ _ 1 _ _ _ b0
  have c0 := cell_of_row _ _ 0 _ _ _ b0
  have c2 := cell_of_row _ _ 2 _ _ _ b0
  have c3 := cell_of_row _ _ 3 _ _ _ b0
  have c4 := cell_of_row _ _ 4 _ _ _ b0
  go_upto_region 3 with (first
    | (go_at_call 9; refine (hgood.out _).mono ?_; rintro r w2 ⟨rfl, g2⟩)
    | (go_at_call 18; refine (hw1.out _).mono ?_; clear hw1; rintro r w' ⟨rfl, rfl⟩)
    | (go_at_call 18; refine (hw2.out _).mono ?_; clear hw2; rintro r w' ⟨rfl, rfl⟩))
  obtain ⟨W2, hW2⟩ : ∃ W, w' = W := ⟨_, rfl⟩
  rw [hW2] at g2 ⊢
  clear hW2
  replace b0 := g2.block b0
  replace b1 := g2.block b1
  replace c0 := g2.cell c0; replace c1 := g2.cell c1; replace c2 := g2.cell c2; replace c3 := g2.cell c3; replace c4 := g2.cell c4
  replace n1 := n1.trans g2
  replace s1 := Nat.le_trans (Nat.le_of_eq s1.symm) g2.size
  clear g2
  have e1 : (8 * (12 + (S : Int) + 2 * (W : Int))) = (az : Int) := by omega
  go_upto_region 4 with (fail)
  clear e1
  obtain ⟨W3, hW3⟩ : ∃ W3, W2.alloc (.cells #[.int .u64 0, .int .u64 0, .int .u64 0, .int .u64 (az : Int), .int .u64 0, .int .u64 256, .int .u64 0, .int .i64 (S : Int)] 26) = W3 := ⟨_, rfl⟩
  have s3 : W3.heap.size = W2.heap.size + 1 := by rw [← hW3, size_alloc1]
  have n3 : Nb W2 W3 := by rw [← hW3]; exact alloc_nb _ _
  have b2 : W3.heap[W2.heap.size]? = some (.cells #[.int .u64 0, .int .u64 0, .int .u64 0, .int .u64 (az : Int), .int .u64 0, .int .u64 256, .int .u64 0, .int .i64 (S : Int)] 26 (0, 0)) := by rw [← hW3]; exact new_blk _ _ rfl
  rw [hW3]
  clear hW3
  obtain ⟨H2, hH2⟩ : ∃ H2, W2.heap.size = H2 := ⟨_, rfl⟩
  rw [hH2] at s1 s3 b2 ⊢
  clear c0 c1 c2 c3 c4
  go_upto_region 5 with (fail)
  obtain ⟨W4, hW4⟩ : ∃ W4, W3.alloc (.cells #[.int .u64 0] 24) = W4 := ⟨_, rfl⟩
  have n4 : Nb W3 W4 := by rw [← hW4]; exact alloc_nb _ _
  have b3 : W4.heap[W3.heap.size]? = some (.cells #[.int .u64 0] 24 (0, 0)) := by rw [← hW4]; exact new_blk _ _ rfl
  rw [hW4]
  clear hW4
  rw [s3] at b3
  obtain ⟨H3, hH3⟩ : ∃ H3, H2 + 1 = H3 := ⟨_, rfl⟩
  rw [hH3] at b3 ⊢
  have hL : LayW w W4 (#[.int .i64 x0, .int .i64 (A : Int), .int .i64 (B : Int), .int .i64 (W : Int), .int .i64 x4] : Array Value).toList (#[.int .u64 0, .int .u64 0, .int .u64 0, .int .u64 (az : Int), .int .u64 0, .int .u64 256, .int .u64 0, .int .i64 (S : Int)] : Array Value).toList H H1 H2 H3 0 := ⟨n4.block (n3.block b0), n4.block (n3.block b1), n4.block b2, b3, n1.trans (n3.trans n4), by omega⟩
  clear b0 b1 b2 b3 n1 n3 n4 s1 s3 hH hH1 hH2 hH3
  have hmf : ∀ (fn : Fn) (first cap : Array Value) (w : World), (Instr.makeFunc fn first cap).run Try.prog w = .ok (.func fn first cap) w := fun _ _ _ _ => rfl
  have hpr : IntKind.u64.wrap ((az : Int) * (A : Int)) = (aa : Int) := by
    have h : ((az : Int) * (A : Int)) = ((az * A : Nat) : Int) := by rw [Int.natCast_mul]
    rw [h, haa, IntKind.wrap_u64]
    omega
  have k0_0 := cell_of_row _ _ 0 _ _ _ hL.b3
  have q1_0 := cell_of_row _ _ 1 _ _ _ hL.b0
  have q2_0 := cell_of_row _ _ 2 _ _ _ hL.b0
  have q3_0 := cell_of_row _ _ 3 _ _ _ hL.b2
  have q5_0 := cell_of_row _ _ 5 _ _ _ hL.b2
  have hP0 := Lib.hid (place_any H3 0 (g : Int) (by omega) (by omega) _ hL.b3)
  have hL0 := Lib.hid hL
  clear hL
  go_upto_region 7 with (first
    | (go_at_call 20; refine (hlines.out _).mono ?_; rintro r w'' ⟨rfl, rfl⟩)
    | (go_at_call 19; refine hP0.out.mono ?_; rintro r w5 ⟨rfl, hw5⟩; have hM := hL0.out.mid hw5 (show _ = (g : Int) by omega); have m2 := cell_of_row _ _ 0 _ _ _ hM.b2; have f2 := frozen_bk hM.b2 0; clear hw5))
  obtain ⟨V0, hV0⟩ : ∃ V, w5.setCell ⟨H2, 0, none⟩ (.int .u64 0) = V := ⟨_, rfl⟩
  have hL := hM.put hV0 (show _ = [.int .u64 0, .int .u64 0, .int .u64 0, .int .u64 (az : Int), .int .u64 0, .int .u64 256, .int .u64 0, .int .i64 (S : Int)] from rfl)
  rw [hV0]
  clear hV0 hM m2 f2 hP0 hL0 k0_0 q1_0 q2_0 q3_0 q5_0
  have k0_1 := cell_of_row _ _ 0 _ _ _ hL.b3
  have q1_1 := cell_of_row _ _ 1 _ _ _ hL.b0
  have q2_1 := cell_of_row _ _ 2 _ _ _ hL.b0
  have q3_1 := cell_of_row _ _ 3 _ _ _ hL.b2
  have q5_1 := cell_of_row _ _ 5 _ _ _ hL.b2
  have hP1 := Lib.hid (place_any H3 (g : Int) 64 (by omega) (by omega) _ hL.b3)
  have hL1 := Lib.hid hL
  clear hL
  go_upto_region 8 with (first
    | (go_at_call 20; refine (hlines.out _).mono ?_; rintro r w'' ⟨rfl, rfl⟩)
    | (go_at_call 19; refine hP1.out.mono ?_; rintro r w5 ⟨rfl, hw5⟩; have hM := hL1.out.mid hw5 (show _ = ((g : Int) + 64) by omega); have m2 := cell_of_row _ _ 1 _ _ _ hM.b2; have f2 := frozen_bk hM.b2 1; clear hw5))
  obtain ⟨V1, hV1⟩ : ∃ V, w5.setCell ⟨H2, 1, none⟩ (.int .u64 (g : Int)) = V := ⟨_, rfl⟩
  have hL := hM.put hV1 (show _ = [.int .u64 0, .int .u64 (g : Int), .int .u64 0, .int .u64 (az : Int), .int .u64 0, .int .u64 256, .int .u64 0, .int .i64 (S : Int)] from rfl)
  rw [hV1]
  clear hV1 hM m2 f2 hP1 hL1 k0_1 q1_1 q2_1 q3_1 q5_1
  have k0_2 := cell_of_row _ _ 0 _ _ _ hL.b3
  have q1_2 := cell_of_row _ _ 1 _ _ _ hL.b0
  have q2_2 := cell_of_row _ _ 2 _ _ _ hL.b0
  have q3_2 := cell_of_row _ _ 3 _ _ _ hL.b2
  have q5_2 := cell_of_row _ _ 5 _ _ _ hL.b2
  have hP2 := Lib.hid (place_any H3 ((g : Int) + 64) (aa : Int) (by omega) (by omega) _ hL.b3)
  have hL2 := Lib.hid hL
  clear hL
  go_upto_region 9 with (first
    | (go_at_call 20; refine (hlines.out _).mono ?_; rintro r w'' ⟨rfl, rfl⟩)
    | (go_at_call 19; refine hP2.out.mono ?_; rintro r w5 ⟨rfl, hw5⟩; have hM := hL2.out.mid hw5 (show _ = ((g : Int) + 64 + (aa : Int)) by omega); have m2 := cell_of_row _ _ 2 _ _ _ hM.b2; have f2 := frozen_bk hM.b2 2; clear hw5))
  obtain ⟨V2, hV2⟩ : ∃ V, w5.setCell ⟨H2, 2, none⟩ (.int .u64 ((g : Int) + 64)) = V := ⟨_, rfl⟩
  have hL := hM.put hV2 (show _ = [.int .u64 0, .int .u64 (g : Int), .int .u64 ((g : Int) + 64), .int .u64 (az : Int), .int .u64 0, .int .u64 256, .int .u64 0, .int .i64 (S : Int)] from rfl)
  rw [hV2]
  clear hV2 hM m2 f2 hP2 hL2 k0_2 q1_2 q2_2 q3_2 q5_2
  have k0_3 := cell_of_row _ _ 0 _ _ _ hL.b3
  have q1_3 := cell_of_row _ _ 1 _ _ _ hL.b0
  have q2_3 := cell_of_row _ _ 2 _ _ _ hL.b0
  have q3_3 := cell_of_row _ _ 3 _ _ _ hL.b2
  have q5_3 := cell_of_row _ _ 5 _ _ _ hL.b2
  have hP3 := Lib.hid (place_any H3 ((g : Int) + 64 + (aa : Int)) (256 * (B : Int)) (by omega) (by omega) _ hL.b3)
  have hL3 := Lib.hid hL
  clear hL
  go_upto_region 10 with (first
    | (go_at_call 20; refine (hlines.out _).mono ?_; rintro r w'' ⟨rfl, rfl⟩)
    | (go_at_call 19; refine hP3.out.mono ?_; rintro r w5 ⟨rfl, hw5⟩; have hM := hL3.out.mid hw5 (show _ = ((g : Int) + 64 + (aa : Int) + 256 * (B : Int)) by omega); have m2 := cell_of_row _ _ 4 _ _ _ hM.b2; have f2 := frozen_bk hM.b2 4; clear hw5))
  obtain ⟨V3, hV3⟩ : ∃ V, w5.setCell ⟨H2, 4, none⟩ (.int .u64 ((g : Int) + 64 + (aa : Int))) = V := ⟨_, rfl⟩
  have hL := hM.put hV3 (show _ = [.int .u64 0, .int .u64 (g : Int), .int .u64 ((g : Int) + 64), .int .u64 (az : Int), .int .u64 ((g : Int) + 64 + (aa : Int)), .int .u64 256, .int .u64 0, .int .i64 (S : Int)] from rfl)
  rw [hV3]
  clear hV3 hM m2 f2 hP3 hL3 k0_3 q1_3 q2_3 q3_3 q5_3
  have k0_4 := cell_of_row _ _ 0 _ _ _ hL.b3
  have q1_4 := cell_of_row _ _ 1 _ _ _ hL.b0
  have q2_4 := cell_of_row _ _ 2 _ _ _ hL.b0
  have q3_4 := cell_of_row _ _ 3 _ _ _ hL.b2
  have q5_4 := cell_of_row _ _ 5 _ _ _ hL.b2
  have hP4 := Lib.hid (place_any H3 ((g : Int) + 64 + (aa : Int) + 256 * (B : Int)) 0 (by omega) (by omega) _ hL.b3)
  have hL4 := Lib.hid hL
  clear hL
  go_upto_region 11 with (first
    | (go_at_call 20; refine (hlines.out _).mono ?_; rintro r w'' ⟨rfl, rfl⟩)
    | (go_at_call 19; refine hP4.out.mono ?_; rintro r w5 ⟨rfl, hw5⟩; have hM := hL4.out.mid hw5 (show _ = ((g : Int) + 64 + (aa : Int) + 256 * (B : Int)) by omega); have m2 := cell_of_row _ _ 6 _ _ _ hM.b2; have f2 := frozen_bk hM.b2 6; clear hw5))
  obtain ⟨V4, hV4⟩ : ∃ V, w5.setCell ⟨H2, 6, none⟩ (.int .u64 ((g : Int) + 64 + (aa : Int) + 256 * (B : Int))) = V := ⟨_, rfl⟩
  have hL := hM.put hV4 (show _ = [.int .u64 0, .int .u64 (g : Int), .int .u64 ((g : Int) + 64), .int .u64 (az : Int), .int .u64 ((g : Int) + 64 + (aa : Int)), .int .u64 256, .int .u64 ((g : Int) + 64 + (aa : Int) + 256 * (B : Int)), .int .i64 (S : Int)] from rfl)
  rw [hV4]
  clear hV4 hM m2 f2 hP4 hL4 k0_4 q1_4 q2_4 q3_4 q5_4
  have b1 : V4.heap[H1]? = some (.cells #[.int .u64 0, .int .u64 0, .int .u64 0, .int .u64 0, .int .u64 0, .int .u64 0, .int .u64 0, .int .i64 0] 26 (0, 0)) := hL.b1
  have z0 := cell_of_row _ _ 0 _ _ _ hL.b2
  have y0 := cell_of_row _ _ 0 _ _ _ b1
  have f0 := frozen_bk b1 0
  have z1 := cell_of_row _ _ 1 _ _ _ hL.b2
  have y1 := cell_of_row _ _ 1 _ _ _ b1
  have f1 := frozen_bk b1 1
  have z2 := cell_of_row _ _ 2 _ _ _ hL.b2
  have y2 := cell_of_row _ _ 2 _ _ _ b1
  have f2 := frozen_bk b1 2
  have z3 := cell_of_row _ _ 3 _ _ _ hL.b2
  have y3 := cell_of_row _ _ 3 _ _ _ b1
  have f3 := frozen_bk b1 3
  have z4 := cell_of_row _ _ 4 _ _ _ hL.b2
  have y4 := cell_of_row _ _ 4 _ _ _ b1
  have f4 := frozen_bk b1 4
  have z5 := cell_of_row _ _ 5 _ _ _ hL.b2
  have y5 := cell_of_row _ _ 5 _ _ _ b1
  have f5 := frozen_bk b1 5
  have z6 := cell_of_row _ _ 6 _ _ _ hL.b2
  have y6 := cell_of_row _ _ 6 _ _ _ b1
  have f6 := frozen_bk b1 6
  have z7 := cell_of_row _ _ 7 _ _ _ hL.b2
  have y7 := cell_of_row _ _ 7 _ _ _ b1
  have f7 := frozen_bk b1 7
  have hend : decide (16777216 < (g : Int) + 64 + (aa : Int) + 256 * (B : Int)) = false := decide_eq_false (by omega)
  have hLh := Lib.hid hL
  have b1h := Lib.hid b1
  clear hL b1
  go_wp2_with fail
  refine bodyPost_ret (results_rt rfl _ _ H1 _ rfl (run_loadVar_row _ _ _ _ _ _ _ (set8_all b1h.out) Try.underlying26 rfl (by kernel_rfl))) rfl ?_
  exact ⟨by first | rfl | simp, nb8 hLh.out.nb (by have := hLh.out.lt; omega)⟩
end Go.Proofs.Ytojogolmcclpoaa
