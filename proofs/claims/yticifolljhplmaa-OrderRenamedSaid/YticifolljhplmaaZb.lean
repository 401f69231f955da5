/-
  Proved here: the examples of the statements of order hold. Conditions: none.
-/
import Derived.Test.YticifolljhplmaaYu
import Derived.Test.YticifolljhplmaaZa
import Derived.Deep.WholeRow
import Derived.Laws.Tables
namespace Go.Proofs.Yticifolljhplmaa
open Go.RowKit Go.Sort Go.Shelf
set_option linter.unusedVariables false
set_option linter.unusedSimpArgs false
set_option maxRecDepth 100000
set_option maxHeartbeats 4000000
theorem wpList_load_want {P : Program} {ops : Array Oper} {rest : List Oper} {o : Oper} {a : Act} {w : World} {Q : Exit → Act → World → Prop} (hw : Region.wanted o (yielded ops a.tmps) = true) (ty : TypeId) (x : Operand) (ho : o.op = .load ty x)
    (g : Nat) (hx : a.eval x = .pointer (some ⟨g, 0, none⟩)) (t : TypeId) (cs : Array Value) (fr : Nat × Nat) (d : TypeDesc) (hg : w.heap[g]? = some (.cells cs t fr))
    (hu : P.underlying ty = some d) (hd : (match d with | .struct _ | .array _ _ => true | _ => false) = true) (hi : (P.info? ty).map (·.size) = some cs.size)
    (h : wpList P ops Q rest (a.put o.dst (.agg cs)) w) : wpList P ops Q (o :: rest) a w :=
  BigFrame.wpList_want hw fun _ hK => wp_load_row ty x ho g hx t cs fr d hg hu hd hi (hK _ _ h)
theorem wpList_bs_want {P : Program} {ops : Array Oper} {rest : List Oper} {o : Oper} {a : Act} {w w' : World} {Q : Exit → Act → World → Prop} (hw : Region.wanted o (yielded ops a.tmps) = true) (t : TypeId) (len : Nat) (parts : Array (Nat × Operand)) (ho : o.op = .buildSlice t len parts)
    (vs : Array (Nat × Value)) (hp : (parts.map fun (i, x) => (i, a.eval x)) = vs) (v : Value) (hr : (Instr.buildSlice t len vs).run P w = .ok v w') (h : wpList P ops Q rest (a.put o.dst v) w') : wpList P ops Q (o :: rest) a w := by
  refine BigFrame.wpList_want hw fun K hK => ?_
  unfold Oper.wp execOp
  simp only [ho, Sem.run_bind, hp, hr, Result.andThen_ok]
  exact hK _ _ h
theorem wpList_built {P : Program} {ops : Array Oper} {rest : List Oper} {o : Oper} {a : Act} {w : World} {Q : Exit → Act → World → Prop} (hg : o.guard = none) (t : TypeId) (parts : Array (Nat × Operand)) (ho : o.op = .build t parts)
    (vs : List (Nat × Value)) (hv : (parts.map fun (i, x) => (i, a.eval x)).toList = vs) (cells : Array Value) (hf : P.built t vs = some cells)
    (h : wpList P ops Q rest (a.put o.dst (.agg cells)) w) : wpList P ops Q (o :: rest) a w := by
  subst hv
  refine wpList_build hg t parts ho (by rw [hf]; rfl) ?_
  rw [hf]
  exact h
theorem wpList_store_new {P : Program} {ops : Array Oper} {rest : List Oper} {o : Oper} {a : Act} {w : World} {Q : Exit → Act → World → Prop} (hgd : o.guard = none) (ty : TypeId) (x y : Operand) (ho : o.op = .store ty x y)
    (old cells : Array Value) (t : TypeId) (hx : a.eval x = .pointer (some ⟨w.heap.size, 0, none⟩)) (hy : a.eval y = .agg cells) (hi : (P.info? ty).map (·.size) = some cells.size)
    (hold : old.size = cells.size) (h1 : cells.all (·.oneCell') = true)
    (h : wpList P ops Q rest (a.put o.dst undef) (w.alloc (.cells cells t))) : wpList P ops Q (o :: rest) a (w.alloc (.cells old t)) := by
  refine wpList_store_row hgd ty x y ho w.heap.size cells hx hy t old (heap_alloc_new w _) hi hold h1 ?_
  rw [World.setRow_alloc_new]
  exact h
theorem arr17 {c : Array Value} (h : c.size = 17) : ∃ x0 x1 x2 x3 x4 x5 x6 x7 x8 x9 x10 x11 x12 x13 x14 x15 x16 : Value, c = #[x0, x1, x2, x3, x4, x5, x6, x7, x8, x9, x10, x11, x12, x13, x14, x15, x16] := by
  obtain ⟨l⟩ := c
  match l, h with
  | [x0, x1, x2, x3, x4, x5, x6, x7, x8, x9, x10, x11, x12, x13, x14, x15, x16], _ => exact ⟨_, _, _, _, _, _, _, _, _, _, _, _, _, _, _, _, _, rfl⟩
theorem bs2 {a b : Array Value} (ha : a.size = 17) (hb : b.size = 17) (w : World) : (Instr.buildSlice 22 2 #[(0, .agg a), (1, .agg b)]).run Try.prog w = .ok (.slice (some ⟨w.heap.size, 0, none⟩) 2 2) (w.alloc (.cells (a ++ b) 32)) := by
  obtain ⟨x0, x1, x2, x3, x4, x5, x6, x7, x8, x9, x10, x11, x12, x13, x14, x15, x16, rfl⟩ := arr17 ha
  obtain ⟨y0, y1, y2, y3, y4, y5, y6, y7, y8, y9, y10, y11, y12, y13, y14, y15, y16, rfl⟩ := arr17 hb
  kernel_rfl
theorem bs3 {a b c : Array Value} (ha : a.size = 17) (hb : b.size = 17) (hc : c.size = 17) (w : World) : (Instr.buildSlice 22 3 #[(0, .agg a), (1, .agg b), (2, .agg c)]).run Try.prog w = .ok (.slice (some ⟨w.heap.size, 0, none⟩) 3 3) (w.alloc (.cells (a ++ (b ++ c)) 32)) := by
  obtain ⟨x0, x1, x2, x3, x4, x5, x6, x7, x8, x9, x10, x11, x12, x13, x14, x15, x16, rfl⟩ := arr17 ha
  obtain ⟨y0, y1, y2, y3, y4, y5, y6, y7, y8, y9, y10, y11, y12, y13, y14, y15, y16, rfl⟩ := arr17 hb
  obtain ⟨z0, z1, z2, z3, z4, z5, z6, z7, z8, z9, z10, z11, z12, z13, z14, z15, z16, rfl⟩ := arr17 hc
  kernel_rfl
theorem lives_any (w : World) :
    Calls Try.prog 10 #[] w fun e w' => e = .returned (.bool true) ∧ Nb w w' := by
  obtain ⟨c1, h1⟩ : ∃ c : Array Value, #[.int .i64 0, .bool true, .bool false, .bool false, .int .u64 0, .int .i64 8, .bool false, .bool false, .int .i64 0, .int .i64 0, .int .u64 0, .int .u64 0, .slice none 0 0, .int .i64 (-1), .slice none 0 0, .slice none 0 0, .slice none 0 0] = c := ⟨_, rfl⟩
  obtain ⟨c2, h2⟩ : ∃ c : Array Value, #[.int .i64 1, .bool false, .bool true, .bool false, .int .u64 4, .int .i64 4, .bool false, .bool false, .int .i64 0, .int .i64 0, .int .u64 0, .int .u64 0, .slice none 0 0, .int .i64 (-1), .slice none 0 0, .slice none 0 0, .slice none 0 0] = c := ⟨_, rfl⟩
  obtain ⟨c3, h3⟩ : ∃ c : Array Value, #[.int .i64 2, .bool false, .bool true, .bool false, .int .u64 8, .int .i64 8, .bool false, .bool false, .int .i64 0, .int .i64 0, .int .u64 0, .int .u64 0, .slice none 0 0, .int .i64 (-1), .slice none 0 0, .slice none 0 0, .slice none 0 0] = c := ⟨_, rfl⟩
  obtain ⟨c4, h4⟩ : ∃ c : Array Value, #[.int .i64 3, .bool false, .bool false, .bool true, .int .u64 0, .int .i64 0, .bool false, .bool false, .int .i64 1, .int .i64 1, .int .u64 0, .int .u64 0, .slice none 0 0, .int .i64 (-1), .slice none 0 0, .slice none 0 0, .slice none 0 0] = c := ⟨_, rfl⟩
  have hCa : ∀ (W : World), Calls Try.prog 25 #[.slice (some ⟨W.heap.size, 0, none⟩) 2 2, .int .i64 0, .int .i64 1] (W.alloc (.cells (c1 ++ c2) 32)) fun e w' => e = .returned (.int .i64 1) ∧ Nb W w' := by
    intro W
    subst h1 h2
    exact call_a W _ _ rfl rfl
  have hCb : ∀ (W : World), Calls Try.prog 25 #[.slice (some ⟨W.heap.size, 0, none⟩) 2 2, .int .i64 0, .int .i64 1] (W.alloc (.cells (c2 ++ c3) 32)) fun e w' => e = .returned (.int .i64 0) ∧ Nb W w' := by
    intro W
    subst h2 h3
    exact call_b W _ _ rfl rfl
  have hCc : ∀ (W : World), Calls Try.prog 25 #[.slice (some ⟨W.heap.size, 0, none⟩) 3 3, .int .i64 0, .int .i64 2] (W.alloc (.cells (c2 ++ (c4 ++ c3)) 32)) fun e w' => e = .returned (.int .i64 4) ∧ Nb W w' := by
    intro W
    subst h2 h3 h4
    exact call_c W _ _ rfl rfl
  have s1 : c1.size = 17 := by rw [← h1]; rfl
  have s2 : c2.size = 17 := by rw [← h2]; rfl
  have s3 : c3.size = 17 := by rw [← h3]; rfl
  have s4 : c4.size = 17 := by rw [← h4]; rfl
  have hi : (Try.prog.info? 32).map (·.size) = some 17 := by kernel_rfl
  have i1 := Lib.hid (hi.trans (congrArg some s1.symm))
  have i2 := Lib.hid (hi.trans (congrArg some s2.symm))
  have i3 := Lib.hid (hi.trans (congrArg some s3.symm))
  have i4 := Lib.hid (hi.trans (congrArg some s4.symm))
  have B2 := fun w => bs2 s1 s2 w
  have B3 := fun w => bs2 s2 s3 w
  have B4 := fun w => bs3 s2 s4 s3 w
  have hB2 := Lib.hid B2
  have hB3 := Lib.hid B3
  have hB4 := Lib.hid B4
  have hA' := Lib.hid hCa
  have hB' := Lib.hid hCb
  have hC' := Lib.hid hCc
  have f1 := Lib.hid (show Try.prog.built 32 [(0, .int .i64 0), (1, .bool true), (5, .int .i64 8), (13, .int .i64 (-1))] = some c1 by rw [← h1]; kernel_rfl)
  have o1 := Lib.hid (show c1.all (·.oneCell') = true by rw [← h1]; kernel_rfl)
  have z1 := Lib.hid (show (17 : Nat) = c1.size from s1.symm)
  have f2 := Lib.hid (show Try.prog.built 32 [(0, .int .i64 1), (2, .bool true), (4, .int .u64 4), (5, .int .i64 4), (13, .int .i64 (-1))] = some c2 by rw [← h2]; kernel_rfl)
  have o2 := Lib.hid (show c2.all (·.oneCell') = true by rw [← h2]; kernel_rfl)
  have z2 := Lib.hid (show (17 : Nat) = c2.size from s2.symm)
  have f3 := Lib.hid (show Try.prog.built 32 [(0, .int .i64 2), (2, .bool true), (4, .int .u64 8), (5, .int .i64 8), (13, .int .i64 (-1))] = some c3 by rw [← h3]; kernel_rfl)
  have o3 := Lib.hid (show c3.all (·.oneCell') = true by rw [← h3]; kernel_rfl)
  have z3 := Lib.hid (show (17 : Nat) = c3.size from s3.symm)
  have f4 := Lib.hid (show Try.prog.built 32 [(0, .int .i64 3), (3, .bool true), (8, .int .i64 1), (9, .int .i64 1), (13, .int .i64 (-1))] = some c4 by rw [← h4]; kernel_rfl)
  have o4 := Lib.hid (show c4.all (·.oneCell') = true by rw [← h4]; kernel_rfl)
  have z4 := Lib.hid (show (17 : Nat) = c4.size from s4.symm)
  clear B2 B3 B4 hCa hCb hCc h1 h2 h3 h4 s1 s2 s3 s4 hi
  go_enter Try.func10, Try.ntmps10
  go_upto_region 2 with (first
    | (refine wpList_built rfl 32 _ rfl [(0, .int .i64 0), (1, .bool true), (5, .int .i64 8), (13, .int .i64 (-1))] (by kernel_rfl) c1 (f1.out) ?_)
    | (refine wpList_store_new rfl 32 (.tmp 1) (.tmp 5) rfl _ c1 _ rfl rfl i1.out (z1.out) o1.out ?_))
  obtain ⟨W1, hW⟩ : ∃ W1, w.alloc (.cells c1 32) = W1 := ⟨_, rfl⟩
  have m1 : Nb w W1 := by rw [← hW]; exact (Nb.refl _).alloc _
  have b1 : W1.heap[w.heap.size]? = some (.cells c1 32 (0, 0)) := by rw [← hW]; exact new_blk _ _ rfl
  rw [hW]
  clear hW
  go_upto_region 3 with (first
    | (refine wpList_built rfl 32 _ rfl [(0, .int .i64 1), (2, .bool true), (4, .int .u64 4), (5, .int .i64 4), (13, .int .i64 (-1))] (by kernel_rfl) c2 (f2.out) ?_)
    | (refine wpList_store_new rfl 32 (.tmp 2) (.tmp 6) rfl _ c2 _ rfl rfl i2.out (z2.out) o2.out ?_))
  obtain ⟨W2, hW⟩ : ∃ W2, W1.alloc (.cells c2 32) = W2 := ⟨_, rfl⟩
  have m2 : Nb W1 W2 := by rw [← hW]; exact (Nb.refl _).alloc _
  have b2 : W2.heap[W1.heap.size]? = some (.cells c2 32 (0, 0)) := by rw [← hW]; exact new_blk _ _ rfl
  replace b1 := m2.block b1
  rw [hW]
  clear hW
  go_upto_region 4 with (first
    | (refine wpList_built rfl 32 _ rfl [(0, .int .i64 2), (2, .bool true), (4, .int .u64 8), (5, .int .i64 8), (13, .int .i64 (-1))] (by kernel_rfl) c3 (f3.out) ?_)
    | (refine wpList_store_new rfl 32 (.tmp 3) (.tmp 7) rfl _ c3 _ rfl rfl i3.out (z3.out) o3.out ?_))
  obtain ⟨W3, hW⟩ : ∃ W3, W2.alloc (.cells c3 32) = W3 := ⟨_, rfl⟩
  have m3 : Nb W2 W3 := by rw [← hW]; exact (Nb.refl _).alloc _
  have b3 : W3.heap[W2.heap.size]? = some (.cells c3 32 (0, 0)) := by rw [← hW]; exact new_blk _ _ rfl
  replace b1 := m3.block b1
  replace b2 := m3.block b2
  rw [hW]
  clear hW
  go_upto_region 5 with (first
    | (refine wpList_built rfl 32 _ rfl [(0, .int .i64 3), (3, .bool true), (8, .int .i64 1), (9, .int .i64 1), (13, .int .i64 (-1))] (by kernel_rfl) c4 (f4.out) ?_)
    | (refine wpList_store_new rfl 32 (.tmp 4) (.tmp 8) rfl _ c4 _ rfl rfl i4.out (z4.out) o4.out ?_))
  obtain ⟨W4, hW⟩ : ∃ W4, W3.alloc (.cells c4 32) = W4 := ⟨_, rfl⟩
  have m4 : Nb W3 W4 := by rw [← hW]; exact (Nb.refl _).alloc _
  have b4 : W4.heap[W3.heap.size]? = some (.cells c4 32 (0, 0)) := by rw [← hW]; exact new_blk _ _ rfl
  replace b1 := m4.block b1
  replace b2 := m4.block b2
  replace b3 := m4.block b3
  rw [hW]
  clear hW
  have n0 : Nb w W4 := m1.trans (m2.trans (m3.trans m4))
  clear m1 m2 m3 m4
  go_wp2_with (first
    | (refine wpList_load_want (by kernel_rfl) 32 (.tmp 1) rfl _ rfl 32 c1 (0, 0) _ b1 Try.underlying32 rfl i1.out ?_)
    | (refine wpList_load_want (by kernel_rfl) 32 (.tmp 2) rfl _ rfl 32 c2 (0, 0) _ b2 Try.underlying32 rfl i2.out ?_)
    | (refine wpList_load_want (by kernel_rfl) 32 (.tmp 3) rfl _ rfl 32 c3 (0, 0) _ b3 Try.underlying32 rfl i3.out ?_)
    | (refine wpList_load_want (by kernel_rfl) 32 (.tmp 4) rfl _ rfl 32 c4 (0, 0) _ b4 Try.underlying32 rfl i4.out ?_)
    | (refine wpList_bs_want (by kernel_rfl) 22 2 #[(0, .tmp 9), (1, .tmp 10)] rfl #[(0, .agg c1), (1, .agg c2)] (by kernel_rfl) _ (hB2.out _) ?_)
    | (refine wpList_bs_want (by kernel_rfl) 22 2 #[(0, .tmp 15), (1, .tmp 16)] rfl #[(0, .agg c2), (1, .agg c3)] (by kernel_rfl) _ (hB3.out _) ?_)
    | (refine wpList_bs_want (by kernel_rfl) 22 3 #[(0, .tmp 22), (1, .tmp 23), (2, .tmp 24)] rfl #[(0, .agg c2), (1, .agg c4), (2, .agg c3)] (by kernel_rfl) _ (hB4.out _) ?_)
    | (go_at_call 25; (with_reducible refine (hA'.out _).mono ?_); rintro e w1 ⟨rfl, n1⟩; have b2 := n1.block b2; have b3 := n1.block b3; have b4 := n1.block b4; replace n0 := n0.trans n1)
    | (go_at_call 25; (with_reducible refine (hB'.out _).mono ?_); rintro e w2 ⟨rfl, n2⟩; have b2 := n2.block b2; have b3 := n2.block b3; have b4 := n2.block b4; replace n0 := n0.trans n2)
    | (go_at_call 25; (with_reducible refine (hC'.out _).mono ?_); rintro e w3 ⟨rfl, n3⟩; replace n0 := n0.trans n3))
  go_ret
  exact ⟨rfl, n0⟩
end Go.Proofs.Yticifolljhplmaa
