/-
  Proved here: what order's Rule answers at the examples of the statements. Conditions: none.
-/
import Derived.Test.YticifolljhplmaaYt
import Derived.Test.YticifolljhplmaaYq
namespace Go.Proofs.Yticifolljhplmaa
open Go.RowKit Go.Sort Go.Shelf
set_option linter.unusedVariables false
set_option linter.unusedSimpArgs false
set_option maxRecDepth 100000
set_option maxHeartbeats 4000000
def nilV : Value := .slice none 0 0
def exD (id : Int) (load store fence : Bool) (addr size pred succ : Int) : OpD :=
  ⟨id, load, store, fence, addr, size, false, false, pred, succ, 0, 0, nilV, [], -1, nilV, [], nilV, [], nilV, []⟩
def exV (id : Int) (load store fence : Bool) (addr size pred succ : Int) : List Value :=
  [.int .i64 id, .bool load, .bool store, .bool fence, .int .u64 addr, .int .i64 size, .bool false, .bool false, .int .i64 pred, .int .i64 succ, .int .u64 0, .int .u64 0, nilV, .int .i64 (-1), nilV, nilV, nilV]
def ex1 : OpD := exD 0 true false false 0 8 0 0
def ex2 : OpD := exD 1 false true false 4 4 0 0
def ex3 : OpD := exD 2 false true false 8 8 0 0
def ex4 : OpD := exD 3 false false true 0 0 1 1
theorem ex_r1 : (rulesS [ex1, ex2] 0 1).headD 0 = 1 := by decide +kernel
theorem ex_r2 : (rulesS [ex2, ex3] 0 1).headD 0 = 0 := by decide +kernel
theorem ex_r3 : (rulesS [ex2, ex4, ex3] 0 2).headD 0 = 4 := by decide +kernel
theorem cells17 {w : World} {B : Nat} {t : TypeId} {v0 v1 v2 v3 v4 v5 v6 v7 v8 v9 v10 v11 v12 v13 v14 v15 v16 : Value} (h : w.heap[B]? = some (.cells #[v0, v1, v2, v3, v4, v5, v6, v7, v8, v9, v10, v11, v12, v13, v14, v15, v16] t (0, 0))) :
    w.cell? ⟨B, 0, none⟩ = some v0 ∧ w.cell? ⟨B, 1, none⟩ = some v1 ∧ w.cell? ⟨B, 2, none⟩ = some v2 ∧ w.cell? ⟨B, 3, none⟩ = some v3 ∧ w.cell? ⟨B, 4, none⟩ = some v4 ∧ w.cell? ⟨B, 5, none⟩ = some v5 ∧ w.cell? ⟨B, 6, none⟩ = some v6 ∧ w.cell? ⟨B, 7, none⟩ = some v7 ∧ w.cell? ⟨B, 8, none⟩ = some v8 ∧ w.cell? ⟨B, 9, none⟩ = some v9 ∧ w.cell? ⟨B, 10, none⟩ = some v10 ∧ w.cell? ⟨B, 11, none⟩ = some v11 ∧ w.cell? ⟨B, 12, none⟩ = some v12 ∧ w.cell? ⟨B, 13, none⟩ = some v13 ∧ w.cell? ⟨B, 14, none⟩ = some v14 ∧ w.cell? ⟨B, 15, none⟩ = some v15 ∧ w.cell? ⟨B, 16, none⟩ = some v16 :=
  ⟨cell_of_row _ _ 0 _ _ _ h, cell_of_row _ _ 1 _ _ _ h, cell_of_row _ _ 2 _ _ _ h, cell_of_row _ _ 3 _ _ _ h, cell_of_row _ _ 4 _ _ _ h, cell_of_row _ _ 5 _ _ _ h, cell_of_row _ _ 6 _ _ _ h, cell_of_row _ _ 7 _ _ _ h, cell_of_row _ _ 8 _ _ _ h, cell_of_row _ _ 9 _ _ _ h, cell_of_row _ _ 10 _ _ _ h, cell_of_row _ _ 11 _ _ _ h, cell_of_row _ _ 12 _ _ _ h, cell_of_row _ _ 13 _ _ _ h, cell_of_row _ _ 14 _ _ _ h, cell_of_row _ _ 15 _ _ _ h, cell_of_row _ _ 16 _ _ _ h⟩
theorem ok_ex1 : ex1.Ok := ⟨by decide, by decide, by decide, by decide, by decide, by decide, by decide, by intro x hx; cases hx⟩
theorem ok_ex2 : ex2.Ok := ⟨by decide, by decide, by decide, by decide, by decide, by decide, by decide, by intro x hx; cases hx⟩
theorem ok_ex3 : ex3.Ok := ⟨by decide, by decide, by decide, by decide, by decide, by decide, by decide, by intro x hx; cases hx⟩
theorem ok_ex4 : ex4.Ok := ⟨by decide, by decide, by decide, by decide, by decide, by decide, by decide, by intro x hx; cases hx⟩
theorem ops_a {w : World} {B : Nat} (h : w.heap[B]? = some (.cells #[.int .i64 0, .bool true, .bool false, .bool false, .int .u64 0, .int .i64 8, .bool false, .bool false, .int .i64 0, .int .i64 0, .int .u64 0, .int .u64 0, .slice none 0 0, .int .i64 (-1), .slice none 0 0, .slice none 0 0, .slice none 0 0, .int .i64 1, .bool false, .bool true, .bool false, .int .u64 4, .int .i64 4, .bool false, .bool false, .int .i64 0, .int .i64 0, .int .u64 0, .int .u64 0, .slice none 0 0, .int .i64 (-1), .slice none 0 0, .slice none 0 0, .slice none 0 0] 32 (0, 0))) : OpsR w (.slice (some ⟨B, 0, none⟩) 2 2) [ex1, ex2] := by
  refine .inr ⟨B, 0, 2, rfl, lt_blk h, by decide, fun i d hi => ?_⟩
  match i, hi with
  | 0, hi => cases hi; exact ⟨lt_blk h, cell_of_row _ _ 0 _ _ _ h, cell_of_row _ _ 1 _ _ _ h, cell_of_row _ _ 2 _ _ _ h, cell_of_row _ _ 3 _ _ _ h, cell_of_row _ _ 4 _ _ _ h, cell_of_row _ _ 5 _ _ _ h, cell_of_row _ _ 6 _ _ _ h, cell_of_row _ _ 7 _ _ _ h, cell_of_row _ _ 8 _ _ _ h, cell_of_row _ _ 9 _ _ _ h, cell_of_row _ _ 10 _ _ _ h, cell_of_row _ _ 11 _ _ _ h, cell_of_row _ _ 12 _ _ _ h, cell_of_row _ _ 13 _ _ _ h, cell_of_row _ _ 14 _ _ _ h, cell_of_row _ _ 15 _ _ _ h, cell_of_row _ _ 16 _ _ _ h, .inl ⟨⟨_, _, rfl⟩, rfl⟩, .inl ⟨⟨_, _, rfl⟩, rfl⟩, .inl ⟨⟨_, _, rfl⟩, rfl⟩, .inl ⟨⟨_, _, rfl⟩, rfl⟩, ok_ex1⟩
  | 1, hi => cases hi; exact ⟨lt_blk h, cell_of_row _ _ 17 _ _ _ h, cell_of_row _ _ 18 _ _ _ h, cell_of_row _ _ 19 _ _ _ h, cell_of_row _ _ 20 _ _ _ h, cell_of_row _ _ 21 _ _ _ h, cell_of_row _ _ 22 _ _ _ h, cell_of_row _ _ 23 _ _ _ h, cell_of_row _ _ 24 _ _ _ h, cell_of_row _ _ 25 _ _ _ h, cell_of_row _ _ 26 _ _ _ h, cell_of_row _ _ 27 _ _ _ h, cell_of_row _ _ 28 _ _ _ h, cell_of_row _ _ 29 _ _ _ h, cell_of_row _ _ 30 _ _ _ h, cell_of_row _ _ 31 _ _ _ h, cell_of_row _ _ 32 _ _ _ h, cell_of_row _ _ 33 _ _ _ h, .inl ⟨⟨_, _, rfl⟩, rfl⟩, .inl ⟨⟨_, _, rfl⟩, rfl⟩, .inl ⟨⟨_, _, rfl⟩, rfl⟩, .inl ⟨⟨_, _, rfl⟩, rfl⟩, ok_ex2⟩
  | n + 2, hi => simp at hi
theorem ops_b {w : World} {B : Nat} (h : w.heap[B]? = some (.cells #[.int .i64 1, .bool false, .bool true, .bool false, .int .u64 4, .int .i64 4, .bool false, .bool false, .int .i64 0, .int .i64 0, .int .u64 0, .int .u64 0, .slice none 0 0, .int .i64 (-1), .slice none 0 0, .slice none 0 0, .slice none 0 0, .int .i64 2, .bool false, .bool true, .bool false, .int .u64 8, .int .i64 8, .bool false, .bool false, .int .i64 0, .int .i64 0, .int .u64 0, .int .u64 0, .slice none 0 0, .int .i64 (-1), .slice none 0 0, .slice none 0 0, .slice none 0 0] 32 (0, 0))) : OpsR w (.slice (some ⟨B, 0, none⟩) 2 2) [ex2, ex3] := by
  refine .inr ⟨B, 0, 2, rfl, lt_blk h, by decide, fun i d hi => ?_⟩
  match i, hi with
  | 0, hi => cases hi; exact ⟨lt_blk h, cell_of_row _ _ 0 _ _ _ h, cell_of_row _ _ 1 _ _ _ h, cell_of_row _ _ 2 _ _ _ h, cell_of_row _ _ 3 _ _ _ h, cell_of_row _ _ 4 _ _ _ h, cell_of_row _ _ 5 _ _ _ h, cell_of_row _ _ 6 _ _ _ h, cell_of_row _ _ 7 _ _ _ h, cell_of_row _ _ 8 _ _ _ h, cell_of_row _ _ 9 _ _ _ h, cell_of_row _ _ 10 _ _ _ h, cell_of_row _ _ 11 _ _ _ h, cell_of_row _ _ 12 _ _ _ h, cell_of_row _ _ 13 _ _ _ h, cell_of_row _ _ 14 _ _ _ h, cell_of_row _ _ 15 _ _ _ h, cell_of_row _ _ 16 _ _ _ h, .inl ⟨⟨_, _, rfl⟩, rfl⟩, .inl ⟨⟨_, _, rfl⟩, rfl⟩, .inl ⟨⟨_, _, rfl⟩, rfl⟩, .inl ⟨⟨_, _, rfl⟩, rfl⟩, ok_ex2⟩
  | 1, hi => cases hi; exact ⟨lt_blk h, cell_of_row _ _ 17 _ _ _ h, cell_of_row _ _ 18 _ _ _ h, cell_of_row _ _ 19 _ _ _ h, cell_of_row _ _ 20 _ _ _ h, cell_of_row _ _ 21 _ _ _ h, cell_of_row _ _ 22 _ _ _ h, cell_of_row _ _ 23 _ _ _ h, cell_of_row _ _ 24 _ _ _ h, cell_of_row _ _ 25 _ _ _ h, cell_of_row _ _ 26 _ _ _ h, cell_of_row _ _ 27 _ _ _ h, cell_of_row _ _ 28 _ _ _ h, cell_of_row _ _ 29 _ _ _ h, cell_of_row _ _ 30 _ _ _ h, cell_of_row _ _ 31 _ _ _ h, cell_of_row _ _ 32 _ _ _ h, cell_of_row _ _ 33 _ _ _ h, .inl ⟨⟨_, _, rfl⟩, rfl⟩, .inl ⟨⟨_, _, rfl⟩, rfl⟩, .inl ⟨⟨_, _, rfl⟩, rfl⟩, .inl ⟨⟨_, _, rfl⟩, rfl⟩, ok_ex3⟩
  | n + 2, hi => simp at hi
theorem ops_c {w : World} {B : Nat} (h : w.heap[B]? = some (.cells #[.int .i64 1, .bool false, .bool true, .bool false, .int .u64 4, .int .i64 4, .bool false, .bool false, .int .i64 0, .int .i64 0, .int .u64 0, .int .u64 0, .slice none 0 0, .int .i64 (-1), .slice none 0 0, .slice none 0 0, .slice none 0 0, .int .i64 3, .bool false, .bool false, .bool true, .int .u64 0, .int .i64 0, .bool false, .bool false, .int .i64 1, .int .i64 1, .int .u64 0, .int .u64 0, .slice none 0 0, .int .i64 (-1), .slice none 0 0, .slice none 0 0, .slice none 0 0, .int .i64 2, .bool false, .bool true, .bool false, .int .u64 8, .int .i64 8, .bool false, .bool false, .int .i64 0, .int .i64 0, .int .u64 0, .int .u64 0, .slice none 0 0, .int .i64 (-1), .slice none 0 0, .slice none 0 0, .slice none 0 0] 32 (0, 0))) : OpsR w (.slice (some ⟨B, 0, none⟩) 3 3) [ex2, ex4, ex3] := by
  refine .inr ⟨B, 0, 3, rfl, lt_blk h, by decide, fun i d hi => ?_⟩
  match i, hi with
  | 0, hi => cases hi; exact ⟨lt_blk h, cell_of_row _ _ 0 _ _ _ h, cell_of_row _ _ 1 _ _ _ h, cell_of_row _ _ 2 _ _ _ h, cell_of_row _ _ 3 _ _ _ h, cell_of_row _ _ 4 _ _ _ h, cell_of_row _ _ 5 _ _ _ h, cell_of_row _ _ 6 _ _ _ h, cell_of_row _ _ 7 _ _ _ h, cell_of_row _ _ 8 _ _ _ h, cell_of_row _ _ 9 _ _ _ h, cell_of_row _ _ 10 _ _ _ h, cell_of_row _ _ 11 _ _ _ h, cell_of_row _ _ 12 _ _ _ h, cell_of_row _ _ 13 _ _ _ h, cell_of_row _ _ 14 _ _ _ h, cell_of_row _ _ 15 _ _ _ h, cell_of_row _ _ 16 _ _ _ h, .inl ⟨⟨_, _, rfl⟩, rfl⟩, .inl ⟨⟨_, _, rfl⟩, rfl⟩, .inl ⟨⟨_, _, rfl⟩, rfl⟩, .inl ⟨⟨_, _, rfl⟩, rfl⟩, ok_ex2⟩
  | 1, hi => cases hi; exact ⟨lt_blk h, cell_of_row _ _ 17 _ _ _ h, cell_of_row _ _ 18 _ _ _ h, cell_of_row _ _ 19 _ _ _ h, cell_of_row _ _ 20 _ _ _ h, cell_of_row _ _ 21 _ _ _ h, cell_of_row _ _ 22 _ _ _ h, cell_of_row _ _ 23 _ _ _ h, cell_of_row _ _ 24 _ _ _ h, cell_of_row _ _ 25 _ _ _ h, cell_of_row _ _ 26 _ _ _ h, cell_of_row _ _ 27 _ _ _ h, cell_of_row _ _ 28 _ _ _ h, cell_of_row _ _ 29 _ _ _ h, cell_of_row _ _ 30 _ _ _ h, cell_of_row _ _ 31 _ _ _ h, cell_of_row _ _ 32 _ _ _ h, cell_of_row _ _ 33 _ _ _ h, .inl ⟨⟨_, _, rfl⟩, rfl⟩, .inl ⟨⟨_, _, rfl⟩, rfl⟩, .inl ⟨⟨_, _, rfl⟩, rfl⟩, .inl ⟨⟨_, _, rfl⟩, rfl⟩, ok_ex4⟩
  | 2, hi => cases hi; exact ⟨lt_blk h, cell_of_row _ _ 34 _ _ _ h, cell_of_row _ _ 35 _ _ _ h, cell_of_row _ _ 36 _ _ _ h, cell_of_row _ _ 37 _ _ _ h, cell_of_row _ _ 38 _ _ _ h, cell_of_row _ _ 39 _ _ _ h, cell_of_row _ _ 40 _ _ _ h, cell_of_row _ _ 41 _ _ _ h, cell_of_row _ _ 42 _ _ _ h, cell_of_row _ _ 43 _ _ _ h, cell_of_row _ _ 44 _ _ _ h, cell_of_row _ _ 45 _ _ _ h, cell_of_row _ _ 46 _ _ _ h, cell_of_row _ _ 47 _ _ _ h, cell_of_row _ _ 48 _ _ _ h, cell_of_row _ _ 49 _ _ _ h, cell_of_row _ _ 50 _ _ _ h, .inl ⟨⟨_, _, rfl⟩, rfl⟩, .inl ⟨⟨_, _, rfl⟩, rfl⟩, .inl ⟨⟨_, _, rfl⟩, rfl⟩, .inl ⟨⟨_, _, rfl⟩, rfl⟩, ok_ex3⟩
  | n + 3, hi => simp at hi
theorem call_a (W : World) (A : Value) (V : World) (hV : V = W.alloc (.cells #[.int .i64 0, .bool true, .bool false, .bool false, .int .u64 0, .int .i64 8, .bool false, .bool false, .int .i64 0, .int .i64 0, .int .u64 0, .int .u64 0, .slice none 0 0, .int .i64 (-1), .slice none 0 0, .slice none 0 0, .slice none 0 0, .int .i64 1, .bool false, .bool true, .bool false, .int .u64 4, .int .i64 4, .bool false, .bool false, .int .i64 0, .int .i64 0, .int .u64 0, .int .u64 0, .slice none 0 0, .int .i64 (-1), .slice none 0 0, .slice none 0 0, .slice none 0 0] 32)) (hA : A = .slice (some ⟨W.heap.size, 0, none⟩) 2 2) :
    Calls Try.prog 25 #[A, .int .i64 0, .int .i64 1] V fun e w' => e = .returned (.int .i64 1) ∧ Nb W w' := by
  subst hV hA
  refine (rule_of _ _ 0 1 _ (ops_a (new_blk W _ rfl)) (by decide) (by intro m hm; simp only [List.mem_cons, List.not_mem_nil, or_false] at hm; rcases hm with rfl | rfl <;> exact ⟨by decide, by decide, by decide⟩) (by decide) (by decide)).mono ?_
  rintro e w' ⟨rfl, h2⟩
  exact ⟨by rw [ex_r1], ((Nb.refl W).alloc _).trans h2⟩
theorem call_b (W : World) (A : Value) (V : World) (hV : V = W.alloc (.cells #[.int .i64 1, .bool false, .bool true, .bool false, .int .u64 4, .int .i64 4, .bool false, .bool false, .int .i64 0, .int .i64 0, .int .u64 0, .int .u64 0, .slice none 0 0, .int .i64 (-1), .slice none 0 0, .slice none 0 0, .slice none 0 0, .int .i64 2, .bool false, .bool true, .bool false, .int .u64 8, .int .i64 8, .bool false, .bool false, .int .i64 0, .int .i64 0, .int .u64 0, .int .u64 0, .slice none 0 0, .int .i64 (-1), .slice none 0 0, .slice none 0 0, .slice none 0 0] 32)) (hA : A = .slice (some ⟨W.heap.size, 0, none⟩) 2 2) :
    Calls Try.prog 25 #[A, .int .i64 0, .int .i64 1] V fun e w' => e = .returned (.int .i64 0) ∧ Nb W w' := by
  subst hV hA
  refine (rule_of _ _ 0 1 _ (ops_b (new_blk W _ rfl)) (by decide) (by intro m hm; simp only [List.mem_cons, List.not_mem_nil, or_false] at hm; rcases hm with rfl | rfl <;> exact ⟨by decide, by decide, by decide⟩) (by decide) (by decide)).mono ?_
  rintro e w' ⟨rfl, h2⟩
  exact ⟨by rw [ex_r2], ((Nb.refl W).alloc _).trans h2⟩
theorem call_c (W : World) (A : Value) (V : World) (hV : V = W.alloc (.cells #[.int .i64 1, .bool false, .bool true, .bool false, .int .u64 4, .int .i64 4, .bool false, .bool false, .int .i64 0, .int .i64 0, .int .u64 0, .int .u64 0, .slice none 0 0, .int .i64 (-1), .slice none 0 0, .slice none 0 0, .slice none 0 0, .int .i64 3, .bool false, .bool false, .bool true, .int .u64 0, .int .i64 0, .bool false, .bool false, .int .i64 1, .int .i64 1, .int .u64 0, .int .u64 0, .slice none 0 0, .int .i64 (-1), .slice none 0 0, .slice none 0 0, .slice none 0 0, .int .i64 2, .bool false, .bool true, .bool false, .int .u64 8, .int .i64 8, .bool false, .bool false, .int .i64 0, .int .i64 0, .int .u64 0, .int .u64 0, .slice none 0 0, .int .i64 (-1), .slice none 0 0, .slice none 0 0, .slice none 0 0] 32)) (hA : A = .slice (some ⟨W.heap.size, 0, none⟩) 3 3) :
    Calls Try.prog 25 #[A, .int .i64 0, .int .i64 2] V fun e w' => e = .returned (.int .i64 4) ∧ Nb W w' := by
  subst hV hA
  refine (rule_of _ _ 0 2 _ (ops_c (new_blk W _ rfl)) (by decide) (by intro m hm; simp only [List.mem_cons, List.not_mem_nil, or_false] at hm; rcases hm with rfl | rfl | rfl <;> exact ⟨by decide, by decide, by decide⟩) (by decide) (by decide)).mono ?_
  rintro e w' ⟨rfl, h2⟩
  exact ⟨by rw [ex_r3], ((Nb.refl W).alloc _).trans h2⟩
end Go.Proofs.Yticifolljhplmaa
