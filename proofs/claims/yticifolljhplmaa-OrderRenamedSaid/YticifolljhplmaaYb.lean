/-
  Proved here: of the code: nowhere, empty, moves, does, common. Conditions: the pointers point at operations.
-/
import Derived.Test.YticifolljhplmaaYa
namespace Go.Proofs.Yticifolljhplmaa
open Go.RowKit
set_option linter.unusedVariables false
set_option linter.unusedSimpArgs false
set_option maxRecDepth 100000
set_option maxHeartbeats 2000000
theorem res_span {fn : Func} {p : Tmp} (h : fn.results = #[.cell p 70]) (tmps : Array Value) (w : World) (g : Nat) (x y : Value) (fr : Nat × Nat) (hp : tmps.getD p undef = .pointer (some ⟨g, 0, none⟩)) (hb : w.heap[g]? = some (.cells #[x, y] 70 fr)) :
    (results fn tmps).run Try.prog w = .ok (.agg #[x, y]) w := by
  have e : (asAddr (.pointer (some ⟨g, 0, none⟩))).run Try.prog w = .ok ⟨g, 0, none⟩ w := rfl
  have hl : (loadVar 70 ⟨g, 0, none⟩).run Try.prog w = .ok (.agg #[x, y]) w := run_loadVar_row _ g 70 70 #[x, y] fr _ hb Try.underlying70 rfl (by kernel_rfl)
  simp only [results, h]
  simp only [Array.getD_eq_getD_getElem?] at hp
  simp [Sem.run_bind, Result.andThen, hp, e, hl]
theorem set2 {w : World} {g : Nat} {a b : Value} {t : TypeId} (h : w.heap[g]? = some (.cells #[a, b] t (0, 0))) (x y : Value) :
    ((w.setCell ⟨g, 0, none⟩ x).setCell ⟨g, 1, none⟩ y).heap[g]? = some (.cells #[x, y] t (0, 0)) := by
  have h1 := set_blk h 0 x
  have h2 := set_blk h1 1 y
  simpa using h2
theorem cells2 {w : World} {g : Nat} {a b : Value} {t : TypeId} (h : w.heap[g]? = some (.cells #[a, b] t (0, 0))) :
    w.cell? ⟨g, 0, none⟩ = some a ∧ w.cell? ⟨g, 1, none⟩ = some b ∧ w.frozen? ⟨g, 0, none⟩ = false ∧ w.frozen? ⟨g, 1, none⟩ = false :=
  ⟨cell_of_row _ _ 0 _ _ _ h, cell_of_row _ _ 1 _ _ _ h, frozen_blk h 0, frozen_blk h 1⟩
theorem nowhere_any (w : World) : Calls Try.prog 58 #[] w fun e w' => e = .returned (.agg #[.int .u64 1, .int .u64 0]) ∧ Nb w w' := by
  go_enter Try.func58, Try.ntmps58
  go_wp2
  exact bodyPost_ret (v := .agg #[.int .u64 1, .int .u64 0]) (by simp [results, Try.results58, go_sem]) rfl ⟨rfl, (Nb.refl w).alloc _⟩
theorem empty_any (x y : Int) (w : World) : Calls Try.prog 41 #[.agg #[.int .u64 x, .int .u64 y]] w fun e w' => e = .returned (.bool (emptyS (x, y))) ∧ Nb w w' := by
  go_enter Try.func41, Try.ntmps41
  go_wp2
  go_ret
  exact ⟨rfl, (Nb.refl w).alloc _⟩
theorem moves_any (b o : Nat) (d : OpD) (w : World) (h : OpAt w b o d) : Calls Try.prog 38 #[.pointer (some ⟨b, o, none⟩)] w fun e w' => e = .returned (.bool (movesS d)) ∧ w = w' := by
  obtain ⟨lt, c0, c1, c2, c3, -⟩ := h
  go_enter Try.func38, Try.ntmps38
  unfold movesS
  generalize d.load = x1 at *
  generalize d.store = x2 at *
  generalize d.fence = x3 at *
  cases x1 <;> cases x2 <;> cases x3 <;> go_wp2 <;> go_ret <;> exact ⟨rfl, rfl⟩
theorem does_any (b o : Nat) (d : OpD) (w : World) (h : OpAt w b o d) : Calls Try.prog 62 #[.pointer (some ⟨b, o, none⟩)] w fun e w' => e = .returned (.int .i64 (doesS d)) ∧ w = w' := by
  obtain ⟨lt, c0, c1, c2, c3, -⟩ := h
  go_enter Try.func62, Try.ntmps62
  unfold doesS
  generalize d.load = x1 at *
  generalize d.store = x2 at *
  cases x1 <;> cases x2 <;> go_wp2 <;> go_ret <;> exact ⟨rfl, rfl⟩
theorem common_any (x y z u : Int) (w : World) : Calls Try.prog 51 #[.agg #[.int .u64 x, .int .u64 y], .agg #[.int .u64 z, .int .u64 u]] w fun e w' => e = .returned (.agg #[.int .u64 (comS (x, y) (z, u)).1, .int .u64 (comS (x, y) (z, u)).2]) ∧ Nb w w' := by
  go_enter Try.func51, Try.ntmps51
  unfold comS
  go_wp2
  all_goals refine bodyPost_ret (v := .agg #[.int .u64 _, .int .u64 _]) (by simp [results, Try.results51, go_sem]; exact ⟨rfl, rfl⟩) rfl ⟨?_, ((((Nb.refl w).alloc _).alloc _).alloc _)⟩
  all_goals (simp; omega)
end Go.Proofs.Yticifolljhplmaa
