/-
  Proved here: the heads of a program's parts, as the code makes them. Conditions: none. ¦ in a region that draws its order and may call a round's yield, an operation that reads may be taken first. Conditions: stated in each. ¦ what the code's iterator over a program's parts keeps; its parts in order, as a list. Conditions: none.
-/
import Derived.Test.YtojogolmcclpoaaDoorSaa
import Derived.Deep.RegionHeld
import Derived.OrdersIn
import Derived.ControlIn
import Derived.RangeFuncNested
import Derived.RangeFuncBound
import Derived.RangeFuncCalls
import Derived.RangeFuncLeaves
import Derived.RangeFuncKeeps
import Derived.Laws.Tables
import Derived.Deep.WholeRow
section
namespace Go.Proofs.YtojogolmcclpoaaDoor
open Go.RowKit
set_option linter.unusedVariables false
set_option linter.unusedSimpArgs false
set_option maxRecDepth 100000
set_option maxHeartbeats 4000000
/-- A part without what stands in it. -/
structure Hd where
  sort : Int
  kind : Int
  name : Bs
  actor : Bs
  n : Int
  late : Bool
  defs : Nat
  params : Nat
  stmts : Nat
  args : Nat
  parts : Nat
  arms : Nat
abbrev nV (n : Nat) : Value := .int .i64 (n : Int)
def Hd.cells (h : Hd) : Array Value := #[.int .i64 h.sort, .int .i64 h.kind, sV h.name, sV h.actor, .int .i64 h.n, .bool h.late, nV h.defs, nV h.params, nV h.stmts, nV h.args, nV h.parts, nV h.arms]
def hdP (p : Pg) : Hd := ⟨1, 0, p.main, [], 0, false, p.defs.length, 0, 0, p.args.length, 0, 0⟩
def hdD (d : Df) : Hd := ⟨2, 0, d.name, [], 0, false, 0, d.params.length, 0, 0, 0, 0⟩
def hdM (s : Bs) : Hd := ⟨3, 0, s, [], 0, false, 0, 0, 0, 0, 0, 0⟩
def hdB (b : Bd) : Hd := ⟨4, b.kind, [], b.actor, b.after, b.late, 0, 0, b.stmts.length, b.args.length, b.parts.length, b.arms.length⟩
def hdS (s : St) : Hd := ⟨5, s.kind, s.name, s.actor, 0, false, 0, 0, 0, s.args.length, 0, 0⟩
def hdA (m : Am) : Hd := ⟨6, 0, [], [], 0, false, 0, 0, 0, m.guard.length, 0, 0⟩
def hdE (e : Ex) : Hd := ⟨7, e.kind, e.name, [], e.n, false, 0, 0, 0, e.args.length, 0, 0⟩
def hdT (e : Ex) : Hd := ⟨8, e.kind, e.name, [], e.n, false, 0, 0, 0, e.args.length, 0, 0⟩
theorem headE_any (W0 : World) (e : Ex) (he : e.Has W0) (w : World) :
    Calls Tryd.prog 25 #[.agg e.cells.toArray] w fun r w' => r = .returned (.agg (hdE e).cells) ∧ Nb w w' := by
  obtain ⟨A0, cap0, hv0, -, -, -⟩ := he.exs.head
  try rw [List.length_map] at hv0
  have hc : e.cells = [.int .i64 e.kind, .int .i64 e.at_, .int .i64 e.n, sV e.name, .slice A0 e.args.length cap0] := by
    rw [← hv0]; rfl
  rw [hc]
  clear hc
  go_enter Tryd.func25, Tryd.ntmps25
  go_wp2_with fail
  refine bodyPost_ret (v := .agg (hdE e).cells) (results_cell_row rfl _ _ (w.heap.size + 1) 34 _ (0, 0) _ rfl (new_blk _ _ (by rw [World.size_alloc])) Tryd.underlying34 rfl (by kernel_rfl)) rfl ⟨rfl, ((Nb.refl w).alloc _).alloc _⟩
theorem headT_any (W0 : World) (e : Ex) (he : e.Has W0) (w : World) :
    Calls Tryd.prog 28 #[.agg e.cells.toArray] w fun r w' => r = .returned (.agg (hdT e).cells) ∧ Nb w w' := by
  obtain ⟨A0, cap0, hv0, -, -, -⟩ := he.exs.head
  try rw [List.length_map] at hv0
  have hc : e.cells = [.int .i64 e.kind, .int .i64 e.at_, .int .i64 e.n, sV e.name, .slice A0 e.args.length cap0] := by
    rw [← hv0]; rfl
  rw [hc]
  clear hc
  go_enter Tryd.func28, Tryd.ntmps28
  go_wp2_with fail
  refine bodyPost_ret (v := .agg (hdT e).cells) (results_cell_row rfl _ _ (w.heap.size + 1) 34 _ (0, 0) _ rfl (new_blk _ _ (by rw [World.size_alloc])) Tryd.underlying34 rfl (by kernel_rfl)) rfl ⟨rfl, ((Nb.refl w).alloc _).alloc _⟩
theorem headS_any (W0 : World) (e : St) (he : e.Has W0) (w : World) :
    Calls Tryd.prog 31 #[.agg e.cells.toArray] w fun r w' => r = .returned (.agg (hdS e).cells) ∧ Nb w w' := by
  obtain ⟨A0, cap0, hv0, -, -, -⟩ := he.args.head
  try rw [List.length_map] at hv0
  have hc : e.cells = [.int .i64 e.kind, .int .i64 e.at_, sV e.name, sV e.actor, .slice A0 e.args.length cap0] := by
    rw [← hv0]; rfl
  rw [hc]
  clear hc
  go_enter Tryd.func31, Tryd.ntmps31
  go_wp2_with fail
  refine bodyPost_ret (v := .agg (hdS e).cells) (results_cell_row rfl _ _ (w.heap.size + 1) 34 _ (0, 0) _ rfl (new_blk _ _ (by rw [World.size_alloc])) Tryd.underlying34 rfl (by kernel_rfl)) rfl ⟨rfl, ((Nb.refl w).alloc _).alloc _⟩
theorem Bd.Has.heads {w : World} {e : Bd} (he : e.Has w) : (∃ A cap, e.sv = .slice A (e.stmts.map St.cells).length cap ∧ True ∧ True ∧ True) ∧ (∃ A cap, e.av = .slice A e.args.length cap ∧ True ∧ True ∧ True) ∧ (∃ A cap, e.pv = .slice A (e.parts.map Bd.cells).length cap ∧ True ∧ True ∧ True) ∧ (∃ A cap, e.mv = .slice A (e.arms.map Am.cells).length cap ∧ True ∧ True ∧ True) := by
  cases he with
  | mk srow skids args prow pkids mrow mpat mguard mbody ac af =>
    obtain ⟨A0, c0, h0, -, -, -⟩ := srow.head
    obtain ⟨A1, c1, h1, -, -, -⟩ := args.head
    obtain ⟨A2, c2, h2, -, -, -⟩ := prow.head
    obtain ⟨A3, c3, h3, -, -, -⟩ := mrow.head
    exact ⟨⟨A0, c0, h0, trivial, trivial, trivial⟩, ⟨A1, c1, h1, trivial, trivial, trivial⟩, ⟨A2, c2, h2, trivial, trivial, trivial⟩, ⟨A3, c3, h3, trivial, trivial, trivial⟩⟩
theorem headB_any (W0 : World) (e : Bd) (he : e.Has W0) (w : World) :
    Calls Tryd.prog 35 #[.agg e.cells.toArray] w fun r w' => r = .returned (.agg (hdB e).cells) ∧ Nb w w' := by
  obtain ⟨A0, cap0, hv0, -, -, -⟩ := he.heads.1
  try rw [List.length_map] at hv0
  obtain ⟨A1, cap1, hv1, -, -, -⟩ := he.heads.2.1
  try rw [List.length_map] at hv1
  obtain ⟨A2, cap2, hv2, -, -, -⟩ := he.heads.2.2.1
  try rw [List.length_map] at hv2
  obtain ⟨A3, cap3, hv3, -, -, -⟩ := he.heads.2.2.2
  try rw [List.length_map] at hv3
  have hc : e.cells = [.slice A0 e.stmts.length cap0, .int .i64 e.kind, .int .i64 e.at_, sV e.actor, .slice A1 e.args.length cap1, .slice A2 e.parts.length cap2, .slice A3 e.arms.length cap3, .bool e.late, .int .i64 e.after] := by
    rw [← hv0, ← hv1, ← hv2, ← hv3]; rfl
  rw [hc]
  clear hc
  go_enter Tryd.func35, Tryd.ntmps35
  go_wp2_with fail
  refine bodyPost_ret (v := .agg (hdB e).cells) (results_cell_row rfl _ _ (w.heap.size + 1) 34 _ (0, 0) _ rfl (new_blk _ _ (by rw [World.size_alloc])) Tryd.underlying34 rfl (by kernel_rfl)) rfl ⟨rfl, ((Nb.refl w).alloc _).alloc _⟩
theorem headP_any (W0 : World) (e : Pg) (he : e.Has W0) (w : World) :
    Calls Tryd.prog 44 #[.agg e.cells.toArray] w fun r w' => r = .returned (.agg (hdP e).cells) ∧ Nb w w' := by
  obtain ⟨A0, cap0, hv0, -, -, -⟩ := he.drow.head
  try rw [List.length_map] at hv0
  obtain ⟨A1, cap1, hv1, -, -, -⟩ := he.args.head
  try rw [List.length_map] at hv1
  have hc : e.cells = [.slice A0 e.defs.length cap0, .int .i64 e.at_, sV e.main, .slice A1 e.args.length cap1] := by
    rw [← hv0, ← hv1]; rfl
  rw [hc]
  clear hc
  go_enter Tryd.func44, Tryd.ntmps44
  go_wp2_with fail
  refine bodyPost_ret (v := .agg (hdP e).cells) (results_cell_row rfl _ _ (w.heap.size + 1) 34 _ (0, 0) _ rfl (new_blk _ _ (by rw [World.size_alloc])) Tryd.underlying34 rfl (by kernel_rfl)) rfl ⟨rfl, ((Nb.refl w).alloc _).alloc _⟩
theorem headD_any (W0 : World) (e : Df) (he : RowS W0 1 e.pv (e.params.map fun s => [sV s])) (w : World) :
    Calls Tryd.prog 42 #[.agg e.cells.toArray] w fun r w' => r = .returned (.agg (hdD e).cells) ∧ Nb w w' := by
  obtain ⟨A0, cap0, hv0, -, -, -⟩ := he.head
  try rw [List.length_map] at hv0
  have hc : e.cells = [.int .i64 e.at_, sV e.name, .slice A0 e.params.length cap0, e.body.sv, .int .i64 e.body.kind, .int .i64 e.body.at_, sV e.body.actor, e.body.av, e.body.pv, e.body.mv, .bool e.body.late, .int .i64 e.body.after] := by
    rw [← hv0]; rfl
  rw [hc]
  clear hc
  go_enter Tryd.func42, Tryd.ntmps42
  go_wp2_with fail
  refine bodyPost_ret (v := .agg (hdD e).cells) (results_cell_row rfl _ _ (w.heap.size + 1) 34 _ (0, 0) _ rfl (new_blk _ _ (by rw [World.size_alloc])) Tryd.underlying34 rfl (by kernel_rfl)) rfl ⟨rfl, ((Nb.refl w).alloc _).alloc _⟩
theorem headA_any (W0 : World) (e : Am) (he : ExsHas W0 e.gv e.guard) (w : World) :
    Calls Tryd.prog 33 #[.agg e.cells.toArray] w fun r w' => r = .returned (.agg (hdA e).cells) ∧ Nb w w' := by
  obtain ⟨A0, cap0, hv0, -, -, -⟩ := he.head
  try rw [List.length_map] at hv0
  have hc : e.cells = [.int .i64 e.pat.kind, .int .i64 e.pat.at_, .int .i64 e.pat.n, sV e.pat.name, e.pat.av, .slice A0 e.guard.length cap0, e.body.sv, .int .i64 e.body.kind, .int .i64 e.body.at_, sV e.body.actor, e.body.av, e.body.pv, e.body.mv, .bool e.body.late, .int .i64 e.body.after] := by
    rw [← hv0]; rfl
  rw [hc]
  clear hc
  go_enter Tryd.func33, Tryd.ntmps33
  go_wp2_with fail
  refine bodyPost_ret (v := .agg (hdA e).cells) (results_cell_row rfl _ _ (w.heap.size + 1) 34 _ (0, 0) _ rfl (new_blk _ _ (by rw [World.size_alloc])) Tryd.underlying34 rfl (by kernel_rfl)) rfl ⟨rfl, ((Nb.refl w).alloc _).alloc _⟩
theorem headM_any (s : Bs) (w : World) :
    Calls Tryd.prog 40 #[sV s] w fun r w' => r = .returned (.agg (hdM s).cells) ∧ Nb w w' := by
  go_enter Tryd.func40, Tryd.ntmps40
  go_wp2_with fail
  refine bodyPost_ret (v := .agg (hdM s).cells) (results_cell_row rfl _ _ w.heap.size 34 _ (0, 0) _ rfl (new_blk _ _ rfl) Tryd.underlying34 rfl (by kernel_rfl)) rfl ⟨rfl, (Nb.refl w).alloc _⟩
end Go.Proofs.YtojogolmcclpoaaDoor
end
section
namespace Go.Proofs.YtojogolmcclpoaaDoor
set_option linter.unusedVariables false
set_option linter.unusedSimpArgs false
section
variable {n : Nat} {P : Program} {ops : Array Oper} {Q : Exit → Act → World → Prop} {md : Region.Mode} {G : World → Prop}
theorem yieldsIf_w {i : Nat} {o : Oper} {v : Value} {a : Act} {S : World → Prop} (hi : ops[i]? = some o) (hy : YieldsIf P ops S o v a)
    {K : Act → World → Prop} {w : World} (hS : S w) (h : K (a.put o.dst v) w) : wpOpIn Fence.wide n P ops Q i K a w := by
  unfold Go.wpOpIn
  simp only [hi]
  rcases hy with ⟨hw, hv⟩ | ⟨hw, rfl⟩
  · simp only [hw, if_true, Oper.wpIn, show Fence.wide.round = none from rfl, Oper.semAt_none, hv w hS, Oper.uponIn]; exact ⟨fun _ _ => trivial, h⟩
  · simp only [hw, Bool.false_eq_true, if_false]; exact ⟨fun _ _ => trivial, h⟩
theorem wpOpW_putIf {j : Nat} {oi oj : Oper} {v : Value} {S : World → Prop} (hj : ops[j]? = some oj) (hap : oi.apart ops oj = true)
    (hsi : ∀ cs b, oi.op ≠ .select cs b) (hsj : ∀ cs b, oj.op ≠ .select cs b)
    (hQ : ∀ c a w, Q (.panic c) (a.put oi.dst v) w → Q (.panic c) a w) {K : Act → World → Prop} {a : Act} {w : World}
    (hy : YieldsIf P ops S oi v a) (h : wpOpIn Fence.wide n P ops Q j K (a.put oi.dst v) w) :
    wpOpIn Fence.wide n P ops Q j (fun a' w' => YieldsIf P ops S oi v a' ∧ K (a'.put oi.dst v) w') a w := by
  obtain ⟨h1, h2, h3⟩ := Oper.apart_spec hap
  have keep : ∀ (a : Act), YieldsIf P ops S oi v a → ∀ u, YieldsIf P ops S oi v (a.put oj.dst u) := fun a hy u =>
    hy.of_same (execOp_put oi hsi a oj.dst u h3) (wanted_put oi a oj.dst u h3)
  have keepD : ∀ d, YieldsIf P ops S oi v { a with defers := d :: a.defers } := fun d => hy.of_same rfl rfl
  have hro : Fence.wide.round = none := rfl
  unfold wpOpIn at *
  simp only [hj] at *
  rw [wanted_put oj a oi.dst v h1] at h
  split
  · rename_i hw
    simp only [hw, if_true] at h
    unfold Oper.wpIn at *
    refine ⟨fun _ _ => trivial, ?_⟩
    have h := h.2
    rw [hro, Oper.semAt_none, execOp_put oj hsj a oi.dst v h1] at h
    rw [hro, Oper.semAt_none]
    generalize (execOp a.eval oj).run P w = r at *
    cases r with
    | ok x w' =>
      cases x <;> simp only [Oper.uponIn] at h ⊢
      case value u => exact ⟨keep a hy u, by rw [← Act.put_comm a v u h2]; exact h⟩
      case skip => exact ⟨keep a hy _, by rw [← Act.put_comm a v undef h2]; exact h⟩
      case defer d =>
        refine ⟨keep _ (keepD d) _, ?_⟩
        rw [← Act.put_comm _ v undef h2, ← Act.put_defers]
        exact h
      case enter f args =>
        refine ⟨h.1, CallsIn.mono h.2 fun e w'' he => ?_⟩
        cases e with
        | returned u => exact ⟨keep a hy u, by rw [← Act.put_comm a v u h2]; exact he⟩
        | panicked c => exact hQ _ _ _ he
        | outgrown => exact he
      case row row args => exact ⟨h.1, RowsIn.mono h.2 fun u w'' he => ⟨keep a hy u, by rw [← Act.put_comm a v u h2]; exact he⟩⟩
      case round l f tmps assign body =>
        refine ⟨h.1, RoundIn.mono h.2 fun e w'' he => ?_⟩
        cases e with
        | returned u => exact ⟨keep a hy u, by rw [← Act.put_comm a v u h2]; exact he⟩
        | panicked c => exact hQ _ _ _ he
        | outgrown => exact he
    | halt x w' =>
      cases x <;> simp only [Oper.uponIn] at h ⊢
      case panic u => exact hQ _ _ _ h
  · rename_i hw
    simp only [hw] at h
    exact ⟨fun _ _ => trivial, keep a hy _, by rw [← Act.put_comm a v undef h2]; exact h.2⟩
end
end Go.Proofs.YtojogolmcclpoaaDoor
end
section
namespace Go.Proofs.YtojogolmcclpoaaDoor
open Go.RowKit
set_option linter.unusedVariables false
set_option linter.unusedSimpArgs false
set_option maxRecDepth 100000
set_option maxHeartbeats 4000000
abbrev Pt := Nat × Hd
/-- The parts of an expression (of a pattern) from a level on, k levels deep. -/
def flE (h : Ex → Hd) : Nat → Ex → List Pt
  | 0, _ => []
  | k + 1, e => (65 - k, h e) :: (e.args.map (flE h k)).flatten
def flEs (h : Ex → Hd) (k : Nat) (l : List Ex) : List Pt := (l.map (flE h k)).flatten
def flS (k : Nat) (s : St) : List Pt := (65 - k, hdS s) :: flEs hdE k s.args
def flB : Nat → Bd → List Pt
  | 0, _ => []
  | k + 1, b => (65 - k, hdB b) :: ((b.stmts.map (flS k)).flatten ++ flEs hdE k b.args ++ (b.parts.map (flB k)).flatten ++ (b.arms.map fun m => (65 - k, hdA m) :: (flE hdT k m.pat ++ flEs hdE k m.guard ++ flB k m.body)).flatten)
def flD (d : Df) : List Pt := (0, hdD d) :: (d.params.map (fun s => (0, hdM s)) ++ flB 65 d.body)
def flP (p : Pg) : List Pt := (0, hdP p) :: ((p.defs.map flD).flatten ++ flEs hdE 65 p.args)
/-- What the rounds and the iterator keep: what lay below lo, and cells from hi on. -/
def Kp (lo hi : Nat) (A B : World) : Prop := Below lo A B ∧ ∀ k o, hi ≤ k → A.heap[k]? = some o → o.isCells = true → B.heap[k]? = some o
theorem Kp.refl {lo hi : Nat} (A : World) : Kp lo hi A A := ⟨Below.refl _ _, fun _ _ _ h _ => h⟩
theorem Kp.trans {lo hi : Nat} {A B C : World} (h : Kp lo hi A B) (k : Kp lo hi B C) : Kp lo hi A C := ⟨h.1.trans k.1, fun i o hi hA ho => k.2 i o hi (h.2 i o hi hA ho) ho⟩
theorem Kp.size {lo hi : Nat} {A B : World} (h : Kp lo hi A B) : A.heap.size ≤ B.heap.size := h.1.size
theorem Kp.of_nb {lo hi : Nat} {A B : World} (hl : lo ≤ A.heap.size) (h : Nb A B) : Kp lo hi A B := ⟨Below.mono h hl, fun k o _ hA _ => h.block hA⟩
theorem Kp.block {lo hi : Nat} {A B : World} (h : Kp lo hi A B) {k : Nat} {cs : Array Value} {t : TypeId} {fr : Nat × Nat} (hk : hi ≤ k) (hA : A.heap[k]? = some (.cells cs t fr)) : B.heap[k]? = some (.cells cs t fr) := h.2 k _ hk hA rfl
theorem Kp.putObj {lo hi : Nat} (W : World) (l : Nat) (o o' : Obj) (hl : lo ≤ l) (h : W.heap[l]? = some o) (ho : o.isCells = false) : Kp lo hi W (W.putObj l o') :=
  ⟨(Below.refl lo W).grown (grownBy_putObj' W l o') (by have := (Array.getElem?_eq_some_iff.1 h).1; omega) (fun k e => by cases e; omega), fun k u hk hA hu => by
    by_cases e : k = l
    · subst e; rw [h] at hA; cases hA; rw [ho] at hu; cases hu
    · exact (World.putObj_heap_other (fun e' => e e')).trans hA⟩
/-- Where a walk over parts may have come to. -/
def Goes {J Jx : List Pt → World → Prop} (lo hi : Nat) (pre fl : List Pt) (W : World) (r : Ending) (W' : World) : Prop :=
  (r = .returned (.bool true) ∧ J (pre ++ fl) W' ∧ Kp lo hi W W') ∨ (r = .returned (.bool false) ∧ ∃ q, q <+: fl ∧ Jx (pre ++ q) W')
theorem Nb.trans' {W0 A B : World} {hi : Nat} (h : Nb W0 A) (k : Kp W0.heap.size hi A B) : Nb W0 B := Below.trans h k.1
theorem alloc_nb (w : World) (o : Obj) : Nb w (w.alloc o) := (Nb.refl w).alloc o
theorem flat_prefix {α : Type} (fl : α → List Pt) (l : List α) (i : Nat) : ((l.take i).map fl).flatten <+: (l.map fl).flatten := by
  have h := List.take_append_drop i l
  refine ⟨((l.drop i).map fl).flatten, ?_⟩
  rw [← List.flatten_append, ← List.map_append, h]
theorem wpList_store_new' {P : Program} {ops : Array Oper} {rest : List Oper} {o : Oper} {a : Act} {w : World} {Q : Exit → Act → World → Prop} (hgd : o.guard = none) (ty : TypeId) (x y : Operand) (ho : o.op = .store ty x y)
    (old cells : Array Value) (t : TypeId) (hx : a.eval x = .pointer (some ⟨w.heap.size, 0, none⟩)) (hy : a.eval y = .agg cells) (hi : (P.info? ty).map (·.size) = some cells.size)
    (hold : old.size = cells.size) (h1 : cells.all (·.oneCell') = true)
    (h : wpList P ops Q rest (a.put o.dst undef) (w.alloc (.cells cells t))) : wpList P ops Q (o :: rest) a (w.alloc (.cells old t)) := by
  refine wpList_store_row hgd ty x y ho w.heap.size cells hx hy t old (heap_alloc_new w _) hi hold h1 ?_
  rw [World.setRow_alloc_new]
  exact h
theorem eachE_any (W0 : World) (hi N : Nat) (J Jx : List Pt → World → Prop) (hJ : ∀ pre W W', J pre W → Nb W W' → J pre W') (L : Nat) (hL : L ≤ 66) (c0 c1 : Nat) (S : World → Prop)
    (hS : ∀ A B, Kp W0.heap.size hi A B → S A → S B) (fl : Ex → List Pt) (l : List Ex) (hok : ∀ x ∈ l, x.cells.toArray.all (·.oneCell') = true)
    (one : ∀ x ∈ l, ∀ pre W, Nb W0 W → S W → J pre W → pre.length + (fl x).length ≤ N → Calls Tryd.prog 24 #[.agg x.cells.toArray, .int .i64 L, .pointer (some ⟨c0, 0, none⟩), .pointer (some ⟨c1, 0, none⟩)] W (Goes (J := J) (Jx := Jx) W0.heap.size hi pre (fl x) W))
    (v : Value) (hrow : RowS W0 5 v (l.map Ex.cells)) (pre : List Pt) (W : World) (hW : Nb W0 W) (hSW : S W) (h0 : J pre W) (hN : pre.length + ((l.map fl).flatten).length ≤ N) :
    Calls Tryd.prog 26 #[v, .int .i64 L, .func (.func 24) #[] #[.pointer (some ⟨c0, 0, none⟩), .pointer (some ⟨c1, 0, none⟩)]] W (Goes (J := J) (Jx := Jx) W0.heap.size hi pre ((l.map fl).flatten) W) := by
  obtain ⟨A, cap, rfl, hcap, hlen, hz⟩ := hrow.head
  have hX := Lib.hid hrow
  rw [List.length_map] at hcap hlen hX ⊢
  obtain ⟨M, hM⟩ : ∃ M, l.length = M := ⟨_, rfl⟩
  have hMh := Lib.hid hM
  rw [hM] at hcap hlen hX ⊢
  clear hM hrow
  obtain ⟨F, hF⟩ : ∃ F, (l.map fl).flatten = F := ⟨_, rfl⟩
  have hFh := Lib.hid hF
  rw [hF] at hN ⊢
  clear hF
  have hJ := Lib.hid hJ
  have hokh := Lib.hid hok
  clear hok
  have hone := Lib.hid one
  have hS := Lib.hid hS
  have h0 := Lib.hid h0
  have hSW := Lib.hid hSW
  have hNh := Lib.hid hN
  clear one hN
  go_enter Tryd.func26, Tryd.ntmps26
  go_wp2_with fail
  go_loopw [11] (fun si wr => ∃ i : Nat, i ≤ M ∧ si = .int .i64 i ∧ J (pre ++ ((l.take i).map fl).flatten) wr ∧ Kp W0.heap.size hi W wr) (fun si _ => M - (intOf si).toNat)
  case atStart => exact ⟨0, Nat.zero_le _, rfl, by simpa using h0.out, Kp.refl _⟩
  case round =>
    obtain ⟨i, hi2, rfl, hj, hk⟩ := hrel
    have hj := Lib.hid hj
    by_cases hlt2 : i < M
    · have hlt3 : (i : Int) < (M : Int) := by omega
      obtain ⟨x, hx⟩ : ∃ x, l[i]? = some x := ⟨_, List.getElem?_eq_getElem (by rw [hMh.out]; exact hlt2)⟩
      obtain ⟨b, o, rfl, hxc⟩ := hX.out.at_ (i := i) (r := x.cells) (by rw [List.getElem?_map, hx]; rfl)
      have hnb : Nb W0 wr := hW.trans' hk
      have y0 := hnb.cell (hxc 0 _ rfl)
      have y1 := hnb.cell (hxc 1 _ rfl)
      have y2 := hnb.cell (hxc 2 _ rfl)
      have y3 := hnb.cell (hxc 3 _ rfl)
      have y4 := hnb.cell (hxc 4 _ rfl)
      rw [Nat.add_zero] at y0
      have htk : ((l.take (i + 1)).map fl).flatten = ((l.take i).map fl).flatten ++ fl x := by rw [List.take_add_one, hx]; simp
      have hle : ((l.take i).map fl).flatten.length + (fl x).length ≤ F.length := by
        rw [← List.length_append, ← htk, ← hFh.out]
        exact (flat_prefix fl l (i + 1)).length_le
      have hpf : ∀ q, q <+: fl x → ((l.take i).map fl).flatten ++ q <+: F := fun q hq => by
        rw [← hFh.out]
        refine List.IsPrefix.trans ?_ (flat_prefix fl l (i + 1))
        rw [htk]
        obtain ⟨t, ht⟩ := hq
        exact ⟨t, by rw [List.append_assoc, ht]⟩
      have hcall := Lib.hid (fun W5 (h5 : Nb wr W5) => hone.out x (List.mem_of_getElem? hx) (pre ++ ((l.take i).map fl).flatten) W5 (hnb.trans h5) (hS.out _ _ (hk.trans (Kp.of_nb hnb.size h5)) hSW.out) (hJ.out _ _ _ hj.out h5) (by rw [List.length_append]; have := hNh.out; omega))
      have htk := Lib.hid htk
      have hpf := Lib.hid hpf
      have hnb := Lib.hid hnb
      have hox := Lib.hid (hokh.out x (List.mem_of_getElem? hx))
      clear hx hxc hle
      go_wp2_with (first
        | (refine wpList_store_new' rfl 36 (.tmp 8) (.tmp 14) rfl _ x.cells.toArray _ rfl rfl (show (Tryd.prog.info? 36).map (·.size) = some 5 by kernel_rfl) rfl hox.out ?_; obtain ⟨W5, hW5⟩ : ∃ W5, wr.alloc (.cells x.cells.toArray 36) = W5 := ⟨_, rfl⟩; have b5 : W5.heap[wr.heap.size]? = some (.cells x.cells.toArray 36 (0, 0)) := (by rw [← hW5]; exact new_blk _ _ rfl); have n5 : Nb wr W5 := (by rw [← hW5]; exact alloc_nb _ _); rw [hW5]; clear hW5)
        | (refine wpList_load_row rfl 36 (.tmp 8) rfl wr.heap.size rfl 36 x.cells.toArray (0, 0) _ b5 Tryd.underlying36 rfl (show (Tryd.prog.info? 36).map (·.size) = some 5 by kernel_rfl) ?_)
        | (go_at_call 24; refine (hcall.out _ n5).mono ?_; rintro r w6 (⟨rfl, hj6, hk6⟩ | ⟨rfl, q, hq, hx6⟩)))
      · refine ⟨⟨i + 1, by omega, by simp, by rw [htk.out, ← List.append_assoc]; exact hj6, hk.trans ((Kp.of_nb hnb.out.size n5).trans hk6)⟩, by simp [intOf] <;> omega⟩
      · go_ret
        exact .inr ⟨rfl, _, hpf.out q hq, by rw [← List.append_assoc]; exact hx6⟩
    · obtain rfl : i = M := by omega
      have hall : ((l.take i).map fl).flatten = F := by rw [← hFh.out, ← hMh.out, List.take_length]
      have hj := Lib.hid (show J (pre ++ F) wr by rw [← hall]; exact hj.out)
      go_wp2_with fail
      go_ret
      exact .inl ⟨rfl, hj.out, hk⟩
end Go.Proofs.YtojogolmcclpoaaDoor
end
