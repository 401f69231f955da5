/-
  Proved here: the heads of a program's parts, as the code makes them. Conditions: none.
-/
import Derived.Test.YtjibblpfhnigjaaDoorSab
namespace Go.Proofs.YtjibblpfhnigjaaDoor
open Go.RowKit
set_option linter.unusedVariables false
set_option linter.unusedSimpArgs false
set_option maxRecDepth 100000
set_option maxHeartbeats 4000000
/-- A part without what stands in it. -/
structure Hd where
  sort : Int
  kind : Int
  name : Bs
  actor : Bs
  n : Int
  late : Bool
  defs : Nat
  params : Nat
  stmts : Nat
  args : Nat
  parts : Nat
  arms : Nat
abbrev nV (n : Nat) : Value := .int .i64 (n : Int)
def Hd.cells (h : Hd) : Array Value := #[.int .i64 h.sort, .int .i64 h.kind, sV h.name, sV h.actor, .int .i64 h.n, .bool h.late, nV h.defs, nV h.params, nV h.stmts, nV h.args, nV h.parts, nV h.arms]
def hdP (p : Pg) : Hd := ⟨1, 0, p.main, [], 0, false, p.defs.length, 0, 0, p.args.length, 0, 0⟩
def hdD (d : Df) : Hd := ⟨2, 0, d.name, [], 0, false, 0, d.params.length, 0, 0, 0, 0⟩
def hdM (s : Bs) : Hd := ⟨3, 0, s, [], 0, false, 0, 0, 0, 0, 0, 0⟩
def hdB (b : Bd) : Hd := ⟨4, b.kind, [], b.actor, b.after, b.late, 0, 0, b.stmts.length, b.args.length, b.parts.length, b.arms.length⟩
def hdS (s : St) : Hd := ⟨5, s.kind, s.name, s.actor, 0, false, 0, 0, 0, s.args.length, 0, 0⟩
def hdA (m : Am) : Hd := ⟨6, 0, [], [], 0, false, 0, 0, 0, m.guard.length, 0, 0⟩
def hdE (e : Ex) : Hd := ⟨7, e.kind, e.name, [], e.n, false, 0, 0, 0, e.args.length, 0, 0⟩
def hdT (e : Ex) : Hd := ⟨8, e.kind, e.name, [], e.n, false, 0, 0, 0, e.args.length, 0, 0⟩
theorem headE_any (W0 : World) (e : Ex) (he : e.Has W0) (w : World) :
    Calls Tryd.prog 26 #[.agg e.cells.toArray] w fun r w' => r = .returned (.agg (hdE e).cells) ∧ Nb w w' := by
  obtain ⟨A0, cap0, hv0, -, -, -⟩ := he.exs.head
  try rw [List.length_map] at hv0
  have hc : e.cells = [.int .i64 e.kind, .int .i64 e.at_, .int .i64 e.n, sV e.name, .slice A0 e.args.length cap0] := by
    rw [← hv0]; rfl
  rw [hc]
  clear hc
  go_enter Tryd.func26, Tryd.ntmps26
  go_wp2_with fail
  refine bodyPost_ret (v := .agg (hdE e).cells) (results_cell_row rfl _ _ (w.heap.size + 1) 52 _ (0, 0) _ rfl (new_blk _ _ (by rw [World.size_alloc])) Tryd.underlying52 rfl (by kernel_rfl)) rfl ⟨rfl, ((Nb.refl w).alloc _).alloc _⟩
theorem headT_any (W0 : World) (e : Ex) (he : e.Has W0) (w : World) :
    Calls Tryd.prog 29 #[.agg e.cells.toArray] w fun r w' => r = .returned (.agg (hdT e).cells) ∧ Nb w w' := by
  obtain ⟨A0, cap0, hv0, -, -, -⟩ := he.exs.head
  try rw [List.length_map] at hv0
  have hc : e.cells = [.int .i64 e.kind, .int .i64 e.at_, .int .i64 e.n, sV e.name, .slice A0 e.args.length cap0] := by
    rw [← hv0]; rfl
  rw [hc]
  clear hc
  go_enter Tryd.func29, Tryd.ntmps29
  go_wp2_with fail
  refine bodyPost_ret (v := .agg (hdT e).cells) (results_cell_row rfl _ _ (w.heap.size + 1) 52 _ (0, 0) _ rfl (new_blk _ _ (by rw [World.size_alloc])) Tryd.underlying52 rfl (by kernel_rfl)) rfl ⟨rfl, ((Nb.refl w).alloc _).alloc _⟩
theorem headS_any (W0 : World) (e : St) (he : e.Has W0) (w : World) :
    Calls Tryd.prog 32 #[.agg e.cells.toArray] w fun r w' => r = .returned (.agg (hdS e).cells) ∧ Nb w w' := by
  obtain ⟨A0, cap0, hv0, -, -, -⟩ := he.args.head
  try rw [List.length_map] at hv0
  have hc : e.cells = [.int .i64 e.kind, .int .i64 e.at_, sV e.name, sV e.actor, .slice A0 e.args.length cap0] := by
    rw [← hv0]; rfl
  rw [hc]
  clear hc
  go_enter Tryd.func32, Tryd.ntmps32
  go_wp2_with fail
  refine bodyPost_ret (v := .agg (hdS e).cells) (results_cell_row rfl _ _ (w.heap.size + 1) 52 _ (0, 0) _ rfl (new_blk _ _ (by rw [World.size_alloc])) Tryd.underlying52 rfl (by kernel_rfl)) rfl ⟨rfl, ((Nb.refl w).alloc _).alloc _⟩
theorem Bd.Has.heads {w : World} {e : Bd} (he : e.Has w) : (∃ A cap, e.sv = .slice A (e.stmts.map St.cells).length cap ∧ True ∧ True ∧ True) ∧ (∃ A cap, e.av = .slice A e.args.length cap ∧ True ∧ True ∧ True) ∧ (∃ A cap, e.pv = .slice A (e.parts.map Bd.cells).length cap ∧ True ∧ True ∧ True) ∧ (∃ A cap, e.mv = .slice A (e.arms.map Am.cells).length cap ∧ True ∧ True ∧ True) := by
  cases he with
  | mk srow skids args prow pkids mrow mpat mguard mbody ac af =>
    obtain ⟨A0, c0, h0, -, -, -⟩ := srow.head
    obtain ⟨A1, c1, h1, -, -, -⟩ := args.head
    obtain ⟨A2, c2, h2, -, -, -⟩ := prow.head
    obtain ⟨A3, c3, h3, -, -, -⟩ := mrow.head
    exact ⟨⟨A0, c0, h0, trivial, trivial, trivial⟩, ⟨A1, c1, h1, trivial, trivial, trivial⟩, ⟨A2, c2, h2, trivial, trivial, trivial⟩, ⟨A3, c3, h3, trivial, trivial, trivial⟩⟩
theorem headB_any (W0 : World) (e : Bd) (he : e.Has W0) (w : World) :
    Calls Tryd.prog 36 #[.agg e.cells.toArray] w fun r w' => r = .returned (.agg (hdB e).cells) ∧ Nb w w' := by
  obtain ⟨A0, cap0, hv0, -, -, -⟩ := he.heads.1
  try rw [List.length_map] at hv0
  obtain ⟨A1, cap1, hv1, -, -, -⟩ := he.heads.2.1
  try rw [List.length_map] at hv1
  obtain ⟨A2, cap2, hv2, -, -, -⟩ := he.heads.2.2.1
  try rw [List.length_map] at hv2
  obtain ⟨A3, cap3, hv3, -, -, -⟩ := he.heads.2.2.2
  try rw [List.length_map] at hv3
  have hc : e.cells = [.slice A0 e.stmts.length cap0, .int .i64 e.kind, .int .i64 e.at_, sV e.actor, .slice A1 e.args.length cap1, .slice A2 e.parts.length cap2, .slice A3 e.arms.length cap3, .bool e.late, .int .i64 e.after] := by
    rw [← hv0, ← hv1, ← hv2, ← hv3]; rfl
  rw [hc]
  clear hc
  go_enter Tryd.func36, Tryd.ntmps36
  go_wp2_with fail
  refine bodyPost_ret (v := .agg (hdB e).cells) (results_cell_row rfl _ _ (w.heap.size + 1) 52 _ (0, 0) _ rfl (new_blk _ _ (by rw [World.size_alloc])) Tryd.underlying52 rfl (by kernel_rfl)) rfl ⟨rfl, ((Nb.refl w).alloc _).alloc _⟩
theorem headP_any (W0 : World) (e : Pg) (he : e.Has W0) (w : World) :
    Calls Tryd.prog 45 #[.agg e.cells.toArray] w fun r w' => r = .returned (.agg (hdP e).cells) ∧ Nb w w' := by
  obtain ⟨A0, cap0, hv0, -, -, -⟩ := he.drow.head
  try rw [List.length_map] at hv0
  obtain ⟨A1, cap1, hv1, -, -, -⟩ := he.args.head
  try rw [List.length_map] at hv1
  have hc : e.cells = [.slice A0 e.defs.length cap0, .int .i64 e.at_, sV e.main, .slice A1 e.args.length cap1] := by
    rw [← hv0, ← hv1]; rfl
  rw [hc]
  clear hc
  go_enter Tryd.func45, Tryd.ntmps45
  go_wp2_with fail
  refine bodyPost_ret (v := .agg (hdP e).cells) (results_cell_row rfl _ _ (w.heap.size + 1) 52 _ (0, 0) _ rfl (new_blk _ _ (by rw [World.size_alloc])) Tryd.underlying52 rfl (by kernel_rfl)) rfl ⟨rfl, ((Nb.refl w).alloc _).alloc _⟩
theorem headD_any (W0 : World) (e : Df) (he : RowS W0 1 e.pv (e.params.map fun s => [sV s])) (w : World) :
    Calls Tryd.prog 43 #[.agg e.cells.toArray] w fun r w' => r = .returned (.agg (hdD e).cells) ∧ Nb w w' := by
  obtain ⟨A0, cap0, hv0, -, -, -⟩ := he.head
  try rw [List.length_map] at hv0
  have hc : e.cells = [.int .i64 e.at_, sV e.name, .slice A0 e.params.length cap0, e.body.sv, .int .i64 e.body.kind, .int .i64 e.body.at_, sV e.body.actor, e.body.av, e.body.pv, e.body.mv, .bool e.body.late, .int .i64 e.body.after] := by
    rw [← hv0]; rfl
  rw [hc]
  clear hc
  go_enter Tryd.func43, Tryd.ntmps43
  go_wp2_with fail
  refine bodyPost_ret (v := .agg (hdD e).cells) (results_cell_row rfl _ _ (w.heap.size + 1) 52 _ (0, 0) _ rfl (new_blk _ _ (by rw [World.size_alloc])) Tryd.underlying52 rfl (by kernel_rfl)) rfl ⟨rfl, ((Nb.refl w).alloc _).alloc _⟩
theorem headA_any (W0 : World) (e : Am) (he : ExsHas W0 e.gv e.guard) (w : World) :
    Calls Tryd.prog 34 #[.agg e.cells.toArray] w fun r w' => r = .returned (.agg (hdA e).cells) ∧ Nb w w' := by
  obtain ⟨A0, cap0, hv0, -, -, -⟩ := he.head
  try rw [List.length_map] at hv0
  have hc : e.cells = [.int .i64 e.pat.kind, .int .i64 e.pat.at_, .int .i64 e.pat.n, sV e.pat.name, e.pat.av, .slice A0 e.guard.length cap0, e.body.sv, .int .i64 e.body.kind, .int .i64 e.body.at_, sV e.body.actor, e.body.av, e.body.pv, e.body.mv, .bool e.body.late, .int .i64 e.body.after] := by
    rw [← hv0]; rfl
  rw [hc]
  clear hc
  go_enter Tryd.func34, Tryd.ntmps34
  go_wp2_with fail
  refine bodyPost_ret (v := .agg (hdA e).cells) (results_cell_row rfl _ _ (w.heap.size + 1) 52 _ (0, 0) _ rfl (new_blk _ _ (by rw [World.size_alloc])) Tryd.underlying52 rfl (by kernel_rfl)) rfl ⟨rfl, ((Nb.refl w).alloc _).alloc _⟩
theorem headM_any (s : Bs) (w : World) :
    Calls Tryd.prog 41 #[sV s] w fun r w' => r = .returned (.agg (hdM s).cells) ∧ Nb w w' := by
  go_enter Tryd.func41, Tryd.ntmps41
  go_wp2_with fail
  refine bodyPost_ret (v := .agg (hdM s).cells) (results_cell_row rfl _ _ w.heap.size 52 _ (0, 0) _ rfl (new_blk _ _ rfl) Tryd.underlying52 rfl (by kernel_rfl)) rfl ⟨rfl, (Nb.refl w).alloc _⟩
end Go.Proofs.YtjibblpfhnigjaaDoor
