/-
  Proved here: steps of regions that draw their order: a slice literal, an append whose source may be nil. Conditions: none.
-/
import Derived.Deep.AppendLies
import Derived.Deep.DeepCutAuto
import Derived.Test.YticifolljhplmaaZd
import Derived.Test.YticifolljhplmaaZb
namespace Go.Proofs.Yticifolljhplmaa
open Go.RowKit
set_option linter.unusedVariables false
set_option linter.unusedSimpArgs false
set_option maxRecDepth 100000
theorem step_bs {P : Program} {w w' : World} {ops : Array Oper} {o : Oper} {a : Act} {K : Act → World → Prop} {Q : Exit → Act → World → Prop} {E : Prop} (hgd : o.guard = none) (t : TypeId) (len : Nat) (parts : Array (Nat × Operand)) (ho : o.op = .buildSlice t len parts)
    (vs : Array (Nat × Value)) (hp : (parts.map fun (i, x) => (i, a.eval x)) = vs) (v : Value) (hr : (Instr.buildSlice t len vs).run P w = .ok v w') (h : K (a.put o.dst v) w') :
    if Region.wanted o (yielded ops a.tmps) = true then Oper.wp P o a w K Q else E := by
  have hw : Region.wanted o (yielded ops a.tmps) = true := by simp [Region.wanted, hgd]
  rw [if_pos hw]
  unfold Oper.wp execOp
  simp only [ho, Sem.run_bind, hp, hr, Result.andThen_ok]
  exact h
theorem step_append_src {P : Program} {w : World} {ops : Array Oper} {o : Oper} {a : Act} {K : Act → World → Prop} {Q : Exit → Act → World → Prop} {E : Prop} (hgd : o.guard = none) (s x : Operand) (t : TypeId)
    (ho : o.op = .call { callee := .builtin .append, args := #[s, x], argTypes := #[t, t] })
    (base : Nat) (e : TypeId) (i : TypeInfo) (z : Value) (size bytes : Nat) (ht : P.underlying t = some (.slice e)) (hi : P.info? e = some i) (hz : i.zero = some z)
    (hsize : i.size = size) (hby : i.bytes = bytes) (hzs : z.cells.size = size) (hsz : 0 < size)
    (v : Value) (n : Nat) (xs : List Value) (hs : a.eval s = v) (hown : w.ownsRow base e size v n xs)
    (sv : Value) (m : Nat) (news : List Value) (hx : a.eval x = sv) (hsrc : SrcR w sv m size news)
    (h63 : n + m ≤ maxLen) (hbytes : (n + m) * bytes ≤ 140737488355328) (hbase : base ≤ w.heap.size)
    (h : ∀ v' w', w'.ownsRow base e size v' (n + m) (xs ++ news) → w.grownBy w' v.ownBlock → K (a.put o.dst v') w') :
    if Region.wanted o (yielded ops a.tmps) = true then Oper.wp P o a w K Q else E := by
  have hw : Region.wanted o (yielded ops a.tmps) = true := by simp [Region.wanted, hgd]
  rw [if_pos hw]
  rcases hsrc with ⟨rfl, rfl, rfl⟩ | ⟨ad, c, rfl, hl, hn, h1⟩
  · have hrun := run_append_owned_none (P := P) (w := w) base t o.type e i size ht hi v n xs hown
    unfold Oper.wp
    simp [execOp, ho, resolve, invoke, builtin, hs, hx, hrun, Result.andThen]
    exact h v w (by simpa using hown) ⟨rfl, rfl, rfl, Nat.le_refl _, fun _ _ _ => rfl⟩
  · exact wp_append_own w s x t ho base e i z size bytes ht hi hz hsize hby hzs hsz v n xs hs hown ad m c news hx hl hn h1 h63 hbytes hbase (fun v' w' h2 h3 _ => h v' w' h2 h3)
theorem bs1 {a : Array Value} (ha : a.size = 17) (w : World) : (Instr.buildSlice 22 1 #[(0, .agg a)]).run Try.prog w = .ok (.slice (some ⟨w.heap.size, 0, none⟩) 1 1) (w.alloc (.cells a 32)) := by
  obtain ⟨x0, x1, x2, x3, x4, x5, x6, x7, x8, x9, x10, x11, x12, x13, x14, x15, x16, rfl⟩ := arr17 ha
  kernel_rfl
/-- A block of one struct, as a source. -/
theorem src_one {w : World} {g : Nat} {c : Array Value} {t : TypeId} {fr : Nat × Nat} (h : w.heap[g]? = some (.cells c t fr)) (hs : c.size = 17) (h1 : ∀ u ∈ c.toList, u.oneCell' = true) : SrcR w (.slice (some ⟨g, 0, none⟩) 1 1) 1 17 c.toList :=
  .inr ⟨_, 1, rfl, by simp [hs], fun j u hj => by
    rw [Addr.add_mid, cell_of_row _ _ (0 + j) _ _ _ h]
    rw [Nat.zero_add]
    simpa using hj, h1⟩
theorem Nb.range {w W : World} {b o : Nat} {cs : List Value} (k : Nb w W) (h : w.rangeAt b o cs) : W.rangeAt b o cs := fun j v hj => k.cell (h j v hj)
theorem SR.of {w W : World} {b o : Nat} {cs : List Value} (h : w.rangeAt b o cs) (k : Nb w W) : Nb w W ∧ W.rangeAt b o cs := ⟨k, k.range h⟩
theorem grown_blk {w W : World} {v : Value} {g : Nat} {o : Obj} (hg : w.grownBy W v.ownBlock) (h : w.heap[g]? = some o) (hne : v.ownBlock ≠ some g) : W.heap[g]? = some o :=
  (hg.block g (lt_blk h) (fun e => hne e.symm)).trans h
theorem fence_ok (p s : Int) (w : World) : (fenceD p s).Has w :=
  ⟨.inl ⟨⟨_, _, rfl⟩, rfl⟩, .inl ⟨⟨_, _, rfl⟩, rfl⟩, .inl ⟨⟨_, _, rfl⟩, rfl⟩, .inl ⟨⟨_, _, rfl⟩, rfl⟩, ⟨by simp [fenceD], by simp [fenceD], by simp [fenceD], by simp [fenceD], by simp [fenceD], by simp [fenceD], by simp [fenceD], by simp [fenceD]⟩⟩
end Go.Proofs.Yticifolljhplmaa
