/-
  Proved here: of the reference: how many parts a tree's expressions have. Conditions: the memory holds them.
-/
import Derived.Test.YtmoggaecnjcjfaaJb
import Derived.Laws.AppendOwn
import Derived.Deep.AppendLies
namespace Go.Proofs.Ytmoggaecnjcjfaa
open Go.RowKit
set_option linter.unusedVariables false
set_option linter.unusedSimpArgs false
set_option maxRecDepth 100000
set_option maxHeartbeats 2000000
def Gb (cb : Nat) (w w' : World) : Prop := w.grownBy w' (some cb)
theorem Gb.refl (cb : Nat) (w : World) : Gb cb w w := ⟨rfl, rfl, rfl, Nat.le_refl _, fun _ _ _ => rfl⟩
theorem Gb.trans {cb : Nat} {a b c : World} (h : Gb cb a b) (k : Gb cb b c) : Gb cb a c :=
  ⟨k.os.trans h.os, k.tape.trans h.tape, k.output.trans h.output, Nat.le_trans h.size k.size, fun i hi hne => (k.block i (Nat.lt_of_lt_of_le hi h.size) hne).trans (h.block i hi hne)⟩
theorem Gb.alloc {cb : Nat} {a b : World} (h : Gb cb a b) (o : Obj) : Gb cb a (b.alloc o) :=
  h.trans ⟨rfl, rfl, rfl, by simp, fun i hi _ => Below.heap_alloc b o i hi⟩
theorem Gb.set {cb : Nat} {a b : World} (h : Gb cb a b) (j : Nat) (v : Value) : Gb cb a (b.setCell ⟨cb, j, none⟩ v) :=
  h.trans ⟨rfl, rfl, rfl, by simp, fun i hi hne => Below.heap_setCell b _ _ i (fun e => hne (by rw [e]))⟩
theorem Gb.nb {cb : Nat} {W0 w w' : World} (h : Gb cb w w') (hn : Nb W0 w) (hcb : W0.heap.size ≤ cb) : Nb W0 w' :=
  Below.grown (row := some cb) hn h hn.size (fun k e => by cases e; exact hcb)
theorem Gb.block {cb : Nat} {w w' : World} (h : Gb cb w w') {i : Nat} {o : Obj} (hi : w.heap[i]? = some o) (hne : i ≠ cb) : w'.heap[i]? = some o :=
  (World.grownBy.block h i (lt_blk hi) (fun e => hne (Option.some.inj e))).trans hi
theorem drop_some {α : Type} {l : List α} {i : Nat} {x : α} (h : l[i]? = some x) : l.drop i = x :: l.drop (i + 1) := by
  have hi := (List.getElem?_eq_some_iff.1 h).1
  rw [List.drop_eq_getElem_cons hi]
  rw [List.getElem?_eq_getElem hi] at h
  rw [Option.some.inj h]
end Go.Proofs.Ytmoggaecnjcjfaa
