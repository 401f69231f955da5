/-
  Proved here: words of memory: a memory object and its bytes in blocks of their own; what made, part and number of the code answer. Conditions: the memory is one that a call made.
-/
import Derived.Test.YtojogolmcclpoaaProg
import Derived.Test.YtojogolmcclpoaaMm
import Derived.WalkKit
import Derived.WalkSpells
import Derived.WalkLawsBesides
import Derived.Deep.QuietTactic
import Derived.BigQuiet
import Derived.BigRegion
import Derived.RowKit3
import Derived.Handy
import Derived.Lib.Hide
import Derived.Laws.CopyOwn
import Derived.OwnWalk
import Derived.LoopN
namespace Go.Proofs.Ytojogolmcclpoaa
open Go.RowKit
set_option linter.unusedVariables false
set_option linter.unusedSimpArgs false
/-- Block p is a memory object of type T, block b its bytes. -/
def Mem (T : TypeId) (w : World) (p b : Nat) (bs : By) : Prop :=
  w.heap[p]? = some (.cells #[.slice (some ⟨b, 0, none⟩) bs.length bs.length] T (0, 0)) ∧ w.heap[b]? = some (.cells (Lib.byteCells bs).toArray 5 (0, 0))
theorem lt_blk {w : World} {g : Nat} {o : Obj} (h : w.heap[g]? = some o) : g < w.heap.size := (Array.getElem?_eq_some_iff.1 h).1
theorem Mem.ne {T : TypeId} {w : World} {p b : Nat} {bs : By} (h : Mem T w p b bs) (hT : T ≠ 5) : p ≠ b := by
  rintro rfl
  have := h.1.symm.trans h.2
  simp at this
  exact hT this.2
theorem Mem.lt {T : TypeId} {w : World} {p b : Nat} {bs : By} (h : Mem T w p b bs) : p < w.heap.size ∧ b < w.heap.size := ⟨lt_blk h.1, lt_blk h.2⟩
theorem Mem.below {T : TypeId} {w w' : World} {p b : Nat} {bs : By} (h : Mem T w p b bs) {B : Nat} (hb : Below B w w') (hp : p < B) (hq : b < B) : Mem T w' p b bs := ⟨(hb.block p hp).trans h.1, (hb.block b hq).trans h.2⟩
theorem Mem.nb {T : TypeId} {w w' : World} {p b : Nat} {bs : By} (h : Mem T w p b bs) (hb : Below w.heap.size w w') : Mem T w' p b bs := h.below hb h.lt.1 h.lt.2
theorem Mem.grown {T : TypeId} {w w' : World} {p b : Nat} {bs : By} (h : Mem T w p b bs) {row : Option Nat} (hg : w.grownBy w' row) (hp : some p ≠ row) (hb : some b ≠ row) : Mem T w' p b bs :=
  ⟨(hg.block p h.lt.1 hp).trans h.1, (hg.block b h.lt.2 hb).trans h.2⟩
theorem Mem.head {T : TypeId} {w : World} {p b : Nat} {bs : By} (h : Mem T w p b bs) : w.cell? ⟨p, 0, none⟩ = some (.slice (some ⟨b, 0, none⟩) bs.length bs.length) := cell_of_row _ _ 0 _ _ _ h.1
theorem Mem.byte {T : TypeId} {w : World} {p b : Nat} {bs : By} (h : Mem T w p b bs) (k : Nat) (hk : k < bs.length) : w.cell? ⟨b, k, none⟩ = some (.int .u8 (bs[k].toNat : Int)) := by
  rw [cell_of_row _ _ k _ _ _ h.2]
  simp [Lib.byteCells, hk]
theorem Mem.byte? {T : TypeId} {w : World} {p b : Nat} {bs : By} (h : Mem T w p b bs) (k : Nat) (c : UInt8) (hk : bs[k]? = some c) : w.cell? ⟨b, k, none⟩ = some (.int .u8 (c.toNat : Int)) := by
  rw [cell_of_row _ _ k _ _ _ h.2]
  simp [Lib.byteCells, hk]
theorem frozen_blk {w : World} {g : Nat} {cs : Array Value} {t : TypeId} (h : w.heap[g]? = some (.cells cs t (0, 0))) (k : Nat) : w.frozen? ⟨g, k, none⟩ = false := by simp [World.frozen?, h]
theorem Mem.frozen {T : TypeId} {w : World} {p b : Nat} {bs : By} (h : Mem T w p b bs) (k : Nat) : w.frozen? ⟨b, k, none⟩ = false := frozen_blk h.2 k
theorem set_blk {w : World} {g : Nat} {cs : Array Value} {t : TypeId} (h : w.heap[g]? = some (.cells cs t (0, 0))) (k : Nat) (v : Value) : (w.setCell ⟨g, k, none⟩ v).heap[g]? = some (.cells (cs.setIfInBounds k v) t (0, 0)) := by
  simp [World.setCell, Array.getElem?_modify, h]
theorem set_grown (w : World) (g k : Nat) (v : Value) : w.grownBy (w.setCell ⟨g, k, none⟩ v) (some g) :=
  ⟨rfl, rfl, rfl, by simp [World.setCell], fun i _ hi => Below.heap_setCell _ _ _ i (fun e => hi (by rw [e]))⟩
theorem byteCells_set (bs : By) (k : Nat) (c : UInt8) : (Lib.byteCells bs).set k (.int .u8 (c.toNat : Int)) = Lib.byteCells (bs.set k c) := by
  simp [Lib.byteCells, List.map_set]
theorem Mem.set {T : TypeId} {w : World} {p b : Nat} {bs : By} (h : Mem T w p b bs) (hT : T ≠ 5) (k : Nat) (c : UInt8) : Mem T (w.setCell ⟨b, k, none⟩ (.int .u8 (c.toNat : Int))) p b (bs.set k c) := by
  refine ⟨?_, ?_⟩
  · rw [List.length_set]; exact (Below.heap_setCell _ _ _ _ (h.ne hT)).trans h.1
  · rw [set_blk h.2, ← byteCells_set]; simp
theorem grown_trans {w w1 w2 : World} {row : Option Nat} (h : w.grownBy w1 row) (k : w1.grownBy w2 row) : w.grownBy w2 row :=
  ⟨k.os.trans h.os, k.tape.trans h.tape, k.output.trans h.output, Nat.le_trans h.size k.size, fun i hi hr => (k.block i (Nat.lt_of_lt_of_le hi h.size) hr).trans (h.block i hi hr)⟩
theorem grown_below {w w1 w2 : World} {b : Nat} (h : w.grownBy w1 (some b)) (k : Below w1.heap.size w1 w2) : w.grownBy w2 (some b) :=
  ⟨k.os.trans h.os, k.tape.trans h.tape, k.output.trans h.output, Nat.le_trans h.size k.size, fun i hi hr => (k.block i (Nat.lt_of_lt_of_le hi h.size)).trans (h.block i hi hr)⟩
theorem grown_drew {w w1 : World} {row : Option Nat} (h : w.grownBy w1 row) (n : Nat) : w.grownBy (w1.drewN n) row := ⟨h.os, h.tape, h.output, h.size, h.block⟩
/-- Of what stands below B nothing has turned, the one row being above. -/
theorem below_grown {B b : Nat} {w w1 w2 : World} (h : Below B w w1) (k : w1.grownBy w2 (some b)) (hB : B ≤ w1.heap.size) (hb : B ≤ b) : Below B w w2 :=
  h.grown k hB (fun i e => by injection e with e; omega)
/-- Why so many bytes can't be there. -/
def fltP (n : Nat) (at_ k : Int) : Int := if (n : Int) < at_ + k then 50 else 0
/-- Why a number can't be there. -/
def flt (n : Nat) (at_ size : Int) : Int := if ¬ (size = 1 ∨ size = 2 ∨ size = 4 ∨ size = 8) then 2 else if at_ % size ≠ 0 then 51 else fltP n at_ size
theorem flt_size {n : Nat} {a s : Int} (h : ¬ (s = 1 ∨ s = 2 ∨ s = 4 ∨ s = 8)) : flt n a s = 2 := if_pos h
theorem flt_align {n : Nat} {a s : Int} (h : s = 1 ∨ s = 2 ∨ s = 4 ∨ s = 8) (h2 : a % s ≠ 0) : flt n a s = 51 := by unfold flt; rw [if_neg (by omega), if_pos h2]
theorem flt_part {n : Nat} {a s : Int} (h : s = 1 ∨ s = 2 ∨ s = 4 ∨ s = 8) (h2 : a % s = 0) : flt n a s = fltP n a s := by unfold flt; rw [if_neg (by omega), if_neg (by omega)]
theorem flt_ok {n : Nat} {a s : Int} (h : flt n a s = 0) : (s = 1 ∨ s = 2 ∨ s = 4 ∨ s = 8) ∧ a % s = 0 ∧ a + s ≤ n := by
  unfold flt fltP at h
  split at h
  · cases h
  · rename_i h1
    split at h
    · cases h
    · rename_i h2
      split at h
      · cases h
      · rename_i h3
        refine ⟨by omega, by omega, by omega⟩
end Go.Proofs.Ytojogolmcclpoaa
