/-
  Proved here: how a world that has only grown is used: what was there is there still. No condition.
-/
import Derived.Test.YtmggichckhoomaaDoorBy
namespace Go.Proofs.YtmggichckhoomaaDoor
open Go.RowKit
set_option linter.unusedVariables false

/-- The world has at most new blocks and draws. -/
def Nw (w w' : World) : Prop := Below w.heap.size w w' ∧ Grown w w'
theorem Nw.refl (w : World) : Nw w w := ⟨Below.refl _ _, Grown.refl _⟩
theorem Nw.trans {a b c : World} (h : Nw a b) (k : Nw b c) : Nw a c :=
  ⟨h.1.trans (k.1.mono h.1.size), ⟨World.keptBut_trans h.2.1 (World.keptBut_mono (fun _ f => f.elim) k.2.1), fun x => (k.2.2.1 x).trans (h.2.2.1 x), Nat.le_trans h.2.2.2 k.2.2.2⟩⟩
theorem Nw.alloc {a b : World} (h : Nw a b) (c : Array Value) (t : TypeId) : Nw a (b.alloc (.cells c t)) :=
  ⟨h.1.alloc h.1.size _, h.2.alloc c t⟩
theorem Nw.setCell {a b : World} (h : Nw a b) {p : Addr} (hp : a.heap.size ≤ p.block) (u : Value) : Nw a (b.setCell p u) :=
  ⟨h.1.setCell hp u, h.2.setCell hp u⟩
theorem Nw.drew {a b : World} (h : Nw a b) : Nw a b.drew := ⟨h.1.drew, h.2⟩
theorem Nw.drewN {a b : World} (h : Nw a b) (n : Nat) : Nw a (b.drewN n) := ⟨below_drewN h.1 n, h.2⟩
theorem Nw.size {a b : World} (h : Nw a b) : a.heap.size ≤ b.heap.size := h.1.size
theorem Nw.cells {a b : World} (h : Nw a b) : ∀ k o, k < a.heap.size → b.cell? ⟨k, o, none⟩ = a.cell? ⟨k, o, none⟩ := fun k o hk => h.1.cell (p := ⟨k, o, none⟩) hk
theorem Nw.marks {a b : World} (h : Nw a b) : ∀ k o, k < a.heap.size → b.frozen? ⟨k, o, none⟩ = a.frozen? ⟨k, o, none⟩ := fun k o hk => h.1.frozen (p := ⟨k, o, none⟩) hk

end Go.Proofs.YtmggichckhoomaaDoor
