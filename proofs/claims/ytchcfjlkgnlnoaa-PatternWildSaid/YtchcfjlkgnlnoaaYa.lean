/-
  Proved here: operations of a hart as data, and as cells of memory; worlds that have only grown. Conditions: none.
-/
import Derived.Test.YtchcfjlkgnlnoaaProg
import Derived.WalkKit
import Derived.WalkSpells
import Derived.WalkLawsBesides
import Derived.Deep.QuietTactic
import Derived.Deep.RegionHeld3
import Derived.BigQuiet
import Derived.BigRegion
import Derived.Handy
import Derived.Lib.Hide
import Derived.Laws.ResultCell
import Derived.Laws.Rows
import Derived.Deep.Cut
import Derived.Lib.QuietBelow
namespace Go.Proofs.Ytchcfjlkgnlnoaa
open Go.RowKit
set_option linter.unusedVariables false
set_option linter.unusedSimpArgs false
/-- Of what was there nothing has turned. -/
def Nb (w w' : World) : Prop := Below w.heap.size w w'
theorem lt_blk {w : World} {g : Nat} {o : Obj} (h : w.heap[g]? = some o) : g < w.heap.size := (Array.getElem?_eq_some_iff.1 h).1
theorem Nb.refl (w : World) : Nb w w := Below.refl _ _
theorem Nb.trans {a b c : World} (h : Nb a b) (k : Nb b c) : Nb a c := Below.trans h (Below.mono k (Below.size h))
theorem Nb.alloc {a b : World} (h : Nb a b) (o : Obj) : Nb a (b.alloc o) := Below.alloc h (Below.size h) o
theorem Nb.size {a b : World} (h : Nb a b) : a.heap.size ≤ b.heap.size := Below.size h
theorem Nb.block {a b : World} (h : Nb a b) {n : Nat} {o : Obj} (k : a.heap[n]? = some o) : b.heap[n]? = some o := (Below.block h n (lt_blk k)).trans k
theorem Nb.cell {a b : World} (h : Nb a b) {p : Addr} {v : Value} (k : a.cell? p = some v) : b.cell? p = some v := (Below.cell h (block_lt_of_cell k)).trans k
theorem Nb.drewN {a b : World} (h : Nb a b) (n : Nat) : Nb a (b.drewN n) := Below.trans h ⟨rfl, rfl, rfl, Nat.le_refl _, fun _ _ => rfl⟩
theorem Nb.setCell {a b : World} (h : Nb a b) {p : Addr} (hp : a.heap.size ≤ p.block) (u : Value) : Nb a (b.setCell p u) := Below.setCell h hp u
theorem Nb.setRow {a b : World} (h : Nb a b) {g : Nat} (hg : a.heap.size ≤ g) (cs : Array Value) : Nb a (b.setRow g cs) :=
  ⟨h.os, h.tape, h.output, by rw [size_setRow]; exact h.size, fun k hk => (setRow_other b g k cs (by omega)).trans (Below.block h k hk)⟩
theorem new_blk (w : World) (o : Obj) {n : Nat} (hn : w.heap.size = n) : (w.alloc o).heap[n]? = some o := by subst hn; exact heap_alloc_new w o
theorem old_blk {w : World} {g : Nat} {o : Obj} (h : w.heap[g]? = some o) (o' : Obj) : (w.alloc o').heap[g]? = some o := (Below.heap_alloc w o' g (lt_blk h)).trans h
theorem frozen_blk {w : World} {g : Nat} {cs : Array Value} {t : TypeId} (h : w.heap[g]? = some (.cells cs t (0, 0))) (k : Nat) : w.frozen? ⟨g, k, none⟩ = false := by simp [World.frozen?, h]
theorem set_blk {w : World} {g : Nat} {cs : Array Value} {t : TypeId} (h : w.heap[g]? = some (.cells cs t (0, 0))) (k : Nat) (v : Value) : (w.setCell ⟨g, k, none⟩ v).heap[g]? = some (.cells (cs.setIfInBounds k v) t (0, 0)) := by
  simp [World.setCell, Array.getElem?_modify, h]
/-- A slice of ints, as a value. -/
def IntsR (w : World) (v : Value) (xs : List Int) : Prop :=
  ((∃ (p : Option Addr) (c : Nat), v = .slice p 0 c) ∧ xs = []) ∨ ∃ b o c : Nat, v = .slice (some ⟨b, o, none⟩) xs.length c ∧ b < w.heap.size ∧ xs.length ≤ c ∧ ∀ (i : Nat) (x : Int), xs[i]? = some x → w.cell? ⟨b, o + i, none⟩ = some (.int .i64 x)
theorem IntsR.nb {w w' : World} {v : Value} {xs : List Int} (h : IntsR w v xs) (k : Nb w w') : IntsR w' v xs := by
  rcases h with h | ⟨b, o, c, hv, hb, hc, hx⟩
  · exact .inl h
  · exact .inr ⟨b, o, c, hv, Nat.lt_of_lt_of_le hb k.size, hc, fun i x hi => k.cell (hx i x hi)⟩
/-- What an operation holds; the four slices as values, and as lists. -/
structure OpD where
  id : Int
  load : Bool
  store : Bool
  fence : Bool
  addr : Int
  size : Int
  aq : Bool
  rl : Bool
  pred : Int
  succ : Int
  value : Int
  stored : Int
  fv : Value
  from_ : List Int
  pair : Int
  av : Value
  addrs : List Int
  dv : Value
  datas : List Int
  cv : Value
  ctrls : List Int
/-- Its numbers are words. -/
structure OpD.Ok (d : OpD) : Prop where
  a0 : 0 ≤ d.addr
  a1 : d.addr < 18446744073709551616
  s0 : -9223372036854775808 ≤ d.size
  s1 : d.size < 9223372036854775808
  fl : d.from_.length ≤ 20
  i0 : -9223372036854775808 ≤ d.id
  i1 : d.id < 9223372036854775808
  fr : ∀ x ∈ d.from_, -9223372036854775808 ≤ x ∧ x < 9223372036854775808
/-- It stands at a place. -/
structure OpAt (w : World) (b o : Nat) (d : OpD) : Prop where
  lt : b < w.heap.size
  c0 : w.cell? ⟨b, o, none⟩ = some (.int .i64 d.id)
  c1 : w.cell? ⟨b, o + 1, none⟩ = some (.bool d.load)
  c2 : w.cell? ⟨b, o + 2, none⟩ = some (.bool d.store)
  c3 : w.cell? ⟨b, o + 3, none⟩ = some (.bool d.fence)
  c4 : w.cell? ⟨b, o + 4, none⟩ = some (.int .u64 d.addr)
  c5 : w.cell? ⟨b, o + 5, none⟩ = some (.int .i64 d.size)
  c6 : w.cell? ⟨b, o + 6, none⟩ = some (.bool d.aq)
  c7 : w.cell? ⟨b, o + 7, none⟩ = some (.bool d.rl)
  c8 : w.cell? ⟨b, o + 8, none⟩ = some (.int .i64 d.pred)
  c9 : w.cell? ⟨b, o + 9, none⟩ = some (.int .i64 d.succ)
  c10 : w.cell? ⟨b, o + 10, none⟩ = some (.int .u64 d.value)
  c11 : w.cell? ⟨b, o + 11, none⟩ = some (.int .u64 d.stored)
  c12 : w.cell? ⟨b, o + 12, none⟩ = some d.fv
  c13 : w.cell? ⟨b, o + 13, none⟩ = some (.int .i64 d.pair)
  c14 : w.cell? ⟨b, o + 14, none⟩ = some d.av
  c15 : w.cell? ⟨b, o + 15, none⟩ = some d.dv
  c16 : w.cell? ⟨b, o + 16, none⟩ = some d.cv
  rf : IntsR w d.fv d.from_
  ra : IntsR w d.av d.addrs
  rd : IntsR w d.dv d.datas
  rc : IntsR w d.cv d.ctrls
  ok : d.Ok
theorem OpAt.nb {w w' : World} {b o : Nat} {d : OpD} (h : OpAt w b o d) (k : Nb w w') : OpAt w' b o d :=
  ⟨Nat.lt_of_lt_of_le h.lt k.size, k.cell h.c0, k.cell h.c1, k.cell h.c2, k.cell h.c3, k.cell h.c4, k.cell h.c5, k.cell h.c6, k.cell h.c7, k.cell h.c8, k.cell h.c9, k.cell h.c10, k.cell h.c11, k.cell h.c12, k.cell h.c13, k.cell h.c14, k.cell h.c15, k.cell h.c16, h.rf.nb k, h.ra.nb k, h.rd.nb k, h.rc.nb k, h.ok⟩
/-- A slice of operations, as a value. -/
def OpsR (w : World) (v : Value) (l : List OpD) : Prop :=
  ((∃ (p : Option Addr) (c : Nat), v = .slice p 0 c) ∧ l = []) ∨ ∃ b o c : Nat, v = .slice (some ⟨b, o, none⟩) l.length c ∧ b < w.heap.size ∧ l.length ≤ c ∧ ∀ (i : Nat) (d : OpD), l[i]? = some d → OpAt w b (o + i * 17) d
theorem OpsR.nb {w w' : World} {v : Value} {l : List OpD} (h : OpsR w v l) (k : Nb w w') : OpsR w' v l := by
  rcases h with h | ⟨b, o, c, hv, hb, hc, hx⟩
  · exact .inl h
  · exact .inr ⟨b, o, c, hv, Nat.lt_of_lt_of_le hb k.size, hc, fun i x hi => (hx i x hi).nb k⟩
/-- The bytes of an operation: the first and the last; 1 and 0, if there are none. -/
def spanS (d : OpD) : Int × Int :=
  if ((!d.load && !d.store) || decide (d.size < 1) || decide (16777216 < d.size)) = true then (1, 0)
  else if 18446744073709551615 - (d.size - 1) < d.addr then (1, 0) else (d.addr, d.addr + (d.size - 1))
def comS (s t : Int × Int) : Int × Int := (max s.1 t.1, min s.2 t.2)
def emptyS (s : Int × Int) : Bool := decide (s.2 < s.1)
def movesS (d : OpD) : Bool := !d.fence && (d.load || d.store)
def doesS (d : OpD) : Int := (if d.load = true then 2 else 0) + (if d.store = true then 1 else 0)
def retS (d : OpD) : Int × Int :=
  if (!d.load || emptyS (spanS d) || decide (d.from_.length = 0)) = true then (1, 0) else ((spanS d).1, (spanS d).1 + (min d.size (d.from_.length : Int) - 1))
def InS (s : Int × Int) : Prop := 0 ≤ s.1 ∧ s.1 < 18446744073709551616 ∧ 0 ≤ s.2 ∧ s.2 < 18446744073709551616
theorem span_in {d : OpD} (h : d.Ok) : InS (spanS d) := by
  have := h.a0; have := h.a1
  unfold spanS InS
  split
  · simp
  · split
    · simp
    · rename_i h1 h2
      simp at h1
      simp only
      omega
theorem com_in {s t : Int × Int} (h : InS s) (k : InS t) : InS (comS s t) := by
  unfold InS comS at *
  simp only
  omega
end Go.Proofs.Ytchcfjlkgnlnoaa
