/-
  Proved here: operations of a hart as data, and as cells of memory; worlds that have only grown. Conditions: none. ¦ trees in memory stay where what was there stays; a row's parts. Conditions: none.
-/
import Derived.Test.YtjibblpfhnigjaaDoorSaa
import Derived.Test.YtjibblpfhnigjaaDoorProg
import Derived.WalkKit
import Derived.WalkSpells
import Derived.WalkLawsBesides
import Derived.Deep.QuietTactic
import Derived.Deep.RegionHeld3
import Derived.BigQuiet
import Derived.BigRegion
import Derived.Handy
import Derived.Lib.Hide
import Derived.Laws.ResultCell
import Derived.Laws.Rows
import Derived.Deep.Cut
import Derived.Lib.QuietBelow
section
namespace Go.Proofs.YtjibblpfhnigjaaDoor
open Go.RowKit
set_option linter.unusedVariables false
set_option linter.unusedSimpArgs false
/-- Of what was there nothing has turned. -/
def Nb (w w' : World) : Prop := Below w.heap.size w w'
theorem lt_blk {w : World} {g : Nat} {o : Obj} (h : w.heap[g]? = some o) : g < w.heap.size := (Array.getElem?_eq_some_iff.1 h).1
theorem Nb.refl (w : World) : Nb w w := Below.refl _ _
theorem Nb.trans {a b c : World} (h : Nb a b) (k : Nb b c) : Nb a c := Below.trans h (Below.mono k (Below.size h))
theorem Nb.alloc {a b : World} (h : Nb a b) (o : Obj) : Nb a (b.alloc o) := Below.alloc h (Below.size h) o
theorem Nb.size {a b : World} (h : Nb a b) : a.heap.size ≤ b.heap.size := Below.size h
theorem Nb.block {a b : World} (h : Nb a b) {n : Nat} {o : Obj} (k : a.heap[n]? = some o) : b.heap[n]? = some o := (Below.block h n (lt_blk k)).trans k
theorem Nb.cell {a b : World} (h : Nb a b) {p : Addr} {v : Value} (k : a.cell? p = some v) : b.cell? p = some v := (Below.cell h (block_lt_of_cell k)).trans k
theorem Nb.drewN {a b : World} (h : Nb a b) (n : Nat) : Nb a (b.drewN n) := Below.trans h ⟨rfl, rfl, rfl, Nat.le_refl _, fun _ _ => rfl⟩
theorem Nb.setCell {a b : World} (h : Nb a b) {p : Addr} (hp : a.heap.size ≤ p.block) (u : Value) : Nb a (b.setCell p u) := Below.setCell h hp u
theorem Nb.setRow {a b : World} (h : Nb a b) {g : Nat} (hg : a.heap.size ≤ g) (cs : Array Value) : Nb a (b.setRow g cs) :=
  ⟨h.os, h.tape, h.output, by rw [size_setRow]; exact h.size, fun k hk => (setRow_other b g k cs (by omega)).trans (Below.block h k hk)⟩
theorem new_blk (w : World) (o : Obj) {n : Nat} (hn : w.heap.size = n) : (w.alloc o).heap[n]? = some o := by subst hn; exact heap_alloc_new w o
theorem old_blk {w : World} {g : Nat} {o : Obj} (h : w.heap[g]? = some o) (o' : Obj) : (w.alloc o').heap[g]? = some o := (Below.heap_alloc w o' g (lt_blk h)).trans h
theorem frozen_blk {w : World} {g : Nat} {cs : Array Value} {t : TypeId} (h : w.heap[g]? = some (.cells cs t (0, 0))) (k : Nat) : w.frozen? ⟨g, k, none⟩ = false := by simp [World.frozen?, h]
theorem set_blk {w : World} {g : Nat} {cs : Array Value} {t : TypeId} (h : w.heap[g]? = some (.cells cs t (0, 0))) (k : Nat) (v : Value) : (w.setCell ⟨g, k, none⟩ v).heap[g]? = some (.cells (cs.setIfInBounds k v) t (0, 0)) := by
  simp [World.setCell, Array.getElem?_modify, h]
/-- A slice of ints, as a value. -/
def IntsR (w : World) (v : Value) (xs : List Int) : Prop :=
  ((∃ (p : Option Addr) (c : Nat), v = .slice p 0 c) ∧ xs = []) ∨ ∃ b o c : Nat, v = .slice (some ⟨b, o, none⟩) xs.length c ∧ b < w.heap.size ∧ xs.length ≤ c ∧ ∀ (i : Nat) (x : Int), xs[i]? = some x → w.cell? ⟨b, o + i, none⟩ = some (.int .i64 x)
theorem IntsR.nb {w w' : World} {v : Value} {xs : List Int} (h : IntsR w v xs) (k : Nb w w') : IntsR w' v xs := by
  rcases h with h | ⟨b, o, c, hv, hb, hc, hx⟩
  · exact .inl h
  · exact .inr ⟨b, o, c, hv, Nat.lt_of_lt_of_le hb k.size, hc, fun i x hi => k.cell (hx i x hi)⟩
/-- What an operation holds; the four slices as values, and as lists. -/
structure OpD where
  id : Int
  load : Bool
  store : Bool
  fence : Bool
  addr : Int
  size : Int
  aq : Bool
  rl : Bool
  pred : Int
  succ : Int
  value : Int
  stored : Int
  fv : Value
  from_ : List Int
  pair : Int
  av : Value
  addrs : List Int
  dv : Value
  datas : List Int
  cv : Value
  ctrls : List Int
/-- Its numbers are words. -/
structure OpD.Ok (d : OpD) : Prop where
  a0 : 0 ≤ d.addr
  a1 : d.addr < 18446744073709551616
  s0 : -9223372036854775808 ≤ d.size
  s1 : d.size < 9223372036854775808
  fl : d.from_.length ≤ 20
  i0 : -9223372036854775808 ≤ d.id
  i1 : d.id < 9223372036854775808
  fr : ∀ x ∈ d.from_, -9223372036854775808 ≤ x ∧ x < 9223372036854775808
/-- It stands at a place. -/
structure OpAt (w : World) (b o : Nat) (d : OpD) : Prop where
  lt : b < w.heap.size
  c0 : w.cell? ⟨b, o, none⟩ = some (.int .i64 d.id)
  c1 : w.cell? ⟨b, o + 1, none⟩ = some (.bool d.load)
  c2 : w.cell? ⟨b, o + 2, none⟩ = some (.bool d.store)
  c3 : w.cell? ⟨b, o + 3, none⟩ = some (.bool d.fence)
  c4 : w.cell? ⟨b, o + 4, none⟩ = some (.int .u64 d.addr)
  c5 : w.cell? ⟨b, o + 5, none⟩ = some (.int .i64 d.size)
  c6 : w.cell? ⟨b, o + 6, none⟩ = some (.bool d.aq)
  c7 : w.cell? ⟨b, o + 7, none⟩ = some (.bool d.rl)
  c8 : w.cell? ⟨b, o + 8, none⟩ = some (.int .i64 d.pred)
  c9 : w.cell? ⟨b, o + 9, none⟩ = some (.int .i64 d.succ)
  c10 : w.cell? ⟨b, o + 10, none⟩ = some (.int .u64 d.value)
  c11 : w.cell? ⟨b, o + 11, none⟩ = some (.int .u64 d.stored)
  c12 : w.cell? ⟨b, o + 12, none⟩ = some d.fv
  c13 : w.cell? ⟨b, o + 13, none⟩ = some (.int .i64 d.pair)
  c14 : w.cell? ⟨b, o + 14, none⟩ = some d.av
  c15 : w.cell? ⟨b, o + 15, none⟩ = some d.dv
  c16 : w.cell? ⟨b, o + 16, none⟩ = some d.cv
  rf : IntsR w d.fv d.from_
  ra : IntsR w d.av d.addrs
  rd : IntsR w d.dv d.datas
  rc : IntsR w d.cv d.ctrls
  ok : d.Ok
theorem OpAt.nb {w w' : World} {b o : Nat} {d : OpD} (h : OpAt w b o d) (k : Nb w w') : OpAt w' b o d :=
  ⟨Nat.lt_of_lt_of_le h.lt k.size, k.cell h.c0, k.cell h.c1, k.cell h.c2, k.cell h.c3, k.cell h.c4, k.cell h.c5, k.cell h.c6, k.cell h.c7, k.cell h.c8, k.cell h.c9, k.cell h.c10, k.cell h.c11, k.cell h.c12, k.cell h.c13, k.cell h.c14, k.cell h.c15, k.cell h.c16, h.rf.nb k, h.ra.nb k, h.rd.nb k, h.rc.nb k, h.ok⟩
/-- A slice of operations, as a value. -/
def OpsR (w : World) (v : Value) (l : List OpD) : Prop :=
  ((∃ (p : Option Addr) (c : Nat), v = .slice p 0 c) ∧ l = []) ∨ ∃ b o c : Nat, v = .slice (some ⟨b, o, none⟩) l.length c ∧ b < w.heap.size ∧ l.length ≤ c ∧ ∀ (i : Nat) (d : OpD), l[i]? = some d → OpAt w b (o + i * 17) d
theorem OpsR.nb {w w' : World} {v : Value} {l : List OpD} (h : OpsR w v l) (k : Nb w w') : OpsR w' v l := by
  rcases h with h | ⟨b, o, c, hv, hb, hc, hx⟩
  · exact .inl h
  · exact .inr ⟨b, o, c, hv, Nat.lt_of_lt_of_le hb k.size, hc, fun i x hi => (hx i x hi).nb k⟩
end Go.Proofs.YtjibblpfhnigjaaDoor
end
section
namespace Go.Proofs.YtjibblpfhnigjaaDoor
set_option linter.unusedVariables false
set_option linter.unusedSimpArgs false
theorem RowS.nb {w w' : World} {s : Nat} {v : Value} {rows : List (List Value)} (h : RowS w s v rows) (k : Nb w w') : RowS w' s v rows := by
  obtain ⟨A, cap, e, hc, hl, hz, hr⟩ := h
  refine ⟨A, cap, e, hc, hl, hz, fun i r hi => ?_⟩
  obtain ⟨b, o, hA, hj⟩ := hr i r hi
  exact ⟨b, o, hA, fun j u hu => k.cell (hj j u hu)⟩
theorem Ex.Has.nb {w w' : World} (k : Nb w w') {e : Ex} (h : e.Has w) : e.Has w' := by
  induction h with
  | mk row _ num nm ih => exact .mk (row.nb k) ih num nm
theorem ExsHas.nb {w w' : World} {v : Value} {l : List Ex} (h : ExsHas w v l) (k : Nb w w') : ExsHas w' v l := ⟨h.row.nb k, fun x hx => (h.kids x hx).nb k⟩
theorem St.Has.nb {w w' : World} {s : St} (h : s.Has w) (k : Nb w w') : s.Has w' := ⟨h.args.nb k, h.nm, h.ac⟩
theorem Bd.Has.nb {w w' : World} (k : Nb w w') {b : Bd} (h : b.Has w) : b.Has w' := by
  induction h with
  | mk s1 s2 a p1 _ m1 m2 m3 _ ac af ih1 ih2 => exact .mk (s1.nb k) (fun s hs => (s2 s hs).nb k) (a.nb k) (p1.nb k) ih1 (m1.nb k) (fun m hm => (m2 m hm).nb k) (fun m hm => (m3 m hm).nb k) ih2 ac af
theorem Pg.Has.nb {w w' : World} {p : Pg} (h : p.Has w) (k : Nb w w') : p.Has w' :=
  ⟨h.drow.nb k, fun d hd => (h.prow d hd).nb k, fun d hd => (h.body d hd).nb k, h.args.nb k, h.dnm, h.mn⟩
/-- The head of a row. -/
theorem RowS.head {w : World} {s : Nat} {v : Value} {rows : List (List Value)} (h : RowS w s v rows) : ∃ (A : Option Addr) (cap : Nat), v = .slice A rows.length cap ∧ rows.length ≤ cap ∧ rows.length ≤ 9223372036854775807 ∧ (A = none → cap = 0) := by
  obtain ⟨A, cap, e, hc, hl, hz, -⟩ := h
  exact ⟨A, cap, e, hc, hl, hz⟩
/-- Number i of a row. -/
theorem RowS.at_ {w : World} {s : Nat} {A : Option Addr} {n cap : Nat} {rows : List (List Value)} (h : RowS w s (.slice A n cap) rows) {i : Nat} {r : List Value} (hi : rows[i]? = some r) : ∃ b o, A = some ⟨b, o, none⟩ ∧ ∀ (j : Nat) (u : Value), r[j]? = some u → w.cell? ⟨b, o + i * s + j, none⟩ = some u := by
  obtain ⟨A', cap', e, -, -, -, hr⟩ := h
  cases e
  exact hr i r hi
theorem ExsHas.at_ {w : World} {A : Option Addr} {n cap : Nat} {l : List Ex} (h : ExsHas w (.slice A n cap) l) {i : Nat} {e : Ex} (hi : l[i]? = some e) : ∃ b o, A = some ⟨b, o, none⟩ ∧
    (w.cell? ⟨b, o + i * 5, none⟩ = some (.int .i64 e.kind) ∧ w.cell? ⟨b, o + i * 5 + 1, none⟩ = some (.int .i64 e.at_) ∧ w.cell? ⟨b, o + i * 5 + 2, none⟩ = some (.int .i64 e.n) ∧ w.cell? ⟨b, o + i * 5 + 3, none⟩ = some (sV e.name) ∧ w.cell? ⟨b, o + i * 5 + 4, none⟩ = some e.av) ∧ e.Has w := by
  obtain ⟨b, o, hA, hr⟩ := h.row.at_ (i := i) (r := e.cells) (by rw [List.getElem?_map, hi]; rfl)
  exact ⟨b, o, hA, ⟨hr 0 _ rfl, hr 1 _ rfl, hr 2 _ rfl, hr 3 _ rfl, hr 4 _ rfl⟩, h.kids e (List.mem_of_getElem? hi)⟩
theorem ExsHas.head {w : World} {v : Value} {l : List Ex} (h : ExsHas w v l) : ∃ (A : Option Addr) (cap : Nat), v = .slice A l.length cap ∧ l.length ≤ cap ∧ l.length ≤ 9223372036854775807 ∧ (A = none → cap = 0) := by
  have := h.row.head
  simpa using this
end Go.Proofs.YtjibblpfhnigjaaDoor
end
