/-
  Proved here: the words of a source, as plain functions of its bytes. Conditions: none. ¦ programs as trees of plain data, with the slices' heads that their memory has; induction over them. Conditions: none. ¦ operations of a hart as data, and as cells of memory; worlds that have only grown. Conditions: none. ¦ trees in memory stay where what was there stays; a row's parts. Conditions: none.
-/
import Derived.Lib.Strings
import GoSem.Claims
import Derived.Test.YtojogolmcclpoaaDoorProg
import Derived.WalkKit
import Derived.WalkSpells
import Derived.WalkLawsBesides
import Derived.Deep.QuietTactic
import Derived.Deep.RegionHeld3
import Derived.BigQuiet
import Derived.BigRegion
import Derived.Handy
import Derived.Lib.Hide
import Derived.Laws.ResultCell
import Derived.Laws.Rows
import Derived.Deep.Cut
import Derived.Lib.QuietBelow
section
namespace Go.Proofs.YtojogolmcclpoaaDoor
set_option linter.unusedVariables false
set_option linter.unusedSimpArgs false
abbrev Bs := List UInt8
def bI (c : UInt8) : Int := (c.toNat : Int)
def digI (x : Int) : Bool := decide (48 ≤ x) && decide (x ≤ 57)
def ltrI (x : Int) : Bool := ((decide (97 ≤ x) && decide (x ≤ 122)) || (decide (65 ≤ x) && decide (x ≤ 90))) || (x == 95)
def namI (x : Int) (f : Bool) : Bool := if digI x = true then !f else ltrI x
def allN : Bs → Bool → Bool
  | [], _ => true
  | c :: r, f => namI (bI c) f && allN r false
def kwL : List Bs := [[97, 99, 116, 111, 114], [109, 97, 105, 110], [108, 101, 116], [115, 112, 97, 119, 110], [115, 101, 110, 100], [111, 117, 116], [98, 101, 99, 111, 109, 101], [115, 116, 111, 112], [105, 102], [101, 108, 115, 101], [114, 101, 99, 101, 105, 118, 101], [119, 104, 101, 110], [97, 102, 116, 101, 114], [115, 101, 108, 102], [95]]
def kwS (t : Bs) : Bool := kwL.contains t
def nameS (t : Bs) : Bool := decide (1 ≤ t.length) && decide (t.length ≤ 32) && !kwS t && allN t true
abbrev Wd := Int × Bs × Int × Nat
/-! How long. -/
/-! Errors stand inside. -/
/-! Two sources. -/
/-! What stands between begins no word. -/
/-! Numbers. -/
/-! The chapter's example. -/
end Go.Proofs.YtojogolmcclpoaaDoor
end
section
namespace Go.Proofs.YtojogolmcclpoaaDoor
set_option linter.unusedVariables false
set_option linter.unusedSimpArgs false
/-- An expression, or a pattern: kind, place, number, name, and its Args behind their head. -/
inductive Ex where
  | mk (kind at_ n : Int) (name : Bs) (av : Value) (args : List Ex)
def Ex.kind : Ex → Int | .mk k _ _ _ _ _ => k
def Ex.at_ : Ex → Int | .mk _ a _ _ _ _ => a
def Ex.n : Ex → Int | .mk _ _ n _ _ _ => n
def Ex.name : Ex → Bs | .mk _ _ _ s _ _ => s
def Ex.av : Ex → Value | .mk _ _ _ _ v _ => v
def Ex.args : Ex → List Ex | .mk _ _ _ _ _ l => l
theorem Ex.ind {P : Ex → Prop} (h : ∀ e : Ex, (∀ x ∈ e.args, P x) → P e) : ∀ e, P e := by
  have key : ∀ (n : Nat) (e : Ex), SizeOf.sizeOf e ≤ n → P e := by
    intro n
    induction n with
    | zero => intro e he; cases e; simp only [Ex.mk.sizeOf_spec] at he; omega
    | succ n ih =>
      intro e he
      refine h e fun x hx => ih x ?_
      cases e with
      | mk k a m s v l =>
        have h1 := List.sizeOf_lt_of_mem hx
        simp only [Ex.args, Ex.mk.sizeOf_spec] at h1 he
        omega
  exact fun e => key _ e (Nat.le_refl _)
/-- A statement. -/
structure St where
  kind : Int
  at_ : Int
  name : Bs
  actor : Bs
  av : Value
  args : List Ex
mutual
/-- A body. -/
inductive Bd where
  | mk (sv : Value) (stmts : List St) (kind at_ : Int) (actor : Bs) (av : Value) (args : List Ex) (pv : Value) (parts : List Bd) (mv : Value) (arms : List Am) (late : Bool) (after : Int)
/-- An arm. -/
inductive Am where
  | mk (pat : Ex) (gv : Value) (guard : List Ex) (body : Bd)
end
def Bd.sv : Bd → Value | .mk v _ _ _ _ _ _ _ _ _ _ _ _ => v
def Bd.stmts : Bd → List St | .mk _ l _ _ _ _ _ _ _ _ _ _ _ => l
def Bd.kind : Bd → Int | .mk _ _ k _ _ _ _ _ _ _ _ _ _ => k
def Bd.at_ : Bd → Int | .mk _ _ _ a _ _ _ _ _ _ _ _ _ => a
def Bd.actor : Bd → Bs | .mk _ _ _ _ s _ _ _ _ _ _ _ _ => s
def Bd.av : Bd → Value | .mk _ _ _ _ _ v _ _ _ _ _ _ _ => v
def Bd.args : Bd → List Ex | .mk _ _ _ _ _ _ l _ _ _ _ _ _ => l
def Bd.pv : Bd → Value | .mk _ _ _ _ _ _ _ v _ _ _ _ _ => v
def Bd.parts : Bd → List Bd | .mk _ _ _ _ _ _ _ _ l _ _ _ _ => l
def Bd.mv : Bd → Value | .mk _ _ _ _ _ _ _ _ _ v _ _ _ => v
def Bd.arms : Bd → List Am | .mk _ _ _ _ _ _ _ _ _ _ l _ _ => l
def Bd.late : Bd → Bool | .mk _ _ _ _ _ _ _ _ _ _ _ b _ => b
def Bd.after : Bd → Int | .mk _ _ _ _ _ _ _ _ _ _ _ _ n => n
def Am.pat : Am → Ex | .mk p _ _ _ => p
def Am.gv : Am → Value | .mk _ v _ _ => v
def Am.guard : Am → List Ex | .mk _ _ l _ => l
def Am.body : Am → Bd | .mk _ _ _ b => b
theorem Bd.ind {P : Bd → Prop} (h : ∀ b : Bd, (∀ x ∈ b.parts, P x) → (∀ m ∈ b.arms, P m.body) → P b) : ∀ b, P b := by
  have key : ∀ (n : Nat) (b : Bd), SizeOf.sizeOf b ≤ n → P b := by
    intro n
    induction n with
    | zero => intro b hb; cases b; simp only [Bd.mk.sizeOf_spec] at hb; omega
    | succ n ih =>
      intro b hb
      refine h b (fun x hx => ih x ?_) (fun m hm => ih m.body ?_)
      · cases b
        have h1 := List.sizeOf_lt_of_mem hx
        simp only [Bd.parts, Bd.mk.sizeOf_spec] at h1 hb
        omega
      · cases b
        have h1 := List.sizeOf_lt_of_mem hm
        cases m
        simp only [Bd.arms, Am.body, Bd.mk.sizeOf_spec, Am.mk.sizeOf_spec] at h1 hb ⊢
        omega
  exact fun b => key _ b (Nat.le_refl _)
/-- A definition. -/
structure Df where
  at_ : Int
  name : Bs
  pv : Value
  params : List Bs
  body : Bd
/-- A program. -/
structure Pg where
  dv : Value
  defs : List Df
  at_ : Int
  main : Bs
  av : Value
  args : List Ex
/-! Their cells. -/
abbrev sV (s : Bs) : Value := .string ⟨s.toArray⟩
def Ex.cells (e : Ex) : List Value := [.int .i64 e.kind, .int .i64 e.at_, .int .i64 e.n, sV e.name, e.av]
def St.cells (s : St) : List Value := [.int .i64 s.kind, .int .i64 s.at_, sV s.name, sV s.actor, s.av]
def Bd.cells (b : Bd) : List Value := [b.sv, .int .i64 b.kind, .int .i64 b.at_, sV b.actor, b.av, b.pv, b.mv, .bool b.late, .int .i64 b.after]
def Am.cells (m : Am) : List Value := m.pat.cells ++ [m.gv] ++ m.body.cells
def Df.cells (d : Df) : List Value := [.int .i64 d.at_, sV d.name, d.pv] ++ d.body.cells
def Pg.cells (p : Pg) : List Value := [p.dv, .int .i64 p.at_, sV p.main, p.av]
theorem Ex.cells_len (e : Ex) : e.cells.length = 5 := rfl
theorem St.cells_len (e : St) : e.cells.length = 5 := rfl
theorem Bd.cells_len (e : Bd) : e.cells.length = 9 := rfl
theorem Am.cells_len (e : Am) : e.cells.length = 15 := rfl
theorem Df.cells_len (e : Df) : e.cells.length = 12 := rfl
/-- A slice that holds rows of s cells each. -/
def RowS (w : World) (s : Nat) (v : Value) (rows : List (List Value)) : Prop := ∃ (A : Option Addr) (cap : Nat), v = .slice A rows.length cap ∧ rows.length ≤ cap ∧ rows.length ≤ 9223372036854775807 ∧ (A = none → cap = 0) ∧
  ∀ (i : Nat) (r : List Value), rows[i]? = some r → ∃ b o, A = some ⟨b, o, none⟩ ∧ ∀ (j : Nat) (u : Value), r[j]? = some u → w.cell? ⟨b, o + i * s + j, none⟩ = some u
/-- The memory holds an expression's parts. -/
inductive Ex.Has (w : World) : Ex → Prop
  | mk {e : Ex} (row : RowS w 5 e.av (e.args.map Ex.cells)) (kids : ∀ x ∈ e.args, Ex.Has w x) (num : -9223372036854775808 ≤ e.n ∧ e.n < 9223372036854775808) (nm : e.name.length ≤ 9223372036854775807) : Ex.Has w e
structure ExsHas (w : World) (v : Value) (l : List Ex) : Prop where
  row : RowS w 5 v (l.map Ex.cells)
  kids : ∀ x ∈ l, Ex.Has w x
theorem Ex.Has.exs {w : World} {e : Ex} (h : e.Has w) : ExsHas w e.av e.args := by cases h with | mk r k _ _ => exact ⟨r, k⟩
theorem Ex.Has.num {w : World} {e : Ex} (h : e.Has w) : -9223372036854775808 ≤ e.n ∧ e.n < 9223372036854775808 := by cases h with | mk _ _ n _ => exact n
theorem Ex.Has.nm {w : World} {e : Ex} (h : e.Has w) : e.name.length ≤ 9223372036854775807 := by cases h with | mk _ _ _ n => exact n
structure St.Has (w : World) (s : St) : Prop where
  args : ExsHas w s.av s.args
  nm : s.name.length ≤ 9223372036854775807
  ac : s.actor.length ≤ 9223372036854775807
inductive Bd.Has (w : World) : Bd → Prop
  | mk {b : Bd} (srow : RowS w 5 b.sv (b.stmts.map St.cells)) (skids : ∀ s ∈ b.stmts, s.Has w) (args : ExsHas w b.av b.args)
      (prow : RowS w 9 b.pv (b.parts.map Bd.cells)) (pkids : ∀ x ∈ b.parts, Bd.Has w x)
      (mrow : RowS w 15 b.mv (b.arms.map Am.cells)) (mpat : ∀ m ∈ b.arms, m.pat.Has w) (mguard : ∀ m ∈ b.arms, ExsHas w m.gv m.guard) (mbody : ∀ m ∈ b.arms, Bd.Has w m.body)
      (ac : b.actor.length ≤ 9223372036854775807) (af : -9223372036854775808 ≤ b.after ∧ b.after < 9223372036854775808) : Bd.Has w b
structure Pg.Has (w : World) (p : Pg) : Prop where
  drow : RowS w 12 p.dv (p.defs.map Df.cells)
  prow : ∀ d ∈ p.defs, RowS w 1 d.pv (d.params.map fun s => [sV s])
  body : ∀ d ∈ p.defs, d.body.Has w
  args : ExsHas w p.av p.args
  dnm : ∀ d ∈ p.defs, d.name.length ≤ 9223372036854775807 ∧ ∀ s ∈ d.params, s.length ≤ 9223372036854775807
  mn : p.main.length ≤ 9223372036854775807
/-! How many parts, and how deep, from a level on. -/
def sumL : List Nat → Nat
  | [] => 0
  | x :: l => x + sumL l
def maxL : List Nat → Nat
  | [] => 0
  | x :: l => max x (maxL l)
def szE : Nat → Ex → Nat
  | 0, _ => 0
  | k + 1, e => 1 + sumL (e.args.map (szE k))
def dpE : Nat → Ex → Nat
  | 0, _ => 0
  | k + 1, e => 1 + maxL (e.args.map (dpE k))
def szEs (k : Nat) (l : List Ex) : Nat := sumL (l.map (szE k))
def dpEs (k : Nat) (l : List Ex) : Nat := maxL (l.map (dpE k))
def szS (k : Nat) (s : St) : Nat := 1 + szEs k s.args
def szB : Nat → Bd → Nat
  | 0, _ => 0
  | k + 1, b => 1 + szEs k b.args + sumL (b.stmts.map (szS k)) + sumL (b.parts.map (szB k)) + sumL (b.arms.map fun m => szE k m.pat + szEs k m.guard + szB k m.body)
def dpB : Nat → Bd → Nat
  | 0, _ => 0
  | k + 1, b => 1 + max (dpEs k b.args) (max (maxL (b.stmts.map fun s => dpEs k s.args)) (max (maxL (b.parts.map (dpB k))) (maxL (b.arms.map fun m => max (dpE k m.pat) (max (dpEs k m.guard) (dpB k m.body))))))
def szP (p : Pg) : Nat := sumL (p.defs.map fun d => 1 + d.params.length + szB 65 d.body) + szEs 65 p.args
def dpP (p : Pg) : Nat := max (dpEs 65 p.args) (maxL (p.defs.map fun d => dpB 65 d.body))
end Go.Proofs.YtojogolmcclpoaaDoor
end
section
namespace Go.Proofs.YtojogolmcclpoaaDoor
open Go.RowKit
set_option linter.unusedVariables false
set_option linter.unusedSimpArgs false
/-- Of what was there nothing has turned. -/
def Nb (w w' : World) : Prop := Below w.heap.size w w'
theorem lt_blk {w : World} {g : Nat} {o : Obj} (h : w.heap[g]? = some o) : g < w.heap.size := (Array.getElem?_eq_some_iff.1 h).1
theorem Nb.refl (w : World) : Nb w w := Below.refl _ _
theorem Nb.trans {a b c : World} (h : Nb a b) (k : Nb b c) : Nb a c := Below.trans h (Below.mono k (Below.size h))
theorem Nb.alloc {a b : World} (h : Nb a b) (o : Obj) : Nb a (b.alloc o) := Below.alloc h (Below.size h) o
theorem Nb.size {a b : World} (h : Nb a b) : a.heap.size ≤ b.heap.size := Below.size h
theorem Nb.block {a b : World} (h : Nb a b) {n : Nat} {o : Obj} (k : a.heap[n]? = some o) : b.heap[n]? = some o := (Below.block h n (lt_blk k)).trans k
theorem Nb.cell {a b : World} (h : Nb a b) {p : Addr} {v : Value} (k : a.cell? p = some v) : b.cell? p = some v := (Below.cell h (block_lt_of_cell k)).trans k
theorem Nb.drewN {a b : World} (h : Nb a b) (n : Nat) : Nb a (b.drewN n) := Below.trans h ⟨rfl, rfl, rfl, Nat.le_refl _, fun _ _ => rfl⟩
theorem Nb.setCell {a b : World} (h : Nb a b) {p : Addr} (hp : a.heap.size ≤ p.block) (u : Value) : Nb a (b.setCell p u) := Below.setCell h hp u
theorem new_blk (w : World) (o : Obj) {n : Nat} (hn : w.heap.size = n) : (w.alloc o).heap[n]? = some o := by subst hn; exact heap_alloc_new w o
theorem old_blk {w : World} {g : Nat} {o : Obj} (h : w.heap[g]? = some o) (o' : Obj) : (w.alloc o').heap[g]? = some o := (Below.heap_alloc w o' g (lt_blk h)).trans h
theorem frozen_blk {w : World} {g : Nat} {cs : Array Value} {t : TypeId} (h : w.heap[g]? = some (.cells cs t (0, 0))) (k : Nat) : w.frozen? ⟨g, k, none⟩ = false := by simp [World.frozen?, h]
theorem set_blk {w : World} {g : Nat} {cs : Array Value} {t : TypeId} (h : w.heap[g]? = some (.cells cs t (0, 0))) (k : Nat) (v : Value) : (w.setCell ⟨g, k, none⟩ v).heap[g]? = some (.cells (cs.setIfInBounds k v) t (0, 0)) := by
  simp [World.setCell, Array.getElem?_modify, h]
/-- A slice of ints, as a value. -/
def IntsR (w : World) (v : Value) (xs : List Int) : Prop :=
  ((∃ (p : Option Addr) (c : Nat), v = .slice p 0 c) ∧ xs = []) ∨ ∃ b o c : Nat, v = .slice (some ⟨b, o, none⟩) xs.length c ∧ b < w.heap.size ∧ xs.length ≤ c ∧ ∀ (i : Nat) (x : Int), xs[i]? = some x → w.cell? ⟨b, o + i, none⟩ = some (.int .i64 x)
theorem IntsR.nb {w w' : World} {v : Value} {xs : List Int} (h : IntsR w v xs) (k : Nb w w') : IntsR w' v xs := by
  rcases h with h | ⟨b, o, c, hv, hb, hc, hx⟩
  · exact .inl h
  · exact .inr ⟨b, o, c, hv, Nat.lt_of_lt_of_le hb k.size, hc, fun i x hi => k.cell (hx i x hi)⟩
/-- What an operation holds; the four slices as values, and as lists. -/
structure OpD where
  id : Int
  load : Bool
  store : Bool
  fence : Bool
  addr : Int
  size : Int
  aq : Bool
  rl : Bool
  pred : Int
  succ : Int
  value : Int
  stored : Int
  fv : Value
  from_ : List Int
  pair : Int
  av : Value
  addrs : List Int
  dv : Value
  datas : List Int
  cv : Value
  ctrls : List Int
/-- Its numbers are words. -/
structure OpD.Ok (d : OpD) : Prop where
  a0 : 0 ≤ d.addr
  a1 : d.addr < 18446744073709551616
  s0 : -9223372036854775808 ≤ d.size
  s1 : d.size < 9223372036854775808
  fl : d.from_.length ≤ 20
  i0 : -9223372036854775808 ≤ d.id
  i1 : d.id < 9223372036854775808
  fr : ∀ x ∈ d.from_, -9223372036854775808 ≤ x ∧ x < 9223372036854775808
/-- It stands at a place. -/
structure OpAt (w : World) (b o : Nat) (d : OpD) : Prop where
  lt : b < w.heap.size
  c0 : w.cell? ⟨b, o, none⟩ = some (.int .i64 d.id)
  c1 : w.cell? ⟨b, o + 1, none⟩ = some (.bool d.load)
  c2 : w.cell? ⟨b, o + 2, none⟩ = some (.bool d.store)
  c3 : w.cell? ⟨b, o + 3, none⟩ = some (.bool d.fence)
  c4 : w.cell? ⟨b, o + 4, none⟩ = some (.int .u64 d.addr)
  c5 : w.cell? ⟨b, o + 5, none⟩ = some (.int .i64 d.size)
  c6 : w.cell? ⟨b, o + 6, none⟩ = some (.bool d.aq)
  c7 : w.cell? ⟨b, o + 7, none⟩ = some (.bool d.rl)
  c8 : w.cell? ⟨b, o + 8, none⟩ = some (.int .i64 d.pred)
  c9 : w.cell? ⟨b, o + 9, none⟩ = some (.int .i64 d.succ)
  c10 : w.cell? ⟨b, o + 10, none⟩ = some (.int .u64 d.value)
  c11 : w.cell? ⟨b, o + 11, none⟩ = some (.int .u64 d.stored)
  c12 : w.cell? ⟨b, o + 12, none⟩ = some d.fv
  c13 : w.cell? ⟨b, o + 13, none⟩ = some (.int .i64 d.pair)
  c14 : w.cell? ⟨b, o + 14, none⟩ = some d.av
  c15 : w.cell? ⟨b, o + 15, none⟩ = some d.dv
  c16 : w.cell? ⟨b, o + 16, none⟩ = some d.cv
  rf : IntsR w d.fv d.from_
  ra : IntsR w d.av d.addrs
  rd : IntsR w d.dv d.datas
  rc : IntsR w d.cv d.ctrls
  ok : d.Ok
theorem OpAt.nb {w w' : World} {b o : Nat} {d : OpD} (h : OpAt w b o d) (k : Nb w w') : OpAt w' b o d :=
  ⟨Nat.lt_of_lt_of_le h.lt k.size, k.cell h.c0, k.cell h.c1, k.cell h.c2, k.cell h.c3, k.cell h.c4, k.cell h.c5, k.cell h.c6, k.cell h.c7, k.cell h.c8, k.cell h.c9, k.cell h.c10, k.cell h.c11, k.cell h.c12, k.cell h.c13, k.cell h.c14, k.cell h.c15, k.cell h.c16, h.rf.nb k, h.ra.nb k, h.rd.nb k, h.rc.nb k, h.ok⟩
/-- A slice of operations, as a value. -/
def OpsR (w : World) (v : Value) (l : List OpD) : Prop :=
  ((∃ (p : Option Addr) (c : Nat), v = .slice p 0 c) ∧ l = []) ∨ ∃ b o c : Nat, v = .slice (some ⟨b, o, none⟩) l.length c ∧ b < w.heap.size ∧ l.length ≤ c ∧ ∀ (i : Nat) (d : OpD), l[i]? = some d → OpAt w b (o + i * 17) d
theorem OpsR.nb {w w' : World} {v : Value} {l : List OpD} (h : OpsR w v l) (k : Nb w w') : OpsR w' v l := by
  rcases h with h | ⟨b, o, c, hv, hb, hc, hx⟩
  · exact .inl h
  · exact .inr ⟨b, o, c, hv, Nat.lt_of_lt_of_le hb k.size, hc, fun i x hi => (hx i x hi).nb k⟩
end Go.Proofs.YtojogolmcclpoaaDoor
end
section
namespace Go.Proofs.YtojogolmcclpoaaDoor
set_option linter.unusedVariables false
set_option linter.unusedSimpArgs false
theorem RowS.nb {w w' : World} {s : Nat} {v : Value} {rows : List (List Value)} (h : RowS w s v rows) (k : Nb w w') : RowS w' s v rows := by
  obtain ⟨A, cap, e, hc, hl, hz, hr⟩ := h
  refine ⟨A, cap, e, hc, hl, hz, fun i r hi => ?_⟩
  obtain ⟨b, o, hA, hj⟩ := hr i r hi
  exact ⟨b, o, hA, fun j u hu => k.cell (hj j u hu)⟩
theorem Ex.Has.nb {w w' : World} (k : Nb w w') {e : Ex} (h : e.Has w) : e.Has w' := by
  induction h with
  | mk row _ num nm ih => exact .mk (row.nb k) ih num nm
theorem ExsHas.nb {w w' : World} {v : Value} {l : List Ex} (h : ExsHas w v l) (k : Nb w w') : ExsHas w' v l := ⟨h.row.nb k, fun x hx => (h.kids x hx).nb k⟩
theorem St.Has.nb {w w' : World} {s : St} (h : s.Has w) (k : Nb w w') : s.Has w' := ⟨h.args.nb k, h.nm, h.ac⟩
theorem Bd.Has.nb {w w' : World} (k : Nb w w') {b : Bd} (h : b.Has w) : b.Has w' := by
  induction h with
  | mk s1 s2 a p1 _ m1 m2 m3 _ ac af ih1 ih2 => exact .mk (s1.nb k) (fun s hs => (s2 s hs).nb k) (a.nb k) (p1.nb k) ih1 (m1.nb k) (fun m hm => (m2 m hm).nb k) (fun m hm => (m3 m hm).nb k) ih2 ac af
theorem Pg.Has.nb {w w' : World} {p : Pg} (h : p.Has w) (k : Nb w w') : p.Has w' :=
  ⟨h.drow.nb k, fun d hd => (h.prow d hd).nb k, fun d hd => (h.body d hd).nb k, h.args.nb k, h.dnm, h.mn⟩
/-- The head of a row. -/
theorem RowS.head {w : World} {s : Nat} {v : Value} {rows : List (List Value)} (h : RowS w s v rows) : ∃ (A : Option Addr) (cap : Nat), v = .slice A rows.length cap ∧ rows.length ≤ cap ∧ rows.length ≤ 9223372036854775807 ∧ (A = none → cap = 0) := by
  obtain ⟨A, cap, e, hc, hl, hz, -⟩ := h
  exact ⟨A, cap, e, hc, hl, hz⟩
/-- Number i of a row. -/
theorem RowS.at_ {w : World} {s : Nat} {A : Option Addr} {n cap : Nat} {rows : List (List Value)} (h : RowS w s (.slice A n cap) rows) {i : Nat} {r : List Value} (hi : rows[i]? = some r) : ∃ b o, A = some ⟨b, o, none⟩ ∧ ∀ (j : Nat) (u : Value), r[j]? = some u → w.cell? ⟨b, o + i * s + j, none⟩ = some u := by
  obtain ⟨A', cap', e, -, -, -, hr⟩ := h
  cases e
  exact hr i r hi
theorem ExsHas.at_ {w : World} {A : Option Addr} {n cap : Nat} {l : List Ex} (h : ExsHas w (.slice A n cap) l) {i : Nat} {e : Ex} (hi : l[i]? = some e) : ∃ b o, A = some ⟨b, o, none⟩ ∧
    (w.cell? ⟨b, o + i * 5, none⟩ = some (.int .i64 e.kind) ∧ w.cell? ⟨b, o + i * 5 + 1, none⟩ = some (.int .i64 e.at_) ∧ w.cell? ⟨b, o + i * 5 + 2, none⟩ = some (.int .i64 e.n) ∧ w.cell? ⟨b, o + i * 5 + 3, none⟩ = some (sV e.name) ∧ w.cell? ⟨b, o + i * 5 + 4, none⟩ = some e.av) ∧ e.Has w := by
  obtain ⟨b, o, hA, hr⟩ := h.row.at_ (i := i) (r := e.cells) (by rw [List.getElem?_map, hi]; rfl)
  exact ⟨b, o, hA, ⟨hr 0 _ rfl, hr 1 _ rfl, hr 2 _ rfl, hr 3 _ rfl, hr 4 _ rfl⟩, h.kids e (List.mem_of_getElem? hi)⟩
theorem ExsHas.head {w : World} {v : Value} {l : List Ex} (h : ExsHas w v l) : ∃ (A : Option Addr) (cap : Nat), v = .slice A l.length cap ∧ l.length ≤ cap ∧ l.length ≤ 9223372036854775807 ∧ (A = none → cap = 0) := by
  have := h.row.head
  simpa using this
end Go.Proofs.YtojogolmcclpoaaDoor
end
