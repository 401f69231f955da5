/-
  Proved here: programs as trees of plain data, with the slices' heads that their memory has; induction over them. Conditions: none.
-/
import Derived.Test.YtchcfjlkgnlnoaaKa
import GoSem.Claims
namespace Go.Proofs.Ytchcfjlkgnlnoaa
set_option linter.unusedVariables false
set_option linter.unusedSimpArgs false
/-- An expression, or a pattern: kind, place, number, name, and its Args behind their head. -/
inductive Ex where
  | mk (kind at_ n : Int) (name : Bs) (av : Value) (args : List Ex)
def Ex.kind : Ex → Int | .mk k _ _ _ _ _ => k
def Ex.at_ : Ex → Int | .mk _ a _ _ _ _ => a
def Ex.n : Ex → Int | .mk _ _ n _ _ _ => n
def Ex.name : Ex → Bs | .mk _ _ _ s _ _ => s
def Ex.av : Ex → Value | .mk _ _ _ _ v _ => v
def Ex.args : Ex → List Ex | .mk _ _ _ _ _ l => l
theorem Ex.ind {P : Ex → Prop} (h : ∀ e : Ex, (∀ x ∈ e.args, P x) → P e) : ∀ e, P e := by
  have key : ∀ (n : Nat) (e : Ex), SizeOf.sizeOf e ≤ n → P e := by
    intro n
    induction n with
    | zero => intro e he; cases e; simp only [Ex.mk.sizeOf_spec] at he; omega
    | succ n ih =>
      intro e he
      refine h e fun x hx => ih x ?_
      cases e with
      | mk k a m s v l =>
        have h1 := List.sizeOf_lt_of_mem hx
        simp only [Ex.args, Ex.mk.sizeOf_spec] at h1 he
        omega
  exact fun e => key _ e (Nat.le_refl _)
/-- A statement. -/
structure St where
  kind : Int
  at_ : Int
  name : Bs
  actor : Bs
  av : Value
  args : List Ex
mutual
/-- A body. -/
inductive Bd where
  | mk (sv : Value) (stmts : List St) (kind at_ : Int) (actor : Bs) (av : Value) (args : List Ex) (pv : Value) (parts : List Bd) (mv : Value) (arms : List Am) (late : Bool) (after : Int)
/-- An arm. -/
inductive Am where
  | mk (pat : Ex) (gv : Value) (guard : List Ex) (body : Bd)
end
def Bd.sv : Bd → Value | .mk v _ _ _ _ _ _ _ _ _ _ _ _ => v
def Bd.stmts : Bd → List St | .mk _ l _ _ _ _ _ _ _ _ _ _ _ => l
def Bd.kind : Bd → Int | .mk _ _ k _ _ _ _ _ _ _ _ _ _ => k
def Bd.at_ : Bd → Int | .mk _ _ _ a _ _ _ _ _ _ _ _ _ => a
def Bd.actor : Bd → Bs | .mk _ _ _ _ s _ _ _ _ _ _ _ _ => s
def Bd.av : Bd → Value | .mk _ _ _ _ _ v _ _ _ _ _ _ _ => v
def Bd.args : Bd → List Ex | .mk _ _ _ _ _ _ l _ _ _ _ _ _ => l
def Bd.pv : Bd → Value | .mk _ _ _ _ _ _ _ v _ _ _ _ _ => v
def Bd.parts : Bd → List Bd | .mk _ _ _ _ _ _ _ _ l _ _ _ _ => l
def Bd.mv : Bd → Value | .mk _ _ _ _ _ _ _ _ _ v _ _ _ => v
def Bd.arms : Bd → List Am | .mk _ _ _ _ _ _ _ _ _ _ l _ _ => l
def Bd.late : Bd → Bool | .mk _ _ _ _ _ _ _ _ _ _ _ b _ => b
def Bd.after : Bd → Int | .mk _ _ _ _ _ _ _ _ _ _ _ _ n => n
def Am.pat : Am → Ex | .mk p _ _ _ => p
def Am.gv : Am → Value | .mk _ v _ _ => v
def Am.guard : Am → List Ex | .mk _ _ l _ => l
def Am.body : Am → Bd | .mk _ _ _ b => b
theorem Bd.ind {P : Bd → Prop} (h : ∀ b : Bd, (∀ x ∈ b.parts, P x) → (∀ m ∈ b.arms, P m.body) → P b) : ∀ b, P b := by
  have key : ∀ (n : Nat) (b : Bd), SizeOf.sizeOf b ≤ n → P b := by
    intro n
    induction n with
    | zero => intro b hb; cases b; simp only [Bd.mk.sizeOf_spec] at hb; omega
    | succ n ih =>
      intro b hb
      refine h b (fun x hx => ih x ?_) (fun m hm => ih m.body ?_)
      · cases b
        have h1 := List.sizeOf_lt_of_mem hx
        simp only [Bd.parts, Bd.mk.sizeOf_spec] at h1 hb
        omega
      · cases b
        have h1 := List.sizeOf_lt_of_mem hm
        cases m
        simp only [Bd.arms, Am.body, Bd.mk.sizeOf_spec, Am.mk.sizeOf_spec] at h1 hb ⊢
        omega
  exact fun b => key _ b (Nat.le_refl _)
/-- A definition. -/
structure Df where
  at_ : Int
  name : Bs
  pv : Value
  params : List Bs
  body : Bd
/-- A program. -/
structure Pg where
  dv : Value
  defs : List Df
  at_ : Int
  main : Bs
  av : Value
  args : List Ex
/-! Their cells. -/
abbrev sV (s : Bs) : Value := .string ⟨s.toArray⟩
def Ex.cells (e : Ex) : List Value := [.int .i64 e.kind, .int .i64 e.at_, .int .i64 e.n, sV e.name, e.av]
def St.cells (s : St) : List Value := [.int .i64 s.kind, .int .i64 s.at_, sV s.name, sV s.actor, s.av]
def Bd.cells (b : Bd) : List Value := [b.sv, .int .i64 b.kind, .int .i64 b.at_, sV b.actor, b.av, b.pv, b.mv, .bool b.late, .int .i64 b.after]
def Am.cells (m : Am) : List Value := m.pat.cells ++ [m.gv] ++ m.body.cells
def Df.cells (d : Df) : List Value := [.int .i64 d.at_, sV d.name, d.pv] ++ d.body.cells
def Pg.cells (p : Pg) : List Value := [p.dv, .int .i64 p.at_, sV p.main, p.av]
theorem Ex.cells_len (e : Ex) : e.cells.length = 5 := rfl
theorem St.cells_len (e : St) : e.cells.length = 5 := rfl
theorem Bd.cells_len (e : Bd) : e.cells.length = 9 := rfl
theorem Am.cells_len (e : Am) : e.cells.length = 15 := rfl
theorem Df.cells_len (e : Df) : e.cells.length = 12 := rfl
/-- A slice that holds rows of s cells each. -/
def RowS (w : World) (s : Nat) (v : Value) (rows : List (List Value)) : Prop := ∃ (A : Option Addr) (cap : Nat), v = .slice A rows.length cap ∧ rows.length ≤ cap ∧ rows.length ≤ 9223372036854775807 ∧ (A = none → cap = 0) ∧
  ∀ (i : Nat) (r : List Value), rows[i]? = some r → ∃ b o, A = some ⟨b, o, none⟩ ∧ ∀ (j : Nat) (u : Value), r[j]? = some u → w.cell? ⟨b, o + i * s + j, none⟩ = some u
/-- The memory holds an expression's parts. -/
inductive Ex.Has (w : World) : Ex → Prop
  | mk {e : Ex} (row : RowS w 5 e.av (e.args.map Ex.cells)) (kids : ∀ x ∈ e.args, Ex.Has w x) (num : -9223372036854775808 ≤ e.n ∧ e.n < 9223372036854775808) (nm : e.name.length ≤ 9223372036854775807) : Ex.Has w e
structure ExsHas (w : World) (v : Value) (l : List Ex) : Prop where
  row : RowS w 5 v (l.map Ex.cells)
  kids : ∀ x ∈ l, Ex.Has w x
theorem Ex.Has.exs {w : World} {e : Ex} (h : e.Has w) : ExsHas w e.av e.args := by cases h with | mk r k _ _ => exact ⟨r, k⟩
theorem Ex.Has.num {w : World} {e : Ex} (h : e.Has w) : -9223372036854775808 ≤ e.n ∧ e.n < 9223372036854775808 := by cases h with | mk _ _ n _ => exact n
theorem Ex.Has.nm {w : World} {e : Ex} (h : e.Has w) : e.name.length ≤ 9223372036854775807 := by cases h with | mk _ _ _ n => exact n
structure St.Has (w : World) (s : St) : Prop where
  args : ExsHas w s.av s.args
  nm : s.name.length ≤ 9223372036854775807
  ac : s.actor.length ≤ 9223372036854775807
inductive Bd.Has (w : World) : Bd → Prop
  | mk {b : Bd} (srow : RowS w 5 b.sv (b.stmts.map St.cells)) (skids : ∀ s ∈ b.stmts, s.Has w) (args : ExsHas w b.av b.args)
      (prow : RowS w 9 b.pv (b.parts.map Bd.cells)) (pkids : ∀ x ∈ b.parts, Bd.Has w x)
      (mrow : RowS w 15 b.mv (b.arms.map Am.cells)) (mpat : ∀ m ∈ b.arms, m.pat.Has w) (mguard : ∀ m ∈ b.arms, ExsHas w m.gv m.guard) (mbody : ∀ m ∈ b.arms, Bd.Has w m.body)
      (ac : b.actor.length ≤ 9223372036854775807) (af : -9223372036854775808 ≤ b.after ∧ b.after < 9223372036854775808) : Bd.Has w b
structure Pg.Has (w : World) (p : Pg) : Prop where
  drow : RowS w 12 p.dv (p.defs.map Df.cells)
  prow : ∀ d ∈ p.defs, RowS w 1 d.pv (d.params.map fun s => [sV s])
  body : ∀ d ∈ p.defs, d.body.Has w
  args : ExsHas w p.av p.args
  dnm : ∀ d ∈ p.defs, d.name.length ≤ 9223372036854775807 ∧ ∀ s ∈ d.params, s.length ≤ 9223372036854775807
  mn : p.main.length ≤ 9223372036854775807
/-! How many parts, and how deep, from a level on. -/
def sumL : List Nat → Nat
  | [] => 0
  | x :: l => x + sumL l
def maxL : List Nat → Nat
  | [] => 0
  | x :: l => max x (maxL l)
def szE : Nat → Ex → Nat
  | 0, _ => 0
  | k + 1, e => 1 + sumL (e.args.map (szE k))
def dpE : Nat → Ex → Nat
  | 0, _ => 0
  | k + 1, e => 1 + maxL (e.args.map (dpE k))
def szEs (k : Nat) (l : List Ex) : Nat := sumL (l.map (szE k))
def dpEs (k : Nat) (l : List Ex) : Nat := maxL (l.map (dpE k))
def szS (k : Nat) (s : St) : Nat := 1 + szEs k s.args
def szB : Nat → Bd → Nat
  | 0, _ => 0
  | k + 1, b => 1 + szEs k b.args + sumL (b.stmts.map (szS k)) + sumL (b.parts.map (szB k)) + sumL (b.arms.map fun m => szE k m.pat + szEs k m.guard + szB k m.body)
def dpB : Nat → Bd → Nat
  | 0, _ => 0
  | k + 1, b => 1 + max (dpEs k b.args) (max (maxL (b.stmts.map fun s => dpEs k s.args)) (max (maxL (b.parts.map (dpB k))) (maxL (b.arms.map fun m => max (dpE k m.pat) (max (dpEs k m.guard) (dpB k m.body))))))
def szP (p : Pg) : Nat := sumL (p.defs.map fun d => 1 + d.params.length + szB 65 d.body) + szEs 65 p.args
def dpP (p : Pg) : Nat := max (dpEs 65 p.args) (maxL (p.defs.map fun d => dpB 65 d.body))
end Go.Proofs.Ytchcfjlkgnlnoaa
