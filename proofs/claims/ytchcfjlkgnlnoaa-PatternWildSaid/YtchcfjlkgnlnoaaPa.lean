/-
  Proved here: a pattern's tests and variables, as plain data. Conditions: none.
-/
import Derived.Test.YtchcfjlkgnlnoaaVq
namespace Go.Proofs.Ytchcfjlkgnlnoaa
open Go.RowKit Go.ChangeMaps
set_option linter.unusedVariables false
set_option linter.unusedSimpArgs false
/-- A test: its path, its kind, its number. -/
structure Ts where
  path : List Int
  kind : Int
  n : Int
mutual
/-- A pattern's tests. -/
def Ex.tsP (pl : Bs → Int) (path : List Int) : Ex → List Ts
  | .mk k _ n s _ l => if k = 2 then [⟨path, k, n⟩] else if k = 3 then [⟨path, k, pl s⟩] else if k = 5 then ⟨path, k, (l.length : Int)⟩ :: Ex.tsL pl path 0 l else []
def Ex.tsL (pl : Bs → Int) (path : List Int) (i : Nat) : List Ex → List Ts
  | [] => []
  | x :: l => x.tsP pl (path ++ [(i : Int)]) ++ Ex.tsL pl path (i + 1) l
end
mutual
/-- A pattern's variables, and where they stand. -/
def Ex.vsP (path : List Int) : Ex → List (Bs × List Int)
  | .mk k _ _ s _ l => if k = 4 then [(s, path)] else if k = 5 then Ex.vsL path 0 l else []
def Ex.vsL (path : List Int) (i : Nat) : List Ex → List (Bs × List Int)
  | [] => []
  | x :: l => x.vsP (path ++ [(i : Int)]) ++ Ex.vsL path (i + 1) l
end
theorem tsP_int {e : Ex} (h : e.kind = 2) (pl : Bs → Int) (path : List Int) : e.tsP pl path = [⟨path, 2, e.n⟩] := by
  cases e with | mk k a n s v l => simp only [Ex.kind] at h; subst h; simp only [Ex.tsP, Ex.n, if_true]
theorem tsP_atom {e : Ex} (h : e.kind = 3) (pl : Bs → Int) (path : List Int) : e.tsP pl path = [⟨path, 3, pl e.name⟩] := by
  cases e with
  | mk k a n s v l =>
    simp only [Ex.kind] at h
    subst h
    simp only [Ex.tsP, Ex.name, if_true]
    rw [if_neg (by decide)]
theorem tsP_tup {e : Ex} (h : e.kind = 5) (pl : Bs → Int) (path : List Int) : e.tsP pl path = ⟨path, 5, (e.args.length : Int)⟩ :: Ex.tsL pl path 0 e.args := by
  cases e with
  | mk k a n s v l =>
    simp only [Ex.kind] at h
    subst h
    simp only [Ex.tsP, Ex.args, if_true]
    rw [if_neg (by decide), if_neg (by decide)]
theorem tsP_other {e : Ex} (h2 : e.kind ≠ 2) (h3 : e.kind ≠ 3) (h5 : e.kind ≠ 5) (pl : Bs → Int) (path : List Int) : e.tsP pl path = [] := by
  cases e with
  | mk k a n s v l =>
    simp only [Ex.kind] at h2 h3 h5
    simp only [Ex.tsP, if_neg h2, if_neg h3, if_neg h5]
theorem tsL_step {l : List Ex} {i : Nat} {x : Ex} (h : l[i]? = some x) (pl : Bs → Int) (path : List Int) : Ex.tsL pl path i (l.drop i) = x.tsP pl (path ++ [(i : Int)]) ++ Ex.tsL pl path (i + 1) (l.drop (i + 1)) := by
  rw [drop_some h]
  simp only [Ex.tsL]
theorem vsP_var {e : Ex} (h : e.kind = 4) (path : List Int) : e.vsP path = [(e.name, path)] := by
  cases e with | mk k a n s v l => simp only [Ex.kind] at h; subst h; simp only [Ex.vsP, Ex.name, if_true]
theorem vsP_tup {e : Ex} (h : e.kind = 5) (path : List Int) : e.vsP path = Ex.vsL path 0 e.args := by
  cases e with
  | mk k a n s v l =>
    simp only [Ex.kind] at h
    subst h
    simp only [Ex.vsP, Ex.args, if_true]
    rw [if_neg (by decide)]
theorem vsP_other {e : Ex} (h4 : e.kind ≠ 4) (h5 : e.kind ≠ 5) (path : List Int) : e.vsP path = [] := by
  cases e with
  | mk k a n s v l =>
    simp only [Ex.kind] at h4 h5
    simp only [Ex.vsP, if_neg h4, if_neg h5]
theorem vsL_step {l : List Ex} {i : Nat} {x : Ex} (h : l[i]? = some x) (path : List Int) : Ex.vsL path i (l.drop i) = x.vsP (path ++ [(i : Int)]) ++ Ex.vsL path (i + 1) (l.drop (i + 1)) := by
  rw [drop_some h]
  simp only [Ex.vsL]
mutual
/-- How deep a pattern is. -/
def Ex.dpt : Ex → Nat
  | .mk _ _ _ _ _ l => 1 + Ex.dptL l
def Ex.dptL : List Ex → Nat
  | [] => 0
  | x :: l => max x.dpt (Ex.dptL l)
end
theorem dptL_mem : ∀ {l : List Ex} {x : Ex}, x ∈ l → x.dpt ≤ Ex.dptL l
  | y :: l, x, h => by
    rw [Ex.dptL]
    rcases List.mem_cons.1 h with rfl | h
    · omega
    · have := dptL_mem h; omega
theorem dpt_mem {e x : Ex} (h : x ∈ e.args) : x.dpt + 1 ≤ e.dpt := by
  cases e with
  | mk k a n s v l =>
    have := dptL_mem h
    simp only [Ex.args] at this
    simp only [Ex.dpt]
    omega
/-- The last place of a name, in a list that stands the other way round. -/
def lastR : List Bs → Bs → Option Int
  | [], _ => none
  | x :: r, s => if x = s then some (r.length : Int) else lastR r s
def lastO (l : List Bs) (s : Bs) : Option Int := lastR l.reverse s
theorem lastO_snoc (l : List Bs) (x s : Bs) : lastO (l ++ [x]) s = if x = s then some (l.length : Int) else lastO l s := by
  simp [lastO, lastR]
end Go.Proofs.Ytchcfjlkgnlnoaa
