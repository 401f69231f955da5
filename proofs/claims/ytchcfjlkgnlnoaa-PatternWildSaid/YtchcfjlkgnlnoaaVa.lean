/-
  Proved here: values as trees of plain data: which may be, how deep they are, how many words they have; memory holds at most one tree at a place. Conditions: none.
-/
import Derived.Test.YtchcfjlkgnlnoaaJo
namespace Go.Proofs.Ytchcfjlkgnlnoaa
open Go.ChangeShapes Go.WideShapes Go.ChangeAt Go.RowKit Go.Deep Go.Joins
set_option linter.unusedVariables false
set_option linter.unusedSimpArgs false
/-- A value: kind, number, and its Args behind their head. -/
inductive Vl where
  | mk (kind n : Int) (av : Value) (args : List Vl)
def Vl.kind : Vl → Int | .mk k _ _ _ => k
def Vl.n : Vl → Int | .mk _ n _ _ => n
def Vl.av : Vl → Value | .mk _ _ v _ => v
def Vl.args : Vl → List Vl | .mk _ _ _ l => l
theorem Vl.ind {P : Vl → Prop} (h : ∀ e : Vl, (∀ x ∈ e.args, P x) → P e) : ∀ e, P e := by
  have key : ∀ (n : Nat) (e : Vl), SizeOf.sizeOf e ≤ n → P e := by
    intro n
    induction n with
    | zero => intro e he; cases e; simp only [Vl.mk.sizeOf_spec] at he; omega
    | succ n ih =>
      intro e he
      refine h e fun x hx => ih x ?_
      cases e with
      | mk k m v l =>
        have h1 := List.sizeOf_lt_of_mem hx
        simp only [Vl.args, Vl.mk.sizeOf_spec] at h1 he
        omega
  exact fun e => key _ e (Nat.le_refl _)
def Vl.cells (e : Vl) : List Value := [.int .i64 e.kind, .int .i64 e.n, e.av]
theorem Vl.cells_len (e : Vl) : e.cells.length = 3 := rfl
/-- The memory holds a value's parts. -/
inductive Vl.Has (w : World) : Vl → Prop
  | mk {e : Vl} (row : RowS w 3 e.av (e.args.map Vl.cells)) (kids : ∀ x ∈ e.args, Vl.Has w x) (num : -9223372036854775808 ≤ e.n ∧ e.n < 9223372036854775808) : Vl.Has w e
structure VlsHas (w : World) (v : Value) (l : List Vl) : Prop where
  row : RowS w 3 v (l.map Vl.cells)
  kids : ∀ x ∈ l, Vl.Has w x
theorem Vl.Has.vls {w : World} {e : Vl} (h : e.Has w) : VlsHas w e.av e.args := by cases h with | mk r k _ => exact ⟨r, k⟩
theorem Vl.Has.num {w : World} {e : Vl} (h : e.Has w) : -9223372036854775808 ≤ e.n ∧ e.n < 9223372036854775808 := by cases h with | mk _ _ n => exact n
theorem Vl.Has.nb {w w' : World} (k : Nb w w') {e : Vl} (h : e.Has w) : e.Has w' := by
  induction h with
  | mk row _ num ih => exact .mk (row.nb k) ih num
theorem VlsHas.nb {w w' : World} {v : Value} {l : List Vl} (h : VlsHas w v l) (k : Nb w w') : VlsHas w' v l := ⟨h.row.nb k, fun x hx => (h.kids x hx).nb k⟩
theorem VlsHas.at_ {w : World} {A : Option Addr} {n cap : Nat} {l : List Vl} (h : VlsHas w (.slice A n cap) l) {i : Nat} {e : Vl} (hi : l[i]? = some e) : ∃ b o, A = some ⟨b, o, none⟩ ∧
    (w.cell? ⟨b, o + i * 3, none⟩ = some (.int .i64 e.kind) ∧ w.cell? ⟨b, o + i * 3 + 1, none⟩ = some (.int .i64 e.n) ∧ w.cell? ⟨b, o + i * 3 + 2, none⟩ = some e.av) ∧ e.Has w := by
  obtain ⟨b, o, hA, hr⟩ := h.row.at_ (i := i) (r := e.cells) (by rw [List.getElem?_map, hi]; rfl)
  exact ⟨b, o, hA, ⟨hr 0 _ rfl, hr 1 _ rfl, hr 2 _ rfl⟩, h.kids e (List.mem_of_getElem? hi)⟩
theorem VlsHas.head {w : World} {v : Value} {l : List Vl} (h : VlsHas w v l) : ∃ (A : Option Addr) (cap : Nat), v = .slice A l.length cap ∧ l.length ≤ cap ∧ l.length ≤ 9223372036854775807 ∧ (A = none → cap = 0) := by
  have := h.row.head
  simpa using this
/-- At a place there is one list of a length. -/
theorem vls_fun {w : World} {A : Option Addr} {n c c' : Nat} {l l' : List Vl} (key : ∀ x ∈ l, ∀ x', Vl.Has w x → Vl.Has w x' → x.cells = x'.cells → x = x') (h : VlsHas w (.slice A n c) l) (h' : VlsHas w (.slice A n c') l') : l = l' := by
  obtain ⟨A1, c1, e1, -, -, -⟩ := h.head
  obtain ⟨A2, c2, e2, -, -, -⟩ := h'.head
  simp only [Value.slice.injEq] at e1 e2
  have hl : l.length = l'.length := by omega
  apply List.ext_getElem? 
  intro i
  by_cases hi : i < l.length
  · obtain ⟨x, hx⟩ : ∃ x, l[i]? = some x := ⟨_, List.getElem?_eq_getElem hi⟩
    obtain ⟨x', hx'⟩ : ∃ x, l'[i]? = some x := ⟨_, List.getElem?_eq_getElem (by omega)⟩
    obtain ⟨b, o, hA, ⟨a0, a1, a2⟩, hh⟩ := h.at_ hx
    obtain ⟨b', o', hA', ⟨b0, b1, b2⟩, hh'⟩ := h'.at_ hx'
    rw [hA] at hA'
    cases hA'
    rw [hx, hx']
    congr 1
    refine key x (List.mem_of_getElem? hx) x' hh hh' ?_
    rw [a0] at b0
    rw [a1] at b1
    rw [a2] at b2
    unfold Vl.cells
    rw [Option.some.inj b0, Option.some.inj b1, Option.some.inj b2]
  · rw [List.getElem?_eq_none (by omega), List.getElem?_eq_none (by omega)]
theorem vl_fun {w : World} : ∀ (x x' : Vl), Vl.Has w x → Vl.Has w x' → x.cells = x'.cells → x = x' := by
  intro x
  induction x using Vl.ind with
  | h x ih =>
    intro x' h h' hc
    have hv := h.vls
    have hv' := h'.vls
    cases x with
    | mk k n av l =>
      cases x' with
      | mk k' n' av' l' =>
        simp only [Vl.cells, Vl.kind, Vl.n, Vl.av, List.cons.injEq, Value.int.injEq, and_true, true_and] at hc
        obtain ⟨rfl, rfl, rfl⟩ := hc
        simp only [Vl.av, Vl.args] at hv hv' ih
        obtain ⟨A, c, e, -, -, -⟩ := hv.head
        subst e
        rw [vls_fun (fun y hy y' => ih y hy y') hv hv']
theorem vls_one {w : World} {A : Option Addr} {n c c' : Nat} {l l' : List Vl} (h : VlsHas w (.slice A n c) l) (h' : VlsHas w (.slice A n c') l') : l = l' := vls_fun (fun x _ x' => vl_fun x x') h h'
/-! Which may be. -/
def mayHd (k n : Int) (len : Nat) : Bool :=
  if k = 1 then len == 0 && (decide (-2305843009213693952 ≤ n) && decide (n ≤ 2305843009213693951)) else if k = 2 ∨ k = 3 then len == 0 && (decide (0 ≤ n) && decide (n ≤ 1048575)) else if k = 4 then n == 0 && (decide (1 ≤ len) && decide (len ≤ 4)) else false
mutual
def Vl.may : Vl → Bool
  | .mk k n _ l => mayHd k n l.length && Vl.mayL l
def Vl.mayL : List Vl → Bool
  | [] => true
  | x :: l => x.may && Vl.mayL l
end
mutual
def Vl.dp : Vl → Nat
  | .mk k _ _ l => if k = 4 then 1 + Vl.dpL l else 0
def Vl.dpL : List Vl → Nat
  | [] => 0
  | x :: l => max x.dp (Vl.dpL l)
end
mutual
def Vl.wd : Vl → Nat
  | .mk k _ _ l => if k = 4 then 1 + l.length + Vl.wdL l else 0
def Vl.wdL : List Vl → Nat
  | [] => 0
  | x :: l => x.wd + Vl.wdL l
end
theorem mayL_all (l : List Vl) : Vl.mayL l = l.all Vl.may := by
  induction l with
  | nil => rfl
  | cons x l ih => simp only [Vl.mayL, List.all_cons, ih]
theorem dpL_max (l : List Vl) : Vl.dpL l = maxL (l.map Vl.dp) := by
  induction l with
  | nil => rfl
  | cons x l ih => simp only [Vl.dpL, List.map_cons, maxL, ih]
theorem wdL_sum (l : List Vl) : Vl.wdL l = sumL (l.map Vl.wd) := by
  induction l with
  | nil => rfl
  | cons x l ih => simp only [Vl.wdL, List.map_cons, sumL, ih]
theorem Vl.may_eq (v : Vl) : v.may = (mayHd v.kind v.n v.args.length && v.args.all Vl.may) := by
  cases v with | mk k n av l => simp only [Vl.may, Vl.kind, Vl.n, Vl.args, mayL_all]
theorem Vl.dp_tup {v : Vl} (h : v.kind = 4) : v.dp = 1 + maxL (v.args.map Vl.dp) := by
  cases v with
  | mk k n av l =>
    simp only [Vl.kind] at h
    subst h
    simp only [Vl.dp, Vl.args, dpL_max, if_true]
theorem Vl.dp_leaf {v : Vl} (h : v.kind ≠ 4) : v.dp = 0 := by
  cases v with
  | mk k n av l =>
    simp only [Vl.kind] at h
    simp only [Vl.dp, if_neg h]
theorem Vl.wd_tup {v : Vl} (h : v.kind = 4) : v.wd = 1 + v.args.length + sumL (v.args.map Vl.wd) := by
  cases v with
  | mk k n av l =>
    simp only [Vl.kind] at h
    subst h
    simp only [Vl.wd, Vl.args, wdL_sum, if_true]
theorem Vl.wd_leaf {v : Vl} (h : v.kind ≠ 4) : v.wd = 0 := by
  cases v with
  | mk k n av l =>
    simp only [Vl.kind] at h
    simp only [Vl.wd, if_neg h]
def Vl.good (v : Vl) : Bool := v.may && decide (v.dp ≤ 64)
section
variable {H : Type} {enc : TypeId × Value → H} {w : World} {base : Nat} {spare : Nat → Bool} {held : Bool}
theorem cells_value : Try.prog.cellsOf 31 = 3 := by kernel_rfl
theorem cells_values : Try.prog.cellsOf 29 = 1 := by kernel_rfl
theorem three {cs : List Value} (h : cs.length = 3) : ∃ a b c, cs = [a, b, c] := by
  match cs, h with
  | [a, b, c], _ => exact ⟨a, b, c, rfl⟩
theorem open_vl : ∀ (fuel : Nat) (cs : List Value) (y : DataW H × List MemPlace), DataW.trod enc Try.prog w base spare held fuel 31 cs = some y → ∃ e : Vl, cs = e.cells ∧ e.Has w := by
  intro fuel
  induction fuel using Nat.strongRecOn with
  | _ fuel ih =>
    intro cs y h
    obtain ⟨n, hn, hl, hf⟩ := open_struct Try.underlying31 h
    rw [cells_value] at hl
    obtain ⟨c0, c1, c2, rfl⟩ := three hl
    obtain ⟨y0, t0⟩ := hf 0 _ rfl
    obtain ⟨y1, t1⟩ := hf 1 _ rfl
    obtain ⟨y2, t2⟩ := hf 2 _ rfl
    obtain ⟨k, e0, -, -⟩ := DataW.trod_int Try.underlying3 t0
    obtain ⟨a, e1, -, w1⟩ := DataW.trod_int Try.underlying3 t1
    obtain ⟨v, l, e2, hrow, hk⟩ := open_list Vl.cells (fun e => e.Has w) (by decide : 0 < 3) Try.underlying29 cells_value t2 (fun n' cs y hn' => ih n' (by omega) cs y) Vl.cells_len
    simp [cells_int] at e0
    simp [cells_int] at e1
    simp [cells_values] at e2
    subst e0 e1 e2
    exact ⟨.mk k a _ l, rfl, .mk hrow hk (i64_of w1)⟩
set_option maxRecDepth 100000 in
/-- A value that came in. -/
theorem open_value {r : Reach} {b0 : Nat} {v : Value} {d : DataW H} {p : List MemPlace} (hv : Value.okWide Try.prog w r b0 31 v) (h : DataW.Trod enc Try.prog w base spare held 31 v d p) :
    ∃ q : Vl, v = .agg q.cells.toArray ∧ q.Has w := by
  obtain ⟨fuel, h⟩ := h
  obtain ⟨cs0, rfl, hsz⟩ := okWide_struct Try.underlying31 hv
  obtain ⟨cs⟩ := cs0
  obtain ⟨e, he, hh⟩ := open_vl fuel _ _ h
  exact ⟨e, by rw [← he]; rfl, hh⟩
end
end Go.Proofs.Ytchcfjlkgnlnoaa
