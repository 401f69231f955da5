/-
  Proved here: a tree's text, as lists of bytes; how long it is. Conditions: none. ¦ what the writer's calls keep; put. Conditions: stated.
-/
import Derived.Test.YtojogolmcclpoaaDoorSau
import Derived.Test.YtojogolmcclpoaaDoorSaa
import Derived.Shelf.Strconv.Itoa3
import Derived.LoopN
section
namespace Go.Proofs.YtojogolmcclpoaaDoor
set_option linter.unusedVariables false
set_option linter.unusedSimpArgs false
/-- Texts with a comma between them. -/
def jnT : List Bs → Bs
  | [] => []
  | x :: l => x ++ (l.map fun y => [44, 32] ++ y).flatten
mutual
def txE : Ex → Bs
  | .mk k a n s v l => if k = 1 then Lib.itoa n else if k = 2 then [39] ++ s else if k = 3 then s else if k = 4 then [115, 101, 108, 102] else if k = 5 then [123] ++ (jnT (txEs l) ++ [125])
    else [40] ++ ((txEs l).getD 0 [] ++ (([32] ++ (s ++ [32])) ++ ((txEs l).getD 1 [] ++ [41])))
def txEs : List Ex → List Bs
  | [] => []
  | x :: l => txE x :: txEs l
end
mutual
def txT : Ex → Bs
  | .mk k a n s v l => if k = 1 then [95] else if k = 2 then Lib.itoa n else if k = 3 then [39] ++ s else if k = 4 then s else [123] ++ (jnT (txTs l) ++ [125])
def txTs : List Ex → List Bs
  | [] => []
  | x :: l => txT x :: txTs l
end
def acT (name : Bs) (args : List Ex) : Bs := (name ++ [40]) ++ (jnT (txEs args) ++ [41])
def txS (s : St) : Bs :=
  (if s.kind = 1 then ([108, 101, 116, 32] ++ (s.name ++ [32, 61, 32])) ++ jnT (txEs s.args) else if s.kind = 2 then ([108, 101, 116, 32] ++ (s.name ++ [32, 61, 32, 115, 112, 97, 119, 110, 32])) ++ acT s.actor s.args else if s.kind = 3 then [115, 101, 110, 100, 32] ++ jnT (txEs s.args) else [111, 117, 116, 32] ++ jnT (txEs s.args)) ++ [59]
def txSs : List St → Bs
  | [] => []
  | x :: l => (txS x ++ [32]) ++ txSs l
def gdT : List Ex → Bs
  | [] => []
  | x :: l => ([32, 119, 104, 101, 110, 32] ++ txE x) ++ gdT l
mutual
def txB : Bd → Bs
  | .mk sv ss k a ac av es pv ps mv ms lt af => [123, 32] ++ (txSs ss ++ ((if k = 1 then [98, 101, 99, 111, 109, 101, 32] ++ acT ac es else if k = 2 then [115, 116, 111, 112] else if k = 3 then [105, 102, 32] ++ (jnT (txEs es) ++ ([32] ++ ((txBs ps).getD 0 [] ++ ([32, 101, 108, 115, 101, 32] ++ (txBs ps).getD 1 []))))
      else [114, 101, 99, 101, 105, 118, 101, 32, 123] ++ (txAs ms ++ ((if lt = true then ([32, 97, 102, 116, 101, 114, 32] ++ (Lib.itoa af ++ [32])) ++ jnT (txBs ps) else []) ++ [32, 125]))) ++ [32, 125]))
def txBs : List Bd → List Bs
  | [] => []
  | x :: l => txB x :: txBs l
def txA : Am → Bs
  | .mk p gv g b => txT p ++ (gdT g ++ ([32] ++ txB b))
def txAs : List Am → Bs
  | [] => []
  | x :: l => ([32] ++ txA x) ++ txAs l
end
def rcT (lt : Bool) (af : Int) (ps : List Bs) (ms : Bs) : Bs := [114, 101, 99, 101, 105, 118, 101, 32, 123] ++ (ms ++ ((if lt = true then ([32, 97, 102, 116, 101, 114, 32] ++ (Lib.itoa af ++ [32])) ++ jnT ps else []) ++ [32, 125]))
def endT (b : Bd) : Bs := if b.kind = 1 then [98, 101, 99, 111, 109, 101, 32] ++ acT b.actor b.args else if b.kind = 2 then [115, 116, 111, 112] else if b.kind = 3 then [105, 102, 32] ++ (jnT (txEs b.args) ++ ([32] ++ ((txBs b.parts).getD 0 [] ++ ([32, 101, 108, 115, 101, 32] ++ (txBs b.parts).getD 1 []))))
      else rcT b.late b.after (txBs b.parts) (txAs b.arms)
def txD (d : Df) : Bs := ([97, 99, 116, 111, 114, 32] ++ (d.name ++ [40])) ++ (jnT d.params ++ ([41, 32] ++ (txB d.body ++ [10])))
def txDs : List Df → Bs
  | [] => []
  | x :: l => txD x ++ txDs l
def txP (p : Pg) : Bs := txDs p.defs ++ ([109, 97, 105, 110, 32] ++ (acT p.main p.args ++ [10]))
theorem txE_eq (e : Ex) : txE e = if e.kind = 1 then Lib.itoa e.n else if e.kind = 2 then [39] ++ e.name else if e.kind = 3 then e.name else if e.kind = 4 then [115, 101, 108, 102] else if e.kind = 5 then [123] ++ (jnT (txEs e.args) ++ [125])
    else [40] ++ ((txEs e.args).getD 0 [] ++ (([32] ++ (e.name ++ [32])) ++ ((txEs e.args).getD 1 [] ++ [41]))) := by cases e; rfl
theorem txT_eq (e : Ex) : txT e = if e.kind = 1 then [95] else if e.kind = 2 then Lib.itoa e.n else if e.kind = 3 then [39] ++ e.name else if e.kind = 4 then e.name else [123] ++ (jnT (txTs e.args) ++ [125]) := by cases e; rfl
theorem txB_eq (b : Bd) : txB b = [123, 32] ++ (txSs b.stmts ++ (endT b ++ [32, 125])) := by cases b; rfl
theorem txA_eq (m : Am) : txA m = txT m.pat ++ (gdT m.guard ++ ([32] ++ txB m.body)) := by cases m; rfl
theorem txEs_map (l : List Ex) : txEs l = l.map txE := by
  induction l with
  | nil => rfl
  | cons x l ih => rw [List.map_cons, ← ih]; rfl
theorem txTs_map (l : List Ex) : txTs l = l.map txT := by
  induction l with
  | nil => rfl
  | cons x l ih => rw [List.map_cons, ← ih]; rfl
theorem txBs_map (l : List Bd) : txBs l = l.map txB := by
  induction l with
  | nil => rfl
  | cons x l ih => rw [List.map_cons, ← ih]; rfl
theorem txAs_map (l : List Am) : txAs l = (l.map fun m => [32] ++ txA m).flatten := by
  induction l with
  | nil => rfl
  | cons x l ih => rw [List.map_cons, List.flatten_cons, ← ih]; rfl
theorem txSs_map (l : List St) : txSs l = (l.map fun s => txS s ++ [32]).flatten := by
  induction l with
  | nil => rfl
  | cons x l ih => rw [List.map_cons, List.flatten_cons, ← ih]; rfl
theorem txDs_map (l : List Df) : txDs l = (l.map txD).flatten := by
  induction l with
  | nil => rfl
  | cons x l ih => rw [List.map_cons, List.flatten_cons, ← ih]; rfl
theorem gdT_map (l : List Ex) : gdT l = (l.map fun g => [32, 119, 104, 101, 110, 32] ++ txE g).flatten := by
  induction l with
  | nil => rfl
  | cons x l ih => rw [List.map_cons, List.flatten_cons, ← ih]; rfl
/-! One behind the other. -/
def sepT (i : Nat) (x : Bs) : Bs := (if i = 0 then [] else [44, 32]) ++ x
theorem jnT_snoc (l : List Bs) (x : Bs) : jnT (l ++ [x]) = jnT l ++ sepT l.length x := by
  cases l with
  | nil => simp [jnT, sepT]
  | cons y r => simp [jnT, sepT]
theorem jnT_take (l : List Bs) (i : Nat) (x : Bs) (h : l[i]? = some x) : jnT (l.take (i + 1)) = jnT (l.take i) ++ sepT i x := by
  have hlt := (List.getElem?_eq_some_iff.1 h).1
  rw [List.take_add_one, h]
  show jnT (l.take i ++ [x]) = _
  rw [jnT_snoc, List.length_take, Nat.min_eq_left (by omega)]
theorem flat_le {α : Type} (f : α → Bs) (l : List α) (i : Nat) : ((l.take i).map f).flatten.length ≤ (l.map f).flatten.length := by
  have h : (l.map f).flatten = ((l.take i).map f).flatten ++ ((l.drop i).map f).flatten := by rw [← List.flatten_append, ← List.map_append, List.take_append_drop]
  rw [h, List.length_append]
  omega
theorem jnT_le (l : List Bs) (i : Nat) : (jnT (l.take i)).length ≤ (jnT l).length := by
  cases l with
  | nil => simp
  | cons x r =>
    cases i with
    | zero => simp [jnT]
    | succ i =>
      show (x ++ ((r.take i).map fun y => [44, 32] ++ y).flatten).length ≤ (x ++ (r.map fun y => [44, 32] ++ y).flatten).length
      rw [List.length_append, List.length_append]
      exact Nat.add_le_add_left (flat_le (fun y : Bs => [44, 32] ++ y) r i) _
theorem flat_take {α : Type} (f : α → Bs) (l : List α) (i : Nat) (x : α) (h : l[i]? = some x) : ((l.take (i + 1)).map f).flatten = ((l.take i).map f).flatten ++ f x := by
  rw [List.take_add_one, h]
  simp
end Go.Proofs.YtojogolmcclpoaaDoor
end
section
namespace Go.Proofs.YtojogolmcclpoaaDoor
open Go.RowKit Go.Shelf
set_option linter.unusedVariables false
set_option linter.unusedSimpArgs false
set_option maxRecDepth 100000
set_option maxHeartbeats 4000000
/-- The writer behind W0 has a text. -/
def Wr (W0 : World) (t : Bs) (W : World) : Prop := Lib.IsBuilderF wT bT W0.heap.size W0.heap.size (Lib.byteCells t) W
/-- What a writer's call keeps: all that W0 has, and all blocks but the writer and rows of bytes. -/
def Pk (W0 W W' : World) : Prop := Below W0.heap.size W W' ∧ Lib.OthersKept bT (some W0.heap.size) W W'
theorem Pk.refl (W0 W : World) : Pk W0 W W := ⟨Below.refl _ _, Lib.OthersKept.refl _ _ _⟩
theorem Pk.trans {W0 A B C : World} (h : Pk W0 A B) (k : Pk W0 B C) : Pk W0 A C := ⟨h.1.trans k.1, h.2.trans k.2⟩
theorem Pk.size {W0 A B : World} (h : Pk W0 A B) : A.heap.size ≤ B.heap.size := h.1.size
theorem Pk.nb {W0 A B : World} (h : Nb W0 A) (k : Pk W0 A B) : Nb W0 B := Below.trans h k.1
theorem Pk.of_nb {W0 A B : World} (hl : W0.heap.size ≤ A.heap.size) (h : Nb A B) : Pk W0 A B := ⟨Below.mono h hl, fun k o hk _ _ => h.block hk⟩
theorem Pk.alloc {W0 A B : World} (h : Pk W0 A B) (hl : W0.heap.size ≤ B.heap.size) (o : Obj) : Pk W0 A (B.alloc o) := h.trans (Pk.of_nb hl ((Nb.refl B).alloc o))
theorem Pk.block {W0 A B : World} (h : Pk W0 A B) {k : Nat} {cs : Array Value} {t : TypeId} {fr : Nat × Nat} (hk : A.heap[k]? = some (.cells cs t fr)) (hne : k ≠ W0.heap.size) (ht : t ≠ bT) : B.heap[k]? = some (.cells cs t fr) :=
  h.2 k _ hk (fun e => hne (Option.some.inj e)) (fun c fz e => ht (by cases e; rfl))
theorem Wr.nb {W0 A B : World} {t : Bs} (h : Wr W0 t A) (k : Nb A B) : Wr W0 t B := by
  have key : ∀ p, Lib.BuilderAtF wT bT W0.heap.size W0.heap.size p (Lib.byteCells t) A → Lib.BuilderAtF wT bT W0.heap.size W0.heap.size p (Lib.byteCells t) B := by
    rintro p ⟨hB, v, hb, ho, hne⟩
    exact ⟨hB, v, k.block hb, ho.kept (row := none) ⟨k.os, k.tape, k.output, k.size, fun i hi _ => Below.block k i hi⟩ (by cases v.ownBlock <;> simp), hne⟩
  exact h.elim (fun x => .inl (key _ x)) (fun x => .inr (key _ x))
theorem Wr.lt {W0 A : World} {t : Bs} (h : Wr W0 t A) : W0.heap.size < A.heap.size := h.elim (fun x => x.lt) (fun x => x.lt)
/-- What a call leaves that lays x behind the text t. -/
def Lays (W0 : World) (t x : Bs) (W : World) (r : Ending) (W' : World) : Prop := r = .returned (.tuple #[]) ∧ Wr W0 (t ++ x) W' ∧ Pk W0 W W'
theorem strCells_T (s : Bs) : Lib.strCells ⟨s.toArray⟩ = Lib.byteCells s := by
  unfold Lib.strCells Lib.byteCells
  rfl
theorem write_any (W0 : World) (t s : Bs) (W : World) (hW : Wr W0 t W) (hlen : (t ++ s).length ≤ 140737488355328) :
    Calls Tryd.prog 67 #[.pointer (some ⟨W0.heap.size, 0, none⟩), sV s] W fun r W' => r = .returned (.tuple #[.int .i64 s.length, .nilIface]) ∧ Wr W0 (t ++ s) W' ∧ Pk W0 W W' := by
  rw [List.length_append] at hlen
  refine (wstr_any W0.heap.size W0.heap.size (Lib.byteCells t) ⟨s.toArray⟩ W hW (by rw [Lib.byteCells_length]; show t.length + s.toArray.size ≤ _; simp; omega) (Nat.le_of_lt hW.lt)).mono ?_
  rintro r W' ⟨rfl, h1, h2, h3⟩
  refine ⟨by simp [ByteArray.size], .inr ?_, h2, h3⟩
  rw [Lib.byteCells_append, ← strCells_T s]
  exact h1
set_option maxHeartbeats 4000000 in
theorem put_any (W0 : World) (t : Bs) (ss : List Bs) (W : World) (hW : Wr W0 t W) (k : Nat) (hk : W.heap[k]? = some (.cells (ss.map sV).toArray 9 (0, 0))) (hne : k ≠ W0.heap.size) (c : Nat) (hc : ss.length ≤ c) (hs : ss.length ≤ 100)
    (hlen : (t ++ ss.flatten).length ≤ 140737488355328) :
    Calls Tryd.prog 54 #[.pointer (some ⟨W0.heap.size, 0, none⟩), .slice (some ⟨k, 0, none⟩) ss.length c] W (Lays W0 t ss.flatten W) := by
  obtain ⟨M, hM⟩ : ∃ M, ss.length = M := ⟨_, rfl⟩
  have hMh := Lib.hid hM
  rw [hM] at hc hs ⊢
  clear hM
  have hkh := Lib.hid hk
  have hlen := Lib.hid hlen
  clear hk
  go_enter Tryd.func54, Tryd.ntmps54
  go_wp2_with fail
  go_loopw [8] (fun si wr => ∃ i : Nat, i ≤ M ∧ si = .int .i64 i ∧ Wr W0 (t ++ (ss.take i).flatten) wr ∧ Pk W0 W wr) (fun si _ => M - (intOf si).toNat)
  case atStart => exact ⟨0, Nat.zero_le _, rfl, by simpa using hW, Pk.refl _ _⟩
  case round =>
    obtain ⟨i, hi2, rfl, hj, hp⟩ := hrel
    by_cases hlt2 : i < M
    · have hlt3 : (i : Int) < (M : Int) := by omega
      obtain ⟨x, hx⟩ : ∃ x, ss[i]? = some x := ⟨_, List.getElem?_eq_getElem (by rw [hMh.out]; exact hlt2)⟩
      have y0 : wr.cell? ⟨k, i, none⟩ = some (sV x) := (cell_of_row _ _ i _ _ _ (hp.block hkh.out hne (by decide))).trans (by simp [hx])
      have htk : (ss.take (i + 1)).flatten = (ss.take i).flatten ++ x := by rw [List.take_add_one, hx]; simp
      have hle : (t ++ ((ss.take i).flatten ++ x)).length ≤ 140737488355328 := by
        have h1 := hlen.out
        have h2 : ss.flatten = (ss.take (i + 1)).flatten ++ (ss.drop (i + 1)).flatten := by rw [← List.flatten_append, List.take_append_drop]
        rw [h2, htk] at h1
        simp only [List.length_append] at h1 ⊢
        omega
      have hcall := Lib.hid (write_any W0 (t ++ (ss.take i).flatten) x wr hj (by rw [List.append_assoc]; exact hle))
      go_wp2_with (first
        | (go_at_call 67; refine (hcall.out).mono ?_; rintro r w6 ⟨rfl, hj6, hp6⟩))
      exact ⟨⟨i + 1, by omega, by simp, by rw [htk, ← List.append_assoc]; exact hj6, hp.trans hp6⟩, by simp [intOf] <;> omega⟩
    · obtain rfl : i = M := by omega
      have hall : (ss.take i).flatten = ss.flatten := by rw [← hMh.out, List.take_length]
      rw [hall] at hj
      go_wp2_with fail
      go_end0
      exact ⟨rfl, hj, hp⟩
end Go.Proofs.YtojogolmcclpoaaDoor
end
