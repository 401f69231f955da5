/-
  Proved here: what gathers a pattern's variables: its memory; a path that grows, and one that shrinks; a variable put behind the others. Conditions: there are fewer than a million.
-/
import Derived.Test.YtchcfjlkgnlnoaaPh
namespace Go.Proofs.Ytchcfjlkgnlnoaa
open Go.RowKit Go.ChangeMaps
set_option linter.unusedVariables false
set_option linter.unusedSimpArgs false
set_option maxRecDepth 100000
set_option maxHeartbeats 4000000
theorem own_low {w : World} {base s n b : Nat} {e : TypeId} {v : Value} {xs : List Value} (h : w.ownsRow base e s v n xs) (hb : b < base) : some b ≠ v.ownBlock := fun q => by have := (h.lt b q.symm).1; omega
theorem own_low' {w : World} {base s n b : Nat} {e : TypeId} {v : Value} {xs : List Value} (h : w.ownsRow base e s v n xs) (hb : b < base) : v.ownBlock = none ∨ v.ownBlock ≠ some b := .inr (Ne.symm (own_low h hb))
/-- Where the boxes lie. -/
structure VC (W0 : World) (nb qb pb mb mx gb B1 : Nat) : Prop where
  n : nb = W0.heap.size + 1
  q : qb = W0.heap.size + 2
  p : pb = W0.heap.size + 3
  m : mb = W0.heap.size + 4
  x : mx = W0.heap.size + 5
  g : gb = W0.heap.size + 6
  b : B1 = W0.heap.size + 7
/-- The row of paths, each of which lies in a row of its own, off one block. -/
structure Elp (base : Nat) (w : World) (po : Option Nat) (X : List Value) (acc : List (List Int)) : Prop where
  len : X.length = acc.length
  el : ∀ (i : Nat) (a : List Int), acc[i]? = some a → ∃ v, X[i]? = some v ∧ w.ownsRow base 3 1 v a.length (iL a) ∧ (v.ownBlock = none ∨ v.ownBlock ≠ po)
theorem Elp.kept {base : Nat} {w w' : World} {po row : Option Nat} {X : List Value} {acc : List (List Int)} (h : Elp base w po X acc) (hg : w.grownBy w' row) (hr : ∀ v n xs, w.ownsRow base 3 1 v n xs → (v.ownBlock = none ∨ v.ownBlock ≠ po) → v.ownBlock = none ∨ v.ownBlock ≠ row) : Elp base w' po X acc :=
  ⟨h.len, fun i t hi => by
    obtain ⟨v, a, d, e⟩ := h.el i t hi
    exact ⟨v, a, d.kept hg (hr v _ _ d e), e⟩⟩
theorem Elp.snoc {base : Nat} {w : World} {po : Option Nat} {X : List Value} {acc : List (List Int)} (h : Elp base w po X acc) (t : List Int) (v : Value) (ho : w.ownsRow base 3 1 v t.length (iL t)) (hp : v.ownBlock = none ∨ v.ownBlock ≠ po) : Elp base w po (X ++ [v]) (acc ++ [t]) := by
  have hl := h.len
  refine ⟨by simp; omega, fun i u hi => ?_⟩
  rw [List.getElem?_append] at hi
  split at hi
  · obtain ⟨v', a, d, e⟩ := h.el i u hi
    exact ⟨v', by rw [List.getElem?_append_left (by omega)]; exact a, d, e⟩
  · have hie : i = acc.length := by
      by_cases e : i - acc.length = 0
      · omega
      · rw [List.getElem?_eq_none (by simp; omega)] at hi; cases hi
    subst hie
    simp only [Nat.sub_self, List.getElem?_cons_zero, Option.some.injEq] at hi
    subst hi
    exact ⟨v, by rw [List.getElem?_append_right (by omega), hl, Nat.sub_self]; rfl, ho, hp⟩
/-- The rows that are there: the names, the paths, and where one is. -/
structure VRow (B1 nb qb pb : Nat) (w : World) (nl : List Value) (acc : List (List Int)) (path : List Int) : Prop where
  rows : ∃ nv qv X pv, w.heap[nb]? = some (.cells #[nv] 25 (0, 0)) ∧ w.ownsRow B1 9 1 nv nl.length nl ∧ w.heap[qb]? = some (.cells #[qv] 35 (0, 0)) ∧ w.ownsRow B1 26 1 qv acc.length X ∧
    w.heap[pb]? = some (.cells #[pv] 26 (0, 0)) ∧ w.ownsRow B1 3 1 pv path.length (iL path) ∧ Elp B1 w pv.ownBlock X acc
theorem VRow.nb {B1 nb qb pb : Nat} {w w' : World} {nl : List Value} {acc : List (List Int)} {path : List Int} (h : VRow B1 nb qb pb w nl acc path) (k : Nb w w') : VRow B1 nb qb pb w' nl acc path := by
  obtain ⟨nv, qv, X, pv, a, b, c, d, e, f, g⟩ := h.rows
  exact ⟨nv, qv, X, pv, k.block a, b.kept (nb_grown k) (none_or _), k.block c, d.kept (nb_grown k) (none_or _), k.block e, f.kept (nb_grown k) (none_or _), g.kept (nb_grown k) (fun v _ _ _ _ => none_or v)⟩
abbrev vgV (nb qb pb mx gb : Nat) : Value := .func (.func 35) #[] #[.pointer (some ⟨nb, 0, none⟩), .pointer (some ⟨qb, 0, none⟩), .pointer (some ⟨pb, 0, none⟩), .pointer (some ⟨mx, 0, none⟩), .pointer (some ⟨gb, 0, none⟩)]
/-- What gathers: its boxes, an empty map, and the variables that are there. -/
structure Vth (W0 : World) (nb qb pb mb mx gb B1 : Nat) (w : World) (nl : List Value) (acc : List (List Int)) (path : List Int) : Prop where
  nb0 : Nb W0 w
  sz : B1 ≤ w.heap.size
  row : VRow B1 nb qb pb w nl acc path
  mbox : w.heap[mx]? = some (.cells #[.map (some mb)] 84 (0, 0))
  gbox : w.heap[gb]? = some (.cells #[vgV nb qb pb mx gb] 85 (0, 0))
  map : w.heap[mb]? = some (.map #[] 0)
theorem Vth.go {W0 w w' : World} {nb qb pb mb mx gb B1 : Nat} {nl : List Value} {acc : List (List Int)} {path : List Int} (h : Vth W0 nb qb pb mb mx gb B1 w nl acc path) (k : Nb w w') : Vth W0 nb qb pb mb mx gb B1 w' nl acc path :=
  ⟨h.nb0.trans k, Nat.le_trans h.sz k.size, h.row.nb k, k.block h.mbox, k.block h.gbox, k.block h.map⟩
theorem Vth.push {W0 w w' : World} {nb qb pb mb mx gb B1 : Nat} {nl : List Value} {acc : List (List Int)} {path : List Int} {i : Int} {g c : Nat} {nv qv pv : Value} {X : List Value} (hc : VC W0 nb qb pb mb mx gb B1) (h : Vth W0 nb qb pb mb mx gb B1 w nl acc path)
    (hr : w.heap[nb]? = some (.cells #[nv] 25 (0, 0)) ∧ w.ownsRow B1 9 1 nv nl.length nl ∧ w.heap[qb]? = some (.cells #[qv] 35 (0, 0)) ∧ w.ownsRow B1 26 1 qv acc.length X ∧ w.heap[pb]? = some (.cells #[pv] 26 (0, 0)) ∧ w.ownsRow B1 3 1 pv path.length (iL path) ∧ Elp B1 w pv.ownBlock X acc)
    (ho : w'.ownsRow B1 3 1 (.slice (some ⟨g, 0, none⟩) (path.length + 1) c) (path.length + 1) (iL path ++ [.int .i64 i])) (hg : w.grownBy w' pv.ownBlock) (hw : pv.ownBlock = some g ∨ g = w.heap.size) :
    Vth W0 nb qb pb mb mx gb B1 (w'.setCell ⟨pb, 0, none⟩ (.slice (some ⟨g, 0, none⟩) (path.length + 1) c)) nl acc (path ++ [i]) := by
  obtain ⟨c1, c2, c3, c4, c5, c6, c7⟩ := hc
  obtain ⟨a1, a2, a3, a4, a5, a6, a7⟩ := hr
  have kb : ∀ {b : Nat} {o : Obj}, b < B1 → w.heap[b]? = some o → w'.heap[b]? = some o := fun hb ho => grown_blk hg ho (own_low a6 hb)
  have ko : ∀ {b : Nat} {o : Obj}, b < B1 → b ≠ pb → w.heap[b]? = some o → (w'.setCell ⟨pb, 0, none⟩ (.slice (some ⟨g, 0, none⟩) (path.length + 1) c)).heap[b]? = some o := fun hb hne ho => by rw [heap_setCell_other _ _ _ _ (by simpa using hne)]; exact kb hb ho
  have hpb := kb (by omega) a5
  have e1 : Elp B1 w (some g) X acc := ⟨a7.len, fun j t hj => by
    obtain ⟨v, p, o, u⟩ := a7.el j t hj
    refine ⟨v, p, o, ?_⟩
    rcases hw with hw | hw
    · rw [← hw]; exact u
    · cases hq : v.ownBlock with
      | none => exact .inl rfl
      | some k => exact .inr (fun e => by have := (o.lt k hq).2; simp only [Option.some.injEq] at e; omega)⟩
  have e2 : Elp B1 w' (some g) X acc := ⟨a7.len, fun j t hj => by
    obtain ⟨v, p, o, u⟩ := a7.el j t hj
    obtain ⟨v', p', -, u'⟩ := e1.el j t hj
    rw [p] at p'
    cases p'
    exact ⟨v, p, o.kept hg u, u'⟩⟩
  refine ⟨(Below.grown h.nb0 hg h.nb0.size (fun k hk => by have := (a6.lt k hk).1; omega)).setCell (p := ⟨pb, 0, none⟩) (by show W0.heap.size ≤ pb; omega) _, ?_, ⟨nv, qv, X, .slice (some ⟨g, 0, none⟩) (path.length + 1) c, ko (by omega) (by omega) a1, ?_, ko (by omega) (by omega) a3, ?_, heap_setCell_same _ _ _ _ _ _ hpb, ?_, ?_⟩, ko (by omega) (by omega) h.mbox, ko (by omega) (by omega) h.gbox, ko (by omega) (by omega) h.map⟩
  · have := h.sz; have := hg.size; simp; omega
  · have q := a2.kept hg (own_ne a2 a6 (by decide))
    exact q.kept (set_grown _ _ _) (own_low' q (by omega))
  · have q := a4.kept hg (own_ne a4 a6 (by decide))
    exact q.kept (set_grown _ _ _) (own_low' q (by omega))
  · have : iL (path ++ [i]) = iL path ++ [.int .i64 i] := by simp [iL]
    rw [this, List.length_append, List.length_singleton]
    exact ho.kept (set_grown _ _ _) (own_low' ho (by omega))
  · exact e2.kept (set_grown _ _ _) (fun v n xs h _ => own_low' h (by omega))
theorem Vth.pop {W0 w : World} {nb qb pb mb mx gb B1 : Nat} {nl : List Value} {acc : List (List Int)} {path : List Int} {i : Int} {g c : Nat} {nv qv : Value} {X : List Value} (hc : VC W0 nb qb pb mb mx gb B1) (h : Vth W0 nb qb pb mb mx gb B1 w nl acc (path ++ [i]))
    (hr : w.heap[nb]? = some (.cells #[nv] 25 (0, 0)) ∧ w.ownsRow B1 9 1 nv nl.length nl ∧ w.heap[qb]? = some (.cells #[qv] 35 (0, 0)) ∧ w.ownsRow B1 26 1 qv acc.length X ∧ w.heap[pb]? = some (.cells #[.slice (some ⟨g, 0, none⟩) (path.length + 1) c] 26 (0, 0)) ∧ w.ownsRow B1 3 1 (.slice (some ⟨g, 0, none⟩) (path.length + 1) c) (path.length + 1) (iL path ++ [.int .i64 i]) ∧ Elp B1 w (some g) X acc) :
    Vth W0 nb qb pb mb mx gb B1 (w.setCell ⟨pb, 0, none⟩ (.slice (some ⟨g, 0, none⟩) path.length c)) nl acc path := by
  obtain ⟨c1, c2, c3, c4, c5, c6, c7⟩ := hc
  obtain ⟨a1, a2, a3, a4, a5, a6, a7⟩ := hr
  have d' := own_pop a6 (by simp)
  have ko : ∀ {b : Nat} {o : Obj}, b ≠ pb → w.heap[b]? = some o → (w.setCell ⟨pb, 0, none⟩ (.slice (some ⟨g, 0, none⟩) path.length c)).heap[b]? = some o := fun hne ho => by rw [heap_setCell_other _ _ _ _ (by simpa using hne)]; exact ho
  exact ⟨h.nb0.setCell (p := ⟨pb, 0, none⟩) (by show W0.heap.size ≤ pb; omega) _, by have := h.sz; simpa using this, ⟨nv, qv, X, .slice (some ⟨g, 0, none⟩) path.length c, ko (by omega) a1, a2.kept (set_grown _ _ _) (own_low' a2 (by omega)), ko (by omega) a3, a4.kept (set_grown _ _ _) (own_low' a4 (by omega)), heap_setCell_same _ _ _ _ _ _ a5, d'.kept (set_grown _ _ _) (own_low' d' (by omega)), a7.kept (set_grown _ _ _) (fun v n xs h _ => own_low' h (by omega))⟩, ko (by omega) h.mbox, ko (by omega) h.gbox, ko (by omega) h.map⟩
theorem Vth.name {W0 w w' : World} {nb qb pb mb mx gb B1 : Nat} {nl : List Value} {acc : List (List Int)} {path : List Int} {x nv qv pv nv' : Value} {X : List Value} (hc : VC W0 nb qb pb mb mx gb B1) (h : Vth W0 nb qb pb mb mx gb B1 w nl acc path)
    (hr : w.heap[nb]? = some (.cells #[nv] 25 (0, 0)) ∧ w.ownsRow B1 9 1 nv nl.length nl ∧ w.heap[qb]? = some (.cells #[qv] 35 (0, 0)) ∧ w.ownsRow B1 26 1 qv acc.length X ∧ w.heap[pb]? = some (.cells #[pv] 26 (0, 0)) ∧ w.ownsRow B1 3 1 pv path.length (iL path) ∧ Elp B1 w pv.ownBlock X acc)
    (ho : w'.ownsRow B1 9 1 nv' (nl.length + 1) (nl ++ [x])) (hg : w.grownBy w' nv.ownBlock) :
    Vth W0 nb qb pb mb mx gb B1 (w'.setCell ⟨nb, 0, none⟩ nv') (nl ++ [x]) acc path := by
  obtain ⟨c1, c2, c3, c4, c5, c6, c7⟩ := hc
  obtain ⟨a1, a2, a3, a4, a5, a6, a7⟩ := hr
  have kb : ∀ {b : Nat} {o : Obj}, b < B1 → w.heap[b]? = some o → w'.heap[b]? = some o := fun hb ho => grown_blk hg ho (own_low a2 hb)
  have ko : ∀ {b : Nat} {o : Obj}, b < B1 → b ≠ nb → w.heap[b]? = some o → (w'.setCell ⟨nb, 0, none⟩ nv').heap[b]? = some o := fun hb hne ho => by rw [heap_setCell_other _ _ _ _ (by simpa using hne)]; exact kb hb ho
  refine ⟨(Below.grown h.nb0 hg h.nb0.size (fun k hk => by have := (a2.lt k hk).1; omega)).setCell (p := ⟨nb, 0, none⟩) (by show W0.heap.size ≤ nb; omega) _, ?_, ⟨nv', qv, X, pv, heap_setCell_same _ _ _ _ _ _ (kb (by omega) a1), ?_, ko (by omega) (by omega) a3, ?_, ko (by omega) (by omega) a5, ?_, ?_⟩, ko (by omega) (by omega) h.mbox, ko (by omega) (by omega) h.gbox, ko (by omega) (by omega) h.map⟩
  · have := h.sz; have := hg.size; simp; omega
  · rw [List.length_append, List.length_singleton]
    exact ho.kept (set_grown _ _ _) (own_low' ho (by omega))
  · have q := a4.kept hg (own_ne a4 a2 (by decide))
    exact q.kept (set_grown _ _ _) (own_low' q (by omega))
  · have q := a6.kept hg (own_ne a6 a2 (by decide))
    exact q.kept (set_grown _ _ _) (own_low' q (by omega))
  · exact (a7.kept hg (fun v n xs h _ => own_ne h a2 (by decide))).kept (set_grown _ _ _) (fun v n xs h _ => own_low' h (by omega))
theorem Vth.path {W0 w w' : World} {nb qb pb mb mx gb B1 : Nat} {nl : List Value} {acc : List (List Int)} {path t : List Int} {x nv qv pv qv' : Value} {X : List Value} (hc : VC W0 nb qb pb mb mx gb B1) (h : Vth W0 nb qb pb mb mx gb B1 w nl acc path)
    (hr : w.heap[nb]? = some (.cells #[nv] 25 (0, 0)) ∧ w.ownsRow B1 9 1 nv nl.length nl ∧ w.heap[qb]? = some (.cells #[qv] 35 (0, 0)) ∧ w.ownsRow B1 26 1 qv acc.length X ∧ w.heap[pb]? = some (.cells #[pv] 26 (0, 0)) ∧ w.ownsRow B1 3 1 pv path.length (iL path) ∧ Elp B1 w pv.ownBlock X acc)
    (hx : w.ownsRow B1 3 1 x t.length (iL t)) (hxp : x.ownBlock = none ∨ x.ownBlock ≠ pv.ownBlock)
    (ho : w'.ownsRow B1 26 1 qv' (acc.length + 1) (X ++ [x])) (hg : w.grownBy w' qv.ownBlock) :
    Vth W0 nb qb pb mb mx gb B1 (w'.setCell ⟨qb, 0, none⟩ qv') nl (acc ++ [t]) path := by
  obtain ⟨c1, c2, c3, c4, c5, c6, c7⟩ := hc
  obtain ⟨a1, a2, a3, a4, a5, a6, a7⟩ := hr
  have kb : ∀ {b : Nat} {o : Obj}, b < B1 → w.heap[b]? = some o → w'.heap[b]? = some o := fun hb ho => grown_blk hg ho (own_low a4 hb)
  have ko : ∀ {b : Nat} {o : Obj}, b < B1 → b ≠ qb → w.heap[b]? = some o → (w'.setCell ⟨qb, 0, none⟩ qv').heap[b]? = some o := fun hb hne ho => by rw [heap_setCell_other _ _ _ _ (by simpa using hne)]; exact kb hb ho
  refine ⟨(Below.grown h.nb0 hg h.nb0.size (fun k hk => by have := (a4.lt k hk).1; omega)).setCell (p := ⟨qb, 0, none⟩) (by show W0.heap.size ≤ qb; omega) _, ?_, ⟨nv, qv', X ++ [x], pv, ko (by omega) (by omega) a1, ?_, heap_setCell_same _ _ _ _ _ _ (kb (by omega) a3), ?_, ko (by omega) (by omega) a5, ?_, ?_⟩, ko (by omega) (by omega) h.mbox, ko (by omega) (by omega) h.gbox, ko (by omega) (by omega) h.map⟩
  · have := h.sz; have := hg.size; simp; omega
  · have q := a2.kept hg (own_ne a2 a4 (by decide))
    exact q.kept (set_grown _ _ _) (own_low' q (by omega))
  · rw [List.length_append, List.length_singleton]
    exact ho.kept (set_grown _ _ _) (own_low' ho (by omega))
  · have q := a6.kept hg (own_ne a6 a4 (by decide))
    exact q.kept (set_grown _ _ _) (own_low' q (by omega))
  · have e2 := a7.snoc t x hx hxp
    exact (e2.kept hg (fun v n xs h _ => own_ne h a4 (by decide))).kept (set_grown _ _ _) (fun v n xs h _ => own_low' h (by omega))
mutual
/-- Each tuple has a variable in it. -/
def Ex.full : Ex → Bool
  | .mk k a n s v l => if k = 5 then decide (0 < (Ex.vsL [] 0 l).length) && Ex.fullL l else true
def Ex.fullL : List Ex → Bool
  | [] => true
  | x :: l => x.full && Ex.fullL l
end
theorem fullL_mem : ∀ {l : List Ex} {x : Ex}, Ex.fullL l = true → x ∈ l → x.full = true
  | y :: l, x, h, hx => by
    rw [Ex.fullL, Bool.and_eq_true] at h
    rcases List.mem_cons.1 hx with rfl | hx
    · exact h.1
    · exact fullL_mem h.2 hx
theorem full_tup {e : Ex} (h : e.full = true) (hk : e.kind = 5) : 0 < (Ex.vsL [] 0 e.args).length ∧ ∀ x ∈ e.args, x.full = true := by
  cases e with
  | mk k a n s v l =>
    simp only [Ex.kind] at hk
    subst hk
    rw [Ex.full, if_pos rfl, Bool.and_eq_true, decide_eq_true_eq] at h
    exact ⟨h.1, fun x hx => fullL_mem h.2 hx⟩
theorem vsL_len : ∀ (l : List Ex), (∀ x ∈ l, ∀ p q : List Int, (x.vsP p).length = (x.vsP q).length) → ∀ (p q : List Int) (i j : Nat), (Ex.vsL p i l).length = (Ex.vsL q j l).length
  | [], _, p, q, i, j => by simp only [Ex.vsL]
  | x :: l, h, p, q, i, j => by
    simp only [Ex.vsL, List.length_append]
    rw [h x (List.mem_cons_self ..) _ (q ++ [(j : Int)]), vsL_len l (fun y hy => h y (List.mem_cons_of_mem _ hy)) p q (i + 1) (j + 1)]
theorem vsP_len : ∀ (e : Ex) (p q : List Int), (e.vsP p).length = (e.vsP q).length := by
  intro e
  induction e using Ex.ind with
  | h e ih =>
    intro p q
    by_cases h5 : e.kind = 5
    · rw [vsP_tup h5, vsP_tup h5]
      exact vsL_len e.args ih p q 0 0
    · by_cases h4 : e.kind = 4
      · rw [vsP_var h4, vsP_var h4]; rfl
      · rw [vsP_other h4 h5, vsP_other h4 h5]
end Go.Proofs.Ytchcfjlkgnlnoaa
