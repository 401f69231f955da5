/-
  Proved here: what gathers a pattern's tests: its memory; a test put behind the others. Conditions: there are fewer than a million.
-/
import Derived.Test.YtchcfjlkgnlnoaaPc
import Derived.Test.YtchcfjlkgnlnoaaZp
namespace Go.Proofs.Ytchcfjlkgnlnoaa
open Go.RowKit Go.ChangeMaps
set_option linter.unusedVariables false
set_option linter.unusedSimpArgs false
set_option maxRecDepth 100000
set_option maxHeartbeats 4000000
theorem own_ne {w : World} {base base' s s' n m : Nat} {e e' : TypeId} {v v' : Value} {xs ys : List Value} (h : w.ownsRow base e s v n xs) (h' : w.ownsRow base' e' s' v' m ys) (hne : e ≠ e') : v.ownBlock = none ∨ v.ownBlock ≠ v'.ownBlock := by
  rcases h.2 with ⟨rfl, rfl⟩ | ⟨g, cap, cur, rfl, _, hg, _⟩
  · exact .inl rfl
  · rcases h'.2 with ⟨rfl, rfl⟩ | ⟨g', cap', cur', rfl, _, hg', _⟩
    · exact .inr (by simp [Value.ownBlock])
    · refine .inr fun e => ?_
      simp only [Value.ownBlock, Option.some.injEq] at e
      subst e
      rw [hg] at hg'
      simp only [Option.some.injEq, Obj.cells.injEq] at hg'
      exact hne hg'.2.1
theorem own_mono {w : World} {base base' s n : Nat} {e : TypeId} {v : Value} {xs : List Value} (h : w.ownsRow base e s v n xs) (hb : base' ≤ base) : w.ownsRow base' e s v n xs := by
  refine ⟨h.1, ?_⟩
  rcases h.2 with hn | ⟨g, cap, cur, e, h1, rest⟩
  · exact .inl hn
  · exact .inr ⟨g, cap, cur, e, by omega, rest⟩
theorem drew1P {a b : World} (h : Nb a b) : Nb a b.drew := h.drewN 1
theorem own_box {w : World} {base s n b : Nat} {e t : TypeId} {v : Value} {xs : List Value} {cs : Array Value} {fr : Nat × Nat} (h : w.ownsRow base e s v n xs) (hb : w.heap[b]? = some (.cells cs t fr)) (ht : t ≠ e) : v.ownBlock = none ∨ v.ownBlock ≠ some b :=
  .inr fun q => row_ne h hb ht q.symm
theorem set_grown (w : World) (b : Nat) (u : Value) : w.grownBy (w.setCell ⟨b, 0, none⟩ u) (some b) := ⟨rfl, rfl, rfl, by simp, fun k _ hk => heap_setCell_other _ _ _ _ (fun e => hk (by rw [e]))⟩
theorem nb_grown {w w' : World} (h : Nb w w') : w.grownBy w' none := ⟨h.os, h.tape, h.output, h.size, fun k hk _ => Below.block h k hk⟩
theorem none_or (v : Value) : v.ownBlock = none ∨ v.ownBlock ≠ none := by cases v.ownBlock <;> simp
theorem grown_blk {w w' : World} {row : Option Nat} (h : w.grownBy w' row) {b : Nat} {o : Obj} (hb : w.heap[b]? = some o) (hne : some b ≠ row) : w'.heap[b]? = some o :=
  (World.grownBy.block h b (Array.getElem?_eq_some_iff.1 hb).1 hne).trans hb
theorem infoT : (Try.prog.info? 28).map (fun i => (i.zero, i.size, i.bytes)) = some (some (.agg #[.slice none 0 0, .int .i64 0, .int .i64 0]), 3, 40) := by kernel_rfl
theorem partsT : ∃ i, Try.prog.info? 28 = some i ∧ i.zero = some (.agg #[.slice none 0 0, .int .i64 0, .int .i64 0]) ∧ i.size = 3 ∧ i.bytes = 40 := by
  have h := infoT
  cases hq : Try.prog.info? 28 with
  | none => rw [hq] at h; cases h
  | some i =>
    rw [hq] at h
    simp only [Option.map_some, Option.some.injEq, Prod.mk.injEq] at h
    exact ⟨i, rfl, h.1, h.2.1, h.2.2⟩
/-- The rows of tests, each of whose paths lies in a row of its own, off one block. -/
structure Elt (base : Nat) (w : World) (po : Option Nat) (X : List Value) (acc : List Ts) : Prop where
  len : X.length = acc.length * 3
  el : ∀ i t, acc[i]? = some t → ∃ v, X[i * 3]? = some v ∧ X[i * 3 + 1]? = some (.int .i64 t.kind) ∧ X[i * 3 + 2]? = some (.int .i64 t.n) ∧ w.ownsRow base 3 1 v t.path.length (iL t.path) ∧ (v.ownBlock = none ∨ v.ownBlock ≠ po)
theorem Elt.kept {base : Nat} {w w' : World} {po row : Option Nat} {X : List Value} {acc : List Ts} (h : Elt base w po X acc) (hg : w.grownBy w' row) (hr : ∀ v n xs, w.ownsRow base 3 1 v n xs → (v.ownBlock = none ∨ v.ownBlock ≠ po) → v.ownBlock = none ∨ v.ownBlock ≠ row) : Elt base w' po X acc :=
  ⟨h.len, fun i t hi => by
    obtain ⟨v, a, b, c, d, e⟩ := h.el i t hi
    exact ⟨v, a, b, c, d.kept hg (hr v _ _ d e), e⟩⟩
theorem Elt.snoc {base : Nat} {w : World} {po : Option Nat} {X : List Value} {acc : List Ts} (h : Elt base w po X acc) (t : Ts) (v : Value) (ho : w.ownsRow base 3 1 v t.path.length (iL t.path)) (hp : v.ownBlock = none ∨ v.ownBlock ≠ po) : Elt base w po (X ++ [v, .int .i64 t.kind, .int .i64 t.n]) (acc ++ [t]) := by
  have hl := h.len
  refine ⟨by simp; omega, fun i u hi => ?_⟩
  rw [List.getElem?_append] at hi
  split at hi
  · rename_i hlt
    obtain ⟨v', a, b, c, d, e⟩ := h.el i u hi
    exact ⟨v', by rw [List.getElem?_append_left (by omega)]; exact a, by rw [List.getElem?_append_left (by omega)]; exact b, by rw [List.getElem?_append_left (by omega)]; exact c, d, e⟩
  · have hie : i = acc.length := by
      by_cases e : i - acc.length = 0
      · omega
      · rw [List.getElem?_eq_none (by simp; omega)] at hi; cases hi
    subst hie
    simp only [Nat.sub_self, List.getElem?_cons_zero, Option.some.injEq] at hi
    subst hi
    refine ⟨v, ?_, ?_, ?_, ho, hp⟩
    · rw [List.getElem?_append_right (by omega), hl, Nat.sub_self]; rfl
    · rw [List.getElem?_append_right (by omega), hl, show acc.length * 3 + 1 - acc.length * 3 = 1 by omega]; rfl
    · rw [List.getElem?_append_right (by omega), hl, show acc.length * 3 + 2 - acc.length * 3 = 2 by omega]; rfl
/-- The rows that are there: the tests, and where one is. -/
structure GRow (base : Nat) (tb pb : Nat) (w : World) (acc : List Ts) (path : List Int) : Prop where
  rows : ∃ sv X pv, w.heap[tb]? = some (.cells #[sv] 39 (0, 0)) ∧ w.ownsRow base 28 3 sv acc.length X ∧ w.heap[pb]? = some (.cells #[pv] 26 (0, 0)) ∧ w.ownsRow base 3 1 pv path.length (iL path) ∧ Elt base w pv.ownBlock X acc
theorem GRow.nb {base tb pb : Nat} {w w' : World} {acc : List Ts} {path : List Int} (h : GRow base tb pb w acc path) (k : Nb w w') : GRow base tb pb w' acc path := by
  obtain ⟨sv, X, pv, a, b, c, d, e⟩ := h.rows
  exact ⟨sv, X, pv, k.block a, b.kept (nb_grown k) (none_or _), k.block c, d.kept (nb_grown k) (none_or _), e.kept (nb_grown k) (fun v _ _ _ _ => none_or v)⟩
/-- What stays: all that is no row of tests or of integers, but two boxes. -/
structure Kt (tb pb : Nat) (w w' : World) : Prop where
  size : w.heap.size ≤ w'.heap.size
  keep : ∀ i cs t fr, w.heap[i]? = some (.cells cs t fr) → t ≠ 28 → t ≠ 3 → i ≠ tb → i ≠ pb → w'.heap[i]? = some (.cells cs t fr)
  nb : ∀ W0 : World, Nb W0 w → W0.heap.size ≤ tb → W0.heap.size ≤ pb → (∀ g, g < W0.heap.size → True) → True
theorem Kt.refl (tb pb : Nat) (w : World) : Kt tb pb w w := ⟨Nat.le_refl _, fun _ _ _ _ h _ _ _ _ => h, fun _ _ _ _ _ => trivial⟩
theorem Kt.trans {tb pb : Nat} {a b c : World} (h : Kt tb pb a b) (k : Kt tb pb b c) : Kt tb pb a c := ⟨Nat.le_trans h.size k.size, fun i cs t fr hi ht hn hl hp => k.keep i cs t fr (h.keep i cs t fr hi ht hn hl hp) ht hn hl hp, fun _ _ _ _ _ => trivial⟩
theorem Kt.of_nb {tb pb : Nat} {a b : World} (h : Nb a b) : Kt tb pb a b := ⟨h.size, fun i cs t fr hi _ _ _ _ => h.block hi, fun _ _ _ _ _ => trivial⟩
theorem ask_any (W0 : World) (tb pb : Nat) (htb : W0.heap.size ≤ tb) (k n : Int) (acc : List Ts) (path : List Int) (ha : acc.length < 1000000) (hp : path.length ≤ 1000000) (w : World) (hn : Nb W0 w) (h : GRow W0.heap.size tb pb w acc path) :
    Calls Try.prog 54 #[.int .i64 k, .int .i64 n, .pointer (some ⟨tb, 0, none⟩), .pointer (some ⟨pb, 0, none⟩)] w fun r w' => r = .returned (.tuple #[]) ∧ Nb W0 w' ∧ GRow W0.heap.size tb pb w' (acc ++ [⟨path, k, n⟩]) path ∧ Kt tb pb w w' := by
  obtain ⟨i0, hi0, hz0, hz1, hz2⟩ := partsT
  obtain ⟨sv, X, pv, bT, oT, bP, oP, hE⟩ := h.rows
  have hBT := Lib.hid bT
  have hBP := Lib.hid bP
  have cT := Lib.hid (cell_of_row _ _ 0 _ _ _ bT)
  have cP := Lib.hid (cell_of_row _ _ 0 _ _ _ bP)
  have hOT := Lib.hid oT
  have hOP := Lib.hid oP
  have hEE := Lib.hid hE
  have hnh := Lib.hid hn
  clear bT oT bP oP hE h
  go_enter Try.func54, Try.ntmps54
  have hF : Nb w w.drew := drew1P (Nb.refl w)
  have hG : w.drew.heap[pb]? = some (.cells #[pv] 26 (0, 0)) := hF.block hBP.out
  have hneq : tb ≠ pb := fun e => by have := hBT.out; rw [e, hBP.out] at this; cases this
  refine wp_region_late [7, 8] (fun w' => Nb w w') (fun w' => w'.heap[pb]? = some (.cells #[pv] 26 (0, 0))) (by kernel_rfl) ⟨fun _ => hF, hG⟩ (fun _ => ?_)
  change wpAnyL _ _ _ _ _ _ _ 9 (List.toArray [false, false, false, false, false, false, false, false, false]) _ _
  refine takeF_l (i := 0) (v := sv) rfl (by kernel_rfl) (by kernel_rfl) (by kernel_rfl) (by kernel_rfl) (by kernel_rfl) (by rfl) (fun _ _ _ h => h) (.inl ⟨by rfl, by intro w' hw; have hc : w'.cell? ⟨tb, 0, none⟩ = some sv := hw.1.cell cT.out; go_simp⟩) ⟨fun _ => hF, hG⟩ ?_
  simp only [Act.put, List.setIfInBounds_toArray, List.set_cons_zero, List.set_cons_succ]
  refine takeG_l (i := 1) (v := pv) rfl (by kernel_rfl) (by kernel_rfl) (by kernel_rfl) (by rfl) (fun _ _ _ h => h) (.inl ⟨by rfl, by intro w' hw; have hc : w'.cell? ⟨pb, 0, none⟩ = some pv := cell_of_row _ _ 0 _ _ _ hw; go_simp⟩) ⟨fun _ => hF, hG⟩ ?_
  simp only [Act.put, List.setIfInBounds_toArray, List.set_cons_zero, List.set_cons_succ]
  refine takeG_l (i := 3) (v := .int .i64 k) rfl (by kernel_rfl) (by kernel_rfl) (by kernel_rfl) (by rfl) (fun _ _ _ h => h) (.inl ⟨by rfl, by intro w' hw; go_simp⟩) ⟨fun _ => hF, hG⟩ ?_
  simp only [Act.put, List.setIfInBounds_toArray, List.set_cons_zero, List.set_cons_succ]
  refine takeG_l (i := 4) (v := .int .i64 n) rfl (by kernel_rfl) (by kernel_rfl) (by kernel_rfl) (by rfl) (fun _ _ _ h => h) (.inl ⟨by rfl, by intro w' hw; go_simp⟩) ⟨fun _ => hF, hG⟩ ?_
  simp only [Act.put, List.setIfInBounds_toArray, List.set_cons_zero, List.set_cons_succ]
  generalize w.drew = Wd at hF hG ⊢
  refine onlyL_l (i := 2) (by kernel_rfl) rfl (by rfl) (fun K hK => ?_)
  go_simp
  refine (clone_any Wd.heap.size pv path Wd (own_intR (hOP.out.kept (nb_grown hF) (none_or _))) hp (Nat.le_refl _)).mono ?_
  rintro r w1 ⟨cv, rfl, n1, oC⟩
  obtain ⟨cB, cc, rfl⟩ := own_slice oC
  obtain ⟨pl, hpl⟩ : ∃ pl, path.length = pl := ⟨_, rfl⟩
  have oPd := hOP.out.kept (nb_grown hF) (none_or _)
  have hoff : (Value.slice cB path.length cc).ownBlock = none ∨ (Value.slice cB path.length cc).ownBlock ≠ pv.ownBlock := by
    cases hq : (Value.slice cB path.length cc).ownBlock with
    | none => exact .inl rfl
    | some g =>
      refine .inr fun e => ?_
      have h1 := (oC.lt g hq).1
      have h2 := (oPd.lt g e.symm).2
      omega
  replace oC := own_mono oC (hnh.out.trans hF).size
  replace hoff := Lib.hid hoff
  clear oPd
  rw [hpl] at oC hoff ⊢
  replace hpl := Lib.hid hpl
  replace hF := hF.trans n1
  replace hG := n1.block hG
  refine hK.out _ _ ⟨fun _ => hF, hG⟩ (fun _ => ?_)
  clear hK K
  simp only [Act.put, List.setIfInBounds_toArray, List.set_cons_zero, List.set_cons_succ]
  refine takeG_l (i := 5) (v := .agg #[.slice cB pl cc, .int .i64 k, .int .i64 n]) rfl (by kernel_rfl) (by kernel_rfl) (by kernel_rfl) (by rfl) (fun _ _ _ h => h) (.inl ⟨by rfl, by intro w' hw; go_simp⟩) ⟨fun _ => hF, hG⟩ ?_
  simp only [Act.put, List.setIfInBounds_toArray, List.set_cons_zero, List.set_cons_succ]
  refine onlyL_l (i := 6) (by kernel_rfl) rfl (by rfl) (fun K hK => ?_)
  go_simp
  refine hK.out _ _ ⟨fun _ => hF.alloc _, old_blk hG _⟩ (fun _ => ?_)
  clear hK K
  simp only [Act.put, List.setIfInBounds_toArray, List.set_cons_zero, List.set_cons_succ]
  have oC2 := oC.alloc (Obj.cells #[.slice cB pl cc, .int .i64 k, .int .i64 n] 28)
  have bN : (w1.alloc (Obj.cells #[.slice cB pl cc, .int .i64 k, .int .i64 n] 28)).heap[w1.heap.size]? = some (.cells #[.slice cB pl cc, .int .i64 k, .int .i64 n] 28 (0, 0)) := new_blk _ _ rfl
  replace hF := hF.alloc (Obj.cells #[.slice cB pl cc, .int .i64 k, .int .i64 n] 28)
  replace hG := old_blk hG (Obj.cells #[.slice cB pl cc, .int .i64 k, .int .i64 n] 28)
  generalize w1.alloc (Obj.cells #[.slice cB pl cc, .int .i64 k, .int .i64 n] 28) = w2 at hF hG oC2 bN ⊢
  refine onlyL_l (i := 7) (by kernel_rfl) rfl (by rfl) (fun K hK => ?_)
  refine wp_append_own w2 (.tmp 6) (.tmp 12) 39 rfl W0.heap.size 28 i0 _ 3 40 Try.underlying39 hi0 hz0 hz1 hz2 rfl (by decide) sv acc.length X rfl (hOT.out.kept (nb_grown hF) (none_or _)) ⟨w1.heap.size, 0, none⟩ 1 1 [.slice cB pl cc, .int .i64 k, .int .i64 n] rfl rfl ?c1 ?c2 ?c3 ?c4 ?c5 ?_
  case c1 => exact fun j u hu => by rw [Addr.add_mid, Nat.zero_add, cell_of_row _ _ _ _ _ _ bN]; simpa using hu
  case c2 => intro u hu; simp only [List.mem_cons, List.not_mem_nil, or_false] at hu; rcases hu with rfl | rfl | rfl <;> rfl
  case c3 => unfold maxLen; omega
  case c4 => omega
  case c5 => have := (hnh.out.trans hF).size; omega
  intro v3 w3 o3 g3 _
  have oT2 := hOT.out.kept (nb_grown hF) (none_or _)
  have hT2 := hF.block hBT.out
  have hT3 := grown_blk g3 hT2 (row_ne oT2 hT2 (by decide))
  have hP3 := grown_blk g3 hG (row_ne oT2 hG (by decide))
  refine hK.out _ _ ⟨fun h => absurd (h 7 (by decide)) (by decide), hP3⟩ (fun _ => ?_)
  clear hK K
  simp only [Act.put, List.setIfInBounds_toArray, List.set_cons_zero, List.set_cons_succ]
  obtain ⟨B3, c3, rfl⟩ := own_slice o3
  obtain ⟨al, hal⟩ : ∃ al, acc.length + 1 = al := ⟨_, rfl⟩
  rw [hal] at o3 ⊢
  replace hal := Lib.hid hal
  refine onlyL_l (i := 8) (by kernel_rfl) rfl (by rfl) (fun K hK => ?_)
  have hc3 : w3.cell? ⟨tb, 0, none⟩ = some sv := cell_of_row _ _ 0 _ _ _ hT3
  have hf3 : w3.frozen? ⟨tb, 0, none⟩ = false := frozen_blk hT3 0
  have hP4 : (w3.setCell ⟨tb, 0, none⟩ (.slice B3 al c3)).heap[pb]? = some (.cells #[pv] 26 (0, 0)) := (heap_setCell_other _ _ _ _ (by simpa using Ne.symm hneq)).trans hP3
  go_simp
  refine hK.out _ _ ⟨fun h => absurd (h 7 (by decide)) (by decide), hP4⟩ (fun _ => ?_)
  clear hK K hc3 hf3
  simp only [Act.put, List.setIfInBounds_toArray, List.set_cons_zero, List.set_cons_succ]
  refine doneL (by kernel_rfl) ?_ _
  have hfin : Hid (Nb W0 (w3.setCell ⟨tb, 0, none⟩ (.slice B3 al c3)) ∧ GRow W0.heap.size tb pb (w3.setCell ⟨tb, 0, none⟩ (.slice B3 al c3)) (acc ++ [⟨path, k, n⟩]) path ∧ Kt tb pb w (w3.setCell ⟨tb, 0, none⟩ (.slice B3 al c3))) := by
    refine Lib.hid ⟨?_, ⟨.slice B3 al c3, X ++ [.slice cB pl cc, .int .i64 k, .int .i64 n], pv, ?_, ?_, ?_, ?_, ?_⟩, ?_⟩
    · exact (Below.grown (hnh.out.trans hF) g3 (hnh.out.trans hF).size (fun k hk => (oT2.lt k hk).1)).setCell (p := ⟨tb, 0, none⟩) htb _
    · exact heap_setCell_same _ _ _ _ _ _ hT3
    · rw [List.length_append, List.length_singleton, hal.out]
      exact o3.kept (set_grown _ _ _) (own_box o3 hT3 (by decide))
    · exact hP4
    · have q := (hOP.out.kept (nb_grown hF) (none_or _)).kept g3 (own_ne (hOP.out.kept (nb_grown hF) (none_or _)) oT2 (by decide))
      exact q.kept (set_grown _ _ _) (own_box q hT3 (by decide))
    · have e1 : Elt W0.heap.size w2 pv.ownBlock X acc := hEE.out.kept (nb_grown hF) (fun v _ _ _ _ => none_or v)
      have e2 := e1.snoc ⟨path, k, n⟩ (.slice cB pl cc) (by show w2.ownsRow _ _ _ _ path.length _; rw [hpl.out]; exact oC2) ?_
      · have e3 := e2.kept g3 (fun v _ _ h _ => own_ne h oT2 (by decide))
        have hb3 : ∀ v n xs, w3.ownsRow W0.heap.size 3 1 v n xs → (v.ownBlock = none ∨ v.ownBlock ≠ pv.ownBlock) → v.ownBlock = none ∨ v.ownBlock ≠ some tb := fun v n xs h _ => own_box h hT3 (by decide)
        exact e3.kept (set_grown _ _ _) hb3
      · exact hoff.out
    · refine ⟨?_, fun i cs t fr hi ht hn' hl hp' => ?_, fun _ _ _ _ _ => trivial⟩
      · have := hF.size; have := g3.size; simp; omega
      · rw [heap_setCell_other _ _ _ _ (by simpa using hl)]
        exact grown_blk g3 (hF.block hi) (row_ne oT2 (hF.block hi) ht)
  clear oC oC2 bN hF hG o3 g3 oT2 hT2 hT3 hP3 n1
  go_wp2_with fail
  go_end0
  exact ⟨rfl, hfin.out⟩
end Go.Proofs.Ytchcfjlkgnlnoaa
