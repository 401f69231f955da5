/-
  Proved here: what Decode's counting is; its boxes. Conditions: none.
-/
import Derived.Test.YtmoggaecnjcjfaaXb
import Derived.Laws.EntriesVeiled
namespace Go.Proofs.Ytmoggaecnjcjfaa
open Go.RowKit Go.ChangeMaps
set_option linter.unusedVariables false
set_option linter.unusedSimpArgs false
set_option maxRecDepth 100000
set_option maxHeartbeats 4000000
theorem decL_met {f : Int → Nat → Nat × Rs} (hf : ∀ w m m' p, m ≤ 4096 → f w m = (m', .good p) → m' ≤ 4096) : ∀ (ps : List Int) (m : Nat) (acc : List Pv) (m' : Nat) (p : Pv), m ≤ 4096 → decL f ps m acc = (m', .good p) → m' ≤ 4096
  | [], m, acc, m', p, h, e => by simp only [decL, Prod.mk.injEq] at e; omega
  | q :: r, m, acc, m', p, h, e => by
    rw [decL] at e
    split at e
    · simp at e
    · rename_i m1 x hx
      exact decL_met hf r m1 _ m' p (hf q m m1 x h hx) e
theorem decV_met (xs : List Int) (bs : Int) : ∀ (k : Nat) (w : Int) (m m' : Nat) (p : Pv), m ≤ 4096 → decV xs bs k w m = (m', .good p) → m' ≤ 4096
  | 0, w, m, m', p, h, e => by
    unfold decV at e
    split at e
    · simp at e
    · split at e
      · simp only [Prod.mk.injEq] at e; omega
      · simp at e
  | k + 1, w, m, m', p, h, e => by
    unfold decV at e
    split at e
    · simp at e
    · split at e
      · simp only [Prod.mk.injEq] at e; omega
      · split at e
        · simp at e
        · exact decL_met (fun w m m' p => decV_met xs bs k w m m' p) _ _ _ m' p (by omega) e
/-- The boxes of what decodes. -/
structure DcAt (W0 : World) (mt wb bb rb : Nat) (sv : Value) (bs : Int) (w : World) (met : Nat) : Prop where
  nb : Nb W0 w
  mbox : w.heap[mt]? = some (.cells #[.int .i64 (met : Int)] 3 (0, 0))
  wbox : w.heap[wb]? = some (.cells #[sv] 31 (0, 0))
  bbox : w.heap[bb]? = some (.cells #[.int .u64 bs] 32 (0, 0))
  rbox : w.heap[rb]? = some (.cells #[.func (.func 38) #[] #[.pointer (some ⟨mt, 0, none⟩), .pointer (some ⟨wb, 0, none⟩), .pointer (some ⟨bb, 0, none⟩), .pointer (some ⟨rb, 0, none⟩)]] 60 (0, 0))
  hm : W0.heap.size ≤ mt
theorem DcAt.gb {W0 w w' : World} {mt wb bb rb : Nat} {sv : Value} {bs : Int} {met met' : Nat} (h : DcAt W0 mt wb bb rb sv bs w met) (g : Gb mt w w') (hm : w'.heap[mt]? = some (.cells #[.int .i64 (met' : Int)] 3 (0, 0))) : DcAt W0 mt wb bb rb sv bs w' met' := by
  refine ⟨g.nb h.nb h.hm, hm, g.block h.wbox ?_, g.block h.bbox ?_, g.block h.rbox ?_, h.hm⟩
  · intro e; subst e; have := h.wbox; rw [h.mbox] at this; cases this
  · intro e; subst e; have := h.bbox; rw [h.mbox] at this; cases this
  · intro e; subst e; have := h.rbox; rw [h.mbox] at this; cases this
theorem DcAt.go {W0 w w' : World} {mt wb bb rb : Nat} {sv : Value} {bs : Int} {met : Nat} (h : DcAt W0 mt wb bb rb sv bs w met) (k : Nb w w') : DcAt W0 mt wb bb rb sv bs w' met := h.gb (Gb.of_nb k) (k.block h.mbox)
/-- What has come of a word: how many were met, and an error, or a value in memory. -/
def DAns (left : Nat) (R : Nat × Rs) (mt : Nat) (w : World) (r : Ending) (w' : World) : Prop :=
  Gb mt w w' ∧ w'.heap[mt]? = some (.cells #[.int .i64 (R.1 : Int)] 3 (0, 0)) ∧ match R.2 with
    | .bad e => e ≠ 0 ∧ r = .returned (.tuple #[.agg #[.int .i64 0, .int .i64 0, .slice none 0 0], .int .i64 e])
    | .good p => ∃ v : Vl, r = .returned (.tuple #[.agg v.cells.toArray, .int .i64 0]) ∧ v.sh = p ∧ v.Has w' ∧ v.Frv w.heap.size w' ∧ v.may = true ∧ v.dp ≤ left
/-- The first parts of a tuple's row. -/
def Firsts (X : List Value) (acc : List Vl) : Prop := ∀ (i : Nat) (x : Vl), acc[i]? = some x → ∀ j u, x.cells[j]? = some u → X[i * 3 + j]? = some u
theorem Firsts.snoc {X : List Value} {acc : List Vl} {x : Vl} (h : Firsts X acc) (hl : acc.length * 3 + 3 ≤ X.length) (a b c : Value) (hc : x.cells = [a, b, c]) : Firsts (((X.set (acc.length * 3) a).set (acc.length * 3 + 1) b).set (acc.length * 3 + 2) c) (acc ++ [x]) := by
  intro i y hy j u hu
  rw [List.getElem?_append] at hy
  split at hy
  · rename_i hi
    have h1 := h i y hy j u hu
    have hj : j < 3 := by have := (List.getElem?_eq_some_iff.1 hu).1; simpa [Vl.cells] using this
    rw [List.getElem?_set, List.getElem?_set, List.getElem?_set, if_neg (by omega), if_neg (by omega), if_neg (by omega)]
    exact h1
  · rename_i hi
    have hie : i = acc.length := by
      by_cases e : i - acc.length = 0
      · omega
      · rw [List.getElem?_eq_none (by simp; omega)] at hy; cases hy
    subst hie
    simp only [Nat.sub_self, List.getElem?_cons_zero, Option.some.injEq] at hy
    subst hy
    rw [hc] at hu
    match j, hu with
    | 0, hu =>
      simp only [List.getElem?_cons_zero, Option.some.injEq] at hu
      subst hu
      rw [List.getElem?_set, if_neg (by omega), List.getElem?_set, if_neg (by omega), List.getElem?_set, if_pos (by omega), if_pos (by omega)]
    | 1, hu =>
      simp only [List.getElem?_cons_succ, List.getElem?_cons_zero, Option.some.injEq] at hu
      subst hu
      rw [List.getElem?_set, if_neg (by omega), List.getElem?_set, if_pos (by omega), if_pos (by simp; omega)]
    | 2, hu =>
      simp only [List.getElem?_cons_succ, List.getElem?_cons_zero, Option.some.injEq] at hu
      subst hu
      rw [List.getElem?_set, if_pos (by omega), if_pos (by simp; omega)]
    | j + 3, hu => simp at hu
/-- A tuple whose parts a row has. -/
theorem tuple_has {w : World} {base g L : Nat} {X : List Value} {acc : List Vl} (ho : w.ownsRow base 24 3 (.slice (some ⟨g, 0, none⟩) L L) L X) (hl : acc.length = L) (hf : Firsts X acc) (hk : ∀ x ∈ acc, x.Has w ∧ x.Frv (g + 1) w) (hL : L ≤ 1000) :
    (Vl.mk 4 0 (.slice (some ⟨g, 0, none⟩) L L) acc).Has w ∧ (Vl.mk 4 0 (.slice (some ⟨g, 0, none⟩) L L) acc).Frv g w := by
  refine ⟨.mk ⟨some ⟨g, 0, none⟩, L, by simp [Vl.av, Vl.args, hl], by simp [Vl.args, hl], by simp [Vl.args, hl]; omega, (fun h => by cases h), ?_⟩ (fun x hx => (hk x hx).1) (by simp [Vl.n]), .mk ?_ (fun x hx => (hk x hx).2.mono (by omega))⟩
  · intro i r hi
    refine ⟨g, 0, rfl, fun j u hu => ?_⟩
    rw [List.getElem?_map, Option.map_eq_some_iff] at hi
    obtain ⟨x, hx, rfl⟩ := hi
    replace hx : acc[i]? = some x := hx
    have hj : j < 3 := by have := (List.getElem?_eq_some_iff.1 hu).1; simpa [Vl.cells] using this
    have hil := (List.getElem?_eq_some_iff.1 hx).1
    rw [show 0 + i * 3 + j = i * 3 + j by omega, ho.cellAt (i * 3 + j) (by omega)]
    exact hf i x hx j u hu
  · intro b o L' c he
    simp only [Vl.av, Value.slice.injEq, Option.some.injEq, Addr.mk.injEq] at he
    obtain ⟨⟨rfl, -⟩, -⟩ := he
    rcases ho.2 with ⟨h0, -⟩ | ⟨g', cap, cur, h0, _, hg, _⟩
    · cases h0
    · simp only [Value.slice.injEq, Option.some.injEq, Addr.mk.injEq, and_true, true_and] at h0
      obtain ⟨rfl, -⟩ := h0
      exact ⟨Nat.le_refl _, cur, hg⟩
/-- A round of the loop over a tuple's words: so many parts are there. -/
structure DL (W0 : World) (mt wb bb rb : Nat) (sv : Value) (bs : Int) (k : Nat) (xs ps : List Int) (R : Nat × Rs) (w : World) (B0 S V g L : Nat) (i : Nat) (acc : List Vl) (m : Nat) (X : List Value) (wr : World) : Prop where
  dc : DcAt W0 mt wb bb rb sv bs wr m
  hm : m ≤ 4096
  step : decL (decV xs bs k) (ps.drop i) m (acc.map Vl.sh) = R
  len : acc.length = i
  own : wr.ownsRow B0 24 3 (.slice (some ⟨g, 0, none⟩) L L) L X
  fst : Firsts X acc
  kid : ∀ x ∈ acc, (x.Has wr ∧ x.Frv (g + 1) wr) ∧ x.may = true ∧ x.dp ≤ k
  gb : Gb mt w wr
  bS : wr.heap[S]? = some (.cells #[.int .i64 0, .int .i64 0, .slice none 0 0] 24 (0, 0))
  bV : wr.heap[V]? = some (.cells #[.int .i64 4, .int .i64 0, .slice (some ⟨g, 0, none⟩) L L] 24 (0, 0))
theorem leaf_may (w : Int) (h0 : 0 ≤ w) (h1 : w < 18446744073709551616) (left : Nat) (p : Pv) (h : leafR w = .good p) : ∃ k n, p = .mk k n [] ∧ mayHd k n 0 = true ∧ k ≠ 4 ∧ -9223372036854775808 ≤ n ∧ n < 9223372036854775808 := by
  unfold leafR at h
  split at h
  · simp only [Rs.good.injEq] at h
    refine ⟨1, _, h.symm, ?_, by decide, ?_⟩
    · unfold mayHd wrap64
      simp
      omega
    · unfold wrap64; omega
  · split at h
    · cases h
    · rename_i h2
      simp only [Rs.good.injEq] at h
      refine ⟨_, _, h.symm, ?_, by split <;> decide, by omega⟩
      have e : mayHd (if w % 4 = 3 then 3 else 2) (w / 4) 0 = true := by
        split <;> (unfold mayHd; simp; omega)
      exact e
theorem DcAt.put {W0 w : World} {mt wb bb rb : Nat} {sv : Value} {bs : Int} {met : Nat} (h : DcAt W0 mt wb bb rb sv bs w met) {g : Nat} (hmg : mt < g) {cs : Array Value} {fr : Nat × Nat} (hg : w.heap[g]? = some (.cells cs 24 fr)) (j : Nat) (u : Value) : DcAt W0 mt wb bb rb sv bs (w.setCell ⟨g, j, none⟩ u) met := by
  have ne : ∀ {i : Nat} {c : Array Value} {t : TypeId} {f : Nat × Nat}, w.heap[i]? = some (.cells c t f) → t ≠ 24 → i ≠ g := fun hi ht e => by
    subst e
    rw [hi] at hg
    simp only [Option.some.injEq, Obj.cells.injEq] at hg
    exact ht hg.2.1
  have hm := h.hm
  exact ⟨h.nb.setCell (p := ⟨g, j, none⟩) (by show W0.heap.size ≤ g; omega) _,
    by rw [heap_setCell_other _ _ _ _ (by simpa using ne h.mbox (by decide))]; exact h.mbox,
    by rw [heap_setCell_other _ _ _ _ (by simpa using ne h.wbox (by decide))]; exact h.wbox,
    by rw [heap_setCell_other _ _ _ _ (by simpa using ne h.bbox (by decide))]; exact h.bbox,
    by rw [heap_setCell_other _ _ _ _ (by simpa using ne h.rbox (by decide))]; exact h.rbox, h.hm⟩
theorem own_blk {w : World} {base g L : Nat} {X : List Value} (ho : w.ownsRow base 24 3 (.slice (some ⟨g, 0, none⟩) L L) L X) : ∃ cs, w.heap[g]? = some (.cells cs 24 (0, 0)) := by
  rcases ho.2 with ⟨h0, -⟩ | ⟨g', cap, cur, h0, _, hg, _⟩
  · cases h0
  · simp only [Value.slice.injEq, Option.some.injEq, Addr.mk.injEq, and_true, true_and] at h0
    obtain ⟨rfl, -⟩ := h0
    exact ⟨cur, hg⟩
theorem own_gb {mt : Nat} {w w' : World} {base g L : Nat} {X : List Value} (ho : w.ownsRow base 24 3 (.slice (some ⟨g, 0, none⟩) L L) L X) (h : Gb mt w w') (hmg : mt < g) : w'.ownsRow base 24 3 (.slice (some ⟨g, 0, none⟩) L L) L X :=
  ho.kept (row := some mt) ⟨h.os, h.tape, h.output, h.size, fun k hk hne => by
    obtain ⟨o, ho⟩ : ∃ o, w.heap[k]? = some o := ⟨_, Array.getElem?_eq_getElem hk⟩
    rw [h.block ho (fun e => hne (by rw [e])), ho]⟩ (.inr (by simp only [Value.ownBlock, ne_eq, Option.some.injEq]; omega))
theorem DL.next {W0 : World} {mt wb bb rb : Nat} {sv : Value} {bs : Int} {k : Nat} {xs ps : List Int} {R : Nat × Rs} {w : World} {B0 S V g L i : Nat} {acc : List Vl} {m : Nat} {X : List Value} {wr : World} (h : DL W0 mt wb bb rb sv bs k xs ps R w B0 S V g L i acc m X wr) (hi : i < L) {m2 : Nat} (hm2 : m2 ≤ 4096) {v : Vl}
    (hstep : decL (decV xs bs k) (ps.drop (i + 1)) m2 (acc.map Vl.sh ++ [v.sh]) = R) {w8 : World} (g8 : Gb mt wr w8) (bM : w8.heap[mt]? = some (.cells #[.int .i64 (m2 : Int)] 3 (0, 0))) (h1 : v.Has w8) (h2 : v.Frv (g + 1) w8) (hmay : v.may = true) (hdp : v.dp ≤ k)
    (hgm : mt < g) (hgS : S < g) (hgV : g < V) (hgw : w.heap.size ≤ g) (hmS : mt ≠ S) (a b c : Value) (hc : v.cells = [a, b, c]) :
    DL W0 mt wb bb rb sv bs k xs ps R w B0 S V g L (i + 1) (acc ++ [v]) m2 (((X.set (i * 3) a).set (i * 3 + 1) b).set (i * 3 + 2) c) (((w8.setCell ⟨g, i * 3, none⟩ a).setCell ⟨g, i * 3 + 1, none⟩ b).setCell ⟨g, i * 3 + 2, none⟩ c) := by
  have own8 := own_gb h.own g8 hgm
  have o1 := (own8.stored (i * 3) a).1
  have o2 := (o1.stored (i * 3 + 1) b).1
  have o3 := (o2.stored (i * 3 + 2) c).1
  obtain ⟨c0, k0⟩ := own_blk own8
  obtain ⟨c1, k1⟩ := own_blk o1
  obtain ⟨c2, k2⟩ := own_blk o2
  have hlen := h.len
  have ks : ∀ x : Vl, x.Has w8 → x.Frv (g + 1) w8 → x.Has (((w8.setCell ⟨g, i * 3, none⟩ a).setCell ⟨g, i * 3 + 1, none⟩ b).setCell ⟨g, i * 3 + 2, none⟩ c) ∧ x.Frv (g + 1) (((w8.setCell ⟨g, i * 3, none⟩ a).setCell ⟨g, i * 3 + 1, none⟩ b).setCell ⟨g, i * 3 + 2, none⟩ c) := fun x p q => by
    obtain ⟨p, q⟩ := keeps_set ⟨g, i * 3, none⟩ (Nat.lt_succ_self g) a p q
    obtain ⟨p, q⟩ := keeps_set ⟨g, i * 3 + 1, none⟩ (Nat.lt_succ_self g) b p q
    exact keeps_set ⟨g, i * 3 + 2, none⟩ (Nat.lt_succ_self g) c p q
  refine ⟨(((h.dc.gb g8 bM).put hgm k0 _ _).put hgm k1 _ _).put hgm k2 _ _, hm2, by rw [List.map_append]; exact hstep, by rw [List.length_append, hlen]; rfl, o3, ?_, ?_, (((h.gb.trans g8).far hgw _ _).far hgw _ _).far hgw _ _, ?_, ?_⟩
  · have hx := h.own.1
    have := h.fst.snoc (x := v) (by rw [hlen, hx]; omega) a b c hc
    rw [hlen] at this
    exact this
  · intro x hx
    rw [List.mem_append] at hx
    rcases hx with hx | hx
    · obtain ⟨⟨p, q⟩, r, s⟩ := h.kid x hx
      obtain ⟨p, q⟩ := keeps_gb h.dc.mbox (by decide) g8 x p q
      exact ⟨ks x p q, r, s⟩
    · obtain rfl := List.mem_singleton.1 hx
      exact ⟨ks _ h1 h2, hmay, hdp⟩
  · have hb := g8.block h.bS (Ne.symm hmS)
    rw [heap_setCell_other _ _ _ _ (by show S ≠ g; omega), heap_setCell_other _ _ _ _ (by show S ≠ g; omega), heap_setCell_other _ _ _ _ (by show S ≠ g; omega)]
    exact hb
  · have hb := g8.block h.bV (by omega)
    rw [heap_setCell_other _ _ _ _ (by show V ≠ g; omega), heap_setCell_other _ _ _ _ (by show V ≠ g; omega), heap_setCell_other _ _ _ _ (by show V ≠ g; omega)]
    exact hb
theorem DL.done {W0 : World} {mt wb bb rb : Nat} {sv : Value} {bs : Int} {k : Nat} {xs ps : List Int} {R : Nat × Rs} {w : World} {B0 S V g L : Nat} {acc : List Vl} {m : Nat} {X : List Value} {wr : World} (h : DL W0 mt wb bb rb sv bs k xs ps R w B0 S V g L L acc m X wr) (hp : ps.length = L) (hL1 : 1 ≤ L) (hL4 : L ≤ 4) (hSw : w.heap.size ≤ S) (hmS : mt ≠ S) (hgS : S < g) (hgw : w.heap.size ≤ g) {r : Ending}
    (hr : r = .returned (.tuple #[.agg #[.int .i64 4, .int .i64 0, .slice (some ⟨g, 0, none⟩) L L], .int .i64 0])) (x y z : Value) :
    DAns (k + 1) R mt w r (((wr.setCell ⟨S, 0, none⟩ x).setCell ⟨S, 1, none⟩ y).setCell ⟨S, 2, none⟩ z) := by
  have hs := h.step
  rw [List.drop_of_length_le (by omega), decL] at hs
  subst hs
  have hlen := h.len
  obtain ⟨p, q⟩ := tuple_has h.own hlen h.fst (fun x hx => (h.kid x hx).1) (by omega)
  refine ⟨((h.gb.far hSw _ _).far hSw _ _).far hSw _ _, by rw [heap_setCell_other _ _ _ _ hmS, heap_setCell_other _ _ _ _ hmS, heap_setCell_other _ _ _ _ hmS]; exact h.dc.mbox, .mk 4 0 (.slice (some ⟨g, 0, none⟩) L L) acc, hr, by rw [Vl.sh_eq]; rfl, ?_, ?_, ?_, ?_⟩
  · obtain ⟨p, q⟩ := keeps_set ⟨S, 0, none⟩ hgS x p q
    obtain ⟨p, q⟩ := keeps_set ⟨S, 1, none⟩ hgS y p q
    exact (keeps_set ⟨S, 2, none⟩ hgS z p q).1
  · obtain ⟨p, q⟩ := keeps_set ⟨S, 0, none⟩ hgS x p q
    obtain ⟨p, q⟩ := keeps_set ⟨S, 1, none⟩ hgS y p q
    exact (keeps_set ⟨S, 2, none⟩ hgS z p q).2.mono hgw
  · rw [Vl.may_eq]
    have : (acc.all fun x => x.may) = true := List.all_eq_true.2 (fun x hx => (h.kid x hx).2.1)
    simp [Vl.kind, Vl.n, Vl.args, this, hlen]
    unfold mayHd
    simp
    omega
  · rw [Vl.dp_tup rfl]
    have := (maxL_le' (l := acc.map Vl.dp) (k := k)).2 (fun d hd => by
      obtain ⟨x, hx, rfl⟩ := List.mem_map.1 hd
      exact (h.kid x hx).2.2)
    show 1 + maxL (acc.map Vl.dp) ≤ k + 1
    omega
end Go.Proofs.Ytmoggaecnjcjfaa
