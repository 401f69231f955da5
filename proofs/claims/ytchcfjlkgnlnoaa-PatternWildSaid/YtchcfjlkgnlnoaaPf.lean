/-
  Proved here: a pattern's tests, the code's. Conditions: the memory holds the pattern and the names; there are fewer than a million tests, and levels.
-/
import Derived.Test.YtchcfjlkgnlnoaaPe
namespace Go.Proofs.Ytchcfjlkgnlnoaa
open Go.RowKit Go.ChangeMaps
set_option linter.unusedVariables false
set_option linter.unusedSimpArgs false
set_option maxRecDepth 100000
set_option maxHeartbeats 4000000
/-- A slice of tests, where they lie. -/
structure TsR (w : World) (v : Value) (ts : List Ts) : Prop where
  row : ∃ B, v = .slice B ts.length ts.length ∧ ts.length ≤ 1000000 ∧ ∀ i t, ts[i]? = some t → ∃ g pv, B = some ⟨g, 0, none⟩ ∧ w.cell? ⟨g, i * 3, none⟩ = some pv ∧ w.cell? ⟨g, i * 3 + 1, none⟩ = some (.int .i64 t.kind) ∧ w.cell? ⟨g, i * 3 + 2, none⟩ = some (.int .i64 t.n) ∧ IntR w pv t.path
theorem TsR.nb {w w' : World} {v : Value} {ts : List Ts} (h : TsR w v ts) (k : Nb w w') : TsR w' v ts := by
  obtain ⟨B, e, hl, hr⟩ := h.row
  exact ⟨B, e, hl, fun i t hi => by
    obtain ⟨g, pv, a, b, c, d, p⟩ := hr i t hi
    exact ⟨g, pv, a, k.cell b, k.cell c, k.cell d, p.nb k⟩⟩
theorem TsR.of_row {base : Nat} {w : World} {po : Option Nat} {B : Option Addr} {c : Nat} {X : List Value} {ts : List Ts} (h : w.ownsRow base 28 3 (.slice B ts.length c) ts.length X) (e : Elt base w po X ts) (hl : ts.length ≤ 1000000) : TsR w (.slice B ts.length ts.length) ts := by
  refine ⟨B, rfl, hl, fun i t hi => ?_⟩
  obtain ⟨pv, a, b, c', d, -⟩ := e.el i t hi
  have hlt := (List.getElem?_eq_some_iff.1 hi).1
  obtain ⟨g, c2, he, -⟩ := own_some h (by omega)
  simp only [Value.slice.injEq] at he
  obtain ⟨rfl, -, rfl⟩ := he
  have hx := e.len
  exact ⟨g, pv, rfl, by rw [h.cellAt _ (by omega)]; exact a, by rw [h.cellAt _ (by omega)]; exact b, by rw [h.cellAt _ (by omega)]; exact c', own_intR d⟩
theorem alloc_sz (w : World) (o : Obj) : (w.alloc o).heap.size = w.heap.size + 1 := Array.size_push ..
theorem al6 (w : World) (o0 o1 o2 o3 o4 o5 : Obj) (p : Nat) (hp : w.heap.size = p) : ∃ W, (((((w.alloc o0).alloc o1).alloc o2).alloc o3).alloc o4).alloc o5 = W ∧ Nb w W ∧ W.heap[p]? = some o0 ∧ W.heap[p + 1]? = some o1 ∧ W.heap[p + 1 + 1]? = some o2 ∧ W.heap[p + 1 + 1 + 1]? = some o3 ∧ W.heap[p + 1 + 1 + 1 + 1]? = some o4 ∧ W.heap[p + 1 + 1 + 1 + 1 + 1]? = some o5 := by
  subst hp
  refine ⟨_, rfl, ((((((Nb.refl w).alloc _).alloc _).alloc _).alloc _).alloc _).alloc _, ?_, ?_, ?_, ?_, ?_, ?_⟩
  · exact old_blk (old_blk (old_blk (old_blk (old_blk (new_blk _ _ rfl) _) _) _) _) _
  · exact old_blk (old_blk (old_blk (old_blk (new_blk _ _ (by simp)) _) _) _) _
  · exact old_blk (old_blk (old_blk (new_blk _ _ (by simp)) _) _) _
  · exact old_blk (old_blk (new_blk _ _ (by simp)) _) _
  · exact old_blk (new_blk _ _ (by simp)) _
  · exact new_blk _ _ (by simp)
theorem testsOf_any (e : Ex) (mb : Nat) (f : Bs → Option Int) (pl : Bs → Int) (hpl : ∀ s, pl s = (f s).getD (-1)) (w : World) (he : e.Has w) (hm : SMap w mb f) (hn : (e.tsP pl []).length ≤ 1000000) (hd : e.dpt ≤ 1000000) :
    Calls Try.prog 42 #[.agg e.cells.toArray, .map (some mb)] w fun r w' => ∃ v, r = .returned v ∧ Nb w w' ∧ TsR w' v (e.tsP pl []) := by
  obtain ⟨A, cap, hav, hcap, hlen, hA⟩ := he.exs.head
  have hcs : e.cells.toArray = #[.int .i64 e.kind, .int .i64 e.at_, .int .i64 e.n, sV e.name, .slice A e.args.length cap] := by rw [← hav]; rfl
  have hgat := fun tb pb ab lb gb h1 h2 W' h => gather_any w tb pb ab lb gb mb f h1 h2 hm pl hpl e he [] [] (by simpa using hn) (by simpa using hd) W' h
  rw [hcs] at hgat ⊢
  clear hcs hm
  obtain ⟨L, hL⟩ : ∃ L, e.args.length = L := ⟨_, rfl⟩
  rw [hL] at hgat ⊢
  obtain ⟨k, hk⟩ : ∃ k, e.kind = k := ⟨_, rfl⟩
  obtain ⟨n, hn'⟩ : ∃ k, e.n = k := ⟨_, rfl⟩
  obtain ⟨at_, hat⟩ : ∃ k, e.at_ = k := ⟨_, rfl⟩
  obtain ⟨nm, hnm⟩ : ∃ k, e.name = k := ⟨_, rfl⟩
  rw [hk, hn', hat, hnm] at hgat ⊢
  obtain ⟨TT, hTT⟩ : ∃ TT, e.tsP pl [] = TT := ⟨_, rfl⟩
  rw [hTT] at hgat hn ⊢
  replace hgat := Lib.hid hgat
  clear hTT hk hn' hat hnm hL hlen hcap hav hA hpl hd he
  go_enter Try.func42, Try.ntmps42
  go_upto_region 6 with (fail)
  obtain ⟨p, hp⟩ : ∃ p, w.heap.size = p := ⟨_, rfl⟩
  rw [hp]
  obtain ⟨O5, hO5⟩ : ∃ o : Obj, Obj.cells #[askV (p + 1 + 1) (p + 1 + 1 + 1)] 116 = o := ⟨_, rfl⟩
  rw [hO5]
  obtain ⟨O6, hO6⟩ : ∃ o : Obj, Obj.cells #[gthV (p + 1 + 1 + 1 + 1) (p + 1) (p + 1 + 1 + 1) (p + 1 + 1 + 1 + 1 + 1)] 85 = o := ⟨_, rfl⟩
  rw [hO6]
  obtain ⟨W1, hW1, n1, b0, b1, b2, b3, b4, b5⟩ := al6 w (Obj.cells #[.int .i64 k, .int .i64 at_, .int .i64 n, sV nm, .slice A L cap] 24) (Obj.cells #[.map (some mb)] 98) (Obj.cells #[.slice none 0 0] 39) (Obj.cells #[.slice none 0 0] 26) O5 O6 p hp
  rw [hW1]
  clear hW1
  subst hO5 hO6
  obtain ⟨gb, hgb⟩ : ∃ b, p + 1 + 1 + 1 + 1 + 1 = b := ⟨_, rfl⟩
  rw [hgb] at b5 ⊢
  obtain ⟨ab, hab⟩ : ∃ b, p + 1 + 1 + 1 + 1 = b := ⟨_, rfl⟩
  rw [hab] at b4 b5 ⊢
  obtain ⟨pb, hpb⟩ : ∃ b, p + 1 + 1 + 1 = b := ⟨_, rfl⟩
  rw [hpb] at b3 b4 b5 ⊢
  obtain ⟨tb, htb⟩ : ∃ b, p + 1 + 1 = b := ⟨_, rfl⟩
  rw [htb] at b2 b4 ⊢
  obtain ⟨lb, hlb⟩ : ∃ b, p + 1 = b := ⟨_, rfl⟩
  rw [hlb] at b1 b5 ⊢
  have hG : Gth w tb pb ab lb gb mb W1 [] [] := ⟨n1, ⟨.slice none 0 0, [], .slice none 0 0, b2, World.ownsRow_nil _ _ _ _, b3, World.ownsRow_nil _ _ _ _, ⟨rfl, fun i t hi => by simp at hi⟩⟩, b4, b1, b5⟩
  have hcall := Lib.hid (hgat.out tb pb ab lb gb (by omega) (by omega) W1 hG)
  have qg := cell_of_row _ _ 0 _ _ _ hG.gbox
  have z0 := cell_of_row _ _ 0 _ _ _ b0
  have z1 := cell_of_row _ _ 1 _ _ _ b0
  have z2 := cell_of_row _ _ 2 _ _ _ b0
  have z3 := cell_of_row _ _ 3 _ _ _ b0
  have z4 := cell_of_row _ _ 4 _ _ _ b0
  clear b0 b1 b2 b3 b4 b5 hG hgat hgb hab hpb htb hlb n1
  go_upto_region 7 with (go_at_call 55; refine (hcall.out).mono ?_; rintro r w8 ⟨rfl, h8⟩)
  obtain ⟨sv, X, pv, bT, oT, -, -, hE⟩ := h8.row.rows
  rw [List.nil_append] at oT hE
  obtain ⟨B, c, rfl⟩ := own_slice oT
  have hts := TsR.of_row oT hE hn
  have t0 := cell_of_row _ _ 0 _ _ _ bT
  have hnc : TT.length ≤ c ∧ (B = none → c = 0) := by
    rcases oT.2 with ⟨h0, h1⟩ | ⟨g, cap, cur, h0, _, _, hnc, _⟩
    · simp only [Value.slice.injEq] at h0
      obtain ⟨rfl, -, rfl⟩ := h0
      exact ⟨by omega, fun _ => rfl⟩
    · simp only [Value.slice.injEq] at h0
      obtain ⟨rfl, -, rfl⟩ := h0
      exact ⟨hnc, fun h => nomatch h⟩
  have hcl := Lib.hid (clipT B TT.length c hnc.1 hnc.2 w8)
  have hfin := Lib.hid (And.intro h8.nb hts)
  clear bT oT hE h8 hts hnc hcall qg z0 z1 z2 z3 z4
  go_wp2_with (go_at_call 56; refine (hcl.out).mono ?_; rintro r w9 ⟨rfl, rfl⟩)
  go_ret
  exact ⟨_, rfl, hfin.out⟩
theorem Tests_any (W0 : World) (e : Ex) (he : e.Has W0) (sv : Value) (l : List Bs) (hl : NmsR W0 sv l) (hn : (e.tsP (fun s => (lastO l s).getD (-1)) []).length ≤ 1000000) (hd : e.dpt ≤ 1000000) (w : World) (hw : Nb W0 w) :
    Calls Try.prog 15 #[.agg e.cells.toArray, sv] w fun r w' => ∃ v, r = .returned v ∧ Nb w w' ∧ TsR w' v (e.tsP (fun s => (lastO l s).getD (-1)) []) := by
  obtain ⟨pl, hpl⟩ : ∃ pl : Bs → Int, (fun s => (lastO l s).getD (-1)) = pl := ⟨_, rfl⟩
  rw [hpl] at hn ⊢
  have hpl2 : ∀ s, pl s = (lastO l s).getD (-1) := fun s => by rw [← hpl]
  clear hpl
  obtain ⟨A, cap, hav, hcap, hlen, hA⟩ := he.exs.head
  have hcs : e.cells.toArray = #[.int .i64 e.kind, .int .i64 e.at_, .int .i64 e.n, sV e.name, .slice A e.args.length cap] := by rw [← hav]; rfl
  have h1 := Lib.hid (fun W h => lastPlaces_any W0 sv l hl W h)
  have h2 : Hid (∀ mb W, Nb W0 W → SMap W mb (lastO l) → Calls Try.prog 42 #[.agg #[.int .i64 e.kind, .int .i64 e.at_, .int .i64 e.n, sV e.name, .slice A e.args.length cap], .map (some mb)] W fun r w' => ∃ v, r = .returned v ∧ Nb W w' ∧ TsR w' v (e.tsP pl [])) := Lib.hid (fun mb W hW hm => by rw [← hcs]; exact testsOf_any e mb (lastO l) pl hpl2 W (he.nb hW) hm hn hd)
  rw [hcs]
  clear hcs
  obtain ⟨A2, cap2, rfl, -, -, -⟩ := hl.head
  rw [List.length_map] at h1 ⊢
  obtain ⟨M, hM⟩ : ∃ M, l.length = M := ⟨_, rfl⟩
  rw [hM] at h1 ⊢
  obtain ⟨L, hL⟩ : ∃ L, e.args.length = L := ⟨_, rfl⟩
  rw [hL] at h2 ⊢
  obtain ⟨k, hk⟩ : ∃ k, e.kind = k := ⟨_, rfl⟩
  obtain ⟨n, hn'⟩ : ∃ k, e.n = k := ⟨_, rfl⟩
  obtain ⟨at_, hat⟩ : ∃ k, e.at_ = k := ⟨_, rfl⟩
  obtain ⟨nm, hnm⟩ : ∃ k, e.name = k := ⟨_, rfl⟩
  rw [hk, hn', hat, hnm] at h2 ⊢
  obtain ⟨TT, hTT⟩ : ∃ TT, e.tsP pl [] = TT := ⟨_, rfl⟩
  rw [hTT] at h2 ⊢
  clear hk hn' hat hnm hL hM hTT hn hd hav hcap hlen hA hl hpl2 he
  go_enter Try.func15, Try.ntmps15
  go_upto_region 1 with (fail)
  obtain ⟨W1, hW1⟩ : ∃ W1, w.alloc (Obj.cells #[.int .i64 k, .int .i64 at_, .int .i64 n, sV nm, .slice A L cap] 24) = W1 := ⟨_, rfl⟩
  have n1 : Nb w W1 := by rw [← hW1]; exact (Nb.refl w).alloc _
  have bV : W1.heap[w.heap.size]? = some (.cells #[.int .i64 k, .int .i64 at_, .int .i64 n, sV nm, .slice A L cap] 24 (0, 0)) := by rw [← hW1]; exact new_blk _ _ rfl
  rw [hW1]
  clear hW1
  obtain ⟨V, hV⟩ : ∃ V, w.heap.size = V := ⟨_, rfl⟩
  rw [hV] at bV ⊢
  have hG : Nb W1 W1.drew := drew1P (Nb.refl W1)
  refine wp_region_late [] (fun _ => True) (fun w' => Nb W1 w') (by kernel_rfl) ⟨fun _ => trivial, hG⟩ (fun _ => ?_)
  change wpAnyL _ _ _ _ _ _ _ 5 (List.toArray [false, false, false, false, false]) _ _
  refine takeG_l (i := 0) (v := .agg #[.int .i64 k, .int .i64 at_, .int .i64 n, sV nm, .slice A L cap]) rfl (by kernel_rfl) (by kernel_rfl) (by kernel_rfl) (by rfl) (fun _ _ _ h => h) (.inl ⟨by rfl, by intro w' hw; have hb := hw.block bV; have z0 := cell_of_row _ _ 0 _ _ _ hb; have z1 := cell_of_row _ _ 1 _ _ _ hb; have z2 := cell_of_row _ _ 2 _ _ _ hb; have z3 := cell_of_row _ _ 3 _ _ _ hb; have z4 := cell_of_row _ _ 4 _ _ _ hb; go_simp⟩) ⟨fun _ => trivial, hG⟩ ?_
  simp only [Act.put, List.setIfInBounds_toArray, List.set_cons_zero, List.set_cons_succ]
  refine takeG_l (i := 1) (v := .slice A2 M cap2) rfl (by kernel_rfl) (by kernel_rfl) (by kernel_rfl) (by rfl) (fun _ _ _ h => h) (.inl ⟨by rfl, by intro w' hw; go_simp⟩) ⟨fun _ => trivial, hG⟩ ?_
  simp only [Act.put, List.setIfInBounds_toArray, List.set_cons_zero, List.set_cons_succ]
  generalize W1.drew = Wd at hG ⊢
  refine onlyL_l (i := 2) (by kernel_rfl) rfl (by rfl) (fun K hK => ?_)
  go_simp
  refine (h1.out Wd (hw.trans (n1.trans hG))).mono ?_
  rintro r w5 ⟨mb, rfl, hn1, hm1, -⟩
  replace hG := hG.trans hn1
  refine hK.out _ _ ⟨fun _ => trivial, hG⟩ (fun _ => ?_)
  clear hK K
  simp only [Act.put, List.setIfInBounds_toArray, List.set_cons_zero, List.set_cons_succ]
  refine onlyL_l (i := 3) (by kernel_rfl) rfl (by rfl) (fun K hK => ?_)
  go_simp
  refine (h2.out mb w5 (hw.trans (n1.trans hG)) hm1).mono ?_
  rintro r w6 ⟨v, rfl, hn2, ht⟩
  replace hG := hG.trans hn2
  obtain ⟨B9, rfl, -, -⟩ := id ht.row
  refine hK.out _ _ ⟨fun _ => trivial, hG⟩ (fun _ => ?_)
  clear hK K
  simp only [Act.put, List.setIfInBounds_toArray, List.set_cons_zero, List.set_cons_succ]
  refine takeG_l (i := 4) (v := .slice B9 TT.length TT.length) rfl (by kernel_rfl) (by kernel_rfl) (by kernel_rfl) (by rfl) (fun _ _ _ h => h) (.inl ⟨by rfl, by intro w' hw; go_simp⟩) ⟨fun _ => trivial, hG⟩ ?_
  simp only [Act.put, List.setIfInBounds_toArray, List.set_cons_zero, List.set_cons_succ]
  refine doneL (by kernel_rfl) ?_ _
  go_wp2_with fail
  go_ret
  exact ⟨_, rfl, n1.trans hG, ht⟩
end Go.Proofs.Ytchcfjlkgnlnoaa
