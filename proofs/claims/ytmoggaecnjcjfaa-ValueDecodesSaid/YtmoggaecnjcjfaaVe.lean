/-
  Proved here: what is asked of the map of sizes while a value is gone through, and what that tells. Conditions: none.
-/
import Derived.Test.YtmoggaecnjcjfaaVc
import Derived.Test.YtmoggaecnjcjfaaJd
import Derived.Laws.ResultCell
namespace Go.Proofs.Ytmoggaecnjcjfaa
open Go.RowKit Go.ChangeMaps
set_option linter.unusedVariables false
set_option linter.unusedSimpArgs false
/-- Of the blocks of a value's lists nothing is frozen. -/
inductive Vl.Fre (w : World) : Vl → Prop
  | mk {e : Vl} (blk : ∀ b o L c, e.av = .slice (some ⟨b, o, none⟩) L c → Fz w b) (kids : ∀ x ∈ e.args, Vl.Fre w x) : Vl.Fre w e
theorem Vl.Fre.blk {w : World} {e : Vl} (h : e.Fre w) {b o L c : Nat} (he : e.av = .slice (some ⟨b, o, none⟩) L c) : Fz w b := by cases h with | mk r _ => exact r b o L c he
theorem Vl.Fre.kids {w : World} {e : Vl} (h : e.Fre w) : ∀ x ∈ e.args, Vl.Fre w x := by cases h with | mk _ k => exact k
theorem Vl.Fre.nb {w w' : World} (k : Nb w w') {e : Vl} (h : e.Fre w) : e.Fre w' := by
  induction h with
  | mk b _ ih => exact .mk (fun b' o L c he => (b b' o L c he).nb k) ih
abbrev mxI : Nat := 9223372036854775807
def SizeOk (W0 : World) (b o n : Nat) (u : Value) : Prop := ∃ (l : List Vl) (c : Nat), VlsHas W0 (.slice (some ⟨b, o, none⟩) n c) l ∧ l.all Vl.may = true ∧ 1 + maxL (l.map Vl.dp) ≤ 64 ∧
  u = .agg #[.int .i64 ((min (1 + l.length + sumL (l.map Vl.wd)) mxI : Nat) : Int), .int .i64 ((1 + maxL (l.map Vl.dp) : Nat) : Int)]
/-- The boxes of what measures, and its map. -/
structure MsAt (W0 : World) (mb kb fb : Nat) (w : World) : Prop where
  nb : Nb W0 w
  kbox : w.heap[kb]? = some (.cells #[.map (some mb)] 70 (0, 0))
  fbox : w.heap[fb]? = some (.cells #[.func (.func 44) #[] #[.pointer (some ⟨kb, 0, none⟩), .pointer (some ⟨fb, 0, none⟩)]] 71 (0, 0))
  keys : KeysAt W0 w mb (SizeOk W0)
theorem MsAt.lt {W0 w : World} {mb kb fb : Nat} (h : MsAt W0 mb kb fb w) : mb < w.heap.size ∧ kb < w.heap.size ∧ fb < w.heap.size ∧ mb ≠ kb ∧ mb ≠ fb := by
  obtain ⟨es, clock, hm, -⟩ := h.keys
  exact ⟨lt_blk hm, lt_blk h.kbox, lt_blk h.fbox, fun e => (by subst e; have := h.kbox; rw [hm] at this; cases this), fun e => (by subst e; have := h.fbox; rw [hm] at this; cases this)⟩
theorem MsAt.go {W0 w w' : World} {mb kb fb : Nat} (h : MsAt W0 mb kb fb w) (k : Nb w w') : MsAt W0 mb kb fb w' :=
  ⟨h.nb.trans k, k.block h.kbox, k.block h.fbox, h.keys.kept fun o ho => k.block ho⟩
def szV (v : Vl) : Bool → Value
  | true => .agg #[.int .i64 ((min v.wd mxI : Nat) : Int), .int .i64 (v.dp : Int)]
  | false => .agg #[.int .i64 0, .int .i64 0]
def okV (v : Vl) (ar : Nat) : Bool := v.may && decide (ar + v.dp ≤ 64)
def MPost (W0 : World) (mb kb fb : Nat) (v : Vl) (ar : Nat) (w : World) (r : Ending) (w' : World) : Prop :=
  r = .returned (.tuple #[szV v (okV v ar), .bool (okV v ar)]) ∧ Gb mb w w' ∧ KeysAt W0 w' mb (SizeOk W0)
theorem results_rt {fn : Func} {p u : Tmp} {ty : TypeId} {P : Program} (h : fn.results = #[.cell p ty, .tmp u]) (tmps : Array Value) (w : World) (g : Nat) (cs : Array Value)
    (hp : tmps.getD p undef = .pointer (some ⟨g, 0, none⟩)) (hl : (loadVar ty ⟨g, 0, none⟩).run P w = .ok (.agg cs) w) :
    (results fn tmps).run P w = .ok (.tuple #[.agg cs, tmps.getD u undef]) w := by
  rw [results_cell_tmp h, hp]
  have e : (asAddr (.pointer (some ⟨g, 0, none⟩))).run P w = .ok ⟨g, 0, none⟩ w := rfl
  rw [e]
  simp only [Result.andThen_ok, hl]
theorem set2_all {w : World} {S : Nat} {a b x y : Value} {t : TypeId} (h : w.heap[S]? = some (.cells #[a, b] t (0, 0))) : ((w.setCell ⟨S, 0, none⟩ x).setCell ⟨S, 1, none⟩ y).heap[S]? = some (.cells #[x, y] t (0, 0)) := by
  have h2 := heap_setCell_same w S 0 _ _ x h
  have h3 := heap_setCell_same _ S 1 _ _ y h2
  simpa using h3
theorem Gb.far {cb S : Nat} {a b : World} (h : Gb cb a b) (hS : a.heap.size ≤ S) (j : Nat) (v : Value) : Gb cb a (b.setCell ⟨S, j, none⟩ v) :=
  ⟨h.os, h.tape, h.output, by simpa using h.size, fun i hi hne => (Below.heap_setCell b _ _ i (fun e => by subst e; exact absurd hi (by omega))).trans (World.grownBy.block h i hi hne)⟩
theorem KeysAt.far {W0 w : World} {mb S : Nat} {Q : Nat → Nat → Nat → Value → Prop} (h : KeysAt W0 w mb Q) (hS : mb ≠ S) (j : Nat) (v : Value) : KeysAt W0 (w.setCell ⟨S, j, none⟩ v) mb Q :=
  h.kept fun o ho => by rw [Below.heap_setCell _ _ _ _ (by simpa using hS)]; exact ho
theorem Gb.of_nb {cb : Nat} {a b : World} (h : Nb a b) : Gb cb a b := ⟨h.os, h.tape, h.output, h.size, fun i hi _ => RowKit.Below.block h i hi⟩
theorem MsAt.far {W0 w : World} {mb kb fb S : Nat} (h : MsAt W0 mb kb fb w) (hS : W0.heap.size ≤ S) (h1 : mb ≠ S) (h2 : kb ≠ S) (h3 : fb ≠ S) (j : Nat) (v : Value) : MsAt W0 mb kb fb (w.setCell ⟨S, j, none⟩ v) :=
  ⟨h.nb.setCell (p := ⟨S, j, none⟩) hS v, by rw [heap_setCell_other _ _ _ _ (by simpa using h2)]; exact h.kbox, by rw [heap_setCell_other _ _ _ _ (by simpa using h3)]; exact h.fbox, h.keys.far h1 _ _⟩
theorem maxL_le' {l : List Nat} {k : Nat} : maxL l ≤ k ↔ ∀ x ∈ l, x ≤ k := by
  induction l with
  | nil => simp [maxL]
  | cons y l ih => simp only [maxL, List.mem_cons, forall_eq_or_imp, ← ih]; omega
theorem okV_part {v x : Vl} {ar : Nat} (h4 : v.kind = 4) (hx : x ∈ v.args) (h : okV v ar = true) : okV x (ar + 1) = true := by
  unfold okV at h ⊢
  rw [Bool.and_eq_true, decide_eq_true_eq] at h ⊢
  obtain ⟨h1, h2⟩ := h
  rw [v.may_eq, Bool.and_eq_true, List.all_eq_true] at h1
  refine ⟨h1.2 x hx, ?_⟩
  have h3 := (maxL_le' (k := maxL (v.args.map Vl.dp))).1 (Nat.le_refl _) x.dp (List.mem_map_of_mem hx)
  rw [Vl.dp_tup h4] at h2
  omega
theorem okV_all {v : Vl} {ar : Nat} (h4 : v.kind = 4) (hm : mayHd v.kind v.n v.args.length = true) (h : ∀ x ∈ v.args, okV x (ar + 1) = true) (har : ar + 1 ≤ 64) : okV v ar = true := by
  unfold okV
  rw [Bool.and_eq_true, decide_eq_true_eq, v.may_eq, Bool.and_eq_true, List.all_eq_true, Vl.dp_tup h4]
  refine ⟨⟨hm, fun x hx => ?_⟩, ?_⟩
  · have := h x hx
    unfold okV at this
    rw [Bool.and_eq_true] at this
    exact this.1
  · have h3 : maxL (v.args.map Vl.dp) ≤ 63 - ar := maxL_le'.2 fun y hy => by
      obtain ⟨x, hx, rfl⟩ := List.mem_map.1 hy
      have := h x hx
      unfold okV at this
      rw [Bool.and_eq_true, decide_eq_true_eq] at this
      omega
    omega
theorem sumL_snoc (l : List Nat) (x : Nat) : sumL (l ++ [x]) = sumL l + x := by
  induction l with
  | nil => simp [sumL]
  | cons y l ih => simp only [List.cons_append, sumL, ih]; omega
theorem maxL_snoc (l : List Nat) (x : Nat) : maxL (l ++ [x]) = max (maxL l) x := by
  induction l with
  | nil => simp [maxL]
  | cons y l ih => simp only [List.cons_append, maxL, ih]; omega
theorem sumL_take {l : List Vl} {i : Nat} {x : Vl} (h : l[i]? = some x) : sumL ((l.take (i + 1)).map Vl.wd) = sumL ((l.take i).map Vl.wd) + x.wd := by
  rw [List.take_add_one, h]
  simp only [Option.toList_some, List.map_append, List.map_cons, List.map_nil, sumL_snoc]
theorem maxL_take {l : List Vl} {i : Nat} {x : Vl} (h : l[i]? = some x) : maxL ((l.take (i + 1)).map Vl.dp) = max (maxL ((l.take i).map Vl.dp)) x.dp := by
  rw [List.take_add_one, h]
  simp only [Option.toList_some, List.map_append, List.map_cons, List.map_nil, maxL_snoc]
theorem MsAt.gb {W0 w w' : World} {mb kb fb : Nat} (h : MsAt W0 mb kb fb w) (hmb : W0.heap.size ≤ mb) (g : Gb mb w w') (k : KeysAt W0 w' mb (SizeOk W0)) : MsAt W0 mb kb fb w' :=
  ⟨g.nb h.nb hmb, g.block h.kbox (Ne.symm h.lt.2.2.2.1), g.block h.fbox (Ne.symm h.lt.2.2.2.2), k⟩
end Go.Proofs.Ytmoggaecnjcjfaa
