/-
  Proved here: the frame of the laws on trees: how programs that came in are opened, and the row's last step. Conditions: none.
-/
import Derived.Test.YtojogolmcclpoaaDoorSaa
import Derived.Test.YtojogolmcclpoaaDoorRows
import Derived.ProofKit
import Derived.OpenShut
import Derived.ChangeSlices
import Derived.ChangeSame
import Derived.Carry
import Derived.Deep.Slices
import Derived.Deep.Fields
import Derived.Lib.SmallJoins
namespace Go.Proofs.YtojogolmcclpoaaDoor
open Go.ChangeShapes Go.WideShapes Go.ChangeAt Go.RowKit Go.Deep Go.Joins
set_option linter.unusedVariables false
set_option linter.unusedSimpArgs false
theorem own : ownKnob Tryd.prog.godebug = none := by kernel_rfl
theorem i64_of {x : Int} (h : (Lit.int .i64 x).wf = true) : -9223372036854775808 ≤ x ∧ x < 9223372036854775808 := by
  simp [Lit.wf, IntKind.min, IntKind.max, IntKind.signed, IntKind.bits] at h
  omega
theorem list_of {α : Type} (n : Nat) (P : Nat → α → Prop) (h : ∀ i, i < n → ∃ x, P i x) : ∃ l : List α, l.length = n ∧ ∀ i x, l[i]? = some x → P i x := by
  induction n with
  | zero => exact ⟨[], rfl, fun i x hx => by simp at hx⟩
  | succ n ih =>
    obtain ⟨l, hl, hp⟩ := ih fun i hi => h i (by omega)
    obtain ⟨x, hx⟩ := h n (by omega)
    refine ⟨l ++ [x], by simp [hl], fun i y hy => ?_⟩
    rw [List.getElem?_append] at hy
    split at hy
    · exact hp i y hy
    · rename_i hge
      by_cases e : i - l.length = 0
      · rw [e] at hy
        simp at hy
        obtain rfl : i = n := by omega
        rw [← hy]; exact hx
      · rw [List.getElem?_eq_none (by simp; omega)] at hy; cases hy
section
variable {H : Type} {enc : TypeId × Value → H} {P : Program}
/-- The row's last step where of what was there nothing has turned. -/
theorem post_of_nb {f : Func} {s : ChangeSpec} {apart fresh handsOn again : Bool} {W W' : World} {args : Array Value} {v : Value} {ds gs : List (DataW H)} {before pa pv : List MemPlace}
    (hW : DataW.Whole enc P f.params.toList s.vars apart W args.toList ds gs before)
    (hres : ∀ (b : Nat) (sp : Nat → Bool) (hd : Bool), DataW.TrodAll enc P W' b sp hd f.resultTypes.toList (v.resultList f.resultTypes.size) (s.fn H (ds ++ gs)).results [])
    (hargs : ∀ sp : Nat → Bool, (∀ p ∈ before, sp p.block = true) → DataW.TrodAll enc P W' 0 sp true f.params.toList args.toList (s.fn H (ds ++ gs)).args pa)
    (hvars : ∀ sp : Nat → Bool, (∀ p ∈ before, sp p.block = true) → DataW.TrodVars enc P W' sp s.vars (s.fn H (ds ++ gs)).vars pv)
    (hps : before = pa ++ pv) (hb : Below W.heap.size W W')
    (hok : ∀ (j : Nat) (t : TypeId) (r : Value), f.resultTypes[j]? = some t → (v.resultList f.resultTypes.size)[j]? = some r → Value.okWide P W' .any 0 t r) :
    s.post enc P f apart fresh handsOn again W args v W' := by
  have hlt : ∀ p ∈ before, p.block < W.heap.size := fun p hp => hW.lt p hp
  have hold : ∀ p ∈ before, (fun b => decide (b < W.heap.size)) p.block = true := fun p hp => by simpa using hlt p hp
  refine ⟨ds, gs, before, [], pa, pv, hW, hres _ _ _, hargs _ hold, hvars _ hold, World.keptBut_mono (fun p hp => ⟨hp, ?_⟩) (hb.frame (· ∈ before)), fun _ => ?_⟩
  · rw [hps, List.mem_append] at hp
    exact Or.inr hp
  · obtain ⟨_, _, _, _, _, hz, hn⟩ := hW
    refine ⟨hok, _, _, ([] ++ pa) ++ pv, ⟨[] ++ pa, pv, trodAll_append (hargs _ (fun _ _ => rfl)) (hres _ _ _), hvars _ (fun _ _ => rfl), rfl, ?_, ?_⟩, ?_⟩
    · intro b off hp
      have hin : MemPlace.cell b off ∈ before := by rw [hps]; simpa using hp
      rw [hb.frozen (hlt _ hin)]
      exact hz b off hin
    · intro ha
      have := hn ha
      rw [hps] at this
      simpa using this
    · intro p hp _
      rw [hps]
      simpa using hp
/-- Of the arguments nothing has turned: each reads as it did. -/
theorem args_stay (hl : laidOutB P = true) {W W' : World} {sp : Nat → Bool} (hb : Below W.heap.size W W') : ∀ {ts : List TypeId} {vs : List Value} {ds : List (DataW H)} {ps : List MemPlace},
    DataW.TrodAll enc P W 0 (fun _ => true) true ts vs ds ps → (∀ t ∈ ts, P.readableRec t = true ∧ t < P.types.size) → (∀ x ∈ ps, x.block < W.heap.size) → (∀ x ∈ ps, sp x.block = true) →
    DataW.TrodAll enc P W' 0 sp true ts vs ds ps
  | [], vs, ds, ps, h, _, _, _ => by
    obtain ⟨rfl, rfl, rfl⟩ := trodAll_nil h
    exact trodAll_mk0
  | t :: ts, vs, ds, ps, h, ht, hlt, hsp => by
    obtain ⟨v, vs', d, ds', p, q, rfl, rfl, rfl, h1, h2⟩ := trodAll_cons h
    obtain ⟨hr, hrow⟩ := ht t (List.mem_cons_self ..)
    exact trodAll_cons_mk (WideElems.Trod_stays hl hr hrow h1 (fun x hx => hb.same (hlt x (List.mem_append_left _ hx))) (fun x hx => hsp x (List.mem_append_left _ hx)))
      (args_stay hl hb h2 (fun t h => ht t (List.mem_cons_of_mem _ h)) (fun x hx => hlt x (List.mem_append_right _ hx)) (fun x hx => hsp x (List.mem_append_right _ hx)))
end
theorem plain_addr {w : World} {a : Addr} {v : Value} (h : w.cell? a = some v) : a = ⟨a.block, a.off, none⟩ := by
  cases a with
  | mk b o s =>
    cases s with
    | none => rfl
    | some s =>
      unfold World.cell? at h
      split at h
      · simp at h
      · cases h
section
variable {H : Type} {enc : TypeId × Value → H} {P : Program} {w : World} {base : Nat} {spare : Nat → Bool} {held : Bool}
/-- A slice that came in, each of whose parts is known to open. -/
theorem open_list {α : Type} (cells : α → List Value) (Q : α → Prop) {size : Nat} (hs0 : 0 < size) {t e : TypeId} {fuel : Nat} {cs : List Value} {x : DataW H × List MemPlace} (ht : P.underlying t = some (.slice e)) (hsz : P.cellsOf e = size)
    (h : DataW.trod enc P w base spare held fuel t cs = some x)
    (ih : ∀ n cs y, n < fuel → DataW.trod enc P w base spare held n e cs = some y → ∃ a, cs = cells a ∧ Q a) (hlen : ∀ a, (cells a).length = size) :
    ∃ (v : Value) (l : List α), cs = [v] ∧ RowS w size v (l.map cells) ∧ ∀ a ∈ l, Q a := by
  rcases DataW.trod_slice ht h with ⟨rfl, -⟩ | ⟨a, len, cap, elems, rest, n, rfl, rfl, -, hb, hl, hm, hel, he, -⟩
  · exact ⟨_, [], rfl, ⟨none, 0, rfl, Nat.le_refl _, by simp, fun _ => rfl, fun i r hi => by simp at hi⟩, fun a ha => by cases ha⟩
  · rw [hsz] at he
    obtain ⟨l, hll, hp⟩ := list_of len (fun i (y : α) => w.cells? base (a.add (i * size)) size = some (cells y) ∧ Q y) (fun i hi => by
      have h1 := he i hi
      rw [List.getElem?_eq_getElem (by omega)] at h1
      obtain ⟨cs', h2, h3⟩ := Option.bind_eq_some_iff.1 h1
      obtain ⟨y, rfl, hy⟩ := ih n cs' _ (Nat.lt_succ_self n) h3
      exact ⟨y, h2, hy⟩)
    refine ⟨_, l, rfl, ⟨some a, cap, by rw [List.length_map, hll], by rw [List.length_map, hll]; exact hl, by rw [List.length_map, hll]; unfold maxLen at hm; omega, (fun h => nomatch h), fun i r hi => ?_⟩, fun y hy => ?_⟩
    · rw [List.getElem?_map, Option.map_eq_some_iff] at hi
      obtain ⟨y, hy, rfl⟩ := hi
      obtain ⟨h1, -⟩ := hp i y hy
      obtain ⟨-, -, h2⟩ := World.cells?_some h1
      have hpa : a = ⟨a.block, a.off, none⟩ := by
        have hi0 : 0 < len := by have := (List.getElem?_eq_some_iff.1 hy).1; omega
        obtain ⟨y0, hy0⟩ : ∃ y0, l[0]? = some y0 := ⟨_, List.getElem?_eq_getElem (by omega)⟩
        obtain ⟨h3, -⟩ := hp 0 y0 hy0
        obtain ⟨-, -, h4⟩ := World.cells?_some h3
        have h5 := h4 0 hs0
        rw [List.getElem?_eq_getElem (by rw [hlen]; exact hs0)] at h5
        have e0 : (a.add (0 * size)).add 0 = a := by rw [Go.Deep.add_add]; simp [Addr.add]
        rw [e0] at h5
        exact plain_addr h5
      refine ⟨a.block, a.off, by rw [← hpa], fun j u hu => ?_⟩
      have hj : j < size := by have := (List.getElem?_eq_some_iff.1 hu).1; rw [hlen] at this; exact this
      have h6 := h2 j hj
      rw [hu, Go.Deep.add_add, hpa, Addr.add_mid] at h6
      rw [show a.off + i * size + j = a.off + (i * size + j) by omega]
      exact h6
    · obtain ⟨i, hi, e⟩ := List.mem_iff_getElem.1 hy
      exact (hp i y (by rw [List.getElem?_eq_getElem hi, e])).2
end
section
variable {H : Type} {enc : TypeId × Value → H} {w : World} {base : Nat} {spare : Nat → Bool} {held : Bool}
theorem cells_expr : Tryd.prog.cellsOf 36 = 5 := by kernel_rfl
theorem cells_pattern : Tryd.prog.cellsOf 71 = 5 := by kernel_rfl
theorem cells_stmt : Tryd.prog.cellsOf 39 = 5 := by kernel_rfl
theorem cells_body : Tryd.prog.cellsOf 44 = 9 := by kernel_rfl
theorem cells_arm : Tryd.prog.cellsOf 78 = 15 := by kernel_rfl
theorem cells_def : Tryd.prog.cellsOf 46 = 12 := by kernel_rfl
theorem cells_exprs : Tryd.prog.cellsOf 23 = 1 := by kernel_rfl
theorem cells_patterns : Tryd.prog.cellsOf 69 = 1 := by kernel_rfl
theorem cells_stmts : Tryd.prog.cellsOf 40 = 1 := by kernel_rfl
theorem cells_bodies : Tryd.prog.cellsOf 41 = 1 := by kernel_rfl
theorem cells_arms : Tryd.prog.cellsOf 42 = 1 := by kernel_rfl
theorem cells_strings : Tryd.prog.cellsOf 37 = 1 := by kernel_rfl
theorem cells_defs : Tryd.prog.cellsOf 22 = 1 := by kernel_rfl
theorem cells_int : Tryd.prog.cellsOf 3 = 1 := by kernel_rfl
theorem cells_string : Tryd.prog.cellsOf 9 = 1 := by kernel_rfl
theorem cells_bool : Tryd.prog.cellsOf 4 = 1 := by kernel_rfl
theorem str_room {s : ByteArray} (h : s.size ≤ maxLen) : s.data.toList.length ≤ 9223372036854775807 := by
  have h2 : s.data.toList.length = s.size := rfl
  rw [h2]
  unfold maxLen at h
  omega
/-- A struct that came in: each field's own cells. -/
theorem open_struct {P : Program} {t : TypeId} {fs : Array Field} {fuel : Nat} {cs : List Value} {x : DataW H × List MemPlace} (he : P.underlying t = some (.struct fs)) (h : DataW.trod enc P w base spare held fuel t cs = some x) :
    ∃ n, n < fuel ∧ cs.length = P.cellsOf t ∧ ∀ (i : Nat) (f : Field), fs[i]? = some f → ∃ y, DataW.trod enc P w base spare held n f.type ((cs.drop f.offset).take (P.cellsOf f.type)) = some y := by
  obtain ⟨xs, n, rfl, -, hl, hx, hf⟩ := DataW.trod_struct he h
  refine ⟨n, Nat.lt_succ_self n, hl, fun i f hi => ?_⟩
  have h1 := hf i f hi
  have h2 : i < fs.size := (Array.getElem?_eq_some_iff.1 hi).1
  rw [List.getElem?_eq_getElem (by omega)] at h1
  exact ⟨_, h1⟩
theorem five {cs : List Value} (h : cs.length = 5) : ∃ a b c d e, cs = [a, b, c, d, e] := by
  match cs, h with
  | [a, b, c, d, e], _ => exact ⟨a, b, c, d, e, rfl⟩
theorem nine {cs : List Value} (h : cs.length = 9) : ∃ a b c d e f g i j, cs = [a, b, c, d, e, f, g, i, j] := by
  match cs, h with
  | [a, b, c, d, e, f, g, i, j], _ => exact ⟨a, b, c, d, e, f, g, i, j, rfl⟩
theorem open_expr : ∀ (fuel : Nat) (cs : List Value) (y : DataW H × List MemPlace), DataW.trod enc Tryd.prog w base spare held fuel 36 cs = some y → ∃ e : Ex, cs = e.cells ∧ e.Has w := by
  intro fuel
  induction fuel using Nat.strongRecOn with
  | _ fuel ih =>
    intro cs y h
    obtain ⟨n, hn, hl, hf⟩ := open_struct Tryd.underlying36 h
    rw [cells_expr] at hl
    obtain ⟨c0, c1, c2, c3, c4, rfl⟩ := five hl
    obtain ⟨y0, t0⟩ := hf 0 _ rfl
    obtain ⟨y1, t1⟩ := hf 1 _ rfl
    obtain ⟨y2, t2⟩ := hf 2 _ rfl
    obtain ⟨y3, t3⟩ := hf 3 _ rfl
    obtain ⟨y4, t4⟩ := hf 4 _ rfl
    obtain ⟨k, e0, -, -⟩ := DataW.trod_int Tryd.underlying3 t0
    obtain ⟨a, e1, -, -⟩ := DataW.trod_int Tryd.underlying3 t1
    obtain ⟨m, e2, -, w2⟩ := DataW.trod_int Tryd.underlying3 t2
    obtain ⟨s, e3, -, w3⟩ := DataW.trod_string Tryd.underlying9 t3
    obtain ⟨v, l, e4, hrow, hk⟩ := open_list Ex.cells (fun e => e.Has w) (by decide : 0 < 5) Tryd.underlying23 cells_expr t4 (fun n' cs y hn' => ih n' (by omega) cs y) Ex.cells_len
    simp [cells_int] at e0
    simp [cells_int] at e1
    simp [cells_int] at e2
    simp [cells_string] at e3
    simp [cells_exprs] at e4
    subst e0 e1 e2 e3 e4
    exact ⟨.mk k a m s.data.toList _ l, rfl, .mk hrow hk (i64_of w2) (str_room w3)⟩
theorem open_pattern : ∀ (fuel : Nat) (cs : List Value) (y : DataW H × List MemPlace), DataW.trod enc Tryd.prog w base spare held fuel 71 cs = some y → ∃ e : Ex, cs = e.cells ∧ e.Has w := by
  intro fuel
  induction fuel using Nat.strongRecOn with
  | _ fuel ih =>
    intro cs y h
    obtain ⟨n, hn, hl, hf⟩ := open_struct Tryd.underlying71 h
    rw [cells_pattern] at hl
    obtain ⟨c0, c1, c2, c3, c4, rfl⟩ := five hl
    obtain ⟨y0, t0⟩ := hf 0 _ rfl
    obtain ⟨y1, t1⟩ := hf 1 _ rfl
    obtain ⟨y2, t2⟩ := hf 2 _ rfl
    obtain ⟨y3, t3⟩ := hf 3 _ rfl
    obtain ⟨y4, t4⟩ := hf 4 _ rfl
    obtain ⟨k, e0, -, -⟩ := DataW.trod_int Tryd.underlying3 t0
    obtain ⟨a, e1, -, -⟩ := DataW.trod_int Tryd.underlying3 t1
    obtain ⟨m, e2, -, w2⟩ := DataW.trod_int Tryd.underlying3 t2
    obtain ⟨s, e3, -, w3⟩ := DataW.trod_string Tryd.underlying9 t3
    obtain ⟨v, l, e4, hrow, hk⟩ := open_list Ex.cells (fun e => e.Has w) (by decide : 0 < 5) Tryd.underlying69 cells_pattern t4 (fun n' cs y hn' => ih n' (by omega) cs y) Ex.cells_len
    simp [cells_int] at e0
    simp [cells_int] at e1
    simp [cells_int] at e2
    simp [cells_string] at e3
    simp [cells_patterns] at e4
    subst e0 e1 e2 e3 e4
    exact ⟨.mk k a m s.data.toList _ l, rfl, .mk hrow hk (i64_of w2) (str_room w3)⟩
theorem open_stmt : ∀ (fuel : Nat) (cs : List Value) (y : DataW H × List MemPlace), DataW.trod enc Tryd.prog w base spare held fuel 39 cs = some y → ∃ e : St, cs = e.cells ∧ e.Has w := by
    intro fuel cs y h
    obtain ⟨n, hn, hl, hf⟩ := open_struct Tryd.underlying39 h
    rw [cells_stmt] at hl
    obtain ⟨c0, c1, c2, c3, c4, rfl⟩ := five hl
    obtain ⟨y0, t0⟩ := hf 0 _ rfl
    obtain ⟨y1, t1⟩ := hf 1 _ rfl
    obtain ⟨y2, t2⟩ := hf 2 _ rfl
    obtain ⟨y3, t3⟩ := hf 3 _ rfl
    obtain ⟨y4, t4⟩ := hf 4 _ rfl
    obtain ⟨k, e0, -, -⟩ := DataW.trod_int Tryd.underlying3 t0
    obtain ⟨a, e1, -, -⟩ := DataW.trod_int Tryd.underlying3 t1
    obtain ⟨m, e2, -, w2⟩ := DataW.trod_string Tryd.underlying9 t2
    obtain ⟨s, e3, -, w3⟩ := DataW.trod_string Tryd.underlying9 t3
    obtain ⟨v, l, e4, hrow, hk⟩ := open_list Ex.cells (fun e => e.Has w) (by decide : 0 < 5) Tryd.underlying23 cells_expr t4 (fun n' cs y _ => open_expr n' cs y) Ex.cells_len
    simp [cells_int] at e0
    simp [cells_int] at e1
    simp [cells_string] at e2
    simp [cells_string] at e3
    simp [cells_exprs] at e4
    subst e0 e1 e2 e3 e4
    exact ⟨⟨k, a, m.data.toList, s.data.toList, _, l⟩, rfl, ⟨⟨hrow, hk⟩, str_room w2, str_room w3⟩⟩
theorem fifteen {cs : List Value} (h : cs.length = 15) : ∃ a0 a1 a2 a3 a4 g b0 b1 b2 b3 b4 b5 b6 b7 b8, cs = [a0, a1, a2, a3, a4, g, b0, b1, b2, b3, b4, b5, b6, b7, b8] := by
  match cs, h with
  | [a0, a1, a2, a3, a4, g, b0, b1, b2, b3, b4, b5, b6, b7, b8], _ => exact ⟨_, _, _, _, _, _, _, _, _, _, _, _, _, _, _, rfl⟩
theorem twelve {cs : List Value} (h : cs.length = 12) : ∃ a0 a1 a2 b0 b1 b2 b3 b4 b5 b6 b7 b8, cs = [a0, a1, a2, b0, b1, b2, b3, b4, b5, b6, b7, b8] := by
  match cs, h with
  | [a0, a1, a2, b0, b1, b2, b3, b4, b5, b6, b7, b8], _ => exact ⟨_, _, _, _, _, _, _, _, _, _, _, _, rfl⟩
theorem four {cs : List Value} (h : cs.length = 4) : ∃ a0 a1 a2 a3, cs = [a0, a1, a2, a3] := by
  match cs, h with
  | [a0, a1, a2, a3], _ => exact ⟨_, _, _, _, rfl⟩
theorem open_body : ∀ (fuel : Nat) (cs : List Value) (y : DataW H × List MemPlace), DataW.trod enc Tryd.prog w base spare held fuel 44 cs = some y → ∃ b : Bd, cs = b.cells ∧ b.Has w := by
  intro fuel
  induction fuel using Nat.strongRecOn with
  | _ fuel ih =>
    intro cs y h
    obtain ⟨n, hn, hl, hf⟩ := open_struct Tryd.underlying44 h
    rw [cells_body] at hl
    obtain ⟨c0, c1, c2, c3, c4, c5, c6, c7, c8, rfl⟩ := nine hl
    have harm : ∀ n' cs y, n' < n → DataW.trod enc Tryd.prog w base spare held n' 78 cs = some y → ∃ m : Am, cs = m.cells ∧ (m.pat.Has w ∧ ExsHas w m.gv m.guard ∧ m.body.Has w) := by
      intro n' cs y hn' h
      obtain ⟨n2, hn2, hl, hf⟩ := open_struct Tryd.underlying78 h
      rw [cells_arm] at hl
      obtain ⟨a0, a1, a2, a3, a4, g, b0, b1, b2, b3, b4, b5, b6, b7, b8, rfl⟩ := fifteen hl
      obtain ⟨y0, t0⟩ := hf 0 _ rfl
      obtain ⟨y1, t1⟩ := hf 1 _ rfl
      obtain ⟨y2, t2⟩ := hf 2 _ rfl
      replace t0 : DataW.trod enc Tryd.prog w base spare held n2 71 [a0, a1, a2, a3, a4] = some y0 := by simpa [cells_pattern] using t0
      replace t1 : DataW.trod enc Tryd.prog w base spare held n2 23 [g] = some y1 := by simpa [cells_exprs] using t1
      replace t2 : DataW.trod enc Tryd.prog w base spare held n2 44 [b0, b1, b2, b3, b4, b5, b6, b7, b8] = some y2 := by simpa [cells_body] using t2
      obtain ⟨p, e0, hp⟩ := open_pattern n2 _ _ t0
      obtain ⟨v, l, e1, hrow, hk⟩ := open_list Ex.cells (fun e => e.Has w) (by decide : 0 < 5) Tryd.underlying23 cells_expr t1 (fun n' cs y _ => open_expr n' cs y) Ex.cells_len
      obtain ⟨b, e2, hb⟩ := ih n2 (by omega) _ _ t2
      refine ⟨.mk p v l b, ?_, hp, ⟨hrow, hk⟩, hb⟩
      show _ = p.cells ++ [v] ++ b.cells
      rw [← e0, ← e1, ← e2]
      rfl
    obtain ⟨y0, t0⟩ := hf 0 _ rfl
    obtain ⟨y1, t1⟩ := hf 1 _ rfl
    obtain ⟨y2, t2⟩ := hf 2 _ rfl
    obtain ⟨y3, t3⟩ := hf 3 _ rfl
    obtain ⟨y4, t4⟩ := hf 4 _ rfl
    obtain ⟨y5, t5⟩ := hf 5 _ rfl
    obtain ⟨y6, t6⟩ := hf 6 _ rfl
    obtain ⟨y7, t7⟩ := hf 7 _ rfl
    obtain ⟨y8, t8⟩ := hf 8 _ rfl
    obtain ⟨sv, sl, e0, srow, sk⟩ := open_list St.cells (fun e => e.Has w) (by decide : 0 < 5) Tryd.underlying40 cells_stmt t0 (fun n' cs y _ => open_stmt n' cs y) St.cells_len
    obtain ⟨k, e1, -, -⟩ := DataW.trod_int Tryd.underlying3 t1
    obtain ⟨a, e2, -, -⟩ := DataW.trod_int Tryd.underlying3 t2
    obtain ⟨s, e3, -, w3⟩ := DataW.trod_string Tryd.underlying9 t3
    obtain ⟨v, l, e4, hrow, hk⟩ := open_list Ex.cells (fun e => e.Has w) (by decide : 0 < 5) Tryd.underlying23 cells_expr t4 (fun n' cs y _ => open_expr n' cs y) Ex.cells_len
    obtain ⟨pv, pl, e5, prow, pk⟩ := open_list Bd.cells (fun e => e.Has w) (by decide : 0 < 9) Tryd.underlying41 cells_body t5 (fun n' cs y hn' => ih n' (by omega) cs y) Bd.cells_len
    obtain ⟨mv, ml, e6, mrow, mk⟩ := open_list Am.cells (fun m => m.pat.Has w ∧ ExsHas w m.gv m.guard ∧ m.body.Has w) (by decide : 0 < 15) Tryd.underlying42 cells_arm t6 harm Am.cells_len
    obtain ⟨lt, e7, -⟩ := DataW.trod_bool Tryd.underlying4 t7
    obtain ⟨af, e8, -, w8⟩ := DataW.trod_int Tryd.underlying3 t8
    simp [cells_stmts] at e0
    simp [cells_int] at e1
    simp [cells_int] at e2
    simp [cells_string] at e3
    simp [cells_exprs] at e4
    simp [cells_bodies] at e5
    simp [cells_arms] at e6
    simp [cells_bool] at e7
    simp [cells_int] at e8
    subst e0 e1 e2 e3 e4 e5 e6 e7 e8
    exact ⟨.mk _ sl k a s.data.toList _ l _ pl _ ml lt af, rfl, .mk srow sk ⟨hrow, hk⟩ prow pk mrow (fun m hm => (mk m hm).1) (fun m hm => (mk m hm).2.1) (fun m hm => (mk m hm).2.2) (str_room w3) (i64_of w8)⟩
theorem open_def : ∀ (fuel : Nat) (cs : List Value) (y : DataW H × List MemPlace), DataW.trod enc Tryd.prog w base spare held fuel 46 cs = some y → ∃ d : Df, cs = d.cells ∧ (RowS w 1 d.pv (d.params.map fun s => [sV s]) ∧ d.body.Has w ∧ d.name.length ≤ 9223372036854775807 ∧ ∀ s ∈ d.params, s.length ≤ 9223372036854775807) := by
  intro fuel cs y h
  obtain ⟨n, hn, hl, hf⟩ := open_struct Tryd.underlying46 h
  rw [cells_def] at hl
  obtain ⟨a0, a1, a2, b0, b1, b2, b3, b4, b5, b6, b7, b8, rfl⟩ := twelve hl
  obtain ⟨y0, t0⟩ := hf 0 _ rfl
  obtain ⟨y1, t1⟩ := hf 1 _ rfl
  obtain ⟨y2, t2⟩ := hf 2 _ rfl
  obtain ⟨y3, t3⟩ := hf 3 _ rfl
  obtain ⟨a, e0, -, -⟩ := DataW.trod_int Tryd.underlying3 t0
  obtain ⟨s, e1, -, w1⟩ := DataW.trod_string Tryd.underlying9 t1
  obtain ⟨v, l, e2, hrow, hk⟩ := open_list (fun s : Bs => [sV s]) (fun s => s.length ≤ 9223372036854775807) (by decide : 0 < 1) Tryd.underlying37 cells_string t2 (fun n' cs y _ h => by
    obtain ⟨s, rfl, -, ws⟩ := DataW.trod_string Tryd.underlying9 h
    exact ⟨s.data.toList, rfl, str_room ws⟩) (fun _ => rfl)
  replace t3 : DataW.trod enc Tryd.prog w base spare held n 44 [b0, b1, b2, b3, b4, b5, b6, b7, b8] = some y3 := by simpa [cells_body] using t3
  obtain ⟨b, e3, hb⟩ := open_body n _ _ t3
  simp [cells_int] at e0
  simp [cells_string] at e1
  simp [cells_strings] at e2
  subst e0 e1 e2
  refine ⟨⟨a, s.data.toList, _, l, b⟩, ?_, hrow, hb, str_room w1, hk⟩
  show _ = [Value.int .i64 a, sV s.data.toList, _] ++ b.cells
  rw [← e3]
  rfl
theorem cells_program : Tryd.prog.cellsOf 25 = 4 := by kernel_rfl
set_option maxRecDepth 100000 in
/-- A program that came in. -/
theorem open_program {r : Reach} {b0 : Nat} {v : Value} {d : DataW H} {p : List MemPlace} (hv : Value.okWide Tryd.prog w r b0 25 v) (h : DataW.Trod enc Tryd.prog w base spare held 25 v d p) :
    ∃ q : Pg, v = .agg q.cells.toArray ∧ q.Has w := by
  obtain ⟨fuel, h⟩ := h
  obtain ⟨cs0, rfl, hsz⟩ := okWide_struct Tryd.underlying25 hv
  obtain ⟨cs⟩ := cs0
  obtain ⟨n, hn, hl, hf⟩ := open_struct Tryd.underlying25 h
  rw [cells_program] at hl
  obtain ⟨a0, a1, a2, a3, hcs⟩ := four hl
  have hcs' : cs = [a0, a1, a2, a3] := hcs
  subst hcs'
  obtain ⟨y0, t0⟩ := hf 0 _ rfl
  obtain ⟨y1, t1⟩ := hf 1 _ rfl
  obtain ⟨y2, t2⟩ := hf 2 _ rfl
  obtain ⟨y3, t3⟩ := hf 3 _ rfl
  obtain ⟨dv, dl, e0, drow, dk⟩ := open_list Df.cells (fun d => RowS w 1 d.pv (d.params.map fun s => [sV s]) ∧ d.body.Has w ∧ d.name.length ≤ 9223372036854775807 ∧ ∀ s ∈ d.params, s.length ≤ 9223372036854775807) (by decide : 0 < 12) Tryd.underlying22 cells_def t0 (fun n' cs y _ => open_def n' cs y) Df.cells_len
  obtain ⟨a, e1, -, -⟩ := DataW.trod_int Tryd.underlying3 t1
  obtain ⟨s, e2, -, w2⟩ := DataW.trod_string Tryd.underlying9 t2
  obtain ⟨v, l, e3, hrow, hk⟩ := open_list Ex.cells (fun e => e.Has w) (by decide : 0 < 5) Tryd.underlying23 cells_expr t3 (fun n' cs y _ => open_expr n' cs y) Ex.cells_len
  simp [cells_defs, Value.cells] at e0
  simp [cells_int, Value.cells] at e1
  simp [cells_string, Value.cells] at e2
  simp [cells_exprs, Value.cells] at e3
  subst e0 e1 e2 e3
  exact ⟨⟨_, dl, a, s.data.toList, _, l⟩, rfl, ⟨drow, fun d hd => (dk d hd).1, fun d hd => (dk d hd).2.1, ⟨hrow, hk⟩, fun d hd => (dk d hd).2.2, str_room w2⟩⟩
end
end Go.Proofs.YtojogolmcclpoaaDoor
