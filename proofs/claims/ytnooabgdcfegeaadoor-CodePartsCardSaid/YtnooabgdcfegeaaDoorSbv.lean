/-
  Proved here: arguments that are slices of items, opened; arguments of which nothing has turned read as they did. Conditions: none.
-/
import Derived.Test.YtnooabgdcfegeaaDoorSbt
import Derived.Test.YtnooabgdcfegeaaDoorSbu
import Derived.Carry
import Derived.ChangeSame
import Derived.ChangeSlices
import Derived.Deep.Fields
import Derived.Deep.Slices
import Derived.Lib.SmallJoins
import Derived.OpenShut
import Derived.ProofKit
namespace Go.Proofs.YtnooabgdcfegeaaDoor
open Go.ChangeShapes Go.WideShapes Go.ChangeAt Go.RowKit Go.Deep Go.Joins
set_option linter.unusedVariables false
set_option linter.unusedSimpArgs false
theorem in_of {x : Int} (h : (Lit.int .u64 x).wf = true) : 0 ≤ x ∧ x < 18446744073709551616 := by
  simp [Lit.wf, IntKind.min, IntKind.max, IntKind.signed, IntKind.bits] at h
  omega
theorem list_of {α : Type} (n : Nat) (P : Nat → α → Prop) (h : ∀ i, i < n → ∃ x, P i x) : ∃ l : List α, l.length = n ∧ ∀ i x, l[i]? = some x → P i x := by
  induction n with
  | zero => exact ⟨[], rfl, fun i x hx => by simp at hx⟩
  | succ n ih =>
    obtain ⟨l, hl, hp⟩ := ih fun i hi => h i (by omega)
    obtain ⟨x, hx⟩ := h n (by omega)
    refine ⟨l ++ [x], by simp [hl], fun i y hy => ?_⟩
    rw [List.getElem?_append] at hy
    split at hy
    · exact hp i y hy
    · rename_i hge
      by_cases e : i - l.length = 0
      · rw [e] at hy
        simp at hy
        obtain rfl : i = n := by omega
        rw [← hy]; exact hx
      · rw [List.getElem?_eq_none (by simp; omega)] at hy; cases hy
section
variable {H : Type} {enc : TypeId × Value → H} {P : Program}
/-- Of the arguments nothing has turned: each reads as it did. -/
theorem args_stay (hl : laidOutB P = true) {W W' : World} {sp : Nat → Bool} (hb : Below W.heap.size W W') : ∀ {ts : List TypeId} {vs : List Value} {ds : List (DataW H)} {ps : List MemPlace},
    DataW.TrodAll enc P W 0 (fun _ => true) true ts vs ds ps → (∀ t ∈ ts, P.readableRec t = true ∧ t < P.types.size) → (∀ x ∈ ps, x.block < W.heap.size) → (∀ x ∈ ps, sp x.block = true) →
    DataW.TrodAll enc P W' 0 sp true ts vs ds ps
  | [], vs, ds, ps, h, _, _, _ => by
    obtain ⟨rfl, rfl, rfl⟩ := trodAll_nil h
    exact trodAll_mk0
  | t :: ts, vs, ds, ps, h, ht, hlt, hsp => by
    obtain ⟨v, vs', d, ds', p, q, rfl, rfl, rfl, h1, h2⟩ := trodAll_cons h
    obtain ⟨hr, hrow⟩ := ht t (List.mem_cons_self ..)
    exact trodAll_cons_mk (WideElems.Trod_stays hl hr hrow h1 (fun x hx => hb.same (hlt x (List.mem_append_left _ hx))) (fun x hx => hsp x (List.mem_append_left _ hx)))
      (args_stay hl hb h2 (fun t h => ht t (List.mem_cons_of_mem _ h)) (fun x hx => hlt x (List.mem_append_right _ hx)) (fun x hx => hsp x (List.mem_append_right _ hx)))
end
theorem plain_addr {w : World} {a : Addr} {v : Value} (h : w.cell? a = some v) : a = ⟨a.block, a.off, none⟩ := by
  cases a with
  | mk b o s =>
    cases s with
    | none => rfl
    | some s =>
      unfold World.cell? at h
      split at h
      · simp at h
      · cases h
/-- A slice that holds rows of s cells each. -/
def RowS (w : World) (s : Nat) (v : Value) (rows : List (List Value)) : Prop := ∃ (A : Option Addr) (cap : Nat), v = .slice A rows.length cap ∧ rows.length ≤ cap ∧ rows.length ≤ 9223372036854775807 ∧ (A = none → cap = 0) ∧
  ∀ (i : Nat) (r : List Value), rows[i]? = some r → ∃ b o, A = some ⟨b, o, none⟩ ∧ ∀ (j : Nat) (u : Value), r[j]? = some u → w.cell? ⟨b, o + i * s + j, none⟩ = some u
section
variable {H : Type} {enc : TypeId × Value → H} {P : Program} {w : World} {base : Nat} {spare : Nat → Bool} {held : Bool}
/-- A slice that came in, each of whose parts is known to open. -/
theorem open_list {α : Type} (cells : α → List Value) (Q : α → Prop) {size : Nat} (hs0 : 0 < size) {t e : TypeId} {fuel : Nat} {cs : List Value} {x : DataW H × List MemPlace} (ht : P.underlying t = some (.slice e)) (hsz : P.cellsOf e = size)
    (h : DataW.trod enc P w base spare held fuel t cs = some x)
    (ih : ∀ n cs y, n < fuel → DataW.trod enc P w base spare held n e cs = some y → ∃ a, cs = cells a ∧ Q a) (hlen : ∀ a, (cells a).length = size) :
    ∃ (v : Value) (l : List α), cs = [v] ∧ RowS w size v (l.map cells) ∧ ∀ a ∈ l, Q a := by
  rcases DataW.trod_slice ht h with ⟨rfl, -⟩ | ⟨a, len, cap, elems, rest, n, rfl, rfl, -, hb, hl, hm, hel, he, -⟩
  · exact ⟨_, [], rfl, ⟨none, 0, rfl, Nat.le_refl _, by simp, fun _ => rfl, fun i r hi => by simp at hi⟩, fun a ha => by cases ha⟩
  · rw [hsz] at he
    obtain ⟨l, hll, hp⟩ := list_of len (fun i (y : α) => w.cells? base (a.add (i * size)) size = some (cells y) ∧ Q y) (fun i hi => by
      have h1 := he i hi
      rw [List.getElem?_eq_getElem (by omega)] at h1
      obtain ⟨cs', h2, h3⟩ := Option.bind_eq_some_iff.1 h1
      obtain ⟨y, rfl, hy⟩ := ih n cs' _ (Nat.lt_succ_self n) h3
      exact ⟨y, h2, hy⟩)
    refine ⟨_, l, rfl, ⟨some a, cap, by rw [List.length_map, hll], by rw [List.length_map, hll]; exact hl, by rw [List.length_map, hll]; unfold maxLen at hm; omega, (fun h => nomatch h), fun i r hi => ?_⟩, fun y hy => ?_⟩
    · rw [List.getElem?_map, Option.map_eq_some_iff] at hi
      obtain ⟨y, hy, rfl⟩ := hi
      obtain ⟨h1, -⟩ := hp i y hy
      obtain ⟨-, -, h2⟩ := World.cells?_some h1
      have hpa : a = ⟨a.block, a.off, none⟩ := by
        have hi0 : 0 < len := by have := (List.getElem?_eq_some_iff.1 hy).1; omega
        obtain ⟨y0, hy0⟩ : ∃ y0, l[0]? = some y0 := ⟨_, List.getElem?_eq_getElem (by omega)⟩
        obtain ⟨h3, -⟩ := hp 0 y0 hy0
        obtain ⟨-, -, h4⟩ := World.cells?_some h3
        have h5 := h4 0 hs0
        rw [List.getElem?_eq_getElem (by rw [hlen]; exact hs0)] at h5
        have e0 : (a.add (0 * size)).add 0 = a := by rw [Go.Deep.add_add]; simp [Addr.add]
        rw [e0] at h5
        exact plain_addr h5
      refine ⟨a.block, a.off, by rw [← hpa], fun j u hu => ?_⟩
      have hj : j < size := by have := (List.getElem?_eq_some_iff.1 hu).1; rw [hlen] at this; exact this
      have h6 := h2 j hj
      rw [hu, Go.Deep.add_add, hpa, Addr.add_mid] at h6
      rw [show a.off + i * size + j = a.off + (i * size + j) by omega]
      exact h6
    · obtain ⟨i, hi, e⟩ := List.mem_iff_getElem.1 hy
      exact (hp i y (by rw [List.getElem?_eq_getElem hi, e])).2
end
section
variable {H : Type} {enc : TypeId × Value → H} {w : World} {base : Nat} {spare : Nat → Bool} {held : Bool}
/-- A struct that came in: each field's own cells. -/
theorem open_struct {P : Program} {t : TypeId} {fs : Array Field} {fuel : Nat} {cs : List Value} {x : DataW H × List MemPlace} (he : P.underlying t = some (.struct fs)) (h : DataW.trod enc P w base spare held fuel t cs = some x) :
    ∃ n, n < fuel ∧ cs.length = P.cellsOf t ∧ ∀ (i : Nat) (f : Field), fs[i]? = some f → ∃ y, DataW.trod enc P w base spare held n f.type ((cs.drop f.offset).take (P.cellsOf f.type)) = some y := by
  obtain ⟨xs, n, rfl, -, hl, hx, hf⟩ := DataW.trod_struct he h
  refine ⟨n, Nat.lt_succ_self n, hl, fun i f hi => ?_⟩
  have h1 := hf i f hi
  have h2 : i < fs.size := (Array.getElem?_eq_some_iff.1 hi).1
  rw [List.getElem?_eq_getElem (by omega)] at h1
  exact ⟨_, h1⟩
set_option maxRecDepth 100000 in
theorem cells_item : Tryd.prog.cellsOf 39 = 10 := by kernel_rfl
theorem cells_int3 : Tryd.prog.cellsOf 3 = 1 := by kernel_rfl
theorem cells_bool4 : Tryd.prog.cellsOf 4 = 1 := by kernel_rfl
theorem cells_str9 : Tryd.prog.cellsOf 9 = 1 := by kernel_rfl
theorem cells_u64 : Tryd.prog.cellsOf 23 = 1 := by kernel_rfl
theorem ten {cs : List Value} (h : cs.length = 10) : ∃ a b c d e f g i j k, cs = [a, b, c, d, e, f, g, i, j, k] := by
  match cs, h with
  | [a, b, c, d, e, f, g, i, j, k], _ => exact ⟨a, b, c, d, e, f, g, i, j, k, rfl⟩
/-- What is known of an item that came in. -/
def ItmOk (i : Itm) : Prop := 0 ≤ i.2.2.2 ∧ i.2.2.2 < 18446744073709551616 ∧ ImOk i.2.1
theorem i64_in {x : Int} (h : (Lit.int .i64 x).wf = true) : -9223372036854775808 ≤ x ∧ x < 9223372036854775808 := by
  simp [Lit.wf, IntKind.min, IntKind.max, IntKind.signed, IntKind.bits] at h
  omega
set_option maxRecDepth 100000 in
theorem open_item (n : Nat) (cs : List Value) (y : DataW H × List MemPlace) (h : DataW.trod enc Tryd.prog w base spare held n 39 cs = some y) : ∃ i : Itm, cs = itmC i ∧ ItmOk i := by
  obtain ⟨n1, hn1, hl, hf⟩ := open_struct Tryd.underlying39 h
  rw [cells_item] at hl
  obtain ⟨a, b, c, d, e, f, g, i, j, k, rfl⟩ := ten hl
  obtain ⟨y0, t0⟩ := hf 0 _ rfl
  obtain ⟨y1, t1⟩ := hf 1 _ rfl
  obtain ⟨y2, t2⟩ := hf 2 _ rfl
  obtain ⟨y3, t3⟩ := hf 3 _ rfl
  obtain ⟨n2, hn2, -, hf2⟩ := open_struct Tryd.underlying37 t1
  obtain ⟨z0, u0⟩ := hf2 0 _ rfl
  obtain ⟨z1, u1⟩ := hf2 1 _ rfl
  obtain ⟨z2, u2⟩ := hf2 2 _ rfl
  obtain ⟨z3, u3⟩ := hf2 3 _ rfl
  obtain ⟨z4, u4⟩ := hf2 4 _ rfl
  obtain ⟨z5, u5⟩ := hf2 5 _ rfl
  obtain ⟨z6, u6⟩ := hf2 6 _ rfl
  obtain ⟨x0, ex0, -, wx0⟩ := DataW.trod_int Tryd.underlying3 t0
  obtain ⟨q0, eq0, -, wq0⟩ := DataW.trod_int Tryd.underlying3 u0
  obtain ⟨q1, eq1, -, wq1⟩ := DataW.trod_int Tryd.underlying3 u1
  obtain ⟨q2, eq2, -, wq2⟩ := DataW.trod_int Tryd.underlying3 u2
  obtain ⟨q3, eq3, -, wq3⟩ := DataW.trod_int Tryd.underlying3 u3
  obtain ⟨q4, eq4, -, wq4⟩ := DataW.trod_int Tryd.underlying3 u4
  obtain ⟨q5, eq5, -⟩ := DataW.trod_bool Tryd.underlying4 u5
  obtain ⟨q6, eq6, -⟩ := DataW.trod_bool Tryd.underlying4 u6
  obtain ⟨s, es, -, ws⟩ := DataW.trod_string Tryd.underlying9 t2
  obtain ⟨vv, ev, -, wv⟩ := DataW.trod_int Tryd.underlying23 t3
  simp [cells_int3, cells_bool4, cells23] at ex0
  simp [cells_int3, cells_bool4, cells23] at eq0
  simp [cells_int3, cells_bool4, cells23] at eq1
  simp [cells_int3, cells_bool4, cells23] at eq2
  simp [cells_int3, cells_bool4, cells23] at eq3
  simp [cells_int3, cells_bool4, cells23] at eq4
  simp [cells_int3, cells_bool4, cells23] at eq5
  simp [cells_int3, cells_bool4, cells23] at eq6
  simp [cells_str9] at es
  simp [cells_u64] at ev
  subst ex0 eq0 eq1 eq2 eq3 eq4 eq5 eq6 es ev
  exact ⟨(x0, (q0, q1, q2, q3, q4, q5, q6), s, vv), rfl, (in_of wv).1, (in_of wv).2, i64_in wq4⟩
set_option maxRecDepth 100000 in
theorem open_items {r : Reach} {b0 : Nat} {v : Value} {d : DataW H} {p : List MemPlace} (hv : Value.okWide Tryd.prog w r b0 22 v) (h : DataW.Trod enc Tryd.prog w base spare held 22 v d p) :
    ∃ is : List Itm, RowS w 10 v (is.map itmC) ∧ ∀ i ∈ is, ItmOk i := by
  obtain ⟨a1, len1, cap1, rfl⟩ := okWide_slice Tryd.underlying22 hv
  obtain ⟨fuel, hf⟩ := h
  obtain ⟨v2, l, e, hrow, hk⟩ := open_list itmC ItmOk (by decide : 0 < 10) Tryd.underlying22 cells_item hf (fun n cs y _ => open_item n cs y) (fun i => rfl)
  simp [Value.cells] at e
  subst e
  exact ⟨l, hrow, hk⟩
end
theorem items_at {w : World} {v : Value} {is : List Itm} (h : RowS w 10 v (is.map itmC)) : ∃ (it : Option Addr) (b off cap : Nat), v = .slice it is.length cap ∧ is.length ≤ cap ∧ is.length ≤ 9223372036854775807 ∧ (is ≠ [] → it = some ⟨b, off, none⟩) ∧ ItAt w b off is := by
  obtain ⟨A, cap, rfl, hc, hl, hn, hr⟩ := h
  rw [List.length_map] at hc hl ⊢
  by_cases e : is = []
  · subst e
    exact ⟨A, 0, 0, cap, rfl, hc, hl, fun h => absurd rfl h, fun k i hk => by simp at hk⟩
  · have h0 : 0 < is.length := List.length_pos_iff.2 e
    obtain ⟨b, o, hA, -⟩ := hr 0 _ (by rw [List.getElem?_map, List.getElem?_eq_getElem h0]; rfl)
    refine ⟨A, b, o, cap, rfl, hc, hl, fun _ => hA, fun k i hk j u hu => ?_⟩
    obtain ⟨b', o', hA', hcell⟩ := hr k (itmC i) (by rw [List.getElem?_map, hk]; rfl)
    rw [hA] at hA'
    cases hA'
    exact hcell j u hu
end Go.Proofs.YtnooabgdcfegeaaDoor
