/-
  Proved here: an argument that is a slice of instructions, opened; arguments of which nothing has turned read as they did. Conditions: none.
-/
import Derived.Test.YtmggichckhoomaaDoorMa
import Derived.Test.YtmggichckhoomaaDoorSa
import Derived.Deep.Slices
import Derived.Deep.Fields
import Derived.ChangeSame
import Derived.Carry
namespace Go.Proofs.YtmggichckhoomaaDoor
open Go.ChangeShapes Go.WideShapes Go.ChangeAt Go.RowKit Go.Deep
set_option linter.unusedVariables false
set_option linter.unusedSimpArgs false
theorem list_of {α : Type} (n : Nat) (P : Nat → α → Prop) (h : ∀ i, i < n → ∃ x, P i x) : ∃ l : List α, l.length = n ∧ ∀ i x, l[i]? = some x → P i x := by
  induction n with
  | zero => exact ⟨[], rfl, fun i x hx => by simp at hx⟩
  | succ n ih =>
    obtain ⟨l, hl, hp⟩ := ih fun i hi => h i (by omega)
    obtain ⟨x, hx⟩ := h n (by omega)
    refine ⟨l ++ [x], by simp [hl], fun i y hy => ?_⟩
    rw [List.getElem?_append] at hy
    split at hy
    · exact hp i y hy
    · rename_i hge
      by_cases e : i - l.length = 0
      · rw [e] at hy
        simp at hy
        obtain rfl : i = n := by omega
        rw [← hy]; exact hx
      · rw [List.getElem?_eq_none (by simp; omega)] at hy; cases hy
section
variable {H : Type} {enc : TypeId × Value → H} {P : Program} {base : Nat}
/-- Of the arguments nothing has turned: each reads as it did. -/
theorem args_stay (hl : laidOutB P = true) {W W' : World} {sp : Nat → Bool} (hb : Below W.heap.size W W') : ∀ {ts : List TypeId} {vs : List Value} {ds : List (DataW H)} {ps : List MemPlace},
    DataW.TrodAll enc P W 0 (fun _ => true) true ts vs ds ps → (∀ t ∈ ts, P.readableRec t = true ∧ t < P.types.size) → (∀ x ∈ ps, x.block < W.heap.size) → (∀ x ∈ ps, sp x.block = true) →
    DataW.TrodAll enc P W' 0 sp true ts vs ds ps
  | [], vs, ds, ps, h, _, _, _ => by
    obtain ⟨rfl, rfl, rfl⟩ := trodAll_nil h
    exact trodAll_mk0
  | t :: ts, vs, ds, ps, h, ht, hlt, hsp => by
    obtain ⟨v, vs', d, ds', p, q, rfl, rfl, rfl, h1, h2⟩ := trodAll_cons h
    obtain ⟨hr, hrow⟩ := ht t (List.mem_cons_self ..)
    exact trodAll_cons_mk (WideElems.Trod_stays hl hr hrow h1 (fun x hx => hb.same (hlt x (List.mem_append_left _ hx))) (fun x hx => hsp x (List.mem_append_left _ hx)))
      (args_stay hl hb h2 (fun t h => ht t (List.mem_cons_of_mem _ h)) (fun x hx => hlt x (List.mem_append_right _ hx)) (fun x hx => hsp x (List.mem_append_right _ hx)))
end
section
variable {H : Type} {enc : TypeId × Value → H} {P : Program} {w : World} {base : Nat} {spare : Nat → Bool} {held : Bool}
theorem open_slice_fields {t e : TypeId} {fs : Array Field} {fuel : Nat} {cs : List Value} {x : DataW H × List MemPlace} (ht : P.underlying t = some (.slice e)) (he : P.underlying e = some (.struct fs))
    (hone : oneCellFields P fs = true) (hC : P.cellsOf e = fs.size) (h : DataW.trod enc P w base spare held fuel t cs = some x) :
    (cs = [.slice none 0 0]) ∨
    ∃ (a : Addr) (len cap m : Nat), cs = [.slice (some a) len cap] ∧ len ≤ cap ∧ cap ≤ maxLen ∧ len ≤ m ∧
      ∀ i, i < m → ∃ (ys : List (DataW H × List MemPlace)) (n : Nat),
        ∀ (j : Nat) (f : Field), fs[j]? = some f → ∃ (v : Value) (y : DataW H × List MemPlace), w.cell? (a.add (i * fs.size + j)) = some v ∧ ys[j]? = some y ∧ DataW.trod enc P w base spare held n f.type [v] = some y := by
  rcases open_slice ht h with h0 | ⟨a, len, cap, m, n, D, Pl, hcs, hb, hl, hm, hmm, hx, hi⟩
  · exact .inl h0.1
  · refine .inr ⟨a, len, cap, m, hcs, hl, hm, by rw [hmm]; split <;> omega, fun i him => ?_⟩
    obtain ⟨cs', hc, ht'⟩ := hi i him
    rw [hC] at hc
    obtain ⟨ys, n', hn', hy, hlen, hyl, hf⟩ := DataW.trod_struct he ht'
    obtain ⟨_, hcl, hat⟩ := World.cells?_some hc
    refine ⟨ys, n', fun j f hj => ?_⟩
    obtain ⟨ho, hk⟩ := hone_of hone j f hj
    have hjl : j < fs.size := (Array.getElem?_eq_some_iff.1 hj).1
    have hcell := hat j hjl
    have hv : cs'[j]? = some (cs'[j]'(by omega)) := List.getElem?_eq_getElem (by omega)
    have h1 := hf j f hj
    rw [ho, hk] at h1
    have hone' : (cs'.drop j).take 1 = [cs'[j]'(by omega)] := by
      rw [List.drop_eq_getElem_cons (by omega)]
      rfl
    rw [hone'] at h1
    have hys : ys[j]? = some (ys[j]'(by omega)) := List.getElem?_eq_getElem (by omega)
    refine ⟨_, _, ?_, hys, h1.trans hys⟩
    rw [← Go.Deep.add_add, hcell, hv]
end
section
variable {H : Type} {enc : TypeId × Value → H} {w : World} {base : Nat} {spare : Nat → Bool} {held : Bool}
set_option maxRecDepth 100000 in
/-- A slice of instructions that came in. -/
theorem open_insts {r : Reach} {b0 : Nat} {v : Value} {d : DataW H} {p : List MemPlace} (hv : Value.okWide Tryd.prog w r b0 22 v) (h : DataW.Trod enc Tryd.prog w base spare held 22 v d p) :
    ∃ (A : Option Addr) (b off cap : Nat) (is : List I7), v = .slice A is.length cap ∧ (0 < is.length → A = some ⟨b, off, none⟩) ∧ Ins w b off is ∧ (∀ i ∈ is, InR i.2.2.2.2.1) ∧ is.length ≤ 9223372036854775807 := by
  obtain ⟨a1, len1, cap1, rfl⟩ := okWide_slice Tryd.underlying22 hv
  obtain ⟨fuel, hf⟩ := h
  rcases open_slice_fields Tryd.underlying22 Tryd.underlying33 (by kernel_rfl) cells23 hf with hcs | ⟨a, len, cap, m, hcs, hl, hm, hlm, hi⟩
  · simp [Value.cells] at hcs
    obtain ⟨rfl, rfl, rfl⟩ := hcs
    exact ⟨none, 0, 0, 0, [], rfl, fun h => absurd h (by simp), (fun k hk => absurd hk (by simp)), (fun i h => by cases h), by simp⟩
  · simp [Value.cells] at hcs
    obtain ⟨rfl, rfl, rfl⟩ := hcs
    obtain ⟨is, hlen, hp⟩ := list_of len1 (fun i (x : I7) => InR x.2.2.2.2.1 ∧ w.cell? (a.add (i * 7 + 0)) = some (.int .i64 x.1) ∧ w.cell? (a.add (i * 7 + 1)) = some (.int .i64 x.2.1) ∧ w.cell? (a.add (i * 7 + 2)) = some (.int .i64 x.2.2.1) ∧ w.cell? (a.add (i * 7 + 3)) = some (.int .i64 x.2.2.2.1)
        ∧ w.cell? (a.add (i * 7 + 4)) = some (.int .i64 x.2.2.2.2.1) ∧ w.cell? (a.add (i * 7 + 5)) = some (.bool x.2.2.2.2.2.1) ∧ w.cell? (a.add (i * 7 + 6)) = some (.bool x.2.2.2.2.2.2)) (fun i hil => by
      obtain ⟨ys, n, hq⟩ := hi i (by omega)
      obtain ⟨c0, y0, e0, -, t0⟩ := hq 0 _ rfl
      obtain ⟨c1, y1, e1, -, t1⟩ := hq 1 _ rfl
      obtain ⟨c2, y2, e2, -, t2⟩ := hq 2 _ rfl
      obtain ⟨c3, y3, e3, -, t3⟩ := hq 3 _ rfl
      obtain ⟨c4, y4, e4, -, t4⟩ := hq 4 _ rfl
      obtain ⟨c5, y5, e5, -, t5⟩ := hq 5 _ rfl
      obtain ⟨c6, y6, e6, -, t6⟩ := hq 6 _ rfl
      obtain ⟨x0, rfl, -, w0⟩ := int_in t0
      obtain ⟨x1, rfl, -, w1⟩ := int_in t1
      obtain ⟨x2, rfl, -, w2⟩ := int_in t2
      obtain ⟨x3, rfl, -, w3⟩ := int_in t3
      obtain ⟨x4, rfl, -, w4⟩ := int_in t4
      obtain ⟨x5, rfl, -⟩ := bool_in t5
      obtain ⟨x6, rfl, -⟩ := bool_in t6
      exact ⟨(x0, x1, x2, x3, x4, x5, x6), i64_of w4, e0, e1, e2, e3, e4, e5, e6⟩)
    subst hlen
    have hspot : 0 < is.length → a = ⟨a.block, a.off, none⟩ := fun h0 => by
      obtain ⟨x, hx⟩ : ∃ x, is[0]? = some x := ⟨is[0], List.getElem?_eq_getElem h0⟩
      have h1 := (hp 0 x hx).2.1
      have e : a.add (0 * 7 + 0) = a := rfl
      rw [e] at h1
      cases a with
      | mk b o s =>
        cases s with
        | none => rfl
        | some s =>
          unfold World.cell? at h1
          split at h1
          · simp at h1
          · cases h1
    refine ⟨some a, a.block, a.off, cap1, is, rfl, fun h0 => by rw [← hspot h0], fun k hk => ?_, fun i hi => ?_, ?_⟩
    · have hx : is[k]? = some is[k] := List.getElem?_eq_getElem hk
      obtain ⟨-, e0, e1, e2, e3, e4, e5, e6⟩ := hp k _ hx
      have ha := hspot (by omega)
      have hadd : ∀ n, a.add n = ⟨a.block, a.off + n, none⟩ := fun n => by
        unfold Addr.add
        split
        · rename_i hn; subst hn; exact ha
        · rfl
      simp only [hadd, Nat.add_zero, ← Nat.add_assoc] at e0 e1 e2 e3 e4 e5 e6
      exact ⟨is[k], hx, e0, e1, e2, e3, e4, e5, e6⟩
    · obtain ⟨k, hk, rfl⟩ := List.mem_iff_getElem.1 hi
      exact (hp k _ (List.getElem?_eq_getElem hk)).1
    · unfold maxLen at hm; omega
end
/-- A row of instructions of one's own, as a slice. -/
theorem flat_get (is : List I7) (k j : Nat) (i : I7) (hk : is[k]? = some i) (hj : j < 7) : (is.flatMap fun i => [Value.int .i64 i.1, .int .i64 i.2.1, .int .i64 i.2.2.1, .int .i64 i.2.2.2.1, .int .i64 i.2.2.2.2.1, .bool i.2.2.2.2.2.1, .bool i.2.2.2.2.2.2])[k * 7 + j]? =
    [Value.int .i64 i.1, .int .i64 i.2.1, .int .i64 i.2.2.1, .int .i64 i.2.2.2.1, .int .i64 i.2.2.2.2.1, .bool i.2.2.2.2.2.1, .bool i.2.2.2.2.2.2][j]? := by
  induction is generalizing k with
  | nil => simp at hk
  | cons a r ih =>
    rw [List.flatMap_cons]
    cases k with
    | zero =>
      simp at hk
      subst hk
      rw [List.getElem?_append_left (by simp; omega)]
      simp
    | succ k =>
      rw [List.getElem?_append_right (by simp; omega)]
      simp only [List.getElem?_cons_succ] at hk
      rw [← ih k hk]
      congr 1
      simp; omega
theorem own_ins {w : World} {base cap0 : Nat} {v : Value} {n : Nat} {is : List I7} (hn : n = is.length)
    (h : w.ownsRow base 33 7 v n (is.flatMap fun i => [Value.int .i64 i.1, .int .i64 i.2.1, .int .i64 i.2.2.1, .int .i64 i.2.2.2.1, .int .i64 i.2.2.2.2.1, .bool i.2.2.2.2.2.1, .bool i.2.2.2.2.2.2])) :
    ∃ (A : Option Addr) (g cap : Nat), v = .slice A is.length cap ∧ (0 < is.length → A = some ⟨g, 0, none⟩) ∧ Ins w g 0 is := by
  subst hn
  rcases h.2 with ⟨rfl, h0⟩ | ⟨g, cap, cur, rfl, hb, hg, hc, hm, hs, ht⟩
  · have : is = [] := List.eq_nil_of_length_eq_zero h0
    subst this
    exact ⟨none, 0, 0, rfl, fun h => absurd h (by simp), fun k hk => absurd hk (by simp)⟩
  · refine ⟨some ⟨g, 0, none⟩, g, cap, rfl, fun _ => rfl, fun k hk => ?_⟩
    have hx : is[k]? = some is[k] := List.getElem?_eq_getElem hk
    have key : ∀ j (u : Value), j < 7 → [Value.int .i64 is[k].1, .int .i64 is[k].2.1, .int .i64 is[k].2.2.1, .int .i64 is[k].2.2.2.1, .int .i64 is[k].2.2.2.2.1, .bool is[k].2.2.2.2.2.1, .bool is[k].2.2.2.2.2.2][j]? = some u → w.cell? ⟨g, 0 + k * 7 + j, none⟩ = some u := by
      intro j u hj hu
      rw [← flat_get is k j _ hx hj, ← ht, List.getElem?_take] at hu
      split at hu
      · rw [cell_of_row _ _ _ _ _ _ hg, Nat.zero_add, ← Array.getElem?_toList]; exact hu
      · cases hu
    exact ⟨is[k], hx, key 0 _ (by decide) rfl, key 1 _ (by decide) rfl, key 2 _ (by decide) rfl, key 3 _ (by decide) rfl, key 4 _ (by decide) rfl, key 5 _ (by decide) rfl, key 6 _ (by decide) rfl⟩
end Go.Proofs.YtmggichckhoomaaDoor
