/-
  Proved here: arguments that are slices of instructions, bytes, or harts, opened; arguments of which nothing has turned read as they did. Conditions: none.
-/
import Derived.Test.YtmggichckhoomaaGreatDoorQal
import Derived.Test.YtmggichckhoomaaGreatDoorQbn
import Derived.Deep.Slices
import Derived.Deep.Fields
import Derived.OpenShut
import Derived.ChangeSlices
import Derived.ChangeSame
import Derived.Carry
namespace Go.Proofs.YtmggichckhoomaaGreatDoor
open Go.ChangeShapes Go.WideShapes Go.ChangeAt Go.RowKit Go.Deep Go.Joins
set_option linter.unusedVariables false
set_option linter.unusedSimpArgs false
theorem in_of {x : Int} (h : (Lit.int .u64 x).wf = true) : 0 ≤ x ∧ x < 18446744073709551616 := by
  simp [Lit.wf, IntKind.min, IntKind.max, IntKind.signed, IntKind.bits] at h
  omega
def InR (x : Int) : Prop := -9223372036854775808 ≤ x ∧ x < 9223372036854775808
/-- The cells of instructions, one behind the other. -/
def Ins (w : World) (b off : Nat) (is : List In7) : Prop := ∀ k, k < is.length → ∃ i, is[k]? = some i ∧
  w.cell? ⟨b, off + k * 7, none⟩ = some (.int .i64 i.1) ∧ w.cell? ⟨b, off + k * 7 + 1, none⟩ = some (.int .i64 i.2.1) ∧ w.cell? ⟨b, off + k * 7 + 2, none⟩ = some (.int .i64 i.2.2.1) ∧ w.cell? ⟨b, off + k * 7 + 3, none⟩ = some (.int .i64 i.2.2.2.1) ∧ w.cell? ⟨b, off + k * 7 + 4, none⟩ = some (.int .i64 i.2.2.2.2.1) ∧ w.cell? ⟨b, off + k * 7 + 5, none⟩ = some (.bool i.2.2.2.2.2.1) ∧ w.cell? ⟨b, off + k * 7 + 6, none⟩ = some (.bool i.2.2.2.2.2.2)
theorem Ins.nb {a c : World} {b off : Nat} {is : List In7} (h : Ins a b off is) (hn : Nb a c) : Ins c b off is := by
  intro k hk
  obtain ⟨i, hi, c0, c1, c2, c3, c4, c5, c6⟩ := h k hk
  exact ⟨i, hi, hn.cell c0, hn.cell c1, hn.cell c2, hn.cell c3, hn.cell c4, hn.cell c5, hn.cell c6⟩
theorem Ins.at_ {w : World} {b off : Nat} {is : List In7} (h : Ins w b off is) (k : Nat) (i : In7) (hi : is[k]? = some i) :
  w.cell? ⟨b, off + k * 7, none⟩ = some (.int .i64 i.1) ∧ w.cell? ⟨b, off + k * 7 + 1, none⟩ = some (.int .i64 i.2.1) ∧ w.cell? ⟨b, off + k * 7 + 2, none⟩ = some (.int .i64 i.2.2.1) ∧ w.cell? ⟨b, off + k * 7 + 3, none⟩ = some (.int .i64 i.2.2.2.1) ∧ w.cell? ⟨b, off + k * 7 + 4, none⟩ = some (.int .i64 i.2.2.2.2.1) ∧ w.cell? ⟨b, off + k * 7 + 5, none⟩ = some (.bool i.2.2.2.2.2.1) ∧ w.cell? ⟨b, off + k * 7 + 6, none⟩ = some (.bool i.2.2.2.2.2.2) := by
  have hk : k < is.length := by
    rcases Nat.lt_or_ge k is.length with h1 | h1
    · exact h1
    · rw [List.getElem?_eq_none h1] at hi; cases hi
  obtain ⟨j, hj, hc⟩ := h k hk
  obtain rfl := Option.some.inj (hj.symm.trans hi)
  exact hc
theorem list_of {α : Type} (n : Nat) (P : Nat → α → Prop) (h : ∀ i, i < n → ∃ x, P i x) : ∃ l : List α, l.length = n ∧ ∀ i x, l[i]? = some x → P i x := by
  induction n with
  | zero => exact ⟨[], rfl, fun i x hx => by simp at hx⟩
  | succ n ih =>
    obtain ⟨l, hl, hp⟩ := ih fun i hi => h i (by omega)
    obtain ⟨x, hx⟩ := h n (by omega)
    refine ⟨l ++ [x], by simp [hl], fun i y hy => ?_⟩
    rw [List.getElem?_append] at hy
    split at hy
    · exact hp i y hy
    · rename_i hge
      by_cases e : i - l.length = 0
      · rw [e] at hy
        simp at hy
        obtain rfl : i = n := by omega
        rw [← hy]; exact hx
      · rw [List.getElem?_eq_none (by simp; omega)] at hy; cases hy
section
variable {H : Type} {enc : TypeId × Value → H} {P : Program} {base : Nat}
/-- Of the arguments nothing has turned: each reads as it did. -/
theorem args_stay (hl : laidOutB P = true) {W W' : World} {sp : Nat → Bool} (hb : Below W.heap.size W W') : ∀ {ts : List TypeId} {vs : List Value} {ds : List (DataW H)} {ps : List MemPlace},
    DataW.TrodAll enc P W 0 (fun _ => true) true ts vs ds ps → (∀ t ∈ ts, P.readableRec t = true ∧ t < P.types.size) → (∀ x ∈ ps, x.block < W.heap.size) → (∀ x ∈ ps, sp x.block = true) →
    DataW.TrodAll enc P W' 0 sp true ts vs ds ps
  | [], vs, ds, ps, h, _, _, _ => by
    obtain ⟨rfl, rfl, rfl⟩ := trodAll_nil h
    exact trodAll_mk0
  | t :: ts, vs, ds, ps, h, ht, hlt, hsp => by
    obtain ⟨v, vs', d, ds', p, q, rfl, rfl, rfl, h1, h2⟩ := trodAll_cons h
    obtain ⟨hr, hrow⟩ := ht t (List.mem_cons_self ..)
    exact trodAll_cons_mk (WideElems.Trod_stays hl hr hrow h1 (fun x hx => hb.same (hlt x (List.mem_append_left _ hx))) (fun x hx => hsp x (List.mem_append_left _ hx)))
      (args_stay hl hb h2 (fun t h => ht t (List.mem_cons_of_mem _ h)) (fun x hx => hlt x (List.mem_append_right _ hx)) (fun x hx => hsp x (List.mem_append_right _ hx)))
end
section
variable {H : Type} {enc : TypeId × Value → H} {P : Program} {w : World} {base : Nat} {spare : Nat → Bool} {held : Bool}
theorem open_slice_fields {t e : TypeId} {fs : Array Field} {fuel : Nat} {cs : List Value} {x : DataW H × List MemPlace} (ht : P.underlying t = some (.slice e)) (he : P.underlying e = some (.struct fs))
    (hone : oneCellFields P fs = true) (hC : P.cellsOf e = fs.size) (h : DataW.trod enc P w base spare held fuel t cs = some x) :
    (cs = [.slice none 0 0]) ∨
    ∃ (a : Addr) (len cap m : Nat), cs = [.slice (some a) len cap] ∧ len ≤ cap ∧ cap ≤ maxLen ∧ len ≤ m ∧
      ∀ i, i < m → ∃ (ys : List (DataW H × List MemPlace)) (n : Nat),
        ∀ (j : Nat) (f : Field), fs[j]? = some f → ∃ (v : Value) (y : DataW H × List MemPlace), w.cell? (a.add (i * fs.size + j)) = some v ∧ ys[j]? = some y ∧ DataW.trod enc P w base spare held n f.type [v] = some y := by
  rcases open_slice ht h with h0 | ⟨a, len, cap, m, n, D, Pl, hcs, hb, hl, hm, hmm, hx, hi⟩
  · exact .inl h0.1
  · refine .inr ⟨a, len, cap, m, hcs, hl, hm, by rw [hmm]; split <;> omega, fun i him => ?_⟩
    obtain ⟨cs', hc, ht'⟩ := hi i him
    rw [hC] at hc
    obtain ⟨ys, n', hn', hy, hlen, hyl, hf⟩ := DataW.trod_struct he ht'
    obtain ⟨_, hcl, hat⟩ := World.cells?_some hc
    refine ⟨ys, n', fun j f hj => ?_⟩
    obtain ⟨ho, hk⟩ := hone_of hone j f hj
    have hjl : j < fs.size := (Array.getElem?_eq_some_iff.1 hj).1
    have hcell := hat j hjl
    have hv : cs'[j]? = some (cs'[j]'(by omega)) := List.getElem?_eq_getElem (by omega)
    have h1 := hf j f hj
    rw [ho, hk] at h1
    have hone' : (cs'.drop j).take 1 = [cs'[j]'(by omega)] := by
      rw [List.drop_eq_getElem_cons (by omega)]
      rfl
    rw [hone'] at h1
    have hys : ys[j]? = some (ys[j]'(by omega)) := List.getElem?_eq_getElem (by omega)
    refine ⟨_, _, ?_, hys, h1.trans hys⟩
    rw [← Go.Deep.add_add, hcell, hv]
end
section
variable {H : Type} {enc : TypeId × Value → H} {w : World} {base : Nat} {spare : Nat → Bool} {held : Bool}
set_option maxRecDepth 100000 in
/-- A slice of instructions that came in. -/
theorem open_insts {r : Reach} {b0 : Nat} {v : Value} {d : DataW H} {p : List MemPlace} (hv : Value.okWide Tryz.prog w r b0 26 v) (h : DataW.Trod enc Tryz.prog w base spare held 26 v d p) :
    ∃ (A : Option Addr) (b off cap : Nat) (is : List In7), v = .slice A is.length cap ∧ (0 < is.length → A = some ⟨b, off, none⟩) ∧ Ins w b off is ∧ (∀ i ∈ is, InR i.2.2.2.2.1) ∧ is.length ≤ 9223372036854775807 := by
  obtain ⟨a1, len1, cap1, rfl⟩ := okWide_slice Tryz.underlying26 hv
  obtain ⟨fuel, hf⟩ := h
  rcases open_slice_fields Tryz.underlying26 Tryz.underlying56 (by kernel_rfl) cells23 hf with hcs | ⟨a, len, cap, m, hcs, hl, hm, hlm, hi⟩
  · simp [Value.cells] at hcs
    obtain ⟨rfl, rfl, rfl⟩ := hcs
    exact ⟨none, 0, 0, 0, [], rfl, fun h => absurd h (by simp), (fun k hk => absurd hk (by simp)), (fun i h => by cases h), by simp⟩
  · simp [Value.cells] at hcs
    obtain ⟨rfl, rfl, rfl⟩ := hcs
    obtain ⟨is, hlen, hp⟩ := list_of len1 (fun i (x : In7) => InR x.2.2.2.2.1 ∧ w.cell? (a.add (i * 7 + 0)) = some (.int .i64 x.1) ∧ w.cell? (a.add (i * 7 + 1)) = some (.int .i64 x.2.1) ∧ w.cell? (a.add (i * 7 + 2)) = some (.int .i64 x.2.2.1) ∧ w.cell? (a.add (i * 7 + 3)) = some (.int .i64 x.2.2.2.1)
        ∧ w.cell? (a.add (i * 7 + 4)) = some (.int .i64 x.2.2.2.2.1) ∧ w.cell? (a.add (i * 7 + 5)) = some (.bool x.2.2.2.2.2.1) ∧ w.cell? (a.add (i * 7 + 6)) = some (.bool x.2.2.2.2.2.2)) (fun i hil => by
      obtain ⟨ys, n, hq⟩ := hi i (by omega)
      obtain ⟨c0, y0, e0, -, t0⟩ := hq 0 _ rfl
      obtain ⟨c1, y1, e1, -, t1⟩ := hq 1 _ rfl
      obtain ⟨c2, y2, e2, -, t2⟩ := hq 2 _ rfl
      obtain ⟨c3, y3, e3, -, t3⟩ := hq 3 _ rfl
      obtain ⟨c4, y4, e4, -, t4⟩ := hq 4 _ rfl
      obtain ⟨c5, y5, e5, -, t5⟩ := hq 5 _ rfl
      obtain ⟨c6, y6, e6, -, t6⟩ := hq 6 _ rfl
      obtain ⟨x0, rfl, -, w0⟩ := int_in t0
      obtain ⟨x1, rfl, -, w1⟩ := int_in t1
      obtain ⟨x2, rfl, -, w2⟩ := int_in t2
      obtain ⟨x3, rfl, -, w3⟩ := int_in t3
      obtain ⟨x4, rfl, -, w4⟩ := int_in t4
      obtain ⟨x5, rfl, -⟩ := bool_in t5
      obtain ⟨x6, rfl, -⟩ := bool_in t6
      exact ⟨(x0, x1, x2, x3, x4, x5, x6), i64_of w4, e0, e1, e2, e3, e4, e5, e6⟩)
    subst hlen
    have hspot : 0 < is.length → a = ⟨a.block, a.off, none⟩ := fun h0 => by
      obtain ⟨x, hx⟩ : ∃ x, is[0]? = some x := ⟨is[0], List.getElem?_eq_getElem h0⟩
      have h1 := (hp 0 x hx).2.1
      have e : a.add (0 * 7 + 0) = a := rfl
      rw [e] at h1
      cases a with
      | mk b o s =>
        cases s with
        | none => rfl
        | some s =>
          unfold World.cell? at h1
          split at h1
          · simp at h1
          · cases h1
    refine ⟨some a, a.block, a.off, cap1, is, rfl, fun h0 => by rw [← hspot h0], fun k hk => ?_, fun i hi => ?_, ?_⟩
    · have hx : is[k]? = some is[k] := List.getElem?_eq_getElem hk
      obtain ⟨-, e0, e1, e2, e3, e4, e5, e6⟩ := hp k _ hx
      have ha := hspot (by omega)
      have hadd : ∀ n, a.add n = ⟨a.block, a.off + n, none⟩ := fun n => by
        unfold Addr.add
        split
        · rename_i hn; subst hn; exact ha
        · rfl
      simp only [hadd, Nat.add_zero, ← Nat.add_assoc] at e0 e1 e2 e3 e4 e5 e6
      exact ⟨is[k], hx, e0, e1, e2, e3, e4, e5, e6⟩
    · obtain ⟨k, hk, rfl⟩ := List.mem_iff_getElem.1 hi
      exact (hp k _ (List.getElem?_eq_getElem hk)).1
    · unfold maxLen at hm; omega
end
section
variable {H : Type} {enc : TypeId × Value → H} {w : World} {base : Nat} {spare : Nat → Bool} {held : Bool}
end
section
variable {H : Type} {enc : TypeId × Value → H} {w : World} {base : Nat} {spare : Nat → Bool} {held : Bool}
theorem u64_in {fuel : Nat} {v : Value} {y : DataW H × List MemPlace} (h : DataW.trod enc Tryz.prog w base spare held fuel 22 [v] = some y) : ∃ x, v = .int .u64 x ∧ InU x := by
  obtain ⟨a, e0, rfl, wa⟩ := DataW.trod_int Tryz.underlying22 h
  simp at e0
  exact ⟨a, e0, in_of wa⟩
theorem regs_in {cs : List Value} {n : Nat} (hl : cs.length = n) (h : ∀ i, i < n → ∃ x : Int, cs[i]? = some (.int .u64 x) ∧ InU x) : ∃ xs : List Int, xs.length = n ∧ cs = xV xs ∧ ∀ v ∈ xs, InU v := by
  induction n generalizing cs with
  | zero => exact ⟨[], rfl, List.eq_nil_of_length_eq_zero hl, fun v hv => by cases hv⟩
  | succ n ih =>
    cases cs with
    | nil => simp at hl
    | cons c r =>
      obtain ⟨x, hx, qx⟩ := h 0 (by omega)
      obtain ⟨xs, h1, h2, h3⟩ := ih (cs := r) (by simpa using hl) (fun i hi => by
        obtain ⟨y, hy, qy⟩ := h (i + 1) (by omega)
        exact ⟨y, by simpa using hy, qy⟩)
      simp at hx
      refine ⟨x :: xs, by simp [h1], by rw [hx, h2]; rfl, fun v hv => ?_⟩
      rcases List.mem_cons.1 hv with rfl | hv
      · exact qx
      · exact h3 v hv
set_option maxRecDepth 100000 in
theorem cells_hart : Tryz.prog.cellsOf 25 = 36 := by kernel_rfl
theorem cells_u64 : Tryz.prog.cellsOf 22 = 1 := by kernel_rfl
theorem cells_int : Tryz.prog.cellsOf 3 = 1 := by kernel_rfl
theorem cells_bool : Tryz.prog.cellsOf 4 = 1 := by kernel_rfl
theorem cells_regs : Tryz.prog.cellsOf 23 = 32 := by kernel_rfl
theorem one_of {cs : List Value} {i : Nat} (h : i < cs.length) : (cs.drop i).take 1 = [cs[i]] := by
  rw [List.drop_eq_getElem_cons h]; rfl
set_option maxRecDepth 100000 in
/-- A hart that came in. -/
theorem open_hart {r : Reach} {b0 : Nat} {v : Value} {d : DataW H} {p : List MemPlace} (hv : Value.okWide Tryz.prog w r b0 25 v) (h : DataW.Trod enc Tryz.prog w base spare held 25 v d p) :
    ∃ hh : HV, v = hA hh ∧ HOk hh := by
  obtain ⟨cs, rfl, hsz⟩ := okWide_struct Tryz.underlying25 hv
  obtain ⟨fuel, hf⟩ := h
  obtain ⟨xs, n, -, -, hl, hxl, hh⟩ := DataW.trod_struct Tryz.underlying25 hf
  rw [cells_hart] at hl
  have hl' : cs.toList.length = 36 := by simpa [Value.cells] using hl
  have g0 : DataW.trod enc Tryz.prog w base spare held n 22 ((cs.toList.drop 0).take (Tryz.prog.cellsOf 22)) = xs[0]? := hh 0 _ rfl
  have g1 : DataW.trod enc Tryz.prog w base spare held n 23 ((cs.toList.drop 1).take (Tryz.prog.cellsOf 23)) = xs[1]? := hh 1 _ rfl
  have g2 : DataW.trod enc Tryz.prog w base spare held n 4 ((cs.toList.drop 33).take (Tryz.prog.cellsOf 4)) = xs[2]? := hh 2 _ rfl
  have g3 : DataW.trod enc Tryz.prog w base spare held n 22 ((cs.toList.drop 34).take (Tryz.prog.cellsOf 22)) = xs[3]? := hh 3 _ rfl
  have g4 : DataW.trod enc Tryz.prog w base spare held n 3 ((cs.toList.drop 35).take (Tryz.prog.cellsOf 3)) = xs[4]? := hh 4 _ rfl
  rw [cells_u64, one_of (by omega), List.getElem?_eq_getElem (by rw [hxl]; decide)] at g0
  rw [cells_regs, List.getElem?_eq_getElem (by rw [hxl]; decide)] at g1
  rw [cells_bool, one_of (by omega), List.getElem?_eq_getElem (by rw [hxl]; decide)] at g2
  rw [cells_u64, one_of (by omega), List.getElem?_eq_getElem (by rw [hxl]; decide)] at g3
  rw [cells_int, one_of (by omega), List.getElem?_eq_getElem (by rw [hxl]; decide)] at g4
  obtain ⟨pc, e0, q0⟩ := u64_in g0
  obtain ⟨held', e2, -⟩ := bool_in g2
  obtain ⟨ad, e3, q3⟩ := u64_in g3
  obtain ⟨sz, e4, -, q4⟩ := int_in g4
  obtain ⟨ys, m, -, -, hal, hyl, ha⟩ := DataW.trod_array Tryz.underlying23 g1
  rw [cells_regs] at hal
  obtain ⟨rs, r1, r2, r3⟩ := regs_in (n := 32) hal (fun i hi => by
    have hi2 := ha i hi
    rw [cells_u64, Nat.mul_one, one_of (by omega), List.getElem?_eq_getElem (by omega)] at hi2
    obtain ⟨x, hx, qx⟩ := u64_in hi2
    exact ⟨x, by rw [List.getElem?_eq_getElem (by omega), hx], qx⟩)
  refine ⟨⟨pc, rs, held', ad, sz⟩, ?_, ⟨r1, q0, r3, q3, i64_of q4⟩⟩
  unfold hA hC
  dsimp only
  congr 1
  apply Array.ext'
  rw [← r2]
  have h1 : cs.toList.drop 33 = [cs.toList[33], cs.toList[34], cs.toList[35]] := by
    rw [List.drop_eq_getElem_cons (by omega), List.drop_eq_getElem_cons (by omega), List.drop_eq_getElem_cons (by omega), List.drop_of_length_le (by omega)]
  have h2 : cs.toList = cs.toList[0] :: cs.toList.drop 1 := by
    have := List.drop_eq_getElem_cons (l := cs.toList) (i := 0) (by omega)
    simpa using this
  have h3 : cs.toList.drop 1 = (cs.toList.drop 1).take 32 ++ cs.toList.drop 33 := by
    have := (List.take_append_drop 32 (cs.toList.drop 1)).symm
    rwa [List.drop_drop] at this
  have h4 : cs.toList = cs.toList[0] :: ((cs.toList.drop 1).take 32 ++ [cs.toList[33], cs.toList[34], cs.toList[35]]) := by
    rw [← h1, ← h3]; exact h2
  rw [e0, e2, e3, e4] at h4
  exact h4
end
end Go.Proofs.YtmggichckhoomaaGreatDoor
