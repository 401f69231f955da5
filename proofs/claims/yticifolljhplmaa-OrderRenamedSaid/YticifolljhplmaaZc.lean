/-
  Proved here: the frame of the laws on order: how their arguments are opened, and the row's last step. Conditions: none.
-/
import Derived.Test.YticifolljhplmaaYt
import Derived.Test.YticifolljhplmaaRows
import Derived.ProofKit
import Derived.OpenShut
import Derived.ChangeSlices
import Derived.ChangeSame
import Derived.Carry
import Derived.Deep.Slices
import Derived.Deep.Fields
import Derived.Lib.SmallJoins
namespace Go.Proofs.Yticifolljhplmaa
open Go.ChangeShapes Go.WideShapes Go.ChangeAt Go.RowKit Go.Deep Go.Joins
set_option linter.unusedVariables false
set_option linter.unusedSimpArgs false
theorem own : ownKnob Try.prog.godebug = none := by kernel_rfl
theorem i64_of {x : Int} (h : (Lit.int .i64 x).wf = true) : -9223372036854775808 ≤ x ∧ x < 9223372036854775808 := by
  simp [Lit.wf, IntKind.min, IntKind.max, IntKind.signed, IntKind.bits] at h
  omega
theorem in_of {x : Int} (h : (Lit.int .u64 x).wf = true) : 0 ≤ x ∧ x < 18446744073709551616 := by
  simp [Lit.wf, IntKind.min, IntKind.max, IntKind.signed, IntKind.bits] at h
  omega
def InR (x : Int) : Prop := -9223372036854775808 ≤ x ∧ x < 9223372036854775808
theorem list_of {α : Type} (n : Nat) (P : Nat → α → Prop) (h : ∀ i, i < n → ∃ x, P i x) : ∃ l : List α, l.length = n ∧ ∀ i x, l[i]? = some x → P i x := by
  induction n with
  | zero => exact ⟨[], rfl, fun i x hx => by simp at hx⟩
  | succ n ih =>
    obtain ⟨l, hl, hp⟩ := ih fun i hi => h i (by omega)
    obtain ⟨x, hx⟩ := h n (by omega)
    refine ⟨l ++ [x], by simp [hl], fun i y hy => ?_⟩
    rw [List.getElem?_append] at hy
    split at hy
    · exact hp i y hy
    · rename_i hge
      by_cases e : i - l.length = 0
      · rw [e] at hy
        simp at hy
        obtain rfl : i = n := by omega
        rw [← hy]; exact hx
      · rw [List.getElem?_eq_none (by simp; omega)] at hy; cases hy
section
variable {H : Type} {enc : TypeId × Value → H} {P : Program}
/-- The row's last step where of what was there nothing has turned. -/
theorem post_of_nb {f : Func} {s : ChangeSpec} {apart fresh handsOn again : Bool} {W W' : World} {args : Array Value} {v : Value} {ds gs : List (DataW H)} {before pa pv : List MemPlace}
    (hW : DataW.Whole enc P f.params.toList s.vars apart W args.toList ds gs before)
    (hres : ∀ (b : Nat) (sp : Nat → Bool) (hd : Bool), DataW.TrodAll enc P W' b sp hd f.resultTypes.toList (v.resultList f.resultTypes.size) (s.fn H (ds ++ gs)).results [])
    (hargs : ∀ sp : Nat → Bool, (∀ p ∈ before, sp p.block = true) → DataW.TrodAll enc P W' 0 sp true f.params.toList args.toList (s.fn H (ds ++ gs)).args pa)
    (hvars : ∀ sp : Nat → Bool, (∀ p ∈ before, sp p.block = true) → DataW.TrodVars enc P W' sp s.vars (s.fn H (ds ++ gs)).vars pv)
    (hps : before = pa ++ pv) (hb : Below W.heap.size W W')
    (hok : ∀ (j : Nat) (t : TypeId) (r : Value), f.resultTypes[j]? = some t → (v.resultList f.resultTypes.size)[j]? = some r → Value.okWide P W' .any 0 t r) :
    s.post enc P f apart fresh handsOn again W args v W' := by
  have hlt : ∀ p ∈ before, p.block < W.heap.size := fun p hp => hW.lt p hp
  have hold : ∀ p ∈ before, (fun b => decide (b < W.heap.size)) p.block = true := fun p hp => by simpa using hlt p hp
  refine ⟨ds, gs, before, [], pa, pv, hW, hres _ _ _, hargs _ hold, hvars _ hold, World.keptBut_mono (fun p hp => ⟨hp, ?_⟩) (hb.frame (· ∈ before)), fun _ => ?_⟩
  · rw [hps, List.mem_append] at hp
    exact Or.inr hp
  · obtain ⟨_, _, _, _, _, hz, hn⟩ := hW
    refine ⟨hok, _, _, ([] ++ pa) ++ pv, ⟨[] ++ pa, pv, trodAll_append (hargs _ (fun _ _ => rfl)) (hres _ _ _), hvars _ (fun _ _ => rfl), rfl, ?_, ?_⟩, ?_⟩
    · intro b off hp
      have hin : MemPlace.cell b off ∈ before := by rw [hps]; simpa using hp
      rw [hb.frozen (hlt _ hin)]
      exact hz b off hin
    · intro ha
      have := hn ha
      rw [hps] at this
      simpa using this
    · intro p hp _
      rw [hps]
      simpa using hp
/-- Of the arguments nothing has turned: each reads as it did. -/
theorem args_stay (hl : laidOutB P = true) {W W' : World} {sp : Nat → Bool} (hb : Below W.heap.size W W') : ∀ {ts : List TypeId} {vs : List Value} {ds : List (DataW H)} {ps : List MemPlace},
    DataW.TrodAll enc P W 0 (fun _ => true) true ts vs ds ps → (∀ t ∈ ts, P.readableRec t = true ∧ t < P.types.size) → (∀ x ∈ ps, x.block < W.heap.size) → (∀ x ∈ ps, sp x.block = true) →
    DataW.TrodAll enc P W' 0 sp true ts vs ds ps
  | [], vs, ds, ps, h, _, _, _ => by
    obtain ⟨rfl, rfl, rfl⟩ := trodAll_nil h
    exact trodAll_mk0
  | t :: ts, vs, ds, ps, h, ht, hlt, hsp => by
    obtain ⟨v, vs', d, ds', p, q, rfl, rfl, rfl, h1, h2⟩ := trodAll_cons h
    obtain ⟨hr, hrow⟩ := ht t (List.mem_cons_self ..)
    exact trodAll_cons_mk (WideElems.Trod_stays hl hr hrow h1 (fun x hx => hb.same (hlt x (List.mem_append_left _ hx))) (fun x hx => hsp x (List.mem_append_left _ hx)))
      (args_stay hl hb h2 (fun t h => ht t (List.mem_cons_of_mem _ h)) (fun x hx => hlt x (List.mem_append_right _ hx)) (fun x hx => hsp x (List.mem_append_right _ hx)))
end
section
variable {H : Type} {enc : TypeId × Value → H} {P : Program} {w : World} {base : Nat} {spare : Nat → Bool} {held : Bool}
theorem open_slice_fields {t e : TypeId} {fs : Array Field} {fuel : Nat} {cs : List Value} {x : DataW H × List MemPlace} (ht : P.underlying t = some (.slice e)) (he : P.underlying e = some (.struct fs))
    (hone : oneCellFields P fs = true) (hC : P.cellsOf e = fs.size) (h : DataW.trod enc P w base spare held fuel t cs = some x) :
    (cs = [.slice none 0 0]) ∨
    ∃ (a : Addr) (len cap m : Nat), cs = [.slice (some a) len cap] ∧ len ≤ cap ∧ cap ≤ maxLen ∧ len ≤ m ∧
      ∀ i, i < m → ∃ (ys : List (DataW H × List MemPlace)) (n : Nat),
        ∀ (j : Nat) (f : Field), fs[j]? = some f → ∃ (v : Value) (y : DataW H × List MemPlace), w.cell? (a.add (i * fs.size + j)) = some v ∧ ys[j]? = some y ∧ DataW.trod enc P w base spare held n f.type [v] = some y := by
  rcases open_slice ht h with h0 | ⟨a, len, cap, m, n, D, Pl, hcs, hb, hl, hm, hmm, hx, hi⟩
  · exact .inl h0.1
  · refine .inr ⟨a, len, cap, m, hcs, hl, hm, by rw [hmm]; split <;> omega, fun i him => ?_⟩
    obtain ⟨cs', hc, ht'⟩ := hi i him
    rw [hC] at hc
    obtain ⟨ys, n', hn', hy, hlen, hyl, hf⟩ := DataW.trod_struct he ht'
    obtain ⟨_, hcl, hat⟩ := World.cells?_some hc
    refine ⟨ys, n', fun j f hj => ?_⟩
    obtain ⟨ho, hk⟩ := hone_of hone j f hj
    have hjl : j < fs.size := (Array.getElem?_eq_some_iff.1 hj).1
    have hcell := hat j hjl
    have hv : cs'[j]? = some (cs'[j]'(by omega)) := List.getElem?_eq_getElem (by omega)
    have h1 := hf j f hj
    rw [ho, hk] at h1
    have hone' : (cs'.drop j).take 1 = [cs'[j]'(by omega)] := by
      rw [List.drop_eq_getElem_cons (by omega)]
      rfl
    rw [hone'] at h1
    have hys : ys[j]? = some (ys[j]'(by omega)) := List.getElem?_eq_getElem (by omega)
    refine ⟨_, _, ?_, hys, h1.trans hys⟩
    rw [← Go.Deep.add_add, hcell, hv]
end
section
variable {H : Type} {enc : TypeId × Value → H} {w : World} {base : Nat} {spare : Nat → Bool} {held : Bool}
theorem int_in {fuel : Nat} {v : Value} {y : DataW H × List MemPlace} (h : DataW.trod enc Try.prog w base spare held fuel 3 [v] = some y) : ∃ x, v = .int .i64 x ∧ y = (.lit (.int .i64 x), []) ∧ (Lit.int .i64 x).wf = true := by
  obtain ⟨a, e0, rfl, wa⟩ := DataW.trod_int Try.underlying3 h
  simp at e0
  exact ⟨a, e0, rfl, wa⟩
theorem bool_in {fuel : Nat} {v : Value} {y : DataW H × List MemPlace} (h : DataW.trod enc Try.prog w base spare held fuel 4 [v] = some y) : ∃ x, v = .bool x ∧ y = (.lit (.bool x), []) := by
  obtain ⟨a, e0, rfl⟩ := DataW.trod_bool Try.underlying4 h
  simp at e0
  exact ⟨a, e0, rfl⟩
theorem u64_in {fuel : Nat} {v : Value} {y : DataW H × List MemPlace} (h : DataW.trod enc Try.prog w base spare held fuel 30 [v] = some y) : ∃ x, v = .int .u64 x ∧ (Lit.int .u64 x).wf = true := by
  obtain ⟨a, e0, -, wa⟩ := DataW.trod_int Try.underlying30 h
  simp at e0
  exact ⟨a, e0, wa⟩
/-- An address at which a cell is known is no place within one. -/
theorem plain_addr {a : Addr} {v : Value} (h : w.cell? a = some v) : a = ⟨a.block, a.off, none⟩ := by
  cases a with
  | mk b o s =>
    cases s with
    | none => rfl
    | some s =>
      unfold World.cell? at h
      split at h
      · simp at h
      · cases h
/-- A slice of ints that came in. -/
theorem ints_in {fuel : Nat} {v : Value} {y : DataW H × List MemPlace} (h : DataW.trod enc Try.prog w base spare held fuel 27 [v] = some y) : ∃ xs : List Int, IntsR w v xs ∧ xs.length ≤ 9223372036854775807 ∧ ∀ x ∈ xs, -9223372036854775808 ≤ x ∧ x < 9223372036854775808 := by
  rcases open_ints Try.underlying27 Try.underlying3 (by kernel_rfl) h with ⟨hcs, -⟩ | ⟨a, len, cap, zs, hcs, _, hl, hm, hz, -, hcell, hwz⟩
  · simp at hcs
    exact ⟨[], .inl ⟨⟨_, _, hcs⟩, rfl⟩, by simp, fun x hx => by cases hx⟩
  · simp at hcs
    by_cases h0 : len = 0
    · subst h0
      exact ⟨[], .inl ⟨⟨_, _, hcs⟩, rfl⟩, by simp, fun x hx => by cases hx⟩
    have hle : len ≤ zs.length := by rw [hz]; split <;> omega
    have hlen : (zs.take len).length = len := by simp; omega
    have hp := plain_addr (hcell 0 (by omega))
    have hp' : a = ⟨a.block, a.off, none⟩ := by
      rw [Addr.add_zero'] at hp
      exact hp
    refine ⟨zs.take len, .inr ⟨a.block, a.off, cap, by rw [hlen, ← hp']; exact hcs, ?_, by rw [hlen]; exact hl, fun i x hx => ?_⟩, by rw [hlen]; unfold maxLen at hm; omega, fun x hx => i64_of (hwz x (List.mem_of_mem_take hx))⟩
    · exact World.block_lt_of_cell? w _ (hcell 0 (by omega))
    · rw [List.getElem?_take] at hx
      split at hx
      · rename_i hi
        have h1 := hcell i (by omega)
        rw [hp', Addr.add_mid] at h1
        rw [h1, List.getD_eq_getElem?_getD, hx]
        rfl
      · cases hx
set_option maxRecDepth 100000 in
theorem cells_op : Try.prog.cellsOf 32 = 17 := by kernel_rfl
set_option maxRecDepth 100000 in
set_option maxHeartbeats 1000000 in
/-- A slice of operations that came in. -/
theorem open_ops {r : Reach} {b0 : Nat} {v : Value} {d : DataW H} {p : List MemPlace} (hv : Value.okWide Try.prog w r b0 22 v) (h : DataW.Trod enc Try.prog w base spare held 22 v d p) :
    ∃ l : List OpD, OpsR0 w v l ∧ l.length ≤ 9223372036854775807 ∧ (∀ m ∈ l, -9223372036854775808 ≤ m.pair ∧ m.pair < 9223372036854775808) ∧ ∀ n c, v = .slice none n c → c = 0 := by
  obtain ⟨a1, len1, cap1, rfl⟩ := okWide_slice Try.underlying22 hv
  obtain ⟨fuel, hf⟩ := h
  rcases open_slice_fields Try.underlying22 Try.underlying32 (by kernel_rfl) cells_op hf with hcs | ⟨a, len, cap, m, hcs, hl, hm, hlm, hi⟩
  · simp [Value.cells] at hcs
    obtain ⟨rfl, rfl, rfl⟩ := hcs
    exact ⟨[], .inl ⟨⟨_, _, rfl⟩, rfl⟩, by simp, (fun x hx => by cases hx), (fun n c e => by injection e with _ _ e; exact e.symm)⟩
  · simp [Value.cells] at hcs
    obtain ⟨rfl, rfl, rfl⟩ := hcs
    by_cases h0 : len1 = 0
    · subst h0
      exact ⟨[], .inl ⟨⟨_, _, rfl⟩, rfl⟩, by simp, (fun x hx => by cases hx), (fun n c e => by cases e)⟩
    have hpa : a = ⟨a.block, a.off, none⟩ := by
      obtain ⟨ys, n, hq⟩ := hi 0 (by omega)
      obtain ⟨c0, y0, e0, -, t0⟩ := hq 0 _ rfl
      exact plain_addr (a := a) e0
    have hlt : a.block < w.heap.size := by
      obtain ⟨ys, n, hq⟩ := hi 0 (by omega)
      obtain ⟨c0, y0, e0, -, t0⟩ := hq 0 _ rfl
      exact World.block_lt_of_cell? w _ e0
    obtain ⟨l, hlen, hp⟩ := list_of len1 (fun i (x : OpD) => OpAt0 w a.block (a.off + i * 17) x ∧ -9223372036854775808 ≤ x.pair ∧ x.pair < 9223372036854775808) (fun i hil => by
      obtain ⟨ys, n, hq⟩ := hi i (by omega)
      obtain ⟨c0, y0, e0, -, t0⟩ := hq 0 _ rfl
      obtain ⟨c1, y1, e1, -, t1⟩ := hq 1 _ rfl
      obtain ⟨c2, y2, e2, -, t2⟩ := hq 2 _ rfl
      obtain ⟨c3, y3, e3, -, t3⟩ := hq 3 _ rfl
      obtain ⟨c4, y4, e4, -, t4⟩ := hq 4 _ rfl
      obtain ⟨c5, y5, e5, -, t5⟩ := hq 5 _ rfl
      obtain ⟨c6, y6, e6, -, t6⟩ := hq 6 _ rfl
      obtain ⟨c7, y7, e7, -, t7⟩ := hq 7 _ rfl
      obtain ⟨c8, y8, e8, -, t8⟩ := hq 8 _ rfl
      obtain ⟨c9, y9, e9, -, t9⟩ := hq 9 _ rfl
      obtain ⟨c10, y10, e10, -, t10⟩ := hq 10 _ rfl
      obtain ⟨c11, y11, e11, -, t11⟩ := hq 11 _ rfl
      obtain ⟨c12, y12, e12, -, t12⟩ := hq 12 _ rfl
      obtain ⟨c13, y13, e13, -, t13⟩ := hq 13 _ rfl
      obtain ⟨c14, y14, e14, -, t14⟩ := hq 14 _ rfl
      obtain ⟨c15, y15, e15, -, t15⟩ := hq 15 _ rfl
      obtain ⟨c16, y16, e16, -, t16⟩ := hq 16 _ rfl
      have hat : ∀ j, a.add (i * 17 + j) = ⟨a.block, a.off + i * 17 + j, none⟩ := fun j => by rw [hpa, Addr.add_mid]; simp only [Addr.mk.injEq, true_and, and_true]; omega
      replace e0 : w.cell? ⟨a.block, a.off + i * 17 + 0, none⟩ = some c0 := by rw [← hat 0]; exact e0
      replace e1 : w.cell? ⟨a.block, a.off + i * 17 + 1, none⟩ = some c1 := by rw [← hat 1]; exact e1
      replace e2 : w.cell? ⟨a.block, a.off + i * 17 + 2, none⟩ = some c2 := by rw [← hat 2]; exact e2
      replace e3 : w.cell? ⟨a.block, a.off + i * 17 + 3, none⟩ = some c3 := by rw [← hat 3]; exact e3
      replace e4 : w.cell? ⟨a.block, a.off + i * 17 + 4, none⟩ = some c4 := by rw [← hat 4]; exact e4
      replace e5 : w.cell? ⟨a.block, a.off + i * 17 + 5, none⟩ = some c5 := by rw [← hat 5]; exact e5
      replace e6 : w.cell? ⟨a.block, a.off + i * 17 + 6, none⟩ = some c6 := by rw [← hat 6]; exact e6
      replace e7 : w.cell? ⟨a.block, a.off + i * 17 + 7, none⟩ = some c7 := by rw [← hat 7]; exact e7
      replace e8 : w.cell? ⟨a.block, a.off + i * 17 + 8, none⟩ = some c8 := by rw [← hat 8]; exact e8
      replace e9 : w.cell? ⟨a.block, a.off + i * 17 + 9, none⟩ = some c9 := by rw [← hat 9]; exact e9
      replace e10 : w.cell? ⟨a.block, a.off + i * 17 + 10, none⟩ = some c10 := by rw [← hat 10]; exact e10
      replace e11 : w.cell? ⟨a.block, a.off + i * 17 + 11, none⟩ = some c11 := by rw [← hat 11]; exact e11
      replace e12 : w.cell? ⟨a.block, a.off + i * 17 + 12, none⟩ = some c12 := by rw [← hat 12]; exact e12
      replace e13 : w.cell? ⟨a.block, a.off + i * 17 + 13, none⟩ = some c13 := by rw [← hat 13]; exact e13
      replace e14 : w.cell? ⟨a.block, a.off + i * 17 + 14, none⟩ = some c14 := by rw [← hat 14]; exact e14
      replace e15 : w.cell? ⟨a.block, a.off + i * 17 + 15, none⟩ = some c15 := by rw [← hat 15]; exact e15
      replace e16 : w.cell? ⟨a.block, a.off + i * 17 + 16, none⟩ = some c16 := by rw [← hat 16]; exact e16
      obtain ⟨x0, rfl, -, w0⟩ := int_in t0
      obtain ⟨x1, rfl, -⟩ := bool_in t1
      obtain ⟨x2, rfl, -⟩ := bool_in t2
      obtain ⟨x3, rfl, -⟩ := bool_in t3
      obtain ⟨x4, rfl, w4⟩ := u64_in t4
      obtain ⟨x5, rfl, -, w5⟩ := int_in t5
      obtain ⟨x6, rfl, -⟩ := bool_in t6
      obtain ⟨x7, rfl, -⟩ := bool_in t7
      obtain ⟨x8, rfl, -, w8⟩ := int_in t8
      obtain ⟨x9, rfl, -, w9⟩ := int_in t9
      obtain ⟨x10, rfl, w10⟩ := u64_in t10
      obtain ⟨x11, rfl, w11⟩ := u64_in t11
      obtain ⟨x12, r12, l12, g12⟩ := ints_in t12
      obtain ⟨x13, rfl, -, w13⟩ := int_in t13
      obtain ⟨x14, r14, l14, g14⟩ := ints_in t14
      obtain ⟨x15, r15, l15, g15⟩ := ints_in t15
      obtain ⟨x16, r16, l16, g16⟩ := ints_in t16
      exact ⟨⟨x0, x1, x2, x3, x4, x5, x6, x7, x8, x9, x10, x11, c12, x12, x13, c14, x14, c15, x15, c16, x16⟩, ⟨hlt, e0, e1, e2, e3, e4, e5, e6, e7, e8, e9, e10, e11, e12, e13, e14, e15, e16, r12, r14, r15, r16, ⟨(in_of w4).1, (in_of w4).2, (i64_of w5).1, (i64_of w5).2, (i64_of w0).1, (i64_of w0).2, g12, l12, l14, l15, l16⟩⟩, i64_of w13⟩)
    subst hlen
    refine ⟨l, .inr ⟨a.block, a.off, cap1, by rw [← hpa], hlt, hl, fun i d hd => (hp i d hd).1⟩, by unfold maxLen at hm; omega, fun m hm => ?_, fun n c e => by cases e⟩
    obtain ⟨i, hi, e⟩ := List.mem_iff_getElem.1 hm
    exact (hp i m (by rw [List.getElem?_eq_getElem hi, e])).2
end
end Go.Proofs.Yticifolljhplmaa
