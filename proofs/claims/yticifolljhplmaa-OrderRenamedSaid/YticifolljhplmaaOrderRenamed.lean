/-
  draft: the walk of OrderRenamed.
-/
import Derived.Test.YticifolljhplmaaZc
import Derived.Test.YticifolljhplmaaZe
import Derived.Test.YticifolljhplmaaZf
import Derived.Test.YticifolljhplmaaZk
import Derived.Test.YticifolljhplmaaZn
import Derived.Test.YticifolljhplmaaZp
import Derived.Laws.EntriesVeiled
namespace Go.Proofs.Yticifolljhplmaa.orderRenamed
open Go.ChangeShapes Go.WideShapes Go.ChangeAt Go.RowKit
set_option linter.unusedVariables false
set_option linter.unusedSimpArgs false
/-- Its lists are ones that were made. -/
def ListsNew (w : World) (d : OpD) : Prop := NewI 0 w d.fv d.from_ ∧ NewI 0 w d.av d.addrs ∧ NewI 0 w d.dv d.datas ∧ NewI 0 w d.cv d.ctrls
/-- What stands between two rounds of the first loop: the operations so far, renamed. -/
def Sofar (w : World) (k : Int) (L : List OpD) (v : Value) (q : Nat) (wr : World) : Prop :=
  ∃ P : List (OpD × OpD), P.map Prod.fst = L.take q ∧ (∀ p ∈ P, Ren (renI k) p.1 p.2 ∧ p.1.In (fun x => x ≤ 1000) ∧ (ListsNew wr p.2 ∧ p.2.Ok) ∧ ShortOp p.2) ∧ wr.ownsRow w.heap.size 32 17 v q ((P.map Prod.snd).flatMap OpD.cells)
theorem NewI.low {B : Nat} {w : World} {u : Value} {xs : List Int} (h : NewI B w u xs) : NewI 0 w u xs := by
  refine ⟨⟨h.1.1, ?_⟩, h.2⟩
  rcases h.1.2 with h0 | ⟨g, cap, cur, hv, hg, r⟩
  · exact .inl h0
  · exact .inr ⟨g, cap, cur, hv, Nat.zero_le _, r⟩
theorem ListsNew.nb {w w' : World} {d : OpD} (h : ListsNew w d) (k : Nb w w') : ListsNew w' d := ⟨h.1.nb k, h.2.1.nb k, h.2.2.1.nb k, h.2.2.2.nb k⟩
theorem ListsNew.has {w : World} {d : OpD} (h : ListsNew w d) (k : d.Ok) : d.Has w := ⟨h.1.ints, h.2.1.ints, h.2.2.1.ints, h.2.2.2.ints, k⟩
theorem int_not_op : (3 : TypeId) ≠ 32 := by decide
theorem NewI.grown {B n : Nat} {w w' : World} {u v : Value} {xs : List Int} {ys : List Value} (h : NewI 0 w u xs) (ho : w.ownsRow B 32 17 v n ys) (hg : w.grownBy w' v.ownBlock) : NewI 0 w' u xs := by
  refine ⟨h.1.kept hg ?_, h.2⟩
  rcases h.1.2 with ⟨rfl, -⟩ | ⟨g, cap, cur, rfl, -, hb, -⟩
  · exact .inl rfl
  · rcases ho.2 with ⟨rfl, -⟩ | ⟨g', cap', cur', rfl, -, hb', -⟩
    · exact .inr (by simp [Value.ownBlock])
    · refine .inr fun e => ?_
      have e2 : g = g' := Option.some.inj e
      subst e2
      rw [hb] at hb'
      injection hb' with hb'
      injection hb' with h1 h2 h3
      exact int_not_op h2
theorem ListsNew.grown {B n : Nat} {w w' : World} {v : Value} {d : OpD} {ys : List Value} (h : ListsNew w d) (ho : w.ownsRow B 32 17 v n ys) (hg : w.grownBy w' v.ownBlock) : ListsNew w' d :=
  ⟨NewI.grown h.1 ho hg, NewI.grown h.2.1 ho hg, NewI.grown h.2.2.1 ho hg, NewI.grown h.2.2.2 ho hg⟩
theorem ren_room {k x : Int} (k1 : 1 ≤ k) (k2 : k ≤ 1000) (h : -9223372036854775808 ≤ x) (hx : x ≤ 1000) : -9223372036854775808 ≤ renI k x ∧ renI k x < 9223372036854775808 := by
  unfold renI
  split <;> omega
theorem ok_ren {d : OpD} {k : Int} {p : Int} {v1 v2 v3 v4 : Value} {l2 l3 l4 : List Int} (h : d.Ok) (k1 : 1 ≤ k) (k2 : k ≤ 1000) (hi : d.id ≤ 1000) (hf : ∀ x ∈ d.from_, x ≤ 1000) :
    ({ d with id := renI k d.id, pair := p, fv := v1, from_ := d.from_.map (renI k), av := v2, addrs := l2, dv := v3, datas := l3, cv := v4, ctrls := l4 } : OpD).Ok where
  a0 := h.a0
  a1 := h.a1
  s0 := h.s0
  s1 := h.s1
  fl := by show (d.from_.map (renI k)).length ≤ 20; rw [List.length_map]; exact h.fl
  i0 := (ren_room k1 k2 h.i0 hi).1
  i1 := (ren_room k1 k2 h.i0 hi).2
  fr := by
    intro x hx
    obtain ⟨y, hy, rfl⟩ := List.mem_map.1 hx
    exact ren_room k1 k2 (h.fr y hy).1 (hf y hy)
theorem short_ren {d : OpD} {k : Int} {p i : Int} {v1 v2 v3 v4 : Value} {l1 : List Int} (h2 : d.addrs.length ≤ 60) (h3 : d.datas.length ≤ 60) (h4 : d.ctrls.length ≤ 60) :
    ShortOp { d with id := i, pair := p, fv := v1, from_ := l1, av := v2, addrs := d.addrs.map (renI k), dv := v3, datas := d.datas.map (renI k), cv := v4, ctrls := d.ctrls.map (renI k) } := by
  refine ⟨?_, ?_, ?_⟩ <;> simp only [List.length_map] <;> omega
theorem great_le {xs : List Int} (h : greatB xs = false) : ∀ x ∈ xs, x ≤ 1000 := by
  intro x hx
  have h1 := List.any_eq_false.1 h x hx
  simp at h1
  omega
set_option maxRecDepth 100000 in
set_option maxHeartbeats 8000000 in
theorem main (p : Option Addr) (n c : Nat) (L : List OpD) (add : Int) (w : World) (hL : Hid (OpsR w (.slice p n c) L)) (hn' : Hid (L.length = n)) (l60 : n ≤ 60)
    (hslh : Hid (∀ m ∈ L, lightB m = true)) (hpr : Hid (∀ m ∈ L, InR m.pair)) (ha : InR add)
    (H1 : Hid (∀ w1, Nb w w1 → Calls Try.prog 9 #[.slice p n c] w1 fun e w' => e = .returned (.bool true) ∧ Nb w1 w')) :
    Calls Try.prog 3 #[.slice p n c, .int .i64 add] w fun e w' => e = .returned (.bool true) ∧ Nb w w' := by
  obtain ⟨i0, hi0, hz0, hz1, hz2⟩ := info_parts info_op
  obtain ⟨X, hX⟩ : ∃ X, IntKind.u64.wrap add = X := ⟨_, rfl⟩
  have hXb : 0 ≤ X ∧ X < 18446744073709551616 := by rw [← hX, IntKind.wrap_u64]; omega
  obtain ⟨r, hr⟩ : ∃ r : Nat, X % 1000 = (r : Int) := ⟨(X % 1000).toNat, by omega⟩
  have hr1 : r < 1000 := by omega
  obtain ⟨hX0, hX1⟩ := hXb
  have e0 : IntKind.i64.wrap (1 + (r : Int)) = (r : Int) + 1 := by rw [IntKind.wrap_i64]; omega
  go_enter Try.func3, Try.ntmps3
  go_upto_region 2 with fail
  obtain ⟨W1, hW⟩ : ∃ W1, w.alloc (.cells #[.int .i64 ((r : Int) + 1)] 3) = W1 := ⟨_, rfl⟩
  have n1 : Nb w W1 := by rw [← hW]; exact (Nb.refl w).alloc _
  have bk : W1.heap[w.heap.size]? = some (.cells #[.int .i64 ((r : Int) + 1)] 3 (0, 0)) := by rw [← hW]; exact new_blk _ _ rfl
  rw [hW]
  clear hW
  go_upto_region 4 with (first
    | (go_at_call 9; (with_reducible refine (H1.out _ n1).mono ?_); rintro e w2 ⟨rfl, k2⟩))
  replace bk := k2.block bk
  have n2 := n1.trans k2
  clear H1 n1 k2
  go_upto_region 5 with fail
  obtain ⟨W3, hW⟩ : ∃ W3, w2.alloc (.cells #[.func (.func 11) #[] #[.pointer (some ⟨w.heap.size, 0, none⟩)]] 26) = W3 := ⟨_, rfl⟩
  have n3 : Nb w W3 := by rw [← hW]; exact n2.alloc _
  have bf : W3.heap[w2.heap.size]? = some (.cells #[.func (.func 11) #[] #[.pointer (some ⟨w.heap.size, 0, none⟩)]] 26 (0, 0)) := by rw [← hW]; exact new_blk _ _ rfl
  replace bk : W3.heap[w.heap.size]? = some (.cells #[.int .i64 ((r : Int) + 1)] 3 (0, 0)) := by rw [← hW]; exact old_blk bk _
  rw [hW]
  clear hW
  go_wp2_with fail
  have kr : (1 : Int) ≤ (r : Int) + 1 ∧ (r : Int) + 1 ≤ 1000 := by omega
  obtain ⟨kr1, kr2⟩ := kr
  have bkh := Lib.hid bk
  have bfh := Lib.hid bf
  have hiO := Lib.hid (show (Try.prog.info? 32).map (·.size) = some 17 by kernel_rfl)
  clear hX0 hX1 hr hX e0 bk bf hi0 hz0 hz1 hz2
  have hLx := Lib.hid hL.out.cases
  go_loopw [9, 27] (fun u i wr => ∃ q : Nat, q ≤ n ∧ i = .int .i64 q ∧ Hid (Sofar W3 ((r : Int) + 1) L u q wr) ∧ Nb W3 wr) (fun _ i _ => n - (intOf i).toNat)
  case atStart => exact ⟨0, Nat.zero_le _, rfl, Lib.hid ⟨[], by simp, by simp, World.ownsRow_nil _ _ _ _⟩, Nb.refl _⟩
  case round =>
    obtain ⟨q, hq, rfl, hS, hN⟩ := hrel
    by_cases hlt : q < n
    · obtain ⟨b, o, d, hpe, hd, hA, hcap⟩ : ∃ (b o : Nat) (m : OpD), p = some ⟨b, o, none⟩ ∧ L[q]? = some m ∧ OpAt w b (o + q * 17) m ∧ n ≤ c := by
        obtain ⟨p', c', e, h⟩ := hLx.out
        injection e with e1 e2 e3
        subst e1 e3
        rw [hn'.out] at h
        exact h q hlt
      subst hpe
      have hd' := Lib.hid hd
      have hA2 := hA.nb (n3.trans hN)
      have hR := hA2.range
      have hcap' : q < c := by omega
      have e1 : IntKind.i64.wrap ((q : Int) + 1) = ((q + 1 : Nat) : Int) := by rw [IntKind.wrap_i64]; omega
      have oneD := Lib.hid (show d.cells.toArray.all (·.oneCell') = true from Array.all_eq_true_iff_forall_mem.2 (fun u hu => hA.has.ones u (by simpa using hu)))
      have hAh := Lib.hid hA
      clear hd hA hA2
      go_upto_region 11 with (first
        | (refine wpList_load_mid rfl 32 (.tmp 29) rfl b (o + q * 17) rfl d.cells _ hR Try.underlying32 rfl hiO.out ?_)
        | (refine wpList_store_new rfl 32 (.tmp 11) (.tmp 30) rfl _ d.cells.toArray _ rfl rfl hiO.out rfl oneD.out ?_))
      simp only [Act.put]
      obtain ⟨W4, hW⟩ : ∃ W4, wr.alloc (.cells d.cells.toArray 32) = W4 := ⟨_, rfl⟩
      have n4 : Nb wr W4 := by rw [← hW]; exact (Nb.refl wr).alloc _
      have bo : W4.heap[wr.heap.size]? = some (.cells d.cells.toArray 32 (0, 0)) := by rw [← hW]; exact new_blk _ _ rfl
      rw [hW]
      clear hW hR
      have a0 : W4.cell? ⟨wr.heap.size, 0, none⟩ = some (.int .i64 d.id) := cell_of_row _ _ 0 _ _ _ bo
      have a13 : W4.cell? ⟨wr.heap.size, 13, none⟩ = some (.int .i64 d.pair) := cell_of_row _ _ 13 _ _ _ bo
      have a12 : W4.cell? ⟨wr.heap.size, 12, none⟩ = some (d.fv) := cell_of_row _ _ 12 _ _ _ bo
      have a14 : W4.cell? ⟨wr.heap.size, 14, none⟩ = some (d.av) := cell_of_row _ _ 14 _ _ _ bo
      have a15 : W4.cell? ⟨wr.heap.size, 15, none⟩ = some (d.dv) := cell_of_row _ _ 15 _ _ _ bo
      have a16 : W4.cell? ⟨wr.heap.size, 16, none⟩ = some (d.cv) := cell_of_row _ _ 16 _ _ _ bo
      have hNa := (n3.trans hN).trans n4
      have hlb := hslh.out d (List.mem_of_getElem? hd'.out)
      unfold lightB at hlb
      simp only [Bool.and_eq_true, decide_eq_true_eq] at hlb
      have G1 := Lib.hid (great_any d.fv d.from_ W4 (hAh.out.rf.nb hNa) (by omega))
      have G2 := Lib.hid (great_any d.av d.addrs W4 (hAh.out.ra.nb hNa) (by omega))
      have G3 := Lib.hid (great_any d.dv d.datas W4 (hAh.out.rd.nb hNa) (by omega))
      have G4 := Lib.hid (great_any d.cv d.ctrls W4 (hAh.out.rc.nb hNa) (by omega))
      have hNah := Lib.hid hNa
      clear hNa hlb
      by_cases i1 : d.id < 0
      · skip
        go_wp2_with (first
          | (go_at_call 10; refine (lives_any _).mono ?_; rintro e w5 ⟨rfl, k5⟩))
        go_ret
        exact ⟨rfl, hNah.out.trans k5⟩
      by_cases i2 : 1000 < d.id
      · skip
        go_wp2_with (first
          | (go_at_call 10; refine (lives_any _).mono ?_; rintro e w5 ⟨rfl, k5⟩))
        go_ret
        exact ⟨rfl, hNah.out.trans k5⟩
      by_cases i3 : 1000 < d.pair
      · skip
        go_wp2_with (first
          | (go_at_call 10; refine (lives_any _).mono ?_; rintro e w5 ⟨rfl, k5⟩))
        go_ret
        exact ⟨rfl, hNah.out.trans k5⟩
      cases qG1 : greatB d.from_ with
      | true =>
        have hG1 := Lib.hid qG1
        clear qG1
        go_wp2_with (first
          | (go_at_call 13; (with_reducible refine G1.out.mono ?_); rintro e w' ⟨rfl, rfl⟩; rw [hG1.out])
          | (go_at_call 10; refine (lives_any _).mono ?_; rintro e w5 ⟨rfl, k5⟩))
        go_ret
        exact ⟨rfl, hNah.out.trans k5⟩
      | false =>
        have hG1 := Lib.hid qG1
        clear qG1
        cases qG2 : greatB d.addrs with
        | true =>
          have hG2 := Lib.hid qG2
          clear qG2
          go_wp2_with (first
            | (go_at_call 13; (with_reducible refine G1.out.mono ?_); rintro e w' ⟨rfl, rfl⟩; rw [hG1.out])
            | (go_at_call 13; (with_reducible refine G2.out.mono ?_); rintro e w' ⟨rfl, rfl⟩; rw [hG2.out])
            | (go_at_call 10; refine (lives_any _).mono ?_; rintro e w5 ⟨rfl, k5⟩))
          go_ret
          exact ⟨rfl, hNah.out.trans k5⟩
        | false =>
          have hG2 := Lib.hid qG2
          clear qG2
          cases qG3 : greatB d.datas with
          | true =>
            have hG3 := Lib.hid qG3
            clear qG3
            go_wp2_with (first
              | (go_at_call 13; (with_reducible refine G1.out.mono ?_); rintro e w' ⟨rfl, rfl⟩; rw [hG1.out])
              | (go_at_call 13; (with_reducible refine G2.out.mono ?_); rintro e w' ⟨rfl, rfl⟩; rw [hG2.out])
              | (go_at_call 13; (with_reducible refine G3.out.mono ?_); rintro e w' ⟨rfl, rfl⟩; rw [hG3.out])
              | (go_at_call 10; refine (lives_any _).mono ?_; rintro e w5 ⟨rfl, k5⟩))
            go_ret
            exact ⟨rfl, hNah.out.trans k5⟩
          | false =>
            have hG3 := Lib.hid qG3
            clear qG3
            cases qG4 : greatB d.ctrls with
            | true =>
              have hG4 := Lib.hid qG4
              clear qG4
              go_wp2_with (first
                | (go_at_call 13; (with_reducible refine G1.out.mono ?_); rintro e w' ⟨rfl, rfl⟩; rw [hG1.out])
                | (go_at_call 13; (with_reducible refine G2.out.mono ?_); rintro e w' ⟨rfl, rfl⟩; rw [hG2.out])
                | (go_at_call 13; (with_reducible refine G3.out.mono ?_); rintro e w' ⟨rfl, rfl⟩; rw [hG3.out])
                | (go_at_call 13; (with_reducible refine G4.out.mono ?_); rintro e w' ⟨rfl, rfl⟩; rw [hG4.out])
                | (go_at_call 10; refine (lives_any _).mono ?_; rintro e w5 ⟨rfl, k5⟩))
              go_ret
              exact ⟨rfl, hNah.out.trans k5⟩
            | false =>
              have hG4 := Lib.hid qG4
              clear qG4
              go_upto_region 13 with (first
                | (go_at_call 13; (with_reducible refine G1.out.mono ?_); rintro e w' ⟨rfl, rfl⟩; rw [hG1.out])
                | (go_at_call 13; (with_reducible refine G2.out.mono ?_); rintro e w' ⟨rfl, rfl⟩; rw [hG2.out])
                | (go_at_call 13; (with_reducible refine G3.out.mono ?_); rintro e w' ⟨rfl, rfl⟩; rw [hG3.out])
                | (go_at_call 13; (with_reducible refine G4.out.mono ?_); rintro e w' ⟨rfl, rfl⟩; rw [hG4.out]))
              have n3N := Lib.hid (n3.trans hN)
              have hlb := hslh.out d (List.mem_of_getElem? hd'.out)
              unfold lightB at hlb
              simp only [Bool.and_eq_true, decide_eq_true_eq] at hlb
              have lf := Lib.hid (show d.from_.length ≤ 60 by omega)
              have la := Lib.hid (show d.addrs.length ≤ 60 by omega)
              have ld := Lib.hid (show d.datas.length ≤ 60 by omega)
              have lc := Lib.hid (show d.ctrls.length ≤ 60 by omega)
              clear hlb
              have kk := Lib.hid (show wr.cell? ⟨w.heap.size, 0, none⟩ = some (.int .i64 ((r : Int) + 1)) from cell_of_row _ _ 0 _ _ _ (hN.block bkh.out))
              have kf := Lib.hid (show wr.cell? ⟨w2.heap.size, 0, none⟩ = some (.func (.func 11) #[] #[.pointer (some ⟨w.heap.size, 0, none⟩)]) from cell_of_row _ _ 0 _ _ _ (hN.block bfh.out))
              have hG : Nb wr W4.drew := n4.drew1
              have hF : W4.drew.heap[wr.heap.size]? = some (.cells d.cells.toArray 32 (0, 0)) := bo
              clear a0 a12 a13 a14 a15 a16
              refine wp_region_late [13, 15, 17] (fun w' => w'.heap[wr.heap.size]? = some (.cells d.cells.toArray 32 (0, 0))) (fun w' => Nb wr w') (by kernel_rfl) ⟨fun _ => hF, hG⟩ (fun _ => ?_)
              change wpAnyL _ _ _ _ _ _ _ 18 (List.toArray [false, false, false, false, false, false, false, false, false, false, false, false, false, false, false, false, false, false]) _ _
              refine takeG_l (i := 0) (v := .func (.func 11) #[] #[.pointer (some ⟨w.heap.size, 0, none⟩)]) rfl (by kernel_rfl) (by kernel_rfl) (by kernel_rfl) (by rfl) (fun _ _ _ h => h) (.inl ⟨by rfl, by intro w' hw; have hc := hw.cell kf.out; go_simp⟩) ⟨fun _ => hF, hG⟩ ?_
              simp only [Act.put, List.setIfInBounds_toArray, List.set_cons_zero, List.set_cons_succ]
              refine takeG_l (i := 1) (v := .pointer (some ⟨wr.heap.size, 0, none⟩)) rfl (by kernel_rfl) (by kernel_rfl) (by kernel_rfl) (by rfl) (fun _ _ _ h => h) (.inl ⟨by rfl, by intro w' hw; go_simp⟩) ⟨fun _ => hF, hG⟩ ?_
              simp only [Act.put, List.setIfInBounds_toArray, List.set_cons_zero, List.set_cons_succ]
              refine takeF_l (i := 2) (v := .int .i64 d.id) rfl (by kernel_rfl) (by kernel_rfl) (by kernel_rfl) (by kernel_rfl) (by kernel_rfl) (by rfl) (fun _ _ _ h => h) (.inl ⟨by rfl, by intro w' hw; have hc : w'.cell? ⟨wr.heap.size, 0, none⟩ = some (.int .i64 d.id) := cell_of_row _ _ 0 _ _ _ hw.1; go_simp⟩) ⟨fun _ => hF, hG⟩ ?_
              simp only [Act.put, List.setIfInBounds_toArray, List.set_cons_zero, List.set_cons_succ]
              refine takeG_l (i := 4) (v := .func (.func 11) #[] #[.pointer (some ⟨w.heap.size, 0, none⟩)]) rfl (by kernel_rfl) (by kernel_rfl) (by kernel_rfl) (by rfl) (fun _ _ _ h => h) (.inl ⟨by rfl, by intro w' hw; have hc := hw.cell kf.out; go_simp⟩) ⟨fun _ => hF, hG⟩ ?_
              simp only [Act.put, List.setIfInBounds_toArray, List.set_cons_zero, List.set_cons_succ]
              refine takeG_l (i := 5) (v := .pointer (some ⟨wr.heap.size, 13, none⟩)) rfl (by kernel_rfl) (by kernel_rfl) (by kernel_rfl) (by rfl) (fun _ _ _ h => h) (.inl ⟨by rfl, by intro w' hw; go_simp⟩) ⟨fun _ => hF, hG⟩ ?_
              simp only [Act.put, List.setIfInBounds_toArray, List.set_cons_zero, List.set_cons_succ]
              refine takeF_l (i := 6) (v := .int .i64 d.pair) rfl (by kernel_rfl) (by kernel_rfl) (by kernel_rfl) (by kernel_rfl) (by kernel_rfl) (by rfl) (fun _ _ _ h => h) (.inl ⟨by rfl, by intro w' hw; have hc : w'.cell? ⟨wr.heap.size, 13, none⟩ = some (.int .i64 d.pair) := cell_of_row _ _ 13 _ _ _ hw.1; go_simp⟩) ⟨fun _ => hF, hG⟩ ?_
              simp only [Act.put, List.setIfInBounds_toArray, List.set_cons_zero, List.set_cons_succ]
              refine takeG_l (i := 8) (v := .func (.func 12) #[] #[.pointer (some ⟨w2.heap.size, 0, none⟩)]) rfl (by kernel_rfl) (by kernel_rfl) (by kernel_rfl) (by rfl) (fun _ _ _ h => h) (.inl ⟨by rfl, by intro w' hw; go_simp⟩) ⟨fun _ => hF, hG⟩ ?_
              simp only [Act.put, List.setIfInBounds_toArray, List.set_cons_zero, List.set_cons_succ]
              refine takeG_l (i := 9) (v := .pointer (some ⟨wr.heap.size, 12, none⟩)) rfl (by kernel_rfl) (by kernel_rfl) (by kernel_rfl) (by rfl) (fun _ _ _ h => h) (.inl ⟨by rfl, by intro w' hw; go_simp⟩) ⟨fun _ => hF, hG⟩ ?_
              simp only [Act.put, List.setIfInBounds_toArray, List.set_cons_zero, List.set_cons_succ]
              refine takeF_l (i := 10) (v := d.fv) rfl (by kernel_rfl) (by kernel_rfl) (by kernel_rfl) (by kernel_rfl) (by kernel_rfl) (by rfl) (fun _ _ _ h => h) (.inl ⟨by rfl, by intro w' hw; have hc : w'.cell? ⟨wr.heap.size, 12, none⟩ = some (d.fv) := cell_of_row _ _ 12 _ _ _ hw.1; go_simp⟩) ⟨fun _ => hF, hG⟩ ?_
              simp only [Act.put, List.setIfInBounds_toArray, List.set_cons_zero, List.set_cons_succ]
              generalize W4.drew = Wd at hF hG ⊢
              refine onlyL_l (i := 3) (by kernel_rfl) rfl (by rfl) (fun K hK => ?_)
              go_simp
              refine (id_any d.id _ w.heap.size Wd (hG.cell kk.out) (by omega) kr1 kr2).mono ?_
              rintro e w' ⟨rfl, rfl⟩
              refine hK.out _ _ ⟨fun _ => hF, hG⟩ (fun _ => ?_)
              clear hK K
              simp only [Act.put, List.setIfInBounds_toArray, List.set_cons_zero, List.set_cons_succ]
              refine takeG_l (i := 12) (v := .pointer (some ⟨wr.heap.size, 0, none⟩)) rfl (by kernel_rfl) (by kernel_rfl) (by kernel_rfl) (by rfl) (fun _ _ _ h => h) (.inl ⟨by rfl, by intro w' hw; go_simp⟩) ⟨fun _ => hF, hG⟩ ?_
              simp only [Act.put, List.setIfInBounds_toArray, List.set_cons_zero, List.set_cons_succ]
              refine onlyL_l (i := 7) (by kernel_rfl) rfl (by rfl) (fun K hK => ?_)
              go_simp
              refine (id_any d.pair _ w.heap.size Wd (hG.cell kk.out) (by omega) kr1 kr2).mono ?_
              rintro e w' ⟨rfl, rfl⟩
              refine hK.out _ _ ⟨fun _ => hF, hG⟩ (fun _ => ?_)
              clear hK K
              simp only [Act.put, List.setIfInBounds_toArray, List.set_cons_zero, List.set_cons_succ]
              have hB0 : wr.heap.size + 1 ≤ Wd.heap.size := lt_blk hF
              refine onlyL_l (i := 11) (by kernel_rfl) rfl (by rfl) (fun K hK => ?_)
              go_simp
              refine (ids_new d.fv d.from_ _ w2.heap.size w.heap.size Wd (hAh.out.rf.nb (n3N.out.trans hG)) lf.out (great_le hG1.out) kr1 kr2 (hG.cell kf.out) (hG.cell kk.out) (wr.heap.size + 1) hB0).mono ?_
              rintro e w5 ⟨u, rfl, hu, k5⟩
              replace hF := k5.block hF
              replace hG := hG.trans k5
              refine hK.out _ _ ⟨fun _ => hF, hG⟩ (fun _ => ?_)
              clear hK K
              simp only [Act.put, List.setIfInBounds_toArray, List.set_cons_zero, List.set_cons_succ]
              obtain ⟨up, uc, rfl⟩ : ∃ p c, u = .slice p d.from_.length c := by simpa using hu.ints.cases
              have hu := Lib.hid hu
              clear hB0 k5
              obtain ⟨c0, f0⟩ : w5.cell? ⟨wr.heap.size, 0, none⟩ = some (.int .i64 d.id) ∧ w5.frozen? ⟨wr.heap.size, 0, none⟩ = false := ⟨cell_of_row _ _ 0 _ _ _ hF, frozen_blk hF 0⟩
              refine onlyL_l (i := 13) (by kernel_rfl) rfl (by rfl) (fun K hK => ?_)
              go_simp
              refine hK.out _ _ ⟨fun h => absurd (h 13 (by simp)) (by decide), Nb.setCell (p := ⟨wr.heap.size, 0, none⟩) hG (Nat.le_refl _) _⟩ (fun _ => ?_)
              clear hK K
              simp only [Act.put, List.setIfInBounds_toArray, List.set_cons_zero, List.set_cons_succ]
              replace hF : (w5.setCell ⟨wr.heap.size, 0, none⟩ (.int .i64 (renI ((r : Int) + 1) d.id))).heap[wr.heap.size]? = some (.cells ({ d with id := renI ((r : Int) + 1) d.id }).cells.toArray 32 (0, 0)) := set_blk hF 0 _
              replace hG : Nb wr (w5.setCell ⟨wr.heap.size, 0, none⟩ (.int .i64 (renI ((r : Int) + 1) d.id))) := Nb.setCell (p := ⟨wr.heap.size, 0, none⟩) hG (Nat.le_refl _) _
              replace hu := Lib.hid (hu.out.set (a := ⟨wr.heap.size, 0, none⟩) (Nat.lt_succ_self _) (.int .i64 (renI ((r : Int) + 1) d.id)))
              clear c0 f0
              generalize w5.setCell ⟨wr.heap.size, 0, none⟩ (.int .i64 (renI ((r : Int) + 1) d.id)) = W6 at hF hG hu ⊢
              refine takeG_l (i := 14) (v := .pointer (some ⟨wr.heap.size, 13, none⟩)) rfl (by kernel_rfl) (by kernel_rfl) (by kernel_rfl) (by rfl) (fun _ _ _ h => h) (.inl ⟨by rfl, by intro w' hw; go_simp⟩) ⟨fun h => absurd (h 13 (by simp)) (by decide), hG⟩ ?_
              simp only [Act.put, List.setIfInBounds_toArray, List.set_cons_zero, List.set_cons_succ]
              obtain ⟨c0, f0⟩ : W6.cell? ⟨wr.heap.size, 13, none⟩ = some (.int .i64 d.pair) ∧ W6.frozen? ⟨wr.heap.size, 13, none⟩ = false := ⟨cell_of_row _ _ 13 _ _ _ hF, frozen_blk hF 13⟩
              refine onlyL_l (i := 15) (by kernel_rfl) rfl (by rfl) (fun K hK => ?_)
              go_simp
              refine hK.out _ _ ⟨fun h => absurd (h 13 (by simp)) (by decide), Nb.setCell (p := ⟨wr.heap.size, 13, none⟩) hG (Nat.le_refl _) _⟩ (fun _ => ?_)
              clear hK K
              simp only [Act.put, List.setIfInBounds_toArray, List.set_cons_zero, List.set_cons_succ]
              replace hF : (W6.setCell ⟨wr.heap.size, 13, none⟩ (.int .i64 (renI ((r : Int) + 1) d.pair))).heap[wr.heap.size]? = some (.cells ({ d with id := renI ((r : Int) + 1) d.id, pair := renI ((r : Int) + 1) d.pair }).cells.toArray 32 (0, 0)) := set_blk hF 13 _
              replace hG : Nb wr (W6.setCell ⟨wr.heap.size, 13, none⟩ (.int .i64 (renI ((r : Int) + 1) d.pair))) := Nb.setCell (p := ⟨wr.heap.size, 13, none⟩) hG (Nat.le_refl _) _
              replace hu := Lib.hid (hu.out.set (a := ⟨wr.heap.size, 13, none⟩) (Nat.lt_succ_self _) (.int .i64 (renI ((r : Int) + 1) d.pair)))
              clear c0 f0
              generalize W6.setCell ⟨wr.heap.size, 13, none⟩ (.int .i64 (renI ((r : Int) + 1) d.pair)) = W7 at hF hG hu ⊢
              refine takeG_l (i := 16) (v := .pointer (some ⟨wr.heap.size, 12, none⟩)) rfl (by kernel_rfl) (by kernel_rfl) (by kernel_rfl) (by rfl) (fun _ _ _ h => h) (.inl ⟨by rfl, by intro w' hw; go_simp⟩) ⟨fun h => absurd (h 13 (by simp)) (by decide), hG⟩ ?_
              simp only [Act.put, List.setIfInBounds_toArray, List.set_cons_zero, List.set_cons_succ]
              obtain ⟨c0, f0⟩ : W7.cell? ⟨wr.heap.size, 12, none⟩ = some (d.fv) ∧ W7.frozen? ⟨wr.heap.size, 12, none⟩ = false := ⟨cell_of_row _ _ 12 _ _ _ hF, frozen_blk hF 12⟩
              refine onlyL_l (i := 17) (by kernel_rfl) rfl (by rfl) (fun K hK => ?_)
              go_simp
              refine hK.out _ _ ⟨fun h => absurd (h 13 (by simp)) (by decide), Nb.setCell (p := ⟨wr.heap.size, 12, none⟩) hG (Nat.le_refl _) _⟩ (fun _ => ?_)
              clear hK K
              simp only [Act.put, List.setIfInBounds_toArray, List.set_cons_zero, List.set_cons_succ]
              replace hF : (W7.setCell ⟨wr.heap.size, 12, none⟩ (.slice up d.from_.length uc)).heap[wr.heap.size]? = some (.cells ({ d with id := renI ((r : Int) + 1) d.id, pair := renI ((r : Int) + 1) d.pair, fv := .slice up d.from_.length uc, from_ := d.from_.map (renI ((r : Int) + 1)) }).cells.toArray 32 (0, 0)) := set_blk hF 12 _
              replace hG : Nb wr (W7.setCell ⟨wr.heap.size, 12, none⟩ (.slice up d.from_.length uc)) := Nb.setCell (p := ⟨wr.heap.size, 12, none⟩) hG (Nat.le_refl _) _
              replace hu := Lib.hid (hu.out.set (a := ⟨wr.heap.size, 12, none⟩) (Nat.lt_succ_self _) (.slice up d.from_.length uc))
              clear c0 f0
              generalize W7.setCell ⟨wr.heap.size, 12, none⟩ (.slice up d.from_.length uc) = W8 at hF hG hu ⊢
              refine doneL (by kernel_rfl) ?_ _
              go_upto_region 14 with (fail)
              replace hG : Nb wr W8.drew := hG.drew1
              replace hF : W8.drew.heap[wr.heap.size]? = some (.cells ({ d with id := renI ((r : Int) + 1) d.id, pair := renI ((r : Int) + 1) d.pair, fv := .slice up d.from_.length uc, from_ := d.from_.map (renI ((r : Int) + 1)) }).cells.toArray 32 (0, 0)) := hF
              replace hu := Lib.hid (hu.out.nb ((Nb.refl W8).drew1))
              refine wp_region_late [13, 15, 17] (fun w' => w'.heap[wr.heap.size]? = some (.cells ({ d with id := renI ((r : Int) + 1) d.id, pair := renI ((r : Int) + 1) d.pair, fv := .slice up d.from_.length uc, from_ := d.from_.map (renI ((r : Int) + 1)) }).cells.toArray 32 (0, 0))) (fun w' => Nb wr w') (by kernel_rfl) ⟨fun _ => hF, hG⟩ (fun _ => ?_)
              change wpAnyL _ _ _ _ _ _ _ 18 (List.toArray [false, false, false, false, false, false, false, false, false, false, false, false, false, false, false, false, false, false]) _ _
              refine takeG_l (i := 0) (v := .func (.func 12) #[] #[.pointer (some ⟨w2.heap.size, 0, none⟩)]) rfl (by kernel_rfl) (by kernel_rfl) (by kernel_rfl) (by rfl) (fun _ _ _ h => h) (.inl ⟨by rfl, by intro w' hw; go_simp⟩) ⟨fun _ => hF, hG⟩ ?_
              simp only [Act.put, List.setIfInBounds_toArray, List.set_cons_zero, List.set_cons_succ]
              refine takeG_l (i := 1) (v := .pointer (some ⟨wr.heap.size, 14, none⟩)) rfl (by kernel_rfl) (by kernel_rfl) (by kernel_rfl) (by rfl) (fun _ _ _ h => h) (.inl ⟨by rfl, by intro w' hw; go_simp⟩) ⟨fun _ => hF, hG⟩ ?_
              simp only [Act.put, List.setIfInBounds_toArray, List.set_cons_zero, List.set_cons_succ]
              refine takeF_l (i := 2) (v := d.av) rfl (by kernel_rfl) (by kernel_rfl) (by kernel_rfl) (by kernel_rfl) (by kernel_rfl) (by rfl) (fun _ _ _ h => h) (.inl ⟨by rfl, by intro w' hw; have hc : w'.cell? ⟨wr.heap.size, 14, none⟩ = some (d.av) := cell_of_row _ _ 14 _ _ _ hw.1; go_simp⟩) ⟨fun _ => hF, hG⟩ ?_
              simp only [Act.put, List.setIfInBounds_toArray, List.set_cons_zero, List.set_cons_succ]
              refine takeG_l (i := 4) (v := .func (.func 12) #[] #[.pointer (some ⟨w2.heap.size, 0, none⟩)]) rfl (by kernel_rfl) (by kernel_rfl) (by kernel_rfl) (by rfl) (fun _ _ _ h => h) (.inl ⟨by rfl, by intro w' hw; go_simp⟩) ⟨fun _ => hF, hG⟩ ?_
              simp only [Act.put, List.setIfInBounds_toArray, List.set_cons_zero, List.set_cons_succ]
              refine takeG_l (i := 5) (v := .pointer (some ⟨wr.heap.size, 15, none⟩)) rfl (by kernel_rfl) (by kernel_rfl) (by kernel_rfl) (by rfl) (fun _ _ _ h => h) (.inl ⟨by rfl, by intro w' hw; go_simp⟩) ⟨fun _ => hF, hG⟩ ?_
              simp only [Act.put, List.setIfInBounds_toArray, List.set_cons_zero, List.set_cons_succ]
              refine takeF_l (i := 6) (v := d.dv) rfl (by kernel_rfl) (by kernel_rfl) (by kernel_rfl) (by kernel_rfl) (by kernel_rfl) (by rfl) (fun _ _ _ h => h) (.inl ⟨by rfl, by intro w' hw; have hc : w'.cell? ⟨wr.heap.size, 15, none⟩ = some (d.dv) := cell_of_row _ _ 15 _ _ _ hw.1; go_simp⟩) ⟨fun _ => hF, hG⟩ ?_
              simp only [Act.put, List.setIfInBounds_toArray, List.set_cons_zero, List.set_cons_succ]
              refine takeG_l (i := 8) (v := .func (.func 12) #[] #[.pointer (some ⟨w2.heap.size, 0, none⟩)]) rfl (by kernel_rfl) (by kernel_rfl) (by kernel_rfl) (by rfl) (fun _ _ _ h => h) (.inl ⟨by rfl, by intro w' hw; go_simp⟩) ⟨fun _ => hF, hG⟩ ?_
              simp only [Act.put, List.setIfInBounds_toArray, List.set_cons_zero, List.set_cons_succ]
              refine takeG_l (i := 9) (v := .pointer (some ⟨wr.heap.size, 16, none⟩)) rfl (by kernel_rfl) (by kernel_rfl) (by kernel_rfl) (by rfl) (fun _ _ _ h => h) (.inl ⟨by rfl, by intro w' hw; go_simp⟩) ⟨fun _ => hF, hG⟩ ?_
              simp only [Act.put, List.setIfInBounds_toArray, List.set_cons_zero, List.set_cons_succ]
              refine takeF_l (i := 10) (v := d.cv) rfl (by kernel_rfl) (by kernel_rfl) (by kernel_rfl) (by kernel_rfl) (by kernel_rfl) (by rfl) (fun _ _ _ h => h) (.inl ⟨by rfl, by intro w' hw; have hc : w'.cell? ⟨wr.heap.size, 16, none⟩ = some (d.cv) := cell_of_row _ _ 16 _ _ _ hw.1; go_simp⟩) ⟨fun _ => hF, hG⟩ ?_
              simp only [Act.put, List.setIfInBounds_toArray, List.set_cons_zero, List.set_cons_succ]
              have hu := hu.out
              generalize W8.drew = We at hF hG hu ⊢
              have hB0 : wr.heap.size + 1 ≤ We.heap.size := lt_blk hF
              refine onlyL_l (i := 3) (by kernel_rfl) rfl (by rfl) (fun K hK => ?_)
              go_simp
              refine (ids_new d.av d.addrs _ w2.heap.size w.heap.size We (hAh.out.ra.nb (n3N.out.trans hG)) la.out (great_le hG2.out) kr1 kr2 (hG.cell kf.out) (hG.cell kk.out) (wr.heap.size + 1) hB0).mono ?_
              rintro e w6 ⟨x, rfl, hx, k5⟩
              replace hF := k5.block hF
              replace hG := hG.trans k5
              replace hu := hu.nb k5
              refine hK.out _ _ ⟨fun _ => hF, hG⟩ (fun _ => ?_)
              clear hK K
              simp only [Act.put, List.setIfInBounds_toArray, List.set_cons_zero, List.set_cons_succ]
              obtain ⟨xp, xc, rfl⟩ : ∃ p c, x = .slice p d.addrs.length c := by simpa using hx.ints.cases
              have hx := Lib.hid hx
              clear hB0 k5
              refine takeG_l (i := 12) (v := .pointer (some ⟨wr.heap.size, 14, none⟩)) rfl (by kernel_rfl) (by kernel_rfl) (by kernel_rfl) (by rfl) (fun _ _ _ h => h) (.inl ⟨by rfl, by intro w' hw; go_simp⟩) ⟨fun _ => hF, hG⟩ ?_
              simp only [Act.put, List.setIfInBounds_toArray, List.set_cons_zero, List.set_cons_succ]
              have hx := hx.out
              have hB0 : wr.heap.size + 1 ≤ w6.heap.size := lt_blk hF
              refine onlyL_l (i := 7) (by kernel_rfl) rfl (by rfl) (fun K hK => ?_)
              go_simp
              refine (ids_new d.dv d.datas _ w2.heap.size w.heap.size w6 (hAh.out.rd.nb (n3N.out.trans hG)) ld.out (great_le hG3.out) kr1 kr2 (hG.cell kf.out) (hG.cell kk.out) (wr.heap.size + 1) hB0).mono ?_
              rintro e w7 ⟨y, rfl, hy, k5⟩
              replace hF := k5.block hF
              replace hG := hG.trans k5
              replace hu := hu.nb k5
              replace hx := hx.nb k5
              refine hK.out _ _ ⟨fun _ => hF, hG⟩ (fun _ => ?_)
              clear hK K
              simp only [Act.put, List.setIfInBounds_toArray, List.set_cons_zero, List.set_cons_succ]
              obtain ⟨yp, yc, rfl⟩ : ∃ p c, y = .slice p d.datas.length c := by simpa using hy.ints.cases
              have hy := Lib.hid hy
              clear hB0 k5
              have hy := hy.out
              have hB0 : wr.heap.size + 1 ≤ w7.heap.size := lt_blk hF
              refine onlyL_l (i := 11) (by kernel_rfl) rfl (by rfl) (fun K hK => ?_)
              go_simp
              refine (ids_new d.cv d.ctrls _ w2.heap.size w.heap.size w7 (hAh.out.rc.nb (n3N.out.trans hG)) lc.out (great_le hG4.out) kr1 kr2 (hG.cell kf.out) (hG.cell kk.out) (wr.heap.size + 1) hB0).mono ?_
              rintro e w8 ⟨z, rfl, hz, k5⟩
              replace hF := k5.block hF
              replace hG := hG.trans k5
              replace hu := hu.nb k5
              replace hx := hx.nb k5
              replace hy := hy.nb k5
              refine hK.out _ _ ⟨fun _ => hF, hG⟩ (fun _ => ?_)
              clear hK K
              simp only [Act.put, List.setIfInBounds_toArray, List.set_cons_zero, List.set_cons_succ]
              obtain ⟨zp, zc, rfl⟩ : ∃ p c, z = .slice p d.ctrls.length c := by simpa using hz.ints.cases
              have hz := Lib.hid hz
              clear hB0 k5
              have hu := Lib.hid hu
              have hx := Lib.hid hx
              have hy := Lib.hid hy
              obtain ⟨c0, f0⟩ : w8.cell? ⟨wr.heap.size, 14, none⟩ = some (d.av) ∧ w8.frozen? ⟨wr.heap.size, 14, none⟩ = false := ⟨cell_of_row _ _ 14 _ _ _ hF, frozen_blk hF 14⟩
              refine onlyL_l (i := 13) (by kernel_rfl) rfl (by rfl) (fun K hK => ?_)
              go_simp
              refine hK.out _ _ ⟨fun h => absurd (h 13 (by simp)) (by decide), Nb.setCell (p := ⟨wr.heap.size, 14, none⟩) hG (Nat.le_refl _) _⟩ (fun _ => ?_)
              clear hK K
              simp only [Act.put, List.setIfInBounds_toArray, List.set_cons_zero, List.set_cons_succ]
              replace hF : (w8.setCell ⟨wr.heap.size, 14, none⟩ (.slice xp d.addrs.length xc)).heap[wr.heap.size]? = some (.cells ({ d with id := renI ((r : Int) + 1) d.id, pair := renI ((r : Int) + 1) d.pair, fv := .slice up d.from_.length uc, from_ := d.from_.map (renI ((r : Int) + 1)), av := .slice xp d.addrs.length xc, addrs := d.addrs.map (renI ((r : Int) + 1)) }).cells.toArray 32 (0, 0)) := set_blk hF 14 _
              replace hG : Nb wr (w8.setCell ⟨wr.heap.size, 14, none⟩ (.slice xp d.addrs.length xc)) := Nb.setCell (p := ⟨wr.heap.size, 14, none⟩) hG (Nat.le_refl _) _
              replace hu := Lib.hid (hu.out.set (a := ⟨wr.heap.size, 14, none⟩) (Nat.lt_succ_self _) (.slice xp d.addrs.length xc))
              replace hx := Lib.hid (hx.out.set (a := ⟨wr.heap.size, 14, none⟩) (Nat.lt_succ_self _) (.slice xp d.addrs.length xc))
              replace hy := Lib.hid (hy.out.set (a := ⟨wr.heap.size, 14, none⟩) (Nat.lt_succ_self _) (.slice xp d.addrs.length xc))
              replace hz := Lib.hid (hz.out.set (a := ⟨wr.heap.size, 14, none⟩) (Nat.lt_succ_self _) (.slice xp d.addrs.length xc))
              clear c0 f0
              generalize w8.setCell ⟨wr.heap.size, 14, none⟩ (.slice xp d.addrs.length xc) = Wa at hF hG hu hx hy hz ⊢
              refine takeG_l (i := 14) (v := .pointer (some ⟨wr.heap.size, 15, none⟩)) rfl (by kernel_rfl) (by kernel_rfl) (by kernel_rfl) (by rfl) (fun _ _ _ h => h) (.inl ⟨by rfl, by intro w' hw; go_simp⟩) ⟨fun h => absurd (h 13 (by simp)) (by decide), hG⟩ ?_
              simp only [Act.put, List.setIfInBounds_toArray, List.set_cons_zero, List.set_cons_succ]
              obtain ⟨c0, f0⟩ : Wa.cell? ⟨wr.heap.size, 15, none⟩ = some (d.dv) ∧ Wa.frozen? ⟨wr.heap.size, 15, none⟩ = false := ⟨cell_of_row _ _ 15 _ _ _ hF, frozen_blk hF 15⟩
              refine onlyL_l (i := 15) (by kernel_rfl) rfl (by rfl) (fun K hK => ?_)
              go_simp
              refine hK.out _ _ ⟨fun h => absurd (h 13 (by simp)) (by decide), Nb.setCell (p := ⟨wr.heap.size, 15, none⟩) hG (Nat.le_refl _) _⟩ (fun _ => ?_)
              clear hK K
              simp only [Act.put, List.setIfInBounds_toArray, List.set_cons_zero, List.set_cons_succ]
              replace hF : (Wa.setCell ⟨wr.heap.size, 15, none⟩ (.slice yp d.datas.length yc)).heap[wr.heap.size]? = some (.cells ({ d with id := renI ((r : Int) + 1) d.id, pair := renI ((r : Int) + 1) d.pair, fv := .slice up d.from_.length uc, from_ := d.from_.map (renI ((r : Int) + 1)), av := .slice xp d.addrs.length xc, addrs := d.addrs.map (renI ((r : Int) + 1)), dv := .slice yp d.datas.length yc, datas := d.datas.map (renI ((r : Int) + 1)) }).cells.toArray 32 (0, 0)) := set_blk hF 15 _
              replace hG : Nb wr (Wa.setCell ⟨wr.heap.size, 15, none⟩ (.slice yp d.datas.length yc)) := Nb.setCell (p := ⟨wr.heap.size, 15, none⟩) hG (Nat.le_refl _) _
              replace hu := Lib.hid (hu.out.set (a := ⟨wr.heap.size, 15, none⟩) (Nat.lt_succ_self _) (.slice yp d.datas.length yc))
              replace hx := Lib.hid (hx.out.set (a := ⟨wr.heap.size, 15, none⟩) (Nat.lt_succ_self _) (.slice yp d.datas.length yc))
              replace hy := Lib.hid (hy.out.set (a := ⟨wr.heap.size, 15, none⟩) (Nat.lt_succ_self _) (.slice yp d.datas.length yc))
              replace hz := Lib.hid (hz.out.set (a := ⟨wr.heap.size, 15, none⟩) (Nat.lt_succ_self _) (.slice yp d.datas.length yc))
              clear c0 f0
              generalize Wa.setCell ⟨wr.heap.size, 15, none⟩ (.slice yp d.datas.length yc) = Wb at hF hG hu hx hy hz ⊢
              refine takeG_l (i := 16) (v := .pointer (some ⟨wr.heap.size, 16, none⟩)) rfl (by kernel_rfl) (by kernel_rfl) (by kernel_rfl) (by rfl) (fun _ _ _ h => h) (.inl ⟨by rfl, by intro w' hw; go_simp⟩) ⟨fun h => absurd (h 13 (by simp)) (by decide), hG⟩ ?_
              simp only [Act.put, List.setIfInBounds_toArray, List.set_cons_zero, List.set_cons_succ]
              obtain ⟨c0, f0⟩ : Wb.cell? ⟨wr.heap.size, 16, none⟩ = some (d.cv) ∧ Wb.frozen? ⟨wr.heap.size, 16, none⟩ = false := ⟨cell_of_row _ _ 16 _ _ _ hF, frozen_blk hF 16⟩
              refine onlyL_l (i := 17) (by kernel_rfl) rfl (by rfl) (fun K hK => ?_)
              go_simp
              refine hK.out _ _ ⟨fun h => absurd (h 13 (by simp)) (by decide), Nb.setCell (p := ⟨wr.heap.size, 16, none⟩) hG (Nat.le_refl _) _⟩ (fun _ => ?_)
              clear hK K
              simp only [Act.put, List.setIfInBounds_toArray, List.set_cons_zero, List.set_cons_succ]
              replace hF : (Wb.setCell ⟨wr.heap.size, 16, none⟩ (.slice zp d.ctrls.length zc)).heap[wr.heap.size]? = some (.cells ({ d with id := renI ((r : Int) + 1) d.id, pair := renI ((r : Int) + 1) d.pair, fv := .slice up d.from_.length uc, from_ := d.from_.map (renI ((r : Int) + 1)), av := .slice xp d.addrs.length xc, addrs := d.addrs.map (renI ((r : Int) + 1)), dv := .slice yp d.datas.length yc, datas := d.datas.map (renI ((r : Int) + 1)), cv := .slice zp d.ctrls.length zc, ctrls := d.ctrls.map (renI ((r : Int) + 1)) }).cells.toArray 32 (0, 0)) := set_blk hF 16 _
              replace hG : Nb wr (Wb.setCell ⟨wr.heap.size, 16, none⟩ (.slice zp d.ctrls.length zc)) := Nb.setCell (p := ⟨wr.heap.size, 16, none⟩) hG (Nat.le_refl _) _
              replace hu := Lib.hid (hu.out.set (a := ⟨wr.heap.size, 16, none⟩) (Nat.lt_succ_self _) (.slice zp d.ctrls.length zc))
              replace hx := Lib.hid (hx.out.set (a := ⟨wr.heap.size, 16, none⟩) (Nat.lt_succ_self _) (.slice zp d.ctrls.length zc))
              replace hy := Lib.hid (hy.out.set (a := ⟨wr.heap.size, 16, none⟩) (Nat.lt_succ_self _) (.slice zp d.ctrls.length zc))
              replace hz := Lib.hid (hz.out.set (a := ⟨wr.heap.size, 16, none⟩) (Nat.lt_succ_self _) (.slice zp d.ctrls.length zc))
              clear c0 f0
              generalize Wb.setCell ⟨wr.heap.size, 16, none⟩ (.slice zp d.ctrls.length zc) = Wc at hF hG hu hx hy hz ⊢
              refine doneL (by kernel_rfl) ?_ _
              go_upto_region 15 with (fail)
              obtain ⟨d2, hd2⟩ : ∃ d2 : OpD, { d with id := renI ((r : Int) + 1) d.id, pair := renI ((r : Int) + 1) d.pair, fv := .slice up d.from_.length uc, from_ := d.from_.map (renI ((r : Int) + 1)), av := .slice xp d.addrs.length xc, addrs := d.addrs.map (renI ((r : Int) + 1)), dv := .slice yp d.datas.length yc, datas := d.datas.map (renI ((r : Int) + 1)), cv := .slice zp d.ctrls.length zc, ctrls := d.ctrls.map (renI ((r : Int) + 1)) } = d2 := ⟨_, rfl⟩
              rw [hd2] at hF
              obtain ⟨P, hP1, hP2, hP3⟩ := hS.out
              have hdok := hAh.out.ok
              have hren : Ren (renI ((r : Int) + 1)) d d2 := by rw [← hd2]; exact ⟨rfl, rfl, rfl, rfl, rfl, rfl, rfl, rfl, rfl, rfl, rfl, rfl, rfl, rfl, rfl⟩
              have hin : d.In (fun x => x ≤ 1000) := ⟨by omega, great_le hG1.out, by omega, great_le hG2.out, great_le hG3.out, great_le hG4.out⟩
              have hok2 : d2.Ok := by rw [← hd2]; exact ok_ren hdok kr1 kr2 (by omega) (great_le hG1.out)
              have hsh2 : ShortOp d2 := by rw [← hd2]; exact short_ren la.out ld.out lc.out
              have hnew : ListsNew Wc d2 := by rw [← hd2]; exact ⟨NewI.low hu.out, NewI.low hx.out, NewI.low hy.out, NewI.low hz.out⟩
              have hones := (hnew.has hok2).ones
              obtain ⟨c2, hc2⟩ : ∃ c2, d2.cells.toArray = c2 := ⟨_, rfl⟩
              rw [hc2] at hF
              have hsz2 : c2.size = 17 := by rw [← hc2]; rfl
              have hone2 : ∀ u ∈ c2.toList, u.oneCell' = true := by rw [← hc2]; simpa using hones
              have hi17 := hiO.out.trans (congrArg some hsz2.symm)
              have hO : Wc.ownsRow W3.heap.size 32 17 u9 q ((P.map Prod.snd).flatMap OpD.cells) := hP3.kept (row := none) ⟨hG.os, hG.tape, hG.output, hG.size, fun k hk _ => Below.block hG k hk⟩ (by cases u9.ownBlock <;> simp)
              obtain ⟨i0, hi0, hz0, hz1, hz2⟩ := info_parts info_op
              have hmx : (200 : Nat) ≤ maxLen := by decide
              have hszW := (hN.trans hG).size
              have hO := Lib.hid hO
              have hnew := Lib.hid hnew
              have hok2 := Lib.hid hok2
              have hren := Lib.hid hren
              have hin := Lib.hid hin
              have hc2 := Lib.hid hc2
              have hones2 := Lib.hid hone2
              have hP1 := Lib.hid hP1
              have hP2 := Lib.hid hP2
              clear hd2 hdok hones hone2 hu hx hy hz hP3
              go_upto_region 16 with (first
                | (refine wpList_load_want (by kernel_rfl) 32 (.tmp 11) rfl _ rfl 32 c2 (0, 0) _ hF Try.underlying32 rfl hi17 ?_)
                | (refine wpList_bs_want (by kernel_rfl) 22 1 #[(0, .tmp 100)] rfl #[(0, .agg c2)] (by kernel_rfl) _ (bs1 hsz2 _) ?_)
                | (at_builtin; refine wpList_append_src rfl (.tmp 99) (.tmp 101) 22 rfl W3.heap.size 32 i0 _ 17 176 Try.underlying22 hi0 hz0 hz1 hz2 rfl (by decide) u9 q ((P.map Prod.snd).flatMap OpD.cells) rfl (World.ownsRow.alloc hO.out (Obj.cells c2 32)) (.slice (some ⟨Wc.heap.size, 0, none⟩) 1 1) 1 c2.toList rfl (src_one (new_blk Wc (Obj.cells c2 32) rfl) hsz2 hones2.out) (by omega) (by omega) (by simp; omega) ?_; intro v2 We2 o2 g2))
              have hna : ListsNew (Wc.alloc (Obj.cells c2 32)) d2 := hnew.out.nb ((Nb.refl Wc).alloc _)
              have hna2 : ∀ e : OpD, ListsNew wr e → ListsNew We2 e := fun e he => ((he.nb hG).nb ((Nb.refl Wc).alloc (Obj.cells c2 32))).grown (World.ownsRow.alloc hO.out (Obj.cells c2 32)) g2
              have hnd := hna.grown (World.ownsRow.alloc hO.out (Obj.cells c2 32)) g2
              have hNe : Nb W3 We2 := Nb.grown ((hN.trans hG).alloc (Obj.cells c2 32)) g2 (own_ge (World.ownsRow.alloc hO.out (Obj.cells c2 32)))
              have hSof : Sofar W3 ((r : Int) + 1) L v2 (q + 1) We2 := by
                refine ⟨P ++ [(d, d2)], ?_, ?_, ?_⟩
                · rw [List.map_append, hP1.out, List.take_add_one, hd'.out]; rfl
                · intro x hx
                  rw [List.mem_append, List.mem_singleton] at hx
                  rcases hx with hx | rfl
                  · obtain ⟨h1, h2, ⟨h3, h4⟩, h5⟩ := hP2.out x hx
                    exact ⟨h1, h2, ⟨hna2 _ h3, h4⟩, h5⟩
                  · exact ⟨hren.out, hin.out, ⟨hnd, hok2.out⟩, hsh2⟩
                · have hcc : d2.cells = c2.toList := by rw [← hc2.out]
                  rw [List.map_append, List.flatMap_append]
                  simp only [List.map_cons, List.map_nil, List.flatMap_cons, List.flatMap_nil, List.append_nil, hcc]
                  exact o2
              have hSof := Lib.hid hSof
              clear hna hna2 hnd o2 g2 hO hnew hF hG
              go_wp2_with fail
              go_roundw
              case rel => exact ⟨q + 1, hlt, by simp, hSof, hNe⟩
              case measure => simp [intOf, e1]; omega
    · obtain rfl : q = n := by omega
      obtain ⟨P, hP1, hP2, hP3⟩ := hS.out
      have hPL : P.map Prod.fst = L := by rw [hP1]; exact List.take_of_length_le (by rw [hn'.out]; exact Nat.le_refl _)
      have hPn : P.length = q := by have := congrArg List.length hPL; rw [List.length_map, hn'.out] at this; exact this
      have hM : OpsR wr u9 (P.map Prod.snd) := ops_of_row (by rw [List.length_map, hPn]) hP3 (by
        intro d hd
        rw [List.mem_map] at hd
        obtain ⟨x, hx, rfl⟩ := hd
        exact (hP2 x hx).2.2.1.1.has (hP2 x hx).2.2.1.2)
      have hNw : Nb w wr := n3.trans hN
      have hshL : ∀ m ∈ L, ShortOp m := by
        intro m hm
        have := hslh.out m hm
        unfold lightB at this
        simp only [Bool.and_eq_true, decide_eq_true_eq] at this
        exact ⟨by omega, by omega, by omega⟩
      have hshM : ∀ m ∈ P.map Prod.snd, ShortOp m := by
        intro m hm
        rw [List.mem_map] at hm
        obtain ⟨x, hx, rfl⟩ := hm
        exact (hP2 x hx).2.2.2
      have hRL := Lib.hid (rules_c (hL.out.nb hNw) (by rw [hn'.out]; omega) hshL)
      have hRM := Lib.hid (rules_c hM (by rw [List.length_map, hPn]; omega) hshM)
      have hEq := Lib.hid (show ∀ i j : Int, rulesS L i j = rulesS (P.map Prod.snd) i j from fun i j => by
        have := rules_ren (renI_inj kr1) (by decide) (renI_one _) P (fun p hp => (hP2 p hp).1) (fun p hp => (hP2 p hp).2.1) (fun p hp => (hL.out.has p.1 (by rw [← hPL]; exact List.mem_map_of_mem hp)).ok) i j
        rw [hPL] at this
        exact this.symm)
      have hGd := Lib.hid (show goodS (P.map Prod.snd) = goodS L by
        have := good_ren (renI_inj kr1) (by decide) (renI_one _) (fun x _ => renI_sign kr1 x) P (fun p hp => (hP2 p hp).1) (fun p hp => (hP2 p hp).2.1)
        rw [hPL] at this
        exact this)
      have hGL := Lib.hid (show ∀ W, Nb wr W → Calls Try.prog 16 #[.slice p q c] W fun e w' => e = .returned (.bool (goodS L)) ∧ Nb W w' from fun W k => good_any _ L W ((hL.out.nb hNw).nb k) (by rw [hn'.out]; omega) hpr.out)
      have hGM := Lib.hid (show ∀ W, Nb wr W → Calls Try.prog 16 #[u9] W fun e w' => e = .returned (.bool (goodS (P.map Prod.snd))) ∧ Nb W w' from fun W k => good_any _ _ W (hM.nb k) (by rw [List.length_map, hPn]; omega) (by
        intro m hm
        rw [List.mem_map] at hm
        obtain ⟨x, hx, rfl⟩ := hm
        rw [(hP2 x hx).1.pair]
        have h1 := hpr.out x.1 (by rw [← hPL]; exact List.mem_map_of_mem hx)
        have h2 : x.1.pair ≤ 1000 := (hP2 x hx).2.1.pair
        unfold InR at h1 ⊢
        unfold renI
        split <;> omega))
      rw [hGd.out] at hGM
      have hNwh := Lib.hid hNw
      obtain ⟨W9, rfl⟩ : ∃ W9 : World, W9 = wr := ⟨_, rfl⟩
      clear hP1 hP2 hP3 hPL hPn hM hshL hshM hS hN hNw bkh bfh hiO hLx
      go_wp2_with fail
      go_loopw [106] (fun i wr => ∃ k : Nat, k ≤ q ∧ i = .int .i64 k ∧ Nb W9 wr) (fun i _ => q - (intOf i).toNat)
      case atStart => exact ⟨0, Nat.zero_le _, rfl, Nb.refl _⟩
      case round =>
        obtain ⟨k, hk, rfl, hN⟩ := hrel
        by_cases hlt2 : k < q
        · have e1 : IntKind.i64.wrap ((k : Int) + 1) = ((k + 1 : Nat) : Int) := by rw [IntKind.wrap_i64]; omega
          go_wp2_with fail
          go_loopw [111] (fun b wi => ∃ m : Nat, m ≤ q ∧ b = .int .i64 m ∧ Nb W9 wi) (fun b _ => q - (intOf b).toNat)
          case atStart => exact ⟨0, Nat.zero_le _, rfl, hN⟩
          case round =>
            obtain ⟨m, hm, rfl, hN2⟩ := hrel
            by_cases hlt3 : m < q
            · have e2 : IntKind.i64.wrap ((m : Int) + 1) = ((m + 1 : Nat) : Int) := by rw [IntKind.wrap_i64]; omega
              go_wp2_with (first
                | (go_at_call 15; (with_reducible refine (hRL.out _ hN2 _ _ (by omega) (by omega)).mono ?_); rintro e wa ⟨u, rfl, hu, ka⟩; have hu' := Lib.hid hu; have hNa := hN2.trans ka; clear hu)
                | (go_at_call 15; (with_reducible refine (hRM.out _ hNa _ _ (by omega) (by omega)).mono ?_); rintro e wb ⟨u2, rfl, hu2, kb⟩; have hu2' := Lib.hid hu2; have hNb := hNa.trans kb; clear hu2)
                | (go_at_call 14; (with_reducible refine (ints_c (hu'.out.nb kb) hu2'.out (rulesS_len _ _ _) (hEq.out _ _)).mono ?_); rintro e wc ⟨rfl, kc⟩))
              go_roundw
              case rel => exact ⟨m + 1, hlt3, by simp, hNb.trans kc⟩
              case measure => simp [intOf, e2]; omega
            · obtain rfl : m = q := by omega
              go_wp2_with fail
              go_roundw
              case rel => exact ⟨k + 1, hlt2, by simp, hN2⟩
              case measure => simp [intOf, e1]; omega
        · obtain rfl : k = q := by omega
          generalize goodS L = gl at hGL hGM
          clear hEq hRL hRM
          cases gl
          all_goals
            go_wp2_with (first
              | (go_at_call 16; (with_reducible refine (hGL.out _ hN).mono ?_); rintro e wa ⟨rfl, ka⟩; have hNa := hN.trans ka)
              | (go_at_call 16; (with_reducible refine (hGM.out _ hNa).mono ?_); rintro e wb ⟨rfl, kb⟩; have hNb := hNa.trans kb)
              | (go_at_call 10; refine (lives_any _).mono ?_; rintro e wc ⟨rfl, kc⟩))
            go_ret
            exact ⟨rfl, hNwh.out.trans (hNb.trans kc)⟩
set_option maxRecDepth 100000 in
set_option maxHeartbeats 8000000 in
theorem walk (vl : Value) (L : List OpD) (add : Int) (ll : L.length ≤ 9223372036854775807) (hpr : ∀ m ∈ L, -9223372036854775808 ≤ m.pair ∧ m.pair < 9223372036854775808) (ha : InR add) (w : World) (hl0 : Hid (OpsR0 w vl L)) :
    Calls Try.prog 3 #[vl, .int .i64 add] w fun e w' => e = .returned (.bool true) ∧ Below w.heap.size w w' := by
  have hl := hl0.out
  clear hl0
  obtain ⟨p, c, rfl, -⟩ := hl.cases
  have H1 := Lib.hid (fun w1 (k : Nb w w1) => light_any _ L w1 (hl.nb k) ll)
  cases c1 : LightS L with
  | false =>
    rw [c1] at H1
    obtain ⟨n, hn⟩ : ∃ n, L.length = n := ⟨_, rfl⟩
    rw [hn] at H1 ll ⊢
    clear hl hpr hn c1
    obtain ⟨X, hX⟩ : ∃ X, IntKind.u64.wrap add = X := ⟨_, rfl⟩
    have hXb : 0 ≤ X ∧ X < 18446744073709551616 := by rw [← hX, IntKind.wrap_u64]; omega
    obtain ⟨r, hr⟩ : ∃ r : Nat, X % 1000 = (r : Int) := ⟨(X % 1000).toNat, by omega⟩
    have hr1 : r < 1000 := by omega
    obtain ⟨hX0, hX1⟩ := hXb
    have e0 : IntKind.i64.wrap (1 + (r : Int)) = (r : Int) + 1 := by rw [IntKind.wrap_i64]; omega
    go_enter Try.func3, Try.ntmps3
    go_upto_region 2 with fail
    obtain ⟨W1, hW⟩ : ∃ W1, w.alloc (.cells #[.int .i64 ((r : Int) + 1)] 3) = W1 := ⟨_, rfl⟩
    have n1 : Nb w W1 := by rw [← hW]; exact (Nb.refl w).alloc _
    rw [hW]
    clear hW
    go_wp2_with (first
      | (go_at_call 9; (with_reducible refine (H1.out _ n1).mono ?_); rintro e w1 ⟨rfl, k1⟩)
      | (go_at_call 10; refine (lives_any _).mono ?_; rintro e w2 ⟨rfl, k2⟩))
    go_ret
    exact ⟨rfl, (n1.trans k1).trans k2⟩
  | true =>
    rw [c1] at H1
    have hL := hl.light c1
    have c2 := c1
    unfold LightS at c2
    simp only [Bool.and_eq_true, decide_eq_true_eq, List.all_eq_true] at c2
    obtain ⟨n, hn⟩ : ∃ n, L.length = n := ⟨_, rfl⟩
    rw [hn] at H1 hL c2 ⊢
    exact main p n c L add w (Lib.hid hL) (Lib.hid hn) c2.1 (Lib.hid c2.2) (Lib.hid hpr) ha H1
/-! The row's step. -/
set_option maxRecDepth 100000 in
set_option maxHeartbeats 1000000 in
theorem lifted (os : Os) (started : os.Started) (H : Type) (enc : TypeId × Value → H) :
    ReturnsInHanded {} Try.checked os 3 .any (Rows.orderRenamedSpec.pre6 enc Try.prog Try.f3 Rows.orderRenamedRow.domain false)
      (Rows.orderRenamedSpec.post enc Try.prog Try.f3 false true false false) := by
  refine returnsInHanded_of_change (C := Try.checked) own started (by kernel_rfl) Try.func3
    (ChangeSpec.witness6 (enc := enc) (C := Try.checked) false ⟨#[], #[.slice none 0 0, .int .i64 0], []⟩ 8 (by kernel_rfl) (by kernel_rfl) (by kernel_rfl) (by kernel_rfl)) ?_
  intro W base args ds gs before hval0 hW _ _
  have hval : ∀ (j : Nat) t v, Try.f3.params[j]? = some t → args[j]? = some v → Value.okWide Try.prog W .any base t v := hval0
  have hW' := hW
  obtain ⟨p, q, hA0, hV, rfl, hfz, hnd⟩ := hW
  have hA1 : DataW.TrodAll enc Try.prog W 0 (fun _ => true) true Try.f3.params.toList args.toList ds p := hA0
  have hA := hA1
  rw [Try.params3] at hA hval
  obtain ⟨v0, vs0, d0, ds0, p0, q0, hargs0, rfl, -, h0, r0⟩ := trodAll_cons hA
  obtain ⟨v1, vs1, d1, ds1, p1, q1, hargs1, rfl, -, h1, r1⟩ := trodAll_cons r0
  obtain ⟨rfl, rfl, -⟩ := trodAll_nil r1
  obtain rfl : args = #[v0, v1] := by cases args; simp_all
  obtain ⟨rfl, rfl⟩ := trodVars_none hV
  obtain ⟨l0, hO0, hln0, hpr0, hnz0⟩ := open_ops (hval 0 22 v0 rfl rfl) h0
  obtain ⟨n1, rfl, -, -, w1⟩ := open_int Try.underlying3 (hval 1 3 v1 rfl rfl) h1
  clear hval0
  simp only [List.append_nil] at hW'
  refine (walk v0 l0 n1 hln0 hpr0 (i64_of w1) W (Lib.hid hO0)).mono fun e W' ⟨he, hg⟩ => ?_
  subst he
  exact ⟨_, rfl, post_of_nb (pa := p) (pv := []) hW' (fun _ _ _ => (trodAll_cons_mk (shut_bool Try.underlying4 _) trodAll_mk0))
    (fun sp hsp => args_stay (by kernel_rfl) hg hA1 (fun t ht => by
      have h0 : (Try.f3.params.toList.all fun t => Try.prog.readableRec t && decide (t < Try.prog.types.size)) = true := by kernel_rfl
      have h1 := List.all_eq_true.1 h0 t ht
      rw [Bool.and_eq_true, decide_eq_true_eq] at h1
      exact h1) (fun x hx => hW'.lt x hx) hsp)
    (fun _ _ => rfl) (by simp) hg (ok_one (by kernel_rfl) rfl (okWide_bool_mk Try.underlying4 _))⟩
theorem over : Rows.orderRenamedRow.holds Try.pinned (OpenSpec.ofChange Rows.orderRenamedSpec) :=
  OpenClaim.holds_of_wide 3 Try.f3 rfl rfl rfl rfl rfl rfl rfl ⟨rfl, rfl, rfl, rfl, rfl⟩ rfl rfl rfl rfl rfl (by kernel_rfl) Try.func3 (by kernel_rfl)
    (of_decide_eq_true (by kernel_rfl)) (by unfold Func.isWrapper; first | (rw [if_pos (by decide +kernel)]; kernel_rfl) | (rw [if_neg (by decide +kernel)]; exact ⟨rfl, rfl⟩))
    (fun os started H enc _ => lifted os started H enc)
/-- The statement. -/
theorem proved : Rows.OrderRenamedSaid := over
#print axioms proved
end Go.Proofs.Yticifolljhplmaa.orderRenamed
