/-
  Proved here: of the laws: whether values are not more than are looked at; two values in a new list. Conditions: the memory holds the values.
-/
import Derived.Test.YtchcfjlkgnlnoaaVp
namespace Go.Proofs.Ytchcfjlkgnlnoaa
open Go.RowKit Go.ChangeMaps
set_option linter.unusedVariables false
set_option linter.unusedSimpArgs false
set_option maxRecDepth 100000
set_option maxHeartbeats 4000000
def Vl.light (v : Vl) : Bool := decide (v.many 500 ≤ 500) && decide (v.deep 100 < 100)
theorem light_any (W0 : World) (sv : Value) (l : List Vl) (hl : VlsHas W0 sv l) (w : World) (hw : Nb W0 w) :
    Calls Try.prog 10 #[sv] w fun r w' => r = .returned (.bool (l.all Vl.light)) ∧ Nb w w' := by
  obtain ⟨A, cap, rfl, hcap, hlen, hA⟩ := hl.head
  obtain ⟨N, hN⟩ : ∃ N, l.length = N := ⟨_, rfl⟩
  have hNh := Lib.hid hN
  rw [hN] at hcap hlen hl ⊢
  clear hN
  have hX := Lib.hid hl
  clear hl
  obtain ⟨T, hT⟩ : ∃ T, l.all Vl.light = T := ⟨_, rfl⟩
  rw [hT]
  have hR0 := Lib.hid (show (l.drop 0).all Vl.light = T by rw [List.drop_zero]; exact hT)
  clear hT
  go_enter Try.func10, Try.ntmps10
  go_wp2_with fail
  go_loopw [7] (fun si wr => ∃ i : Nat, i ≤ N ∧ si = .int .i64 i ∧ Hid ((l.drop i).all Vl.light = T) ∧ Nb w wr) (fun si _ => N - (intOf si).toNat)
  case atStart => exact ⟨0, Nat.zero_le _, rfl, hR0, Nb.refl _⟩
  case round =>
    obtain ⟨i, hi, rfl, hR, hg⟩ := hrel
    clear hR0
    by_cases hlt : i < N
    · have hlt2 : (i : Int) < (N : Int) := by omega
      obtain ⟨x, hx⟩ : ∃ x, l[i]? = some x := ⟨_, List.getElem?_eq_getElem (by rw [hNh.out]; exact hlt)⟩
      obtain ⟨b', o', rfl, ⟨y0, y1, y2⟩, hxh⟩ := hX.out.at_ hx
      have hnb := hw.trans hg
      replace y0 := hnb.cell y0
      replace y1 := hnb.cell y1
      replace y2 := hnb.cell y2
      obtain ⟨Ax, cx, hax, -, -, -⟩ := hxh.vls.head
      obtain ⟨Lx, hLx⟩ : ∃ Lx, x.args.length = Lx := ⟨_, rfl⟩
      rw [hLx] at hax
      clear hLx
      have hcx : x.cells.toArray = #[.int .i64 x.kind, .int .i64 x.n, .slice Ax Lx cx] := by rw [← hax]; rfl
      rw [hax] at y2
      clear hax
      have hstep : (l.drop i).all Vl.light = (x.light && (l.drop (i + 1)).all Vl.light) := by rw [drop_some hx, List.all_cons]
      obtain ⟨mx, hmx⟩ : ∃ m, x.many 500 = m := ⟨_, rfl⟩
      obtain ⟨dx, hdx⟩ : ∃ m, x.deep 100 = m := ⟨_, rfl⟩
      have hlx : x.light = (decide (mx ≤ 500) && decide (dx < 100)) := by unfold Vl.light; rw [hmx, hdx]
      have hc1 : Hid (∀ W', Nb wr W' → Calls Try.prog 33 #[.agg #[.int .i64 x.kind, .int .i64 x.n, .slice Ax Lx cx], .int .i64 500] W' (fun r w' => r = .returned (.int .i64 (mx : Int)) ∧ Nb W' w')) := Lib.hid (fun W' n' => by
        rw [← hcx, ← hmx]
        exact many_any W0 x hxh 500 (by omega) W' (hnb.trans n'))
      have hc2 : Hid (∀ W', Nb wr W' → Calls Try.prog 34 #[.agg #[.int .i64 x.kind, .int .i64 x.n, .slice Ax Lx cx], .int .i64 100] W' (fun r w' => r = .returned (.int .i64 (dx : Int)) ∧ Nb W' w')) := Lib.hid (fun W' n' => by
        rw [← hcx, ← hdx]
        exact deep_any W0 x hxh 100 (by omega) W' (hnb.trans n'))
      rw [hR.out, hlx] at hstep
      clear hR hx hxh hcx hmx hdx hlx
      go_upto_region 4 with (fail)
      obtain ⟨W8, hW8⟩ : ∃ W8, wr.alloc (Obj.cells #[.int .i64 x.kind, .int .i64 x.n, .slice Ax Lx cx] 31) = W8 := ⟨_, rfl⟩
      have n8 : Nb wr W8 := by rw [← hW8]; exact (Nb.refl wr).alloc _
      have b8 : W8.heap[wr.heap.size]? = some (.cells #[.int .i64 x.kind, .int .i64 x.n, .slice Ax Lx cx] 31 (0, 0)) := by rw [← hW8]; exact new_blk _ _ rfl
      rw [hW8]
      clear hW8 y0 y1 y2
      obtain ⟨XX, hX8⟩ : ∃ X, wr.heap.size = X := ⟨_, rfl⟩
      rw [hX8] at b8 ⊢
      clear hX8
      have z0 := cell_of_row _ _ 0 _ _ _ b8
      have z1 := cell_of_row _ _ 1 _ _ _ b8
      have z2 := cell_of_row _ _ 2 _ _ _ b8
      by_cases h1 : mx ≤ 500
      · have h1i : ¬ (500 : Int) < (mx : Int) := by omega
        by_cases h2 : dx < 100
        · have h2i : ¬ (100 : Int) ≤ (dx : Int) := by omega
          have hRn : Hid ((l.drop (i + 1)).all Vl.light = T) := Lib.hid (by rw [hstep, decide_eq_true h1, decide_eq_true h2]; simp)
          clear hstep h1 h2
          go_wp2_with (first
            | (go_at_call 33; refine (hc1.out _ n8).mono ?_; rintro r w3 ⟨rfl, n3⟩; have b9 := n3.block b8; have u0 := cell_of_row _ _ 0 _ _ _ b9; have u1 := cell_of_row _ _ 1 _ _ _ b9; have u2 := cell_of_row _ _ 2 _ _ _ b9)
            | (go_at_call 34; refine (hc2.out _ (n8.trans n3)).mono ?_; rintro r w4 ⟨rfl, n4⟩))
          exact ⟨⟨i + 1, by omega, by simp, hRn, hg.trans (n8.trans (n3.trans n4))⟩, by simp [intOf] <;> omega⟩
        · have h2i : (100 : Int) ≤ (dx : Int) := by omega
          have hRn : false = T := by rw [hstep, decide_eq_false h2]; simp
          subst hRn
          clear hstep h1 h2
          go_wp2_with (first
            | (go_at_call 33; refine (hc1.out _ n8).mono ?_; rintro r w3 ⟨rfl, n3⟩; have b9 := n3.block b8; have u0 := cell_of_row _ _ 0 _ _ _ b9; have u1 := cell_of_row _ _ 1 _ _ _ b9; have u2 := cell_of_row _ _ 2 _ _ _ b9)
            | (go_at_call 34; refine (hc2.out _ (n8.trans n3)).mono ?_; rintro r w4 ⟨rfl, n4⟩))
          go_ret
          exact ⟨rfl, hg.trans (n8.trans (n3.trans n4))⟩
      · have h1i : (500 : Int) < (mx : Int) := by omega
        have hRn : false = T := by rw [hstep, decide_eq_false h1]; simp
        subst hRn
        clear hstep h1
        go_wp2_with (go_at_call 33; refine (hc1.out _ n8).mono ?_; rintro r w3 ⟨rfl, n3⟩)
        go_ret
        exact ⟨rfl, hg.trans (n8.trans n3)⟩
    · obtain rfl : i = N := by omega
      have hend : true = T := by rw [← hR.out, List.drop_eq_nil_of_le (by rw [hNh.out]; exact Nat.le_refl _)]; rfl
      subst hend
      clear hR
      go_wp2_with fail
      go_ret
      exact ⟨rfl, hg⟩
/-- Two values, side by side in a new block. -/
theorem two_has {w : World} {g : Nat} {a b : Vl} (h : w.heap[g]? = some (.cells #[.int .i64 a.kind, .int .i64 a.n, a.av, .int .i64 b.kind, .int .i64 b.n, b.av] 31 (0, 0))) (ha : a.Has w) (hb : b.Has w) : VlsHas w (.slice (some ⟨g, 0, none⟩) 2 2) [a, b] := by
  refine ⟨⟨some ⟨g, 0, none⟩, 2, rfl, by simp, by simp, (fun h => nomatch h), ?_⟩, ?_⟩
  · intro i r hi
    refine ⟨g, 0, rfl, fun j u hu => ?_⟩
    rw [cell_of_row _ _ _ _ _ _ h]
    match i, hi with
    | 0, hi =>
      simp only [List.map_cons, List.getElem?_cons_zero, Option.some.injEq] at hi
      subst hi
      match j, hu with
      | 0, hu => simpa [Vl.cells] using hu
      | 1, hu => simpa [Vl.cells] using hu
      | 2, hu => simpa [Vl.cells] using hu
      | j + 3, hu => simp [Vl.cells] at hu
    | 1, hi =>
      simp only [List.map_cons, List.getElem?_cons_succ, List.getElem?_cons_zero, Option.some.injEq] at hi
      subst hi
      match j, hu with
      | 0, hu => simpa [Vl.cells] using hu
      | 1, hu => simpa [Vl.cells] using hu
      | 2, hu => simpa [Vl.cells] using hu
      | j + 3, hu => simp [Vl.cells] at hu
    | i + 2, hi => simp at hi
  · intro x hx
    simp only [List.mem_cons, List.not_mem_nil, or_false] at hx
    rcases hx with rfl | rfl
    · exact ha
    · exact hb
end Go.Proofs.Ytchcfjlkgnlnoaa
