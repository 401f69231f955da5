/-
  Proved here: of the code: whether a body's head may be. Conditions: none. ¦ of the code: whether a part's head may be. Conditions: its texts have lengths.
-/
import Derived.Test.YtojogolmcclpoaaDoorSbg
import Derived.Test.YtojogolmcclpoaaDoorSbh
section
namespace Go.Proofs.YtojogolmcclpoaaDoor
open Go.RowKit
set_option linter.unusedVariables false
set_option linter.unusedSimpArgs false
set_option maxRecDepth 100000
set_option maxHeartbeats 4000000
attribute [-go_sem] run_eql_struct
theorem end1 (h : Hd) (hk : h.kind = 1) (w : World) : Calls Tryd.prog 49 #[.agg h.cells] w fun r w' => r = .returned (.bool (endS h)) ∧ Nb w w' := by
  have he := eq_head h ⟨h.sort, h.kind, [], h.actor, 0, false, 0, 0, h.stmts, h.args, 0, 0⟩
  have hs : endS h = (callS h h.actor && eqH h ⟨h.sort, h.kind, [], h.actor, 0, false, 0, 0, h.stmts, h.args, 0, 0⟩) := by unfold endS; simp [hk]
  generalize eqH h ⟨h.sort, h.kind, [], h.actor, 0, false, 0, 0, h.stmts, h.args, 0, 0⟩ = R at *
  have hg := Lib.hid (calls_any h h.actor)
  generalize callS h h.actor = G at *
  rw [hs]
  clear hs
  obtain ⟨s, k, nm, ac, n, lt, a6, a7, a8, a9, a10, a11⟩ := h
  simp only [Hd.cells] at *
  subst hk
  replace he : ∀ W, (binOp .eql 34 (.agg #[.int .i64 s, .int .i64 1, sV nm, sV ac, .int .i64 n, .bool lt, nV a6, nV a7, nV a8, nV a9, nV a10, nV a11]) (.agg #[.int .i64 s, .int .i64 1, .string ⟨#[]⟩, sV ac, .int .i64 0, .bool false, .int .i64 0, .int .i64 0, nV a8, nV a9, .int .i64 0, .int .i64 0])).run Tryd.prog W = .ok (.bool R) W := he
  cases G
  all_goals
    go_enter Tryd.func49, Tryd.ntmps49
    go_wp2_with fail
    go_region
    go_wp2_with (go_at_call 47; refine (hg.out _).mono ?_; rintro r w4 ⟨rfl, g4⟩; have b1 := g4.block (old_blk (new_blk w _ rfl) _); have b2 := g4.block (new_blk _ _ (by rw [World.size_alloc])); have y0 := cell_of_row _ _ 0 _ _ _ b1; have y1 := cell_of_row _ _ 1 _ _ _ b1; have y2 := cell_of_row _ _ 2 _ _ _ b1; have y3 := cell_of_row _ _ 3 _ _ _ b1; have y4 := cell_of_row _ _ 4 _ _ _ b1; have y5 := cell_of_row _ _ 5 _ _ _ b1; have y6 := cell_of_row _ _ 6 _ _ _ b1; have y7 := cell_of_row _ _ 7 _ _ _ b1; have y8 := cell_of_row _ _ 8 _ _ _ b1; have y9 := cell_of_row _ _ 9 _ _ _ b1; have y10 := cell_of_row _ _ 10 _ _ _ b1; have y11 := cell_of_row _ _ 11 _ _ _ b1; have z0 := cell_of_row _ _ 0 _ _ _ b2; have z1 := cell_of_row _ _ 1 _ _ _ b2; have z2 := cell_of_row _ _ 2 _ _ _ b2; have z3 := cell_of_row _ _ 3 _ _ _ b2; have z4 := cell_of_row _ _ 4 _ _ _ b2; have z5 := cell_of_row _ _ 5 _ _ _ b2; have z6 := cell_of_row _ _ 6 _ _ _ b2; have z7 := cell_of_row _ _ 7 _ _ _ b2; have z8 := cell_of_row _ _ 8 _ _ _ b2; have z9 := cell_of_row _ _ 9 _ _ _ b2; have z10 := cell_of_row _ _ 10 _ _ _ b2; have z11 := cell_of_row _ _ 11 _ _ _ b2)
    go_ret
    exact ⟨rfl, Nb.trans (show Nb w _ from (nb_two w _ _).drew) g4⟩
theorem end2 (h : Hd) (hk : h.kind = 2) (w : World) : Calls Tryd.prog 49 #[.agg h.cells] w fun r w' => r = .returned (.bool (endS h)) ∧ Nb w w' := by
  have he := eq_head h ⟨h.sort, h.kind, [], [], 0, false, 0, 0, h.stmts, 0, 0, 0⟩
  have hs : endS h = (true && eqH h ⟨h.sort, h.kind, [], [], 0, false, 0, 0, h.stmts, 0, 0, 0⟩) := by unfold endS; simp [hk]
  generalize eqH h ⟨h.sort, h.kind, [], [], 0, false, 0, 0, h.stmts, 0, 0, 0⟩ = R at *
  rw [hs]
  clear hs
  obtain ⟨s, k, nm, ac, n, lt, a6, a7, a8, a9, a10, a11⟩ := h
  simp only [Hd.cells] at *
  subst hk
  replace he : ∀ W, (binOp .eql 34 (.agg #[.int .i64 s, .int .i64 2, sV nm, sV ac, .int .i64 n, .bool lt, nV a6, nV a7, nV a8, nV a9, nV a10, nV a11]) (.agg #[.int .i64 s, .int .i64 2, .string ⟨#[]⟩, .string ⟨#[]⟩, .int .i64 0, .bool false, .int .i64 0, .int .i64 0, nV a8, .int .i64 0, .int .i64 0, .int .i64 0])).run Tryd.prog W = .ok (.bool R) W := he
  go_enter Tryd.func49, Tryd.ntmps49
  go_wp2_with fail
  go_ret
  exact ⟨rfl, nb_two w _ _⟩
theorem end3 (h : Hd) (hk : h.kind = 3) (w : World) : Calls Tryd.prog 49 #[.agg h.cells] w fun r w' => r = .returned (.bool (endS h)) ∧ Nb w w' := by
  have he := eq_head h ⟨h.sort, h.kind, [], [], 0, false, 0, 0, h.stmts, 1, 2, 0⟩
  have hs : endS h = (true && eqH h ⟨h.sort, h.kind, [], [], 0, false, 0, 0, h.stmts, 1, 2, 0⟩) := by unfold endS; simp [hk]
  generalize eqH h ⟨h.sort, h.kind, [], [], 0, false, 0, 0, h.stmts, 1, 2, 0⟩ = R at *
  rw [hs]
  clear hs
  obtain ⟨s, k, nm, ac, n, lt, a6, a7, a8, a9, a10, a11⟩ := h
  simp only [Hd.cells] at *
  subst hk
  replace he : ∀ W, (binOp .eql 34 (.agg #[.int .i64 s, .int .i64 3, sV nm, sV ac, .int .i64 n, .bool lt, nV a6, nV a7, nV a8, nV a9, nV a10, nV a11]) (.agg #[.int .i64 s, .int .i64 3, .string ⟨#[]⟩, .string ⟨#[]⟩, .int .i64 0, .bool false, .int .i64 0, .int .i64 0, nV a8, .int .i64 1, .int .i64 2, .int .i64 0])).run Tryd.prog W = .ok (.bool R) W := he
  go_enter Tryd.func49, Tryd.ntmps49
  go_wp2_with fail
  go_ret
  exact ⟨rfl, nb_two w _ _⟩
theorem end0 (h : Hd) (h1 : ¬ h.kind = 1) (h2 : ¬ h.kind = 2) (h3 : ¬ h.kind = 3) (h4 : ¬ h.kind = 4) (w : World) : Calls Tryd.prog 49 #[.agg h.cells] w fun r w' => r = .returned (.bool (endS h)) ∧ Nb w w' := by
  have hs : endS h = false := by unfold endS; simp [h1, h2, h3, h4]
  rw [hs]
  clear hs
  obtain ⟨s, k, nm, ac, n, lt, a6, a7, a8, a9, a10, a11⟩ := h
  simp only [Hd.cells] at *
  go_enter Tryd.func49, Tryd.ntmps49
  go_wp2_with fail
  go_ret
  exact ⟨rfl, nb_two w _ _⟩
theorem end4f (h : Hd) (hk : h.kind = 4) (hl : h.late = false) (w : World) : Calls Tryd.prog 49 #[.agg h.cells] w fun r w' => r = .returned (.bool (endS h)) ∧ Nb w w' := by
  have he := eq_head h ⟨h.sort, h.kind, [], [], 0, false, 0, 0, h.stmts, 0, 0, h.arms⟩
  have hs : endS h = (decide ((0 : Int) < h.arms) && eqH h ⟨h.sort, h.kind, [], [], 0, false, 0, 0, h.stmts, 0, 0, h.arms⟩) := by unfold endS; simp [hk, hl]
  generalize eqH h ⟨h.sort, h.kind, [], [], 0, false, 0, 0, h.stmts, 0, 0, h.arms⟩ = R at *
  generalize hF : decide ((0 : Int) < h.arms) = F at *
  rw [hs]
  clear hs
  obtain ⟨s, k, nm, ac, n, lt, a6, a7, a8, a9, a10, a11⟩ := h
  simp only [Hd.cells] at *
  subst hk
  subst hl
  replace he : ∀ W, (binOp .eql 34 (.agg #[.int .i64 s, .int .i64 4, sV nm, sV ac, .int .i64 n, .bool false, nV a6, nV a7, nV a8, nV a9, nV a10, nV a11]) (.agg #[.int .i64 s, .int .i64 4, .string ⟨#[]⟩, .string ⟨#[]⟩, .int .i64 0, .bool false, .int .i64 0, .int .i64 0, nV a8, .int .i64 0, .int .i64 0, nV a11])).run Tryd.prog W = .ok (.bool R) W := he
  cases F
  · have h5 : ¬ (0 : Int) < (a11 : Int) := of_decide_eq_false hF
    clear hF
    go_enter Tryd.func49, Tryd.ntmps49
    go_wp2_with fail
    go_ret
    exact ⟨rfl, nb_two w _ _⟩
  · have h5 : (0 : Int) < (a11 : Int) := of_decide_eq_true hF
    clear hF
    go_enter Tryd.func49, Tryd.ntmps49
    go_wp2_with fail
    go_ret
    exact ⟨rfl, nb_two w _ _⟩
theorem end4t (h : Hd) (hk : h.kind = 4) (hl : h.late = true) (w : World) : Calls Tryd.prog 49 #[.agg h.cells] w fun r w' => r = .returned (.bool (endS h)) ∧ Nb w w' := by
  have he := eq_head h ⟨h.sort, h.kind, [], [], h.n, true, 0, 0, h.stmts, 0, 1, h.arms⟩
  have hs : endS h = (inI h.n 0 2305843009213693951 && eqH h ⟨h.sort, h.kind, [], [], h.n, true, 0, 0, h.stmts, 0, 1, h.arms⟩) := by unfold endS; simp [hk, hl]
  generalize eqH h ⟨h.sort, h.kind, [], [], h.n, true, 0, 0, h.stmts, 0, 1, h.arms⟩ = R at *
  have hf := Lib.hid (within_any h.n 0 2305843009213693951)
  generalize inI h.n 0 2305843009213693951 = F at *
  rw [hs]
  clear hs
  obtain ⟨s, k, nm, ac, n, lt, a6, a7, a8, a9, a10, a11⟩ := h
  simp only [Hd.cells] at *
  subst hk
  subst hl
  replace he : ∀ W, (binOp .eql 34 (.agg #[.int .i64 s, .int .i64 4, sV nm, sV ac, .int .i64 n, .bool true, nV a6, nV a7, nV a8, nV a9, nV a10, nV a11]) (.agg #[.int .i64 s, .int .i64 4, .string ⟨#[]⟩, .string ⟨#[]⟩, .int .i64 n, .bool true, .int .i64 0, .int .i64 0, nV a8, .int .i64 0, .int .i64 1, nV a11])).run Tryd.prog W = .ok (.bool R) W := he
  cases F
  all_goals
    go_enter Tryd.func49, Tryd.ntmps49
    go_wp2_with fail
    go_region
    go_wp2_with (go_at_call 46; refine (hf.out _).mono ?_; rintro r w3 ⟨rfl, rfl⟩)
    go_ret
    exact ⟨rfl, (nb_two w _ _).drew⟩
theorem end_any (h : Hd) (w : World) : Calls Tryd.prog 49 #[.agg h.cells] w fun r w' => r = .returned (.bool (endS h)) ∧ Nb w w' := by
  by_cases h1 : h.kind = 1
  · exact end1 h h1 w
  by_cases h2 : h.kind = 2
  · exact end2 h h2 w
  by_cases h3 : h.kind = 3
  · exact end3 h h3 w
  by_cases h4 : h.kind = 4
  · cases hl : h.late with
    | false => exact end4f h h4 hl w
    | true => exact end4t h h4 hl w
  exact end0 h h1 h2 h3 h4 w
end Go.Proofs.YtojogolmcclpoaaDoor
end
section
namespace Go.Proofs.YtojogolmcclpoaaDoor
open Go.RowKit
set_option linter.unusedVariables false
set_option linter.unusedSimpArgs false
set_option maxRecDepth 100000
set_option maxHeartbeats 4000000
attribute [-go_sem] run_eql_struct
theorem nb_one (w : World) (o : Obj) : Nb w (w.alloc o) := (Nb.refl w).alloc o
theorem may1 (h : Hd) (hs : h.sort = 1) (w : World) : Calls Tryd.prog 14 #[.agg h.cells] w fun r w' => r = .returned (.bool (mayS h)) ∧ Nb w w' := by
  have hm : mayS h = (inI h.defs 1 64 && callS h h.name) := by unfold mayS; simp [hs]
  rw [hm]
  clear hm
  have hf := Lib.hid (within_any h.defs 1 64)
  have hg := Lib.hid (calls_any h h.name)
  generalize inI h.defs 1 64 = F at *
  generalize callS h h.name = G at *
  obtain ⟨s, k, nm, ac, n, lt, a6, a7, a8, a9, a10, a11⟩ := h
  simp only [Hd.cells] at *
  subst hs
  cases F
  · go_enter Tryd.func14, Tryd.ntmps14
    go_wp2_with (first | (go_at_call 46; refine (hf.out _).mono ?_; rintro r w3 ⟨rfl, rfl⟩))
    go_ret
    exact ⟨rfl, nb_one w _⟩
  · go_enter Tryd.func14, Tryd.ntmps14
    go_wp2_with (first | (go_at_call 46; refine (hf.out _).mono ?_; rintro r w3 ⟨rfl, rfl⟩) | (go_at_call 47; refine (hg.out _).mono ?_; rintro r w4 ⟨rfl, g4⟩))
    go_ret
    exact ⟨by cases G <;> rfl, Nb.trans (nb_one w _) g4⟩
theorem may2 (h : Hd) (hs : h.sort = 2) (w : World) : Calls Tryd.prog 14 #[.agg h.cells] w fun r w' => r = .returned (.bool (mayS h)) ∧ Nb w w' := by
  have hm : mayS h = (nameS h.name && decide ((h.params : Int) ≤ 8)) := by unfold mayS; simp [hs]
  rw [hm]
  clear hm
  have hf := Lib.hid (name_all h.name)
  generalize nameS h.name = F at *
  obtain ⟨s, k, nm, ac, n, lt, a6, a7, a8, a9, a10, a11⟩ := h
  simp only [Hd.cells] at *
  subst hs
  cases F
  all_goals
    go_enter Tryd.func14, Tryd.ntmps14
    go_wp2_with (go_at_call 48; refine (hf.out _).mono ?_; rintro r w3 ⟨rfl, rfl⟩)
    go_ret
    exact ⟨rfl, nb_one w _⟩
theorem may3 (h : Hd) (hs : h.sort = 3) (w : World) : Calls Tryd.prog 14 #[.agg h.cells] w fun r w' => r = .returned (.bool (mayS h)) ∧ Nb w w' := by
  have hm : mayS h = nameS h.name := by unfold mayS; simp [hs]
  rw [hm]
  clear hm
  have hf := Lib.hid (name_all h.name)
  generalize nameS h.name = F at *
  obtain ⟨s, k, nm, ac, n, lt, a6, a7, a8, a9, a10, a11⟩ := h
  simp only [Hd.cells] at *
  subst hs
  go_enter Tryd.func14, Tryd.ntmps14
  go_wp2_with (go_at_call 48; refine (hf.out _).mono ?_; rintro r w3 ⟨rfl, rfl⟩)
  go_ret
  exact ⟨rfl, nb_one w _⟩
theorem may4 (h : Hd) (hs : h.sort = 4) (w : World) : Calls Tryd.prog 14 #[.agg h.cells] w fun r w' => r = .returned (.bool (mayS h)) ∧ Nb w w' := by
  have hm : mayS h = endS h := by unfold mayS; simp [hs]
  rw [hm]
  clear hm
  have hf := Lib.hid (end_any h)
  generalize endS h = F at *
  obtain ⟨s, k, nm, ac, n, lt, a6, a7, a8, a9, a10, a11⟩ := h
  simp only [Hd.cells] at *
  subst hs
  go_enter Tryd.func14, Tryd.ntmps14
  go_wp2_with (go_at_call 49; refine (hf.out _).mono ?_; rintro r w3 ⟨rfl, g3⟩)
  go_ret
  exact ⟨rfl, Nb.trans (nb_one w _) g3⟩
theorem may5 (h : Hd) (hs : h.sort = 5) (w : World) : Calls Tryd.prog 14 #[.agg h.cells] w fun r w' => r = .returned (.bool (mayS h)) ∧ Nb w w' := by
  have hm : mayS h = stateS h := by unfold mayS; simp [hs]
  rw [hm]
  clear hm
  have hf := Lib.hid (state_any h)
  generalize stateS h = F at *
  obtain ⟨s, k, nm, ac, n, lt, a6, a7, a8, a9, a10, a11⟩ := h
  simp only [Hd.cells] at *
  subst hs
  go_enter Tryd.func14, Tryd.ntmps14
  go_wp2_with (go_at_call 50; refine (hf.out _).mono ?_; rintro r w3 ⟨rfl, g3⟩)
  go_ret
  exact ⟨rfl, Nb.trans (nb_one w _) g3⟩
theorem may7 (h : Hd) (hs : h.sort = 7) (w : World) : Calls Tryd.prog 14 #[.agg h.cells] w fun r w' => r = .returned (.bool (mayS h)) ∧ Nb w w' := by
  have hm : mayS h = reckS h := by unfold mayS; simp [hs]
  rw [hm]
  clear hm
  have hf := Lib.hid (reck_any h)
  generalize reckS h = F at *
  obtain ⟨s, k, nm, ac, n, lt, a6, a7, a8, a9, a10, a11⟩ := h
  simp only [Hd.cells] at *
  subst hs
  go_enter Tryd.func14, Tryd.ntmps14
  go_wp2_with (go_at_call 51; refine (hf.out _).mono ?_; rintro r w3 ⟨rfl, g3⟩)
  go_ret
  exact ⟨rfl, Nb.trans (nb_one w _) g3⟩
theorem may6 (h : Hd) (hs : h.sort = 6) (w : World) : Calls Tryd.prog 14 #[.agg h.cells] w fun r w' => r = .returned (.bool (mayS h)) ∧ Nb w w' := by
  have hm : mayS h = decide ((h.args : Int) ≤ 1) := by unfold mayS; simp [hs]
  rw [hm]
  clear hm
  obtain ⟨s, k, nm, ac, n, lt, a6, a7, a8, a9, a10, a11⟩ := h
  simp only [Hd.cells] at *
  subst hs
  go_enter Tryd.func14, Tryd.ntmps14
  go_wp2_with fail
  go_ret
  exact ⟨rfl, nb_one w _⟩
theorem may8 (h : Hd) (h1 : ¬ h.sort = 1) (h2 : ¬ h.sort = 2) (h3 : ¬ h.sort = 3) (h4 : ¬ h.sort = 4) (h5 : ¬ h.sort = 5) (h6 : ¬ h.sort = 6) (h7 : ¬ h.sort = 7) (w : World) : Calls Tryd.prog 14 #[.agg h.cells] w fun r w' => r = .returned (.bool (mayS h)) ∧ Nb w w' := by
  have hm : mayS h = matchS h := by unfold mayS; simp [h1, h2, h3, h4, h5, h6, h7]
  rw [hm]
  clear hm
  have hf := Lib.hid (match_any h)
  generalize matchS h = F at *
  obtain ⟨s, k, nm, ac, n, lt, a6, a7, a8, a9, a10, a11⟩ := h
  simp only [Hd.cells] at *
  go_enter Tryd.func14, Tryd.ntmps14
  go_wp2_with (go_at_call 52; refine (hf.out _).mono ?_; rintro r w3 ⟨rfl, g3⟩)
  go_ret
  exact ⟨rfl, Nb.trans (nb_one w _) g3⟩
theorem may_any (h : Hd) (w : World) : Calls Tryd.prog 14 #[.agg h.cells] w fun r w' => r = .returned (.bool (mayS h)) ∧ Nb w w' := by
  by_cases h1 : h.sort = 1
  · exact may1 h h1 w
  by_cases h2 : h.sort = 2
  · exact may2 h h2 w
  by_cases h3 : h.sort = 3
  · exact may3 h h3 w
  by_cases h4 : h.sort = 4
  · exact may4 h h4 w
  by_cases h5 : h.sort = 5
  · exact may5 h h5 w
  by_cases h6 : h.sort = 6
  · exact may6 h h6 w
  by_cases h7 : h.sort = 7
  · exact may7 h h7 w
  exact may8 h h1 h2 h3 h4 h5 h6 h7 w
end Go.Proofs.YtojogolmcclpoaaDoor
end
