/-
  Proved here: of the code: whether a pattern's head may be. Conditions: none. ¦ of the code: whether a statement's head may be. Conditions: none.
-/
import Derived.Test.YtojogolmcclpoaaDoorSbg
section
namespace Go.Proofs.YtojogolmcclpoaaDoor
open Go.RowKit
set_option linter.unusedVariables false
set_option linter.unusedSimpArgs false
set_option maxRecDepth 100000
set_option maxHeartbeats 4000000
attribute [-go_sem] run_eql_struct
theorem match1 (h : Hd) (hk : h.kind = 1) (w : World) : Calls Tryd.prog 52 #[.agg h.cells] w fun r w' => r = .returned (.bool (matchS h)) ∧ Nb w w' := by
  have he := eq_head h ⟨h.sort, h.kind, [], [], 0, false, 0, 0, 0, 0, 0, 0⟩
  have hs : matchS h = (true && eqH h ⟨h.sort, h.kind, [], [], 0, false, 0, 0, 0, 0, 0, 0⟩) := by unfold matchS; simp [hk]
  generalize eqH h ⟨h.sort, h.kind, [], [], 0, false, 0, 0, 0, 0, 0, 0⟩ = R at *
  rw [hs]
  clear hs
  obtain ⟨s, k, nm, ac, n, lt, a6, a7, a8, a9, a10, a11⟩ := h
  simp only [Hd.cells] at *
  subst hk
  replace he : ∀ W, (binOp .eql 34 (.agg #[.int .i64 s, .int .i64 1, sV nm, sV ac, .int .i64 n, .bool lt, nV a6, nV a7, nV a8, nV a9, nV a10, nV a11]) (.agg #[.int .i64 s, .int .i64 1, .string ⟨#[]⟩, .string ⟨#[]⟩, .int .i64 0, .bool false, .int .i64 0, .int .i64 0, .int .i64 0, .int .i64 0, .int .i64 0, .int .i64 0])).run Tryd.prog W = .ok (.bool R) W := he
  go_enter Tryd.func52, Tryd.ntmps52
  go_wp2_with fail
  go_ret
  exact ⟨rfl, nb_two w _ _⟩
theorem match2 (h : Hd) (hk : h.kind = 2) (w : World) : Calls Tryd.prog 52 #[.agg h.cells] w fun r w' => r = .returned (.bool (matchS h)) ∧ Nb w w' := by
  have he := eq_head h ⟨h.sort, h.kind, [], [], h.n, false, 0, 0, 0, 0, 0, 0⟩
  have hs : matchS h = (inI h.n (-2305843009213693951) 2305843009213693951 && eqH h ⟨h.sort, h.kind, [], [], h.n, false, 0, 0, 0, 0, 0, 0⟩) := by unfold matchS; simp [hk]
  generalize eqH h ⟨h.sort, h.kind, [], [], h.n, false, 0, 0, 0, 0, 0, 0⟩ = R at *
  have hf := Lib.hid (within_any h.n (-2305843009213693951) 2305843009213693951)
  generalize inI h.n (-2305843009213693951) 2305843009213693951 = F at *
  rw [hs]
  clear hs
  obtain ⟨s, k, nm, ac, n, lt, a6, a7, a8, a9, a10, a11⟩ := h
  simp only [Hd.cells] at *
  subst hk
  replace he : ∀ W, (binOp .eql 34 (.agg #[.int .i64 s, .int .i64 2, sV nm, sV ac, .int .i64 n, .bool lt, nV a6, nV a7, nV a8, nV a9, nV a10, nV a11]) (.agg #[.int .i64 s, .int .i64 2, .string ⟨#[]⟩, .string ⟨#[]⟩, .int .i64 n, .bool false, .int .i64 0, .int .i64 0, .int .i64 0, .int .i64 0, .int .i64 0, .int .i64 0])).run Tryd.prog W = .ok (.bool R) W := he
  cases F
  all_goals
    go_enter Tryd.func52, Tryd.ntmps52
    go_wp2_with (go_at_call 46; refine (hf.out _).mono ?_; rintro r w3 ⟨rfl, rfl⟩)
    go_ret
    exact ⟨rfl, nb_two w _ _⟩
theorem match3 (h : Hd) (hk : h.kind = 3) (w : World) : Calls Tryd.prog 52 #[.agg h.cells] w fun r w' => r = .returned (.bool (matchS h)) ∧ Nb w w' := by
  have he := eq_head h ⟨h.sort, h.kind, h.name, [], 0, false, 0, 0, 0, 0, 0, 0⟩
  have hs : matchS h = (nameS h.name && eqH h ⟨h.sort, h.kind, h.name, [], 0, false, 0, 0, 0, 0, 0, 0⟩) := by unfold matchS; simp [hk]
  generalize eqH h ⟨h.sort, h.kind, h.name, [], 0, false, 0, 0, 0, 0, 0, 0⟩ = R at *
  have hf := Lib.hid (name_all h.name)
  generalize nameS h.name = F at *
  rw [hs]
  clear hs
  obtain ⟨s, k, nm, ac, n, lt, a6, a7, a8, a9, a10, a11⟩ := h
  simp only [Hd.cells] at *
  subst hk
  replace he : ∀ W, (binOp .eql 34 (.agg #[.int .i64 s, .int .i64 3, sV nm, sV ac, .int .i64 n, .bool lt, nV a6, nV a7, nV a8, nV a9, nV a10, nV a11]) (.agg #[.int .i64 s, .int .i64 3, sV nm, .string ⟨#[]⟩, .int .i64 0, .bool false, .int .i64 0, .int .i64 0, .int .i64 0, .int .i64 0, .int .i64 0, .int .i64 0])).run Tryd.prog W = .ok (.bool R) W := he
  cases F
  all_goals
    go_enter Tryd.func52, Tryd.ntmps52
    go_wp2_with (go_at_call 48; refine (hf.out _).mono ?_; rintro r w3 ⟨rfl, rfl⟩)
    go_ret
    exact ⟨rfl, nb_two w _ _⟩
theorem match4 (h : Hd) (hk : h.kind = 4) (w : World) : Calls Tryd.prog 52 #[.agg h.cells] w fun r w' => r = .returned (.bool (matchS h)) ∧ Nb w w' := by
  have he := eq_head h ⟨h.sort, h.kind, h.name, [], 0, false, 0, 0, 0, 0, 0, 0⟩
  have hs : matchS h = (nameS h.name && eqH h ⟨h.sort, h.kind, h.name, [], 0, false, 0, 0, 0, 0, 0, 0⟩) := by unfold matchS; simp [hk]
  generalize eqH h ⟨h.sort, h.kind, h.name, [], 0, false, 0, 0, 0, 0, 0, 0⟩ = R at *
  have hf := Lib.hid (name_all h.name)
  generalize nameS h.name = F at *
  rw [hs]
  clear hs
  obtain ⟨s, k, nm, ac, n, lt, a6, a7, a8, a9, a10, a11⟩ := h
  simp only [Hd.cells] at *
  subst hk
  replace he : ∀ W, (binOp .eql 34 (.agg #[.int .i64 s, .int .i64 4, sV nm, sV ac, .int .i64 n, .bool lt, nV a6, nV a7, nV a8, nV a9, nV a10, nV a11]) (.agg #[.int .i64 s, .int .i64 4, sV nm, .string ⟨#[]⟩, .int .i64 0, .bool false, .int .i64 0, .int .i64 0, .int .i64 0, .int .i64 0, .int .i64 0, .int .i64 0])).run Tryd.prog W = .ok (.bool R) W := he
  cases F
  all_goals
    go_enter Tryd.func52, Tryd.ntmps52
    go_wp2_with (go_at_call 48; refine (hf.out _).mono ?_; rintro r w3 ⟨rfl, rfl⟩)
    go_ret
    exact ⟨rfl, nb_two w _ _⟩
theorem match5 (h : Hd) (hk : h.kind = 5) (w : World) : Calls Tryd.prog 52 #[.agg h.cells] w fun r w' => r = .returned (.bool (matchS h)) ∧ Nb w w' := by
  have he := eq_head h ⟨h.sort, h.kind, [], [], 0, false, 0, 0, 0, h.args, 0, 0⟩
  have hs : matchS h = (inI h.args 1 4 && eqH h ⟨h.sort, h.kind, [], [], 0, false, 0, 0, 0, h.args, 0, 0⟩) := by unfold matchS; simp [hk]
  generalize eqH h ⟨h.sort, h.kind, [], [], 0, false, 0, 0, 0, h.args, 0, 0⟩ = R at *
  have hf := Lib.hid (within_any h.args 1 4)
  generalize inI h.args 1 4 = F at *
  rw [hs]
  clear hs
  obtain ⟨s, k, nm, ac, n, lt, a6, a7, a8, a9, a10, a11⟩ := h
  simp only [Hd.cells] at *
  subst hk
  replace he : ∀ W, (binOp .eql 34 (.agg #[.int .i64 s, .int .i64 5, sV nm, sV ac, .int .i64 n, .bool lt, nV a6, nV a7, nV a8, nV a9, nV a10, nV a11]) (.agg #[.int .i64 s, .int .i64 5, .string ⟨#[]⟩, .string ⟨#[]⟩, .int .i64 0, .bool false, .int .i64 0, .int .i64 0, .int .i64 0, nV a9, .int .i64 0, .int .i64 0])).run Tryd.prog W = .ok (.bool R) W := he
  cases F
  all_goals
    go_enter Tryd.func52, Tryd.ntmps52
    go_wp2_with (go_at_call 46; refine (hf.out _).mono ?_; rintro r w3 ⟨rfl, rfl⟩)
    go_ret
    exact ⟨rfl, nb_two w _ _⟩
theorem match0 (h : Hd) (h1 : ¬ h.kind = 1) (h2 : ¬ h.kind = 2) (h3 : ¬ h.kind = 3) (h4 : ¬ h.kind = 4) (h5 : ¬ h.kind = 5) (w : World) : Calls Tryd.prog 52 #[.agg h.cells] w fun r w' => r = .returned (.bool (matchS h)) ∧ Nb w w' := by
  have hs : matchS h = false := by unfold matchS; simp [h1, h2, h3, h4, h5]
  rw [hs]
  clear hs
  obtain ⟨s, k, nm, ac, n, lt, a6, a7, a8, a9, a10, a11⟩ := h
  simp only [Hd.cells] at *
  go_enter Tryd.func52, Tryd.ntmps52
  go_wp2_with fail
  go_ret
  exact ⟨rfl, nb_two w _ _⟩
theorem match_any (h : Hd) (w : World) : Calls Tryd.prog 52 #[.agg h.cells] w fun r w' => r = .returned (.bool (matchS h)) ∧ Nb w w' := by
  by_cases h1 : h.kind = 1
  · exact match1 h h1 w
  by_cases h2 : h.kind = 2
  · exact match2 h h2 w
  by_cases h3 : h.kind = 3
  · exact match3 h h3 w
  by_cases h4 : h.kind = 4
  · exact match4 h h4 w
  by_cases h5 : h.kind = 5
  · exact match5 h h5 w
  exact match0 h h1 h2 h3 h4 h5 w
end Go.Proofs.YtojogolmcclpoaaDoor
end
section
namespace Go.Proofs.YtojogolmcclpoaaDoor
open Go.RowKit
set_option linter.unusedVariables false
set_option linter.unusedSimpArgs false
set_option maxRecDepth 100000
set_option maxHeartbeats 4000000
attribute [-go_sem] run_eql_struct
theorem state1 (h : Hd) (hk : h.kind = 1) (w : World) : Calls Tryd.prog 50 #[.agg h.cells] w fun r w' => r = .returned (.bool (stateS h)) ∧ Nb w w' := by
  have he := eq_head h ⟨h.sort, h.kind, h.name, [], 0, false, 0, 0, 0, 1, 0, 0⟩
  have hs : stateS h = (nameS h.name && eqH h ⟨h.sort, h.kind, h.name, [], 0, false, 0, 0, 0, 1, 0, 0⟩) := by unfold stateS; simp [hk]
  generalize eqH h ⟨h.sort, h.kind, h.name, [], 0, false, 0, 0, 0, 1, 0, 0⟩ = R at *
  have hf := Lib.hid (name_all h.name)
  generalize nameS h.name = F at *
  rw [hs]
  clear hs
  obtain ⟨s, k, nm, ac, n, lt, a6, a7, a8, a9, a10, a11⟩ := h
  simp only [Hd.cells] at *
  subst hk
  replace he : ∀ W, (binOp .eql 34 (.agg #[.int .i64 s, .int .i64 1, sV nm, sV ac, .int .i64 n, .bool lt, nV a6, nV a7, nV a8, nV a9, nV a10, nV a11]) (.agg #[.int .i64 s, .int .i64 1, sV nm, .string ⟨#[]⟩, .int .i64 0, .bool false, .int .i64 0, .int .i64 0, .int .i64 0, .int .i64 1, .int .i64 0, .int .i64 0])).run Tryd.prog W = .ok (.bool R) W := he
  cases F
  all_goals
    go_enter Tryd.func50, Tryd.ntmps50
    go_wp2_with (go_at_call 48; refine (hf.out _).mono ?_; rintro r w3 ⟨rfl, rfl⟩)
    go_ret
    exact ⟨rfl, nb_two w _ _⟩
theorem state3 (h : Hd) (hk : h.kind = 3) (w : World) : Calls Tryd.prog 50 #[.agg h.cells] w fun r w' => r = .returned (.bool (stateS h)) ∧ Nb w w' := by
  have he := eq_head h ⟨h.sort, h.kind, [], [], 0, false, 0, 0, 0, 2, 0, 0⟩
  have hs : stateS h = (true && eqH h ⟨h.sort, h.kind, [], [], 0, false, 0, 0, 0, 2, 0, 0⟩) := by unfold stateS; simp [hk]
  generalize eqH h ⟨h.sort, h.kind, [], [], 0, false, 0, 0, 0, 2, 0, 0⟩ = R at *
  rw [hs]
  clear hs
  obtain ⟨s, k, nm, ac, n, lt, a6, a7, a8, a9, a10, a11⟩ := h
  simp only [Hd.cells] at *
  subst hk
  replace he : ∀ W, (binOp .eql 34 (.agg #[.int .i64 s, .int .i64 3, sV nm, sV ac, .int .i64 n, .bool lt, nV a6, nV a7, nV a8, nV a9, nV a10, nV a11]) (.agg #[.int .i64 s, .int .i64 3, .string ⟨#[]⟩, .string ⟨#[]⟩, .int .i64 0, .bool false, .int .i64 0, .int .i64 0, .int .i64 0, .int .i64 2, .int .i64 0, .int .i64 0])).run Tryd.prog W = .ok (.bool R) W := he
  go_enter Tryd.func50, Tryd.ntmps50
  go_wp2_with fail
  go_ret
  exact ⟨rfl, nb_two w _ _⟩
theorem state4 (h : Hd) (hk : h.kind = 4) (w : World) : Calls Tryd.prog 50 #[.agg h.cells] w fun r w' => r = .returned (.bool (stateS h)) ∧ Nb w w' := by
  have he := eq_head h ⟨h.sort, h.kind, [], [], 0, false, 0, 0, 0, 1, 0, 0⟩
  have hs : stateS h = (true && eqH h ⟨h.sort, h.kind, [], [], 0, false, 0, 0, 0, 1, 0, 0⟩) := by unfold stateS; simp [hk]
  generalize eqH h ⟨h.sort, h.kind, [], [], 0, false, 0, 0, 0, 1, 0, 0⟩ = R at *
  rw [hs]
  clear hs
  obtain ⟨s, k, nm, ac, n, lt, a6, a7, a8, a9, a10, a11⟩ := h
  simp only [Hd.cells] at *
  subst hk
  replace he : ∀ W, (binOp .eql 34 (.agg #[.int .i64 s, .int .i64 4, sV nm, sV ac, .int .i64 n, .bool lt, nV a6, nV a7, nV a8, nV a9, nV a10, nV a11]) (.agg #[.int .i64 s, .int .i64 4, .string ⟨#[]⟩, .string ⟨#[]⟩, .int .i64 0, .bool false, .int .i64 0, .int .i64 0, .int .i64 0, .int .i64 1, .int .i64 0, .int .i64 0])).run Tryd.prog W = .ok (.bool R) W := he
  go_enter Tryd.func50, Tryd.ntmps50
  go_wp2_with fail
  go_ret
  exact ⟨rfl, nb_two w _ _⟩
theorem state0 (h : Hd) (h1 : ¬ h.kind = 1) (h2 : ¬ h.kind = 2) (h3 : ¬ h.kind = 3) (h4 : ¬ h.kind = 4) (w : World) : Calls Tryd.prog 50 #[.agg h.cells] w fun r w' => r = .returned (.bool (stateS h)) ∧ Nb w w' := by
  have hs : stateS h = false := by unfold stateS; simp [h1, h2, h3, h4]
  rw [hs]
  clear hs
  obtain ⟨s, k, nm, ac, n, lt, a6, a7, a8, a9, a10, a11⟩ := h
  simp only [Hd.cells] at *
  go_enter Tryd.func50, Tryd.ntmps50
  go_wp2_with fail
  go_ret
  exact ⟨rfl, nb_two w _ _⟩
theorem state2 (h : Hd) (hk : h.kind = 2) (w : World) : Calls Tryd.prog 50 #[.agg h.cells] w fun r w' => r = .returned (.bool (stateS h)) ∧ Nb w w' := by
  have he := eq_head h ⟨h.sort, h.kind, h.name, h.actor, 0, false, 0, 0, 0, h.args, 0, 0⟩
  have hs : stateS h = ((nameS h.name && callS h h.actor) && eqH h ⟨h.sort, h.kind, h.name, h.actor, 0, false, 0, 0, 0, h.args, 0, 0⟩) := by unfold stateS; simp [hk]
  generalize eqH h ⟨h.sort, h.kind, h.name, h.actor, 0, false, 0, 0, 0, h.args, 0, 0⟩ = R at *
  have hf := Lib.hid (name_all h.name)
  have hg := Lib.hid (calls_any h h.actor)
  generalize nameS h.name = F at *
  generalize callS h h.actor = G at *
  rw [hs]
  clear hs
  obtain ⟨s, k, nm, ac, n, lt, a6, a7, a8, a9, a10, a11⟩ := h
  simp only [Hd.cells] at *
  subst hk
  replace he : ∀ W, (binOp .eql 34 (.agg #[.int .i64 s, .int .i64 2, sV nm, sV ac, .int .i64 n, .bool lt, nV a6, nV a7, nV a8, nV a9, nV a10, nV a11]) (.agg #[.int .i64 s, .int .i64 2, sV nm, sV ac, .int .i64 0, .bool false, .int .i64 0, .int .i64 0, .int .i64 0, nV a9, .int .i64 0, .int .i64 0])).run Tryd.prog W = .ok (.bool R) W := he
  cases F
  · go_enter Tryd.func50, Tryd.ntmps50
    go_wp2_with fail
    go_region
    go_wp2_with (first | (go_at_call 48; refine (hf.out _).mono ?_; rintro r w3 ⟨rfl, rfl⟩) | (go_at_call 47; refine (hg.out _).mono ?_; rintro r w4 ⟨rfl, g4⟩; have b1 := g4.block (old_blk (new_blk w _ rfl) _); have b2 := g4.block (new_blk _ _ (by rw [World.size_alloc])); have y0 := cell_of_row _ _ 0 _ _ _ b1; have y1 := cell_of_row _ _ 1 _ _ _ b1; have y2 := cell_of_row _ _ 2 _ _ _ b1; have y3 := cell_of_row _ _ 3 _ _ _ b1; have y4 := cell_of_row _ _ 4 _ _ _ b1; have y5 := cell_of_row _ _ 5 _ _ _ b1; have y6 := cell_of_row _ _ 6 _ _ _ b1; have y7 := cell_of_row _ _ 7 _ _ _ b1; have y8 := cell_of_row _ _ 8 _ _ _ b1; have y9 := cell_of_row _ _ 9 _ _ _ b1; have y10 := cell_of_row _ _ 10 _ _ _ b1; have y11 := cell_of_row _ _ 11 _ _ _ b1; have z0 := cell_of_row _ _ 0 _ _ _ b2; have z1 := cell_of_row _ _ 1 _ _ _ b2; have z2 := cell_of_row _ _ 2 _ _ _ b2; have z3 := cell_of_row _ _ 3 _ _ _ b2; have z4 := cell_of_row _ _ 4 _ _ _ b2; have z5 := cell_of_row _ _ 5 _ _ _ b2; have z6 := cell_of_row _ _ 6 _ _ _ b2; have z7 := cell_of_row _ _ 7 _ _ _ b2; have z8 := cell_of_row _ _ 8 _ _ _ b2; have z9 := cell_of_row _ _ 9 _ _ _ b2; have z10 := cell_of_row _ _ 10 _ _ _ b2; have z11 := cell_of_row _ _ 11 _ _ _ b2))
    go_ret
    exact ⟨rfl, (nb_two w _ _).drew⟩
  · cases G
    all_goals
      go_enter Tryd.func50, Tryd.ntmps50
      go_wp2_with fail
      go_region
      go_wp2_with (first | (go_at_call 48; refine (hf.out _).mono ?_; rintro r w3 ⟨rfl, rfl⟩) | (go_at_call 47; refine (hg.out _).mono ?_; rintro r w4 ⟨rfl, g4⟩; have b1 := g4.block (old_blk (new_blk w _ rfl) _); have b2 := g4.block (new_blk _ _ (by rw [World.size_alloc])); have y0 := cell_of_row _ _ 0 _ _ _ b1; have y1 := cell_of_row _ _ 1 _ _ _ b1; have y2 := cell_of_row _ _ 2 _ _ _ b1; have y3 := cell_of_row _ _ 3 _ _ _ b1; have y4 := cell_of_row _ _ 4 _ _ _ b1; have y5 := cell_of_row _ _ 5 _ _ _ b1; have y6 := cell_of_row _ _ 6 _ _ _ b1; have y7 := cell_of_row _ _ 7 _ _ _ b1; have y8 := cell_of_row _ _ 8 _ _ _ b1; have y9 := cell_of_row _ _ 9 _ _ _ b1; have y10 := cell_of_row _ _ 10 _ _ _ b1; have y11 := cell_of_row _ _ 11 _ _ _ b1; have z0 := cell_of_row _ _ 0 _ _ _ b2; have z1 := cell_of_row _ _ 1 _ _ _ b2; have z2 := cell_of_row _ _ 2 _ _ _ b2; have z3 := cell_of_row _ _ 3 _ _ _ b2; have z4 := cell_of_row _ _ 4 _ _ _ b2; have z5 := cell_of_row _ _ 5 _ _ _ b2; have z6 := cell_of_row _ _ 6 _ _ _ b2; have z7 := cell_of_row _ _ 7 _ _ _ b2; have z8 := cell_of_row _ _ 8 _ _ _ b2; have z9 := cell_of_row _ _ 9 _ _ _ b2; have z10 := cell_of_row _ _ 10 _ _ _ b2; have z11 := cell_of_row _ _ 11 _ _ _ b2))
      go_ret
      exact ⟨rfl, Nb.trans (show Nb w _ from (nb_two w _ _).drew) g4⟩
theorem state_any (h : Hd) (w : World) : Calls Tryd.prog 50 #[.agg h.cells] w fun r w' => r = .returned (.bool (stateS h)) ∧ Nb w w' := by
  by_cases h1 : h.kind = 1
  · exact state1 h h1 w
  by_cases h2 : h.kind = 2
  · exact state2 h h2 w
  by_cases h3 : h.kind = 3
  · exact state3 h h3 w
  by_cases h4 : h.kind = 4
  · exact state4 h h4 w
  exact state0 h h1 h2 h3 h4 w
end Go.Proofs.YtojogolmcclpoaaDoor
end
