/-
  Proved here: of the code: whether an expression's head may be. Conditions: none.
-/
import Derived.Test.YtojogolmcclpoaaDoorSbf
import Derived.Test.YtojogolmcclpoaaDoorSaa
namespace Go.Proofs.YtojogolmcclpoaaDoor
open Go.RowKit
set_option linter.unusedVariables false
set_option linter.unusedSimpArgs false
set_option maxRecDepth 100000
set_option maxHeartbeats 4000000
attribute [-go_sem] run_eql_struct
theorem name_all (l : Bs) (w : World) : Calls Tryd.prog 48 #[.string ⟨l.toArray⟩] w fun e w' => e = .returned (.bool (nameS l)) ∧ w = w' := by
  by_cases h2 : 32 < l.length
  · have e : nameS l = false := by unfold nameS; simp; omega
    rw [e]
    clear e
    go_enter Tryd.func48, Tryd.ntmps48
    go_wp2_with fail
    go_ret
    first | exact ⟨rfl, rfl⟩ | exact ⟨trivial, rfl⟩
  · exact name_any l (by omega) w
theorem within_any (n a b : Int) (w : World) : Calls Tryd.prog 46 #[.int .i64 n, .int .i64 a, .int .i64 b] w fun r w' => r = .returned (.bool (inI n a b)) ∧ w = w' := by
  go_enter Tryd.func46, Tryd.ntmps46
  unfold inI
  by_cases h1 : a ≤ n
  · go_wp2_with fail
    go_ret
    exact ⟨by simp [h1], rfl⟩
  · go_wp2_with fail
    go_ret
    exact ⟨by rw [decide_eq_false (show ¬ a ≤ n by omega)]; rfl, rfl⟩
theorem reckons_any (t : Bs) (w : World) : Calls Tryd.prog 63 #[sV t] w fun r w' => r = .returned (.bool (recS t)) ∧ w = w' := by
  cases e : recS t with
  | true =>
    simp only [recS, Bool.or_eq_true, beq_iff_eq] at e
    rcases e with (((rfl | rfl) | rfl) | rfl) | rfl <;>
    · go_enter Tryd.func63, Tryd.ntmps63
      repeat (first | (with_reducible first | refine then_exit ?_ | refine in_same ?_ | refine then_ret ?_ | refine in_ret ?_) | ((with_reducible refine in_other ?_ ?_); decide) | go_values | go_skip | go_guarded | go_step | go_upon | go_back)
      go_ret
      exact ⟨rfl, rfl⟩
  | false =>
    simp only [recS, Bool.or_eq_false_iff] at e
    obtain ⟨⟨⟨⟨h0, h1⟩, h2⟩, h3⟩, h4⟩ := e
    go_enter Tryd.func63, Tryd.ntmps63
    repeat (first | (with_reducible first | refine then_exit ?_ | refine in_same ?_ | refine then_ret ?_ | refine in_ret ?_) | ((with_reducible refine in_other ?_ ?_); decide) | go_values | go_skip | go_guarded | go_step | go_upon | go_back)
    go_ret
    exact ⟨rfl, rfl⟩
theorem calls_any (h : Hd) (t : Bs) (w : World) : Calls Tryd.prog 47 #[.agg h.cells, sV t] w fun r w' => r = .returned (.bool (callS h t)) ∧ Nb w w' := by
  obtain ⟨s, k, nm, ac, n, lt, a6, a7, a8, a9, a10, a11⟩ := h
  simp only [Hd.cells, callS]
  have hn := Lib.hid (name_all t)
  go_enter Tryd.func47, Tryd.ntmps47
  cases h1 : nameS t with
  | false =>
    rw [h1] at hn
    go_wp2_with fail
    refine (hn.out _).mono ?_
    rintro r w1 ⟨rfl, rfl⟩
    go_wp2_with fail
    go_ret
    exact ⟨rfl, (Nb.refl w).alloc _⟩
  | true =>
    rw [h1] at hn
    go_wp2_with fail
    refine (hn.out _).mono ?_
    rintro r w1 ⟨rfl, rfl⟩
    go_wp2_with fail
    go_ret
    exact ⟨rfl, (Nb.refl w).alloc _⟩
theorem nb_two (w : World) (o o' : Obj) : Nb w ((w.alloc o).alloc o') := ((Nb.refl w).alloc _).alloc _
theorem reck4 (h : Hd) (hk : h.kind = 4) (w : World) : Calls Tryd.prog 51 #[.agg h.cells] w fun r w' => r = .returned (.bool (reckS h)) ∧ Nb w w' := by
  have he := eq_head h ⟨h.sort, h.kind, [], [], 0, false, 0, 0, 0, 0, 0, 0⟩
  have hs : reckS h = (true && eqH h ⟨h.sort, h.kind, [], [], 0, false, 0, 0, 0, 0, 0, 0⟩) := by unfold reckS; simp [hk]
  generalize eqH h ⟨h.sort, h.kind, [], [], 0, false, 0, 0, 0, 0, 0, 0⟩ = R at *
  rw [hs]
  clear hs
  obtain ⟨s, k, nm, ac, n, lt, a6, a7, a8, a9, a10, a11⟩ := h
  simp only [Hd.cells] at *
  subst hk
  replace he : ∀ W, (binOp .eql 34 (.agg #[.int .i64 s, .int .i64 4, sV nm, sV ac, .int .i64 n, .bool lt, nV a6, nV a7, nV a8, nV a9, nV a10, nV a11]) (.agg #[.int .i64 s, .int .i64 4, .string ⟨#[]⟩, .string ⟨#[]⟩, .int .i64 0, .bool false, .int .i64 0, .int .i64 0, .int .i64 0, .int .i64 0, .int .i64 0, .int .i64 0])).run Tryd.prog W = .ok (.bool R) W := he
  go_enter Tryd.func51, Tryd.ntmps51
  go_wp2_with fail
  go_ret
  exact ⟨rfl, nb_two w _ _⟩
theorem reck1 (h : Hd) (hk : h.kind = 1) (w : World) : Calls Tryd.prog 51 #[.agg h.cells] w fun r w' => r = .returned (.bool (reckS h)) ∧ Nb w w' := by
  have he := eq_head h ⟨h.sort, h.kind, [], [], h.n, false, 0, 0, 0, 0, 0, 0⟩
  have hs : reckS h = (inI h.n 0 2305843009213693951 && eqH h ⟨h.sort, h.kind, [], [], h.n, false, 0, 0, 0, 0, 0, 0⟩) := by unfold reckS; simp [hk]
  generalize eqH h ⟨h.sort, h.kind, [], [], h.n, false, 0, 0, 0, 0, 0, 0⟩ = R at *
  have hf := Lib.hid (within_any h.n 0 2305843009213693951)
  generalize inI h.n 0 2305843009213693951 = F at *
  rw [hs]
  clear hs
  obtain ⟨s, k, nm, ac, n, lt, a6, a7, a8, a9, a10, a11⟩ := h
  simp only [Hd.cells] at *
  subst hk
  replace he : ∀ W, (binOp .eql 34 (.agg #[.int .i64 s, .int .i64 1, sV nm, sV ac, .int .i64 n, .bool lt, nV a6, nV a7, nV a8, nV a9, nV a10, nV a11]) (.agg #[.int .i64 s, .int .i64 1, .string ⟨#[]⟩, .string ⟨#[]⟩, .int .i64 n, .bool false, .int .i64 0, .int .i64 0, .int .i64 0, .int .i64 0, .int .i64 0, .int .i64 0])).run Tryd.prog W = .ok (.bool R) W := he
  cases F
  all_goals
    go_enter Tryd.func51, Tryd.ntmps51
    go_wp2_with (go_at_call 46; refine (hf.out _).mono ?_; rintro r w3 ⟨rfl, rfl⟩)
    go_ret
    exact ⟨rfl, nb_two w _ _⟩
theorem reck2 (h : Hd) (hk : h.kind = 2) (w : World) : Calls Tryd.prog 51 #[.agg h.cells] w fun r w' => r = .returned (.bool (reckS h)) ∧ Nb w w' := by
  have he := eq_head h ⟨h.sort, h.kind, h.name, [], 0, false, 0, 0, 0, 0, 0, 0⟩
  have hs : reckS h = (nameS h.name && eqH h ⟨h.sort, h.kind, h.name, [], 0, false, 0, 0, 0, 0, 0, 0⟩) := by unfold reckS; simp [hk]
  generalize eqH h ⟨h.sort, h.kind, h.name, [], 0, false, 0, 0, 0, 0, 0, 0⟩ = R at *
  have hf := Lib.hid (name_all h.name)
  generalize nameS h.name = F at *
  rw [hs]
  clear hs
  obtain ⟨s, k, nm, ac, n, lt, a6, a7, a8, a9, a10, a11⟩ := h
  simp only [Hd.cells] at *
  subst hk
  replace he : ∀ W, (binOp .eql 34 (.agg #[.int .i64 s, .int .i64 2, sV nm, sV ac, .int .i64 n, .bool lt, nV a6, nV a7, nV a8, nV a9, nV a10, nV a11]) (.agg #[.int .i64 s, .int .i64 2, sV nm, .string ⟨#[]⟩, .int .i64 0, .bool false, .int .i64 0, .int .i64 0, .int .i64 0, .int .i64 0, .int .i64 0, .int .i64 0])).run Tryd.prog W = .ok (.bool R) W := he
  cases F
  all_goals
    go_enter Tryd.func51, Tryd.ntmps51
    go_wp2_with (go_at_call 48; refine (hf.out _).mono ?_; rintro r w3 ⟨rfl, rfl⟩)
    go_ret
    exact ⟨rfl, nb_two w _ _⟩
theorem reck3 (h : Hd) (hk : h.kind = 3) (w : World) : Calls Tryd.prog 51 #[.agg h.cells] w fun r w' => r = .returned (.bool (reckS h)) ∧ Nb w w' := by
  have he := eq_head h ⟨h.sort, h.kind, h.name, [], 0, false, 0, 0, 0, 0, 0, 0⟩
  have hs : reckS h = (nameS h.name && eqH h ⟨h.sort, h.kind, h.name, [], 0, false, 0, 0, 0, 0, 0, 0⟩) := by unfold reckS; simp [hk]
  generalize eqH h ⟨h.sort, h.kind, h.name, [], 0, false, 0, 0, 0, 0, 0, 0⟩ = R at *
  have hf := Lib.hid (name_all h.name)
  generalize nameS h.name = F at *
  rw [hs]
  clear hs
  obtain ⟨s, k, nm, ac, n, lt, a6, a7, a8, a9, a10, a11⟩ := h
  simp only [Hd.cells] at *
  subst hk
  replace he : ∀ W, (binOp .eql 34 (.agg #[.int .i64 s, .int .i64 3, sV nm, sV ac, .int .i64 n, .bool lt, nV a6, nV a7, nV a8, nV a9, nV a10, nV a11]) (.agg #[.int .i64 s, .int .i64 3, sV nm, .string ⟨#[]⟩, .int .i64 0, .bool false, .int .i64 0, .int .i64 0, .int .i64 0, .int .i64 0, .int .i64 0, .int .i64 0])).run Tryd.prog W = .ok (.bool R) W := he
  cases F
  all_goals
    go_enter Tryd.func51, Tryd.ntmps51
    go_wp2_with (go_at_call 48; refine (hf.out _).mono ?_; rintro r w3 ⟨rfl, rfl⟩)
    go_ret
    exact ⟨rfl, nb_two w _ _⟩
theorem reck5 (h : Hd) (hk : h.kind = 5) (w : World) : Calls Tryd.prog 51 #[.agg h.cells] w fun r w' => r = .returned (.bool (reckS h)) ∧ Nb w w' := by
  have he := eq_head h ⟨h.sort, h.kind, [], [], 0, false, 0, 0, 0, h.args, 0, 0⟩
  have hs : reckS h = (inI h.args 1 4 && eqH h ⟨h.sort, h.kind, [], [], 0, false, 0, 0, 0, h.args, 0, 0⟩) := by unfold reckS; simp [hk]
  generalize eqH h ⟨h.sort, h.kind, [], [], 0, false, 0, 0, 0, h.args, 0, 0⟩ = R at *
  have hf := Lib.hid (within_any h.args 1 4)
  generalize inI h.args 1 4 = F at *
  rw [hs]
  clear hs
  obtain ⟨s, k, nm, ac, n, lt, a6, a7, a8, a9, a10, a11⟩ := h
  simp only [Hd.cells] at *
  subst hk
  replace he : ∀ W, (binOp .eql 34 (.agg #[.int .i64 s, .int .i64 5, sV nm, sV ac, .int .i64 n, .bool lt, nV a6, nV a7, nV a8, nV a9, nV a10, nV a11]) (.agg #[.int .i64 s, .int .i64 5, .string ⟨#[]⟩, .string ⟨#[]⟩, .int .i64 0, .bool false, .int .i64 0, .int .i64 0, .int .i64 0, nV a9, .int .i64 0, .int .i64 0])).run Tryd.prog W = .ok (.bool R) W := he
  cases F
  all_goals
    go_enter Tryd.func51, Tryd.ntmps51
    go_wp2_with (go_at_call 46; refine (hf.out _).mono ?_; rintro r w3 ⟨rfl, rfl⟩)
    go_ret
    exact ⟨rfl, nb_two w _ _⟩
theorem reck6 (h : Hd) (hk : h.kind = 6) (w : World) : Calls Tryd.prog 51 #[.agg h.cells] w fun r w' => r = .returned (.bool (reckS h)) ∧ Nb w w' := by
  have he := eq_head h ⟨h.sort, h.kind, h.name, [], 0, false, 0, 0, 0, 2, 0, 0⟩
  have hs : reckS h = (recS h.name && eqH h ⟨h.sort, h.kind, h.name, [], 0, false, 0, 0, 0, 2, 0, 0⟩) := by unfold reckS; simp [hk]
  generalize eqH h ⟨h.sort, h.kind, h.name, [], 0, false, 0, 0, 0, 2, 0, 0⟩ = R at *
  have hf := Lib.hid (reckons_any h.name)
  generalize recS h.name = F at *
  rw [hs]
  clear hs
  obtain ⟨s, k, nm, ac, n, lt, a6, a7, a8, a9, a10, a11⟩ := h
  simp only [Hd.cells] at *
  subst hk
  replace he : ∀ W, (binOp .eql 34 (.agg #[.int .i64 s, .int .i64 6, sV nm, sV ac, .int .i64 n, .bool lt, nV a6, nV a7, nV a8, nV a9, nV a10, nV a11]) (.agg #[.int .i64 s, .int .i64 6, sV nm, .string ⟨#[]⟩, .int .i64 0, .bool false, .int .i64 0, .int .i64 0, .int .i64 0, .int .i64 2, .int .i64 0, .int .i64 0])).run Tryd.prog W = .ok (.bool R) W := he
  cases F
  all_goals
    go_enter Tryd.func51, Tryd.ntmps51
    go_wp2_with (go_at_call 63; refine (hf.out _).mono ?_; rintro r w3 ⟨rfl, rfl⟩)
    go_ret
    exact ⟨rfl, nb_two w _ _⟩
theorem reck0 (h : Hd) (h1 : ¬ h.kind = 1) (h2 : ¬ h.kind = 2) (h3 : ¬ h.kind = 3) (h4 : ¬ h.kind = 4) (h5 : ¬ h.kind = 5) (h6 : ¬ h.kind = 6) (w : World) : Calls Tryd.prog 51 #[.agg h.cells] w fun r w' => r = .returned (.bool (reckS h)) ∧ Nb w w' := by
  have hs : reckS h = false := by unfold reckS; simp [h1, h2, h3, h4, h5, h6]
  rw [hs]
  clear hs
  obtain ⟨s, k, nm, ac, n, lt, a6, a7, a8, a9, a10, a11⟩ := h
  simp only [Hd.cells] at *
  go_enter Tryd.func51, Tryd.ntmps51
  go_wp2_with fail
  go_ret
  exact ⟨rfl, nb_two w _ _⟩
theorem reck_any (h : Hd) (w : World) : Calls Tryd.prog 51 #[.agg h.cells] w fun r w' => r = .returned (.bool (reckS h)) ∧ Nb w w' := by
  by_cases h1 : h.kind = 1
  · exact reck1 h h1 w
  by_cases h2 : h.kind = 2
  · exact reck2 h h2 w
  by_cases h3 : h.kind = 3
  · exact reck3 h h3 w
  by_cases h4 : h.kind = 4
  · exact reck4 h h4 w
  by_cases h5 : h.kind = 5
  · exact reck5 h h5 w
  by_cases h6 : h.kind = 6
  · exact reck6 h h6 w
  exact reck0 h h1 h2 h3 h4 h5 h6 w
end Go.Proofs.YtojogolmcclpoaaDoor
