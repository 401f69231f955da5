/-
  Proved here: which items may not be. Conditions: the table of codes holds what its text lays; the instruction's number fits.
-/
import Derived.Test.YtnooabgdcfegeaaDoorSbn
namespace Go.Proofs.YtnooabgdcfegeaaDoor
open Go.RowKit Go.Shelf Go.ChangeMaps
set_option linter.unusedVariables false
set_option linter.unusedSimpArgs false
set_option maxRecDepth 100000
set_option maxHeartbeats 8000000
attribute [local go_sem] Oper.semAt_some
def regB (r lo : Int) : Bool := decide (lo ≤ r) && decide (r ≤ 31)
theorem regis_any (r lo : Int) (w : World) : Calls Tryd.prog 24 #[.int .i64 r, .int .i64 lo] w fun e w' => e = .returned (.bool (regB r lo)) ∧ w' = w := by
  unfold regB
  cases h1 : decide (lo ≤ r) <;> cases h2 : decide (r ≤ 31)
  all_goals
    go_enter Tryd.func24, Tryd.ntmps24
    go_wp2_with fail
    go_ret
    exact ⟨by simp_all, rfl⟩
theorem good7_any (x : In7) (h : ImOk x) (w : World) (hC : Cod w) : Calls Tryd.prog 59 #[.agg (i7C x).toArray] w fun e w' => e = .returned (.bool (okI x)) ∧ Nb w w' := good_any _ _ _ _ _ _ _ h.1 h.2 w hC
/-- May an item not be? -/
def badI (i : Itm) : Bool :=
  if i.1 = 2 then false else if i.1 = 3 then (oppI i.2.1.1 == 0 || i.2.1.2.2.2.2.1 != 0) || !okI i.2.1 else if i.1 = 1 then !okI i.2.1 else if i.1 = 5 then !regB i.2.1.2.1 1 else if i.1 = 6 then !regB i.2.1.2.1 1 else if i.1 = 4 then !regB i.2.1.2.1 0 else true
theorem bad_any (i : Itm) (hIm : ImOk i.2.1) (w : World) (hC : Cod w) : Calls Tryd.prog 29 #[itmV i] w fun e w' => e = .returned (.bool (badI i)) ∧ Nb w w' := by
  obtain ⟨kd, ⟨o1, o2, o3, o4, o5, o6, o7⟩, nm, v⟩ := i
  have hgood := good7_any _ hIm
  obtain ⟨G, hG⟩ : ∃ G, okI (o1, o2, o3, o4, o5, o6, o7) = G := ⟨_, rfl⟩
  have hopp := opposite_any o1
  obtain ⟨OP, hOP⟩ : ∃ OP, oppI o1 = OP := ⟨_, rfl⟩
  have hreg := regis_any o2
  show Calls Tryd.prog 29 #[.agg #[.int .i64 kd, .int .i64 o1, .int .i64 o2, .int .i64 o3, .int .i64 o4, .int .i64 o5, .bool o6, .bool o7, .string nm, .int .u64 v]] w fun e w' => e = .returned (.bool (badI (kd, (o1, o2, o3, o4, o5, o6, o7), nm, v))) ∧ Nb w w'
  obtain ⟨BI, hBI⟩ : ∃ BI, badI (kd, (o1, o2, o3, o4, o5, o6, o7), nm, v) = BI := ⟨_, rfl⟩
  rw [hBI]
  have hBI2 : BI = if kd = 2 then false else if kd = 3 then (OP == 0 || o5 != 0) || !G else if kd = 1 then !G else if kd = 5 then !regB o2 1 else if kd = 6 then !regB o2 1 else if kd = 4 then !regB o2 0 else true := by rw [← hBI, ← hG, ← hOP]; rfl
  rw [hG] at hgood
  rw [hOP] at hopp
  simp only [i7C] at hgood
  replace hBI2 := Lib.hid hBI2
  replace hgood := Lib.hid hgood
  replace hopp := Lib.hid hopp
  replace hreg := Lib.hid hreg
  clear hBI hG hOP hIm
  go_enter Tryd.func29, Tryd.ntmps29
  go_upto_region 1 with (fail)
  obtain ⟨W1, hW1⟩ : ∃ W1, w.alloc (.cells #[.int .i64 kd, .int .i64 o1, .int .i64 o2, .int .i64 o3, .int .i64 o4, .int .i64 o5, .bool o6, .bool o7, .string nm, .int .u64 v] 39) = W1 := ⟨_, rfl⟩
  have n1 : Nb w W1 := by rw [← hW1]; exact Below.alloc (Below.refl _ _) (Nat.le_refl _) _
  have b1 : W1.heap[w.heap.size]? = some (.cells #[.int .i64 kd, .int .i64 o1, .int .i64 o2, .int .i64 o3, .int .i64 o4, .int .i64 o5, .bool o6, .bool o7, .string nm, .int .u64 v] 39 (0, 0)) := by rw [← hW1]; exact new_bkc _ _ rfl
  rw [hW1]
  clear hW1
  have c0 := cell_of_row _ _ 0 _ _ _ b1
  have c1 := cell_of_row _ _ 1 _ _ _ b1
  have c2 := cell_of_row _ _ 2 _ _ _ b1
  have c3 := cell_of_row _ _ 3 _ _ _ b1
  have c4 := cell_of_row _ _ 4 _ _ _ b1
  have c5 := cell_of_row _ _ 5 _ _ _ b1
  have c6 := cell_of_row _ _ 6 _ _ _ b1
  have c7 := cell_of_row _ _ 7 _ _ _ b1
  have hC1 := hC.of_nb n1
  cases h2 : (kd == 2)
  case true =>
    go_wp2_with fail
    go_ret
    exact ⟨by rw [hBI2.out, if_pos (by simpa using h2)] <;> rfl, n1⟩
  have e2 : ¬ kd = 2 := by simpa using h2
  replace e2 := Lib.hid e2
  cases h3 : (kd == 3)
  case true =>
    have e3 : Hid (kd = 3) := Lib.hid (by simpa using h3)
    clear h2
    have h2 : (kd == 2) = false := by rw [e3.out]; rfl
    cases hz : (OP == 0)
    · cases hy : (o5 != 0)
      · go_wp2_with (first | (go_at_call 58; refine (hopp.out _).mono ?_; rintro r w2 ⟨rfl, rfl⟩) | (go_at_call 59; refine (hgood.out _ hC1).mono ?_; rintro r w2 ⟨rfl, hn2⟩))
        go_ret
        exact ⟨by rw [hBI2.out, if_neg e2.out, if_pos e3.out, hz, hy]; simp, n1.trans hn2⟩
      · go_wp2_with (first | (go_at_call 58; refine (hopp.out _).mono ?_; rintro r w2 ⟨rfl, rfl⟩))
        go_ret
        exact ⟨by rw [hBI2.out, if_neg e2.out, if_pos e3.out, hz, hy]; simp, n1⟩
    · go_wp2_with (first | (go_at_call 58; refine (hopp.out _).mono ?_; rintro r w2 ⟨rfl, rfl⟩))
      go_ret
      exact ⟨by rw [hBI2.out, if_neg e2.out, if_pos e3.out, hz]; simp, n1⟩
  have e3 : ¬ kd = 3 := by simpa using h3
  replace e3 := Lib.hid e3
  cases h1 : (kd == 1)
  case true =>
    have e1 : Hid (kd = 1) := Lib.hid (by simpa using h1)
    go_wp2_with (first | (go_at_call 59; refine (hgood.out _ hC1).mono ?_; rintro r w2 ⟨rfl, hn2⟩))
    go_ret
    exact ⟨by rw [hBI2.out, if_neg e2.out, if_neg e3.out, if_pos e1.out] <;> rfl, n1.trans hn2⟩
  have e1 : ¬ kd = 1 := by simpa using h1
  replace e1 := Lib.hid e1
  cases h5 : (kd == 5)
  case true =>
    have e5 : Hid (kd = 5) := Lib.hid (by simpa using h5)
    have hr := hreg.out 1
    replace hr := Lib.hid hr
    go_wp2_with (first | (go_at_call 24; refine (hr.out _).mono ?_; rintro r w2 ⟨rfl, rfl⟩))
    go_ret
    exact ⟨by rw [hBI2.out, if_neg e2.out, if_neg e3.out, if_neg e1.out, if_pos e5.out] <;> rfl, n1⟩
  have e5 : ¬ kd = 5 := by simpa using h5
  replace e5 := Lib.hid e5
  cases h6 : (kd == 6)
  case true =>
    have e6 : Hid (kd = 6) := Lib.hid (by simpa using h6)
    have hr := hreg.out 1
    replace hr := Lib.hid hr
    go_wp2_with (first | (go_at_call 24; refine (hr.out _).mono ?_; rintro r w2 ⟨rfl, rfl⟩))
    go_ret
    exact ⟨by rw [hBI2.out, if_neg e2.out, if_neg e3.out, if_neg e1.out, if_neg e5.out, if_pos e6.out] <;> rfl, n1⟩
  have e6 : ¬ kd = 6 := by simpa using h6
  replace e6 := Lib.hid e6
  cases h4 : (kd == 4)
  case true =>
    have e4 : Hid (kd = 4) := Lib.hid (by simpa using h4)
    have hr := hreg.out 0
    replace hr := Lib.hid hr
    go_wp2_with (first | (go_at_call 24; refine (hr.out _).mono ?_; rintro r w2 ⟨rfl, rfl⟩))
    go_ret
    exact ⟨by rw [hBI2.out, if_neg e2.out, if_neg e3.out, if_neg e1.out, if_neg e5.out, if_neg e6.out, if_pos e4.out] <;> rfl, n1⟩
  have e4 : ¬ kd = 4 := by simpa using h4
  replace e4 := Lib.hid e4
  go_wp2_with fail
  go_ret
  exact ⟨by rw [hBI2.out, if_neg e2.out, if_neg e3.out, if_neg e1.out, if_neg e5.out, if_neg e6.out, if_neg e4.out] <;> rfl, n1⟩
end Go.Proofs.YtnooabgdcfegeaaDoor
