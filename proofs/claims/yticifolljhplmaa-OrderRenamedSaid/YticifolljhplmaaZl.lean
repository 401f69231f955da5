/-
  Proved here: whether an operation may be (wellMade of the code). Conditions: the pointer points at an operation.
-/
import Derived.Test.YticifolljhplmaaYd
namespace Go.Proofs.Yticifolljhplmaa
open Go.RowKit
set_option linter.unusedVariables false
set_option linter.unusedSimpArgs false
set_option maxRecDepth 100000
set_option maxHeartbeats 4000000
/-- May an operation be, whatever stands beside it? -/
def wellB (d : OpD) : Bool :=
  if d.fence = true then !d.load && !d.store
  else (decide (d.size = 1) || decide (d.size = 2) || decide (d.size = 4) || decide (d.size = 8)) && decide ((d.from_.length : Int) = if d.load = true then d.size else 0) && !emptyS (spanS d)
theorem well_any (b o : Nat) (d : OpD) (w : World) (h : OpAt w b o d) : Calls Try.prog 28 #[.pointer (some ⟨b, o, none⟩)] w fun e w' => e = .returned (.bool (wellB d)) ∧ Nb w w' := by
  have hB := Lib.hid (bytesOf_any b o d w h)
  obtain ⟨p, c, hf⟩ := h.rf.cases
  have c1 := h.c1
  have c2 := h.c2
  have c3 := h.c3
  have c5 := h.c5
  have c12 := h.c12
  rw [hf] at c12
  obtain ⟨R, hR⟩ : ∃ R, wellB d = R := ⟨_, rfl⟩
  rw [hR]
  unfold wellB at hR
  have hfl := h.ok.fl
  clear hf h
  generalize d.load = x1 at *
  generalize d.store = x2 at *
  generalize d.fence = x3 at *
  generalize d.size = sz at *
  generalize d.from_.length = nf at *
  generalize spanS d = sp at *
  obtain ⟨u1, u2⟩ := sp
  cases x3 with
  | true =>
    rw [if_pos rfl] at hR
    subst hR
    go_enter Try.func28, Try.ntmps28
    cases x1
    all_goals cases x2
    all_goals
      go_wp2_with fail
      go_ret
      exact ⟨rfl, Nb.refl w⟩
  | false =>
    rw [if_neg (by simp)] at hR
    by_cases hs : sz = 1 ∨ sz = 2 ∨ sz = 4 ∨ sz = 8
    · rcases hs with rfl | rfl | rfl | rfl
      · cases x1 with
        | false =>
          by_cases hl : nf = 0
          · subst hl
            have hR2 : R = !emptyS (u1, u2) := by rw [← hR]; simp
            clear hR
            cases hE : emptyS (u1, u2)
            all_goals
              rw [hE] at hR2
              subst hR2
              have hE' := Lib.hid hE
              clear hE
              go_enter Try.func28, Try.ntmps28
              go_wp2_with (first
                | (go_at_call 40; refine hB.out.mono ?_; rintro e w1 ⟨rfl, k1⟩)
                | (go_at_call 41; refine (empty_any _ _ _).mono ?_; rintro e w2 ⟨rfl, k2⟩; rw [hE'.out]))
              go_ret
              exact ⟨rfl, k1.trans k2⟩
          · have hR2 : R = false := by rw [← hR]; simp; omega
            subst hR2
            clear hR
            have hl2 : ((nf : Int) == 0) = false := by simp; omega
            go_enter Try.func28, Try.ntmps28
            go_wp2_with fail
            go_ret
            exact ⟨rfl, Nb.refl w⟩
        | true =>
          by_cases hl : nf = 1
          · subst hl
            have hR2 : R = !emptyS (u1, u2) := by rw [← hR]; simp
            clear hR
            cases hE : emptyS (u1, u2)
            all_goals
              rw [hE] at hR2
              subst hR2
              have hE' := Lib.hid hE
              clear hE
              go_enter Try.func28, Try.ntmps28
              go_wp2_with (first
                | (go_at_call 40; refine hB.out.mono ?_; rintro e w1 ⟨rfl, k1⟩)
                | (go_at_call 41; refine (empty_any _ _ _).mono ?_; rintro e w2 ⟨rfl, k2⟩; rw [hE'.out]))
              go_ret
              exact ⟨rfl, k1.trans k2⟩
          · have hR2 : R = false := by rw [← hR]; simp; omega
            subst hR2
            clear hR
            have hl2 : ((nf : Int) == 1) = false := by simp; omega
            go_enter Try.func28, Try.ntmps28
            go_wp2_with fail
            go_ret
            exact ⟨rfl, Nb.refl w⟩
      · cases x1 with
        | false =>
          by_cases hl : nf = 0
          · subst hl
            have hR2 : R = !emptyS (u1, u2) := by rw [← hR]; simp
            clear hR
            cases hE : emptyS (u1, u2)
            all_goals
              rw [hE] at hR2
              subst hR2
              have hE' := Lib.hid hE
              clear hE
              go_enter Try.func28, Try.ntmps28
              go_wp2_with (first
                | (go_at_call 40; refine hB.out.mono ?_; rintro e w1 ⟨rfl, k1⟩)
                | (go_at_call 41; refine (empty_any _ _ _).mono ?_; rintro e w2 ⟨rfl, k2⟩; rw [hE'.out]))
              go_ret
              exact ⟨rfl, k1.trans k2⟩
          · have hR2 : R = false := by rw [← hR]; simp; omega
            subst hR2
            clear hR
            have hl2 : ((nf : Int) == 0) = false := by simp; omega
            go_enter Try.func28, Try.ntmps28
            go_wp2_with fail
            go_ret
            exact ⟨rfl, Nb.refl w⟩
        | true =>
          by_cases hl : nf = 2
          · subst hl
            have hR2 : R = !emptyS (u1, u2) := by rw [← hR]; simp
            clear hR
            cases hE : emptyS (u1, u2)
            all_goals
              rw [hE] at hR2
              subst hR2
              have hE' := Lib.hid hE
              clear hE
              go_enter Try.func28, Try.ntmps28
              go_wp2_with (first
                | (go_at_call 40; refine hB.out.mono ?_; rintro e w1 ⟨rfl, k1⟩)
                | (go_at_call 41; refine (empty_any _ _ _).mono ?_; rintro e w2 ⟨rfl, k2⟩; rw [hE'.out]))
              go_ret
              exact ⟨rfl, k1.trans k2⟩
          · have hR2 : R = false := by rw [← hR]; simp; omega
            subst hR2
            clear hR
            have hl2 : ((nf : Int) == 2) = false := by simp; omega
            go_enter Try.func28, Try.ntmps28
            go_wp2_with fail
            go_ret
            exact ⟨rfl, Nb.refl w⟩
      · cases x1 with
        | false =>
          by_cases hl : nf = 0
          · subst hl
            have hR2 : R = !emptyS (u1, u2) := by rw [← hR]; simp
            clear hR
            cases hE : emptyS (u1, u2)
            all_goals
              rw [hE] at hR2
              subst hR2
              have hE' := Lib.hid hE
              clear hE
              go_enter Try.func28, Try.ntmps28
              go_wp2_with (first
                | (go_at_call 40; refine hB.out.mono ?_; rintro e w1 ⟨rfl, k1⟩)
                | (go_at_call 41; refine (empty_any _ _ _).mono ?_; rintro e w2 ⟨rfl, k2⟩; rw [hE'.out]))
              go_ret
              exact ⟨rfl, k1.trans k2⟩
          · have hR2 : R = false := by rw [← hR]; simp; omega
            subst hR2
            clear hR
            have hl2 : ((nf : Int) == 0) = false := by simp; omega
            go_enter Try.func28, Try.ntmps28
            go_wp2_with fail
            go_ret
            exact ⟨rfl, Nb.refl w⟩
        | true =>
          by_cases hl : nf = 4
          · subst hl
            have hR2 : R = !emptyS (u1, u2) := by rw [← hR]; simp
            clear hR
            cases hE : emptyS (u1, u2)
            all_goals
              rw [hE] at hR2
              subst hR2
              have hE' := Lib.hid hE
              clear hE
              go_enter Try.func28, Try.ntmps28
              go_wp2_with (first
                | (go_at_call 40; refine hB.out.mono ?_; rintro e w1 ⟨rfl, k1⟩)
                | (go_at_call 41; refine (empty_any _ _ _).mono ?_; rintro e w2 ⟨rfl, k2⟩; rw [hE'.out]))
              go_ret
              exact ⟨rfl, k1.trans k2⟩
          · have hR2 : R = false := by rw [← hR]; simp; omega
            subst hR2
            clear hR
            have hl2 : ((nf : Int) == 4) = false := by simp; omega
            go_enter Try.func28, Try.ntmps28
            go_wp2_with fail
            go_ret
            exact ⟨rfl, Nb.refl w⟩
      · cases x1 with
        | false =>
          by_cases hl : nf = 0
          · subst hl
            have hR2 : R = !emptyS (u1, u2) := by rw [← hR]; simp
            clear hR
            cases hE : emptyS (u1, u2)
            all_goals
              rw [hE] at hR2
              subst hR2
              have hE' := Lib.hid hE
              clear hE
              go_enter Try.func28, Try.ntmps28
              go_wp2_with (first
                | (go_at_call 40; refine hB.out.mono ?_; rintro e w1 ⟨rfl, k1⟩)
                | (go_at_call 41; refine (empty_any _ _ _).mono ?_; rintro e w2 ⟨rfl, k2⟩; rw [hE'.out]))
              go_ret
              exact ⟨rfl, k1.trans k2⟩
          · have hR2 : R = false := by rw [← hR]; simp; omega
            subst hR2
            clear hR
            have hl2 : ((nf : Int) == 0) = false := by simp; omega
            go_enter Try.func28, Try.ntmps28
            go_wp2_with fail
            go_ret
            exact ⟨rfl, Nb.refl w⟩
        | true =>
          by_cases hl : nf = 8
          · subst hl
            have hR2 : R = !emptyS (u1, u2) := by rw [← hR]; simp
            clear hR
            cases hE : emptyS (u1, u2)
            all_goals
              rw [hE] at hR2
              subst hR2
              have hE' := Lib.hid hE
              clear hE
              go_enter Try.func28, Try.ntmps28
              go_wp2_with (first
                | (go_at_call 40; refine hB.out.mono ?_; rintro e w1 ⟨rfl, k1⟩)
                | (go_at_call 41; refine (empty_any _ _ _).mono ?_; rintro e w2 ⟨rfl, k2⟩; rw [hE'.out]))
              go_ret
              exact ⟨rfl, k1.trans k2⟩
          · have hR2 : R = false := by rw [← hR]; simp; omega
            subst hR2
            clear hR
            have hl2 : ((nf : Int) == 8) = false := by simp; omega
            go_enter Try.func28, Try.ntmps28
            go_wp2_with fail
            go_ret
            exact ⟨rfl, Nb.refl w⟩
    · have n1 : (sz == 1) = false := by simp; omega
      have n2 : (sz == 2) = false := by simp; omega
      have n4 : (sz == 4) = false := by simp; omega
      have n8 : (sz == 8) = false := by simp; omega
      have hR2 : R = false := by
        rw [← hR]
        have e1 : decide (sz = 1) = false := by simp; omega
        have e2 : decide (sz = 2) = false := by simp; omega
        have e3 : decide (sz = 4) = false := by simp; omega
        have e4 : decide (sz = 8) = false := by simp; omega
        simp [e1, e2, e3, e4]
      subst hR2
      clear hs hR
      go_enter Try.func28, Try.ntmps28
      go_wp2_with fail
      go_ret
      exact ⟨rfl, Nb.refl w⟩
end Go.Proofs.Yticifolljhplmaa
