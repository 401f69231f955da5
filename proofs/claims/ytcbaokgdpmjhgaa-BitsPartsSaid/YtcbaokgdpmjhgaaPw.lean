/-
  Proved here: The law BitsParts walks to true for every input. No condition but the ranges of the arguments.
-/
import Derived.Test.YtcbaokgdpmjhgaaPt
import Derived.Deep.Cut
namespace Go.Proofs.Ytcbaokgdpmjhgaa
open Go.RowKit
set_option linter.unusedVariables false

set_option maxRecDepth 100000 in
set_option maxHeartbeats 4000000 in
theorem parts_walk (a0 a1 a2 a3 a4 : Int) (w0 : (Lit.int .u64 a0).wf = true) (w3 : (Lit.int .u64 a3).wf = true) (w : World) :
    Calls Try.prog 8 #[.int .u64 a0, .int .i64 a1, .int .i64 a2, .int .u64 a3, .int .i64 a4] w fun e w' => e = .returned (.bool true) ∧ Grown w w' := by
  obtain ⟨x0, x1⟩ := word_of w0
  obtain ⟨v0, v1⟩ := word_of w3
  clear w0 w3
  obtain ⟨A0, A1⟩ := m64_range a1
  obtain ⟨B0, B1⟩ := k64_range a2
  obtain ⟨K0, K1⟩ := m64_range a4
  go_enter Try.func8, Try.ntmps8
  go_wp2_with fail
  generalize wrap64 ((IntKind.u64.wrap a1).tmod 64) = A at *
  generalize wrap64 (1 + wrap64 ((IntKind.u64.wrap a2).tmod 64)) = B at *
  have y0 := (plc_word a0 A B a3 x0 x1).1
  have y1 := (plc_word a0 A B a3 x0 x1).2
  have f0 := (fld_word a0 A B x0 x1).1
  have f1 := (fld_word a0 A B x0 x1).2
  refine (place_any _ _ _ _ x0 x1 v0 v1 _).mono ?_
  rintro e w' ⟨rfl, q, rfl⟩
  have e1 := part_told a0 A B a3 A0 A1 B0
  have e2 := part_again a0 A B a3
  have e3 := part_own a0 A B x0
  go_upto_region 4 with (fail)
  generalize wrap64 ((IntKind.u64.wrap a4).tmod 64) = K at *
  by_cases m : B ≤ 64 - A
  · rw [Int.min_eq_left m] at e1
    by_cases c : K < A
    · have d1 := bne_of (part_other a0 A B a3 _ x0 x1 A0 A1 B0 K0 K1 (Or.inl c))
      go_wp2_with fail
      refine (field_any _ _ _ y0 y1 _).mono ?_
      rintro e w' ⟨rfl, rfl⟩
      go_wp2_with fail
      refine (field_any _ _ _ x0 x1 _).mono ?_
      rintro e w' ⟨rfl, rfl⟩
      go_wp2_with fail
      refine (field_any _ _ _ y0 y1 _).mono ?_
      rintro e w' ⟨rfl, rfl⟩
      go_wp2_with fail
      refine (field_any _ _ _ v0 v1 _).mono ?_
      rintro e w' ⟨rfl, rfl⟩
      go_wp2_with fail
      refine (place_any _ _ _ _ y0 y1 v0 v1 _).mono ?_
      rintro e w' ⟨rfl, q2, rfl⟩
      go_wp2_with fail
      refine (field_any _ _ _ x0 x1 _).mono ?_
      rintro e w' ⟨rfl, rfl⟩
      go_wp2_with fail
      refine (place_any _ _ _ _ x0 x1 f0 f1 _).mono ?_
      rintro e w' ⟨rfl, q3, rfl⟩
      go_wp2_with fail
      refine (lives_any _).mono ?_
      rintro e w1 ⟨rfl, hg⟩
      go_wp2_with fail
      go_ret
      exact ⟨rfl, hg⟩
    by_cases c2 : B ≤ K - A
    · have d1 := bne_of (part_other a0 A B a3 _ x0 x1 A0 A1 B0 K0 K1 (Or.inr c2))
      go_wp2_with fail
      refine (field_any _ _ _ y0 y1 _).mono ?_
      rintro e w' ⟨rfl, rfl⟩
      go_wp2_with fail
      refine (field_any _ _ _ x0 x1 _).mono ?_
      rintro e w' ⟨rfl, rfl⟩
      go_wp2_with fail
      refine (field_any _ _ _ y0 y1 _).mono ?_
      rintro e w' ⟨rfl, rfl⟩
      go_wp2_with fail
      refine (field_any _ _ _ v0 v1 _).mono ?_
      rintro e w' ⟨rfl, rfl⟩
      go_wp2_with fail
      refine (place_any _ _ _ _ y0 y1 v0 v1 _).mono ?_
      rintro e w' ⟨rfl, q2, rfl⟩
      go_wp2_with fail
      refine (field_any _ _ _ x0 x1 _).mono ?_
      rintro e w' ⟨rfl, rfl⟩
      go_wp2_with fail
      refine (place_any _ _ _ _ x0 x1 f0 f1 _).mono ?_
      rintro e w' ⟨rfl, q3, rfl⟩
      go_wp2_with fail
      refine (lives_any _).mono ?_
      rintro e w1 ⟨rfl, hg⟩
      go_wp2_with fail
      go_ret
      exact ⟨rfl, hg⟩
    · go_wp2_with fail
      refine (field_any _ _ _ y0 y1 _).mono ?_
      rintro e w' ⟨rfl, rfl⟩
      go_wp2_with fail
      refine (field_any _ _ _ v0 v1 _).mono ?_
      rintro e w' ⟨rfl, rfl⟩
      go_wp2_with fail
      refine (place_any _ _ _ _ y0 y1 v0 v1 _).mono ?_
      rintro e w' ⟨rfl, q2, rfl⟩
      go_wp2_with fail
      refine (field_any _ _ _ x0 x1 _).mono ?_
      rintro e w' ⟨rfl, rfl⟩
      go_wp2_with fail
      refine (place_any _ _ _ _ x0 x1 f0 f1 _).mono ?_
      rintro e w' ⟨rfl, q3, rfl⟩
      go_wp2_with fail
      refine (lives_any _).mono ?_
      rintro e w1 ⟨rfl, hg⟩
      go_wp2_with fail
      go_ret
      exact ⟨rfl, hg⟩
  · rw [Int.min_eq_right (by omega)] at e1
    by_cases c : K < A
    · have d1 := bne_of (part_other a0 A B a3 _ x0 x1 A0 A1 B0 K0 K1 (Or.inl c))
      go_wp2_with fail
      refine (field_any _ _ _ y0 y1 _).mono ?_
      rintro e w' ⟨rfl, rfl⟩
      go_wp2_with fail
      refine (field_any _ _ _ x0 x1 _).mono ?_
      rintro e w' ⟨rfl, rfl⟩
      go_wp2_with fail
      refine (field_any _ _ _ y0 y1 _).mono ?_
      rintro e w' ⟨rfl, rfl⟩
      go_wp2_with fail
      refine (field_any _ _ _ v0 v1 _).mono ?_
      rintro e w' ⟨rfl, rfl⟩
      go_wp2_with fail
      refine (place_any _ _ _ _ y0 y1 v0 v1 _).mono ?_
      rintro e w' ⟨rfl, q2, rfl⟩
      go_wp2_with fail
      refine (field_any _ _ _ x0 x1 _).mono ?_
      rintro e w' ⟨rfl, rfl⟩
      go_wp2_with fail
      refine (place_any _ _ _ _ x0 x1 f0 f1 _).mono ?_
      rintro e w' ⟨rfl, q3, rfl⟩
      go_wp2_with fail
      refine (lives_any _).mono ?_
      rintro e w1 ⟨rfl, hg⟩
      go_wp2_with fail
      go_ret
      exact ⟨rfl, hg⟩
    by_cases c2 : B ≤ K - A
    · have d1 := bne_of (part_other a0 A B a3 _ x0 x1 A0 A1 B0 K0 K1 (Or.inr c2))
      go_wp2_with fail
      refine (field_any _ _ _ y0 y1 _).mono ?_
      rintro e w' ⟨rfl, rfl⟩
      go_wp2_with fail
      refine (field_any _ _ _ x0 x1 _).mono ?_
      rintro e w' ⟨rfl, rfl⟩
      go_wp2_with fail
      refine (field_any _ _ _ y0 y1 _).mono ?_
      rintro e w' ⟨rfl, rfl⟩
      go_wp2_with fail
      refine (field_any _ _ _ v0 v1 _).mono ?_
      rintro e w' ⟨rfl, rfl⟩
      go_wp2_with fail
      refine (place_any _ _ _ _ y0 y1 v0 v1 _).mono ?_
      rintro e w' ⟨rfl, q2, rfl⟩
      go_wp2_with fail
      refine (field_any _ _ _ x0 x1 _).mono ?_
      rintro e w' ⟨rfl, rfl⟩
      go_wp2_with fail
      refine (place_any _ _ _ _ x0 x1 f0 f1 _).mono ?_
      rintro e w' ⟨rfl, q3, rfl⟩
      go_wp2_with fail
      refine (lives_any _).mono ?_
      rintro e w1 ⟨rfl, hg⟩
      go_wp2_with fail
      go_ret
      exact ⟨rfl, hg⟩
    · go_wp2_with fail
      refine (field_any _ _ _ y0 y1 _).mono ?_
      rintro e w' ⟨rfl, rfl⟩
      go_wp2_with fail
      refine (field_any _ _ _ v0 v1 _).mono ?_
      rintro e w' ⟨rfl, rfl⟩
      go_wp2_with fail
      refine (place_any _ _ _ _ y0 y1 v0 v1 _).mono ?_
      rintro e w' ⟨rfl, q2, rfl⟩
      go_wp2_with fail
      refine (field_any _ _ _ x0 x1 _).mono ?_
      rintro e w' ⟨rfl, rfl⟩
      go_wp2_with fail
      refine (place_any _ _ _ _ x0 x1 f0 f1 _).mono ?_
      rintro e w' ⟨rfl, q3, rfl⟩
      go_wp2_with fail
      refine (lives_any _).mono ?_
      rintro e w1 ⟨rfl, hg⟩
      go_wp2_with fail
      go_ret
      exact ⟨rfl, hg⟩
end Go.Proofs.Ytcbaokgdpmjhgaa
