/-
  Proved here: The example of the chapter stands, and what the range of an argument gives. No condition.
-/
import Derived.Test.YtcbaokgdpmjhgaaHw
namespace Go.Proofs.Ytcbaokgdpmjhgaa
open Go.RowKit
set_option linter.unusedVariables false
theorem live1 : (Fld 240 4 4 == 15) = true := by decide +kernel
theorem live2 : (Sgn 128 8 == 18446744073709551488) = true := by decide +kernel
theorem live3 : (Hgh 4294967296 4294967296 false false == 1) = true := by decide +kernel
/-- The chapter's example stands. -/
theorem lives_any (w : World) : Calls Try.prog 15 #[] w fun e w' => e = .returned (.bool true) ∧ Grown w w' := by
  have l1 := live1
  have l2 := live2
  have l3 := live3
  go_enter Try.func15, Try.ntmps15
  go_wp2_with fail
  refine (field_any _ _ _ (by decide) (by decide) _).mono ?_
  rintro e w' ⟨rfl, rfl⟩
  go_wp2_with fail
  refine (sign_any _ _ (by decide) (by decide) _).mono ?_
  rintro e w' ⟨rfl, rfl⟩
  go_wp2_with fail
  refine (high_any _ _ _ _ (by decide) (by decide) (by decide) (by decide) _).mono ?_
  rintro e w1 ⟨rfl, hg⟩
  go_wp2_with fail
  go_ret
  exact ⟨rfl, hg⟩
theorem grown_trans {a b c : World} (h : Grown a b) (k : Grown b c) : Grown a c :=
  ⟨World.keptBut_trans h.1 (World.keptBut_mono (fun _ f => f.elim) k.1), fun x => (k.2.1 x).trans (h.2.1 x), Nat.le_trans h.2.2 k.2.2⟩
/-- What an argument's own range gives. -/
theorem word_of {x : Int} (h : (Lit.int .u64 x).wf = true) : 0 ≤ x ∧ x < 18446744073709551616 := by
  simp [Lit.wf, IntKind.min, IntKind.max, IntKind.signed, IntKind.bits] at h
  omega
theorem int_of {x : Int} (h : (Lit.int .i64 x).wf = true) : -9223372036854775808 ≤ x ∧ x < 9223372036854775808 := by
  simp [Lit.wf, IntKind.min, IntKind.max, IntKind.signed, IntKind.bits] at h
  omega
/-- A number without a sign, read with one. -/
theorem s_range (x : Int) : -9223372036854775808 ≤ wrap64 x ∧ wrap64 x < 9223372036854775808 := by unfold wrap64; omega
theorem s_cases (x : Int) (h0 : 0 ≤ x) (h1 : x < 18446744073709551616) : wrap64 x = x ∧ x < 9223372036854775808 ∨ wrap64 x = x - 18446744073709551616 ∧ 9223372036854775808 ≤ x := by
  unfold wrap64; omega
end Go.Proofs.Ytcbaokgdpmjhgaa
