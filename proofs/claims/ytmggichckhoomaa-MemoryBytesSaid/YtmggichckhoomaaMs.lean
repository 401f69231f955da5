/-
  Proved here: what the code answers of a memory that no call made. Conditions: none.
-/
import Derived.Test.YtmggichckhoomaaMr
namespace Go.Proofs.Ytmggichckhoomaa
open Go.RowKit
set_option linter.unusedVariables false
set_option linter.unusedSimpArgs false
/-- A memory that no call made. -/
def Unmade (w : World) (m : Value) : Prop := m = .pointer none ∨ ∃ q, m = .pointer (some ⟨q, 0, none⟩) ∧ w.cell? ⟨q, 0, none⟩ = some (.slice none 0 0)
theorem umade_any (m : Value) (w : World) (h : Unmade w m) : Calls Try.prog 15 #[m] w fun e w' => e = .returned (.bool false) ∧ w = w' := by
  rcases h with rfl | ⟨q, rfl, hc⟩
  all_goals
    go_enter Try.func15, Try.ntmps15
    go_wp2
    go_ret
    exact ⟨rfl, rfl⟩
theorem upart_any (m : Value) (a k : Int) (w : World) (h : Unmade w m) : Calls Try.prog 14 #[m, .int .u64 a, .int .i64 k] w fun e w' => e = .returned (.tuple #[.slice none 0 0, .int .i64 1]) ∧ w = w' := by
  have H := Lib.hid (umade_any m w h)
  clear h
  go_enter Try.func14, Try.ntmps14
  go_wp2_with fail
  refine (H.out).mono ?_
  rintro e w' ⟨rfl, rfl⟩
  go_wp2_with fail
  go_ret2
  exact ⟨rfl, rfl⟩
theorem unum_any (m : Value) (a k : Int) (w : World) (h : Unmade w m) : Calls Try.prog 16 #[m, .int .u64 a, .int .i64 k] w fun e w' => e = .returned (.tuple #[.slice none 0 0, .int .i64 1]) ∧ w = w' := by
  have H := Lib.hid (umade_any m w h)
  clear h
  go_enter Try.func16, Try.ntmps16
  go_wp2_with fail
  refine (H.out).mono ?_
  rintro e w' ⟨rfl, rfl⟩
  go_wp2_with fail
  go_ret2
  exact ⟨rfl, rfl⟩
theorem uload_any (m : Value) (a k : Int) (w : World) (h : Unmade w m) : Calls Try.prog 11 #[m, .int .u64 a, .int .i64 k] w fun e w' => e = .returned (.tuple #[.int .u64 0, .int .i64 1]) ∧ w = w' := by
  have H := Lib.hid (unum_any m a k w h)
  clear h
  go_enter Try.func11, Try.ntmps11
  go_wp2_with fail
  refine (H.out).mono ?_
  rintro e w' ⟨rfl, rfl⟩
  go_wp2_with fail
  go_ret2
  exact ⟨rfl, rfl⟩
theorem ustore_any (m : Value) (a k v : Int) (w : World) (h : Unmade w m) : Calls Try.prog 10 #[m, .int .u64 a, .int .i64 k, .int .u64 v] w fun e w' => e = .returned (.int .i64 1) ∧ w = w' := by
  have H := Lib.hid (unum_any m a k w h)
  clear h
  go_enter Try.func10, Try.ntmps10
  go_wp2_with fail
  refine (H.out).mono ?_
  rintro e w' ⟨rfl, rfl⟩
  go_wp2_with fail
  go_ret
  exact ⟨rfl, rfl⟩
theorem ubytes_any (m : Value) (a k : Int) (w : World) (h : Unmade w m) : Calls Try.prog 9 #[m, .int .u64 a, .int .i64 k] w fun e w' => e = .returned (.tuple #[.slice none 0 0, .int .i64 1]) ∧ w = w' := by
  have H := Lib.hid (umade_any m w h)
  have HP := Lib.hid (upart_any m a k w h)
  clear h
  go_enter Try.func9, Try.ntmps9
  go_wp2_with fail
  refine (H.out).mono ?_
  rintro e w' ⟨rfl, rfl⟩
  go_wp2_with fail
  refine (HP.out).mono ?_
  rintro e w' ⟨rfl, rfl⟩
  go_wp2_with fail
  go_ret2
  exact ⟨rfl, rfl⟩
theorem uput_any (m : Value) (a : Int) (A : Option Addr) (n cap : Nat) (w : World) (h : Unmade w m) : Calls Try.prog 8 #[m, .int .u64 a, .slice A n cap] w fun e w' => e = .returned (.int .i64 1) ∧ w = w' := by
  have HP := Lib.hid (upart_any m a n w h)
  clear h
  go_enter Try.func8, Try.ntmps8
  go_wp2_with fail
  refine (HP.out).mono ?_
  rintro e w' ⟨rfl, rfl⟩
  go_wp2_with fail
  go_ret
  exact ⟨rfl, rfl⟩
theorem ulen_any (m : Value) (w : World) (h : Unmade w m) : Calls Try.prog 12 #[m] w fun e w' => e = .returned (.int .i64 0) ∧ w = w' := by
  have H := Lib.hid (umade_any m w h)
  clear h
  go_enter Try.func12, Try.ntmps12
  go_wp2_with fail
  refine (H.out).mono ?_
  rintro e w' ⟨rfl, rfl⟩
  go_wp2_with fail
  go_ret
  exact ⟨rfl, rfl⟩
theorem uclone_any (m : Value) (w : World) (h : Unmade w m) : Calls Try.prog 13 #[m] w fun e w' => e = .returned (.pointer none) ∧ w = w' := by
  have H := Lib.hid (umade_any m w h)
  clear h
  go_enter Try.func13, Try.ntmps13
  go_wp2_with fail
  refine (H.out).mono ?_
  rintro e w' ⟨rfl, rfl⟩
  go_wp2_with fail
  go_ret
  exact ⟨rfl, rfl⟩
end Go.Proofs.Ytmggichckhoomaa
