/-
  Proved here: what made, part and number of the code answer. Conditions: the memory is one that a call made, of at most 2^24 bytes.
-/
import Derived.Test.YtojogolmcclpoaaMn
namespace Go.Proofs.Ytojogolmcclpoaa
open Go.RowKit
set_option linter.unusedVariables false
set_option linter.unusedSimpArgs false
set_option maxRecDepth 100000 in
theorem made_any (p b : Nat) (bs : By) (w : World) (hM : Mem 60 w p b bs) :
    Calls Try.prog 26 #[.pointer (some ⟨p, 0, none⟩)] w fun e w' => e = .returned (.bool true) ∧ w = w' := by
  have hc := hM.head
  go_enter Try.func26, Try.ntmps26
  go_wp2
  go_ret
  exact ⟨rfl, rfl⟩
/-- What part answers where there is room: the bytes. -/
def PartOk (b : Nat) (at_ k n : Nat) (w : World) (e : Ending) (w' : World) : Prop := ∃ A, (0 < k → A = some ⟨b, at_, none⟩) ∧ e = .returned (.tuple #[.slice A k (n - at_), .int .i64 0]) ∧ w = w'
set_option maxRecDepth 100000 in
theorem part_ok (p b : Nat) (bs : By) (at_ k : Nat) (h : at_ + k ≤ bs.length) (hl : bs.length ≤ 16777216) (w : World) (hM : Mem 60 w p b bs) :
    Calls Try.prog 27 #[.pointer (some ⟨p, 0, none⟩), .int .u64 (at_ : Int), .int .i64 (k : Int)] w (PartOk b at_ k bs.length w) := by
  have hc := hM.head
  go_enter Try.func27, Try.ntmps27
  go_wp2_with fail
  refine (made_any p b bs _ hM).mono ?_
  rintro e w' ⟨rfl, rfl⟩
  go_wp2_with fail
  all_goals
    go_ret2
    first
      | exact ⟨_, fun h => absurd h (by omega), rfl, rfl⟩
      | exact ⟨_, fun _ => rfl, rfl, rfl⟩
      | exact ⟨some ⟨b, 0, none⟩, fun h => absurd h (by omega), by simp, rfl⟩
set_option maxRecDepth 100000 in
theorem part_no (p b : Nat) (bs : By) (at_ : Int) (k : Nat) (a0 : 0 ≤ at_) (a1 : at_ < 18446744073709551616) (k1 : k ≤ 9223372036854775807) (h : (bs.length : Int) < at_ + k) (hl : bs.length ≤ 16777216) (w : World) (hM : Mem 60 w p b bs) :
    Calls Try.prog 27 #[.pointer (some ⟨p, 0, none⟩), .int .u64 at_, .int .i64 (k : Int)] w fun e w' => e = .returned (.tuple #[.slice none 0 0, .int .i64 50]) ∧ w = w' := by
  have hc := hM.head
  by_cases h1 : (bs.length : Int) < at_
  · go_enter Try.func27, Try.ntmps27
    go_wp2_with fail
    refine (made_any p b bs _ hM).mono ?_
    rintro e w' ⟨rfl, rfl⟩
    go_wp2_with fail
    go_ret2
    exact ⟨rfl, rfl⟩
  · have h2 : (bs.length : Int) - at_ < k := by omega
    clear h
    go_enter Try.func27, Try.ntmps27
    go_wp2_with fail
    refine (made_any p b bs _ hM).mono ?_
    rintro e w' ⟨rfl, rfl⟩
    go_wp2_with fail
    all_goals
      go_ret2
      exact ⟨rfl, rfl⟩
set_option maxRecDepth 100000 in
theorem num_size (p b : Nat) (bs : By) (at_ s : Int) (h : ¬ (s = 1 ∨ s = 2 ∨ s = 4 ∨ s = 8)) (w : World) (hM : Mem 60 w p b bs) :
    Calls Try.prog 28 #[.pointer (some ⟨p, 0, none⟩), .int .u64 at_, .int .i64 s] w fun e w' => e = .returned (.tuple #[.slice none 0 0, .int .i64 2]) ∧ w = w' := by
  have h1 : (s == 1) = false := beq_eq_false_iff_ne.2 (by omega)
  have h2 : (s == 2) = false := beq_eq_false_iff_ne.2 (by omega)
  have h4 : (s == 4) = false := beq_eq_false_iff_ne.2 (by omega)
  have h8 : (s == 8) = false := beq_eq_false_iff_ne.2 (by omega)
  clear h
  go_enter Try.func28, Try.ntmps28
  go_wp2_with fail
  refine (made_any p b bs _ hM).mono ?_
  rintro e w' ⟨rfl, rfl⟩
  go_wp2_with fail
  go_ret2
  exact ⟨rfl, rfl⟩
set_option maxRecDepth 100000 in
theorem num_align (p b : Nat) (bs : By) (at_ s : Int) (hs : s = 1 ∨ s = 2 ∨ s = 4 ∨ s = 8) (h : at_ % s ≠ 0) (a0 : 0 ≤ at_) (a1 : at_ < 18446744073709551616) (w : World) (hM : Mem 60 w p b bs) :
    Calls Try.prog 28 #[.pointer (some ⟨p, 0, none⟩), .int .u64 at_, .int .i64 s] w fun e w' => e = .returned (.tuple #[.slice none 0 0, .int .i64 51]) ∧ w = w' := by
  rcases hs with rfl | rfl | rfl | rfl
  · omega
  all_goals
    go_enter Try.func28, Try.ntmps28
    go_wp2_with fail
    refine (made_any p b bs _ hM).mono ?_
    rintro e w' ⟨rfl, rfl⟩
    go_wp2_with fail
    all_goals
      go_ret2
      exact ⟨rfl, rfl⟩
set_option maxRecDepth 100000 in
theorem num_ok (p b : Nat) (bs : By) (at_ s : Nat) (hs : (s : Int) = 1 ∨ (s : Int) = 2 ∨ (s : Int) = 4 ∨ (s : Int) = 8) (h0 : (at_ : Int) % (s : Int) = 0) (h : at_ + s ≤ bs.length) (hl : bs.length ≤ 16777216) (w : World) (hM : Mem 60 w p b bs) :
    Calls Try.prog 28 #[.pointer (some ⟨p, 0, none⟩), .int .u64 (at_ : Int), .int .i64 (s : Int)] w (PartOk b at_ s bs.length w) := by
  have HP := Lib.hid (part_ok p b bs at_ s h hl w hM)
  obtain ⟨n, hn⟩ : ∃ n, bs.length = n := ⟨_, rfl⟩
  rw [hn] at HP ⊢
  clear hn h hl
  have e : s = 1 ∨ s = 2 ∨ s = 4 ∨ s = 8 := by omega
  unfold PartOk at HP ⊢
  rcases e with rfl | rfl | rfl | rfl
  all_goals
    go_enter Try.func28, Try.ntmps28
    go_wp2_with fail
    refine (made_any p b bs _ hM).mono ?_
    rintro e w' ⟨rfl, rfl⟩
    go_wp2_with fail
    refine (HP.out).mono ?_
    rintro e w' ⟨A, hA, rfl, rfl⟩
    obtain rfl := hA (by omega)
    clear hA
    go_wp2_with fail
    go_ret2
    exact ⟨_, fun _ => rfl, rfl, rfl⟩
end Go.Proofs.Ytojogolmcclpoaa
