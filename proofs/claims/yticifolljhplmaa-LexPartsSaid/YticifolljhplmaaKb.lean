/-
  Proved here: of lex: digit, named, Keyword, Name. Conditions: a byte is one; a text is not too long.
-/
import Derived.Test.YticifolljhplmaaYa
import Derived.Test.YticifolljhplmaaKa
namespace Go.Proofs.Yticifolljhplmaa
open Go.RowKit
set_option linter.unusedVariables false
set_option linter.unusedSimpArgs false
set_option maxRecDepth 100000
set_option maxHeartbeats 2000000
theorem then_exit {K : Act → World → Prop} {Q : Exit → Act → World → Prop} {k : Nat} {a : Act} {w : World} (h : Q (.exit k) a w) : Exit.then K Q (.exit k) a w := h
theorem in_same {Q : Exit → Act → World → Prop} {k : Nat} {a : Act} {w : World} (h : Q .normal a w) : Exit.inBlock k Q (.exit k) a w := by
  simp only [Exit.inBlock, if_true]; exact h
theorem in_other {Q : Exit → Act → World → Prop} {i k : Nat} {a : Act} {w : World} (hk : (k == i) = false) (h : Q (.exit k) a w) : Exit.inBlock i Q (.exit k) a w := by
  have : ¬ k = i := by simpa using hk
  simp only [Exit.inBlock, this, if_false]; exact h
theorem then_ret {K : Act → World → Prop} {Q : Exit → Act → World → Prop} {a : Act} {w : World} (h : Q .ret a w) : Exit.then K Q .ret a w := h
theorem in_ret {Q : Exit → Act → World → Prop} {i : Nat} {a : Act} {w : World} (h : Q .ret a w) : Exit.inBlock i Q .ret a w := h
theorem digit_any (x : Int) (w : World) : Calls Try.prog 43 #[.int .u8 x] w fun e w' => e = .returned (.bool (digI x)) ∧ w = w' := by
  unfold digI
  by_cases h1 : 48 ≤ x
  · by_cases h2 : x ≤ 57
    · go_enter Try.func43, Try.ntmps43
      go_wp2
      go_ret
      exact ⟨by simp [h1, h2], rfl⟩
    · go_enter Try.func43, Try.ntmps43
      go_wp2
      go_ret
      exact ⟨by simp [h1]; omega, rfl⟩
  · go_enter Try.func43, Try.ntmps43
    go_wp2
    go_ret
    exact ⟨by simp; omega, rfl⟩
theorem named_dig (x : Int) (f : Bool) (hd : digI x = true) (w : World) : Calls Try.prog 34 #[.int .u8 x, .bool f] w fun e w' => e = .returned (.bool (!f)) ∧ w = w' := by
  cases f with
  | true =>
    go_enter Try.func34, Try.ntmps34
    repeat (first | (with_reducible first | refine then_exit ?_ | refine in_same ?_ | refine then_ret ?_ | refine in_ret ?_) | ((with_reducible refine in_other ?_ ?_); decide) | go_values | go_skip | go_guarded | go_step | go_upon | go_back)
    refine (digit_any x _).mono ?_
    rintro e w1 ⟨rfl, rfl⟩
    rw [hd]
    dsimp only
    repeat (first | (with_reducible first | refine then_exit ?_ | refine in_same ?_ | refine then_ret ?_ | refine in_ret ?_) | ((with_reducible refine in_other ?_ ?_); decide) | go_values | go_skip | go_guarded | go_step | go_upon | go_back)
    go_ret
    exact ⟨rfl, rfl⟩
  | false =>
    go_enter Try.func34, Try.ntmps34
    repeat (first | (with_reducible first | refine then_exit ?_ | refine in_same ?_ | refine then_ret ?_ | refine in_ret ?_) | ((with_reducible refine in_other ?_ ?_); decide) | go_values | go_skip | go_guarded | go_step | go_upon | go_back)
    refine (digit_any x _).mono ?_
    rintro e w1 ⟨rfl, rfl⟩
    rw [hd]
    dsimp only
    repeat (first | (with_reducible first | refine then_exit ?_ | refine in_same ?_ | refine then_ret ?_ | refine in_ret ?_) | ((with_reducible refine in_other ?_ ?_); decide) | go_values | go_skip | go_guarded | go_step | go_upon | go_back)
    go_ret
    exact ⟨rfl, rfl⟩
theorem named_let (x : Int) (f : Bool) (hd : digI x = false) (w : World) : Calls Try.prog 34 #[.int .u8 x, .bool f] w fun e w' => e = .returned (.bool (ltrI x)) ∧ w = w' := by
  have hq : (97 ≤ x ∧ x ≤ 122) ∨ (65 ≤ x ∧ x ≤ 90) ∨ x = 95 ∨ (x < 65) ∨ (90 < x ∧ x < 95) ∨ x = 96 ∨ 122 < x := by omega
  go_enter Try.func34, Try.ntmps34
  repeat (first | (with_reducible first | refine then_exit ?_ | refine in_same ?_ | refine then_ret ?_ | refine in_ret ?_) | ((with_reducible refine in_other ?_ ?_); decide) | go_values | go_skip | go_guarded | go_step | go_upon | go_back)
  refine (digit_any x _).mono ?_
  rintro e w1 ⟨rfl, rfl⟩
  rw [hd]
  dsimp only
  rcases hq with ⟨h1, h2⟩ | ⟨h1, h2⟩ | h1 | h1 | ⟨h1, h2⟩ | h1 | h1
  · have e0 : ltrI x = true := by unfold ltrI; simp; omega
    repeat (first | (with_reducible first | refine then_exit ?_ | refine in_same ?_ | refine then_ret ?_ | refine in_ret ?_) | ((with_reducible refine in_other ?_ ?_); decide) | go_values | go_skip | go_guarded | go_step | go_upon | go_back)
    go_ret
    exact ⟨by rw [e0]; rfl, rfl⟩
  · have e0 : ltrI x = true := by unfold ltrI; simp; omega
    repeat (first | (with_reducible first | refine then_exit ?_ | refine in_same ?_ | refine then_ret ?_ | refine in_ret ?_) | ((with_reducible refine in_other ?_ ?_); decide) | go_values | go_skip | go_guarded | go_step | go_upon | go_back)
    go_ret
    exact ⟨by rw [e0]; rfl, rfl⟩
  · subst h1
    repeat (first | (with_reducible first | refine then_exit ?_ | refine in_same ?_ | refine then_ret ?_ | refine in_ret ?_) | ((with_reducible refine in_other ?_ ?_); decide) | go_values | go_skip | go_guarded | go_step | go_upon | go_back)
    go_ret
    exact ⟨rfl, rfl⟩
  · have e0 : ltrI x = false := by unfold ltrI; simp; omega
    repeat (first | (with_reducible first | refine then_exit ?_ | refine in_same ?_ | refine then_ret ?_ | refine in_ret ?_) | ((with_reducible refine in_other ?_ ?_); decide) | go_values | go_skip | go_guarded | go_step | go_upon | go_back)
    go_ret
    exact ⟨by rw [e0]; rfl, rfl⟩
  · have e0 : ltrI x = false := by unfold ltrI; simp; omega
    repeat (first | (with_reducible first | refine then_exit ?_ | refine in_same ?_ | refine then_ret ?_ | refine in_ret ?_) | ((with_reducible refine in_other ?_ ?_); decide) | go_values | go_skip | go_guarded | go_step | go_upon | go_back)
    go_ret
    exact ⟨by rw [e0]; rfl, rfl⟩
  · subst h1
    repeat (first | (with_reducible first | refine then_exit ?_ | refine in_same ?_ | refine then_ret ?_ | refine in_ret ?_) | ((with_reducible refine in_other ?_ ?_); decide) | go_values | go_skip | go_guarded | go_step | go_upon | go_back)
    go_ret
    exact ⟨rfl, rfl⟩
  · have e0 : ltrI x = false := by unfold ltrI; simp; omega
    repeat (first | (with_reducible first | refine then_exit ?_ | refine in_same ?_ | refine then_ret ?_ | refine in_ret ?_) | ((with_reducible refine in_other ?_ ?_); decide) | go_values | go_skip | go_guarded | go_step | go_upon | go_back)
    go_ret
    exact ⟨by rw [e0]; rfl, rfl⟩
theorem named_any (x : Int) (f : Bool) (w : World) : Calls Try.prog 34 #[.int .u8 x, .bool f] w fun e w' => e = .returned (.bool (namI x f)) ∧ w = w' := by
  cases hd : digI x with
  | true => unfold namI; rw [if_pos hd]; exact named_dig x f hd w
  | false => unfold namI; rw [if_neg (by rw [hd]; simp)]; exact named_let x f hd w
theorem kw_any (l : Bs) (w : World) : Calls Try.prog 21 #[.string ⟨l.toArray⟩] w fun e w' => e = .returned (.bool (kwS l)) ∧ w = w' := by
  by_cases h : l ∈ kwL
  · have e : kwS l = true := by unfold kwS; exact List.contains_iff_mem.2 h
    rw [e]
    clear e
    simp only [kwL, List.mem_cons, List.not_mem_nil, or_false] at h
    rcases h with rfl | rfl | rfl | rfl | rfl | rfl | rfl | rfl | rfl | rfl | rfl | rfl | rfl | rfl | rfl <;>
    · go_enter Try.func21, Try.ntmps21
      repeat (first | (with_reducible first | refine then_exit ?_ | refine in_same ?_ | refine then_ret ?_ | refine in_ret ?_) | ((with_reducible refine in_other ?_ ?_); decide) | go_values | go_skip | go_guarded | go_step | go_upon | go_back)
      go_ret
      exact ⟨rfl, rfl⟩
  · have e : kwS l = false := by
      cases h1 : kwS l with
      | false => rfl
      | true => exact absurd (List.contains_iff_mem.1 h1) h
    rw [e]
    clear e
    simp only [kwL, List.mem_cons, List.not_mem_nil, or_false, not_or] at h
    obtain ⟨h0, h1, h2, h3, h4, h5, h6, h7, h8, h9, h10, h11, h12, h13, h14⟩ := h
    replace h0 := beq_eq_false_iff_ne.2 h0
    replace h1 := beq_eq_false_iff_ne.2 h1
    replace h2 := beq_eq_false_iff_ne.2 h2
    replace h3 := beq_eq_false_iff_ne.2 h3
    replace h4 := beq_eq_false_iff_ne.2 h4
    replace h5 := beq_eq_false_iff_ne.2 h5
    replace h6 := beq_eq_false_iff_ne.2 h6
    replace h7 := beq_eq_false_iff_ne.2 h7
    replace h8 := beq_eq_false_iff_ne.2 h8
    replace h9 := beq_eq_false_iff_ne.2 h9
    replace h10 := beq_eq_false_iff_ne.2 h10
    replace h11 := beq_eq_false_iff_ne.2 h11
    replace h12 := beq_eq_false_iff_ne.2 h12
    replace h13 := beq_eq_false_iff_ne.2 h13
    replace h14 := beq_eq_false_iff_ne.2 h14
    go_enter Try.func21, Try.ntmps21
    repeat (first | (with_reducible first | refine then_exit ?_ | refine in_same ?_ | refine then_ret ?_ | refine in_ret ?_) | ((with_reducible refine in_other ?_ ?_); decide) | go_values | go_skip | go_guarded | go_step | go_upon | go_back)
    go_ret
    exact ⟨rfl, rfl⟩
end Go.Proofs.Yticifolljhplmaa
