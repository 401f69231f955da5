/-
  Proved here: of lex: wordAt, right. Conditions: the slice holds the source.
-/
import Derived.Test.YticifolljhplmaaKd
namespace Go.Proofs.Yticifolljhplmaa
open Go.RowKit
set_option linter.unusedVariables false
set_option linter.unusedSimpArgs false
set_option maxRecDepth 100000
set_option maxHeartbeats 2000000
theorem word_atom1 (A : Option Addr) (cap : Nat) (xs : Bs) (at_ : Nat) (hx : xs.length ≤ 9223372036854775800) (hc : xs.length ≤ cap) (ha : at_ < xs.length) (h0 : bI xs[at_] = 39) (hcap : cap ≤ at_ + 1) (w : World) (hS : SrcB w A xs) :
    Calls Try.prog 30 #[.slice A xs.length cap, .int .i64 at_] w fun e w' => e = .returned (.tuple #[.agg (tkC 3 at_ ((xs.drop (at_ + 1)).take (nmN (xs.drop (at_ + 1)) true)) 0), .int .i64 ((at_ + (nmN (xs.drop (at_ + 1)) true + 1) : Nat) : Int)]) ∧ Nb w w' := by
  have hS' := Lib.hid hS
  clear hS
  have hne := fun w1 (k : Nb w w1) => nameEnd_any A cap xs (at_ + 1) (by omega) (by omega) w1 (hS'.out.nb k)
  have hK0 := nmN_le (xs.drop (at_ + 1)) true
  obtain ⟨tx, htx⟩ : ∃ tx, (xs.drop (at_ + 1)).take (nmN (xs.drop (at_ + 1)) true) = tx := ⟨_, rfl⟩
  rw [htx]
  obtain ⟨K, hK⟩ : ∃ K, nmN (xs.drop (at_ + 1)) true = K := ⟨_, rfl⟩
  rw [hK] at hne hK0 htx ⊢
  rw [List.length_drop] at hK0
  have hne := Lib.hid hne
  have htx := Lib.hid htx
  clear hK
  go_enter Try.func30, Try.ntmps30
  go_upto_region 3 with (fail)
  obtain ⟨W1, hW⟩ : ∃ W1, (w.alloc (Obj.cells #[.int .i64 0, .int .i64 0, .string ⟨#[]⟩, .int .i64 0] 47)).alloc (Obj.cells #[.int .i64 0, .int .i64 at_, .string ⟨#[]⟩, .int .i64 0] 47) = W1 := ⟨_, rfl⟩
  obtain ⟨b0, b1, n1⟩ := two_made hW
  rw [hW]
  clear hW
  obtain ⟨ad, hA, hcell⟩ := (hS'.out.nb n1).cell at_ ha
  have hlt : (at_ : Int) < (xs.length : Int) := by omega
  subst hA
  rw [h0] at hcell
  obtain ⟨⟨c0, c1, c2, c3⟩, f0, f1, f2, f3⟩ := tk4 b1
  repeat (first | (with_reducible first | refine then_exit ?_ | refine in_same ?_ | refine then_ret ?_ | refine in_ret ?_) | ((with_reducible refine in_other ?_ ?_); decide) | go_values | go_skip | go_guarded | go_step | go_upon | go_back)
  clear c0 c1 c2 c3 f0 f1 f2 f3
  obtain ⟨W2, hW⟩ : ∃ W2, W1.setCell ⟨w.heap.size + 1, 0, none⟩ (.int .i64 3) = W2 := ⟨_, rfl⟩
  replace b1 := kind_put hW n1 b1 b0
  obtain ⟨b1, b0, n1⟩ := b1
  rw [hW]
  clear hW
  obtain ⟨⟨c0, c1, c2, c3⟩, f0, f1, f2, f3⟩ := tk4 b1
  have hca : cap = at_ + 1 := by omega
  have hK1 : K = 0 := by omega
  subst hca hK1
  refine (hne.out _ n1).mono ?_
  rintro e w1 ⟨rfl, rfl⟩
  dsimp only
  repeat (first | (with_reducible first | refine then_exit ?_ | refine in_same ?_ | refine then_ret ?_ | refine in_ret ?_) | ((with_reducible refine in_other ?_ ?_); decide) | go_values | go_skip | go_guarded | go_step | go_upon | go_back)
  have hs : (convert 36 9 (.slice (some ad) 0 0)).run Try.prog W2 = .ok (.string ⟨tx.toArray⟩) W2 := by
    obtain rfl : [] = tx := htx.out
    exact run_convert_bytes_back W2 _ _ 5 ad 0 [] Try.underlying36 Try.underlying5 Try.underlying9 fun j hj => absurd hj (by simp)
  obtain ⟨⟨e0, e1, e2, e3⟩, g0, g1, g2, g3⟩ := tk4 b0
  rw [hs]
  simp only [Result.andThen_ok]
  repeat (first | (with_reducible first | refine then_exit ?_ | refine in_same ?_ | refine then_ret ?_ | refine in_ret ?_) | ((with_reducible refine in_other ?_ ?_); decide) | go_values | go_skip | go_guarded | go_step | go_upon | go_back)
  replace b1 := text_put (k := .string ⟨(tx : Bs).toArray⟩) rfl n1 b1 b0
  obtain ⟨b1, b0, n1⟩ := b1
  refine bodyPost_ret (results_rt rfl _ _ w.heap.size _ rfl (run_loadVar_row _ _ _ _ _ _ _ (set4_all _ _ _ _ b0) Try.underlying47 rfl (by kernel_rfl))) rfl ?_
  exact ⟨by simp [tkC, Array.getD_eq_getD_getElem?] <;> omega, (((n1.setCell (Nat.le_refl _) _).setCell (Nat.le_refl _) _).setCell (Nat.le_refl _) _).setCell (Nat.le_refl _) _⟩

theorem word_atom2 (A : Option Addr) (cap : Nat) (xs : Bs) (at_ : Nat) (hx : xs.length ≤ 9223372036854775800) (hc : xs.length ≤ cap) (ha : at_ < xs.length) (h0 : bI xs[at_] = 39) (hcap : at_ + 1 < cap) (w : World) (hS : SrcB w A xs) :
    Calls Try.prog 30 #[.slice A xs.length cap, .int .i64 at_] w fun e w' => e = .returned (.tuple #[.agg (tkC 3 at_ ((xs.drop (at_ + 1)).take (nmN (xs.drop (at_ + 1)) true)) 0), .int .i64 ((at_ + (nmN (xs.drop (at_ + 1)) true + 1) : Nat) : Int)]) ∧ Nb w w' := by
  have hS' := Lib.hid hS
  clear hS
  have hne := fun w1 (k : Nb w w1) => nameEnd_any A cap xs (at_ + 1) (by omega) (by omega) w1 (hS'.out.nb k)
  have hK0 := nmN_le (xs.drop (at_ + 1)) true
  obtain ⟨tx, htx⟩ : ∃ tx, (xs.drop (at_ + 1)).take (nmN (xs.drop (at_ + 1)) true) = tx := ⟨_, rfl⟩
  rw [htx]
  obtain ⟨K, hK⟩ : ∃ K, nmN (xs.drop (at_ + 1)) true = K := ⟨_, rfl⟩
  rw [hK] at hne hK0 htx ⊢
  rw [List.length_drop] at hK0
  have hne := Lib.hid hne
  have htx := Lib.hid htx
  clear hK
  go_enter Try.func30, Try.ntmps30
  go_upto_region 3 with (fail)
  obtain ⟨W1, hW⟩ : ∃ W1, (w.alloc (Obj.cells #[.int .i64 0, .int .i64 0, .string ⟨#[]⟩, .int .i64 0] 47)).alloc (Obj.cells #[.int .i64 0, .int .i64 at_, .string ⟨#[]⟩, .int .i64 0] 47) = W1 := ⟨_, rfl⟩
  obtain ⟨b0, b1, n1⟩ := two_made hW
  rw [hW]
  clear hW
  obtain ⟨ad, hA, hcell⟩ := (hS'.out.nb n1).cell at_ ha
  have hlt : (at_ : Int) < (xs.length : Int) := by omega
  subst hA
  rw [h0] at hcell
  obtain ⟨⟨c0, c1, c2, c3⟩, f0, f1, f2, f3⟩ := tk4 b1
  repeat (first | (with_reducible first | refine then_exit ?_ | refine in_same ?_ | refine then_ret ?_ | refine in_ret ?_) | ((with_reducible refine in_other ?_ ?_); decide) | go_values | go_skip | go_guarded | go_step | go_upon | go_back)
  clear c0 c1 c2 c3 f0 f1 f2 f3
  obtain ⟨W2, hW⟩ : ∃ W2, W1.setCell ⟨w.heap.size + 1, 0, none⟩ (.int .i64 3) = W2 := ⟨_, rfl⟩
  replace b1 := kind_put hW n1 b1 b0
  obtain ⟨b1, b0, n1⟩ := b1
  rw [hW]
  clear hW
  obtain ⟨⟨c0, c1, c2, c3⟩, f0, f1, f2, f3⟩ := tk4 b1
  have hK1 : (at_ : Int) + 1 + (K : Int) ≤ (cap : Int) := by omega
  have hK2 : (at_ : Int) + 1 ≤ (at_ : Int) + 1 + (K : Int) := by omega
  have hK3 : ¬ cap = at_ + 1 := by omega
  refine (hne.out _ n1).mono ?_
  rintro e w1 ⟨rfl, rfl⟩
  dsimp only
  repeat (first | (with_reducible first | refine then_exit ?_ | refine in_same ?_ | refine then_ret ?_ | refine in_ret ?_) | ((with_reducible refine in_other ?_ ?_); decide) | go_values | go_skip | go_guarded | go_step | go_upon | go_back)
  have hs := str_sub (n := K) (c := cap - (at_ + 1)) (lo := at_ + 1) (tx := tx) (hS'.out.nb n1) htx.out (by omega)
  rw [show ad.add (at_ + 1) = ⟨ad.block, ad.off + (at_ + 1), none⟩ by simp [Addr.add]] at hs
  obtain ⟨⟨e0, e1, e2, e3⟩, g0, g1, g2, g3⟩ := tk4 b0
  rw [hs]
  simp only [Result.andThen_ok]
  repeat (first | (with_reducible first | refine then_exit ?_ | refine in_same ?_ | refine then_ret ?_ | refine in_ret ?_) | ((with_reducible refine in_other ?_ ?_); decide) | go_values | go_skip | go_guarded | go_step | go_upon | go_back)
  replace b1 := text_put (k := .string ⟨(tx : Bs).toArray⟩) rfl n1 b1 b0
  obtain ⟨b1, b0, n1⟩ := b1
  refine bodyPost_ret (results_rt rfl _ _ w.heap.size _ rfl (run_loadVar_row _ _ _ _ _ _ _ (set4_all _ _ _ _ b0) Try.underlying47 rfl (by kernel_rfl))) rfl ?_
  exact ⟨by simp [tkC, Array.getD_eq_getD_getElem?] <;> omega, (((n1.setCell (Nat.le_refl _) _).setCell (Nat.le_refl _) _).setCell (Nat.le_refl _) _).setCell (Nat.le_refl _) _⟩

theorem word_dig (A : Option Addr) (cap : Nat) (xs : Bs) (at_ : Nat) (hx : xs.length ≤ 9223372036854775800) (hc : xs.length ≤ cap) (ha : at_ < xs.length) (h0 : digI (bI xs[at_]) = true) (w : World) (hS : SrcB w A xs) :
    Calls Try.prog 30 #[.slice A xs.length cap, .int .i64 at_] w fun e w' => e = .returned (.tuple #[.agg (tkC 2 at_ ((xs.drop at_).take (dgN (xs.drop at_))) (numV ((xs.drop at_).take (dgN (xs.drop at_))) 0)), .int .i64 ((at_ + dgN (xs.drop at_) : Nat) : Int)]) ∧ Nb w w' := by
  have hS' := Lib.hid hS
  clear hS
  have hne := fun w1 (k : Nb w w1) => number_any A cap xs at_ (by omega) (by omega) w1 (hS'.out.nb k)
  have hK0 := dgN_le (xs.drop at_)
  have hK9 : 1 ≤ dgN (xs.drop at_) := by rw [dgN_drop xs at_ ha, if_pos h0]; omega
  obtain ⟨V, hV⟩ : ∃ V, numV ((xs.drop at_).take (dgN (xs.drop at_))) 0 = V := ⟨_, rfl⟩
  rw [hV] at hne ⊢
  clear hV
  obtain ⟨tx, htx⟩ : ∃ tx, (xs.drop at_).take (dgN (xs.drop at_)) = tx := ⟨_, rfl⟩
  rw [htx]
  obtain ⟨K, hK⟩ : ∃ K, dgN (xs.drop at_) = K := ⟨_, rfl⟩
  rw [hK] at hne hK0 htx hK9 ⊢
  rw [List.length_drop] at hK0
  have hne := Lib.hid hne
  have htx := Lib.hid htx
  clear hK
  go_enter Try.func30, Try.ntmps30
  go_upto_region 3 with (fail)
  obtain ⟨W1, hW⟩ : ∃ W1, (w.alloc (Obj.cells #[.int .i64 0, .int .i64 0, .string ⟨#[]⟩, .int .i64 0] 47)).alloc (Obj.cells #[.int .i64 0, .int .i64 at_, .string ⟨#[]⟩, .int .i64 0] 47) = W1 := ⟨_, rfl⟩
  obtain ⟨b0, b1, n1⟩ := two_made hW
  rw [hW]
  clear hW
  obtain ⟨ad, hA, hcell⟩ := (hS'.out.nb n1).cell at_ ha
  have hlt : (at_ : Int) < (xs.length : Int) := by omega
  subst hA
  have q61 : ¬ bI xs[at_] = 61 := by unfold digI at h0; simp at h0; omega
  have q40 : ¬ bI xs[at_] = 40 := by unfold digI at h0; simp at h0; omega
  have q41 : ¬ bI xs[at_] = 41 := by unfold digI at h0; simp at h0; omega
  have q123 : ¬ bI xs[at_] = 123 := by unfold digI at h0; simp at h0; omega
  have q125 : ¬ bI xs[at_] = 125 := by unfold digI at h0; simp at h0; omega
  have q44 : ¬ bI xs[at_] = 44 := by unfold digI at h0; simp at h0; omega
  have q59 : ¬ bI xs[at_] = 59 := by unfold digI at h0; simp at h0; omega
  have q43 : ¬ bI xs[at_] = 43 := by unfold digI at h0; simp at h0; omega
  have q45 : ¬ bI xs[at_] = 45 := by unfold digI at h0; simp at h0; omega
  have q42 : ¬ bI xs[at_] = 42 := by unfold digI at h0; simp at h0; omega
  have q60 : ¬ bI xs[at_] = 60 := by unfold digI at h0; simp at h0; omega
  have q39 : ¬ bI xs[at_] = 39 := by unfold digI at h0; simp at h0; omega
  obtain ⟨⟨c0, c1, c2, c3⟩, f0, f1, f2, f3⟩ := tk4 b1
  repeat (first | (with_reducible first | refine then_exit ?_ | refine in_same ?_ | refine then_ret ?_ | refine in_ret ?_) | ((with_reducible refine in_other ?_ ?_); decide) | go_values | go_skip | go_guarded | go_step | go_upon | go_back)
  refine (digit_any _ _).mono ?_
  rintro e w1 ⟨rfl, rfl⟩
  rw [h0]
  dsimp only
  repeat (first | (with_reducible first | refine then_exit ?_ | refine in_same ?_ | refine then_ret ?_ | refine in_ret ?_) | ((with_reducible refine in_other ?_ ?_); decide) | go_values | go_skip | go_guarded | go_step | go_upon | go_back)
  clear c0 c1 c2 c3 f0 f1 f2 f3
  obtain ⟨W2, hW⟩ : ∃ W2, W1.setCell ⟨w.heap.size + 1, 0, none⟩ (.int .i64 2) = W2 := ⟨_, rfl⟩
  replace b1 := kind_put hW n1 b1 b0
  obtain ⟨b1, b0, n1⟩ := b1
  rw [hW]
  clear hW
  obtain ⟨⟨c0, c1, c2, c3⟩, f0, f1, f2, f3⟩ := tk4 b1
  have hK1 : (at_ : Int) + (K : Int) ≤ (cap : Int) := by omega
  have hK3 : ¬ cap = at_ := by omega
  refine (hne.out _ n1).mono ?_
  rintro e w1 ⟨rfl, rfl⟩
  dsimp only
  repeat (first | (with_reducible first | refine then_exit ?_ | refine in_same ?_ | refine then_ret ?_ | refine in_ret ?_) | ((with_reducible refine in_other ?_ ?_); decide) | go_values | go_skip | go_guarded | go_step | go_upon | go_back)
  clear c0 c1 c2 c3 f0 f1 f2 f3
  obtain ⟨W3, hW⟩ : ∃ W3, W2.setCell ⟨w.heap.size + 1, 3, none⟩ (.int .i64 V) = W3 := ⟨_, rfl⟩
  replace b1 := num_put hW n1 b1 b0
  obtain ⟨b1, b0, n1⟩ := b1
  rw [hW]
  clear hW
  obtain ⟨⟨c0, c1, c2, c3⟩, f0, f1, f2, f3⟩ := tk4 b1
  have hs := str_sub (n := K) (c := cap - at_) (lo := at_) (tx := tx) (hS'.out.nb n1) htx.out (by omega)
  obtain ⟨⟨e0, e1, e2, e3⟩, g0, g1, g2, g3⟩ := tk4 b0
  rw [hs]
  simp only [Result.andThen_ok]
  repeat (first | (with_reducible first | refine then_exit ?_ | refine in_same ?_ | refine then_ret ?_ | refine in_ret ?_) | ((with_reducible refine in_other ?_ ?_); decide) | go_values | go_skip | go_guarded | go_step | go_upon | go_back)
  replace b1 := text_put (k := .string ⟨(tx : Bs).toArray⟩) rfl n1 b1 b0
  obtain ⟨b1, b0, n1⟩ := b1
  refine bodyPost_ret (results_rt rfl _ _ w.heap.size _ rfl (run_loadVar_row _ _ _ _ _ _ _ (set4_all _ _ _ _ b0) Try.underlying47 rfl (by kernel_rfl))) rfl ?_
  exact ⟨by simp [tkC, Array.getD_eq_getD_getElem?] <;> omega, (((n1.setCell (Nat.le_refl _) _).setCell (Nat.le_refl _) _).setCell (Nat.le_refl _) _).setCell (Nat.le_refl _) _⟩

theorem word_let (A : Option Addr) (cap : Nat) (xs : Bs) (at_ : Nat) (hx : xs.length ≤ 9223372036854775800) (hc : xs.length ≤ cap) (ha : at_ < xs.length) (h0 : digI (bI xs[at_]) = false) (h1 : ltrI (bI xs[at_]) = true) (w : World) (hS : SrcB w A xs) :
    Calls Try.prog 30 #[.slice A xs.length cap, .int .i64 at_] w fun e w' => e = .returned (.tuple #[.agg (tkC 1 at_ ((xs.drop at_).take (nmN (xs.drop at_) true)) 0), .int .i64 ((at_ + nmN (xs.drop at_) true : Nat) : Int)]) ∧ Nb w w' := by
  have hS' := Lib.hid hS
  clear hS
  have hnm : namI (bI xs[at_]) true = true := by unfold namI; rw [if_neg (by rw [h0]; simp)]; exact h1
  have hne := fun w1 (k : Nb w w1) => nameEnd_any A cap xs at_ (by omega) (by omega) w1 (hS'.out.nb k)
  have hK0 := nmN_le (xs.drop at_) true
  have hK9 : 1 ≤ nmN (xs.drop at_) true := by rw [nmN_drop xs at_ ha, if_pos hnm]; omega
  obtain ⟨tx, htx⟩ : ∃ tx, (xs.drop at_).take (nmN (xs.drop at_) true) = tx := ⟨_, rfl⟩
  rw [htx]
  obtain ⟨K, hK⟩ : ∃ K, nmN (xs.drop at_) true = K := ⟨_, rfl⟩
  rw [hK] at hne hK0 htx hK9 ⊢
  rw [List.length_drop] at hK0
  have hne := Lib.hid hne
  have htx := Lib.hid htx
  have hnm := Lib.hid hnm
  clear hK
  go_enter Try.func30, Try.ntmps30
  go_upto_region 3 with (fail)
  obtain ⟨W1, hW⟩ : ∃ W1, (w.alloc (Obj.cells #[.int .i64 0, .int .i64 0, .string ⟨#[]⟩, .int .i64 0] 47)).alloc (Obj.cells #[.int .i64 0, .int .i64 at_, .string ⟨#[]⟩, .int .i64 0] 47) = W1 := ⟨_, rfl⟩
  obtain ⟨b0, b1, n1⟩ := two_made hW
  rw [hW]
  clear hW
  obtain ⟨ad, hA, hcell⟩ := (hS'.out.nb n1).cell at_ ha
  have hlt : (at_ : Int) < (xs.length : Int) := by omega
  subst hA
  have q61 : ¬ bI xs[at_] = 61 := by unfold ltrI at h1; simp at h1; omega
  have q40 : ¬ bI xs[at_] = 40 := by unfold ltrI at h1; simp at h1; omega
  have q41 : ¬ bI xs[at_] = 41 := by unfold ltrI at h1; simp at h1; omega
  have q123 : ¬ bI xs[at_] = 123 := by unfold ltrI at h1; simp at h1; omega
  have q125 : ¬ bI xs[at_] = 125 := by unfold ltrI at h1; simp at h1; omega
  have q44 : ¬ bI xs[at_] = 44 := by unfold ltrI at h1; simp at h1; omega
  have q59 : ¬ bI xs[at_] = 59 := by unfold ltrI at h1; simp at h1; omega
  have q43 : ¬ bI xs[at_] = 43 := by unfold ltrI at h1; simp at h1; omega
  have q45 : ¬ bI xs[at_] = 45 := by unfold ltrI at h1; simp at h1; omega
  have q42 : ¬ bI xs[at_] = 42 := by unfold ltrI at h1; simp at h1; omega
  have q60 : ¬ bI xs[at_] = 60 := by unfold ltrI at h1; simp at h1; omega
  have q39 : ¬ bI xs[at_] = 39 := by unfold ltrI at h1; simp at h1; omega
  obtain ⟨⟨c0, c1, c2, c3⟩, f0, f1, f2, f3⟩ := tk4 b1
  repeat (first | (with_reducible first | refine then_exit ?_ | refine in_same ?_ | refine then_ret ?_ | refine in_ret ?_) | ((with_reducible refine in_other ?_ ?_); decide) | go_values | go_skip | go_guarded | go_step | go_upon | go_back)
  refine (digit_any _ _).mono ?_
  rintro e w1 ⟨rfl, rfl⟩
  rw [h0]
  dsimp only
  repeat (first | (with_reducible first | refine then_exit ?_ | refine in_same ?_ | refine then_ret ?_ | refine in_ret ?_) | ((with_reducible refine in_other ?_ ?_); decide) | go_values | go_skip | go_guarded | go_step | go_upon | go_back)
  refine (named_any _ _ _).mono ?_
  rintro e w1 ⟨rfl, rfl⟩
  rw [hnm.out]
  dsimp only
  repeat (first | (with_reducible first | refine then_exit ?_ | refine in_same ?_ | refine then_ret ?_ | refine in_ret ?_) | ((with_reducible refine in_other ?_ ?_); decide) | go_values | go_skip | go_guarded | go_step | go_upon | go_back)
  clear c0 c1 c2 c3 f0 f1 f2 f3
  obtain ⟨W2, hW⟩ : ∃ W2, W1.setCell ⟨w.heap.size + 1, 0, none⟩ (.int .i64 1) = W2 := ⟨_, rfl⟩
  replace b1 := kind_put hW n1 b1 b0
  obtain ⟨b1, b0, n1⟩ := b1
  rw [hW]
  clear hW
  obtain ⟨⟨c0, c1, c2, c3⟩, f0, f1, f2, f3⟩ := tk4 b1
  have hK1 : (at_ : Int) + (K : Int) ≤ (cap : Int) := by omega
  have hK3 : ¬ cap = at_ := by omega
  refine (hne.out _ n1).mono ?_
  rintro e w1 ⟨rfl, rfl⟩
  dsimp only
  repeat (first | (with_reducible first | refine then_exit ?_ | refine in_same ?_ | refine then_ret ?_ | refine in_ret ?_) | ((with_reducible refine in_other ?_ ?_); decide) | go_values | go_skip | go_guarded | go_step | go_upon | go_back)
  have hs := str_sub (n := K) (c := cap - at_) (lo := at_) (tx := tx) (hS'.out.nb n1) htx.out (by omega)
  obtain ⟨⟨e0, e1, e2, e3⟩, g0, g1, g2, g3⟩ := tk4 b0
  rw [hs]
  simp only [Result.andThen_ok]
  repeat (first | (with_reducible first | refine then_exit ?_ | refine in_same ?_ | refine then_ret ?_ | refine in_ret ?_) | ((with_reducible refine in_other ?_ ?_); decide) | go_values | go_skip | go_guarded | go_step | go_upon | go_back)
  replace b1 := text_put (k := .string ⟨(tx : Bs).toArray⟩) rfl n1 b1 b0
  obtain ⟨b1, b0, n1⟩ := b1
  refine bodyPost_ret (results_rt rfl _ _ w.heap.size _ rfl (run_loadVar_row _ _ _ _ _ _ _ (set4_all _ _ _ _ b0) Try.underlying47 rfl (by kernel_rfl))) rfl ?_
  exact ⟨by simp [tkC, Array.getD_eq_getD_getElem?] <;> omega, (((n1.setCell (Nat.le_refl _) _).setCell (Nat.le_refl _) _).setCell (Nat.le_refl _) _).setCell (Nat.le_refl _) _⟩

theorem word_no (A : Option Addr) (cap : Nat) (xs : Bs) (at_ : Nat) (hx : xs.length ≤ 9223372036854775800) (hc : xs.length ≤ cap) (ha : at_ < xs.length) (h0 : digI (bI xs[at_]) = false) (h1 : ltrI (bI xs[at_]) = false) (h2 : ¬ bI xs[at_] = 61) (h3 : sigI (bI xs[at_]) = false) (h4 : ¬ bI xs[at_] = 39) (w : World) (hS : SrcB w A xs) :
    Calls Try.prog 30 #[.slice A xs.length cap, .int .i64 at_] w fun e w' => e = .returned (.tuple #[.agg (tkC 0 at_ [xs[at_]] 0), .int .i64 ((at_ + 1 : Nat) : Int)]) ∧ Nb w w' := by
  have hS' := Lib.hid hS
  clear hS
  have hnm : namI (bI xs[at_]) true = false := by unfold namI; rw [if_neg (by rw [h0]; simp)]; exact h1
  have hnm := Lib.hid hnm
  go_enter Try.func30, Try.ntmps30
  go_upto_region 3 with (fail)
  obtain ⟨W1, hW⟩ : ∃ W1, (w.alloc (Obj.cells #[.int .i64 0, .int .i64 0, .string ⟨#[]⟩, .int .i64 0] 47)).alloc (Obj.cells #[.int .i64 0, .int .i64 at_, .string ⟨#[]⟩, .int .i64 0] 47) = W1 := ⟨_, rfl⟩
  obtain ⟨b0, b1, n1⟩ := two_made hW
  rw [hW]
  clear hW
  obtain ⟨ad, hA, hcell⟩ := (hS'.out.nb n1).cell at_ ha
  have hlt : (at_ : Int) < (xs.length : Int) := by omega
  subst hA
  have q61 : ¬ bI xs[at_] = 61 := by unfold sigI at h3; simp at h3; omega
  have q40 : ¬ bI xs[at_] = 40 := by unfold sigI at h3; simp at h3; omega
  have q41 : ¬ bI xs[at_] = 41 := by unfold sigI at h3; simp at h3; omega
  have q123 : ¬ bI xs[at_] = 123 := by unfold sigI at h3; simp at h3; omega
  have q125 : ¬ bI xs[at_] = 125 := by unfold sigI at h3; simp at h3; omega
  have q44 : ¬ bI xs[at_] = 44 := by unfold sigI at h3; simp at h3; omega
  have q59 : ¬ bI xs[at_] = 59 := by unfold sigI at h3; simp at h3; omega
  have q43 : ¬ bI xs[at_] = 43 := by unfold sigI at h3; simp at h3; omega
  have q45 : ¬ bI xs[at_] = 45 := by unfold sigI at h3; simp at h3; omega
  have q42 : ¬ bI xs[at_] = 42 := by unfold sigI at h3; simp at h3; omega
  have q60 : ¬ bI xs[at_] = 60 := by unfold sigI at h3; simp at h3; omega
  have q39 : ¬ bI xs[at_] = 39 := by unfold sigI at h3; simp at h3; omega
  obtain ⟨⟨c0, c1, c2, c3⟩, f0, f1, f2, f3⟩ := tk4 b1
  repeat (first | (with_reducible first | refine then_exit ?_ | refine in_same ?_ | refine then_ret ?_ | refine in_ret ?_) | ((with_reducible refine in_other ?_ ?_); decide) | go_values | go_skip | go_guarded | go_step | go_upon | go_back)
  refine (digit_any _ _).mono ?_
  rintro e w1 ⟨rfl, rfl⟩
  rw [h0]
  dsimp only
  repeat (first | (with_reducible first | refine then_exit ?_ | refine in_same ?_ | refine then_ret ?_ | refine in_ret ?_) | ((with_reducible refine in_other ?_ ?_); decide) | go_values | go_skip | go_guarded | go_step | go_upon | go_back)
  refine (named_any _ _ _).mono ?_
  rintro e w1 ⟨rfl, rfl⟩
  rw [hnm.out]
  dsimp only
  have hK3 : ¬ cap = at_ := by omega
  repeat (first | (with_reducible first | refine then_exit ?_ | refine in_same ?_ | refine then_ret ?_ | refine in_ret ?_) | ((with_reducible refine in_other ?_ ?_); decide) | go_values | go_skip | go_guarded | go_step | go_upon | go_back)
  have hs := str_sub (n := 1) (c := cap - at_) (lo := at_) (tx := [xs[at_]]) (hS'.out.nb n1) (by
    rw [List.drop_eq_getElem_cons ha]; rfl) (by omega)
  obtain ⟨⟨e0, e1, e2, e3⟩, g0, g1, g2, g3⟩ := tk4 b0
  rw [hs]
  simp only [Result.andThen_ok]
  repeat (first | (with_reducible first | refine then_exit ?_ | refine in_same ?_ | refine then_ret ?_ | refine in_ret ?_) | ((with_reducible refine in_other ?_ ?_); decide) | go_values | go_skip | go_guarded | go_step | go_upon | go_back)
  replace b1 := text_put (k := .string ⟨([xs[at_]] : Bs).toArray⟩) rfl n1 b1 b0
  obtain ⟨b1, b0, n1⟩ := b1
  refine bodyPost_ret (results_rt rfl _ _ w.heap.size _ rfl (run_loadVar_row _ _ _ _ _ _ _ (set4_all _ _ _ _ b0) Try.underlying47 rfl (by kernel_rfl))) rfl ?_
  exact ⟨by simp [tkC, Array.getD_eq_getD_getElem?] <;> omega, (((n1.setCell (Nat.le_refl _) _).setCell (Nat.le_refl _) _).setCell (Nat.le_refl _) _).setCell (Nat.le_refl _) _⟩

theorem drop_cons (xs : Bs) (k : Nat) (h : k < xs.length) : xs.drop k = xs[k] :: xs.drop (k + 1) := List.drop_eq_getElem_cons h
theorem word_any (A : Option Addr) (cap : Nat) (xs : Bs) (at_ : Nat) (hx : xs.length ≤ 9223372036854775800) (hc : xs.length ≤ cap) (ha : at_ < xs.length) (kd : Int) (tx : Bs) (v : Int) (m : Nat) (hw : waS (xs.drop at_) = (kd, tx, v, m)) (w : World) (hS : SrcB w A xs) :
    Calls Try.prog 30 #[.slice A xs.length cap, .int .i64 at_] w fun e w' => e = .returned (.tuple #[.agg (tkC kd at_ tx v), .int .i64 ((at_ + m : Nat) : Int)]) ∧ Nb w w' := by
  have hd := drop_cons xs at_ ha
  have e1 : xs[at_] :: xs.drop (at_ + 1) = xs.drop at_ := hd.symm
  rw [hd, wa_cons, e1] at hw
  by_cases h0 : bI xs[at_] = 61
  · rw [if_pos h0] at hw
    have es : xs[at_] = 61 := UInt8.toNat_inj.1 (by unfold bI at h0; show xs[at_].toNat = 61; omega)
    by_cases h2 : at_ + 1 < xs.length
    · rw [drop_cons xs (at_ + 1) h2] at hw
      by_cases h3 : bI xs[at_ + 1] = 61
      · have e : xs[at_ + 1] = 61 := UInt8.toNat_inj.1 (by unfold bI at h3; show xs[at_ + 1].toNat = 61; omega)
        rw [e] at hw
        cases hw
        exact word_eq A cap xs at_ hx hc ha h2 h0 h3 w hS
      · have e : ¬ xs[at_ + 1] = 61 := fun e => h3 (by rw [e]; rfl)
        rw [if_neg (by intro h; apply e; have h9 := h; simp [List.getElem?_eq_getElem h2] at h9; exact h9)] at hw
        cases hw
        exact word_eq1 A cap xs at_ hx hc ha h2 h0 h3 w hS
    · rw [List.drop_eq_nil_of_le (by omega)] at hw
      cases hw
      exact word_eq2 A cap xs at_ hx hc ha h2 h0 w hS
  · rw [if_neg h0] at hw
    by_cases h1 : sigI (bI xs[at_]) = true
    · rw [if_pos h1] at hw
      cases hw
      unfold sigI at h1
      simp only [Bool.or_eq_true, beq_iff_eq] at h1
      rcases h1 with ((((((((h1 | h1) | h1) | h1) | h1) | h1) | h1) | h1) | h1) | h1
      · exact word_s40 A cap xs at_ hx hc ha h1 w hS
      · exact word_s41 A cap xs at_ hx hc ha h1 w hS
      · exact word_s123 A cap xs at_ hx hc ha h1 w hS
      · exact word_s125 A cap xs at_ hx hc ha h1 w hS
      · exact word_s44 A cap xs at_ hx hc ha h1 w hS
      · exact word_s59 A cap xs at_ hx hc ha h1 w hS
      · exact word_s43 A cap xs at_ hx hc ha h1 w hS
      · exact word_s45 A cap xs at_ hx hc ha h1 w hS
      · exact word_s42 A cap xs at_ hx hc ha h1 w hS
      · exact word_s60 A cap xs at_ hx hc ha h1 w hS
    · rw [if_neg h1] at hw
      by_cases h2 : bI xs[at_] = 39
      · rw [if_pos h2] at hw
        cases hw
        by_cases hcap : cap ≤ at_ + 1
        · exact word_atom1 A cap xs at_ hx hc ha h2 hcap w hS
        · exact word_atom2 A cap xs at_ hx hc ha h2 (by omega) w hS
      · rw [if_neg h2] at hw
        by_cases h3 : digI (bI xs[at_]) = true
        · rw [if_pos h3] at hw
          cases hw
          exact word_dig A cap xs at_ hx hc ha h3 w hS
        · rw [if_neg h3] at hw
          have h3' : digI (bI xs[at_]) = false := by simpa using h3
          by_cases h4 : namI (bI xs[at_]) true = true
          · rw [if_pos h4] at hw
            cases hw
            exact word_let A cap xs at_ hx hc ha h3' (by unfold namI at h4; rw [if_neg h3] at h4; exact h4) w hS
          · rw [if_neg h4] at hw
            cases hw
            have h5 : ltrI (bI xs[at_]) = false := by unfold namI at h4; rw [if_neg h3] at h4; simpa using h4
            exact word_no A cap xs at_ hx hc ha h3' h5 h0 (by simpa using h1) h2 w hS
theorem wa_len (l : Bs) : (waS l).2.1.length ≤ l.length := by
  cases l with
  | nil => exact Nat.le_refl _
  | cons c r =>
    rw [wa_cons]
    split
    · split
      · rename_i h
        cases r with
        | nil => cases h
        | cons d r' => simp
      · simp
    · split
      · simp
      · split
        · simp; omega
        · split
          · simp; omega
          · split
            · simp; omega
            · simp
theorem right_any (kd p : Int) (tx : Bs) (v : Int) (m : Nat) (ht : tx.length ≤ 9223372036854775807) (w : World) : Calls Try.prog 31 #[.agg (tkC kd p tx v)] w fun e w' => e = .returned (.bool (rightS (kd, tx, v, m))) ∧ Nb w w' := by
  have hq : kd = 1 ∨ kd = 3 ∨ kd = 2 ∨ (¬ kd = 1 ∧ ¬ kd = 3 ∧ ¬ kd = 2) := by omega
  have hn := Lib.hid (name_any tx ht)
  obtain ⟨N, hN⟩ : ∃ N, nameS tx = N := ⟨_, rfl⟩
  go_enter Try.func31, Try.ntmps31
  go_upto_region 1 with (fail)
  obtain ⟨W1, hW⟩ : ∃ W1, w.alloc (Obj.cells #[.int .i64 kd, .int .i64 p, .string ⟨tx.toArray⟩, .int .i64 v] 47) = W1 := ⟨_, rfl⟩
  have n1 : Nb w W1 := by rw [← hW]; exact (Nb.refl _).alloc _
  have b1 : W1.heap[w.heap.size]? = some (.cells #[.int .i64 kd, .int .i64 p, .string ⟨tx.toArray⟩, .int .i64 v] 47 (0, 0)) := by rw [← hW]; exact new_blk w _ rfl
  rw [hW]
  clear hW
  obtain ⟨⟨c0, c1, c2, c3⟩, -⟩ := tk4 b1
  rcases hq with rfl | rfl | rfl | ⟨h1, h2, h3⟩
  · repeat (first | (with_reducible first | refine then_exit ?_ | refine in_same ?_ | refine then_ret ?_ | refine in_ret ?_) | ((with_reducible refine in_other ?_ ?_); decide) | go_values | go_skip | go_guarded | go_step | go_upon | go_back)
    go_ret
    exact ⟨by simp [rightS]; omega, n1⟩
  · repeat (first | (with_reducible first | refine then_exit ?_ | refine in_same ?_ | refine then_ret ?_ | refine in_ret ?_) | ((with_reducible refine in_other ?_ ?_); decide) | go_values | go_skip | go_guarded | go_step | go_upon | go_back)
    refine (hn.out _).mono ?_
    rintro e w1 ⟨rfl, rfl⟩
    dsimp only
    repeat (first | (with_reducible first | refine then_exit ?_ | refine in_same ?_ | refine then_ret ?_ | refine in_ret ?_) | ((with_reducible refine in_other ?_ ?_); decide) | go_values | go_skip | go_guarded | go_step | go_upon | go_back)
    go_ret
    exact ⟨by simp [rightS], n1⟩
  · repeat (first | (with_reducible first | refine then_exit ?_ | refine in_same ?_ | refine then_ret ?_ | refine in_ret ?_) | ((with_reducible refine in_other ?_ ?_); decide) | go_values | go_skip | go_guarded | go_step | go_upon | go_back)
    go_ret
    exact ⟨by simp [rightS], n1⟩
  · repeat (first | (with_reducible first | refine then_exit ?_ | refine in_same ?_ | refine then_ret ?_ | refine in_ret ?_) | ((with_reducible refine in_other ?_ ?_); decide) | go_values | go_skip | go_guarded | go_step | go_upon | go_back)
    go_ret
    exact ⟨by simp [rightS, h1, h2, h3], n1⟩
end Go.Proofs.Yticifolljhplmaa
