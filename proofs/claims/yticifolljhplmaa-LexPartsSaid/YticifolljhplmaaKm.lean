/-
  Proved here: of the reference: one. Conditions: the slice holds the source.
-/
import Derived.Test.YticifolljhplmaaKk
namespace Go.Proofs.Yticifolljhplmaa
open Go.RowKit
set_option linter.unusedVariables false
set_option linter.unusedSimpArgs false
set_option maxRecDepth 100000
set_option maxHeartbeats 2000000
theorem sgS_le (l : Bs) : sgS l ≤ l.length := by
  cases l with
  | nil => exact Nat.le_refl _
  | cons c r =>
    show (if bI c = 61 ∧ r.head? = some 61 then 2 else if sgL.contains (bI c) = true then 1 else 0) ≤ _
    simp only [List.length_cons]
    split
    · rename_i h
      cases r with
      | nil => cases h.2
      | cons d r' => simp
    · split <;> omega
theorem dgN_dig (l : Bs) : ∀ c ∈ l.take (dgN l), digI (bI c) = true := by
  induction l with
  | nil => intro c h; cases h
  | cons a r ih =>
    rw [dgN_cons]
    split
    · rename_i h
      intro c hc
      rw [List.take_succ_cons, List.mem_cons] at hc
      rcases hc with rfl | hc
      · exact h
      · exact ih c hc
    · intro c h; cases h
theorem rone_let (A : Option Addr) (cap : Nat) (xs : Bs) (at_ : Nat) (hx : xs.length ≤ 9223372036854775800) (hc : xs.length ≤ cap) (ha : at_ < xs.length) (h1 : ltrI (bI xs[at_]) = true) (w : World) (hS : SrcB w A xs) :
    Calls Try.prog 33 #[.slice A xs.length cap, .int .i64 at_] w fun e w' => e = .returned (.tuple #[.agg (tkC 1 at_ ((xs.drop at_).take (nmN (xs.drop at_) false)) 0), .int .i64 (if 32 < nmN (xs.drop at_) false then 0 else (nmN (xs.drop at_) false : Nat))]) ∧ Nb w w' := by
  have hS' := Lib.hid hS
  clear hS
  have hnm : namI (bI xs[at_]) false = true := by rw [nam_cases, h1]; rfl
  have hne := fun w1 (k : Nb w w1) => run_nam A cap xs at_ (by omega) (by omega) w1 (hS'.out.nb k)
  have hK0 := nmN_le (xs.drop at_) false
  have hK9 : 1 ≤ nmN (xs.drop at_) false := by rw [nmN_drop xs at_ ha, if_pos hnm]; omega
  obtain ⟨tx, htx⟩ : ∃ tx, (xs.drop at_).take (nmN (xs.drop at_) false) = tx := ⟨_, rfl⟩
  rw [htx]
  obtain ⟨K, hK⟩ : ∃ K, nmN (xs.drop at_) false = K := ⟨_, rfl⟩
  rw [hK] at hne hK0 htx hK9 ⊢
  rw [List.length_drop] at hK0
  have hne := Lib.hid hne
  have htx := Lib.hid htx
  have h1 := Lib.hid h1
  clear hK hnm
  go_enter Try.func33, Try.ntmps33
  go_upto_region 2 with (fail)
  obtain ⟨W1, hW⟩ : ∃ W1, (w.alloc (Obj.cells #[.int .i64 0, .int .i64 0, .string ⟨#[]⟩, .int .i64 0] 47)).alloc (Obj.cells #[.int .i64 0, .int .i64 at_, .string ⟨#[]⟩, .int .i64 0] 47) = W1 := ⟨_, rfl⟩
  obtain ⟨b0, b1, n1⟩ := two_made hW
  rw [hW]
  clear hW
  obtain ⟨ad, hA, hcell⟩ := (hS'.out.nb n1).cell at_ ha
  have hlt : (at_ : Int) < (xs.length : Int) := by omega
  subst hA
  obtain ⟨⟨c0, c1, c2, c3⟩, f0, f1, f2, f3⟩ := tk4 b1
  repeat (first | (with_reducible first | refine then_exit ?_ | refine in_same ?_ | refine then_ret ?_ | refine in_ret ?_) | ((with_reducible refine in_other ?_ ?_); decide) | go_values | go_skip | go_guarded | go_step | go_upon | go_back)
  refine (rletter_any _ _).mono ?_
  rintro e w1 ⟨rfl, rfl⟩
  rw [h1.out]
  dsimp only
  repeat (first | (with_reducible first | refine then_exit ?_ | refine in_same ?_ | refine then_ret ?_ | refine in_ret ?_) | ((with_reducible refine in_other ?_ ?_); decide) | go_values | go_skip | go_guarded | go_step | go_upon | go_back)
  have hK1 : (at_ : Int) + (K : Int) ≤ (cap : Int) := by omega
  have hK3 : ¬ cap = at_ := by omega
  refine (hne.out _ n1).mono ?_
  rintro e w1 ⟨rfl, rfl⟩
  dsimp only
  repeat (first | (with_reducible first | refine then_exit ?_ | refine in_same ?_ | refine then_ret ?_ | refine in_ret ?_) | ((with_reducible refine in_other ?_ ?_); decide) | go_values | go_skip | go_guarded | go_step | go_upon | go_back)
  clear c0 c1 c2 c3 f0 f1 f2 f3
  obtain ⟨W2, hW⟩ : ∃ W2, W1.setCell ⟨w.heap.size + 1, 0, none⟩ (.int .i64 1) = W2 := ⟨_, rfl⟩
  replace b1 := kind_put hW n1 b1 b0
  obtain ⟨b1, b0, n1⟩ := b1
  rw [hW]
  clear hW
  obtain ⟨⟨c0, c1, c2, c3⟩, f0, f1, f2, f3⟩ := tk4 b1
  repeat (first | (with_reducible first | refine then_exit ?_ | refine in_same ?_ | refine then_ret ?_ | refine in_ret ?_) | ((with_reducible refine in_other ?_ ?_); decide) | go_values | go_skip | go_guarded | go_step | go_upon | go_back)
  have hs := str_sub (n := K) (c := cap - at_) (lo := at_) (tx := tx) (hS'.out.nb n1) htx.out (by omega)
  obtain ⟨⟨e0, e1, e2, e3⟩, g0, g1, g2, g3⟩ := tk4 b0
  rw [hs]
  simp only [Result.andThen_ok]
  by_cases h32 : 32 < K
  · have h33 : 32 < (K : Int) := by omega
    repeat (first | (with_reducible first | refine then_exit ?_ | refine in_same ?_ | refine then_ret ?_ | refine in_ret ?_) | ((with_reducible refine in_other ?_ ?_); decide) | go_values | go_skip | go_guarded | go_step | go_upon | go_back)
    replace b1 := text_put (k := .string ⟨(tx : Bs).toArray⟩) rfl n1 b1 b0
    obtain ⟨b1, b0, n1⟩ := b1
    refine bodyPost_ret (results_rt rfl _ _ w.heap.size _ rfl (run_loadVar_row _ _ _ _ _ _ _ (set4_all _ _ _ _ b0) Try.underlying47 rfl (by kernel_rfl))) rfl ?_
    exact ⟨by simp [tkC, h32, Array.getD_eq_getD_getElem?] <;> omega, (((n1.setCell (Nat.le_refl _) _).setCell (Nat.le_refl _) _).setCell (Nat.le_refl _) _).setCell (Nat.le_refl _) _⟩
  · have h33 : ¬ 32 < (K : Int) := by omega
    repeat (first | (with_reducible first | refine then_exit ?_ | refine in_same ?_ | refine then_ret ?_ | refine in_ret ?_) | ((with_reducible refine in_other ?_ ?_); decide) | go_values | go_skip | go_guarded | go_step | go_upon | go_back)
    replace b1 := text_put (k := .string ⟨(tx : Bs).toArray⟩) rfl n1 b1 b0
    obtain ⟨b1, b0, n1⟩ := b1
    refine bodyPost_ret (results_rt rfl _ _ w.heap.size _ rfl (run_loadVar_row _ _ _ _ _ _ _ (set4_all _ _ _ _ b0) Try.underlying47 rfl (by kernel_rfl))) rfl ?_
    exact ⟨by simp [tkC, h32, Array.getD_eq_getD_getElem?] <;> omega, (((n1.setCell (Nat.le_refl _) _).setCell (Nat.le_refl _) _).setCell (Nat.le_refl _) _).setCell (Nat.le_refl _) _⟩
theorem rone_dig (A : Option Addr) (cap : Nat) (xs : Bs) (at_ : Nat) (hx : xs.length ≤ 9223372036854775800) (hc : xs.length ≤ cap) (ha : at_ < xs.length) (h1 : digI (bI xs[at_]) = true) (w : World) (hS : SrcB w A xs) :
    Calls Try.prog 33 #[.slice A xs.length cap, .int .i64 at_] w fun e w' => e = .returned (.tuple #[.agg (tkC 2 at_ ((xs.drop at_).take (dgN (xs.drop at_))) (if numV ((xs.drop at_).take (dgN (xs.drop at_))) 0 < 0 then 0 else numV ((xs.drop at_).take (dgN (xs.drop at_))) 0)), .int .i64 (if numV ((xs.drop at_).take (dgN (xs.drop at_))) 0 < 0 then 0 else (dgN (xs.drop at_) : Nat))]) ∧ Nb w w' := by
  have hS' := Lib.hid hS
  clear hS
  have h0 : ltrI (bI xs[at_]) = false := by
    unfold ltrI
    unfold digI at h1
    simp at h1 ⊢
    omega
  have hne := fun w1 (k : Nb w w1) => run_dig A cap xs at_ (by omega) (by omega) w1 (hS'.out.nb k)
  have hK0 := dgN_le (xs.drop at_)
  have hK9 : 1 ≤ dgN (xs.drop at_) := by rw [dgN_drop xs at_ ha, if_pos h1]; omega
  have hnu := fun w1 => rnumber_any ((xs.drop at_).take (dgN (xs.drop at_))) (by rw [List.length_take, List.length_drop]; omega) (dgN_dig _) w1
  obtain ⟨V, hV⟩ : ∃ V, numV ((xs.drop at_).take (dgN (xs.drop at_))) 0 = V := ⟨_, rfl⟩
  rw [hV] at hnu ⊢
  clear hV
  obtain ⟨tx, htx⟩ : ∃ tx, (xs.drop at_).take (dgN (xs.drop at_)) = tx := ⟨_, rfl⟩
  rw [htx] at hnu ⊢
  obtain ⟨K, hK⟩ : ∃ K, dgN (xs.drop at_) = K := ⟨_, rfl⟩
  rw [hK] at hne hK0 htx hK9 ⊢
  rw [List.length_drop] at hK0
  have hne := Lib.hid hne
  have hnu := Lib.hid hnu
  have htx := Lib.hid htx
  have h1 := Lib.hid h1
  have h0 := Lib.hid h0
  clear hK
  go_enter Try.func33, Try.ntmps33
  go_upto_region 2 with (fail)
  obtain ⟨W1, hW⟩ : ∃ W1, (w.alloc (Obj.cells #[.int .i64 0, .int .i64 0, .string ⟨#[]⟩, .int .i64 0] 47)).alloc (Obj.cells #[.int .i64 0, .int .i64 at_, .string ⟨#[]⟩, .int .i64 0] 47) = W1 := ⟨_, rfl⟩
  obtain ⟨b0, b1, n1⟩ := two_made hW
  rw [hW]
  clear hW
  obtain ⟨ad, hA, hcell⟩ := (hS'.out.nb n1).cell at_ ha
  have hlt : (at_ : Int) < (xs.length : Int) := by omega
  subst hA
  obtain ⟨⟨c0, c1, c2, c3⟩, f0, f1, f2, f3⟩ := tk4 b1
  repeat (first | (with_reducible first | refine then_exit ?_ | refine in_same ?_ | refine then_ret ?_ | refine in_ret ?_) | ((with_reducible refine in_other ?_ ?_); decide) | go_values | go_skip | go_guarded | go_step | go_upon | go_back)
  refine (rletter_any _ _).mono ?_
  rintro e w1 ⟨rfl, rfl⟩
  rw [h0.out]
  dsimp only
  repeat (first | (with_reducible first | refine then_exit ?_ | refine in_same ?_ | refine then_ret ?_ | refine in_ret ?_) | ((with_reducible refine in_other ?_ ?_); decide) | go_values | go_skip | go_guarded | go_step | go_upon | go_back)
  refine (rdigit_any _ _).mono ?_
  rintro e w1 ⟨rfl, rfl⟩
  rw [h1.out]
  dsimp only
  repeat (first | (with_reducible first | refine then_exit ?_ | refine in_same ?_ | refine then_ret ?_ | refine in_ret ?_) | ((with_reducible refine in_other ?_ ?_); decide) | go_values | go_skip | go_guarded | go_step | go_upon | go_back)
  have hK1 : (at_ : Int) + (K : Int) ≤ (cap : Int) := by omega
  have hK3 : ¬ cap = at_ := by omega
  refine (hne.out _ n1).mono ?_
  rintro e w1 ⟨rfl, rfl⟩
  dsimp only
  repeat (first | (with_reducible first | refine then_exit ?_ | refine in_same ?_ | refine then_ret ?_ | refine in_ret ?_) | ((with_reducible refine in_other ?_ ?_); decide) | go_values | go_skip | go_guarded | go_step | go_upon | go_back)
  have hs := str_sub (n := K) (c := cap - at_) (lo := at_) (tx := tx) (hS'.out.nb n1) htx.out (by omega)
  rw [hs]
  simp only [Result.andThen_ok]
  repeat (first | (with_reducible first | refine then_exit ?_ | refine in_same ?_ | refine then_ret ?_ | refine in_ret ?_) | ((with_reducible refine in_other ?_ ?_); decide) | go_values | go_skip | go_guarded | go_step | go_upon | go_back)
  refine (hnu.out _).mono ?_
  rintro e w1 ⟨rfl, rfl⟩
  dsimp only
  repeat (first | (with_reducible first | refine then_exit ?_ | refine in_same ?_ | refine then_ret ?_ | refine in_ret ?_) | ((with_reducible refine in_other ?_ ?_); decide) | go_values | go_skip | go_guarded | go_step | go_upon | go_back)
  clear c0 c1 c2 c3 f0 f1 f2 f3
  obtain ⟨W2, hW⟩ : ∃ W2, W1.setCell ⟨w.heap.size + 1, 0, none⟩ (.int .i64 2) = W2 := ⟨_, rfl⟩
  replace b1 := kind_put hW n1 b1 b0
  obtain ⟨b1, b0, n1⟩ := b1
  rw [hW]
  clear hW
  obtain ⟨⟨c0, c1, c2, c3⟩, f0, f1, f2, f3⟩ := tk4 b1
  repeat (first | (with_reducible first | refine then_exit ?_ | refine in_same ?_ | refine then_ret ?_ | refine in_ret ?_) | ((with_reducible refine in_other ?_ ?_); decide) | go_values | go_skip | go_guarded | go_step | go_upon | go_back)
  have hs := str_sub (n := K) (c := cap - at_) (lo := at_) (tx := tx) (hS'.out.nb n1) htx.out (by omega)
  obtain ⟨⟨e0, e1, e2, e3⟩, g0, g1, g2, g3⟩ := tk4 b0
  rw [hs]
  simp only [Result.andThen_ok]
  by_cases h32 : V < 0
  · simp only [if_pos h32]
    have h33 : ¬ 0 ≤ V := by omega
    repeat (first | (with_reducible first | refine then_exit ?_ | refine in_same ?_ | refine then_ret ?_ | refine in_ret ?_) | ((with_reducible refine in_other ?_ ?_); decide) | go_values | go_skip | go_guarded | go_step | go_upon | go_back)
    replace b1 := text_put (k := .string ⟨(tx : Bs).toArray⟩) rfl n1 b1 b0
    obtain ⟨b1, b0, n1⟩ := b1
    replace b1 := num_put (k := .int .i64 (0)) rfl n1 b1 b0
    obtain ⟨b1, b0, n1⟩ := b1
    refine bodyPost_ret (results_rt rfl _ _ w.heap.size _ rfl (run_loadVar_row _ _ _ _ _ _ _ (set4_all _ _ _ _ b0) Try.underlying47 rfl (by kernel_rfl))) rfl ?_
    exact ⟨by simp [tkC, h32, Array.getD_eq_getD_getElem?] <;> omega, (((n1.setCell (Nat.le_refl _) _).setCell (Nat.le_refl _) _).setCell (Nat.le_refl _) _).setCell (Nat.le_refl _) _⟩
  · simp only [if_neg h32]
    have h33 : 0 ≤ V := by omega
    repeat (first | (with_reducible first | refine then_exit ?_ | refine in_same ?_ | refine then_ret ?_ | refine in_ret ?_) | ((with_reducible refine in_other ?_ ?_); decide) | go_values | go_skip | go_guarded | go_step | go_upon | go_back)
    replace b1 := text_put (k := .string ⟨(tx : Bs).toArray⟩) rfl n1 b1 b0
    obtain ⟨b1, b0, n1⟩ := b1
    replace b1 := num_put (k := .int .i64 (V)) rfl n1 b1 b0
    obtain ⟨b1, b0, n1⟩ := b1
    refine bodyPost_ret (results_rt rfl _ _ w.heap.size _ rfl (run_loadVar_row _ _ _ _ _ _ _ (set4_all _ _ _ _ b0) Try.underlying47 rfl (by kernel_rfl))) rfl ?_
    exact ⟨by simp [tkC, h32, Array.getD_eq_getD_getElem?] <;> omega, (((n1.setCell (Nat.le_refl _) _).setCell (Nat.le_refl _) _).setCell (Nat.le_refl _) _).setCell (Nat.le_refl _) _⟩
theorem rone_atom2 (A : Option Addr) (cap : Nat) (xs : Bs) (at_ : Nat) (hx : xs.length ≤ 9223372036854775800) (hc : xs.length ≤ cap) (ha : at_ < xs.length) (h1 : bI xs[at_] = 39) (hcap : at_ + 1 < cap) (w : World) (hS : SrcB w A xs) :
    Calls Try.prog 33 #[.slice A xs.length cap, .int .i64 at_] w fun e w' => e = .returned (.tuple #[.agg (tkC 3 at_ ((xs.drop (at_ + 1)).take (nmN (xs.drop (at_ + 1)) false)) 0), .int .i64 (if nameS ((xs.drop (at_ + 1)).take (nmN (xs.drop (at_ + 1)) false)) = true then ((nmN (xs.drop (at_ + 1)) false : Nat) : Int) + 1 else 0)]) ∧ Nb w w' := by
  have hS' := Lib.hid hS
  clear hS
  have hne := fun w1 (k : Nb w w1) => run_nam A cap xs (at_ + 1) (by omega) (by omega) w1 (hS'.out.nb k)
  have hK0 := nmN_le (xs.drop (at_ + 1)) false
  obtain ⟨tx, htx⟩ : ∃ tx, (xs.drop (at_ + 1)).take (nmN (xs.drop (at_ + 1)) false) = tx := ⟨_, rfl⟩
  rw [htx]
  obtain ⟨K, hK⟩ : ∃ K, nmN (xs.drop (at_ + 1)) false = K := ⟨_, rfl⟩
  rw [hK] at hne hK0 htx ⊢
  rw [List.length_drop] at hK0
  have htl : tx.length ≤ 9223372036854775807 := by rw [← htx, List.length_take, List.length_drop]; omega
  have hnm := Lib.hid (rname_any tx htl)
  have hne := Lib.hid hne
  have htx := Lib.hid htx
  clear hK
  go_enter Try.func33, Try.ntmps33
  go_upto_region 2 with (fail)
  obtain ⟨W1, hW⟩ : ∃ W1, (w.alloc (Obj.cells #[.int .i64 0, .int .i64 0, .string ⟨#[]⟩, .int .i64 0] 47)).alloc (Obj.cells #[.int .i64 0, .int .i64 at_, .string ⟨#[]⟩, .int .i64 0] 47) = W1 := ⟨_, rfl⟩
  obtain ⟨b0, b1, n1⟩ := two_made hW
  rw [hW]
  clear hW
  obtain ⟨ad, hA, hcell⟩ := (hS'.out.nb n1).cell at_ ha
  have hlt : (at_ : Int) < (xs.length : Int) := by omega
  subst hA
  rw [h1] at hcell
  obtain ⟨⟨c0, c1, c2, c3⟩, f0, f1, f2, f3⟩ := tk4 b1
  repeat (first | (with_reducible first | refine then_exit ?_ | refine in_same ?_ | refine then_ret ?_ | refine in_ret ?_) | ((with_reducible refine in_other ?_ ?_); decide) | go_values | go_skip | go_guarded | go_step | go_upon | go_back)
  refine (rletter_any _ _).mono ?_
  rintro e w1 ⟨rfl, rfl⟩
  rw [show ltrI 39 = false from rfl]
  dsimp only
  repeat (first | (with_reducible first | refine then_exit ?_ | refine in_same ?_ | refine then_ret ?_ | refine in_ret ?_) | ((with_reducible refine in_other ?_ ?_); decide) | go_values | go_skip | go_guarded | go_step | go_upon | go_back)
  refine (rdigit_any _ _).mono ?_
  rintro e w1 ⟨rfl, rfl⟩
  rw [show digI 39 = false from rfl]
  dsimp only
  repeat (first | (with_reducible first | refine then_exit ?_ | refine in_same ?_ | refine then_ret ?_ | refine in_ret ?_) | ((with_reducible refine in_other ?_ ?_); decide) | go_values | go_skip | go_guarded | go_step | go_upon | go_back)
  have hK1 : (at_ : Int) + 1 + (K : Int) ≤ (cap : Int) := by omega
  have hK2 : (at_ : Int) + 1 ≤ (at_ : Int) + 1 + (K : Int) := by omega
  have hK3 : ¬ cap = at_ + 1 := by omega
  refine (hne.out _ n1).mono ?_
  rintro e w1 ⟨rfl, rfl⟩
  dsimp only
  repeat (first | (with_reducible first | refine then_exit ?_ | refine in_same ?_ | refine then_ret ?_ | refine in_ret ?_) | ((with_reducible refine in_other ?_ ?_); decide) | go_values | go_skip | go_guarded | go_step | go_upon | go_back)
  clear c0 c1 c2 c3 f0 f1 f2 f3
  obtain ⟨W2, hW⟩ : ∃ W2, W1.setCell ⟨w.heap.size + 1, 0, none⟩ (.int .i64 3) = W2 := ⟨_, rfl⟩
  replace b1 := kind_put hW n1 b1 b0
  obtain ⟨b1, b0, n1⟩ := b1
  rw [hW]
  clear hW
  obtain ⟨⟨c0, c1, c2, c3⟩, f0, f1, f2, f3⟩ := tk4 b1
  repeat (first | (with_reducible first | refine then_exit ?_ | refine in_same ?_ | refine then_ret ?_ | refine in_ret ?_) | ((with_reducible refine in_other ?_ ?_); decide) | go_values | go_skip | go_guarded | go_step | go_upon | go_back)
  have hs := str_sub (n := K) (c := cap - (at_ + 1)) (lo := at_ + 1) (tx := tx) (hS'.out.nb n1) htx.out (by omega)
  rw [show ad.add (at_ + 1) = ⟨ad.block, ad.off + (at_ + 1), none⟩ by simp [Addr.add]] at hs
  obtain ⟨⟨e0, e1, e2, e3⟩, g0, g1, g2, g3⟩ := tk4 b0
  rw [hs]
  simp only [Result.andThen_ok]
  repeat (first | (with_reducible first | refine then_exit ?_ | refine in_same ?_ | refine then_ret ?_ | refine in_ret ?_) | ((with_reducible refine in_other ?_ ?_); decide) | go_values | go_skip | go_guarded | go_step | go_upon | go_back)
  replace b1 := text_put (k := .string ⟨(tx : Bs).toArray⟩) rfl n1 b1 b0
  obtain ⟨b1, b0, n1⟩ := b1
  refine (hnm.out _).mono ?_
  rintro e w5 ⟨rfl, n5⟩
  dsimp only
  replace b1 := n5.block b1
  replace b0 := n5.block b0
  replace n1 := n1.trans n5
  obtain ⟨⟨c0, c1, c2, c3⟩, f0, f1, f2, f3⟩ := tk4 b1
  obtain ⟨⟨e0, e1, e2, e3⟩, g0, g1, g2, g3⟩ := tk4 b0
  cases h32 : nameS tx with
  | true =>
    repeat (first | (with_reducible first | refine then_exit ?_ | refine in_same ?_ | refine then_ret ?_ | refine in_ret ?_) | ((with_reducible refine in_other ?_ ?_); decide) | go_values | go_skip | go_guarded | go_step | go_upon | go_back)
    refine bodyPost_ret (results_rt rfl _ _ w.heap.size _ rfl (run_loadVar_row _ _ _ _ _ _ _ (set4_all _ _ _ _ b0) Try.underlying47 rfl (by kernel_rfl))) rfl ?_
    exact ⟨by simp [tkC, h32, Array.getD_eq_getD_getElem?] <;> omega, (((n1.setCell (Nat.le_refl _) _).setCell (Nat.le_refl _) _).setCell (Nat.le_refl _) _).setCell (Nat.le_refl _) _⟩
  | false =>
    repeat (first | (with_reducible first | refine then_exit ?_ | refine in_same ?_ | refine then_ret ?_ | refine in_ret ?_) | ((with_reducible refine in_other ?_ ?_); decide) | go_values | go_skip | go_guarded | go_step | go_upon | go_back)
    refine bodyPost_ret (results_rt rfl _ _ w.heap.size _ rfl (run_loadVar_row _ _ _ _ _ _ _ (set4_all _ _ _ _ b0) Try.underlying47 rfl (by kernel_rfl))) rfl ?_
    exact ⟨by simp [tkC, h32, Array.getD_eq_getD_getElem?] <;> omega, (((n1.setCell (Nat.le_refl _) _).setCell (Nat.le_refl _) _).setCell (Nat.le_refl _) _).setCell (Nat.le_refl _) _⟩
theorem rone_atom1 (A : Option Addr) (cap : Nat) (xs : Bs) (at_ : Nat) (hx : xs.length ≤ 9223372036854775800) (hc : xs.length ≤ cap) (ha : at_ < xs.length) (h1 : bI xs[at_] = 39) (hcap : cap ≤ at_ + 1) (w : World) (hS : SrcB w A xs) :
    Calls Try.prog 33 #[.slice A xs.length cap, .int .i64 at_] w fun e w' => e = .returned (.tuple #[.agg (tkC 3 at_ ((xs.drop (at_ + 1)).take (nmN (xs.drop (at_ + 1)) false)) 0), .int .i64 (if nameS ((xs.drop (at_ + 1)).take (nmN (xs.drop (at_ + 1)) false)) = true then ((nmN (xs.drop (at_ + 1)) false : Nat) : Int) + 1 else 0)]) ∧ Nb w w' := by
  have hS' := Lib.hid hS
  clear hS
  have hne := fun w1 (k : Nb w w1) => run_nam A cap xs (at_ + 1) (by omega) (by omega) w1 (hS'.out.nb k)
  have hK0 := nmN_le (xs.drop (at_ + 1)) false
  obtain ⟨tx, htx⟩ : ∃ tx, (xs.drop (at_ + 1)).take (nmN (xs.drop (at_ + 1)) false) = tx := ⟨_, rfl⟩
  rw [htx]
  obtain ⟨K, hK⟩ : ∃ K, nmN (xs.drop (at_ + 1)) false = K := ⟨_, rfl⟩
  rw [hK] at hne hK0 htx ⊢
  rw [List.length_drop] at hK0
  have htl : tx.length ≤ 9223372036854775807 := by rw [← htx, List.length_take, List.length_drop]; omega
  have hnm := Lib.hid (rname_any tx htl)
  have hne := Lib.hid hne
  have htx := Lib.hid htx
  clear hK
  go_enter Try.func33, Try.ntmps33
  go_upto_region 2 with (fail)
  obtain ⟨W1, hW⟩ : ∃ W1, (w.alloc (Obj.cells #[.int .i64 0, .int .i64 0, .string ⟨#[]⟩, .int .i64 0] 47)).alloc (Obj.cells #[.int .i64 0, .int .i64 at_, .string ⟨#[]⟩, .int .i64 0] 47) = W1 := ⟨_, rfl⟩
  obtain ⟨b0, b1, n1⟩ := two_made hW
  rw [hW]
  clear hW
  obtain ⟨ad, hA, hcell⟩ := (hS'.out.nb n1).cell at_ ha
  have hlt : (at_ : Int) < (xs.length : Int) := by omega
  subst hA
  rw [h1] at hcell
  obtain ⟨⟨c0, c1, c2, c3⟩, f0, f1, f2, f3⟩ := tk4 b1
  repeat (first | (with_reducible first | refine then_exit ?_ | refine in_same ?_ | refine then_ret ?_ | refine in_ret ?_) | ((with_reducible refine in_other ?_ ?_); decide) | go_values | go_skip | go_guarded | go_step | go_upon | go_back)
  refine (rletter_any _ _).mono ?_
  rintro e w1 ⟨rfl, rfl⟩
  rw [show ltrI 39 = false from rfl]
  dsimp only
  repeat (first | (with_reducible first | refine then_exit ?_ | refine in_same ?_ | refine then_ret ?_ | refine in_ret ?_) | ((with_reducible refine in_other ?_ ?_); decide) | go_values | go_skip | go_guarded | go_step | go_upon | go_back)
  refine (rdigit_any _ _).mono ?_
  rintro e w1 ⟨rfl, rfl⟩
  rw [show digI 39 = false from rfl]
  dsimp only
  repeat (first | (with_reducible first | refine then_exit ?_ | refine in_same ?_ | refine then_ret ?_ | refine in_ret ?_) | ((with_reducible refine in_other ?_ ?_); decide) | go_values | go_skip | go_guarded | go_step | go_upon | go_back)
  have hca : cap = at_ + 1 := by omega
  have hK1 : K = 0 := by omega
  subst hca hK1
  refine (hne.out _ n1).mono ?_
  rintro e w1 ⟨rfl, rfl⟩
  dsimp only
  repeat (first | (with_reducible first | refine then_exit ?_ | refine in_same ?_ | refine then_ret ?_ | refine in_ret ?_) | ((with_reducible refine in_other ?_ ?_); decide) | go_values | go_skip | go_guarded | go_step | go_upon | go_back)
  clear c0 c1 c2 c3 f0 f1 f2 f3
  obtain ⟨W2, hW⟩ : ∃ W2, W1.setCell ⟨w.heap.size + 1, 0, none⟩ (.int .i64 3) = W2 := ⟨_, rfl⟩
  replace b1 := kind_put hW n1 b1 b0
  obtain ⟨b1, b0, n1⟩ := b1
  rw [hW]
  clear hW
  obtain ⟨⟨c0, c1, c2, c3⟩, f0, f1, f2, f3⟩ := tk4 b1
  repeat (first | (with_reducible first | refine then_exit ?_ | refine in_same ?_ | refine then_ret ?_ | refine in_ret ?_) | ((with_reducible refine in_other ?_ ?_); decide) | go_values | go_skip | go_guarded | go_step | go_upon | go_back)
  have hs : (convert 36 9 (.slice (some ad) 0 0)).run Try.prog W2 = .ok (.string ⟨tx.toArray⟩) W2 := by
    obtain rfl : [] = tx := htx.out
    exact run_convert_bytes_back W2 _ _ 5 ad 0 [] Try.underlying36 Try.underlying5 Try.underlying9 fun j hj => absurd hj (by simp)
  obtain ⟨⟨e0, e1, e2, e3⟩, g0, g1, g2, g3⟩ := tk4 b0
  rw [hs]
  simp only [Result.andThen_ok]
  repeat (first | (with_reducible first | refine then_exit ?_ | refine in_same ?_ | refine then_ret ?_ | refine in_ret ?_) | ((with_reducible refine in_other ?_ ?_); decide) | go_values | go_skip | go_guarded | go_step | go_upon | go_back)
  replace b1 := text_put (k := .string ⟨(tx : Bs).toArray⟩) rfl n1 b1 b0
  obtain ⟨b1, b0, n1⟩ := b1
  refine (hnm.out _).mono ?_
  rintro e w5 ⟨rfl, n5⟩
  dsimp only
  replace b1 := n5.block b1
  replace b0 := n5.block b0
  replace n1 := n1.trans n5
  obtain ⟨⟨c0, c1, c2, c3⟩, f0, f1, f2, f3⟩ := tk4 b1
  obtain ⟨⟨e0, e1, e2, e3⟩, g0, g1, g2, g3⟩ := tk4 b0
  cases h32 : nameS tx with
  | true =>
    repeat (first | (with_reducible first | refine then_exit ?_ | refine in_same ?_ | refine then_ret ?_ | refine in_ret ?_) | ((with_reducible refine in_other ?_ ?_); decide) | go_values | go_skip | go_guarded | go_step | go_upon | go_back)
    refine bodyPost_ret (results_rt rfl _ _ w.heap.size _ rfl (run_loadVar_row _ _ _ _ _ _ _ (set4_all _ _ _ _ b0) Try.underlying47 rfl (by kernel_rfl))) rfl ?_
    exact ⟨by simp [tkC, h32, Array.getD_eq_getD_getElem?] <;> omega, (((n1.setCell (Nat.le_refl _) _).setCell (Nat.le_refl _) _).setCell (Nat.le_refl _) _).setCell (Nat.le_refl _) _⟩
  | false =>
    repeat (first | (with_reducible first | refine then_exit ?_ | refine in_same ?_ | refine then_ret ?_ | refine in_ret ?_) | ((with_reducible refine in_other ?_ ?_); decide) | go_values | go_skip | go_guarded | go_step | go_upon | go_back)
    refine bodyPost_ret (results_rt rfl _ _ w.heap.size _ rfl (run_loadVar_row _ _ _ _ _ _ _ (set4_all _ _ _ _ b0) Try.underlying47 rfl (by kernel_rfl))) rfl ?_
    exact ⟨by simp [tkC, h32, Array.getD_eq_getD_getElem?] <;> omega, (((n1.setCell (Nat.le_refl _) _).setCell (Nat.le_refl _) _).setCell (Nat.le_refl _) _).setCell (Nat.le_refl _) _⟩
theorem rone_sign (A : Option Addr) (cap : Nat) (xs : Bs) (at_ : Nat) (hx : xs.length ≤ 9223372036854775800) (hc : xs.length ≤ cap) (ha : at_ < xs.length) (h0 : digI (bI xs[at_]) = false) (h1 : ltrI (bI xs[at_]) = false) (h2 : ¬ bI xs[at_] = 39) (w : World) (hS : SrcB w A xs) :
    Calls Try.prog 33 #[.slice A xs.length cap, .int .i64 at_] w fun e w' => e = .returned (.tuple #[.agg (tkC 4 at_ ((xs.drop at_).take (sgS (xs.drop at_))) 0), .int .i64 (sgS (xs.drop at_) : Nat)]) ∧ Nb w w' := by
  have hS' := Lib.hid hS
  clear hS
  have hne := fun w1 (k : Nb w w1) => sign_any A cap xs at_ hx ha w1 (hS'.out.nb k)
  have hK0 := sgS_le (xs.drop at_)
  obtain ⟨tx, htx⟩ : ∃ tx, (xs.drop at_).take (sgS (xs.drop at_)) = tx := ⟨_, rfl⟩
  rw [htx]
  obtain ⟨K, hK⟩ : ∃ K, sgS (xs.drop at_) = K := ⟨_, rfl⟩
  rw [hK] at hne hK0 htx ⊢
  rw [List.length_drop] at hK0
  have hne := Lib.hid hne
  have htx := Lib.hid htx
  have h0 := Lib.hid h0
  have h1 := Lib.hid h1
  clear hK
  go_enter Try.func33, Try.ntmps33
  go_upto_region 2 with (fail)
  obtain ⟨W1, hW⟩ : ∃ W1, (w.alloc (Obj.cells #[.int .i64 0, .int .i64 0, .string ⟨#[]⟩, .int .i64 0] 47)).alloc (Obj.cells #[.int .i64 0, .int .i64 at_, .string ⟨#[]⟩, .int .i64 0] 47) = W1 := ⟨_, rfl⟩
  obtain ⟨b0, b1, n1⟩ := two_made hW
  rw [hW]
  clear hW
  obtain ⟨ad, hA, hcell⟩ := (hS'.out.nb n1).cell at_ ha
  have hlt : (at_ : Int) < (xs.length : Int) := by omega
  subst hA
  obtain ⟨⟨c0, c1, c2, c3⟩, f0, f1, f2, f3⟩ := tk4 b1
  repeat (first | (with_reducible first | refine then_exit ?_ | refine in_same ?_ | refine then_ret ?_ | refine in_ret ?_) | ((with_reducible refine in_other ?_ ?_); decide) | go_values | go_skip | go_guarded | go_step | go_upon | go_back)
  refine (rletter_any _ _).mono ?_
  rintro e w1 ⟨rfl, rfl⟩
  rw [h1.out]
  dsimp only
  repeat (first | (with_reducible first | refine then_exit ?_ | refine in_same ?_ | refine then_ret ?_ | refine in_ret ?_) | ((with_reducible refine in_other ?_ ?_); decide) | go_values | go_skip | go_guarded | go_step | go_upon | go_back)
  refine (rdigit_any _ _).mono ?_
  rintro e w1 ⟨rfl, rfl⟩
  rw [h0.out]
  dsimp only
  repeat (first | (with_reducible first | refine then_exit ?_ | refine in_same ?_ | refine then_ret ?_ | refine in_ret ?_) | ((with_reducible refine in_other ?_ ?_); decide) | go_values | go_skip | go_guarded | go_step | go_upon | go_back)
  have hK1 : (at_ : Int) + (K : Int) ≤ (cap : Int) := by omega
  have hK3 : ¬ cap = at_ := by omega
  refine (hne.out _ n1).mono ?_
  rintro e w1 ⟨rfl, rfl⟩
  dsimp only
  repeat (first | (with_reducible first | refine then_exit ?_ | refine in_same ?_ | refine then_ret ?_ | refine in_ret ?_) | ((with_reducible refine in_other ?_ ?_); decide) | go_values | go_skip | go_guarded | go_step | go_upon | go_back)
  clear c0 c1 c2 c3 f0 f1 f2 f3
  obtain ⟨W2, hW⟩ : ∃ W2, W1.setCell ⟨w.heap.size + 1, 0, none⟩ (.int .i64 4) = W2 := ⟨_, rfl⟩
  replace b1 := kind_put hW n1 b1 b0
  obtain ⟨b1, b0, n1⟩ := b1
  rw [hW]
  clear hW
  obtain ⟨⟨c0, c1, c2, c3⟩, f0, f1, f2, f3⟩ := tk4 b1
  repeat (first | (with_reducible first | refine then_exit ?_ | refine in_same ?_ | refine then_ret ?_ | refine in_ret ?_) | ((with_reducible refine in_other ?_ ?_); decide) | go_values | go_skip | go_guarded | go_step | go_upon | go_back)
  have hs := str_sub (n := K) (c := cap - at_) (lo := at_) (tx := tx) (hS'.out.nb n1) htx.out (by omega)
  obtain ⟨⟨e0, e1, e2, e3⟩, g0, g1, g2, g3⟩ := tk4 b0
  rw [hs]
  simp only [Result.andThen_ok]
  repeat (first | (with_reducible first | refine then_exit ?_ | refine in_same ?_ | refine then_ret ?_ | refine in_ret ?_) | ((with_reducible refine in_other ?_ ?_); decide) | go_values | go_skip | go_guarded | go_step | go_upon | go_back)
  replace b1 := text_put (k := .string ⟨(tx : Bs).toArray⟩) rfl n1 b1 b0
  obtain ⟨b1, b0, n1⟩ := b1
  refine bodyPost_ret (results_rt rfl _ _ w.heap.size _ rfl (run_loadVar_row _ _ _ _ _ _ _ (set4_all _ _ _ _ b0) Try.underlying47 rfl (by kernel_rfl))) rfl ?_
  exact ⟨by simp [tkC, Array.getD_eq_getD_getElem?] <;> omega, (((n1.setCell (Nat.le_refl _) _).setCell (Nat.le_refl _) _).setCell (Nat.le_refl _) _).setCell (Nat.le_refl _) _⟩
end Go.Proofs.Yticifolljhplmaa
