/-
  Proved here: small functions of code: low, lui, more, register, and the closure of a constant. Conditions: numbers are words.
-/
import Derived.Test.YtnooabgdcfegeaaDoorSad
import Derived.Test.YtnooabgdcfegeaaDoorSal
import Derived.Deep.RegionHeld3
import Derived.Laws.ResultCell
import Derived.Laws.Rows
import Derived.Deep.Cut
import Derived.Lib.QuietBelow
import Derived.Lib.Hide
namespace Go.Proofs.YtnooabgdcfegeaaDoor
open Go.RowKit
set_option linter.unusedVariables false
set_option linter.unusedSimpArgs false
set_option maxRecDepth 100000
set_option maxHeartbeats 4000000
theorem low_any (v : Int) (h0 : 0 ≤ v) (h1 : v < 18446744073709551616) (w : World) : Calls Tryd.prog 53 #[.int .u64 v] w fun e w' => e = .returned (.int .u64 (Sgn v 12)) ∧ w' = w := by
  have H := Lib.hid (sign_any v 12 h0 h1)
  go_enter Tryd.func53, Tryd.ntmps53
  go_wp2_with (go_at_call 75; refine (H.out _).mono ?_; rintro r w' ⟨rfl, rfl⟩)
  go_ret
  exact ⟨rfl, rfl⟩
theorem register_any (r l : Int) (w : World) : Calls Tryd.prog 24 #[.int .i64 r, .int .i64 l] w fun e w' => e = .returned (.bool (decide (l ≤ r ∧ r ≤ 31))) ∧ w' = w := by
  by_cases h1 : l ≤ r
  · by_cases h2 : r ≤ 31
    · have H : decide (l ≤ r ∧ r ≤ 31) = true := decide_eq_true ⟨h1, h2⟩
      rw [H]
      clear H
      have q1 : decide (l ≤ r) = true := decide_eq_true h1
      have q2 : decide (r ≤ 31) = true := decide_eq_true h2
      go_enter Tryd.func24, Tryd.ntmps24
      go_wp2_with fail
      go_ret
      exact ⟨rfl, rfl⟩
    · have H : decide (l ≤ r ∧ r ≤ 31) = false := decide_eq_false (by omega)
      rw [H]
      clear H
      have q1 : decide (l ≤ r) = true := decide_eq_true h1
      have q2 : decide (r ≤ 31) = false := decide_eq_false h2
      go_enter Tryd.func24, Tryd.ntmps24
      go_wp2_with fail
      go_ret
      exact ⟨rfl, rfl⟩
  · have H : decide (l ≤ r ∧ r ≤ 31) = false := decide_eq_false (by omega)
    rw [H]
    clear H
    have q1 : decide (l ≤ r) = false := decide_eq_false h1
    go_enter Tryd.func24, Tryd.ntmps24
    go_wp2_with fail
    go_ret
    exact ⟨rfl, rfl⟩
theorem lt_bkc {w : World} {g : Nat} {o : Obj} (h : w.heap[g]? = some o) : g < w.heap.size := (Array.getElem?_eq_some_iff.1 h).1
theorem new_bkc (w : World) (o : Obj) {n : Nat} (hn : w.heap.size = n) : (w.alloc o).heap[n]? = some o := by subst hn; exact heap_alloc_new w o
theorem frozen_bkc {w : World} {g : Nat} {cs : Array Value} {t : TypeId} (h : w.heap[g]? = some (.cells cs t (0, 0))) (k : Nat) : w.frozen? ⟨g, k, none⟩ = false := by simp [World.frozen?, h]
theorem set_bkc {w : World} {g : Nat} {cs : Array Value} {t : TypeId} (h : w.heap[g]? = some (.cells cs t (0, 0))) (k : Nat) (v : Value) : (w.setCell ⟨g, k, none⟩ v).heap[g]? = some (.cells (cs.setIfInBounds k v) t (0, 0)) := by
  simp [World.setCell, Array.getElem?_modify, h]
theorem set7_all {w : World} {S : Nat} {t : TypeId} {a0 a1 a2 a3 a4 a5 a6 x0 x1 x2 x3 x4 x5 x6 : Value} (h : w.heap[S]? = some (.cells #[a0, a1, a2, a3, a4, a5, a6] t (0, 0))) :
    (((((((w.setCell ⟨S, 0, none⟩ x0).setCell ⟨S, 1, none⟩ x1).setCell ⟨S, 2, none⟩ x2).setCell ⟨S, 3, none⟩ x3).setCell ⟨S, 4, none⟩ x4).setCell ⟨S, 5, none⟩ x5).setCell ⟨S, 6, none⟩ x6).heap[S]? = some (.cells #[x0, x1, x2, x3, x4, x5, x6] t (0, 0)) := by
  have h0 := set_bkc h 0 x0
  have h1 := set_bkc h0 1 x1
  have h2 := set_bkc h1 2 x2
  have h3 := set_bkc h2 3 x3
  have h4 := set_bkc h3 4 x4
  have h5 := set_bkc h4 5 x5
  have h6 := set_bkc h5 6 x6
  simpa using h6
theorem nb7 {u w : World} {S : Nat} {x0 x1 x2 x3 x4 x5 x6 : Value} (h : Nb u w) (hS : u.heap.size ≤ S) :
    Nb u (((((((w.setCell ⟨S, 0, none⟩ x0).setCell ⟨S, 1, none⟩ x1).setCell ⟨S, 2, none⟩ x2).setCell ⟨S, 3, none⟩ x3).setCell ⟨S, 4, none⟩ x4).setCell ⟨S, 5, none⟩ x5).setCell ⟨S, 6, none⟩ x6) := by
  have s : ∀ {b : World} (h : Nb u b) (k : Nat) (x : Value), Nb u (b.setCell ⟨S, k, none⟩ x) := fun h k x => Below.setCell h hS x
  exact s (s (s (s (s (s (s h 0 _) 1 _) 2 _) 3 _) 4 _) 5 _) 6 _
theorem lui_any (rd v : Int) (h0 : 0 ≤ v) (h1 : v < 18446744073709551616) (w : World) : Calls Tryd.prog 52 #[.int .i64 rd, .int .u64 v] w fun e w' => e = .returned (.agg (i7C (luiI rd v)).toArray) ∧ Nb w w' := by
  have H := Lib.hid (low_any v h0 h1)
  have u := up_in v
  have H2 := Lib.hid (sign_any (upI v) 32 u.1 u.2)
  clear u
  show Calls Tryd.prog 52 _ w fun e w' => e = .returned (.agg #[.int .i64 1, .int .i64 rd, .int .i64 0, .int .i64 0, .int .i64 (wrap64 (Sgn (upI v) 32)), .bool false, .bool false]) ∧ Nb w w'
  go_enter Tryd.func52, Tryd.ntmps52
  go_upto_region 1 with (fail)
  obtain ⟨W1, hW1⟩ : ∃ W1, w.alloc (.cells #[.int .i64 0, .int .i64 0, .int .i64 0, .int .i64 0, .int .i64 0, .bool false, .bool false] 37) = W1 := ⟨_, rfl⟩
  have n1 : Nb w W1 := by rw [← hW1]; exact Below.alloc (Below.refl _ _) (Nat.le_refl _) _
  have b1 : W1.heap[w.heap.size]? = some (.cells #[.int .i64 0, .int .i64 0, .int .i64 0, .int .i64 0, .int .i64 0, .bool false, .bool false] 37 (0, 0)) := by rw [← hW1]; exact new_bkc _ _ rfl
  rw [hW1]
  clear hW1
  have c0 := cell_of_row _ _ 0 _ _ _ b1
  have f0 := frozen_bkc b1 0
  have c1 := cell_of_row _ _ 1 _ _ _ b1
  have f1 := frozen_bkc b1 1
  have c2 := cell_of_row _ _ 2 _ _ _ b1
  have f2 := frozen_bkc b1 2
  have c3 := cell_of_row _ _ 3 _ _ _ b1
  have f3 := frozen_bkc b1 3
  have c4 := cell_of_row _ _ 4 _ _ _ b1
  have f4 := frozen_bkc b1 4
  have c5 := cell_of_row _ _ 5 _ _ _ b1
  have f5 := frozen_bkc b1 5
  have c6 := cell_of_row _ _ 6 _ _ _ b1
  have f6 := frozen_bkc b1 6
  have b1h := Lib.hid b1
  clear b1
  go_wp2_with (first | (go_at_call 53; refine (H.out _).mono ?_; rintro r w' ⟨rfl, rfl⟩) | (go_at_call 75; refine (H2.out _).mono ?_; rintro r w' ⟨rfl, rfl⟩))
  refine bodyPost_ret (results_cell_row rfl _ _ w.heap.size 37 _ (0, 0) _ rfl (set7_all b1h.out) Tryd.underlying37 rfl (by kernel_rfl)) rfl ?_
  exact ⟨rfl, nb7 n1 (Nat.le_refl _)⟩
theorem more_any (op rd v : Int) (h0 : 0 ≤ v) (h1 : v < 18446744073709551616) (w : World) : Calls Tryd.prog 54 #[.int .i64 op, .int .i64 rd, .int .u64 v] w fun e w' => e = .returned (.agg (i7C (morI op rd v)).toArray) ∧ Nb w w' := by
  have H := Lib.hid (low_any v h0 h1)
  show Calls Tryd.prog 54 _ w fun e w' => e = .returned (.agg #[.int .i64 op, .int .i64 rd, .int .i64 rd, .int .i64 0, .int .i64 (wrap64 (Sgn v 12)), .bool false, .bool false]) ∧ Nb w w'
  go_enter Tryd.func54, Tryd.ntmps54
  go_upto_region 1 with (fail)
  obtain ⟨W1, hW1⟩ : ∃ W1, w.alloc (.cells #[.int .i64 0, .int .i64 0, .int .i64 0, .int .i64 0, .int .i64 0, .bool false, .bool false] 37) = W1 := ⟨_, rfl⟩
  have n1 : Nb w W1 := by rw [← hW1]; exact Below.alloc (Below.refl _ _) (Nat.le_refl _) _
  have b1 : W1.heap[w.heap.size]? = some (.cells #[.int .i64 0, .int .i64 0, .int .i64 0, .int .i64 0, .int .i64 0, .bool false, .bool false] 37 (0, 0)) := by rw [← hW1]; exact new_bkc _ _ rfl
  rw [hW1]
  clear hW1
  have c0 := cell_of_row _ _ 0 _ _ _ b1
  have f0 := frozen_bkc b1 0
  have c1 := cell_of_row _ _ 1 _ _ _ b1
  have f1 := frozen_bkc b1 1
  have c2 := cell_of_row _ _ 2 _ _ _ b1
  have f2 := frozen_bkc b1 2
  have c3 := cell_of_row _ _ 3 _ _ _ b1
  have f3 := frozen_bkc b1 3
  have c4 := cell_of_row _ _ 4 _ _ _ b1
  have f4 := frozen_bkc b1 4
  have c5 := cell_of_row _ _ 5 _ _ _ b1
  have f5 := frozen_bkc b1 5
  have c6 := cell_of_row _ _ 6 _ _ _ b1
  have f6 := frozen_bkc b1 6
  have b1h := Lib.hid b1
  clear b1
  go_wp2_with (first | (go_at_call 53; refine (H.out _).mono ?_; rintro r w' ⟨rfl, rfl⟩))
  refine bodyPost_ret (results_cell_row rfl _ _ w.heap.size 37 _ (0, 0) _ rfl (set7_all b1h.out) Tryd.underlying37 rfl (by kernel_rfl)) rfl ?_
  exact ⟨rfl, nb7 n1 (Nat.le_refl _)⟩
theorem constant_any (rd v : Int) (w : World) : Calls Tryd.prog 26 #[.int .i64 rd, .int .u64 v] w fun e w' => e = .returned (.func (.func 51) #[] #[.pointer (some ⟨w.heap.size + 1, 0, none⟩), .pointer (some ⟨w.heap.size, 0, none⟩)]) ∧ w' = (w.alloc (.cells #[.int .i64 rd] 3)).alloc (.cells #[.int .u64 v] 23) := by
  have hmf : ∀ (fn : Fn) (first cap : Array Value) (w : World), (Instr.makeFunc fn first cap).run Tryd.prog w = .ok (.func fn first cap) w := fun _ _ _ _ => rfl
  go_enter Tryd.func26, Tryd.ntmps26
  go_wp2_with fail
  go_ret
  exact ⟨rfl, rfl⟩
end Go.Proofs.YtnooabgdcfegeaaDoor
