/-
  Proved here: which function the code's table of operations hands out. Conditions: the numbers are words.
-/
import Derived.Test.YtmggichckhoomaaGreatDoorQat
namespace Go.Proofs.YtmggichckhoomaaGreatDoor
open Go.RowKit
set_option linter.unusedVariables false
theorem then_exit {K : Act → World → Prop} {Q : Exit → Act → World → Prop} {k : Nat} {a : Act} {w : World} (h : Q (.exit k) a w) : Exit.then K Q (.exit k) a w := h
theorem in_same {Q : Exit → Act → World → Prop} {k : Nat} {a : Act} {w : World} (h : Q .normal a w) : Exit.inBlock k Q (.exit k) a w := by
  simp only [Exit.inBlock, if_true]; exact h
theorem in_other {Q : Exit → Act → World → Prop} {i k : Nat} {a : Act} {w : World} (hk : (k == i) = false) (h : Q (.exit k) a w) : Exit.inBlock i Q (.exit k) a w := by
  have : ¬ k = i := by simpa using hk
  simp only [Exit.inBlock, this, if_false]; exact h
theorem then_ret {K : Act → World → Prop} {Q : Exit → Act → World → Prop} {a : Act} {w : World} (h : Q .ret a w) : Exit.then K Q .ret a w := h
theorem in_ret {Q : Exit → Act → World → Prop} {i : Nat} {a : Act} {w : World} (h : Q .ret a w) : Exit.inBlock i Q .ret a w := h
theorem marks3 {w : World} {n : Nat} {t : TypeId} {cs : Array Value} (h : w.heap[n]? = some (.cells cs t (0, 0))) :
    w.frozen? ⟨n, 0, .none⟩ = false ∧ w.frozen? ⟨n, 1, .none⟩ = false ∧ w.frozen? ⟨n, 2, .none⟩ = false :=
  ⟨(marks4 h).1, (marks4 h).2.1, (marks4 h).2.2.1⟩
theorem set3 {w : World} {n : Nat} {t : TypeId} {a b c x y z : Value} (h : w.heap[n]? = some (.cells #[a, b, c] t (0, 0))) :
    (((w.setCell ⟨n, 0, none⟩ x).setCell ⟨n, 1, none⟩ y).setCell ⟨n, 2, none⟩ z).heap[n]? = some (.cells #[x, y, z] t (0, 0)) := by
  have h1 := heap_setCell_same w n 0 _ _ x h
  have h2 := heap_setCell_same _ n 1 _ _ y h1
  have h3 := heap_setCell_same _ n 2 _ _ z h2
  simpa using h3
theorem Nb.setCell {a b : World} (h : Nb a b) {p : Addr} (hp : a.heap.size ≤ p.block) (u : Value) : Nb a (b.setCell p u) := Below.setCell h hp u
set_option maxRecDepth 100000 in
set_option maxHeartbeats 1000000 in
theorem base_45 (a b : Int) (h0 : 0 ≤ a) (h1 : a < 18446744073709551616) (g0 : 0 ≤ b) (g1 : b < 18446744073709551616) (w : World) : Calls Tryz.prog 123 #[.int .i64 45, pairV a b 64] w fun e w' => e = .returned (.tuple #[.func (Fn.func 130) #[pairV (Sgn a 32) (Sgn b 32) 32] #[], .int .i64 32]) ∧ Nb w w' := by
  have hs := Lib.hid (signed_any a b 64 h0 h1 g0 g1)
  clear h0 h1 g0 g1
  unfold pairV at hs ⊢
  have hmf : ∀ (fn : Fn) (first cap : Array Value) (w : World), (Instr.makeFunc fn first cap).run Tryz.prog w = .ok (.func fn first cap) w := fun _ _ _ _ => rfl
  go_enter Tryz.func123, Tryz.ntmps123
  repeat (first | (with_reducible refine then_exit ?_) | (with_reducible refine in_same ?_) | ((with_reducible refine in_other ?_ ?_); decide) | (with_reducible refine then_ret ?_) | (with_reducible refine in_ret ?_) | go_values | go_skip | go_guarded | go_step | go_upon | go_back)
  obtain ⟨W1, hW⟩ : ∃ W1, w.alloc (.cells #[.int .u64 a, .int .u64 b, .int .i64 64] 131) = W1 := ⟨_, rfl⟩
  have hb := blk_made w _ hW rfl
  have h2 : Nb w W1 := by rw [← hW]; exact (Nb.refl _).alloc _
  rw [hW]
  clear hW
  refine (hs.out _).mono ?_
  rintro e w1 ⟨rfl, hn⟩
  have hb1 := Nb.block hn hb
  obtain ⟨n1, c0, c1, c2⟩ := cells3 hb1
  obtain ⟨f0, f1, f2⟩ := marks3 hb1
  clear hb hs
  go_wp2_with  fail
  obtain ⟨W3, hW⟩ : ∃ W3, ((w1.setCell ⟨w.heap.size, 0, none⟩ (.int .u64 (Sgn a 32))).setCell ⟨w.heap.size, 1, none⟩ (.int .u64 (Sgn b 32))).setCell ⟨w.heap.size, 2, none⟩ (.int .i64 32) = W3 := ⟨_, rfl⟩
  have hb3 : W3.heap[w.heap.size]? = some (.cells #[.int .u64 (Sgn a 32), .int .u64 (Sgn b 32), .int .i64 32] 131 (0, 0)) := by rw [← hW]; exact set3 hb1
  have h4 : Nb w W3 := by rw [← hW]; exact (((h2.trans hn).setCell (Nat.le_refl _) _).setCell (Nat.le_refl _) _).setCell (Nat.le_refl _) _
  rw [hW]
  clear hW c0 c1 c2 f0 f1 f2 n1 hb1 hn h2
  obtain ⟨n1, c0, c1, c2⟩ := cells3 hb3
  clear hb3
  repeat (first | (with_reducible refine then_exit ?_) | (with_reducible refine in_same ?_) | ((with_reducible refine in_other ?_ ?_); decide) | (with_reducible refine then_ret ?_) | (with_reducible refine in_ret ?_) | go_values | go_skip | go_guarded | go_step | go_upon | go_back)
  go_quiet (fail)
  repeat (first | (with_reducible refine then_exit ?_) | (with_reducible refine in_same ?_) | ((with_reducible refine in_other ?_ ?_); decide) | (with_reducible refine then_ret ?_) | (with_reducible refine in_ret ?_) | go_values | go_skip | go_guarded | go_step | go_upon | go_back)
  go_ret2
  exact ⟨rfl, h4.drewN _⟩
set_option maxRecDepth 100000 in
set_option maxHeartbeats 1000000 in
theorem base_41 (a b : Int) (h0 : 0 ≤ a) (h1 : a < 18446744073709551616) (g0 : 0 ≤ b) (g1 : b < 18446744073709551616) (w : World) : Calls Tryz.prog 123 #[.int .i64 41, pairV a b 64] w fun e w' => e = .returned (.tuple #[.func (Fn.func 130) #[pairV (Sgn a 32) (Sgn b 32) 32] #[], .int .i64 32]) ∧ Nb w w' := by
  have hs := Lib.hid (signed_any a b 64 h0 h1 g0 g1)
  clear h0 h1 g0 g1
  unfold pairV at hs ⊢
  have hmf : ∀ (fn : Fn) (first cap : Array Value) (w : World), (Instr.makeFunc fn first cap).run Tryz.prog w = .ok (.func fn first cap) w := fun _ _ _ _ => rfl
  go_enter Tryz.func123, Tryz.ntmps123
  repeat (first | (with_reducible refine then_exit ?_) | (with_reducible refine in_same ?_) | ((with_reducible refine in_other ?_ ?_); decide) | (with_reducible refine then_ret ?_) | (with_reducible refine in_ret ?_) | go_values | go_skip | go_guarded | go_step | go_upon | go_back)
  obtain ⟨W1, hW⟩ : ∃ W1, w.alloc (.cells #[.int .u64 a, .int .u64 b, .int .i64 64] 131) = W1 := ⟨_, rfl⟩
  have hb := blk_made w _ hW rfl
  have h2 : Nb w W1 := by rw [← hW]; exact (Nb.refl _).alloc _
  rw [hW]
  clear hW
  refine (hs.out _).mono ?_
  rintro e w1 ⟨rfl, hn⟩
  have hb1 := Nb.block hn hb
  obtain ⟨n1, c0, c1, c2⟩ := cells3 hb1
  obtain ⟨f0, f1, f2⟩ := marks3 hb1
  clear hb hs
  go_wp2_with  fail
  obtain ⟨W3, hW⟩ : ∃ W3, ((w1.setCell ⟨w.heap.size, 0, none⟩ (.int .u64 (Sgn a 32))).setCell ⟨w.heap.size, 1, none⟩ (.int .u64 (Sgn b 32))).setCell ⟨w.heap.size, 2, none⟩ (.int .i64 32) = W3 := ⟨_, rfl⟩
  have hb3 : W3.heap[w.heap.size]? = some (.cells #[.int .u64 (Sgn a 32), .int .u64 (Sgn b 32), .int .i64 32] 131 (0, 0)) := by rw [← hW]; exact set3 hb1
  have h4 : Nb w W3 := by rw [← hW]; exact (((h2.trans hn).setCell (Nat.le_refl _) _).setCell (Nat.le_refl _) _).setCell (Nat.le_refl _) _
  rw [hW]
  clear hW c0 c1 c2 f0 f1 f2 n1 hb1 hn h2
  obtain ⟨n1, c0, c1, c2⟩ := cells3 hb3
  clear hb3
  repeat (first | (with_reducible refine then_exit ?_) | (with_reducible refine in_same ?_) | ((with_reducible refine in_other ?_ ?_); decide) | (with_reducible refine then_ret ?_) | (with_reducible refine in_ret ?_) | go_values | go_skip | go_guarded | go_step | go_upon | go_back)
  go_quiet (fail)
  repeat (first | (with_reducible refine then_exit ?_) | (with_reducible refine in_same ?_) | ((with_reducible refine in_other ?_ ?_); decide) | (with_reducible refine then_ret ?_) | (with_reducible refine in_ret ?_) | go_values | go_skip | go_guarded | go_step | go_upon | go_back)
  go_ret2
  exact ⟨rfl, h4.drewN _⟩
set_option maxRecDepth 100000 in
set_option maxHeartbeats 1000000 in
theorem base_31 (a b : Int) (h0 : 0 ≤ a) (h1 : a < 18446744073709551616) (g0 : 0 ≤ b) (g1 : b < 18446744073709551616) (w : World) : Calls Tryz.prog 123 #[.int .i64 31, pairV a b 64] w fun e w' => e = .returned (.tuple #[.func (Fn.func 130) #[pairV a b 64] #[], .int .i64 64]) ∧ Nb w w' := by
  clear h0 h1 g0 g1
  unfold pairV
  have hmf : ∀ (fn : Fn) (first cap : Array Value) (w : World), (Instr.makeFunc fn first cap).run Tryz.prog w = .ok (.func fn first cap) w := fun _ _ _ _ => rfl
  go_enter Tryz.func123, Tryz.ntmps123
  repeat (first | (with_reducible refine then_exit ?_) | (with_reducible refine in_same ?_) | ((with_reducible refine in_other ?_ ?_); decide) | (with_reducible refine then_ret ?_) | (with_reducible refine in_ret ?_) | go_values | go_skip | go_guarded | go_step | go_upon | go_back)
  obtain ⟨W1, hW⟩ : ∃ W1, w.alloc (.cells #[.int .u64 a, .int .u64 b, .int .i64 64] 131) = W1 := ⟨_, rfl⟩
  have hb := blk_made w _ hW rfl
  have h2 : Nb w W1 := by rw [← hW]; exact (Nb.refl _).alloc _
  rw [hW]
  clear hW
  obtain ⟨n1, c0, c1, c2⟩ := cells3 hb
  clear hb
  repeat (first | (with_reducible refine then_exit ?_) | (with_reducible refine in_same ?_) | ((with_reducible refine in_other ?_ ?_); decide) | (with_reducible refine then_ret ?_) | (with_reducible refine in_ret ?_) | go_values | go_skip | go_guarded | go_step | go_upon | go_back)
  go_quiet (fail)
  repeat (first | (with_reducible refine then_exit ?_) | (with_reducible refine in_same ?_) | ((with_reducible refine in_other ?_ ?_); decide) | (with_reducible refine then_ret ?_) | (with_reducible refine in_ret ?_) | go_values | go_skip | go_guarded | go_step | go_upon | go_back)
  go_ret2
  exact ⟨rfl, h2.drewN _⟩
set_option maxRecDepth 100000 in
set_option maxHeartbeats 1000000 in
theorem base_22 (a b : Int) (h0 : 0 ≤ a) (h1 : a < 18446744073709551616) (g0 : 0 ≤ b) (g1 : b < 18446744073709551616) (w : World) : Calls Tryz.prog 123 #[.int .i64 22, pairV a b 64] w fun e w' => e = .returned (.tuple #[.func (Fn.func 130) #[pairV a b 64] #[], .int .i64 64]) ∧ Nb w w' := by
  clear h0 h1 g0 g1
  unfold pairV
  have hmf : ∀ (fn : Fn) (first cap : Array Value) (w : World), (Instr.makeFunc fn first cap).run Tryz.prog w = .ok (.func fn first cap) w := fun _ _ _ _ => rfl
  go_enter Tryz.func123, Tryz.ntmps123
  repeat (first | (with_reducible refine then_exit ?_) | (with_reducible refine in_same ?_) | ((with_reducible refine in_other ?_ ?_); decide) | (with_reducible refine then_ret ?_) | (with_reducible refine in_ret ?_) | go_values | go_skip | go_guarded | go_step | go_upon | go_back)
  obtain ⟨W1, hW⟩ : ∃ W1, w.alloc (.cells #[.int .u64 a, .int .u64 b, .int .i64 64] 131) = W1 := ⟨_, rfl⟩
  have hb := blk_made w _ hW rfl
  have h2 : Nb w W1 := by rw [← hW]; exact (Nb.refl _).alloc _
  rw [hW]
  clear hW
  obtain ⟨n1, c0, c1, c2⟩ := cells3 hb
  clear hb
  repeat (first | (with_reducible refine then_exit ?_) | (with_reducible refine in_same ?_) | ((with_reducible refine in_other ?_ ?_); decide) | (with_reducible refine then_ret ?_) | (with_reducible refine in_ret ?_) | go_values | go_skip | go_guarded | go_step | go_upon | go_back)
  go_quiet (fail)
  repeat (first | (with_reducible refine then_exit ?_) | (with_reducible refine in_same ?_) | ((with_reducible refine in_other ?_ ?_); decide) | (with_reducible refine then_ret ?_) | (with_reducible refine in_ret ?_) | go_values | go_skip | go_guarded | go_step | go_upon | go_back)
  go_ret2
  exact ⟨rfl, h2.drewN _⟩
set_option maxRecDepth 100000 in
set_option maxHeartbeats 1000000 in
theorem base_46 (a b : Int) (h0 : 0 ≤ a) (h1 : a < 18446744073709551616) (g0 : 0 ≤ b) (g1 : b < 18446744073709551616) (w : World) : Calls Tryz.prog 123 #[.int .i64 46, pairV a b 64] w fun e w' => e = .returned (.tuple #[.func (Fn.func 131) #[pairV (Sgn a 32) (Sgn b 32) 32] #[], .int .i64 32]) ∧ Nb w w' := by
  have hs := Lib.hid (signed_any a b 64 h0 h1 g0 g1)
  clear h0 h1 g0 g1
  unfold pairV at hs ⊢
  have hmf : ∀ (fn : Fn) (first cap : Array Value) (w : World), (Instr.makeFunc fn first cap).run Tryz.prog w = .ok (.func fn first cap) w := fun _ _ _ _ => rfl
  go_enter Tryz.func123, Tryz.ntmps123
  repeat (first | (with_reducible refine then_exit ?_) | (with_reducible refine in_same ?_) | ((with_reducible refine in_other ?_ ?_); decide) | (with_reducible refine then_ret ?_) | (with_reducible refine in_ret ?_) | go_values | go_skip | go_guarded | go_step | go_upon | go_back)
  obtain ⟨W1, hW⟩ : ∃ W1, w.alloc (.cells #[.int .u64 a, .int .u64 b, .int .i64 64] 131) = W1 := ⟨_, rfl⟩
  have hb := blk_made w _ hW rfl
  have h2 : Nb w W1 := by rw [← hW]; exact (Nb.refl _).alloc _
  rw [hW]
  clear hW
  refine (hs.out _).mono ?_
  rintro e w1 ⟨rfl, hn⟩
  have hb1 := Nb.block hn hb
  obtain ⟨n1, c0, c1, c2⟩ := cells3 hb1
  obtain ⟨f0, f1, f2⟩ := marks3 hb1
  clear hb hs
  go_wp2_with  fail
  obtain ⟨W3, hW⟩ : ∃ W3, ((w1.setCell ⟨w.heap.size, 0, none⟩ (.int .u64 (Sgn a 32))).setCell ⟨w.heap.size, 1, none⟩ (.int .u64 (Sgn b 32))).setCell ⟨w.heap.size, 2, none⟩ (.int .i64 32) = W3 := ⟨_, rfl⟩
  have hb3 : W3.heap[w.heap.size]? = some (.cells #[.int .u64 (Sgn a 32), .int .u64 (Sgn b 32), .int .i64 32] 131 (0, 0)) := by rw [← hW]; exact set3 hb1
  have h4 : Nb w W3 := by rw [← hW]; exact (((h2.trans hn).setCell (Nat.le_refl _) _).setCell (Nat.le_refl _) _).setCell (Nat.le_refl _) _
  rw [hW]
  clear hW c0 c1 c2 f0 f1 f2 n1 hb1 hn h2
  obtain ⟨n1, c0, c1, c2⟩ := cells3 hb3
  clear hb3
  repeat (first | (with_reducible refine then_exit ?_) | (with_reducible refine in_same ?_) | ((with_reducible refine in_other ?_ ?_); decide) | (with_reducible refine then_ret ?_) | (with_reducible refine in_ret ?_) | go_values | go_skip | go_guarded | go_step | go_upon | go_back)
  go_quiet (fail)
  repeat (first | (with_reducible refine then_exit ?_) | (with_reducible refine in_same ?_) | ((with_reducible refine in_other ?_ ?_); decide) | (with_reducible refine then_ret ?_) | (with_reducible refine in_ret ?_) | go_values | go_skip | go_guarded | go_step | go_upon | go_back)
  go_ret2
  exact ⟨rfl, h4.drewN _⟩
set_option maxRecDepth 100000 in
set_option maxHeartbeats 1000000 in
theorem base_32 (a b : Int) (h0 : 0 ≤ a) (h1 : a < 18446744073709551616) (g0 : 0 ≤ b) (g1 : b < 18446744073709551616) (w : World) : Calls Tryz.prog 123 #[.int .i64 32, pairV a b 64] w fun e w' => e = .returned (.tuple #[.func (Fn.func 131) #[pairV a b 64] #[], .int .i64 64]) ∧ Nb w w' := by
  clear h0 h1 g0 g1
  unfold pairV
  have hmf : ∀ (fn : Fn) (first cap : Array Value) (w : World), (Instr.makeFunc fn first cap).run Tryz.prog w = .ok (.func fn first cap) w := fun _ _ _ _ => rfl
  go_enter Tryz.func123, Tryz.ntmps123
  repeat (first | (with_reducible refine then_exit ?_) | (with_reducible refine in_same ?_) | ((with_reducible refine in_other ?_ ?_); decide) | (with_reducible refine then_ret ?_) | (with_reducible refine in_ret ?_) | go_values | go_skip | go_guarded | go_step | go_upon | go_back)
  obtain ⟨W1, hW⟩ : ∃ W1, w.alloc (.cells #[.int .u64 a, .int .u64 b, .int .i64 64] 131) = W1 := ⟨_, rfl⟩
  have hb := blk_made w _ hW rfl
  have h2 : Nb w W1 := by rw [← hW]; exact (Nb.refl _).alloc _
  rw [hW]
  clear hW
  obtain ⟨n1, c0, c1, c2⟩ := cells3 hb
  clear hb
  repeat (first | (with_reducible refine then_exit ?_) | (with_reducible refine in_same ?_) | ((with_reducible refine in_other ?_ ?_); decide) | (with_reducible refine then_ret ?_) | (with_reducible refine in_ret ?_) | go_values | go_skip | go_guarded | go_step | go_upon | go_back)
  go_quiet (fail)
  repeat (first | (with_reducible refine then_exit ?_) | (with_reducible refine in_same ?_) | ((with_reducible refine in_other ?_ ?_); decide) | (with_reducible refine then_ret ?_) | (with_reducible refine in_ret ?_) | go_values | go_skip | go_guarded | go_step | go_upon | go_back)
  go_ret2
  exact ⟨rfl, h2.drewN _⟩
set_option maxRecDepth 100000 in
set_option maxHeartbeats 1000000 in
theorem base_47 (a b : Int) (h0 : 0 ≤ a) (h1 : a < 18446744073709551616) (g0 : 0 ≤ b) (g1 : b < 18446744073709551616) (w : World) : Calls Tryz.prog 123 #[.int .i64 47, pairV a b 64] w fun e w' => e = .returned (.tuple #[.func (Fn.func 133) #[] #[.pointer (some ⟨w.heap.size, 0, none⟩)], .int .i64 32]) ∧ Nb w w' ∧ w'.heap[w.heap.size]? = some (.cells #[.int .u64 (Fld a 0 32), .int .u64 (Fld b 0 32), .int .i64 32] 131 (0, 0)) := by
  have hs := Lib.hid (words_any a b 64 h0 h1 g0 g1)
  clear h0 h1 g0 g1
  unfold pairV at hs ⊢
  have hmf : ∀ (fn : Fn) (first cap : Array Value) (w : World), (Instr.makeFunc fn first cap).run Tryz.prog w = .ok (.func fn first cap) w := fun _ _ _ _ => rfl
  go_enter Tryz.func123, Tryz.ntmps123
  repeat (first | (with_reducible refine then_exit ?_) | (with_reducible refine in_same ?_) | ((with_reducible refine in_other ?_ ?_); decide) | (with_reducible refine then_ret ?_) | (with_reducible refine in_ret ?_) | go_values | go_skip | go_guarded | go_step | go_upon | go_back)
  obtain ⟨W1, hW⟩ : ∃ W1, w.alloc (.cells #[.int .u64 a, .int .u64 b, .int .i64 64] 131) = W1 := ⟨_, rfl⟩
  have hb := blk_made w _ hW rfl
  have h2 : Nb w W1 := by rw [← hW]; exact (Nb.refl _).alloc _
  rw [hW]
  clear hW
  refine (hs.out _).mono ?_
  rintro e w1 ⟨rfl, hn⟩
  have hb1 := Nb.block hn hb
  obtain ⟨n1, c0, c1, c2⟩ := cells3 hb1
  obtain ⟨f0, f1, f2⟩ := marks3 hb1
  clear hb hs
  go_wp2_with  fail
  obtain ⟨W3, hW⟩ : ∃ W3, ((w1.setCell ⟨w.heap.size, 0, none⟩ (.int .u64 (Fld a 0 32))).setCell ⟨w.heap.size, 1, none⟩ (.int .u64 (Fld b 0 32))).setCell ⟨w.heap.size, 2, none⟩ (.int .i64 32) = W3 := ⟨_, rfl⟩
  have hb3 : W3.heap[w.heap.size]? = some (.cells #[.int .u64 (Fld a 0 32), .int .u64 (Fld b 0 32), .int .i64 32] 131 (0, 0)) := by rw [← hW]; exact set3 hb1
  have h4 : Nb w W3 := by rw [← hW]; exact (((h2.trans hn).setCell (Nat.le_refl _) _).setCell (Nat.le_refl _) _).setCell (Nat.le_refl _) _
  rw [hW]
  clear hW c0 c1 c2 f0 f1 f2 n1 hb1 hn h2
  obtain ⟨n1, c0, c1, c2⟩ := cells3 hb3
  have HB := Lib.hid hb3
  clear hb3
  repeat (first | (with_reducible refine then_exit ?_) | (with_reducible refine in_same ?_) | ((with_reducible refine in_other ?_ ?_); decide) | (with_reducible refine then_ret ?_) | (with_reducible refine in_ret ?_) | go_values | go_skip | go_guarded | go_step | go_upon | go_back)
  go_quiet (fail)
  repeat (first | (with_reducible refine then_exit ?_) | (with_reducible refine in_same ?_) | ((with_reducible refine in_other ?_ ?_); decide) | (with_reducible refine then_ret ?_) | (with_reducible refine in_ret ?_) | go_values | go_skip | go_guarded | go_step | go_upon | go_back)
  go_ret2
  exact ⟨rfl, h4.drewN _, HB.out⟩
set_option maxRecDepth 100000 in
set_option maxHeartbeats 1000000 in
theorem base_42 (a b : Int) (h0 : 0 ≤ a) (h1 : a < 18446744073709551616) (g0 : 0 ≤ b) (g1 : b < 18446744073709551616) (w : World) : Calls Tryz.prog 123 #[.int .i64 42, pairV a b 64] w fun e w' => e = .returned (.tuple #[.func (Fn.func 133) #[] #[.pointer (some ⟨w.heap.size, 0, none⟩)], .int .i64 32]) ∧ Nb w w' ∧ w'.heap[w.heap.size]? = some (.cells #[.int .u64 (Fld a 0 32), .int .u64 (Fld b 0 32), .int .i64 32] 131 (0, 0)) := by
  have hs := Lib.hid (words_any a b 64 h0 h1 g0 g1)
  clear h0 h1 g0 g1
  unfold pairV at hs ⊢
  have hmf : ∀ (fn : Fn) (first cap : Array Value) (w : World), (Instr.makeFunc fn first cap).run Tryz.prog w = .ok (.func fn first cap) w := fun _ _ _ _ => rfl
  go_enter Tryz.func123, Tryz.ntmps123
  repeat (first | (with_reducible refine then_exit ?_) | (with_reducible refine in_same ?_) | ((with_reducible refine in_other ?_ ?_); decide) | (with_reducible refine then_ret ?_) | (with_reducible refine in_ret ?_) | go_values | go_skip | go_guarded | go_step | go_upon | go_back)
  obtain ⟨W1, hW⟩ : ∃ W1, w.alloc (.cells #[.int .u64 a, .int .u64 b, .int .i64 64] 131) = W1 := ⟨_, rfl⟩
  have hb := blk_made w _ hW rfl
  have h2 : Nb w W1 := by rw [← hW]; exact (Nb.refl _).alloc _
  rw [hW]
  clear hW
  refine (hs.out _).mono ?_
  rintro e w1 ⟨rfl, hn⟩
  have hb1 := Nb.block hn hb
  obtain ⟨n1, c0, c1, c2⟩ := cells3 hb1
  obtain ⟨f0, f1, f2⟩ := marks3 hb1
  clear hb hs
  go_wp2_with  fail
  obtain ⟨W3, hW⟩ : ∃ W3, ((w1.setCell ⟨w.heap.size, 0, none⟩ (.int .u64 (Fld a 0 32))).setCell ⟨w.heap.size, 1, none⟩ (.int .u64 (Fld b 0 32))).setCell ⟨w.heap.size, 2, none⟩ (.int .i64 32) = W3 := ⟨_, rfl⟩
  have hb3 : W3.heap[w.heap.size]? = some (.cells #[.int .u64 (Fld a 0 32), .int .u64 (Fld b 0 32), .int .i64 32] 131 (0, 0)) := by rw [← hW]; exact set3 hb1
  have h4 : Nb w W3 := by rw [← hW]; exact (((h2.trans hn).setCell (Nat.le_refl _) _).setCell (Nat.le_refl _) _).setCell (Nat.le_refl _) _
  rw [hW]
  clear hW c0 c1 c2 f0 f1 f2 n1 hb1 hn h2
  obtain ⟨n1, c0, c1, c2⟩ := cells3 hb3
  have HB := Lib.hid hb3
  clear hb3
  repeat (first | (with_reducible refine then_exit ?_) | (with_reducible refine in_same ?_) | ((with_reducible refine in_other ?_ ?_); decide) | (with_reducible refine then_ret ?_) | (with_reducible refine in_ret ?_) | go_values | go_skip | go_guarded | go_step | go_upon | go_back)
  go_quiet (fail)
  repeat (first | (with_reducible refine then_exit ?_) | (with_reducible refine in_same ?_) | ((with_reducible refine in_other ?_ ?_); decide) | (with_reducible refine then_ret ?_) | (with_reducible refine in_ret ?_) | go_values | go_skip | go_guarded | go_step | go_upon | go_back)
  go_ret2
  exact ⟨rfl, h4.drewN _, HB.out⟩
set_option maxRecDepth 100000 in
set_option maxHeartbeats 1000000 in
theorem base_33 (a b : Int) (h0 : 0 ≤ a) (h1 : a < 18446744073709551616) (g0 : 0 ≤ b) (g1 : b < 18446744073709551616) (w : World) : Calls Tryz.prog 123 #[.int .i64 33, pairV a b 64] w fun e w' => e = .returned (.tuple #[.func (Fn.func 133) #[] #[.pointer (some ⟨w.heap.size, 0, none⟩)], .int .i64 64]) ∧ Nb w w' ∧ w'.heap[w.heap.size]? = some (.cells #[.int .u64 a, .int .u64 b, .int .i64 64] 131 (0, 0)) := by
  clear h0 h1 g0 g1
  unfold pairV
  have hmf : ∀ (fn : Fn) (first cap : Array Value) (w : World), (Instr.makeFunc fn first cap).run Tryz.prog w = .ok (.func fn first cap) w := fun _ _ _ _ => rfl
  go_enter Tryz.func123, Tryz.ntmps123
  repeat (first | (with_reducible refine then_exit ?_) | (with_reducible refine in_same ?_) | ((with_reducible refine in_other ?_ ?_); decide) | (with_reducible refine then_ret ?_) | (with_reducible refine in_ret ?_) | go_values | go_skip | go_guarded | go_step | go_upon | go_back)
  obtain ⟨W1, hW⟩ : ∃ W1, w.alloc (.cells #[.int .u64 a, .int .u64 b, .int .i64 64] 131) = W1 := ⟨_, rfl⟩
  have hb := blk_made w _ hW rfl
  have h2 : Nb w W1 := by rw [← hW]; exact (Nb.refl _).alloc _
  rw [hW]
  clear hW
  obtain ⟨n1, c0, c1, c2⟩ := cells3 hb
  have HB := Lib.hid hb
  clear hb
  repeat (first | (with_reducible refine then_exit ?_) | (with_reducible refine in_same ?_) | ((with_reducible refine in_other ?_ ?_); decide) | (with_reducible refine then_ret ?_) | (with_reducible refine in_ret ?_) | go_values | go_skip | go_guarded | go_step | go_upon | go_back)
  go_quiet (fail)
  repeat (first | (with_reducible refine then_exit ?_) | (with_reducible refine in_same ?_) | ((with_reducible refine in_other ?_ ?_); decide) | (with_reducible refine then_ret ?_) | (with_reducible refine in_ret ?_) | go_values | go_skip | go_guarded | go_step | go_upon | go_back)
  go_ret2
  exact ⟨rfl, h2.drewN _, HB.out⟩
set_option maxRecDepth 100000 in
set_option maxHeartbeats 1000000 in
theorem base_28 (a b : Int) (h0 : 0 ≤ a) (h1 : a < 18446744073709551616) (g0 : 0 ≤ b) (g1 : b < 18446744073709551616) (w : World) : Calls Tryz.prog 123 #[.int .i64 28, pairV a b 64] w fun e w' => e = .returned (.tuple #[.func (Fn.func 133) #[] #[.pointer (some ⟨w.heap.size, 0, none⟩)], .int .i64 64]) ∧ Nb w w' ∧ w'.heap[w.heap.size]? = some (.cells #[.int .u64 a, .int .u64 b, .int .i64 64] 131 (0, 0)) := by
  clear h0 h1 g0 g1
  unfold pairV
  have hmf : ∀ (fn : Fn) (first cap : Array Value) (w : World), (Instr.makeFunc fn first cap).run Tryz.prog w = .ok (.func fn first cap) w := fun _ _ _ _ => rfl
  go_enter Tryz.func123, Tryz.ntmps123
  repeat (first | (with_reducible refine then_exit ?_) | (with_reducible refine in_same ?_) | ((with_reducible refine in_other ?_ ?_); decide) | (with_reducible refine then_ret ?_) | (with_reducible refine in_ret ?_) | go_values | go_skip | go_guarded | go_step | go_upon | go_back)
  obtain ⟨W1, hW⟩ : ∃ W1, w.alloc (.cells #[.int .u64 a, .int .u64 b, .int .i64 64] 131) = W1 := ⟨_, rfl⟩
  have hb := blk_made w _ hW rfl
  have h2 : Nb w W1 := by rw [← hW]; exact (Nb.refl _).alloc _
  rw [hW]
  clear hW
  obtain ⟨n1, c0, c1, c2⟩ := cells3 hb
  have HB := Lib.hid hb
  clear hb
  repeat (first | (with_reducible refine then_exit ?_) | (with_reducible refine in_same ?_) | ((with_reducible refine in_other ?_ ?_); decide) | (with_reducible refine then_ret ?_) | (with_reducible refine in_ret ?_) | go_values | go_skip | go_guarded | go_step | go_upon | go_back)
  go_quiet (fail)
  repeat (first | (with_reducible refine then_exit ?_) | (with_reducible refine in_same ?_) | ((with_reducible refine in_other ?_ ?_); decide) | (with_reducible refine then_ret ?_) | (with_reducible refine in_ret ?_) | go_values | go_skip | go_guarded | go_step | go_upon | go_back)
  go_ret2
  exact ⟨rfl, h2.drewN _, HB.out⟩
set_option maxRecDepth 100000 in
set_option maxHeartbeats 1000000 in
theorem base_48 (a b : Int) (h0 : 0 ≤ a) (h1 : a < 18446744073709551616) (g0 : 0 ≤ b) (g1 : b < 18446744073709551616) (w : World) : Calls Tryz.prog 123 #[.int .i64 48, pairV a b 64] w fun e w' => e = .returned (.tuple #[.func (Fn.func 135) #[] #[.pointer (some ⟨w.heap.size, 0, none⟩)], .int .i64 32]) ∧ Nb w w' ∧ w'.heap[w.heap.size]? = some (.cells #[.int .u64 (Fld a 0 32), .int .u64 (Fld b 0 32), .int .i64 32] 131 (0, 0)) := by
  have hs := Lib.hid (words_any a b 64 h0 h1 g0 g1)
  clear h0 h1 g0 g1
  unfold pairV at hs ⊢
  have hmf : ∀ (fn : Fn) (first cap : Array Value) (w : World), (Instr.makeFunc fn first cap).run Tryz.prog w = .ok (.func fn first cap) w := fun _ _ _ _ => rfl
  go_enter Tryz.func123, Tryz.ntmps123
  repeat (first | (with_reducible refine then_exit ?_) | (with_reducible refine in_same ?_) | ((with_reducible refine in_other ?_ ?_); decide) | (with_reducible refine then_ret ?_) | (with_reducible refine in_ret ?_) | go_values | go_skip | go_guarded | go_step | go_upon | go_back)
  obtain ⟨W1, hW⟩ : ∃ W1, w.alloc (.cells #[.int .u64 a, .int .u64 b, .int .i64 64] 131) = W1 := ⟨_, rfl⟩
  have hb := blk_made w _ hW rfl
  have h2 : Nb w W1 := by rw [← hW]; exact (Nb.refl _).alloc _
  rw [hW]
  clear hW
  refine (hs.out _).mono ?_
  rintro e w1 ⟨rfl, hn⟩
  have hb1 := Nb.block hn hb
  obtain ⟨n1, c0, c1, c2⟩ := cells3 hb1
  obtain ⟨f0, f1, f2⟩ := marks3 hb1
  clear hb hs
  go_wp2_with  fail
  obtain ⟨W3, hW⟩ : ∃ W3, ((w1.setCell ⟨w.heap.size, 0, none⟩ (.int .u64 (Fld a 0 32))).setCell ⟨w.heap.size, 1, none⟩ (.int .u64 (Fld b 0 32))).setCell ⟨w.heap.size, 2, none⟩ (.int .i64 32) = W3 := ⟨_, rfl⟩
  have hb3 : W3.heap[w.heap.size]? = some (.cells #[.int .u64 (Fld a 0 32), .int .u64 (Fld b 0 32), .int .i64 32] 131 (0, 0)) := by rw [← hW]; exact set3 hb1
  have h4 : Nb w W3 := by rw [← hW]; exact (((h2.trans hn).setCell (Nat.le_refl _) _).setCell (Nat.le_refl _) _).setCell (Nat.le_refl _) _
  rw [hW]
  clear hW c0 c1 c2 f0 f1 f2 n1 hb1 hn h2
  obtain ⟨n1, c0, c1, c2⟩ := cells3 hb3
  have HB := Lib.hid hb3
  clear hb3
  repeat (first | (with_reducible refine then_exit ?_) | (with_reducible refine in_same ?_) | ((with_reducible refine in_other ?_ ?_); decide) | (with_reducible refine then_ret ?_) | (with_reducible refine in_ret ?_) | go_values | go_skip | go_guarded | go_step | go_upon | go_back)
  go_quiet (fail)
  repeat (first | (with_reducible refine then_exit ?_) | (with_reducible refine in_same ?_) | ((with_reducible refine in_other ?_ ?_); decide) | (with_reducible refine then_ret ?_) | (with_reducible refine in_ret ?_) | go_values | go_skip | go_guarded | go_step | go_upon | go_back)
  go_ret2
  exact ⟨rfl, h4.drewN _, HB.out⟩
set_option maxRecDepth 100000 in
set_option maxHeartbeats 1000000 in
theorem base_43 (a b : Int) (h0 : 0 ≤ a) (h1 : a < 18446744073709551616) (g0 : 0 ≤ b) (g1 : b < 18446744073709551616) (w : World) : Calls Tryz.prog 123 #[.int .i64 43, pairV a b 64] w fun e w' => e = .returned (.tuple #[.func (Fn.func 135) #[] #[.pointer (some ⟨w.heap.size, 0, none⟩)], .int .i64 32]) ∧ Nb w w' ∧ w'.heap[w.heap.size]? = some (.cells #[.int .u64 (Fld a 0 32), .int .u64 (Fld b 0 32), .int .i64 32] 131 (0, 0)) := by
  have hs := Lib.hid (words_any a b 64 h0 h1 g0 g1)
  clear h0 h1 g0 g1
  unfold pairV at hs ⊢
  have hmf : ∀ (fn : Fn) (first cap : Array Value) (w : World), (Instr.makeFunc fn first cap).run Tryz.prog w = .ok (.func fn first cap) w := fun _ _ _ _ => rfl
  go_enter Tryz.func123, Tryz.ntmps123
  repeat (first | (with_reducible refine then_exit ?_) | (with_reducible refine in_same ?_) | ((with_reducible refine in_other ?_ ?_); decide) | (with_reducible refine then_ret ?_) | (with_reducible refine in_ret ?_) | go_values | go_skip | go_guarded | go_step | go_upon | go_back)
  obtain ⟨W1, hW⟩ : ∃ W1, w.alloc (.cells #[.int .u64 a, .int .u64 b, .int .i64 64] 131) = W1 := ⟨_, rfl⟩
  have hb := blk_made w _ hW rfl
  have h2 : Nb w W1 := by rw [← hW]; exact (Nb.refl _).alloc _
  rw [hW]
  clear hW
  refine (hs.out _).mono ?_
  rintro e w1 ⟨rfl, hn⟩
  have hb1 := Nb.block hn hb
  obtain ⟨n1, c0, c1, c2⟩ := cells3 hb1
  obtain ⟨f0, f1, f2⟩ := marks3 hb1
  clear hb hs
  go_wp2_with  fail
  obtain ⟨W3, hW⟩ : ∃ W3, ((w1.setCell ⟨w.heap.size, 0, none⟩ (.int .u64 (Fld a 0 32))).setCell ⟨w.heap.size, 1, none⟩ (.int .u64 (Fld b 0 32))).setCell ⟨w.heap.size, 2, none⟩ (.int .i64 32) = W3 := ⟨_, rfl⟩
  have hb3 : W3.heap[w.heap.size]? = some (.cells #[.int .u64 (Fld a 0 32), .int .u64 (Fld b 0 32), .int .i64 32] 131 (0, 0)) := by rw [← hW]; exact set3 hb1
  have h4 : Nb w W3 := by rw [← hW]; exact (((h2.trans hn).setCell (Nat.le_refl _) _).setCell (Nat.le_refl _) _).setCell (Nat.le_refl _) _
  rw [hW]
  clear hW c0 c1 c2 f0 f1 f2 n1 hb1 hn h2
  obtain ⟨n1, c0, c1, c2⟩ := cells3 hb3
  have HB := Lib.hid hb3
  clear hb3
  repeat (first | (with_reducible refine then_exit ?_) | (with_reducible refine in_same ?_) | ((with_reducible refine in_other ?_ ?_); decide) | (with_reducible refine then_ret ?_) | (with_reducible refine in_ret ?_) | go_values | go_skip | go_guarded | go_step | go_upon | go_back)
  go_quiet (fail)
  repeat (first | (with_reducible refine then_exit ?_) | (with_reducible refine in_same ?_) | ((with_reducible refine in_other ?_ ?_); decide) | (with_reducible refine then_ret ?_) | (with_reducible refine in_ret ?_) | go_values | go_skip | go_guarded | go_step | go_upon | go_back)
  go_ret2
  exact ⟨rfl, h4.drewN _, HB.out⟩
set_option maxRecDepth 100000 in
set_option maxHeartbeats 1000000 in
theorem base_37 (a b : Int) (h0 : 0 ≤ a) (h1 : a < 18446744073709551616) (g0 : 0 ≤ b) (g1 : b < 18446744073709551616) (w : World) : Calls Tryz.prog 123 #[.int .i64 37, pairV a b 64] w fun e w' => e = .returned (.tuple #[.func (Fn.func 135) #[] #[.pointer (some ⟨w.heap.size, 0, none⟩)], .int .i64 64]) ∧ Nb w w' ∧ w'.heap[w.heap.size]? = some (.cells #[.int .u64 a, .int .u64 b, .int .i64 64] 131 (0, 0)) := by
  clear h0 h1 g0 g1
  unfold pairV
  have hmf : ∀ (fn : Fn) (first cap : Array Value) (w : World), (Instr.makeFunc fn first cap).run Tryz.prog w = .ok (.func fn first cap) w := fun _ _ _ _ => rfl
  go_enter Tryz.func123, Tryz.ntmps123
  repeat (first | (with_reducible refine then_exit ?_) | (with_reducible refine in_same ?_) | ((with_reducible refine in_other ?_ ?_); decide) | (with_reducible refine then_ret ?_) | (with_reducible refine in_ret ?_) | go_values | go_skip | go_guarded | go_step | go_upon | go_back)
  obtain ⟨W1, hW⟩ : ∃ W1, w.alloc (.cells #[.int .u64 a, .int .u64 b, .int .i64 64] 131) = W1 := ⟨_, rfl⟩
  have hb := blk_made w _ hW rfl
  have h2 : Nb w W1 := by rw [← hW]; exact (Nb.refl _).alloc _
  rw [hW]
  clear hW
  obtain ⟨n1, c0, c1, c2⟩ := cells3 hb
  have HB := Lib.hid hb
  clear hb
  repeat (first | (with_reducible refine then_exit ?_) | (with_reducible refine in_same ?_) | ((with_reducible refine in_other ?_ ?_); decide) | (with_reducible refine then_ret ?_) | (with_reducible refine in_ret ?_) | go_values | go_skip | go_guarded | go_step | go_upon | go_back)
  go_quiet (fail)
  repeat (first | (with_reducible refine then_exit ?_) | (with_reducible refine in_same ?_) | ((with_reducible refine in_other ?_ ?_); decide) | (with_reducible refine then_ret ?_) | (with_reducible refine in_ret ?_) | go_values | go_skip | go_guarded | go_step | go_upon | go_back)
  go_ret2
  exact ⟨rfl, h2.drewN _, HB.out⟩
set_option maxRecDepth 100000 in
set_option maxHeartbeats 1000000 in
theorem base_29 (a b : Int) (h0 : 0 ≤ a) (h1 : a < 18446744073709551616) (g0 : 0 ≤ b) (g1 : b < 18446744073709551616) (w : World) : Calls Tryz.prog 123 #[.int .i64 29, pairV a b 64] w fun e w' => e = .returned (.tuple #[.func (Fn.func 135) #[] #[.pointer (some ⟨w.heap.size, 0, none⟩)], .int .i64 64]) ∧ Nb w w' ∧ w'.heap[w.heap.size]? = some (.cells #[.int .u64 a, .int .u64 b, .int .i64 64] 131 (0, 0)) := by
  clear h0 h1 g0 g1
  unfold pairV
  have hmf : ∀ (fn : Fn) (first cap : Array Value) (w : World), (Instr.makeFunc fn first cap).run Tryz.prog w = .ok (.func fn first cap) w := fun _ _ _ _ => rfl
  go_enter Tryz.func123, Tryz.ntmps123
  repeat (first | (with_reducible refine then_exit ?_) | (with_reducible refine in_same ?_) | ((with_reducible refine in_other ?_ ?_); decide) | (with_reducible refine then_ret ?_) | (with_reducible refine in_ret ?_) | go_values | go_skip | go_guarded | go_step | go_upon | go_back)
  obtain ⟨W1, hW⟩ : ∃ W1, w.alloc (.cells #[.int .u64 a, .int .u64 b, .int .i64 64] 131) = W1 := ⟨_, rfl⟩
  have hb := blk_made w _ hW rfl
  have h2 : Nb w W1 := by rw [← hW]; exact (Nb.refl _).alloc _
  rw [hW]
  clear hW
  obtain ⟨n1, c0, c1, c2⟩ := cells3 hb
  have HB := Lib.hid hb
  clear hb
  repeat (first | (with_reducible refine then_exit ?_) | (with_reducible refine in_same ?_) | ((with_reducible refine in_other ?_ ?_); decide) | (with_reducible refine then_ret ?_) | (with_reducible refine in_ret ?_) | go_values | go_skip | go_guarded | go_step | go_upon | go_back)
  go_quiet (fail)
  repeat (first | (with_reducible refine then_exit ?_) | (with_reducible refine in_same ?_) | ((with_reducible refine in_other ?_ ?_); decide) | (with_reducible refine then_ret ?_) | (with_reducible refine in_ret ?_) | go_values | go_skip | go_guarded | go_step | go_upon | go_back)
  go_ret2
  exact ⟨rfl, h2.drewN _, HB.out⟩
set_option maxRecDepth 100000 in
set_option maxHeartbeats 1000000 in
theorem base_49 (a b : Int) (h0 : 0 ≤ a) (h1 : a < 18446744073709551616) (g0 : 0 ≤ b) (g1 : b < 18446744073709551616) (w : World) : Calls Tryz.prog 123 #[.int .i64 49, pairV a b 64] w fun e w' => e = .returned (.tuple #[.func (Fn.func 136) #[] #[.pointer (some ⟨w.heap.size, 0, none⟩)], .int .i64 32]) ∧ Nb w w' ∧ w'.heap[w.heap.size]? = some (.cells #[.int .u64 (Sgn a 32), .int .u64 (Sgn b 32), .int .i64 32] 131 (0, 0)) := by
  have hs := Lib.hid (signed_any a b 64 h0 h1 g0 g1)
  clear h0 h1 g0 g1
  unfold pairV at hs ⊢
  have hmf : ∀ (fn : Fn) (first cap : Array Value) (w : World), (Instr.makeFunc fn first cap).run Tryz.prog w = .ok (.func fn first cap) w := fun _ _ _ _ => rfl
  go_enter Tryz.func123, Tryz.ntmps123
  repeat (first | (with_reducible refine then_exit ?_) | (with_reducible refine in_same ?_) | ((with_reducible refine in_other ?_ ?_); decide) | (with_reducible refine then_ret ?_) | (with_reducible refine in_ret ?_) | go_values | go_skip | go_guarded | go_step | go_upon | go_back)
  obtain ⟨W1, hW⟩ : ∃ W1, w.alloc (.cells #[.int .u64 a, .int .u64 b, .int .i64 64] 131) = W1 := ⟨_, rfl⟩
  have hb := blk_made w _ hW rfl
  have h2 : Nb w W1 := by rw [← hW]; exact (Nb.refl _).alloc _
  rw [hW]
  clear hW
  refine (hs.out _).mono ?_
  rintro e w1 ⟨rfl, hn⟩
  have hb1 := Nb.block hn hb
  obtain ⟨n1, c0, c1, c2⟩ := cells3 hb1
  obtain ⟨f0, f1, f2⟩ := marks3 hb1
  clear hb hs
  go_wp2_with  fail
  obtain ⟨W3, hW⟩ : ∃ W3, ((w1.setCell ⟨w.heap.size, 0, none⟩ (.int .u64 (Sgn a 32))).setCell ⟨w.heap.size, 1, none⟩ (.int .u64 (Sgn b 32))).setCell ⟨w.heap.size, 2, none⟩ (.int .i64 32) = W3 := ⟨_, rfl⟩
  have hb3 : W3.heap[w.heap.size]? = some (.cells #[.int .u64 (Sgn a 32), .int .u64 (Sgn b 32), .int .i64 32] 131 (0, 0)) := by rw [← hW]; exact set3 hb1
  have h4 : Nb w W3 := by rw [← hW]; exact (((h2.trans hn).setCell (Nat.le_refl _) _).setCell (Nat.le_refl _) _).setCell (Nat.le_refl _) _
  rw [hW]
  clear hW c0 c1 c2 f0 f1 f2 n1 hb1 hn h2
  obtain ⟨n1, c0, c1, c2⟩ := cells3 hb3
  have HB := Lib.hid hb3
  clear hb3
  repeat (first | (with_reducible refine then_exit ?_) | (with_reducible refine in_same ?_) | ((with_reducible refine in_other ?_ ?_); decide) | (with_reducible refine then_ret ?_) | (with_reducible refine in_ret ?_) | go_values | go_skip | go_guarded | go_step | go_upon | go_back)
  go_quiet (fail)
  repeat (first | (with_reducible refine then_exit ?_) | (with_reducible refine in_same ?_) | ((with_reducible refine in_other ?_ ?_); decide) | (with_reducible refine then_ret ?_) | (with_reducible refine in_ret ?_) | go_values | go_skip | go_guarded | go_step | go_upon | go_back)
  go_ret2
  exact ⟨rfl, h4.drewN _, HB.out⟩
set_option maxRecDepth 100000 in
set_option maxHeartbeats 1000000 in
theorem base_44 (a b : Int) (h0 : 0 ≤ a) (h1 : a < 18446744073709551616) (g0 : 0 ≤ b) (g1 : b < 18446744073709551616) (w : World) : Calls Tryz.prog 123 #[.int .i64 44, pairV a b 64] w fun e w' => e = .returned (.tuple #[.func (Fn.func 136) #[] #[.pointer (some ⟨w.heap.size, 0, none⟩)], .int .i64 32]) ∧ Nb w w' ∧ w'.heap[w.heap.size]? = some (.cells #[.int .u64 (Sgn a 32), .int .u64 (Sgn b 32), .int .i64 32] 131 (0, 0)) := by
  have hs := Lib.hid (signed_any a b 64 h0 h1 g0 g1)
  clear h0 h1 g0 g1
  unfold pairV at hs ⊢
  have hmf : ∀ (fn : Fn) (first cap : Array Value) (w : World), (Instr.makeFunc fn first cap).run Tryz.prog w = .ok (.func fn first cap) w := fun _ _ _ _ => rfl
  go_enter Tryz.func123, Tryz.ntmps123
  repeat (first | (with_reducible refine then_exit ?_) | (with_reducible refine in_same ?_) | ((with_reducible refine in_other ?_ ?_); decide) | (with_reducible refine then_ret ?_) | (with_reducible refine in_ret ?_) | go_values | go_skip | go_guarded | go_step | go_upon | go_back)
  obtain ⟨W1, hW⟩ : ∃ W1, w.alloc (.cells #[.int .u64 a, .int .u64 b, .int .i64 64] 131) = W1 := ⟨_, rfl⟩
  have hb := blk_made w _ hW rfl
  have h2 : Nb w W1 := by rw [← hW]; exact (Nb.refl _).alloc _
  rw [hW]
  clear hW
  refine (hs.out _).mono ?_
  rintro e w1 ⟨rfl, hn⟩
  have hb1 := Nb.block hn hb
  obtain ⟨n1, c0, c1, c2⟩ := cells3 hb1
  obtain ⟨f0, f1, f2⟩ := marks3 hb1
  clear hb hs
  go_wp2_with  fail
  obtain ⟨W3, hW⟩ : ∃ W3, ((w1.setCell ⟨w.heap.size, 0, none⟩ (.int .u64 (Sgn a 32))).setCell ⟨w.heap.size, 1, none⟩ (.int .u64 (Sgn b 32))).setCell ⟨w.heap.size, 2, none⟩ (.int .i64 32) = W3 := ⟨_, rfl⟩
  have hb3 : W3.heap[w.heap.size]? = some (.cells #[.int .u64 (Sgn a 32), .int .u64 (Sgn b 32), .int .i64 32] 131 (0, 0)) := by rw [← hW]; exact set3 hb1
  have h4 : Nb w W3 := by rw [← hW]; exact (((h2.trans hn).setCell (Nat.le_refl _) _).setCell (Nat.le_refl _) _).setCell (Nat.le_refl _) _
  rw [hW]
  clear hW c0 c1 c2 f0 f1 f2 n1 hb1 hn h2
  obtain ⟨n1, c0, c1, c2⟩ := cells3 hb3
  have HB := Lib.hid hb3
  clear hb3
  repeat (first | (with_reducible refine then_exit ?_) | (with_reducible refine in_same ?_) | ((with_reducible refine in_other ?_ ?_); decide) | (with_reducible refine then_ret ?_) | (with_reducible refine in_ret ?_) | go_values | go_skip | go_guarded | go_step | go_upon | go_back)
  go_quiet (fail)
  repeat (first | (with_reducible refine then_exit ?_) | (with_reducible refine in_same ?_) | ((with_reducible refine in_other ?_ ?_); decide) | (with_reducible refine then_ret ?_) | (with_reducible refine in_ret ?_) | go_values | go_skip | go_guarded | go_step | go_upon | go_back)
  go_ret2
  exact ⟨rfl, h4.drewN _, HB.out⟩
set_option maxRecDepth 100000 in
set_option maxHeartbeats 1000000 in
theorem base_38 (a b : Int) (h0 : 0 ≤ a) (h1 : a < 18446744073709551616) (g0 : 0 ≤ b) (g1 : b < 18446744073709551616) (w : World) : Calls Tryz.prog 123 #[.int .i64 38, pairV a b 64] w fun e w' => e = .returned (.tuple #[.func (Fn.func 136) #[] #[.pointer (some ⟨w.heap.size, 0, none⟩)], .int .i64 64]) ∧ Nb w w' ∧ w'.heap[w.heap.size]? = some (.cells #[.int .u64 a, .int .u64 b, .int .i64 64] 131 (0, 0)) := by
  clear h0 h1 g0 g1
  unfold pairV
  have hmf : ∀ (fn : Fn) (first cap : Array Value) (w : World), (Instr.makeFunc fn first cap).run Tryz.prog w = .ok (.func fn first cap) w := fun _ _ _ _ => rfl
  go_enter Tryz.func123, Tryz.ntmps123
  repeat (first | (with_reducible refine then_exit ?_) | (with_reducible refine in_same ?_) | ((with_reducible refine in_other ?_ ?_); decide) | (with_reducible refine then_ret ?_) | (with_reducible refine in_ret ?_) | go_values | go_skip | go_guarded | go_step | go_upon | go_back)
  obtain ⟨W1, hW⟩ : ∃ W1, w.alloc (.cells #[.int .u64 a, .int .u64 b, .int .i64 64] 131) = W1 := ⟨_, rfl⟩
  have hb := blk_made w _ hW rfl
  have h2 : Nb w W1 := by rw [← hW]; exact (Nb.refl _).alloc _
  rw [hW]
  clear hW
  obtain ⟨n1, c0, c1, c2⟩ := cells3 hb
  have HB := Lib.hid hb
  clear hb
  repeat (first | (with_reducible refine then_exit ?_) | (with_reducible refine in_same ?_) | ((with_reducible refine in_other ?_ ?_); decide) | (with_reducible refine then_ret ?_) | (with_reducible refine in_ret ?_) | go_values | go_skip | go_guarded | go_step | go_upon | go_back)
  go_quiet (fail)
  repeat (first | (with_reducible refine then_exit ?_) | (with_reducible refine in_same ?_) | ((with_reducible refine in_other ?_ ?_); decide) | (with_reducible refine then_ret ?_) | (with_reducible refine in_ret ?_) | go_values | go_skip | go_guarded | go_step | go_upon | go_back)
  go_ret2
  exact ⟨rfl, h2.drewN _, HB.out⟩
set_option maxRecDepth 100000 in
set_option maxHeartbeats 1000000 in
theorem base_30 (a b : Int) (h0 : 0 ≤ a) (h1 : a < 18446744073709551616) (g0 : 0 ≤ b) (g1 : b < 18446744073709551616) (w : World) : Calls Tryz.prog 123 #[.int .i64 30, pairV a b 64] w fun e w' => e = .returned (.tuple #[.func (Fn.func 136) #[] #[.pointer (some ⟨w.heap.size, 0, none⟩)], .int .i64 64]) ∧ Nb w w' ∧ w'.heap[w.heap.size]? = some (.cells #[.int .u64 a, .int .u64 b, .int .i64 64] 131 (0, 0)) := by
  clear h0 h1 g0 g1
  unfold pairV
  have hmf : ∀ (fn : Fn) (first cap : Array Value) (w : World), (Instr.makeFunc fn first cap).run Tryz.prog w = .ok (.func fn first cap) w := fun _ _ _ _ => rfl
  go_enter Tryz.func123, Tryz.ntmps123
  repeat (first | (with_reducible refine then_exit ?_) | (with_reducible refine in_same ?_) | ((with_reducible refine in_other ?_ ?_); decide) | (with_reducible refine then_ret ?_) | (with_reducible refine in_ret ?_) | go_values | go_skip | go_guarded | go_step | go_upon | go_back)
  obtain ⟨W1, hW⟩ : ∃ W1, w.alloc (.cells #[.int .u64 a, .int .u64 b, .int .i64 64] 131) = W1 := ⟨_, rfl⟩
  have hb := blk_made w _ hW rfl
  have h2 : Nb w W1 := by rw [← hW]; exact (Nb.refl _).alloc _
  rw [hW]
  clear hW
  obtain ⟨n1, c0, c1, c2⟩ := cells3 hb
  have HB := Lib.hid hb
  clear hb
  repeat (first | (with_reducible refine then_exit ?_) | (with_reducible refine in_same ?_) | ((with_reducible refine in_other ?_ ?_); decide) | (with_reducible refine then_ret ?_) | (with_reducible refine in_ret ?_) | go_values | go_skip | go_guarded | go_step | go_upon | go_back)
  go_quiet (fail)
  repeat (first | (with_reducible refine then_exit ?_) | (with_reducible refine in_same ?_) | ((with_reducible refine in_other ?_ ?_); decide) | (with_reducible refine then_ret ?_) | (with_reducible refine in_ret ?_) | go_values | go_skip | go_guarded | go_step | go_upon | go_back)
  go_ret2
  exact ⟨rfl, h2.drewN _, HB.out⟩
set_option maxRecDepth 100000 in
set_option maxHeartbeats 1000000 in
theorem base_34 (a b : Int) (h0 : 0 ≤ a) (h1 : a < 18446744073709551616) (g0 : 0 ≤ b) (g1 : b < 18446744073709551616) (w : World) : Calls Tryz.prog 123 #[.int .i64 34, pairV a b 64] w fun e w' => e = .returned (.tuple #[.func (Fn.func 137) #[pairV a b 64] #[], .int .i64 64]) ∧ Nb w w' := by
  clear h0 h1 g0 g1
  unfold pairV
  have hmf : ∀ (fn : Fn) (first cap : Array Value) (w : World), (Instr.makeFunc fn first cap).run Tryz.prog w = .ok (.func fn first cap) w := fun _ _ _ _ => rfl
  go_enter Tryz.func123, Tryz.ntmps123
  repeat (first | (with_reducible refine then_exit ?_) | (with_reducible refine in_same ?_) | ((with_reducible refine in_other ?_ ?_); decide) | (with_reducible refine then_ret ?_) | (with_reducible refine in_ret ?_) | go_values | go_skip | go_guarded | go_step | go_upon | go_back)
  obtain ⟨W1, hW⟩ : ∃ W1, w.alloc (.cells #[.int .u64 a, .int .u64 b, .int .i64 64] 131) = W1 := ⟨_, rfl⟩
  have hb := blk_made w _ hW rfl
  have h2 : Nb w W1 := by rw [← hW]; exact (Nb.refl _).alloc _
  rw [hW]
  clear hW
  obtain ⟨n1, c0, c1, c2⟩ := cells3 hb
  clear hb
  repeat (first | (with_reducible refine then_exit ?_) | (with_reducible refine in_same ?_) | ((with_reducible refine in_other ?_ ?_); decide) | (with_reducible refine then_ret ?_) | (with_reducible refine in_ret ?_) | go_values | go_skip | go_guarded | go_step | go_upon | go_back)
  go_quiet (fail)
  repeat (first | (with_reducible refine then_exit ?_) | (with_reducible refine in_same ?_) | ((with_reducible refine in_other ?_ ?_); decide) | (with_reducible refine then_ret ?_) | (with_reducible refine in_ret ?_) | go_values | go_skip | go_guarded | go_step | go_upon | go_back)
  go_ret2
  exact ⟨rfl, h2.drewN _⟩
set_option maxRecDepth 100000 in
set_option maxHeartbeats 1000000 in
theorem base_23 (a b : Int) (h0 : 0 ≤ a) (h1 : a < 18446744073709551616) (g0 : 0 ≤ b) (g1 : b < 18446744073709551616) (w : World) : Calls Tryz.prog 123 #[.int .i64 23, pairV a b 64] w fun e w' => e = .returned (.tuple #[.func (Fn.func 137) #[pairV a b 64] #[], .int .i64 64]) ∧ Nb w w' := by
  clear h0 h1 g0 g1
  unfold pairV
  have hmf : ∀ (fn : Fn) (first cap : Array Value) (w : World), (Instr.makeFunc fn first cap).run Tryz.prog w = .ok (.func fn first cap) w := fun _ _ _ _ => rfl
  go_enter Tryz.func123, Tryz.ntmps123
  repeat (first | (with_reducible refine then_exit ?_) | (with_reducible refine in_same ?_) | ((with_reducible refine in_other ?_ ?_); decide) | (with_reducible refine then_ret ?_) | (with_reducible refine in_ret ?_) | go_values | go_skip | go_guarded | go_step | go_upon | go_back)
  obtain ⟨W1, hW⟩ : ∃ W1, w.alloc (.cells #[.int .u64 a, .int .u64 b, .int .i64 64] 131) = W1 := ⟨_, rfl⟩
  have hb := blk_made w _ hW rfl
  have h2 : Nb w W1 := by rw [← hW]; exact (Nb.refl _).alloc _
  rw [hW]
  clear hW
  obtain ⟨n1, c0, c1, c2⟩ := cells3 hb
  clear hb
  repeat (first | (with_reducible refine then_exit ?_) | (with_reducible refine in_same ?_) | ((with_reducible refine in_other ?_ ?_); decide) | (with_reducible refine then_ret ?_) | (with_reducible refine in_ret ?_) | go_values | go_skip | go_guarded | go_step | go_upon | go_back)
  go_quiet (fail)
  repeat (first | (with_reducible refine then_exit ?_) | (with_reducible refine in_same ?_) | ((with_reducible refine in_other ?_ ?_); decide) | (with_reducible refine then_ret ?_) | (with_reducible refine in_ret ?_) | go_values | go_skip | go_guarded | go_step | go_upon | go_back)
  go_ret2
  exact ⟨rfl, h2.drewN _⟩
set_option maxRecDepth 100000 in
set_option maxHeartbeats 1000000 in
theorem base_35 (a b : Int) (h0 : 0 ≤ a) (h1 : a < 18446744073709551616) (g0 : 0 ≤ b) (g1 : b < 18446744073709551616) (w : World) : Calls Tryz.prog 123 #[.int .i64 35, pairV a b 64] w fun e w' => e = .returned (.tuple #[.func (Fn.func 138) #[pairV a b 64] #[], .int .i64 64]) ∧ Nb w w' := by
  clear h0 h1 g0 g1
  unfold pairV
  have hmf : ∀ (fn : Fn) (first cap : Array Value) (w : World), (Instr.makeFunc fn first cap).run Tryz.prog w = .ok (.func fn first cap) w := fun _ _ _ _ => rfl
  go_enter Tryz.func123, Tryz.ntmps123
  repeat (first | (with_reducible refine then_exit ?_) | (with_reducible refine in_same ?_) | ((with_reducible refine in_other ?_ ?_); decide) | (with_reducible refine then_ret ?_) | (with_reducible refine in_ret ?_) | go_values | go_skip | go_guarded | go_step | go_upon | go_back)
  obtain ⟨W1, hW⟩ : ∃ W1, w.alloc (.cells #[.int .u64 a, .int .u64 b, .int .i64 64] 131) = W1 := ⟨_, rfl⟩
  have hb := blk_made w _ hW rfl
  have h2 : Nb w W1 := by rw [← hW]; exact (Nb.refl _).alloc _
  rw [hW]
  clear hW
  obtain ⟨n1, c0, c1, c2⟩ := cells3 hb
  clear hb
  repeat (first | (with_reducible refine then_exit ?_) | (with_reducible refine in_same ?_) | ((with_reducible refine in_other ?_ ?_); decide) | (with_reducible refine then_ret ?_) | (with_reducible refine in_ret ?_) | go_values | go_skip | go_guarded | go_step | go_upon | go_back)
  go_quiet (fail)
  repeat (first | (with_reducible refine then_exit ?_) | (with_reducible refine in_same ?_) | ((with_reducible refine in_other ?_ ?_); decide) | (with_reducible refine then_ret ?_) | (with_reducible refine in_ret ?_) | go_values | go_skip | go_guarded | go_step | go_upon | go_back)
  go_ret2
  exact ⟨rfl, h2.drewN _⟩
set_option maxRecDepth 100000 in
set_option maxHeartbeats 1000000 in
theorem base_24 (a b : Int) (h0 : 0 ≤ a) (h1 : a < 18446744073709551616) (g0 : 0 ≤ b) (g1 : b < 18446744073709551616) (w : World) : Calls Tryz.prog 123 #[.int .i64 24, pairV a b 64] w fun e w' => e = .returned (.tuple #[.func (Fn.func 138) #[pairV a b 64] #[], .int .i64 64]) ∧ Nb w w' := by
  clear h0 h1 g0 g1
  unfold pairV
  have hmf : ∀ (fn : Fn) (first cap : Array Value) (w : World), (Instr.makeFunc fn first cap).run Tryz.prog w = .ok (.func fn first cap) w := fun _ _ _ _ => rfl
  go_enter Tryz.func123, Tryz.ntmps123
  repeat (first | (with_reducible refine then_exit ?_) | (with_reducible refine in_same ?_) | ((with_reducible refine in_other ?_ ?_); decide) | (with_reducible refine then_ret ?_) | (with_reducible refine in_ret ?_) | go_values | go_skip | go_guarded | go_step | go_upon | go_back)
  obtain ⟨W1, hW⟩ : ∃ W1, w.alloc (.cells #[.int .u64 a, .int .u64 b, .int .i64 64] 131) = W1 := ⟨_, rfl⟩
  have hb := blk_made w _ hW rfl
  have h2 : Nb w W1 := by rw [← hW]; exact (Nb.refl _).alloc _
  rw [hW]
  clear hW
  obtain ⟨n1, c0, c1, c2⟩ := cells3 hb
  clear hb
  repeat (first | (with_reducible refine then_exit ?_) | (with_reducible refine in_same ?_) | ((with_reducible refine in_other ?_ ?_); decide) | (with_reducible refine then_ret ?_) | (with_reducible refine in_ret ?_) | go_values | go_skip | go_guarded | go_step | go_upon | go_back)
  go_quiet (fail)
  repeat (first | (with_reducible refine then_exit ?_) | (with_reducible refine in_same ?_) | ((with_reducible refine in_other ?_ ?_); decide) | (with_reducible refine then_ret ?_) | (with_reducible refine in_ret ?_) | go_values | go_skip | go_guarded | go_step | go_upon | go_back)
  go_ret2
  exact ⟨rfl, h2.drewN _⟩
set_option maxRecDepth 100000 in
set_option maxHeartbeats 1000000 in
theorem base_36 (a b : Int) (h0 : 0 ≤ a) (h1 : a < 18446744073709551616) (g0 : 0 ≤ b) (g1 : b < 18446744073709551616) (w : World) : Calls Tryz.prog 123 #[.int .i64 36, pairV a b 64] w fun e w' => e = .returned (.tuple #[.func (Fn.func 139) #[pairV a b 64] #[], .int .i64 64]) ∧ Nb w w' := by
  clear h0 h1 g0 g1
  unfold pairV
  have hmf : ∀ (fn : Fn) (first cap : Array Value) (w : World), (Instr.makeFunc fn first cap).run Tryz.prog w = .ok (.func fn first cap) w := fun _ _ _ _ => rfl
  go_enter Tryz.func123, Tryz.ntmps123
  repeat (first | (with_reducible refine then_exit ?_) | (with_reducible refine in_same ?_) | ((with_reducible refine in_other ?_ ?_); decide) | (with_reducible refine then_ret ?_) | (with_reducible refine in_ret ?_) | go_values | go_skip | go_guarded | go_step | go_upon | go_back)
  obtain ⟨W1, hW⟩ : ∃ W1, w.alloc (.cells #[.int .u64 a, .int .u64 b, .int .i64 64] 131) = W1 := ⟨_, rfl⟩
  have hb := blk_made w _ hW rfl
  have h2 : Nb w W1 := by rw [← hW]; exact (Nb.refl _).alloc _
  rw [hW]
  clear hW
  obtain ⟨n1, c0, c1, c2⟩ := cells3 hb
  clear hb
  repeat (first | (with_reducible refine then_exit ?_) | (with_reducible refine in_same ?_) | ((with_reducible refine in_other ?_ ?_); decide) | (with_reducible refine then_ret ?_) | (with_reducible refine in_ret ?_) | go_values | go_skip | go_guarded | go_step | go_upon | go_back)
  go_quiet (fail)
  repeat (first | (with_reducible refine then_exit ?_) | (with_reducible refine in_same ?_) | ((with_reducible refine in_other ?_ ?_); decide) | (with_reducible refine then_ret ?_) | (with_reducible refine in_ret ?_) | go_values | go_skip | go_guarded | go_step | go_upon | go_back)
  go_ret2
  exact ⟨rfl, h2.drewN _⟩
set_option maxRecDepth 100000 in
set_option maxHeartbeats 1000000 in
theorem base_25 (a b : Int) (h0 : 0 ≤ a) (h1 : a < 18446744073709551616) (g0 : 0 ≤ b) (g1 : b < 18446744073709551616) (w : World) : Calls Tryz.prog 123 #[.int .i64 25, pairV a b 64] w fun e w' => e = .returned (.tuple #[.func (Fn.func 139) #[pairV a b 64] #[], .int .i64 64]) ∧ Nb w w' := by
  clear h0 h1 g0 g1
  unfold pairV
  have hmf : ∀ (fn : Fn) (first cap : Array Value) (w : World), (Instr.makeFunc fn first cap).run Tryz.prog w = .ok (.func fn first cap) w := fun _ _ _ _ => rfl
  go_enter Tryz.func123, Tryz.ntmps123
  repeat (first | (with_reducible refine then_exit ?_) | (with_reducible refine in_same ?_) | ((with_reducible refine in_other ?_ ?_); decide) | (with_reducible refine then_ret ?_) | (with_reducible refine in_ret ?_) | go_values | go_skip | go_guarded | go_step | go_upon | go_back)
  obtain ⟨W1, hW⟩ : ∃ W1, w.alloc (.cells #[.int .u64 a, .int .u64 b, .int .i64 64] 131) = W1 := ⟨_, rfl⟩
  have hb := blk_made w _ hW rfl
  have h2 : Nb w W1 := by rw [← hW]; exact (Nb.refl _).alloc _
  rw [hW]
  clear hW
  obtain ⟨n1, c0, c1, c2⟩ := cells3 hb
  clear hb
  repeat (first | (with_reducible refine then_exit ?_) | (with_reducible refine in_same ?_) | ((with_reducible refine in_other ?_ ?_); decide) | (with_reducible refine then_ret ?_) | (with_reducible refine in_ret ?_) | go_values | go_skip | go_guarded | go_step | go_upon | go_back)
  go_quiet (fail)
  repeat (first | (with_reducible refine then_exit ?_) | (with_reducible refine in_same ?_) | ((with_reducible refine in_other ?_ ?_); decide) | (with_reducible refine then_ret ?_) | (with_reducible refine in_ret ?_) | go_values | go_skip | go_guarded | go_step | go_upon | go_back)
  go_ret2
  exact ⟨rfl, h2.drewN _⟩
set_option maxRecDepth 100000 in
set_option maxHeartbeats 1000000 in
theorem base_39 (a b : Int) (h0 : 0 ≤ a) (h1 : a < 18446744073709551616) (g0 : 0 ≤ b) (g1 : b < 18446744073709551616) (w : World) : Calls Tryz.prog 123 #[.int .i64 39, pairV a b 64] w fun e w' => e = .returned (.tuple #[.func (Fn.func 140) #[pairV a b 64] #[], .int .i64 64]) ∧ Nb w w' := by
  clear h0 h1 g0 g1
  unfold pairV
  have hmf : ∀ (fn : Fn) (first cap : Array Value) (w : World), (Instr.makeFunc fn first cap).run Tryz.prog w = .ok (.func fn first cap) w := fun _ _ _ _ => rfl
  go_enter Tryz.func123, Tryz.ntmps123
  repeat (first | (with_reducible refine then_exit ?_) | (with_reducible refine in_same ?_) | ((with_reducible refine in_other ?_ ?_); decide) | (with_reducible refine then_ret ?_) | (with_reducible refine in_ret ?_) | go_values | go_skip | go_guarded | go_step | go_upon | go_back)
  obtain ⟨W1, hW⟩ : ∃ W1, w.alloc (.cells #[.int .u64 a, .int .u64 b, .int .i64 64] 131) = W1 := ⟨_, rfl⟩
  have hb := blk_made w _ hW rfl
  have h2 : Nb w W1 := by rw [← hW]; exact (Nb.refl _).alloc _
  rw [hW]
  clear hW
  obtain ⟨n1, c0, c1, c2⟩ := cells3 hb
  clear hb
  repeat (first | (with_reducible refine then_exit ?_) | (with_reducible refine in_same ?_) | ((with_reducible refine in_other ?_ ?_); decide) | (with_reducible refine then_ret ?_) | (with_reducible refine in_ret ?_) | go_values | go_skip | go_guarded | go_step | go_upon | go_back)
  go_quiet (fail)
  repeat (first | (with_reducible refine then_exit ?_) | (with_reducible refine in_same ?_) | ((with_reducible refine in_other ?_ ?_); decide) | (with_reducible refine then_ret ?_) | (with_reducible refine in_ret ?_) | go_values | go_skip | go_guarded | go_step | go_upon | go_back)
  go_ret2
  exact ⟨rfl, h2.drewN _⟩
set_option maxRecDepth 100000 in
set_option maxHeartbeats 1000000 in
theorem base_26 (a b : Int) (h0 : 0 ≤ a) (h1 : a < 18446744073709551616) (g0 : 0 ≤ b) (g1 : b < 18446744073709551616) (w : World) : Calls Tryz.prog 123 #[.int .i64 26, pairV a b 64] w fun e w' => e = .returned (.tuple #[.func (Fn.func 140) #[pairV a b 64] #[], .int .i64 64]) ∧ Nb w w' := by
  clear h0 h1 g0 g1
  unfold pairV
  have hmf : ∀ (fn : Fn) (first cap : Array Value) (w : World), (Instr.makeFunc fn first cap).run Tryz.prog w = .ok (.func fn first cap) w := fun _ _ _ _ => rfl
  go_enter Tryz.func123, Tryz.ntmps123
  repeat (first | (with_reducible refine then_exit ?_) | (with_reducible refine in_same ?_) | ((with_reducible refine in_other ?_ ?_); decide) | (with_reducible refine then_ret ?_) | (with_reducible refine in_ret ?_) | go_values | go_skip | go_guarded | go_step | go_upon | go_back)
  obtain ⟨W1, hW⟩ : ∃ W1, w.alloc (.cells #[.int .u64 a, .int .u64 b, .int .i64 64] 131) = W1 := ⟨_, rfl⟩
  have hb := blk_made w _ hW rfl
  have h2 : Nb w W1 := by rw [← hW]; exact (Nb.refl _).alloc _
  rw [hW]
  clear hW
  obtain ⟨n1, c0, c1, c2⟩ := cells3 hb
  clear hb
  repeat (first | (with_reducible refine then_exit ?_) | (with_reducible refine in_same ?_) | ((with_reducible refine in_other ?_ ?_); decide) | (with_reducible refine then_ret ?_) | (with_reducible refine in_ret ?_) | go_values | go_skip | go_guarded | go_step | go_upon | go_back)
  go_quiet (fail)
  repeat (first | (with_reducible refine then_exit ?_) | (with_reducible refine in_same ?_) | ((with_reducible refine in_other ?_ ?_); decide) | (with_reducible refine then_ret ?_) | (with_reducible refine in_ret ?_) | go_values | go_skip | go_guarded | go_step | go_upon | go_back)
  go_ret2
  exact ⟨rfl, h2.drewN _⟩
set_option maxRecDepth 100000 in
set_option maxHeartbeats 1000000 in
theorem base_40 (a b : Int) (h0 : 0 ≤ a) (h1 : a < 18446744073709551616) (g0 : 0 ≤ b) (g1 : b < 18446744073709551616) (w : World) : Calls Tryz.prog 123 #[.int .i64 40, pairV a b 64] w fun e w' => e = .returned (.tuple #[.func (Fn.func 141) #[pairV a b 64] #[], .int .i64 64]) ∧ Nb w w' := by
  clear h0 h1 g0 g1
  unfold pairV
  have hmf : ∀ (fn : Fn) (first cap : Array Value) (w : World), (Instr.makeFunc fn first cap).run Tryz.prog w = .ok (.func fn first cap) w := fun _ _ _ _ => rfl
  go_enter Tryz.func123, Tryz.ntmps123
  repeat (first | (with_reducible refine then_exit ?_) | (with_reducible refine in_same ?_) | ((with_reducible refine in_other ?_ ?_); decide) | (with_reducible refine then_ret ?_) | (with_reducible refine in_ret ?_) | go_values | go_skip | go_guarded | go_step | go_upon | go_back)
  obtain ⟨W1, hW⟩ : ∃ W1, w.alloc (.cells #[.int .u64 a, .int .u64 b, .int .i64 64] 131) = W1 := ⟨_, rfl⟩
  have hb := blk_made w _ hW rfl
  have h2 : Nb w W1 := by rw [← hW]; exact (Nb.refl _).alloc _
  rw [hW]
  clear hW
  obtain ⟨n1, c0, c1, c2⟩ := cells3 hb
  clear hb
  repeat (first | (with_reducible refine then_exit ?_) | (with_reducible refine in_same ?_) | ((with_reducible refine in_other ?_ ?_); decide) | (with_reducible refine then_ret ?_) | (with_reducible refine in_ret ?_) | go_values | go_skip | go_guarded | go_step | go_upon | go_back)
  go_quiet (fail)
  repeat (first | (with_reducible refine then_exit ?_) | (with_reducible refine in_same ?_) | ((with_reducible refine in_other ?_ ?_); decide) | (with_reducible refine then_ret ?_) | (with_reducible refine in_ret ?_) | go_values | go_skip | go_guarded | go_step | go_upon | go_back)
  go_ret2
  exact ⟨rfl, h2.drewN _⟩
set_option maxRecDepth 100000 in
set_option maxHeartbeats 1000000 in
theorem base_27 (a b : Int) (h0 : 0 ≤ a) (h1 : a < 18446744073709551616) (g0 : 0 ≤ b) (g1 : b < 18446744073709551616) (w : World) : Calls Tryz.prog 123 #[.int .i64 27, pairV a b 64] w fun e w' => e = .returned (.tuple #[.func (Fn.func 141) #[pairV a b 64] #[], .int .i64 64]) ∧ Nb w w' := by
  clear h0 h1 g0 g1
  unfold pairV
  have hmf : ∀ (fn : Fn) (first cap : Array Value) (w : World), (Instr.makeFunc fn first cap).run Tryz.prog w = .ok (.func fn first cap) w := fun _ _ _ _ => rfl
  go_enter Tryz.func123, Tryz.ntmps123
  repeat (first | (with_reducible refine then_exit ?_) | (with_reducible refine in_same ?_) | ((with_reducible refine in_other ?_ ?_); decide) | (with_reducible refine then_ret ?_) | (with_reducible refine in_ret ?_) | go_values | go_skip | go_guarded | go_step | go_upon | go_back)
  obtain ⟨W1, hW⟩ : ∃ W1, w.alloc (.cells #[.int .u64 a, .int .u64 b, .int .i64 64] 131) = W1 := ⟨_, rfl⟩
  have hb := blk_made w _ hW rfl
  have h2 : Nb w W1 := by rw [← hW]; exact (Nb.refl _).alloc _
  rw [hW]
  clear hW
  obtain ⟨n1, c0, c1, c2⟩ := cells3 hb
  clear hb
  repeat (first | (with_reducible refine then_exit ?_) | (with_reducible refine in_same ?_) | ((with_reducible refine in_other ?_ ?_); decide) | (with_reducible refine then_ret ?_) | (with_reducible refine in_ret ?_) | go_values | go_skip | go_guarded | go_step | go_upon | go_back)
  go_quiet (fail)
  repeat (first | (with_reducible refine then_exit ?_) | (with_reducible refine in_same ?_) | ((with_reducible refine in_other ?_ ?_); decide) | (with_reducible refine then_ret ?_) | (with_reducible refine in_ret ?_) | go_values | go_skip | go_guarded | go_step | go_upon | go_back)
  go_ret2
  exact ⟨rfl, h2.drewN _⟩
end Go.Proofs.YtmggichckhoomaaGreatDoor
