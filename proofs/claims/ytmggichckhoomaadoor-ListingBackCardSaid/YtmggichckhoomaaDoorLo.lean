/-
  Proved here: the numbers of a text, the code's. Conditions: the variables of the library hold what their texts lay.
-/
import Derived.Test.YtmggichckhoomaaDoorLn
import Derived.LoopN
import Derived.Lib.AtoiErrMem
namespace Go.Proofs.YtmggichckhoomaaDoor
open Go.ChangeShapes Go.WideShapes Go.ChangeAt Go.RowKit
set_option linter.unusedVariables false
set_option linter.unusedSimpArgs false
theorem drewN_nb (w : World) (n : Nat) : Nb w (w.drewN n) := ⟨rfl, rfl, rfl, Nat.le_refl _, fun _ _ => rfl⟩
theorem atoi_any (l : Bs) (h : l.length ≤ 1000000) (w : World) (hL : Lw w) :
    Calls Tryd.prog 41 #[.string ⟨l.toArray⟩] w fun e w' => ∃ x, e = .returned (.tuple #[.int .i64 (atoiV l), x]) ∧ Nb w w' := by
  obtain ⟨-, -, -, -, ⟨t5, p5, h5⟩, t6, p6, h6⟩ := hL
  have hs : (⟨l.toArray⟩ : ByteArray).size = l.length := by show l.toArray.size = _; simp
  have hd : (⟨l.toArray⟩ : ByteArray).data.toList = l := rfl
  cases hc : Lib.atoiAll l with
  | ok v =>
    refine (Tryd.strconv_Atoi_ok ⟨l.toArray⟩ (by rw [hs]; omega) v (by rw [hd]; exact hc) w).mono ?_
    rintro e w' ⟨rfl, hw⟩
    refine ⟨.nilIface, ?_, ?_⟩
    · unfold atoiV; rw [hc]
    · rcases hw with rfl | ⟨t, rfl⟩
      · exact Nb.refl _
      · exact Lib.bytesWorld_below _ _ _
  | «syntax» =>
    refine (Tryd.strconv_Atoi_syntax_var ⟨l.toArray⟩ (by rw [hs]; omega) (by rw [hd]; exact hc) t5 p5 w h5).mono ?_
    rintro e w' ⟨N, rfl, -, -, hb⟩
    exact ⟨_, by unfold atoiV; rw [hc], hb⟩
  | range =>
    refine (Tryd.strconv_Atoi_range_var ⟨l.toArray⟩ (by rw [hs]; omega) (by rw [hd]; exact hc) t6 p6 w h6).mono ?_
    rintro e w' ⟨N, rfl, -, -, hb⟩
    exact ⟨_, by unfold atoiV; rw [hc], hb⟩
theorem cut_any (l p : Bs) (h : l.length ≤ 1000000) (w : World) (hL : Lw w) :
    Calls Tryd.prog 19 #[.string ⟨l.toArray⟩, .string ⟨p.toArray⟩] w fun e w' => e = .returned (.tuple #[.string ⟨(Lib.cut l p).1.toArray⟩, .string ⟨(Lib.cut l p).2.1.toArray⟩, .bool (Lib.cut l p).2.2]) ∧ Nb w w' := by
  obtain ⟨-, -, -, ⟨m, hm⟩, -⟩ := hL
  refine (Tryd.strings_Cut ⟨l.toArray⟩ ⟨p.toArray⟩ m w (by show l.toArray.size < _; simp; omega) hm).mono ?_
  rintro e w' ⟨rfl, n, rfl⟩
  exact ⟨rfl, drewN_nb w n⟩
theorem cut_len (l p : Bs) : (Lib.cut l p).1.length ≤ l.length ∧ (Lib.cut l p).2.1.length ≤ l.length := by
  unfold Lib.cut
  split
  · simp; omega
  · simp
theorem trp_len (l p : Bs) : (Lib.trimPrefix l p).length ≤ l.length := by
  unfold Lib.trimPrefix; split
  · simp
  · exact Nat.le_refl _
theorem set4_0 {w : World} {n : Nat} {t : TypeId} {a b c d x : Value} (h : w.heap[n]? = some (.cells #[a, b, c, d] t (0, 0))) : (w.setCell ⟨n, 0, none⟩ x).heap[n]? = some (.cells #[x, b, c, d] t (0, 0)) := by
  simpa using heap_setCell_same w n 0 _ _ x h
theorem set4_1 {w : World} {n : Nat} {t : TypeId} {a b c d x : Value} (h : w.heap[n]? = some (.cells #[a, b, c, d] t (0, 0))) : (w.setCell ⟨n, 1, none⟩ x).heap[n]? = some (.cells #[a, x, c, d] t (0, 0)) := by
  simpa using heap_setCell_same w n 1 _ _ x h
theorem set4_2 {w : World} {n : Nat} {t : TypeId} {a b c d x : Value} (h : w.heap[n]? = some (.cells #[a, b, c, d] t (0, 0))) : (w.setCell ⟨n, 2, none⟩ x).heap[n]? = some (.cells #[a, b, x, d] t (0, 0)) := by
  simpa using heap_setCell_same w n 2 _ _ x h
theorem set4_3 {w : World} {n : Nat} {t : TypeId} {a b c d x : Value} (h : w.heap[n]? = some (.cells #[a, b, c, d] t (0, 0))) : (w.setCell ⟨n, 3, none⟩ x).heap[n]? = some (.cells #[a, b, c, x] t (0, 0)) := by
  simpa using heap_setCell_same w n 3 _ _ x h
set_option maxRecDepth 100000 in
set_option maxHeartbeats 4000000 in
theorem nums_1001 (s0 s1 s2 w0 v0 w1 v1 : Bs) (n0 n1 : Int) (t0 : Bool) (t1 : Bool)
    (C0 : Hid (∀ w, Lw w → Calls Tryd.prog 19 #[.string ⟨s0.toArray⟩, .string ⟨([32] : Bs).toArray⟩] w fun e w' => e = .returned (.tuple #[.string ⟨w0.toArray⟩, .string ⟨s1.toArray⟩, .bool t0]) ∧ Nb w w'))
    (P0 : Hid (∀ w, Calls Tryd.prog 42 #[.string ⟨w0.toArray⟩, .string ⟨([120] : Bs).toArray⟩] w fun e w' => e = .returned (.string ⟨v0.toArray⟩) ∧ w = w'))
    (A0 : Hid (∀ w, Lw w → Calls Tryd.prog 41 #[.string ⟨v0.toArray⟩] w fun e w' => ∃ x, e = .returned (.tuple #[.int .i64 n0, x]) ∧ Nb w w'))
    (C1 : Hid (∀ w, Lw w → Calls Tryd.prog 19 #[.string ⟨s1.toArray⟩, .string ⟨([32] : Bs).toArray⟩] w fun e w' => e = .returned (.tuple #[.string ⟨w1.toArray⟩, .string ⟨s2.toArray⟩, .bool t1]) ∧ Nb w w'))
    (P1 : Hid (∀ w, Calls Tryd.prog 42 #[.string ⟨w1.toArray⟩, .string ⟨([120] : Bs).toArray⟩] w fun e w' => e = .returned (.string ⟨v1.toArray⟩) ∧ w = w'))
    (A1 : Hid (∀ w, Lw w → Calls Tryd.prog 41 #[.string ⟨v1.toArray⟩] w fun e w' => ∃ x, e = .returned (.tuple #[.int .i64 n1, x]) ∧ Nb w w'))
    (w : World) (hL : Lw w) :
    Calls Tryd.prog 21 #[.string ⟨s0.toArray⟩, .agg #[.bool true, .bool false, .bool false, .bool true]] w fun e w' => e = .returned (.agg #[.int .i64 n0, .int .i64 0, .int .i64 0, .int .i64 n1]) ∧ Nb w w' := by
  go_enter Tryd.func21, Tryd.ntmps21
  go_wp2_with fail
  obtain ⟨W1, h1⟩ : ∃ W1, w.alloc (Obj.cells #[.bool true, .bool false, .bool false, .bool true] 57) = W1 := ⟨_, rfl⟩
  have k1 := blk_made w _ h1 rfl
  have z1 : W1.heap.size = w.heap.size + 1 := by rw [← h1]; exact Array.size_push _
  obtain ⟨W2, h2⟩ : ∃ W2, W1.alloc (Obj.cells #[.int .i64 0, .int .i64 0, .int .i64 0, .int .i64 0] 55) = W2 := ⟨_, rfl⟩
  have k2 := blk_made W1 _ h2 z1
  have z2 : W2.heap.size = w.heap.size + 1 + 1 := by rw [← h2]; exact (Array.size_push _).trans (by rw [z1])
  obtain ⟨W3, h3⟩ : ∃ W3, W2.alloc (Obj.cells #[.int .i64 0, .int .i64 0, .int .i64 0, .int .i64 0] 55) = W3 := ⟨_, rfl⟩
  have k3 := blk_made W2 _ h3 z2
  have m1 : Nb w W1 := by rw [← h1]; exact (Nb.refl _).alloc _
  have m2 : Nb W1 W2 := by rw [← h2]; exact (Nb.refl _).alloc _
  have m3 : Nb W2 W3 := by rw [← h3]; exact (Nb.refl _).alloc _
  have q0 := (m1.trans m2).trans m3
  replace k1 := m3.block (m2.block k1)
  replace k2 := m3.block k2
  rw [h1, h2, h3]
  clear h1 h2 h3 m1 m2 m3 z1 z2
  refine wp_loop_rounds 5 ?_
  obtain ⟨z, c0, c1, c2, c3⟩ := cells4 k1
  rw [rounds_succ]
  go_wp2_with fail
  clear z c0 c1 c2 c3
  refine (C0.out _ (hL.of_nb q0)).mono ?_
  rintro e w1a ⟨rfl, hn⟩
  have q1 := q0.trans hn
  replace k1 := hn.block k1
  replace k2 := hn.block k2
  replace k3 := hn.block k3
  clear hn
  go_wp2_with fail
  refine (P0.out _).mono ?_
  rintro e w' ⟨rfl, rfl⟩
  go_wp2_with fail
  refine (A0.out _ (hL.of_nb q1)).mono ?_
  rintro e w2a ⟨x0, rfl, hn⟩
  have q2 := q1.trans hn
  replace k1 := hn.block k1
  replace k2 := hn.block k2
  replace k3 := hn.block k3
  clear hn
  obtain ⟨y, d0, d1, d2, d3⟩ := cells4 k3
  obtain ⟨f0, f1, f2, f3⟩ := marks4 k3
  go_wp2_with fail
  clear y d0 d1 d2 d3
  clear f0 f1 f2 f3
  obtain ⟨V0, hW⟩ : ∃ V, w2a.setCell ⟨w.heap.size + 1 + 1, 0, none⟩ (.int .i64 n0) = V := ⟨_, rfl⟩
  have q3 : Nb w V0 := by rw [← hW]; exact q2.setCell (Nat.le_trans (Nat.le_succ _) (Nat.le_succ _)) _
  replace k1 := (heap_setCell_other w2a ⟨w.heap.size + 1 + 1, 0, none⟩ w.heap.size (.int .i64 n0) (Nat.ne_of_lt (Nat.lt_succ_of_lt (Nat.lt_succ_self _)))).trans k1
  replace k2 := (heap_setCell_other w2a ⟨w.heap.size + 1 + 1, 0, none⟩ (w.heap.size + 1) (.int .i64 n0) (Nat.ne_of_lt (Nat.lt_succ_self _))).trans k2
  rw [hW] at k1 k2
  replace k3 := set4_0 (x := .int .i64 n0) k3
  rw [hW] at k3
  rw [hW]
  clear hW
  obtain ⟨z, c0, c1, c2, c3⟩ := cells4 k1
  rw [rounds_succ]
  go_wp2_with fail
  clear z c0 c1 c2 c3
  obtain ⟨z, c0, c1, c2, c3⟩ := cells4 k1
  rw [rounds_succ]
  go_wp2_with fail
  clear z c0 c1 c2 c3
  obtain ⟨z, c0, c1, c2, c3⟩ := cells4 k1
  rw [rounds_succ]
  go_wp2_with fail
  clear z c0 c1 c2 c3
  refine (C1.out _ (hL.of_nb q3)).mono ?_
  rintro e w4a ⟨rfl, hn⟩
  have q4 := q3.trans hn
  replace k1 := hn.block k1
  replace k2 := hn.block k2
  replace k3 := hn.block k3
  clear hn
  go_wp2_with fail
  refine (P1.out _).mono ?_
  rintro e w' ⟨rfl, rfl⟩
  go_wp2_with fail
  refine (A1.out _ (hL.of_nb q4)).mono ?_
  rintro e w5a ⟨x1, rfl, hn⟩
  have q5 := q4.trans hn
  replace k1 := hn.block k1
  replace k2 := hn.block k2
  replace k3 := hn.block k3
  clear hn
  obtain ⟨y, d0, d1, d2, d3⟩ := cells4 k3
  obtain ⟨f0, f1, f2, f3⟩ := marks4 k3
  go_wp2_with fail
  clear y d0 d1 d2 d3
  clear f0 f1 f2 f3
  obtain ⟨V1, hW⟩ : ∃ V, w5a.setCell ⟨w.heap.size + 1 + 1, 3, none⟩ (.int .i64 n1) = V := ⟨_, rfl⟩
  have q6 : Nb w V1 := by rw [← hW]; exact q5.setCell (Nat.le_trans (Nat.le_succ _) (Nat.le_succ _)) _
  replace k1 := (heap_setCell_other w5a ⟨w.heap.size + 1 + 1, 3, none⟩ w.heap.size (.int .i64 n1) (Nat.ne_of_lt (Nat.lt_succ_of_lt (Nat.lt_succ_self _)))).trans k1
  replace k2 := (heap_setCell_other w5a ⟨w.heap.size + 1 + 1, 3, none⟩ (w.heap.size + 1) (.int .i64 n1) (Nat.ne_of_lt (Nat.lt_succ_self _))).trans k2
  rw [hW] at k1 k2
  replace k3 := set4_3 (x := .int .i64 n1) k3
  rw [hW] at k3
  rw [hW]
  clear hW
  rw [rounds_succ]
  obtain ⟨y, d0, d1, d2, d3⟩ := cells4 k3
  obtain ⟨z, c0, c1, c2, c3⟩ := cells4 k2
  obtain ⟨f0, f1, f2, f3⟩ := marks4 k2
  go_wp2_with fail
  obtain ⟨U, hW⟩ : ∃ U, (((V1.setCell ⟨w.heap.size + 1, 0, none⟩ (.int .i64 n0)).setCell ⟨w.heap.size + 1, 1, none⟩ (.int .i64 0)).setCell ⟨w.heap.size + 1, 2, none⟩ (.int .i64 0)).setCell ⟨w.heap.size + 1, 3, none⟩ (.int .i64 n1) = U := ⟨_, rfl⟩
  have hb3 : U.heap[w.heap.size + 1]? = some (.cells #[.int .i64 n0, .int .i64 0, .int .i64 0, .int .i64 n1] 55 (0, 0)) := by rw [← hW]; exact set4 k2
  have h4 : Nb w U := by rw [← hW]; exact (((q6.setCell (Nat.le_succ _) _).setCell (Nat.le_succ _) _).setCell (Nat.le_succ _) _).setCell (Nat.le_succ _) _
  rw [hW]
  refine bodyPost_ret (results_cell_row rfl _ _ (w.heap.size + 1) _ _ _ _ rfl hb3 Tryd.underlying55 rfl (by kernel_rfl)) rfl ?_
  exact ⟨rfl, h4⟩
set_option maxRecDepth 100000 in
set_option maxHeartbeats 4000000 in
theorem nums_1101 (s0 s1 s2 s3 w0 v0 w1 v1 w2 v2 : Bs) (n0 n1 n2 : Int) (t0 : Bool) (t1 : Bool) (t2 : Bool)
    (C0 : Hid (∀ w, Lw w → Calls Tryd.prog 19 #[.string ⟨s0.toArray⟩, .string ⟨([32] : Bs).toArray⟩] w fun e w' => e = .returned (.tuple #[.string ⟨w0.toArray⟩, .string ⟨s1.toArray⟩, .bool t0]) ∧ Nb w w'))
    (P0 : Hid (∀ w, Calls Tryd.prog 42 #[.string ⟨w0.toArray⟩, .string ⟨([120] : Bs).toArray⟩] w fun e w' => e = .returned (.string ⟨v0.toArray⟩) ∧ w = w'))
    (A0 : Hid (∀ w, Lw w → Calls Tryd.prog 41 #[.string ⟨v0.toArray⟩] w fun e w' => ∃ x, e = .returned (.tuple #[.int .i64 n0, x]) ∧ Nb w w'))
    (C1 : Hid (∀ w, Lw w → Calls Tryd.prog 19 #[.string ⟨s1.toArray⟩, .string ⟨([32] : Bs).toArray⟩] w fun e w' => e = .returned (.tuple #[.string ⟨w1.toArray⟩, .string ⟨s2.toArray⟩, .bool t1]) ∧ Nb w w'))
    (P1 : Hid (∀ w, Calls Tryd.prog 42 #[.string ⟨w1.toArray⟩, .string ⟨([120] : Bs).toArray⟩] w fun e w' => e = .returned (.string ⟨v1.toArray⟩) ∧ w = w'))
    (A1 : Hid (∀ w, Lw w → Calls Tryd.prog 41 #[.string ⟨v1.toArray⟩] w fun e w' => ∃ x, e = .returned (.tuple #[.int .i64 n1, x]) ∧ Nb w w'))
    (C2 : Hid (∀ w, Lw w → Calls Tryd.prog 19 #[.string ⟨s2.toArray⟩, .string ⟨([32] : Bs).toArray⟩] w fun e w' => e = .returned (.tuple #[.string ⟨w2.toArray⟩, .string ⟨s3.toArray⟩, .bool t2]) ∧ Nb w w'))
    (P2 : Hid (∀ w, Calls Tryd.prog 42 #[.string ⟨w2.toArray⟩, .string ⟨([120] : Bs).toArray⟩] w fun e w' => e = .returned (.string ⟨v2.toArray⟩) ∧ w = w'))
    (A2 : Hid (∀ w, Lw w → Calls Tryd.prog 41 #[.string ⟨v2.toArray⟩] w fun e w' => ∃ x, e = .returned (.tuple #[.int .i64 n2, x]) ∧ Nb w w'))
    (w : World) (hL : Lw w) :
    Calls Tryd.prog 21 #[.string ⟨s0.toArray⟩, .agg #[.bool true, .bool true, .bool false, .bool true]] w fun e w' => e = .returned (.agg #[.int .i64 n0, .int .i64 n1, .int .i64 0, .int .i64 n2]) ∧ Nb w w' := by
  go_enter Tryd.func21, Tryd.ntmps21
  go_wp2_with fail
  obtain ⟨W1, h1⟩ : ∃ W1, w.alloc (Obj.cells #[.bool true, .bool true, .bool false, .bool true] 57) = W1 := ⟨_, rfl⟩
  have k1 := blk_made w _ h1 rfl
  have z1 : W1.heap.size = w.heap.size + 1 := by rw [← h1]; exact Array.size_push _
  obtain ⟨W2, h2⟩ : ∃ W2, W1.alloc (Obj.cells #[.int .i64 0, .int .i64 0, .int .i64 0, .int .i64 0] 55) = W2 := ⟨_, rfl⟩
  have k2 := blk_made W1 _ h2 z1
  have z2 : W2.heap.size = w.heap.size + 1 + 1 := by rw [← h2]; exact (Array.size_push _).trans (by rw [z1])
  obtain ⟨W3, h3⟩ : ∃ W3, W2.alloc (Obj.cells #[.int .i64 0, .int .i64 0, .int .i64 0, .int .i64 0] 55) = W3 := ⟨_, rfl⟩
  have k3 := blk_made W2 _ h3 z2
  have m1 : Nb w W1 := by rw [← h1]; exact (Nb.refl _).alloc _
  have m2 : Nb W1 W2 := by rw [← h2]; exact (Nb.refl _).alloc _
  have m3 : Nb W2 W3 := by rw [← h3]; exact (Nb.refl _).alloc _
  have q0 := (m1.trans m2).trans m3
  replace k1 := m3.block (m2.block k1)
  replace k2 := m3.block k2
  rw [h1, h2, h3]
  clear h1 h2 h3 m1 m2 m3 z1 z2
  refine wp_loop_rounds 5 ?_
  obtain ⟨z, c0, c1, c2, c3⟩ := cells4 k1
  rw [rounds_succ]
  go_wp2_with fail
  clear z c0 c1 c2 c3
  refine (C0.out _ (hL.of_nb q0)).mono ?_
  rintro e w1a ⟨rfl, hn⟩
  have q1 := q0.trans hn
  replace k1 := hn.block k1
  replace k2 := hn.block k2
  replace k3 := hn.block k3
  clear hn
  go_wp2_with fail
  refine (P0.out _).mono ?_
  rintro e w' ⟨rfl, rfl⟩
  go_wp2_with fail
  refine (A0.out _ (hL.of_nb q1)).mono ?_
  rintro e w2a ⟨x0, rfl, hn⟩
  have q2 := q1.trans hn
  replace k1 := hn.block k1
  replace k2 := hn.block k2
  replace k3 := hn.block k3
  clear hn
  obtain ⟨y, d0, d1, d2, d3⟩ := cells4 k3
  obtain ⟨f0, f1, f2, f3⟩ := marks4 k3
  go_wp2_with fail
  clear y d0 d1 d2 d3
  clear f0 f1 f2 f3
  obtain ⟨V0, hW⟩ : ∃ V, w2a.setCell ⟨w.heap.size + 1 + 1, 0, none⟩ (.int .i64 n0) = V := ⟨_, rfl⟩
  have q3 : Nb w V0 := by rw [← hW]; exact q2.setCell (Nat.le_trans (Nat.le_succ _) (Nat.le_succ _)) _
  replace k1 := (heap_setCell_other w2a ⟨w.heap.size + 1 + 1, 0, none⟩ w.heap.size (.int .i64 n0) (Nat.ne_of_lt (Nat.lt_succ_of_lt (Nat.lt_succ_self _)))).trans k1
  replace k2 := (heap_setCell_other w2a ⟨w.heap.size + 1 + 1, 0, none⟩ (w.heap.size + 1) (.int .i64 n0) (Nat.ne_of_lt (Nat.lt_succ_self _))).trans k2
  rw [hW] at k1 k2
  replace k3 := set4_0 (x := .int .i64 n0) k3
  rw [hW] at k3
  rw [hW]
  clear hW
  obtain ⟨z, c0, c1, c2, c3⟩ := cells4 k1
  rw [rounds_succ]
  go_wp2_with fail
  clear z c0 c1 c2 c3
  refine (C1.out _ (hL.of_nb q3)).mono ?_
  rintro e w4a ⟨rfl, hn⟩
  have q4 := q3.trans hn
  replace k1 := hn.block k1
  replace k2 := hn.block k2
  replace k3 := hn.block k3
  clear hn
  go_wp2_with fail
  refine (P1.out _).mono ?_
  rintro e w' ⟨rfl, rfl⟩
  go_wp2_with fail
  refine (A1.out _ (hL.of_nb q4)).mono ?_
  rintro e w5a ⟨x1, rfl, hn⟩
  have q5 := q4.trans hn
  replace k1 := hn.block k1
  replace k2 := hn.block k2
  replace k3 := hn.block k3
  clear hn
  obtain ⟨y, d0, d1, d2, d3⟩ := cells4 k3
  obtain ⟨f0, f1, f2, f3⟩ := marks4 k3
  go_wp2_with fail
  clear y d0 d1 d2 d3
  clear f0 f1 f2 f3
  obtain ⟨V1, hW⟩ : ∃ V, w5a.setCell ⟨w.heap.size + 1 + 1, 1, none⟩ (.int .i64 n1) = V := ⟨_, rfl⟩
  have q6 : Nb w V1 := by rw [← hW]; exact q5.setCell (Nat.le_trans (Nat.le_succ _) (Nat.le_succ _)) _
  replace k1 := (heap_setCell_other w5a ⟨w.heap.size + 1 + 1, 1, none⟩ w.heap.size (.int .i64 n1) (Nat.ne_of_lt (Nat.lt_succ_of_lt (Nat.lt_succ_self _)))).trans k1
  replace k2 := (heap_setCell_other w5a ⟨w.heap.size + 1 + 1, 1, none⟩ (w.heap.size + 1) (.int .i64 n1) (Nat.ne_of_lt (Nat.lt_succ_self _))).trans k2
  rw [hW] at k1 k2
  replace k3 := set4_1 (x := .int .i64 n1) k3
  rw [hW] at k3
  rw [hW]
  clear hW
  obtain ⟨z, c0, c1, c2, c3⟩ := cells4 k1
  rw [rounds_succ]
  go_wp2_with fail
  clear z c0 c1 c2 c3
  obtain ⟨z, c0, c1, c2, c3⟩ := cells4 k1
  rw [rounds_succ]
  go_wp2_with fail
  clear z c0 c1 c2 c3
  refine (C2.out _ (hL.of_nb q6)).mono ?_
  rintro e w7a ⟨rfl, hn⟩
  have q7 := q6.trans hn
  replace k1 := hn.block k1
  replace k2 := hn.block k2
  replace k3 := hn.block k3
  clear hn
  go_wp2_with fail
  refine (P2.out _).mono ?_
  rintro e w' ⟨rfl, rfl⟩
  go_wp2_with fail
  refine (A2.out _ (hL.of_nb q7)).mono ?_
  rintro e w8a ⟨x2, rfl, hn⟩
  have q8 := q7.trans hn
  replace k1 := hn.block k1
  replace k2 := hn.block k2
  replace k3 := hn.block k3
  clear hn
  obtain ⟨y, d0, d1, d2, d3⟩ := cells4 k3
  obtain ⟨f0, f1, f2, f3⟩ := marks4 k3
  go_wp2_with fail
  clear y d0 d1 d2 d3
  clear f0 f1 f2 f3
  obtain ⟨V2, hW⟩ : ∃ V, w8a.setCell ⟨w.heap.size + 1 + 1, 3, none⟩ (.int .i64 n2) = V := ⟨_, rfl⟩
  have q9 : Nb w V2 := by rw [← hW]; exact q8.setCell (Nat.le_trans (Nat.le_succ _) (Nat.le_succ _)) _
  replace k1 := (heap_setCell_other w8a ⟨w.heap.size + 1 + 1, 3, none⟩ w.heap.size (.int .i64 n2) (Nat.ne_of_lt (Nat.lt_succ_of_lt (Nat.lt_succ_self _)))).trans k1
  replace k2 := (heap_setCell_other w8a ⟨w.heap.size + 1 + 1, 3, none⟩ (w.heap.size + 1) (.int .i64 n2) (Nat.ne_of_lt (Nat.lt_succ_self _))).trans k2
  rw [hW] at k1 k2
  replace k3 := set4_3 (x := .int .i64 n2) k3
  rw [hW] at k3
  rw [hW]
  clear hW
  rw [rounds_succ]
  obtain ⟨y, d0, d1, d2, d3⟩ := cells4 k3
  obtain ⟨z, c0, c1, c2, c3⟩ := cells4 k2
  obtain ⟨f0, f1, f2, f3⟩ := marks4 k2
  go_wp2_with fail
  obtain ⟨U, hW⟩ : ∃ U, (((V2.setCell ⟨w.heap.size + 1, 0, none⟩ (.int .i64 n0)).setCell ⟨w.heap.size + 1, 1, none⟩ (.int .i64 n1)).setCell ⟨w.heap.size + 1, 2, none⟩ (.int .i64 0)).setCell ⟨w.heap.size + 1, 3, none⟩ (.int .i64 n2) = U := ⟨_, rfl⟩
  have hb3 : U.heap[w.heap.size + 1]? = some (.cells #[.int .i64 n0, .int .i64 n1, .int .i64 0, .int .i64 n2] 55 (0, 0)) := by rw [← hW]; exact set4 k2
  have h4 : Nb w U := by rw [← hW]; exact (((q9.setCell (Nat.le_succ _) _).setCell (Nat.le_succ _) _).setCell (Nat.le_succ _) _).setCell (Nat.le_succ _) _
  rw [hW]
  refine bodyPost_ret (results_cell_row rfl _ _ (w.heap.size + 1) _ _ _ _ rfl hb3 Tryd.underlying55 rfl (by kernel_rfl)) rfl ?_
  exact ⟨rfl, h4⟩
set_option maxRecDepth 100000 in
set_option maxHeartbeats 4000000 in
theorem nums_0111 (s0 s1 s2 s3 w0 v0 w1 v1 w2 v2 : Bs) (n0 n1 n2 : Int) (t0 : Bool) (t1 : Bool) (t2 : Bool)
    (C0 : Hid (∀ w, Lw w → Calls Tryd.prog 19 #[.string ⟨s0.toArray⟩, .string ⟨([32] : Bs).toArray⟩] w fun e w' => e = .returned (.tuple #[.string ⟨w0.toArray⟩, .string ⟨s1.toArray⟩, .bool t0]) ∧ Nb w w'))
    (P0 : Hid (∀ w, Calls Tryd.prog 42 #[.string ⟨w0.toArray⟩, .string ⟨([120] : Bs).toArray⟩] w fun e w' => e = .returned (.string ⟨v0.toArray⟩) ∧ w = w'))
    (A0 : Hid (∀ w, Lw w → Calls Tryd.prog 41 #[.string ⟨v0.toArray⟩] w fun e w' => ∃ x, e = .returned (.tuple #[.int .i64 n0, x]) ∧ Nb w w'))
    (C1 : Hid (∀ w, Lw w → Calls Tryd.prog 19 #[.string ⟨s1.toArray⟩, .string ⟨([32] : Bs).toArray⟩] w fun e w' => e = .returned (.tuple #[.string ⟨w1.toArray⟩, .string ⟨s2.toArray⟩, .bool t1]) ∧ Nb w w'))
    (P1 : Hid (∀ w, Calls Tryd.prog 42 #[.string ⟨w1.toArray⟩, .string ⟨([120] : Bs).toArray⟩] w fun e w' => e = .returned (.string ⟨v1.toArray⟩) ∧ w = w'))
    (A1 : Hid (∀ w, Lw w → Calls Tryd.prog 41 #[.string ⟨v1.toArray⟩] w fun e w' => ∃ x, e = .returned (.tuple #[.int .i64 n1, x]) ∧ Nb w w'))
    (C2 : Hid (∀ w, Lw w → Calls Tryd.prog 19 #[.string ⟨s2.toArray⟩, .string ⟨([32] : Bs).toArray⟩] w fun e w' => e = .returned (.tuple #[.string ⟨w2.toArray⟩, .string ⟨s3.toArray⟩, .bool t2]) ∧ Nb w w'))
    (P2 : Hid (∀ w, Calls Tryd.prog 42 #[.string ⟨w2.toArray⟩, .string ⟨([120] : Bs).toArray⟩] w fun e w' => e = .returned (.string ⟨v2.toArray⟩) ∧ w = w'))
    (A2 : Hid (∀ w, Lw w → Calls Tryd.prog 41 #[.string ⟨v2.toArray⟩] w fun e w' => ∃ x, e = .returned (.tuple #[.int .i64 n2, x]) ∧ Nb w w'))
    (w : World) (hL : Lw w) :
    Calls Tryd.prog 21 #[.string ⟨s0.toArray⟩, .agg #[.bool false, .bool true, .bool true, .bool true]] w fun e w' => e = .returned (.agg #[.int .i64 0, .int .i64 n0, .int .i64 n1, .int .i64 n2]) ∧ Nb w w' := by
  go_enter Tryd.func21, Tryd.ntmps21
  go_wp2_with fail
  obtain ⟨W1, h1⟩ : ∃ W1, w.alloc (Obj.cells #[.bool false, .bool true, .bool true, .bool true] 57) = W1 := ⟨_, rfl⟩
  have k1 := blk_made w _ h1 rfl
  have z1 : W1.heap.size = w.heap.size + 1 := by rw [← h1]; exact Array.size_push _
  obtain ⟨W2, h2⟩ : ∃ W2, W1.alloc (Obj.cells #[.int .i64 0, .int .i64 0, .int .i64 0, .int .i64 0] 55) = W2 := ⟨_, rfl⟩
  have k2 := blk_made W1 _ h2 z1
  have z2 : W2.heap.size = w.heap.size + 1 + 1 := by rw [← h2]; exact (Array.size_push _).trans (by rw [z1])
  obtain ⟨W3, h3⟩ : ∃ W3, W2.alloc (Obj.cells #[.int .i64 0, .int .i64 0, .int .i64 0, .int .i64 0] 55) = W3 := ⟨_, rfl⟩
  have k3 := blk_made W2 _ h3 z2
  have m1 : Nb w W1 := by rw [← h1]; exact (Nb.refl _).alloc _
  have m2 : Nb W1 W2 := by rw [← h2]; exact (Nb.refl _).alloc _
  have m3 : Nb W2 W3 := by rw [← h3]; exact (Nb.refl _).alloc _
  have q0 := (m1.trans m2).trans m3
  replace k1 := m3.block (m2.block k1)
  replace k2 := m3.block k2
  rw [h1, h2, h3]
  clear h1 h2 h3 m1 m2 m3 z1 z2
  refine wp_loop_rounds 5 ?_
  obtain ⟨z, c0, c1, c2, c3⟩ := cells4 k1
  rw [rounds_succ]
  go_wp2_with fail
  clear z c0 c1 c2 c3
  obtain ⟨z, c0, c1, c2, c3⟩ := cells4 k1
  rw [rounds_succ]
  go_wp2_with fail
  clear z c0 c1 c2 c3
  refine (C0.out _ (hL.of_nb q0)).mono ?_
  rintro e w1a ⟨rfl, hn⟩
  have q1 := q0.trans hn
  replace k1 := hn.block k1
  replace k2 := hn.block k2
  replace k3 := hn.block k3
  clear hn
  go_wp2_with fail
  refine (P0.out _).mono ?_
  rintro e w' ⟨rfl, rfl⟩
  go_wp2_with fail
  refine (A0.out _ (hL.of_nb q1)).mono ?_
  rintro e w2a ⟨x0, rfl, hn⟩
  have q2 := q1.trans hn
  replace k1 := hn.block k1
  replace k2 := hn.block k2
  replace k3 := hn.block k3
  clear hn
  obtain ⟨y, d0, d1, d2, d3⟩ := cells4 k3
  obtain ⟨f0, f1, f2, f3⟩ := marks4 k3
  go_wp2_with fail
  clear y d0 d1 d2 d3
  clear f0 f1 f2 f3
  obtain ⟨V0, hW⟩ : ∃ V, w2a.setCell ⟨w.heap.size + 1 + 1, 1, none⟩ (.int .i64 n0) = V := ⟨_, rfl⟩
  have q3 : Nb w V0 := by rw [← hW]; exact q2.setCell (Nat.le_trans (Nat.le_succ _) (Nat.le_succ _)) _
  replace k1 := (heap_setCell_other w2a ⟨w.heap.size + 1 + 1, 1, none⟩ w.heap.size (.int .i64 n0) (Nat.ne_of_lt (Nat.lt_succ_of_lt (Nat.lt_succ_self _)))).trans k1
  replace k2 := (heap_setCell_other w2a ⟨w.heap.size + 1 + 1, 1, none⟩ (w.heap.size + 1) (.int .i64 n0) (Nat.ne_of_lt (Nat.lt_succ_self _))).trans k2
  rw [hW] at k1 k2
  replace k3 := set4_1 (x := .int .i64 n0) k3
  rw [hW] at k3
  rw [hW]
  clear hW
  obtain ⟨z, c0, c1, c2, c3⟩ := cells4 k1
  rw [rounds_succ]
  go_wp2_with fail
  clear z c0 c1 c2 c3
  refine (C1.out _ (hL.of_nb q3)).mono ?_
  rintro e w4a ⟨rfl, hn⟩
  have q4 := q3.trans hn
  replace k1 := hn.block k1
  replace k2 := hn.block k2
  replace k3 := hn.block k3
  clear hn
  go_wp2_with fail
  refine (P1.out _).mono ?_
  rintro e w' ⟨rfl, rfl⟩
  go_wp2_with fail
  refine (A1.out _ (hL.of_nb q4)).mono ?_
  rintro e w5a ⟨x1, rfl, hn⟩
  have q5 := q4.trans hn
  replace k1 := hn.block k1
  replace k2 := hn.block k2
  replace k3 := hn.block k3
  clear hn
  obtain ⟨y, d0, d1, d2, d3⟩ := cells4 k3
  obtain ⟨f0, f1, f2, f3⟩ := marks4 k3
  go_wp2_with fail
  clear y d0 d1 d2 d3
  clear f0 f1 f2 f3
  obtain ⟨V1, hW⟩ : ∃ V, w5a.setCell ⟨w.heap.size + 1 + 1, 2, none⟩ (.int .i64 n1) = V := ⟨_, rfl⟩
  have q6 : Nb w V1 := by rw [← hW]; exact q5.setCell (Nat.le_trans (Nat.le_succ _) (Nat.le_succ _)) _
  replace k1 := (heap_setCell_other w5a ⟨w.heap.size + 1 + 1, 2, none⟩ w.heap.size (.int .i64 n1) (Nat.ne_of_lt (Nat.lt_succ_of_lt (Nat.lt_succ_self _)))).trans k1
  replace k2 := (heap_setCell_other w5a ⟨w.heap.size + 1 + 1, 2, none⟩ (w.heap.size + 1) (.int .i64 n1) (Nat.ne_of_lt (Nat.lt_succ_self _))).trans k2
  rw [hW] at k1 k2
  replace k3 := set4_2 (x := .int .i64 n1) k3
  rw [hW] at k3
  rw [hW]
  clear hW
  obtain ⟨z, c0, c1, c2, c3⟩ := cells4 k1
  rw [rounds_succ]
  go_wp2_with fail
  clear z c0 c1 c2 c3
  refine (C2.out _ (hL.of_nb q6)).mono ?_
  rintro e w7a ⟨rfl, hn⟩
  have q7 := q6.trans hn
  replace k1 := hn.block k1
  replace k2 := hn.block k2
  replace k3 := hn.block k3
  clear hn
  go_wp2_with fail
  refine (P2.out _).mono ?_
  rintro e w' ⟨rfl, rfl⟩
  go_wp2_with fail
  refine (A2.out _ (hL.of_nb q7)).mono ?_
  rintro e w8a ⟨x2, rfl, hn⟩
  have q8 := q7.trans hn
  replace k1 := hn.block k1
  replace k2 := hn.block k2
  replace k3 := hn.block k3
  clear hn
  obtain ⟨y, d0, d1, d2, d3⟩ := cells4 k3
  obtain ⟨f0, f1, f2, f3⟩ := marks4 k3
  go_wp2_with fail
  clear y d0 d1 d2 d3
  clear f0 f1 f2 f3
  obtain ⟨V2, hW⟩ : ∃ V, w8a.setCell ⟨w.heap.size + 1 + 1, 3, none⟩ (.int .i64 n2) = V := ⟨_, rfl⟩
  have q9 : Nb w V2 := by rw [← hW]; exact q8.setCell (Nat.le_trans (Nat.le_succ _) (Nat.le_succ _)) _
  replace k1 := (heap_setCell_other w8a ⟨w.heap.size + 1 + 1, 3, none⟩ w.heap.size (.int .i64 n2) (Nat.ne_of_lt (Nat.lt_succ_of_lt (Nat.lt_succ_self _)))).trans k1
  replace k2 := (heap_setCell_other w8a ⟨w.heap.size + 1 + 1, 3, none⟩ (w.heap.size + 1) (.int .i64 n2) (Nat.ne_of_lt (Nat.lt_succ_self _))).trans k2
  rw [hW] at k1 k2
  replace k3 := set4_3 (x := .int .i64 n2) k3
  rw [hW] at k3
  rw [hW]
  clear hW
  rw [rounds_succ]
  obtain ⟨y, d0, d1, d2, d3⟩ := cells4 k3
  obtain ⟨z, c0, c1, c2, c3⟩ := cells4 k2
  obtain ⟨f0, f1, f2, f3⟩ := marks4 k2
  go_wp2_with fail
  obtain ⟨U, hW⟩ : ∃ U, (((V2.setCell ⟨w.heap.size + 1, 0, none⟩ (.int .i64 0)).setCell ⟨w.heap.size + 1, 1, none⟩ (.int .i64 n0)).setCell ⟨w.heap.size + 1, 2, none⟩ (.int .i64 n1)).setCell ⟨w.heap.size + 1, 3, none⟩ (.int .i64 n2) = U := ⟨_, rfl⟩
  have hb3 : U.heap[w.heap.size + 1]? = some (.cells #[.int .i64 0, .int .i64 n0, .int .i64 n1, .int .i64 n2] 55 (0, 0)) := by rw [← hW]; exact set4 k2
  have h4 : Nb w U := by rw [← hW]; exact (((q9.setCell (Nat.le_succ _) _).setCell (Nat.le_succ _) _).setCell (Nat.le_succ _) _).setCell (Nat.le_succ _) _
  rw [hW]
  refine bodyPost_ret (results_cell_row rfl _ _ (w.heap.size + 1) _ _ _ _ rfl hb3 Tryd.underlying55 rfl (by kernel_rfl)) rfl ?_
  exact ⟨rfl, h4⟩
set_option maxRecDepth 100000 in
set_option maxHeartbeats 4000000 in
theorem nums_1110 (s0 s1 s2 s3 w0 v0 w1 v1 w2 v2 : Bs) (n0 n1 n2 : Int) (t0 : Bool) (t1 : Bool) (t2 : Bool)
    (C0 : Hid (∀ w, Lw w → Calls Tryd.prog 19 #[.string ⟨s0.toArray⟩, .string ⟨([32] : Bs).toArray⟩] w fun e w' => e = .returned (.tuple #[.string ⟨w0.toArray⟩, .string ⟨s1.toArray⟩, .bool t0]) ∧ Nb w w'))
    (P0 : Hid (∀ w, Calls Tryd.prog 42 #[.string ⟨w0.toArray⟩, .string ⟨([120] : Bs).toArray⟩] w fun e w' => e = .returned (.string ⟨v0.toArray⟩) ∧ w = w'))
    (A0 : Hid (∀ w, Lw w → Calls Tryd.prog 41 #[.string ⟨v0.toArray⟩] w fun e w' => ∃ x, e = .returned (.tuple #[.int .i64 n0, x]) ∧ Nb w w'))
    (C1 : Hid (∀ w, Lw w → Calls Tryd.prog 19 #[.string ⟨s1.toArray⟩, .string ⟨([32] : Bs).toArray⟩] w fun e w' => e = .returned (.tuple #[.string ⟨w1.toArray⟩, .string ⟨s2.toArray⟩, .bool t1]) ∧ Nb w w'))
    (P1 : Hid (∀ w, Calls Tryd.prog 42 #[.string ⟨w1.toArray⟩, .string ⟨([120] : Bs).toArray⟩] w fun e w' => e = .returned (.string ⟨v1.toArray⟩) ∧ w = w'))
    (A1 : Hid (∀ w, Lw w → Calls Tryd.prog 41 #[.string ⟨v1.toArray⟩] w fun e w' => ∃ x, e = .returned (.tuple #[.int .i64 n1, x]) ∧ Nb w w'))
    (C2 : Hid (∀ w, Lw w → Calls Tryd.prog 19 #[.string ⟨s2.toArray⟩, .string ⟨([32] : Bs).toArray⟩] w fun e w' => e = .returned (.tuple #[.string ⟨w2.toArray⟩, .string ⟨s3.toArray⟩, .bool t2]) ∧ Nb w w'))
    (P2 : Hid (∀ w, Calls Tryd.prog 42 #[.string ⟨w2.toArray⟩, .string ⟨([120] : Bs).toArray⟩] w fun e w' => e = .returned (.string ⟨v2.toArray⟩) ∧ w = w'))
    (A2 : Hid (∀ w, Lw w → Calls Tryd.prog 41 #[.string ⟨v2.toArray⟩] w fun e w' => ∃ x, e = .returned (.tuple #[.int .i64 n2, x]) ∧ Nb w w'))
    (w : World) (hL : Lw w) :
    Calls Tryd.prog 21 #[.string ⟨s0.toArray⟩, .agg #[.bool true, .bool true, .bool true, .bool false]] w fun e w' => e = .returned (.agg #[.int .i64 n0, .int .i64 n1, .int .i64 n2, .int .i64 0]) ∧ Nb w w' := by
  go_enter Tryd.func21, Tryd.ntmps21
  go_wp2_with fail
  obtain ⟨W1, h1⟩ : ∃ W1, w.alloc (Obj.cells #[.bool true, .bool true, .bool true, .bool false] 57) = W1 := ⟨_, rfl⟩
  have k1 := blk_made w _ h1 rfl
  have z1 : W1.heap.size = w.heap.size + 1 := by rw [← h1]; exact Array.size_push _
  obtain ⟨W2, h2⟩ : ∃ W2, W1.alloc (Obj.cells #[.int .i64 0, .int .i64 0, .int .i64 0, .int .i64 0] 55) = W2 := ⟨_, rfl⟩
  have k2 := blk_made W1 _ h2 z1
  have z2 : W2.heap.size = w.heap.size + 1 + 1 := by rw [← h2]; exact (Array.size_push _).trans (by rw [z1])
  obtain ⟨W3, h3⟩ : ∃ W3, W2.alloc (Obj.cells #[.int .i64 0, .int .i64 0, .int .i64 0, .int .i64 0] 55) = W3 := ⟨_, rfl⟩
  have k3 := blk_made W2 _ h3 z2
  have m1 : Nb w W1 := by rw [← h1]; exact (Nb.refl _).alloc _
  have m2 : Nb W1 W2 := by rw [← h2]; exact (Nb.refl _).alloc _
  have m3 : Nb W2 W3 := by rw [← h3]; exact (Nb.refl _).alloc _
  have q0 := (m1.trans m2).trans m3
  replace k1 := m3.block (m2.block k1)
  replace k2 := m3.block k2
  rw [h1, h2, h3]
  clear h1 h2 h3 m1 m2 m3 z1 z2
  refine wp_loop_rounds 5 ?_
  obtain ⟨z, c0, c1, c2, c3⟩ := cells4 k1
  rw [rounds_succ]
  go_wp2_with fail
  clear z c0 c1 c2 c3
  refine (C0.out _ (hL.of_nb q0)).mono ?_
  rintro e w1a ⟨rfl, hn⟩
  have q1 := q0.trans hn
  replace k1 := hn.block k1
  replace k2 := hn.block k2
  replace k3 := hn.block k3
  clear hn
  go_wp2_with fail
  refine (P0.out _).mono ?_
  rintro e w' ⟨rfl, rfl⟩
  go_wp2_with fail
  refine (A0.out _ (hL.of_nb q1)).mono ?_
  rintro e w2a ⟨x0, rfl, hn⟩
  have q2 := q1.trans hn
  replace k1 := hn.block k1
  replace k2 := hn.block k2
  replace k3 := hn.block k3
  clear hn
  obtain ⟨y, d0, d1, d2, d3⟩ := cells4 k3
  obtain ⟨f0, f1, f2, f3⟩ := marks4 k3
  go_wp2_with fail
  clear y d0 d1 d2 d3
  clear f0 f1 f2 f3
  obtain ⟨V0, hW⟩ : ∃ V, w2a.setCell ⟨w.heap.size + 1 + 1, 0, none⟩ (.int .i64 n0) = V := ⟨_, rfl⟩
  have q3 : Nb w V0 := by rw [← hW]; exact q2.setCell (Nat.le_trans (Nat.le_succ _) (Nat.le_succ _)) _
  replace k1 := (heap_setCell_other w2a ⟨w.heap.size + 1 + 1, 0, none⟩ w.heap.size (.int .i64 n0) (Nat.ne_of_lt (Nat.lt_succ_of_lt (Nat.lt_succ_self _)))).trans k1
  replace k2 := (heap_setCell_other w2a ⟨w.heap.size + 1 + 1, 0, none⟩ (w.heap.size + 1) (.int .i64 n0) (Nat.ne_of_lt (Nat.lt_succ_self _))).trans k2
  rw [hW] at k1 k2
  replace k3 := set4_0 (x := .int .i64 n0) k3
  rw [hW] at k3
  rw [hW]
  clear hW
  obtain ⟨z, c0, c1, c2, c3⟩ := cells4 k1
  rw [rounds_succ]
  go_wp2_with fail
  clear z c0 c1 c2 c3
  refine (C1.out _ (hL.of_nb q3)).mono ?_
  rintro e w4a ⟨rfl, hn⟩
  have q4 := q3.trans hn
  replace k1 := hn.block k1
  replace k2 := hn.block k2
  replace k3 := hn.block k3
  clear hn
  go_wp2_with fail
  refine (P1.out _).mono ?_
  rintro e w' ⟨rfl, rfl⟩
  go_wp2_with fail
  refine (A1.out _ (hL.of_nb q4)).mono ?_
  rintro e w5a ⟨x1, rfl, hn⟩
  have q5 := q4.trans hn
  replace k1 := hn.block k1
  replace k2 := hn.block k2
  replace k3 := hn.block k3
  clear hn
  obtain ⟨y, d0, d1, d2, d3⟩ := cells4 k3
  obtain ⟨f0, f1, f2, f3⟩ := marks4 k3
  go_wp2_with fail
  clear y d0 d1 d2 d3
  clear f0 f1 f2 f3
  obtain ⟨V1, hW⟩ : ∃ V, w5a.setCell ⟨w.heap.size + 1 + 1, 1, none⟩ (.int .i64 n1) = V := ⟨_, rfl⟩
  have q6 : Nb w V1 := by rw [← hW]; exact q5.setCell (Nat.le_trans (Nat.le_succ _) (Nat.le_succ _)) _
  replace k1 := (heap_setCell_other w5a ⟨w.heap.size + 1 + 1, 1, none⟩ w.heap.size (.int .i64 n1) (Nat.ne_of_lt (Nat.lt_succ_of_lt (Nat.lt_succ_self _)))).trans k1
  replace k2 := (heap_setCell_other w5a ⟨w.heap.size + 1 + 1, 1, none⟩ (w.heap.size + 1) (.int .i64 n1) (Nat.ne_of_lt (Nat.lt_succ_self _))).trans k2
  rw [hW] at k1 k2
  replace k3 := set4_1 (x := .int .i64 n1) k3
  rw [hW] at k3
  rw [hW]
  clear hW
  obtain ⟨z, c0, c1, c2, c3⟩ := cells4 k1
  rw [rounds_succ]
  go_wp2_with fail
  clear z c0 c1 c2 c3
  refine (C2.out _ (hL.of_nb q6)).mono ?_
  rintro e w7a ⟨rfl, hn⟩
  have q7 := q6.trans hn
  replace k1 := hn.block k1
  replace k2 := hn.block k2
  replace k3 := hn.block k3
  clear hn
  go_wp2_with fail
  refine (P2.out _).mono ?_
  rintro e w' ⟨rfl, rfl⟩
  go_wp2_with fail
  refine (A2.out _ (hL.of_nb q7)).mono ?_
  rintro e w8a ⟨x2, rfl, hn⟩
  have q8 := q7.trans hn
  replace k1 := hn.block k1
  replace k2 := hn.block k2
  replace k3 := hn.block k3
  clear hn
  obtain ⟨y, d0, d1, d2, d3⟩ := cells4 k3
  obtain ⟨f0, f1, f2, f3⟩ := marks4 k3
  go_wp2_with fail
  clear y d0 d1 d2 d3
  clear f0 f1 f2 f3
  obtain ⟨V2, hW⟩ : ∃ V, w8a.setCell ⟨w.heap.size + 1 + 1, 2, none⟩ (.int .i64 n2) = V := ⟨_, rfl⟩
  have q9 : Nb w V2 := by rw [← hW]; exact q8.setCell (Nat.le_trans (Nat.le_succ _) (Nat.le_succ _)) _
  replace k1 := (heap_setCell_other w8a ⟨w.heap.size + 1 + 1, 2, none⟩ w.heap.size (.int .i64 n2) (Nat.ne_of_lt (Nat.lt_succ_of_lt (Nat.lt_succ_self _)))).trans k1
  replace k2 := (heap_setCell_other w8a ⟨w.heap.size + 1 + 1, 2, none⟩ (w.heap.size + 1) (.int .i64 n2) (Nat.ne_of_lt (Nat.lt_succ_self _))).trans k2
  rw [hW] at k1 k2
  replace k3 := set4_2 (x := .int .i64 n2) k3
  rw [hW] at k3
  rw [hW]
  clear hW
  obtain ⟨z, c0, c1, c2, c3⟩ := cells4 k1
  rw [rounds_succ]
  go_wp2_with fail
  clear z c0 c1 c2 c3
  rw [rounds_succ]
  obtain ⟨y, d0, d1, d2, d3⟩ := cells4 k3
  obtain ⟨z, c0, c1, c2, c3⟩ := cells4 k2
  obtain ⟨f0, f1, f2, f3⟩ := marks4 k2
  go_wp2_with fail
  obtain ⟨U, hW⟩ : ∃ U, (((V2.setCell ⟨w.heap.size + 1, 0, none⟩ (.int .i64 n0)).setCell ⟨w.heap.size + 1, 1, none⟩ (.int .i64 n1)).setCell ⟨w.heap.size + 1, 2, none⟩ (.int .i64 n2)).setCell ⟨w.heap.size + 1, 3, none⟩ (.int .i64 0) = U := ⟨_, rfl⟩
  have hb3 : U.heap[w.heap.size + 1]? = some (.cells #[.int .i64 n0, .int .i64 n1, .int .i64 n2, .int .i64 0] 55 (0, 0)) := by rw [← hW]; exact set4 k2
  have h4 : Nb w U := by rw [← hW]; exact (((q9.setCell (Nat.le_succ _) _).setCell (Nat.le_succ _) _).setCell (Nat.le_succ _) _).setCell (Nat.le_succ _) _
  rw [hW]
  refine bodyPost_ret (results_cell_row rfl _ _ (w.heap.size + 1) _ _ _ _ rfl hb3 Tryd.underlying55 rfl (by kernel_rfl)) rfl ?_
  exact ⟨rfl, h4⟩
set_option maxRecDepth 100000 in
set_option maxHeartbeats 4000000 in
theorem nums_0001 (s0 s1 w0 v0 : Bs) (n0 : Int) (t0 : Bool)
    (C0 : Hid (∀ w, Lw w → Calls Tryd.prog 19 #[.string ⟨s0.toArray⟩, .string ⟨([32] : Bs).toArray⟩] w fun e w' => e = .returned (.tuple #[.string ⟨w0.toArray⟩, .string ⟨s1.toArray⟩, .bool t0]) ∧ Nb w w'))
    (P0 : Hid (∀ w, Calls Tryd.prog 42 #[.string ⟨w0.toArray⟩, .string ⟨([120] : Bs).toArray⟩] w fun e w' => e = .returned (.string ⟨v0.toArray⟩) ∧ w = w'))
    (A0 : Hid (∀ w, Lw w → Calls Tryd.prog 41 #[.string ⟨v0.toArray⟩] w fun e w' => ∃ x, e = .returned (.tuple #[.int .i64 n0, x]) ∧ Nb w w'))
    (w : World) (hL : Lw w) :
    Calls Tryd.prog 21 #[.string ⟨s0.toArray⟩, .agg #[.bool false, .bool false, .bool false, .bool true]] w fun e w' => e = .returned (.agg #[.int .i64 0, .int .i64 0, .int .i64 0, .int .i64 n0]) ∧ Nb w w' := by
  go_enter Tryd.func21, Tryd.ntmps21
  go_wp2_with fail
  obtain ⟨W1, h1⟩ : ∃ W1, w.alloc (Obj.cells #[.bool false, .bool false, .bool false, .bool true] 57) = W1 := ⟨_, rfl⟩
  have k1 := blk_made w _ h1 rfl
  have z1 : W1.heap.size = w.heap.size + 1 := by rw [← h1]; exact Array.size_push _
  obtain ⟨W2, h2⟩ : ∃ W2, W1.alloc (Obj.cells #[.int .i64 0, .int .i64 0, .int .i64 0, .int .i64 0] 55) = W2 := ⟨_, rfl⟩
  have k2 := blk_made W1 _ h2 z1
  have z2 : W2.heap.size = w.heap.size + 1 + 1 := by rw [← h2]; exact (Array.size_push _).trans (by rw [z1])
  obtain ⟨W3, h3⟩ : ∃ W3, W2.alloc (Obj.cells #[.int .i64 0, .int .i64 0, .int .i64 0, .int .i64 0] 55) = W3 := ⟨_, rfl⟩
  have k3 := blk_made W2 _ h3 z2
  have m1 : Nb w W1 := by rw [← h1]; exact (Nb.refl _).alloc _
  have m2 : Nb W1 W2 := by rw [← h2]; exact (Nb.refl _).alloc _
  have m3 : Nb W2 W3 := by rw [← h3]; exact (Nb.refl _).alloc _
  have q0 := (m1.trans m2).trans m3
  replace k1 := m3.block (m2.block k1)
  replace k2 := m3.block k2
  rw [h1, h2, h3]
  clear h1 h2 h3 m1 m2 m3 z1 z2
  refine wp_loop_rounds 5 ?_
  obtain ⟨z, c0, c1, c2, c3⟩ := cells4 k1
  rw [rounds_succ]
  go_wp2_with fail
  clear z c0 c1 c2 c3
  obtain ⟨z, c0, c1, c2, c3⟩ := cells4 k1
  rw [rounds_succ]
  go_wp2_with fail
  clear z c0 c1 c2 c3
  obtain ⟨z, c0, c1, c2, c3⟩ := cells4 k1
  rw [rounds_succ]
  go_wp2_with fail
  clear z c0 c1 c2 c3
  obtain ⟨z, c0, c1, c2, c3⟩ := cells4 k1
  rw [rounds_succ]
  go_wp2_with fail
  clear z c0 c1 c2 c3
  refine (C0.out _ (hL.of_nb q0)).mono ?_
  rintro e w1a ⟨rfl, hn⟩
  have q1 := q0.trans hn
  replace k1 := hn.block k1
  replace k2 := hn.block k2
  replace k3 := hn.block k3
  clear hn
  go_wp2_with fail
  refine (P0.out _).mono ?_
  rintro e w' ⟨rfl, rfl⟩
  go_wp2_with fail
  refine (A0.out _ (hL.of_nb q1)).mono ?_
  rintro e w2a ⟨x0, rfl, hn⟩
  have q2 := q1.trans hn
  replace k1 := hn.block k1
  replace k2 := hn.block k2
  replace k3 := hn.block k3
  clear hn
  obtain ⟨y, d0, d1, d2, d3⟩ := cells4 k3
  obtain ⟨f0, f1, f2, f3⟩ := marks4 k3
  go_wp2_with fail
  clear y d0 d1 d2 d3
  clear f0 f1 f2 f3
  obtain ⟨V0, hW⟩ : ∃ V, w2a.setCell ⟨w.heap.size + 1 + 1, 3, none⟩ (.int .i64 n0) = V := ⟨_, rfl⟩
  have q3 : Nb w V0 := by rw [← hW]; exact q2.setCell (Nat.le_trans (Nat.le_succ _) (Nat.le_succ _)) _
  replace k1 := (heap_setCell_other w2a ⟨w.heap.size + 1 + 1, 3, none⟩ w.heap.size (.int .i64 n0) (Nat.ne_of_lt (Nat.lt_succ_of_lt (Nat.lt_succ_self _)))).trans k1
  replace k2 := (heap_setCell_other w2a ⟨w.heap.size + 1 + 1, 3, none⟩ (w.heap.size + 1) (.int .i64 n0) (Nat.ne_of_lt (Nat.lt_succ_self _))).trans k2
  rw [hW] at k1 k2
  replace k3 := set4_3 (x := .int .i64 n0) k3
  rw [hW] at k3
  rw [hW]
  clear hW
  rw [rounds_succ]
  obtain ⟨y, d0, d1, d2, d3⟩ := cells4 k3
  obtain ⟨z, c0, c1, c2, c3⟩ := cells4 k2
  obtain ⟨f0, f1, f2, f3⟩ := marks4 k2
  go_wp2_with fail
  obtain ⟨U, hW⟩ : ∃ U, (((V0.setCell ⟨w.heap.size + 1, 0, none⟩ (.int .i64 0)).setCell ⟨w.heap.size + 1, 1, none⟩ (.int .i64 0)).setCell ⟨w.heap.size + 1, 2, none⟩ (.int .i64 0)).setCell ⟨w.heap.size + 1, 3, none⟩ (.int .i64 n0) = U := ⟨_, rfl⟩
  have hb3 : U.heap[w.heap.size + 1]? = some (.cells #[.int .i64 0, .int .i64 0, .int .i64 0, .int .i64 n0] 55 (0, 0)) := by rw [← hW]; exact set4 k2
  have h4 : Nb w U := by rw [← hW]; exact (((q3.setCell (Nat.le_succ _) _).setCell (Nat.le_succ _) _).setCell (Nat.le_succ _) _).setCell (Nat.le_succ _) _
  rw [hW]
  refine bodyPost_ret (results_cell_row rfl _ _ (w.heap.size + 1) _ _ _ _ rfl hb3 Tryd.underlying55 rfl (by kernel_rfl)) rfl ?_
  exact ⟨rfl, h4⟩
set_option maxRecDepth 100000 in
set_option maxHeartbeats 4000000 in
theorem nums_0000 (s0 : Bs)
    (w : World) (hL : Lw w) :
    Calls Tryd.prog 21 #[.string ⟨s0.toArray⟩, .agg #[.bool false, .bool false, .bool false, .bool false]] w fun e w' => e = .returned (.agg #[.int .i64 0, .int .i64 0, .int .i64 0, .int .i64 0]) ∧ Nb w w' := by
  go_enter Tryd.func21, Tryd.ntmps21
  go_wp2_with fail
  obtain ⟨W1, h1⟩ : ∃ W1, w.alloc (Obj.cells #[.bool false, .bool false, .bool false, .bool false] 57) = W1 := ⟨_, rfl⟩
  have k1 := blk_made w _ h1 rfl
  have z1 : W1.heap.size = w.heap.size + 1 := by rw [← h1]; exact Array.size_push _
  obtain ⟨W2, h2⟩ : ∃ W2, W1.alloc (Obj.cells #[.int .i64 0, .int .i64 0, .int .i64 0, .int .i64 0] 55) = W2 := ⟨_, rfl⟩
  have k2 := blk_made W1 _ h2 z1
  have z2 : W2.heap.size = w.heap.size + 1 + 1 := by rw [← h2]; exact (Array.size_push _).trans (by rw [z1])
  obtain ⟨W3, h3⟩ : ∃ W3, W2.alloc (Obj.cells #[.int .i64 0, .int .i64 0, .int .i64 0, .int .i64 0] 55) = W3 := ⟨_, rfl⟩
  have k3 := blk_made W2 _ h3 z2
  have m1 : Nb w W1 := by rw [← h1]; exact (Nb.refl _).alloc _
  have m2 : Nb W1 W2 := by rw [← h2]; exact (Nb.refl _).alloc _
  have m3 : Nb W2 W3 := by rw [← h3]; exact (Nb.refl _).alloc _
  have q0 := (m1.trans m2).trans m3
  replace k1 := m3.block (m2.block k1)
  replace k2 := m3.block k2
  rw [h1, h2, h3]
  clear h1 h2 h3 m1 m2 m3 z1 z2
  refine wp_loop_rounds 5 ?_
  obtain ⟨z, c0, c1, c2, c3⟩ := cells4 k1
  rw [rounds_succ]
  go_wp2_with fail
  clear z c0 c1 c2 c3
  obtain ⟨z, c0, c1, c2, c3⟩ := cells4 k1
  rw [rounds_succ]
  go_wp2_with fail
  clear z c0 c1 c2 c3
  obtain ⟨z, c0, c1, c2, c3⟩ := cells4 k1
  rw [rounds_succ]
  go_wp2_with fail
  clear z c0 c1 c2 c3
  obtain ⟨z, c0, c1, c2, c3⟩ := cells4 k1
  rw [rounds_succ]
  go_wp2_with fail
  clear z c0 c1 c2 c3
  rw [rounds_succ]
  obtain ⟨y, d0, d1, d2, d3⟩ := cells4 k3
  obtain ⟨z, c0, c1, c2, c3⟩ := cells4 k2
  obtain ⟨f0, f1, f2, f3⟩ := marks4 k2
  go_wp2_with fail
  obtain ⟨U, hW⟩ : ∃ U, (((W3.setCell ⟨w.heap.size + 1, 0, none⟩ (.int .i64 0)).setCell ⟨w.heap.size + 1, 1, none⟩ (.int .i64 0)).setCell ⟨w.heap.size + 1, 2, none⟩ (.int .i64 0)).setCell ⟨w.heap.size + 1, 3, none⟩ (.int .i64 0) = U := ⟨_, rfl⟩
  have hb3 : U.heap[w.heap.size + 1]? = some (.cells #[.int .i64 0, .int .i64 0, .int .i64 0, .int .i64 0] 55 (0, 0)) := by rw [← hW]; exact set4 k2
  have h4 : Nb w U := by rw [← hW]; exact (((q0.setCell (Nat.le_succ _) _).setCell (Nat.le_succ _) _).setCell (Nat.le_succ _) _).setCell (Nat.le_succ _) _
  rw [hW]
  refine bodyPost_ret (results_cell_row rfl _ _ (w.heap.size + 1) _ _ _ _ rfl hb3 Tryd.underlying55 rfl (by kernel_rfl)) rfl ?_
  exact ⟨rfl, h4⟩
set_option maxRecDepth 100000 in
set_option maxHeartbeats 4000000 in
theorem nums_1100 (s0 s1 s2 w0 v0 w1 v1 : Bs) (n0 n1 : Int) (t0 : Bool) (t1 : Bool)
    (C0 : Hid (∀ w, Lw w → Calls Tryd.prog 19 #[.string ⟨s0.toArray⟩, .string ⟨([32] : Bs).toArray⟩] w fun e w' => e = .returned (.tuple #[.string ⟨w0.toArray⟩, .string ⟨s1.toArray⟩, .bool t0]) ∧ Nb w w'))
    (P0 : Hid (∀ w, Calls Tryd.prog 42 #[.string ⟨w0.toArray⟩, .string ⟨([120] : Bs).toArray⟩] w fun e w' => e = .returned (.string ⟨v0.toArray⟩) ∧ w = w'))
    (A0 : Hid (∀ w, Lw w → Calls Tryd.prog 41 #[.string ⟨v0.toArray⟩] w fun e w' => ∃ x, e = .returned (.tuple #[.int .i64 n0, x]) ∧ Nb w w'))
    (C1 : Hid (∀ w, Lw w → Calls Tryd.prog 19 #[.string ⟨s1.toArray⟩, .string ⟨([32] : Bs).toArray⟩] w fun e w' => e = .returned (.tuple #[.string ⟨w1.toArray⟩, .string ⟨s2.toArray⟩, .bool t1]) ∧ Nb w w'))
    (P1 : Hid (∀ w, Calls Tryd.prog 42 #[.string ⟨w1.toArray⟩, .string ⟨([120] : Bs).toArray⟩] w fun e w' => e = .returned (.string ⟨v1.toArray⟩) ∧ w = w'))
    (A1 : Hid (∀ w, Lw w → Calls Tryd.prog 41 #[.string ⟨v1.toArray⟩] w fun e w' => ∃ x, e = .returned (.tuple #[.int .i64 n1, x]) ∧ Nb w w'))
    (w : World) (hL : Lw w) :
    Calls Tryd.prog 21 #[.string ⟨s0.toArray⟩, .agg #[.bool true, .bool true, .bool false, .bool false]] w fun e w' => e = .returned (.agg #[.int .i64 n0, .int .i64 n1, .int .i64 0, .int .i64 0]) ∧ Nb w w' := by
  go_enter Tryd.func21, Tryd.ntmps21
  go_wp2_with fail
  obtain ⟨W1, h1⟩ : ∃ W1, w.alloc (Obj.cells #[.bool true, .bool true, .bool false, .bool false] 57) = W1 := ⟨_, rfl⟩
  have k1 := blk_made w _ h1 rfl
  have z1 : W1.heap.size = w.heap.size + 1 := by rw [← h1]; exact Array.size_push _
  obtain ⟨W2, h2⟩ : ∃ W2, W1.alloc (Obj.cells #[.int .i64 0, .int .i64 0, .int .i64 0, .int .i64 0] 55) = W2 := ⟨_, rfl⟩
  have k2 := blk_made W1 _ h2 z1
  have z2 : W2.heap.size = w.heap.size + 1 + 1 := by rw [← h2]; exact (Array.size_push _).trans (by rw [z1])
  obtain ⟨W3, h3⟩ : ∃ W3, W2.alloc (Obj.cells #[.int .i64 0, .int .i64 0, .int .i64 0, .int .i64 0] 55) = W3 := ⟨_, rfl⟩
  have k3 := blk_made W2 _ h3 z2
  have m1 : Nb w W1 := by rw [← h1]; exact (Nb.refl _).alloc _
  have m2 : Nb W1 W2 := by rw [← h2]; exact (Nb.refl _).alloc _
  have m3 : Nb W2 W3 := by rw [← h3]; exact (Nb.refl _).alloc _
  have q0 := (m1.trans m2).trans m3
  replace k1 := m3.block (m2.block k1)
  replace k2 := m3.block k2
  rw [h1, h2, h3]
  clear h1 h2 h3 m1 m2 m3 z1 z2
  refine wp_loop_rounds 5 ?_
  obtain ⟨z, c0, c1, c2, c3⟩ := cells4 k1
  rw [rounds_succ]
  go_wp2_with fail
  clear z c0 c1 c2 c3
  refine (C0.out _ (hL.of_nb q0)).mono ?_
  rintro e w1a ⟨rfl, hn⟩
  have q1 := q0.trans hn
  replace k1 := hn.block k1
  replace k2 := hn.block k2
  replace k3 := hn.block k3
  clear hn
  go_wp2_with fail
  refine (P0.out _).mono ?_
  rintro e w' ⟨rfl, rfl⟩
  go_wp2_with fail
  refine (A0.out _ (hL.of_nb q1)).mono ?_
  rintro e w2a ⟨x0, rfl, hn⟩
  have q2 := q1.trans hn
  replace k1 := hn.block k1
  replace k2 := hn.block k2
  replace k3 := hn.block k3
  clear hn
  obtain ⟨y, d0, d1, d2, d3⟩ := cells4 k3
  obtain ⟨f0, f1, f2, f3⟩ := marks4 k3
  go_wp2_with fail
  clear y d0 d1 d2 d3
  clear f0 f1 f2 f3
  obtain ⟨V0, hW⟩ : ∃ V, w2a.setCell ⟨w.heap.size + 1 + 1, 0, none⟩ (.int .i64 n0) = V := ⟨_, rfl⟩
  have q3 : Nb w V0 := by rw [← hW]; exact q2.setCell (Nat.le_trans (Nat.le_succ _) (Nat.le_succ _)) _
  replace k1 := (heap_setCell_other w2a ⟨w.heap.size + 1 + 1, 0, none⟩ w.heap.size (.int .i64 n0) (Nat.ne_of_lt (Nat.lt_succ_of_lt (Nat.lt_succ_self _)))).trans k1
  replace k2 := (heap_setCell_other w2a ⟨w.heap.size + 1 + 1, 0, none⟩ (w.heap.size + 1) (.int .i64 n0) (Nat.ne_of_lt (Nat.lt_succ_self _))).trans k2
  rw [hW] at k1 k2
  replace k3 := set4_0 (x := .int .i64 n0) k3
  rw [hW] at k3
  rw [hW]
  clear hW
  obtain ⟨z, c0, c1, c2, c3⟩ := cells4 k1
  rw [rounds_succ]
  go_wp2_with fail
  clear z c0 c1 c2 c3
  refine (C1.out _ (hL.of_nb q3)).mono ?_
  rintro e w4a ⟨rfl, hn⟩
  have q4 := q3.trans hn
  replace k1 := hn.block k1
  replace k2 := hn.block k2
  replace k3 := hn.block k3
  clear hn
  go_wp2_with fail
  refine (P1.out _).mono ?_
  rintro e w' ⟨rfl, rfl⟩
  go_wp2_with fail
  refine (A1.out _ (hL.of_nb q4)).mono ?_
  rintro e w5a ⟨x1, rfl, hn⟩
  have q5 := q4.trans hn
  replace k1 := hn.block k1
  replace k2 := hn.block k2
  replace k3 := hn.block k3
  clear hn
  obtain ⟨y, d0, d1, d2, d3⟩ := cells4 k3
  obtain ⟨f0, f1, f2, f3⟩ := marks4 k3
  go_wp2_with fail
  clear y d0 d1 d2 d3
  clear f0 f1 f2 f3
  obtain ⟨V1, hW⟩ : ∃ V, w5a.setCell ⟨w.heap.size + 1 + 1, 1, none⟩ (.int .i64 n1) = V := ⟨_, rfl⟩
  have q6 : Nb w V1 := by rw [← hW]; exact q5.setCell (Nat.le_trans (Nat.le_succ _) (Nat.le_succ _)) _
  replace k1 := (heap_setCell_other w5a ⟨w.heap.size + 1 + 1, 1, none⟩ w.heap.size (.int .i64 n1) (Nat.ne_of_lt (Nat.lt_succ_of_lt (Nat.lt_succ_self _)))).trans k1
  replace k2 := (heap_setCell_other w5a ⟨w.heap.size + 1 + 1, 1, none⟩ (w.heap.size + 1) (.int .i64 n1) (Nat.ne_of_lt (Nat.lt_succ_self _))).trans k2
  rw [hW] at k1 k2
  replace k3 := set4_1 (x := .int .i64 n1) k3
  rw [hW] at k3
  rw [hW]
  clear hW
  obtain ⟨z, c0, c1, c2, c3⟩ := cells4 k1
  rw [rounds_succ]
  go_wp2_with fail
  clear z c0 c1 c2 c3
  obtain ⟨z, c0, c1, c2, c3⟩ := cells4 k1
  rw [rounds_succ]
  go_wp2_with fail
  clear z c0 c1 c2 c3
  rw [rounds_succ]
  obtain ⟨y, d0, d1, d2, d3⟩ := cells4 k3
  obtain ⟨z, c0, c1, c2, c3⟩ := cells4 k2
  obtain ⟨f0, f1, f2, f3⟩ := marks4 k2
  go_wp2_with fail
  obtain ⟨U, hW⟩ : ∃ U, (((V1.setCell ⟨w.heap.size + 1, 0, none⟩ (.int .i64 n0)).setCell ⟨w.heap.size + 1, 1, none⟩ (.int .i64 n1)).setCell ⟨w.heap.size + 1, 2, none⟩ (.int .i64 0)).setCell ⟨w.heap.size + 1, 3, none⟩ (.int .i64 0) = U := ⟨_, rfl⟩
  have hb3 : U.heap[w.heap.size + 1]? = some (.cells #[.int .i64 n0, .int .i64 n1, .int .i64 0, .int .i64 0] 55 (0, 0)) := by rw [← hW]; exact set4 k2
  have h4 : Nb w U := by rw [← hW]; exact (((q6.setCell (Nat.le_succ _) _).setCell (Nat.le_succ _) _).setCell (Nat.le_succ _) _).setCell (Nat.le_succ _) _
  rw [hW]
  refine bodyPost_ret (results_cell_row rfl _ _ (w.heap.size + 1) _ _ _ _ rfl hb3 Tryd.underlying55 rfl (by kernel_rfl)) rfl ?_
  exact ⟨rfl, h4⟩
theorem step_lw (s : Bs) (h : s.length ≤ 1000000) : Hid (∀ w, Lw w → Calls Tryd.prog 19 #[.string ⟨s.toArray⟩, .string ⟨([32] : Bs).toArray⟩] w fun e w' => e = .returned (.tuple #[.string ⟨(Lib.cut s [32]).1.toArray⟩, .string ⟨(Lib.cut s [32]).2.1.toArray⟩, .bool (Lib.cut s [32]).2.2]) ∧ Nb w w')
    ∧ Hid (∀ w, Calls Tryd.prog 42 #[.string ⟨(Lib.cut s [32]).1.toArray⟩, .string ⟨([120] : Bs).toArray⟩] w fun e w' => e = .returned (.string ⟨(Lib.trimPrefix (Lib.cut s [32]).1 [120]).toArray⟩) ∧ w = w')
    ∧ Hid (∀ w, Lw w → Calls Tryd.prog 41 #[.string ⟨(Lib.trimPrefix (Lib.cut s [32]).1 [120]).toArray⟩] w fun e w' => ∃ x, e = .returned (.tuple #[.int .i64 (atoiV (Lib.trimPrefix (Lib.cut s [32]).1 [120])), x]) ∧ Nb w w')
    ∧ (Lib.cut s [32]).2.1.length ≤ 1000000 := by
  have h1 := cut_len s [32]
  have h2 := trp_len (Lib.cut s [32]).1 [120]
  exact ⟨Lib.hid (cut_any s [32] h), Lib.hid (trp_q _ _), Lib.hid (atoi_any _ (by omega)), by omega⟩
set_option maxHeartbeats 4000000 in
theorem nums_any (f : Int) (f0 : 0 ≤ f) (f1 : f ≤ 12) (s : Bs) (h : s.length ≤ 1000000) (w : World) (hL : Lw w) :
    Calls Tryd.prog 21 #[.string ⟨s.toArray⟩, .agg #[.bool (rdT f), .bool (rs1T f), .bool (rs2T f), .bool (immT f)]] w fun e w' =>
      e = .returned (.agg #[.int .i64 (nums (rdT f) (rs1T f) (rs2T f) (immT f) s).1, .int .i64 (nums (rdT f) (rs1T f) (rs2T f) (immT f) s).2.1, .int .i64 (nums (rdT f) (rs1T f) (rs2T f) (immT f) s).2.2.1, .int .i64 (nums (rdT f) (rs1T f) (rs2T f) (immT f) s).2.2.2]) ∧ Nb w w' := by
  obtain ⟨c0, p0, a0, h1⟩ := step_lw s h
  obtain ⟨c1, p1, a1, h2⟩ := step_lw _ h1
  obtain ⟨c2, p2, a2, h3⟩ := step_lw _ h2
  have hf : f = 0 ∨ f = 1 ∨ f = 2 ∨ f = 3 ∨ f = 4 ∨ f = 5 ∨ f = 6 ∨ f = 7 ∨ f = 8 ∨ f = 9 ∨ f = 10 ∨ f = 11 ∨ f = 12 := by omega
  rcases hf with rfl | rfl | rfl | rfl | rfl | rfl | rfl | rfl | rfl | rfl | rfl | rfl | rfl
  · exact nums_0000 s  w hL
  · exact nums_1001 s _ _ _ _ _ _ _ _ _ _ c0 p0 a0 c1 p1 a1 w hL
  · exact nums_1001 s _ _ _ _ _ _ _ _ _ _ c0 p0 a0 c1 p1 a1 w hL
  · exact nums_1101 s _ _ _ _ _ _ _ _ _ _ _ _ _ _ _ c0 p0 a0 c1 p1 a1 c2 p2 a2 w hL
  · exact nums_0111 s _ _ _ _ _ _ _ _ _ _ _ _ _ _ _ c0 p0 a0 c1 p1 a1 c2 p2 a2 w hL
  · exact nums_0111 s _ _ _ _ _ _ _ _ _ _ _ _ _ _ _ c0 p0 a0 c1 p1 a1 c2 p2 a2 w hL
  · exact nums_1101 s _ _ _ _ _ _ _ _ _ _ _ _ _ _ _ c0 p0 a0 c1 p1 a1 c2 p2 a2 w hL
  · exact nums_1101 s _ _ _ _ _ _ _ _ _ _ _ _ _ _ _ c0 p0 a0 c1 p1 a1 c2 p2 a2 w hL
  · exact nums_1110 s _ _ _ _ _ _ _ _ _ _ _ _ _ _ _ c0 p0 a0 c1 p1 a1 c2 p2 a2 w hL
  · exact nums_0001 s _ _ _ _ _ c0 p0 a0 w hL
  · exact nums_0000 s  w hL
  · exact nums_1100 s _ _ _ _ _ _ _ _ _ _ c0 p0 a0 c1 p1 a1 w hL
  · exact nums_1110 s _ _ _ _ _ _ _ _ _ _ _ _ _ _ _ c0 p0 a0 c1 p1 a1 c2 p2 a2 w hL
end Go.Proofs.YtmggichckhoomaaDoor
