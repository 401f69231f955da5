/-
  Proved here: the text of a good instruction, the code's. Conditions: the tables hold what their texts lay.
-/
import Derived.Test.YtmggichckhoomaaDoorLi
import Derived.LoopN
namespace Go.Proofs.YtmggichckhoomaaDoor
open Go.ChangeShapes Go.WideShapes Go.ChangeAt Go.RowKit
set_option linter.unusedVariables false
set_option linter.unusedSimpArgs false
attribute [local go_sem ↓] ix52_0 ix52_1 ix52_2 ix52_3
set_option maxRecDepth 100000 in
set_option maxHeartbeats 4000000 in
theorem text_1001 (op rd rs1 rs2 im : Int) (aq rl : Bool) (N R1 R2 R3 R4 : Bs) (lN : N.length ≤ 14) (l1 : R1.length ≤ 11) (l2 : R2.length ≤ 11) (l3 : R3.length ≤ 11) (l4 : R4.length ≤ 11)
    (HG : Hid (∀ w, Cod w → Calls Tryd.prog 23 #[.agg #[.int .i64 op, .int .i64 rd, .int .i64 rs1, .int .i64 rs2, .int .i64 im, .bool aq, .bool rl]] w fun e w' => e = .returned (.bool true) ∧ Nb w w'))
    (HF : Hid (∀ w, Lw w → Calls Tryd.prog 24 #[.agg #[.int .i64 op, .int .i64 rd, .int .i64 rs1, .int .i64 rs2, .int .i64 im, .bool aq, .bool rl]] w fun e w' => e = .returned (.string ⟨N.toArray⟩) ∧ Nb w w'))
    (HO : Hid (∀ w, Cod w → Calls Tryd.prog 22 #[.int .i64 op] w fun e w' => e = .returned (.agg #[.bool true, .bool false, .bool false, .bool true]) ∧ Nb w w'))
    (I1 : Hid (∀ w, Lw w → Calls Tryd.prog 26 #[.int .i64 rd] w fun e w' => e = .returned (.string ⟨R1.toArray⟩) ∧ Nb w w'))
    (I4 : Hid (∀ w, Lw w → Calls Tryd.prog 26 #[.int .i64 im] w fun e w' => e = .returned (.string ⟨R4.toArray⟩) ∧ Nb w w'))
    (w : World) (hL : Lw w) :
    Calls Tryd.prog 12 #[.agg #[.int .i64 op, .int .i64 rd, .int .i64 rs1, .int .i64 rs2, .int .i64 im, .bool aq, .bool rl]] w fun e w' => e = .returned (.string ⟨(N ++ ((32 :: 120 :: R1) ++ (32 :: R4))).toArray⟩) ∧ Nb w w' := by
  have hA := Lib.hid (fun k => ahead_any k)
  have hE : Hid ((N ++ ((32 :: 120 :: R1) ++ (32 :: R4))).toArray = (N ++ ((32 :: 120 :: R1) ++ (32 :: R4))).toArray) := Lib.hid rfl
  go_enter Tryd.func12, Tryd.ntmps12
  go_wp2_with fail
  obtain ⟨W1, h1⟩ : ∃ W1, w.alloc (Obj.cells #[.int .i64 op, .int .i64 rd, .int .i64 rs1, .int .i64 rs2, .int .i64 im, .bool aq, .bool rl] 33) = W1 := ⟨_, rfl⟩
  have k1 := blk_made w _ h1 rfl
  have n1 : Nb w W1 := by rw [← h1]; exact (Nb.refl _).alloc _
  rw [h1]
  clear h1
  refine (HG.out _ (hL.of_nb n1).cod).mono ?_
  rintro e w2 ⟨rfl, hn⟩
  have n2 := n1.trans hn
  replace k1 := hn.block k1
  clear hn n1
  obtain ⟨z, c0, c1, c2, c3, c4, c5, c6⟩ := cells7 k1
  go_wp2_with fail
  refine (HF.out _ (hL.of_nb n2)).mono ?_
  rintro e w3 ⟨rfl, hn⟩
  have n3 := n2.trans hn
  replace k1 := hn.block k1
  clear hn n2 z c0 c1 c2 c3 c4 c5 c6
  obtain ⟨z, c0, c1, c2, c3, c4, c5, c6⟩ := cells7 k1
  go_wp2_with fail
  refine (HO.out _ (hL.of_nb n3).cod).mono ?_
  rintro e w4 ⟨rfl, hn⟩
  have n4 := n3.trans hn
  replace k1 := hn.block k1
  clear hn n3 z c0 c1 c2 c3 c4 c5 c6
  obtain ⟨z, c0, c1, c2, c3, c4, c5, c6⟩ := cells7 k1
  go_wp2_with fail
  obtain ⟨W5, h5⟩ : ∃ W5, w4.alloc (Obj.cells #[.bool true, .bool false, .bool false, .bool true] 57) = W5 := ⟨_, rfl⟩
  have k2 := blk_made w4 _ h5 rfl
  have n5 : Nb w4 W5 := by rw [← h5]; exact (Nb.refl _).alloc _
  have q0 := n4.trans n5
  rw [h5]
  clear h5 n5 n4 k1 z c0 c1 c2 c3 c4 c5 c6
  obtain ⟨z, d0, d1, d2, d3⟩ := cells4 k2
  refine wp_loop_rounds 5 ?_
  rw [rounds_succ]
  go_wp2_with fail
  refine ((hA.out _) _).mono ?_
  rintro e w' ⟨rfl, rfl⟩
  go_wp2_with fail
  refine (I1.out _ (hL.of_nb q0)).mono ?_
  rintro e w6 ⟨rfl, hn⟩
  have q1 := q0.trans hn
  replace k2 := hn.block k2
  clear hn q0 z d0 d1 d2 d3
  obtain ⟨z, d0, d1, d2, d3⟩ := cells4 k2
  go_wp2_with fail
  rw [rounds_succ]
  go_wp2_with fail
  rw [rounds_succ]
  go_wp2_with fail
  rw [rounds_succ]
  go_wp2_with fail
  refine ((hA.out _) _).mono ?_
  rintro e w' ⟨rfl, rfl⟩
  go_wp2_with fail
  refine (I4.out _ (hL.of_nb q1)).mono ?_
  rintro e w9 ⟨rfl, hn⟩
  have q4 := q1.trans hn
  replace k2 := hn.block k2
  clear hn q1 z d0 d1 d2 d3
  obtain ⟨z, d0, d1, d2, d3⟩ := cells4 k2
  go_wp2_with fail
  rw [rounds_succ]
  go_wp2_with fail
  go_ret
  exact ⟨ret_s (by simp [ByteArray.mk_append_mk]), q4⟩
set_option maxRecDepth 100000 in
set_option maxHeartbeats 4000000 in
theorem text_1101 (op rd rs1 rs2 im : Int) (aq rl : Bool) (N R1 R2 R3 R4 : Bs) (lN : N.length ≤ 14) (l1 : R1.length ≤ 11) (l2 : R2.length ≤ 11) (l3 : R3.length ≤ 11) (l4 : R4.length ≤ 11)
    (HG : Hid (∀ w, Cod w → Calls Tryd.prog 23 #[.agg #[.int .i64 op, .int .i64 rd, .int .i64 rs1, .int .i64 rs2, .int .i64 im, .bool aq, .bool rl]] w fun e w' => e = .returned (.bool true) ∧ Nb w w'))
    (HF : Hid (∀ w, Lw w → Calls Tryd.prog 24 #[.agg #[.int .i64 op, .int .i64 rd, .int .i64 rs1, .int .i64 rs2, .int .i64 im, .bool aq, .bool rl]] w fun e w' => e = .returned (.string ⟨N.toArray⟩) ∧ Nb w w'))
    (HO : Hid (∀ w, Cod w → Calls Tryd.prog 22 #[.int .i64 op] w fun e w' => e = .returned (.agg #[.bool true, .bool true, .bool false, .bool true]) ∧ Nb w w'))
    (I1 : Hid (∀ w, Lw w → Calls Tryd.prog 26 #[.int .i64 rd] w fun e w' => e = .returned (.string ⟨R1.toArray⟩) ∧ Nb w w'))
    (I2 : Hid (∀ w, Lw w → Calls Tryd.prog 26 #[.int .i64 rs1] w fun e w' => e = .returned (.string ⟨R2.toArray⟩) ∧ Nb w w'))
    (I4 : Hid (∀ w, Lw w → Calls Tryd.prog 26 #[.int .i64 im] w fun e w' => e = .returned (.string ⟨R4.toArray⟩) ∧ Nb w w'))
    (w : World) (hL : Lw w) :
    Calls Tryd.prog 12 #[.agg #[.int .i64 op, .int .i64 rd, .int .i64 rs1, .int .i64 rs2, .int .i64 im, .bool aq, .bool rl]] w fun e w' => e = .returned (.string ⟨(N ++ ((32 :: 120 :: R1) ++ ((32 :: 120 :: R2) ++ (32 :: R4)))).toArray⟩) ∧ Nb w w' := by
  have hA := Lib.hid (fun k => ahead_any k)
  have hE : Hid ((N ++ ((32 :: 120 :: R1) ++ ((32 :: 120 :: R2) ++ (32 :: R4)))).toArray = (N ++ ((32 :: 120 :: R1) ++ ((32 :: 120 :: R2) ++ (32 :: R4)))).toArray) := Lib.hid rfl
  go_enter Tryd.func12, Tryd.ntmps12
  go_wp2_with fail
  obtain ⟨W1, h1⟩ : ∃ W1, w.alloc (Obj.cells #[.int .i64 op, .int .i64 rd, .int .i64 rs1, .int .i64 rs2, .int .i64 im, .bool aq, .bool rl] 33) = W1 := ⟨_, rfl⟩
  have k1 := blk_made w _ h1 rfl
  have n1 : Nb w W1 := by rw [← h1]; exact (Nb.refl _).alloc _
  rw [h1]
  clear h1
  refine (HG.out _ (hL.of_nb n1).cod).mono ?_
  rintro e w2 ⟨rfl, hn⟩
  have n2 := n1.trans hn
  replace k1 := hn.block k1
  clear hn n1
  obtain ⟨z, c0, c1, c2, c3, c4, c5, c6⟩ := cells7 k1
  go_wp2_with fail
  refine (HF.out _ (hL.of_nb n2)).mono ?_
  rintro e w3 ⟨rfl, hn⟩
  have n3 := n2.trans hn
  replace k1 := hn.block k1
  clear hn n2 z c0 c1 c2 c3 c4 c5 c6
  obtain ⟨z, c0, c1, c2, c3, c4, c5, c6⟩ := cells7 k1
  go_wp2_with fail
  refine (HO.out _ (hL.of_nb n3).cod).mono ?_
  rintro e w4 ⟨rfl, hn⟩
  have n4 := n3.trans hn
  replace k1 := hn.block k1
  clear hn n3 z c0 c1 c2 c3 c4 c5 c6
  obtain ⟨z, c0, c1, c2, c3, c4, c5, c6⟩ := cells7 k1
  go_wp2_with fail
  obtain ⟨W5, h5⟩ : ∃ W5, w4.alloc (Obj.cells #[.bool true, .bool true, .bool false, .bool true] 57) = W5 := ⟨_, rfl⟩
  have k2 := blk_made w4 _ h5 rfl
  have n5 : Nb w4 W5 := by rw [← h5]; exact (Nb.refl _).alloc _
  have q0 := n4.trans n5
  rw [h5]
  clear h5 n5 n4 k1 z c0 c1 c2 c3 c4 c5 c6
  obtain ⟨z, d0, d1, d2, d3⟩ := cells4 k2
  refine wp_loop_rounds 5 ?_
  rw [rounds_succ]
  go_wp2_with fail
  refine ((hA.out _) _).mono ?_
  rintro e w' ⟨rfl, rfl⟩
  go_wp2_with fail
  refine (I1.out _ (hL.of_nb q0)).mono ?_
  rintro e w6 ⟨rfl, hn⟩
  have q1 := q0.trans hn
  replace k2 := hn.block k2
  clear hn q0 z d0 d1 d2 d3
  obtain ⟨z, d0, d1, d2, d3⟩ := cells4 k2
  go_wp2_with fail
  rw [rounds_succ]
  go_wp2_with fail
  refine ((hA.out _) _).mono ?_
  rintro e w' ⟨rfl, rfl⟩
  go_wp2_with fail
  refine (I2.out _ (hL.of_nb q1)).mono ?_
  rintro e w7 ⟨rfl, hn⟩
  have q2 := q1.trans hn
  replace k2 := hn.block k2
  clear hn q1 z d0 d1 d2 d3
  obtain ⟨z, d0, d1, d2, d3⟩ := cells4 k2
  go_wp2_with fail
  rw [rounds_succ]
  go_wp2_with fail
  rw [rounds_succ]
  go_wp2_with fail
  refine ((hA.out _) _).mono ?_
  rintro e w' ⟨rfl, rfl⟩
  go_wp2_with fail
  refine (I4.out _ (hL.of_nb q2)).mono ?_
  rintro e w9 ⟨rfl, hn⟩
  have q4 := q2.trans hn
  replace k2 := hn.block k2
  clear hn q2 z d0 d1 d2 d3
  obtain ⟨z, d0, d1, d2, d3⟩ := cells4 k2
  go_wp2_with fail
  rw [rounds_succ]
  go_wp2_with fail
  go_ret
  exact ⟨ret_s (by simp [ByteArray.mk_append_mk]), q4⟩
set_option maxRecDepth 100000 in
set_option maxHeartbeats 4000000 in
theorem text_0111 (op rd rs1 rs2 im : Int) (aq rl : Bool) (N R1 R2 R3 R4 : Bs) (lN : N.length ≤ 14) (l1 : R1.length ≤ 11) (l2 : R2.length ≤ 11) (l3 : R3.length ≤ 11) (l4 : R4.length ≤ 11)
    (HG : Hid (∀ w, Cod w → Calls Tryd.prog 23 #[.agg #[.int .i64 op, .int .i64 rd, .int .i64 rs1, .int .i64 rs2, .int .i64 im, .bool aq, .bool rl]] w fun e w' => e = .returned (.bool true) ∧ Nb w w'))
    (HF : Hid (∀ w, Lw w → Calls Tryd.prog 24 #[.agg #[.int .i64 op, .int .i64 rd, .int .i64 rs1, .int .i64 rs2, .int .i64 im, .bool aq, .bool rl]] w fun e w' => e = .returned (.string ⟨N.toArray⟩) ∧ Nb w w'))
    (HO : Hid (∀ w, Cod w → Calls Tryd.prog 22 #[.int .i64 op] w fun e w' => e = .returned (.agg #[.bool false, .bool true, .bool true, .bool true]) ∧ Nb w w'))
    (I2 : Hid (∀ w, Lw w → Calls Tryd.prog 26 #[.int .i64 rs1] w fun e w' => e = .returned (.string ⟨R2.toArray⟩) ∧ Nb w w'))
    (I3 : Hid (∀ w, Lw w → Calls Tryd.prog 26 #[.int .i64 rs2] w fun e w' => e = .returned (.string ⟨R3.toArray⟩) ∧ Nb w w'))
    (I4 : Hid (∀ w, Lw w → Calls Tryd.prog 26 #[.int .i64 im] w fun e w' => e = .returned (.string ⟨R4.toArray⟩) ∧ Nb w w'))
    (w : World) (hL : Lw w) :
    Calls Tryd.prog 12 #[.agg #[.int .i64 op, .int .i64 rd, .int .i64 rs1, .int .i64 rs2, .int .i64 im, .bool aq, .bool rl]] w fun e w' => e = .returned (.string ⟨(N ++ ((32 :: 120 :: R2) ++ ((32 :: 120 :: R3) ++ (32 :: R4)))).toArray⟩) ∧ Nb w w' := by
  have hA := Lib.hid (fun k => ahead_any k)
  have hE : Hid ((N ++ ((32 :: 120 :: R2) ++ ((32 :: 120 :: R3) ++ (32 :: R4)))).toArray = (N ++ ((32 :: 120 :: R2) ++ ((32 :: 120 :: R3) ++ (32 :: R4)))).toArray) := Lib.hid rfl
  go_enter Tryd.func12, Tryd.ntmps12
  go_wp2_with fail
  obtain ⟨W1, h1⟩ : ∃ W1, w.alloc (Obj.cells #[.int .i64 op, .int .i64 rd, .int .i64 rs1, .int .i64 rs2, .int .i64 im, .bool aq, .bool rl] 33) = W1 := ⟨_, rfl⟩
  have k1 := blk_made w _ h1 rfl
  have n1 : Nb w W1 := by rw [← h1]; exact (Nb.refl _).alloc _
  rw [h1]
  clear h1
  refine (HG.out _ (hL.of_nb n1).cod).mono ?_
  rintro e w2 ⟨rfl, hn⟩
  have n2 := n1.trans hn
  replace k1 := hn.block k1
  clear hn n1
  obtain ⟨z, c0, c1, c2, c3, c4, c5, c6⟩ := cells7 k1
  go_wp2_with fail
  refine (HF.out _ (hL.of_nb n2)).mono ?_
  rintro e w3 ⟨rfl, hn⟩
  have n3 := n2.trans hn
  replace k1 := hn.block k1
  clear hn n2 z c0 c1 c2 c3 c4 c5 c6
  obtain ⟨z, c0, c1, c2, c3, c4, c5, c6⟩ := cells7 k1
  go_wp2_with fail
  refine (HO.out _ (hL.of_nb n3).cod).mono ?_
  rintro e w4 ⟨rfl, hn⟩
  have n4 := n3.trans hn
  replace k1 := hn.block k1
  clear hn n3 z c0 c1 c2 c3 c4 c5 c6
  obtain ⟨z, c0, c1, c2, c3, c4, c5, c6⟩ := cells7 k1
  go_wp2_with fail
  obtain ⟨W5, h5⟩ : ∃ W5, w4.alloc (Obj.cells #[.bool false, .bool true, .bool true, .bool true] 57) = W5 := ⟨_, rfl⟩
  have k2 := blk_made w4 _ h5 rfl
  have n5 : Nb w4 W5 := by rw [← h5]; exact (Nb.refl _).alloc _
  have q0 := n4.trans n5
  rw [h5]
  clear h5 n5 n4 k1 z c0 c1 c2 c3 c4 c5 c6
  obtain ⟨z, d0, d1, d2, d3⟩ := cells4 k2
  refine wp_loop_rounds 5 ?_
  rw [rounds_succ]
  go_wp2_with fail
  rw [rounds_succ]
  go_wp2_with fail
  refine ((hA.out _) _).mono ?_
  rintro e w' ⟨rfl, rfl⟩
  go_wp2_with fail
  refine (I2.out _ (hL.of_nb q0)).mono ?_
  rintro e w7 ⟨rfl, hn⟩
  have q2 := q0.trans hn
  replace k2 := hn.block k2
  clear hn q0 z d0 d1 d2 d3
  obtain ⟨z, d0, d1, d2, d3⟩ := cells4 k2
  go_wp2_with fail
  rw [rounds_succ]
  go_wp2_with fail
  refine ((hA.out _) _).mono ?_
  rintro e w' ⟨rfl, rfl⟩
  go_wp2_with fail
  refine (I3.out _ (hL.of_nb q2)).mono ?_
  rintro e w8 ⟨rfl, hn⟩
  have q3 := q2.trans hn
  replace k2 := hn.block k2
  clear hn q2 z d0 d1 d2 d3
  obtain ⟨z, d0, d1, d2, d3⟩ := cells4 k2
  go_wp2_with fail
  rw [rounds_succ]
  go_wp2_with fail
  refine ((hA.out _) _).mono ?_
  rintro e w' ⟨rfl, rfl⟩
  go_wp2_with fail
  refine (I4.out _ (hL.of_nb q3)).mono ?_
  rintro e w9 ⟨rfl, hn⟩
  have q4 := q3.trans hn
  replace k2 := hn.block k2
  clear hn q3 z d0 d1 d2 d3
  obtain ⟨z, d0, d1, d2, d3⟩ := cells4 k2
  go_wp2_with fail
  rw [rounds_succ]
  go_wp2_with fail
  go_ret
  exact ⟨ret_s (by simp [ByteArray.mk_append_mk]), q4⟩
set_option maxRecDepth 100000 in
set_option maxHeartbeats 4000000 in
theorem text_1110 (op rd rs1 rs2 im : Int) (aq rl : Bool) (N R1 R2 R3 R4 : Bs) (lN : N.length ≤ 14) (l1 : R1.length ≤ 11) (l2 : R2.length ≤ 11) (l3 : R3.length ≤ 11) (l4 : R4.length ≤ 11)
    (HG : Hid (∀ w, Cod w → Calls Tryd.prog 23 #[.agg #[.int .i64 op, .int .i64 rd, .int .i64 rs1, .int .i64 rs2, .int .i64 im, .bool aq, .bool rl]] w fun e w' => e = .returned (.bool true) ∧ Nb w w'))
    (HF : Hid (∀ w, Lw w → Calls Tryd.prog 24 #[.agg #[.int .i64 op, .int .i64 rd, .int .i64 rs1, .int .i64 rs2, .int .i64 im, .bool aq, .bool rl]] w fun e w' => e = .returned (.string ⟨N.toArray⟩) ∧ Nb w w'))
    (HO : Hid (∀ w, Cod w → Calls Tryd.prog 22 #[.int .i64 op] w fun e w' => e = .returned (.agg #[.bool true, .bool true, .bool true, .bool false]) ∧ Nb w w'))
    (I1 : Hid (∀ w, Lw w → Calls Tryd.prog 26 #[.int .i64 rd] w fun e w' => e = .returned (.string ⟨R1.toArray⟩) ∧ Nb w w'))
    (I2 : Hid (∀ w, Lw w → Calls Tryd.prog 26 #[.int .i64 rs1] w fun e w' => e = .returned (.string ⟨R2.toArray⟩) ∧ Nb w w'))
    (I3 : Hid (∀ w, Lw w → Calls Tryd.prog 26 #[.int .i64 rs2] w fun e w' => e = .returned (.string ⟨R3.toArray⟩) ∧ Nb w w'))
    (w : World) (hL : Lw w) :
    Calls Tryd.prog 12 #[.agg #[.int .i64 op, .int .i64 rd, .int .i64 rs1, .int .i64 rs2, .int .i64 im, .bool aq, .bool rl]] w fun e w' => e = .returned (.string ⟨(N ++ ((32 :: 120 :: R1) ++ ((32 :: 120 :: R2) ++ (32 :: 120 :: R3)))).toArray⟩) ∧ Nb w w' := by
  have hA := Lib.hid (fun k => ahead_any k)
  have hE : Hid ((N ++ ((32 :: 120 :: R1) ++ ((32 :: 120 :: R2) ++ (32 :: 120 :: R3)))).toArray = (N ++ ((32 :: 120 :: R1) ++ ((32 :: 120 :: R2) ++ (32 :: 120 :: R3)))).toArray) := Lib.hid rfl
  go_enter Tryd.func12, Tryd.ntmps12
  go_wp2_with fail
  obtain ⟨W1, h1⟩ : ∃ W1, w.alloc (Obj.cells #[.int .i64 op, .int .i64 rd, .int .i64 rs1, .int .i64 rs2, .int .i64 im, .bool aq, .bool rl] 33) = W1 := ⟨_, rfl⟩
  have k1 := blk_made w _ h1 rfl
  have n1 : Nb w W1 := by rw [← h1]; exact (Nb.refl _).alloc _
  rw [h1]
  clear h1
  refine (HG.out _ (hL.of_nb n1).cod).mono ?_
  rintro e w2 ⟨rfl, hn⟩
  have n2 := n1.trans hn
  replace k1 := hn.block k1
  clear hn n1
  obtain ⟨z, c0, c1, c2, c3, c4, c5, c6⟩ := cells7 k1
  go_wp2_with fail
  refine (HF.out _ (hL.of_nb n2)).mono ?_
  rintro e w3 ⟨rfl, hn⟩
  have n3 := n2.trans hn
  replace k1 := hn.block k1
  clear hn n2 z c0 c1 c2 c3 c4 c5 c6
  obtain ⟨z, c0, c1, c2, c3, c4, c5, c6⟩ := cells7 k1
  go_wp2_with fail
  refine (HO.out _ (hL.of_nb n3).cod).mono ?_
  rintro e w4 ⟨rfl, hn⟩
  have n4 := n3.trans hn
  replace k1 := hn.block k1
  clear hn n3 z c0 c1 c2 c3 c4 c5 c6
  obtain ⟨z, c0, c1, c2, c3, c4, c5, c6⟩ := cells7 k1
  go_wp2_with fail
  obtain ⟨W5, h5⟩ : ∃ W5, w4.alloc (Obj.cells #[.bool true, .bool true, .bool true, .bool false] 57) = W5 := ⟨_, rfl⟩
  have k2 := blk_made w4 _ h5 rfl
  have n5 : Nb w4 W5 := by rw [← h5]; exact (Nb.refl _).alloc _
  have q0 := n4.trans n5
  rw [h5]
  clear h5 n5 n4 k1 z c0 c1 c2 c3 c4 c5 c6
  obtain ⟨z, d0, d1, d2, d3⟩ := cells4 k2
  refine wp_loop_rounds 5 ?_
  rw [rounds_succ]
  go_wp2_with fail
  refine ((hA.out _) _).mono ?_
  rintro e w' ⟨rfl, rfl⟩
  go_wp2_with fail
  refine (I1.out _ (hL.of_nb q0)).mono ?_
  rintro e w6 ⟨rfl, hn⟩
  have q1 := q0.trans hn
  replace k2 := hn.block k2
  clear hn q0 z d0 d1 d2 d3
  obtain ⟨z, d0, d1, d2, d3⟩ := cells4 k2
  go_wp2_with fail
  rw [rounds_succ]
  go_wp2_with fail
  refine ((hA.out _) _).mono ?_
  rintro e w' ⟨rfl, rfl⟩
  go_wp2_with fail
  refine (I2.out _ (hL.of_nb q1)).mono ?_
  rintro e w7 ⟨rfl, hn⟩
  have q2 := q1.trans hn
  replace k2 := hn.block k2
  clear hn q1 z d0 d1 d2 d3
  obtain ⟨z, d0, d1, d2, d3⟩ := cells4 k2
  go_wp2_with fail
  rw [rounds_succ]
  go_wp2_with fail
  refine ((hA.out _) _).mono ?_
  rintro e w' ⟨rfl, rfl⟩
  go_wp2_with fail
  refine (I3.out _ (hL.of_nb q2)).mono ?_
  rintro e w8 ⟨rfl, hn⟩
  have q3 := q2.trans hn
  replace k2 := hn.block k2
  clear hn q2 z d0 d1 d2 d3
  obtain ⟨z, d0, d1, d2, d3⟩ := cells4 k2
  go_wp2_with fail
  rw [rounds_succ]
  go_wp2_with fail
  rw [rounds_succ]
  go_wp2_with fail
  go_ret
  exact ⟨ret_s (by simp [ByteArray.mk_append_mk]), q3⟩
set_option maxRecDepth 100000 in
set_option maxHeartbeats 4000000 in
theorem text_0001 (op rd rs1 rs2 im : Int) (aq rl : Bool) (N R1 R2 R3 R4 : Bs) (lN : N.length ≤ 14) (l1 : R1.length ≤ 11) (l2 : R2.length ≤ 11) (l3 : R3.length ≤ 11) (l4 : R4.length ≤ 11)
    (HG : Hid (∀ w, Cod w → Calls Tryd.prog 23 #[.agg #[.int .i64 op, .int .i64 rd, .int .i64 rs1, .int .i64 rs2, .int .i64 im, .bool aq, .bool rl]] w fun e w' => e = .returned (.bool true) ∧ Nb w w'))
    (HF : Hid (∀ w, Lw w → Calls Tryd.prog 24 #[.agg #[.int .i64 op, .int .i64 rd, .int .i64 rs1, .int .i64 rs2, .int .i64 im, .bool aq, .bool rl]] w fun e w' => e = .returned (.string ⟨N.toArray⟩) ∧ Nb w w'))
    (HO : Hid (∀ w, Cod w → Calls Tryd.prog 22 #[.int .i64 op] w fun e w' => e = .returned (.agg #[.bool false, .bool false, .bool false, .bool true]) ∧ Nb w w'))
    (I4 : Hid (∀ w, Lw w → Calls Tryd.prog 26 #[.int .i64 im] w fun e w' => e = .returned (.string ⟨R4.toArray⟩) ∧ Nb w w'))
    (w : World) (hL : Lw w) :
    Calls Tryd.prog 12 #[.agg #[.int .i64 op, .int .i64 rd, .int .i64 rs1, .int .i64 rs2, .int .i64 im, .bool aq, .bool rl]] w fun e w' => e = .returned (.string ⟨(N ++ (32 :: R4)).toArray⟩) ∧ Nb w w' := by
  have hA := Lib.hid (fun k => ahead_any k)
  have hE : Hid ((N ++ (32 :: R4)).toArray = (N ++ (32 :: R4)).toArray) := Lib.hid rfl
  go_enter Tryd.func12, Tryd.ntmps12
  go_wp2_with fail
  obtain ⟨W1, h1⟩ : ∃ W1, w.alloc (Obj.cells #[.int .i64 op, .int .i64 rd, .int .i64 rs1, .int .i64 rs2, .int .i64 im, .bool aq, .bool rl] 33) = W1 := ⟨_, rfl⟩
  have k1 := blk_made w _ h1 rfl
  have n1 : Nb w W1 := by rw [← h1]; exact (Nb.refl _).alloc _
  rw [h1]
  clear h1
  refine (HG.out _ (hL.of_nb n1).cod).mono ?_
  rintro e w2 ⟨rfl, hn⟩
  have n2 := n1.trans hn
  replace k1 := hn.block k1
  clear hn n1
  obtain ⟨z, c0, c1, c2, c3, c4, c5, c6⟩ := cells7 k1
  go_wp2_with fail
  refine (HF.out _ (hL.of_nb n2)).mono ?_
  rintro e w3 ⟨rfl, hn⟩
  have n3 := n2.trans hn
  replace k1 := hn.block k1
  clear hn n2 z c0 c1 c2 c3 c4 c5 c6
  obtain ⟨z, c0, c1, c2, c3, c4, c5, c6⟩ := cells7 k1
  go_wp2_with fail
  refine (HO.out _ (hL.of_nb n3).cod).mono ?_
  rintro e w4 ⟨rfl, hn⟩
  have n4 := n3.trans hn
  replace k1 := hn.block k1
  clear hn n3 z c0 c1 c2 c3 c4 c5 c6
  obtain ⟨z, c0, c1, c2, c3, c4, c5, c6⟩ := cells7 k1
  go_wp2_with fail
  obtain ⟨W5, h5⟩ : ∃ W5, w4.alloc (Obj.cells #[.bool false, .bool false, .bool false, .bool true] 57) = W5 := ⟨_, rfl⟩
  have k2 := blk_made w4 _ h5 rfl
  have n5 : Nb w4 W5 := by rw [← h5]; exact (Nb.refl _).alloc _
  have q0 := n4.trans n5
  rw [h5]
  clear h5 n5 n4 k1 z c0 c1 c2 c3 c4 c5 c6
  obtain ⟨z, d0, d1, d2, d3⟩ := cells4 k2
  refine wp_loop_rounds 5 ?_
  rw [rounds_succ]
  go_wp2_with fail
  rw [rounds_succ]
  go_wp2_with fail
  rw [rounds_succ]
  go_wp2_with fail
  rw [rounds_succ]
  go_wp2_with fail
  refine ((hA.out _) _).mono ?_
  rintro e w' ⟨rfl, rfl⟩
  go_wp2_with fail
  refine (I4.out _ (hL.of_nb q0)).mono ?_
  rintro e w9 ⟨rfl, hn⟩
  have q4 := q0.trans hn
  replace k2 := hn.block k2
  clear hn q0 z d0 d1 d2 d3
  obtain ⟨z, d0, d1, d2, d3⟩ := cells4 k2
  go_wp2_with fail
  rw [rounds_succ]
  go_wp2_with fail
  go_ret
  exact ⟨ret_s (by simp [ByteArray.mk_append_mk]), q4⟩
set_option maxRecDepth 100000 in
set_option maxHeartbeats 4000000 in
theorem text_0000 (op rd rs1 rs2 im : Int) (aq rl : Bool) (N R1 R2 R3 R4 : Bs) (lN : N.length ≤ 14) (l1 : R1.length ≤ 11) (l2 : R2.length ≤ 11) (l3 : R3.length ≤ 11) (l4 : R4.length ≤ 11)
    (HG : Hid (∀ w, Cod w → Calls Tryd.prog 23 #[.agg #[.int .i64 op, .int .i64 rd, .int .i64 rs1, .int .i64 rs2, .int .i64 im, .bool aq, .bool rl]] w fun e w' => e = .returned (.bool true) ∧ Nb w w'))
    (HF : Hid (∀ w, Lw w → Calls Tryd.prog 24 #[.agg #[.int .i64 op, .int .i64 rd, .int .i64 rs1, .int .i64 rs2, .int .i64 im, .bool aq, .bool rl]] w fun e w' => e = .returned (.string ⟨N.toArray⟩) ∧ Nb w w'))
    (HO : Hid (∀ w, Cod w → Calls Tryd.prog 22 #[.int .i64 op] w fun e w' => e = .returned (.agg #[.bool false, .bool false, .bool false, .bool false]) ∧ Nb w w'))
    (w : World) (hL : Lw w) :
    Calls Tryd.prog 12 #[.agg #[.int .i64 op, .int .i64 rd, .int .i64 rs1, .int .i64 rs2, .int .i64 im, .bool aq, .bool rl]] w fun e w' => e = .returned (.string ⟨(N ++ []).toArray⟩) ∧ Nb w w' := by
  have hA := Lib.hid (fun k => ahead_any k)
  have hE : Hid ((N ++ []).toArray = (N ++ []).toArray) := Lib.hid rfl
  go_enter Tryd.func12, Tryd.ntmps12
  go_wp2_with fail
  obtain ⟨W1, h1⟩ : ∃ W1, w.alloc (Obj.cells #[.int .i64 op, .int .i64 rd, .int .i64 rs1, .int .i64 rs2, .int .i64 im, .bool aq, .bool rl] 33) = W1 := ⟨_, rfl⟩
  have k1 := blk_made w _ h1 rfl
  have n1 : Nb w W1 := by rw [← h1]; exact (Nb.refl _).alloc _
  rw [h1]
  clear h1
  refine (HG.out _ (hL.of_nb n1).cod).mono ?_
  rintro e w2 ⟨rfl, hn⟩
  have n2 := n1.trans hn
  replace k1 := hn.block k1
  clear hn n1
  obtain ⟨z, c0, c1, c2, c3, c4, c5, c6⟩ := cells7 k1
  go_wp2_with fail
  refine (HF.out _ (hL.of_nb n2)).mono ?_
  rintro e w3 ⟨rfl, hn⟩
  have n3 := n2.trans hn
  replace k1 := hn.block k1
  clear hn n2 z c0 c1 c2 c3 c4 c5 c6
  obtain ⟨z, c0, c1, c2, c3, c4, c5, c6⟩ := cells7 k1
  go_wp2_with fail
  refine (HO.out _ (hL.of_nb n3).cod).mono ?_
  rintro e w4 ⟨rfl, hn⟩
  have n4 := n3.trans hn
  replace k1 := hn.block k1
  clear hn n3 z c0 c1 c2 c3 c4 c5 c6
  obtain ⟨z, c0, c1, c2, c3, c4, c5, c6⟩ := cells7 k1
  go_wp2_with fail
  obtain ⟨W5, h5⟩ : ∃ W5, w4.alloc (Obj.cells #[.bool false, .bool false, .bool false, .bool false] 57) = W5 := ⟨_, rfl⟩
  have k2 := blk_made w4 _ h5 rfl
  have n5 : Nb w4 W5 := by rw [← h5]; exact (Nb.refl _).alloc _
  have q0 := n4.trans n5
  rw [h5]
  clear h5 n5 n4 k1 z c0 c1 c2 c3 c4 c5 c6
  obtain ⟨z, d0, d1, d2, d3⟩ := cells4 k2
  refine wp_loop_rounds 5 ?_
  rw [rounds_succ]
  go_wp2_with fail
  rw [rounds_succ]
  go_wp2_with fail
  rw [rounds_succ]
  go_wp2_with fail
  rw [rounds_succ]
  go_wp2_with fail
  rw [rounds_succ]
  go_wp2_with fail
  go_ret
  exact ⟨ret_s (by simp [ByteArray.mk_append_mk]), q0⟩
set_option maxRecDepth 100000 in
set_option maxHeartbeats 4000000 in
theorem text_1100 (op rd rs1 rs2 im : Int) (aq rl : Bool) (N R1 R2 R3 R4 : Bs) (lN : N.length ≤ 14) (l1 : R1.length ≤ 11) (l2 : R2.length ≤ 11) (l3 : R3.length ≤ 11) (l4 : R4.length ≤ 11)
    (HG : Hid (∀ w, Cod w → Calls Tryd.prog 23 #[.agg #[.int .i64 op, .int .i64 rd, .int .i64 rs1, .int .i64 rs2, .int .i64 im, .bool aq, .bool rl]] w fun e w' => e = .returned (.bool true) ∧ Nb w w'))
    (HF : Hid (∀ w, Lw w → Calls Tryd.prog 24 #[.agg #[.int .i64 op, .int .i64 rd, .int .i64 rs1, .int .i64 rs2, .int .i64 im, .bool aq, .bool rl]] w fun e w' => e = .returned (.string ⟨N.toArray⟩) ∧ Nb w w'))
    (HO : Hid (∀ w, Cod w → Calls Tryd.prog 22 #[.int .i64 op] w fun e w' => e = .returned (.agg #[.bool true, .bool true, .bool false, .bool false]) ∧ Nb w w'))
    (I1 : Hid (∀ w, Lw w → Calls Tryd.prog 26 #[.int .i64 rd] w fun e w' => e = .returned (.string ⟨R1.toArray⟩) ∧ Nb w w'))
    (I2 : Hid (∀ w, Lw w → Calls Tryd.prog 26 #[.int .i64 rs1] w fun e w' => e = .returned (.string ⟨R2.toArray⟩) ∧ Nb w w'))
    (w : World) (hL : Lw w) :
    Calls Tryd.prog 12 #[.agg #[.int .i64 op, .int .i64 rd, .int .i64 rs1, .int .i64 rs2, .int .i64 im, .bool aq, .bool rl]] w fun e w' => e = .returned (.string ⟨(N ++ ((32 :: 120 :: R1) ++ (32 :: 120 :: R2))).toArray⟩) ∧ Nb w w' := by
  have hA := Lib.hid (fun k => ahead_any k)
  have hE : Hid ((N ++ ((32 :: 120 :: R1) ++ (32 :: 120 :: R2))).toArray = (N ++ ((32 :: 120 :: R1) ++ (32 :: 120 :: R2))).toArray) := Lib.hid rfl
  go_enter Tryd.func12, Tryd.ntmps12
  go_wp2_with fail
  obtain ⟨W1, h1⟩ : ∃ W1, w.alloc (Obj.cells #[.int .i64 op, .int .i64 rd, .int .i64 rs1, .int .i64 rs2, .int .i64 im, .bool aq, .bool rl] 33) = W1 := ⟨_, rfl⟩
  have k1 := blk_made w _ h1 rfl
  have n1 : Nb w W1 := by rw [← h1]; exact (Nb.refl _).alloc _
  rw [h1]
  clear h1
  refine (HG.out _ (hL.of_nb n1).cod).mono ?_
  rintro e w2 ⟨rfl, hn⟩
  have n2 := n1.trans hn
  replace k1 := hn.block k1
  clear hn n1
  obtain ⟨z, c0, c1, c2, c3, c4, c5, c6⟩ := cells7 k1
  go_wp2_with fail
  refine (HF.out _ (hL.of_nb n2)).mono ?_
  rintro e w3 ⟨rfl, hn⟩
  have n3 := n2.trans hn
  replace k1 := hn.block k1
  clear hn n2 z c0 c1 c2 c3 c4 c5 c6
  obtain ⟨z, c0, c1, c2, c3, c4, c5, c6⟩ := cells7 k1
  go_wp2_with fail
  refine (HO.out _ (hL.of_nb n3).cod).mono ?_
  rintro e w4 ⟨rfl, hn⟩
  have n4 := n3.trans hn
  replace k1 := hn.block k1
  clear hn n3 z c0 c1 c2 c3 c4 c5 c6
  obtain ⟨z, c0, c1, c2, c3, c4, c5, c6⟩ := cells7 k1
  go_wp2_with fail
  obtain ⟨W5, h5⟩ : ∃ W5, w4.alloc (Obj.cells #[.bool true, .bool true, .bool false, .bool false] 57) = W5 := ⟨_, rfl⟩
  have k2 := blk_made w4 _ h5 rfl
  have n5 : Nb w4 W5 := by rw [← h5]; exact (Nb.refl _).alloc _
  have q0 := n4.trans n5
  rw [h5]
  clear h5 n5 n4 k1 z c0 c1 c2 c3 c4 c5 c6
  obtain ⟨z, d0, d1, d2, d3⟩ := cells4 k2
  refine wp_loop_rounds 5 ?_
  rw [rounds_succ]
  go_wp2_with fail
  refine ((hA.out _) _).mono ?_
  rintro e w' ⟨rfl, rfl⟩
  go_wp2_with fail
  refine (I1.out _ (hL.of_nb q0)).mono ?_
  rintro e w6 ⟨rfl, hn⟩
  have q1 := q0.trans hn
  replace k2 := hn.block k2
  clear hn q0 z d0 d1 d2 d3
  obtain ⟨z, d0, d1, d2, d3⟩ := cells4 k2
  go_wp2_with fail
  rw [rounds_succ]
  go_wp2_with fail
  refine ((hA.out _) _).mono ?_
  rintro e w' ⟨rfl, rfl⟩
  go_wp2_with fail
  refine (I2.out _ (hL.of_nb q1)).mono ?_
  rintro e w7 ⟨rfl, hn⟩
  have q2 := q1.trans hn
  replace k2 := hn.block k2
  clear hn q1 z d0 d1 d2 d3
  obtain ⟨z, d0, d1, d2, d3⟩ := cells4 k2
  go_wp2_with fail
  rw [rounds_succ]
  go_wp2_with fail
  rw [rounds_succ]
  go_wp2_with fail
  rw [rounds_succ]
  go_wp2_with fail
  go_ret
  exact ⟨ret_s (by simp [ByteArray.mk_append_mk]), q2⟩
set_option maxRecDepth 100000 in
set_option maxHeartbeats 4000000 in
theorem text_no (op rd rs1 rs2 im : Int) (aq rl : Bool)
    (HG : Hid (∀ w, Cod w → Calls Tryd.prog 23 #[.agg #[.int .i64 op, .int .i64 rd, .int .i64 rs1, .int .i64 rs2, .int .i64 im, .bool aq, .bool rl]] w fun e w' => e = .returned (.bool false) ∧ Nb w w')) (w : World) (hC : Cod w) :
    Calls Tryd.prog 12 #[.agg #[.int .i64 op, .int .i64 rd, .int .i64 rs1, .int .i64 rs2, .int .i64 im, .bool aq, .bool rl]] w fun e w' => e = .returned (.string ⟨([] : Bs).toArray⟩) ∧ Nb w w' := by
  go_enter Tryd.func12, Tryd.ntmps12
  go_wp2_with fail
  have n1 := (Nb.refl w).alloc (Obj.cells #[.int .i64 op, .int .i64 rd, .int .i64 rs1, .int .i64 rs2, .int .i64 im, .bool aq, .bool rl] 33)
  refine (HG.out _ (hC.of_nb n1)).mono ?_
  rintro e w2 ⟨rfl, hn⟩
  go_wp2_with fail
  go_ret
  exact ⟨rfl, n1.trans hn⟩
/-- The text of an instruction that may be; none of another one. -/
def TextV (op rd rs1 rs2 im : Int) (aq rl : Bool) : Bs := if GoodB op rd rs1 rs2 im aq rl = true then textL op rd rs1 rs2 im aq rl else []
theorem str_l {a b : Bs} (h : a = b) : Ending.returned (.string ⟨a.toArray⟩) = .returned (.string ⟨b.toArray⟩) := by rw [h]
set_option maxHeartbeats 4000000 in
theorem text_any (op rd rs1 rs2 im : Int) (aq rl : Bool) (v0 : -9223372036854775808 ≤ im) (v1 : im < 9223372036854775808) (w : World) (hL : Lw w) :
    Calls Tryd.prog 12 #[.agg #[.int .i64 op, .int .i64 rd, .int .i64 rs1, .int .i64 rs2, .int .i64 im, .bool aq, .bool rl]] w fun e w' => e = .returned (.string ⟨(TextV op rd rs1 rs2 im aq rl).toArray⟩) ∧ Nb w w' := by
  have HG := fun w hC => good_any op rd rs1 rs2 im aq rl v0 v1 w hC
  unfold TextV
  cases hg : GoodB op rd rs1 rs2 im aq rl <;> rw [hg] at HG
  · exact text_no op rd rs1 rs2 im aq rl (Lib.hid HG) w hL.cod
  rw [if_pos rfl]
  obtain ⟨ho, z1, z2, z3, z4, r1, r2, r3, r4⟩ := good_is hg
  have HF := Lib.hid (fun w hL => full_any op rd rs1 rs2 im aq rl ho w hL)
  have HO := fun w hC => opsOf op w hC
  obtain ⟨e1, e2, e3, e4⟩ := has_is op
  rw [e1, e2, e3, e4] at HO
  have I1 := Lib.hid (fun w hL => itoa_nb rd (by omega) (by omega) w hL)
  have I2 := Lib.hid (fun w hL => itoa_nb rs1 (by omega) (by omega) w hL)
  have I3 := Lib.hid (fun w hL => itoa_nb rs2 (by omega) (by omega) w hL)
  have I4 := Lib.hid (fun w hL => itoa_nb im (by omega) (by omega) w hL)
  have lN := (name_no op ho aq rl).2.2.1
  have l1 := Nat.le_trans (itoa_len31 rd r1.1 r1.2) (by decide : 2 ≤ 11)
  have l2 := Nat.le_trans (itoa_len31 rs1 r2.1 r2.2) (by decide : 2 ≤ 11)
  have l3 := Nat.le_trans (itoa_len31 rs2 r3.1 r3.2) (by decide : 2 ≤ 11)
  have l4 := itoa_len32 im r4.1 r4.2
  obtain ⟨f0, f1, -⟩ := row_ok op
  have fz : (refRow op).1 ≠ 0 := by
    intro h
    unfold GoodB at hg
    rw [if_pos h] at hg
    cases hg
  unfold textL
  generalize (refRow op).1 = f at *
  have h : f = 1 ∨ f = 2 ∨ f = 3 ∨ f = 4 ∨ f = 5 ∨ f = 6 ∨ f = 7 ∨ f = 8 ∨ f = 9 ∨ f = 10 ∨ f = 11 ∨ f = 12 := by omega
  rcases h with rfl | rfl | rfl | rfl | rfl | rfl | rfl | rfl | rfl | rfl | rfl | rfl
  · refine (text_1001 op rd rs1 rs2 im aq rl _ _ _ _ _ lN l1 l2 l3 l4 (Lib.hid HG) HF (Lib.hid HO) I1 I4 w hL).mono ?_
    rintro e w' ⟨rfl, hn⟩
    exact ⟨str_l (by simp [tailL, opt, rdT, rs1T, rs2T, immT, pcx, pcn]), hn⟩
  · refine (text_1001 op rd rs1 rs2 im aq rl _ _ _ _ _ lN l1 l2 l3 l4 (Lib.hid HG) HF (Lib.hid HO) I1 I4 w hL).mono ?_
    rintro e w' ⟨rfl, hn⟩
    exact ⟨str_l (by simp [tailL, opt, rdT, rs1T, rs2T, immT, pcx, pcn]), hn⟩
  · refine (text_1101 op rd rs1 rs2 im aq rl _ _ _ _ _ lN l1 l2 l3 l4 (Lib.hid HG) HF (Lib.hid HO) I1 I2 I4 w hL).mono ?_
    rintro e w' ⟨rfl, hn⟩
    exact ⟨str_l (by simp [tailL, opt, rdT, rs1T, rs2T, immT, pcx, pcn]), hn⟩
  · refine (text_0111 op rd rs1 rs2 im aq rl _ _ _ _ _ lN l1 l2 l3 l4 (Lib.hid HG) HF (Lib.hid HO) I2 I3 I4 w hL).mono ?_
    rintro e w' ⟨rfl, hn⟩
    exact ⟨str_l (by simp [tailL, opt, rdT, rs1T, rs2T, immT, pcx, pcn]), hn⟩
  · refine (text_0111 op rd rs1 rs2 im aq rl _ _ _ _ _ lN l1 l2 l3 l4 (Lib.hid HG) HF (Lib.hid HO) I2 I3 I4 w hL).mono ?_
    rintro e w' ⟨rfl, hn⟩
    exact ⟨str_l (by simp [tailL, opt, rdT, rs1T, rs2T, immT, pcx, pcn]), hn⟩
  · refine (text_1101 op rd rs1 rs2 im aq rl _ _ _ _ _ lN l1 l2 l3 l4 (Lib.hid HG) HF (Lib.hid HO) I1 I2 I4 w hL).mono ?_
    rintro e w' ⟨rfl, hn⟩
    exact ⟨str_l (by simp [tailL, opt, rdT, rs1T, rs2T, immT, pcx, pcn]), hn⟩
  · refine (text_1101 op rd rs1 rs2 im aq rl _ _ _ _ _ lN l1 l2 l3 l4 (Lib.hid HG) HF (Lib.hid HO) I1 I2 I4 w hL).mono ?_
    rintro e w' ⟨rfl, hn⟩
    exact ⟨str_l (by simp [tailL, opt, rdT, rs1T, rs2T, immT, pcx, pcn]), hn⟩
  · refine (text_1110 op rd rs1 rs2 im aq rl _ _ _ _ _ lN l1 l2 l3 l4 (Lib.hid HG) HF (Lib.hid HO) I1 I2 I3 w hL).mono ?_
    rintro e w' ⟨rfl, hn⟩
    exact ⟨str_l (by simp [tailL, opt, rdT, rs1T, rs2T, immT, pcx, pcn]), hn⟩
  · refine (text_0001 op rd rs1 rs2 im aq rl _ _ _ _ _ lN l1 l2 l3 l4 (Lib.hid HG) HF (Lib.hid HO) I4 w hL).mono ?_
    rintro e w' ⟨rfl, hn⟩
    exact ⟨str_l (by simp [tailL, opt, rdT, rs1T, rs2T, immT, pcx, pcn]), hn⟩
  · refine (text_0000 op rd rs1 rs2 im aq rl _ _ _ _ _ lN l1 l2 l3 l4 (Lib.hid HG) HF (Lib.hid HO)  w hL).mono ?_
    rintro e w' ⟨rfl, hn⟩
    exact ⟨str_l (by simp [tailL, opt, rdT, rs1T, rs2T, immT, pcx, pcn]), hn⟩
  · refine (text_1100 op rd rs1 rs2 im aq rl _ _ _ _ _ lN l1 l2 l3 l4 (Lib.hid HG) HF (Lib.hid HO) I1 I2 w hL).mono ?_
    rintro e w' ⟨rfl, hn⟩
    exact ⟨str_l (by simp [tailL, opt, rdT, rs1T, rs2T, immT, pcx, pcn]), hn⟩
  · refine (text_1110 op rd rs1 rs2 im aq rl _ _ _ _ _ lN l1 l2 l3 l4 (Lib.hid HG) HF (Lib.hid HO) I1 I2 I3 w hL).mono ?_
    rintro e w' ⟨rfl, hn⟩
    exact ⟨str_l (by simp [tailL, opt, rdT, rs1T, rs2T, immT, pcx, pcn]), hn⟩
end Go.Proofs.YtmggichckhoomaaDoor
