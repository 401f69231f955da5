/-
  Proved here: the text of an instruction, the reference's. Conditions: none.
-/
import Derived.Test.YtmggichckhoomaaDoorLj
import Derived.Test.YtmggichckhoomaaDoorLl
namespace Go.Proofs.YtmggichckhoomaaDoor
open Go.ChangeShapes Go.WideShapes Go.ChangeAt Go.RowKit
set_option linter.unusedVariables false
set_option linter.unusedSimpArgs false
attribute [local go_sem ↓] ix52_0 ix52_1 ix52_2 ix52_3
set_option maxRecDepth 100000 in
set_option maxHeartbeats 4000000 in
theorem rtext_1_00 (op rd rs1 rs2 im o3 a3 a7 : Int) (N R1 R2 R3 R4 : Bs) (lN : N.length ≤ 14) (l1 : R1.length ≤ 11) (l2 : R2.length ≤ 11) (l3 : R3.length ≤ 11) (l4 : R4.length ≤ 11)
    (HG : Hid (∀ w, Calls Tryd.prog 13 #[.agg #[.int .i64 op, .int .i64 rd, .int .i64 rs1, .int .i64 rs2, .int .i64 im, .bool false, .bool false]] w fun e w' => e = .returned (.bool true) ∧ Nb w w'))
    (HN : Hid (∀ w, Calls Tryd.prog 36 #[.int .i64 op] w fun e w' => e = .returned (.string ⟨N.toArray⟩) ∧ Nb w w'))
    (HR : Hid (∀ w, Calls Tryd.prog 27 #[.int .i64 op] w fun e w' => e = .returned (.agg #[.int .i64 1, .int .i64 o3, .int .i64 a3, .int .i64 a7]) ∧ Nb w w'))
    (I1 : Hid (∀ w, Calls Tryd.prog 37 #[.int .i64 rd] w fun e w' => e = .returned (.string ⟨R1.toArray⟩) ∧ Nb w w'))
    (I4 : Hid (∀ w, Calls Tryd.prog 37 #[.int .i64 im] w fun e w' => e = .returned (.string ⟨R4.toArray⟩) ∧ Nb w w'))
    (w : World) :
    Calls Tryd.prog 18 #[.agg #[.int .i64 op, .int .i64 rd, .int .i64 rs1, .int .i64 rs2, .int .i64 im, .bool false, .bool false]] w fun e w' => e = .returned (.string ⟨(N ++ ((32 :: 120 :: R1) ++ (32 :: R4))).toArray⟩) ∧ Nb w w' := by
  go_enter Tryd.func18, Tryd.ntmps18
  go_wp2_with fail
  obtain ⟨W1, h1⟩ : ∃ W1, w.alloc (Obj.cells #[.int .i64 op, .int .i64 rd, .int .i64 rs1, .int .i64 rs2, .int .i64 im, .bool false, .bool false] 33) = W1 := ⟨_, rfl⟩
  have k1 := blk_made w _ h1 rfl
  have n1 : Nb w W1 := by rw [← h1]; exact (Nb.refl _).alloc _
  rw [h1]
  clear h1
  refine (HG.out _).mono ?_
  rintro e w2 ⟨rfl, hn⟩
  have n2 := n1.trans hn
  replace k1 := hn.block k1
  clear hn n1
  obtain ⟨z, c0, c1, c2, c3, c4, c5, c6⟩ := cells7 k1
  go_wp2_with fail
  clear z c0 c1 c2 c3 c4 c5 c6
  refine (HN.out _).mono ?_
  rintro e w3 ⟨rfl, hn⟩
  have n3 := n2.trans hn
  replace k1 := hn.block k1
  clear hn n2
  obtain ⟨z, c0, c1, c2, c3, c4, c5, c6⟩ := cells7 k1
  go_wp2_with fail
  clear z c0 c1 c2 c3 c4 c5 c6
  refine (HR.out _).mono ?_
  rintro e w4 ⟨rfl, hn⟩
  have n4 := n3.trans hn
  replace k1 := hn.block k1
  clear hn n3
  obtain ⟨z, c0, c1, c2, c3, c4, c5, c6⟩ := cells7 k1
  go_wp2_with fail
  clear z c0 c1 c2 c3 c4 c5 c6
  refine (I1.out _).mono ?_
  rintro e w5 ⟨rfl, hn⟩
  have n5 := n4.trans hn
  replace k1 := hn.block k1
  clear hn n4
  obtain ⟨z, c0, c1, c2, c3, c4, c5, c6⟩ := cells7 k1
  go_wp2_with fail
  clear z c0 c1 c2 c3 c4 c5 c6
  refine (I4.out _).mono ?_
  rintro e w6 ⟨rfl, hn⟩
  have n6 := n5.trans hn
  replace k1 := hn.block k1
  clear hn n5
  obtain ⟨z, c0, c1, c2, c3, c4, c5, c6⟩ := cells7 k1
  go_wp2_with fail
  clear z c0 c1 c2 c3 c4 c5 c6
  go_ret
  exact ⟨ret_s (by simp [ByteArray.mk_append_mk]), n6⟩
set_option maxRecDepth 100000 in
set_option maxHeartbeats 4000000 in
theorem rtext_2_00 (op rd rs1 rs2 im o3 a3 a7 : Int) (N R1 R2 R3 R4 : Bs) (lN : N.length ≤ 14) (l1 : R1.length ≤ 11) (l2 : R2.length ≤ 11) (l3 : R3.length ≤ 11) (l4 : R4.length ≤ 11)
    (HG : Hid (∀ w, Calls Tryd.prog 13 #[.agg #[.int .i64 op, .int .i64 rd, .int .i64 rs1, .int .i64 rs2, .int .i64 im, .bool false, .bool false]] w fun e w' => e = .returned (.bool true) ∧ Nb w w'))
    (HN : Hid (∀ w, Calls Tryd.prog 36 #[.int .i64 op] w fun e w' => e = .returned (.string ⟨N.toArray⟩) ∧ Nb w w'))
    (HR : Hid (∀ w, Calls Tryd.prog 27 #[.int .i64 op] w fun e w' => e = .returned (.agg #[.int .i64 2, .int .i64 o3, .int .i64 a3, .int .i64 a7]) ∧ Nb w w'))
    (I1 : Hid (∀ w, Calls Tryd.prog 37 #[.int .i64 rd] w fun e w' => e = .returned (.string ⟨R1.toArray⟩) ∧ Nb w w'))
    (I4 : Hid (∀ w, Calls Tryd.prog 37 #[.int .i64 im] w fun e w' => e = .returned (.string ⟨R4.toArray⟩) ∧ Nb w w'))
    (w : World) :
    Calls Tryd.prog 18 #[.agg #[.int .i64 op, .int .i64 rd, .int .i64 rs1, .int .i64 rs2, .int .i64 im, .bool false, .bool false]] w fun e w' => e = .returned (.string ⟨(N ++ ((32 :: 120 :: R1) ++ (32 :: R4))).toArray⟩) ∧ Nb w w' := by
  go_enter Tryd.func18, Tryd.ntmps18
  go_wp2_with fail
  obtain ⟨W1, h1⟩ : ∃ W1, w.alloc (Obj.cells #[.int .i64 op, .int .i64 rd, .int .i64 rs1, .int .i64 rs2, .int .i64 im, .bool false, .bool false] 33) = W1 := ⟨_, rfl⟩
  have k1 := blk_made w _ h1 rfl
  have n1 : Nb w W1 := by rw [← h1]; exact (Nb.refl _).alloc _
  rw [h1]
  clear h1
  refine (HG.out _).mono ?_
  rintro e w2 ⟨rfl, hn⟩
  have n2 := n1.trans hn
  replace k1 := hn.block k1
  clear hn n1
  obtain ⟨z, c0, c1, c2, c3, c4, c5, c6⟩ := cells7 k1
  go_wp2_with fail
  clear z c0 c1 c2 c3 c4 c5 c6
  refine (HN.out _).mono ?_
  rintro e w3 ⟨rfl, hn⟩
  have n3 := n2.trans hn
  replace k1 := hn.block k1
  clear hn n2
  obtain ⟨z, c0, c1, c2, c3, c4, c5, c6⟩ := cells7 k1
  go_wp2_with fail
  clear z c0 c1 c2 c3 c4 c5 c6
  refine (HR.out _).mono ?_
  rintro e w4 ⟨rfl, hn⟩
  have n4 := n3.trans hn
  replace k1 := hn.block k1
  clear hn n3
  obtain ⟨z, c0, c1, c2, c3, c4, c5, c6⟩ := cells7 k1
  go_wp2_with fail
  clear z c0 c1 c2 c3 c4 c5 c6
  refine (I1.out _).mono ?_
  rintro e w5 ⟨rfl, hn⟩
  have n5 := n4.trans hn
  replace k1 := hn.block k1
  clear hn n4
  obtain ⟨z, c0, c1, c2, c3, c4, c5, c6⟩ := cells7 k1
  go_wp2_with fail
  clear z c0 c1 c2 c3 c4 c5 c6
  refine (I4.out _).mono ?_
  rintro e w6 ⟨rfl, hn⟩
  have n6 := n5.trans hn
  replace k1 := hn.block k1
  clear hn n5
  obtain ⟨z, c0, c1, c2, c3, c4, c5, c6⟩ := cells7 k1
  go_wp2_with fail
  clear z c0 c1 c2 c3 c4 c5 c6
  go_ret
  exact ⟨ret_s (by simp [ByteArray.mk_append_mk]), n6⟩
set_option maxRecDepth 100000 in
set_option maxHeartbeats 4000000 in
theorem rtext_3_00 (op rd rs1 rs2 im o3 a3 a7 : Int) (N R1 R2 R3 R4 : Bs) (lN : N.length ≤ 14) (l1 : R1.length ≤ 11) (l2 : R2.length ≤ 11) (l3 : R3.length ≤ 11) (l4 : R4.length ≤ 11)
    (HG : Hid (∀ w, Calls Tryd.prog 13 #[.agg #[.int .i64 op, .int .i64 rd, .int .i64 rs1, .int .i64 rs2, .int .i64 im, .bool false, .bool false]] w fun e w' => e = .returned (.bool true) ∧ Nb w w'))
    (HN : Hid (∀ w, Calls Tryd.prog 36 #[.int .i64 op] w fun e w' => e = .returned (.string ⟨N.toArray⟩) ∧ Nb w w'))
    (HR : Hid (∀ w, Calls Tryd.prog 27 #[.int .i64 op] w fun e w' => e = .returned (.agg #[.int .i64 3, .int .i64 o3, .int .i64 a3, .int .i64 a7]) ∧ Nb w w'))
    (I1 : Hid (∀ w, Calls Tryd.prog 37 #[.int .i64 rd] w fun e w' => e = .returned (.string ⟨R1.toArray⟩) ∧ Nb w w'))
    (I2 : Hid (∀ w, Calls Tryd.prog 37 #[.int .i64 rs1] w fun e w' => e = .returned (.string ⟨R2.toArray⟩) ∧ Nb w w'))
    (I4 : Hid (∀ w, Calls Tryd.prog 37 #[.int .i64 im] w fun e w' => e = .returned (.string ⟨R4.toArray⟩) ∧ Nb w w'))
    (w : World) :
    Calls Tryd.prog 18 #[.agg #[.int .i64 op, .int .i64 rd, .int .i64 rs1, .int .i64 rs2, .int .i64 im, .bool false, .bool false]] w fun e w' => e = .returned (.string ⟨(N ++ ((32 :: 120 :: R1) ++ ((32 :: 120 :: R2) ++ (32 :: R4)))).toArray⟩) ∧ Nb w w' := by
  go_enter Tryd.func18, Tryd.ntmps18
  go_wp2_with fail
  obtain ⟨W1, h1⟩ : ∃ W1, w.alloc (Obj.cells #[.int .i64 op, .int .i64 rd, .int .i64 rs1, .int .i64 rs2, .int .i64 im, .bool false, .bool false] 33) = W1 := ⟨_, rfl⟩
  have k1 := blk_made w _ h1 rfl
  have n1 : Nb w W1 := by rw [← h1]; exact (Nb.refl _).alloc _
  rw [h1]
  clear h1
  refine (HG.out _).mono ?_
  rintro e w2 ⟨rfl, hn⟩
  have n2 := n1.trans hn
  replace k1 := hn.block k1
  clear hn n1
  obtain ⟨z, c0, c1, c2, c3, c4, c5, c6⟩ := cells7 k1
  go_wp2_with fail
  clear z c0 c1 c2 c3 c4 c5 c6
  refine (HN.out _).mono ?_
  rintro e w3 ⟨rfl, hn⟩
  have n3 := n2.trans hn
  replace k1 := hn.block k1
  clear hn n2
  obtain ⟨z, c0, c1, c2, c3, c4, c5, c6⟩ := cells7 k1
  go_wp2_with fail
  clear z c0 c1 c2 c3 c4 c5 c6
  refine (HR.out _).mono ?_
  rintro e w4 ⟨rfl, hn⟩
  have n4 := n3.trans hn
  replace k1 := hn.block k1
  clear hn n3
  obtain ⟨z, c0, c1, c2, c3, c4, c5, c6⟩ := cells7 k1
  go_wp2_with fail
  clear z c0 c1 c2 c3 c4 c5 c6
  refine (I1.out _).mono ?_
  rintro e w5 ⟨rfl, hn⟩
  have n5 := n4.trans hn
  replace k1 := hn.block k1
  clear hn n4
  obtain ⟨z, c0, c1, c2, c3, c4, c5, c6⟩ := cells7 k1
  go_wp2_with fail
  clear z c0 c1 c2 c3 c4 c5 c6
  refine (I2.out _).mono ?_
  rintro e w6 ⟨rfl, hn⟩
  have n6 := n5.trans hn
  replace k1 := hn.block k1
  clear hn n5
  obtain ⟨z, c0, c1, c2, c3, c4, c5, c6⟩ := cells7 k1
  go_wp2_with fail
  clear z c0 c1 c2 c3 c4 c5 c6
  refine (I4.out _).mono ?_
  rintro e w7 ⟨rfl, hn⟩
  have n7 := n6.trans hn
  replace k1 := hn.block k1
  clear hn n6
  obtain ⟨z, c0, c1, c2, c3, c4, c5, c6⟩ := cells7 k1
  go_wp2_with fail
  clear z c0 c1 c2 c3 c4 c5 c6
  go_ret
  exact ⟨ret_s (by simp [ByteArray.mk_append_mk]), n7⟩
set_option maxRecDepth 100000 in
set_option maxHeartbeats 4000000 in
theorem rtext_4_00 (op rd rs1 rs2 im o3 a3 a7 : Int) (N R1 R2 R3 R4 : Bs) (lN : N.length ≤ 14) (l1 : R1.length ≤ 11) (l2 : R2.length ≤ 11) (l3 : R3.length ≤ 11) (l4 : R4.length ≤ 11)
    (HG : Hid (∀ w, Calls Tryd.prog 13 #[.agg #[.int .i64 op, .int .i64 rd, .int .i64 rs1, .int .i64 rs2, .int .i64 im, .bool false, .bool false]] w fun e w' => e = .returned (.bool true) ∧ Nb w w'))
    (HN : Hid (∀ w, Calls Tryd.prog 36 #[.int .i64 op] w fun e w' => e = .returned (.string ⟨N.toArray⟩) ∧ Nb w w'))
    (HR : Hid (∀ w, Calls Tryd.prog 27 #[.int .i64 op] w fun e w' => e = .returned (.agg #[.int .i64 4, .int .i64 o3, .int .i64 a3, .int .i64 a7]) ∧ Nb w w'))
    (I2 : Hid (∀ w, Calls Tryd.prog 37 #[.int .i64 rs1] w fun e w' => e = .returned (.string ⟨R2.toArray⟩) ∧ Nb w w'))
    (I3 : Hid (∀ w, Calls Tryd.prog 37 #[.int .i64 rs2] w fun e w' => e = .returned (.string ⟨R3.toArray⟩) ∧ Nb w w'))
    (I4 : Hid (∀ w, Calls Tryd.prog 37 #[.int .i64 im] w fun e w' => e = .returned (.string ⟨R4.toArray⟩) ∧ Nb w w'))
    (w : World) :
    Calls Tryd.prog 18 #[.agg #[.int .i64 op, .int .i64 rd, .int .i64 rs1, .int .i64 rs2, .int .i64 im, .bool false, .bool false]] w fun e w' => e = .returned (.string ⟨(N ++ ((32 :: 120 :: R2) ++ ((32 :: 120 :: R3) ++ (32 :: R4)))).toArray⟩) ∧ Nb w w' := by
  go_enter Tryd.func18, Tryd.ntmps18
  go_wp2_with fail
  obtain ⟨W1, h1⟩ : ∃ W1, w.alloc (Obj.cells #[.int .i64 op, .int .i64 rd, .int .i64 rs1, .int .i64 rs2, .int .i64 im, .bool false, .bool false] 33) = W1 := ⟨_, rfl⟩
  have k1 := blk_made w _ h1 rfl
  have n1 : Nb w W1 := by rw [← h1]; exact (Nb.refl _).alloc _
  rw [h1]
  clear h1
  refine (HG.out _).mono ?_
  rintro e w2 ⟨rfl, hn⟩
  have n2 := n1.trans hn
  replace k1 := hn.block k1
  clear hn n1
  obtain ⟨z, c0, c1, c2, c3, c4, c5, c6⟩ := cells7 k1
  go_wp2_with fail
  clear z c0 c1 c2 c3 c4 c5 c6
  refine (HN.out _).mono ?_
  rintro e w3 ⟨rfl, hn⟩
  have n3 := n2.trans hn
  replace k1 := hn.block k1
  clear hn n2
  obtain ⟨z, c0, c1, c2, c3, c4, c5, c6⟩ := cells7 k1
  go_wp2_with fail
  clear z c0 c1 c2 c3 c4 c5 c6
  refine (HR.out _).mono ?_
  rintro e w4 ⟨rfl, hn⟩
  have n4 := n3.trans hn
  replace k1 := hn.block k1
  clear hn n3
  obtain ⟨z, c0, c1, c2, c3, c4, c5, c6⟩ := cells7 k1
  go_wp2_with fail
  clear z c0 c1 c2 c3 c4 c5 c6
  refine (I2.out _).mono ?_
  rintro e w5 ⟨rfl, hn⟩
  have n5 := n4.trans hn
  replace k1 := hn.block k1
  clear hn n4
  obtain ⟨z, c0, c1, c2, c3, c4, c5, c6⟩ := cells7 k1
  go_wp2_with fail
  clear z c0 c1 c2 c3 c4 c5 c6
  refine (I3.out _).mono ?_
  rintro e w6 ⟨rfl, hn⟩
  have n6 := n5.trans hn
  replace k1 := hn.block k1
  clear hn n5
  obtain ⟨z, c0, c1, c2, c3, c4, c5, c6⟩ := cells7 k1
  go_wp2_with fail
  clear z c0 c1 c2 c3 c4 c5 c6
  refine (I4.out _).mono ?_
  rintro e w7 ⟨rfl, hn⟩
  have n7 := n6.trans hn
  replace k1 := hn.block k1
  clear hn n6
  obtain ⟨z, c0, c1, c2, c3, c4, c5, c6⟩ := cells7 k1
  go_wp2_with fail
  clear z c0 c1 c2 c3 c4 c5 c6
  go_ret
  exact ⟨ret_s (by simp [ByteArray.mk_append_mk]), n7⟩
set_option maxRecDepth 100000 in
set_option maxHeartbeats 4000000 in
theorem rtext_5_00 (op rd rs1 rs2 im o3 a3 a7 : Int) (N R1 R2 R3 R4 : Bs) (lN : N.length ≤ 14) (l1 : R1.length ≤ 11) (l2 : R2.length ≤ 11) (l3 : R3.length ≤ 11) (l4 : R4.length ≤ 11)
    (HG : Hid (∀ w, Calls Tryd.prog 13 #[.agg #[.int .i64 op, .int .i64 rd, .int .i64 rs1, .int .i64 rs2, .int .i64 im, .bool false, .bool false]] w fun e w' => e = .returned (.bool true) ∧ Nb w w'))
    (HN : Hid (∀ w, Calls Tryd.prog 36 #[.int .i64 op] w fun e w' => e = .returned (.string ⟨N.toArray⟩) ∧ Nb w w'))
    (HR : Hid (∀ w, Calls Tryd.prog 27 #[.int .i64 op] w fun e w' => e = .returned (.agg #[.int .i64 5, .int .i64 o3, .int .i64 a3, .int .i64 a7]) ∧ Nb w w'))
    (I2 : Hid (∀ w, Calls Tryd.prog 37 #[.int .i64 rs1] w fun e w' => e = .returned (.string ⟨R2.toArray⟩) ∧ Nb w w'))
    (I3 : Hid (∀ w, Calls Tryd.prog 37 #[.int .i64 rs2] w fun e w' => e = .returned (.string ⟨R3.toArray⟩) ∧ Nb w w'))
    (I4 : Hid (∀ w, Calls Tryd.prog 37 #[.int .i64 im] w fun e w' => e = .returned (.string ⟨R4.toArray⟩) ∧ Nb w w'))
    (w : World) :
    Calls Tryd.prog 18 #[.agg #[.int .i64 op, .int .i64 rd, .int .i64 rs1, .int .i64 rs2, .int .i64 im, .bool false, .bool false]] w fun e w' => e = .returned (.string ⟨(N ++ ((32 :: 120 :: R2) ++ ((32 :: 120 :: R3) ++ (32 :: R4)))).toArray⟩) ∧ Nb w w' := by
  go_enter Tryd.func18, Tryd.ntmps18
  go_wp2_with fail
  obtain ⟨W1, h1⟩ : ∃ W1, w.alloc (Obj.cells #[.int .i64 op, .int .i64 rd, .int .i64 rs1, .int .i64 rs2, .int .i64 im, .bool false, .bool false] 33) = W1 := ⟨_, rfl⟩
  have k1 := blk_made w _ h1 rfl
  have n1 : Nb w W1 := by rw [← h1]; exact (Nb.refl _).alloc _
  rw [h1]
  clear h1
  refine (HG.out _).mono ?_
  rintro e w2 ⟨rfl, hn⟩
  have n2 := n1.trans hn
  replace k1 := hn.block k1
  clear hn n1
  obtain ⟨z, c0, c1, c2, c3, c4, c5, c6⟩ := cells7 k1
  go_wp2_with fail
  clear z c0 c1 c2 c3 c4 c5 c6
  refine (HN.out _).mono ?_
  rintro e w3 ⟨rfl, hn⟩
  have n3 := n2.trans hn
  replace k1 := hn.block k1
  clear hn n2
  obtain ⟨z, c0, c1, c2, c3, c4, c5, c6⟩ := cells7 k1
  go_wp2_with fail
  clear z c0 c1 c2 c3 c4 c5 c6
  refine (HR.out _).mono ?_
  rintro e w4 ⟨rfl, hn⟩
  have n4 := n3.trans hn
  replace k1 := hn.block k1
  clear hn n3
  obtain ⟨z, c0, c1, c2, c3, c4, c5, c6⟩ := cells7 k1
  go_wp2_with fail
  clear z c0 c1 c2 c3 c4 c5 c6
  refine (I2.out _).mono ?_
  rintro e w5 ⟨rfl, hn⟩
  have n5 := n4.trans hn
  replace k1 := hn.block k1
  clear hn n4
  obtain ⟨z, c0, c1, c2, c3, c4, c5, c6⟩ := cells7 k1
  go_wp2_with fail
  clear z c0 c1 c2 c3 c4 c5 c6
  refine (I3.out _).mono ?_
  rintro e w6 ⟨rfl, hn⟩
  have n6 := n5.trans hn
  replace k1 := hn.block k1
  clear hn n5
  obtain ⟨z, c0, c1, c2, c3, c4, c5, c6⟩ := cells7 k1
  go_wp2_with fail
  clear z c0 c1 c2 c3 c4 c5 c6
  refine (I4.out _).mono ?_
  rintro e w7 ⟨rfl, hn⟩
  have n7 := n6.trans hn
  replace k1 := hn.block k1
  clear hn n6
  obtain ⟨z, c0, c1, c2, c3, c4, c5, c6⟩ := cells7 k1
  go_wp2_with fail
  clear z c0 c1 c2 c3 c4 c5 c6
  go_ret
  exact ⟨ret_s (by simp [ByteArray.mk_append_mk]), n7⟩
set_option maxRecDepth 100000 in
set_option maxHeartbeats 4000000 in
theorem rtext_6_00 (op rd rs1 rs2 im o3 a3 a7 : Int) (N R1 R2 R3 R4 : Bs) (lN : N.length ≤ 14) (l1 : R1.length ≤ 11) (l2 : R2.length ≤ 11) (l3 : R3.length ≤ 11) (l4 : R4.length ≤ 11)
    (HG : Hid (∀ w, Calls Tryd.prog 13 #[.agg #[.int .i64 op, .int .i64 rd, .int .i64 rs1, .int .i64 rs2, .int .i64 im, .bool false, .bool false]] w fun e w' => e = .returned (.bool true) ∧ Nb w w'))
    (HN : Hid (∀ w, Calls Tryd.prog 36 #[.int .i64 op] w fun e w' => e = .returned (.string ⟨N.toArray⟩) ∧ Nb w w'))
    (HR : Hid (∀ w, Calls Tryd.prog 27 #[.int .i64 op] w fun e w' => e = .returned (.agg #[.int .i64 6, .int .i64 o3, .int .i64 a3, .int .i64 a7]) ∧ Nb w w'))
    (I1 : Hid (∀ w, Calls Tryd.prog 37 #[.int .i64 rd] w fun e w' => e = .returned (.string ⟨R1.toArray⟩) ∧ Nb w w'))
    (I2 : Hid (∀ w, Calls Tryd.prog 37 #[.int .i64 rs1] w fun e w' => e = .returned (.string ⟨R2.toArray⟩) ∧ Nb w w'))
    (I4 : Hid (∀ w, Calls Tryd.prog 37 #[.int .i64 im] w fun e w' => e = .returned (.string ⟨R4.toArray⟩) ∧ Nb w w'))
    (w : World) :
    Calls Tryd.prog 18 #[.agg #[.int .i64 op, .int .i64 rd, .int .i64 rs1, .int .i64 rs2, .int .i64 im, .bool false, .bool false]] w fun e w' => e = .returned (.string ⟨(N ++ ((32 :: 120 :: R1) ++ ((32 :: 120 :: R2) ++ (32 :: R4)))).toArray⟩) ∧ Nb w w' := by
  go_enter Tryd.func18, Tryd.ntmps18
  go_wp2_with fail
  obtain ⟨W1, h1⟩ : ∃ W1, w.alloc (Obj.cells #[.int .i64 op, .int .i64 rd, .int .i64 rs1, .int .i64 rs2, .int .i64 im, .bool false, .bool false] 33) = W1 := ⟨_, rfl⟩
  have k1 := blk_made w _ h1 rfl
  have n1 : Nb w W1 := by rw [← h1]; exact (Nb.refl _).alloc _
  rw [h1]
  clear h1
  refine (HG.out _).mono ?_
  rintro e w2 ⟨rfl, hn⟩
  have n2 := n1.trans hn
  replace k1 := hn.block k1
  clear hn n1
  obtain ⟨z, c0, c1, c2, c3, c4, c5, c6⟩ := cells7 k1
  go_wp2_with fail
  clear z c0 c1 c2 c3 c4 c5 c6
  refine (HN.out _).mono ?_
  rintro e w3 ⟨rfl, hn⟩
  have n3 := n2.trans hn
  replace k1 := hn.block k1
  clear hn n2
  obtain ⟨z, c0, c1, c2, c3, c4, c5, c6⟩ := cells7 k1
  go_wp2_with fail
  clear z c0 c1 c2 c3 c4 c5 c6
  refine (HR.out _).mono ?_
  rintro e w4 ⟨rfl, hn⟩
  have n4 := n3.trans hn
  replace k1 := hn.block k1
  clear hn n3
  obtain ⟨z, c0, c1, c2, c3, c4, c5, c6⟩ := cells7 k1
  go_wp2_with fail
  clear z c0 c1 c2 c3 c4 c5 c6
  refine (I1.out _).mono ?_
  rintro e w5 ⟨rfl, hn⟩
  have n5 := n4.trans hn
  replace k1 := hn.block k1
  clear hn n4
  obtain ⟨z, c0, c1, c2, c3, c4, c5, c6⟩ := cells7 k1
  go_wp2_with fail
  clear z c0 c1 c2 c3 c4 c5 c6
  refine (I2.out _).mono ?_
  rintro e w6 ⟨rfl, hn⟩
  have n6 := n5.trans hn
  replace k1 := hn.block k1
  clear hn n5
  obtain ⟨z, c0, c1, c2, c3, c4, c5, c6⟩ := cells7 k1
  go_wp2_with fail
  clear z c0 c1 c2 c3 c4 c5 c6
  refine (I4.out _).mono ?_
  rintro e w7 ⟨rfl, hn⟩
  have n7 := n6.trans hn
  replace k1 := hn.block k1
  clear hn n6
  obtain ⟨z, c0, c1, c2, c3, c4, c5, c6⟩ := cells7 k1
  go_wp2_with fail
  clear z c0 c1 c2 c3 c4 c5 c6
  go_ret
  exact ⟨ret_s (by simp [ByteArray.mk_append_mk]), n7⟩
set_option maxRecDepth 100000 in
set_option maxHeartbeats 4000000 in
theorem rtext_7_00 (op rd rs1 rs2 im o3 a3 a7 : Int) (N R1 R2 R3 R4 : Bs) (lN : N.length ≤ 14) (l1 : R1.length ≤ 11) (l2 : R2.length ≤ 11) (l3 : R3.length ≤ 11) (l4 : R4.length ≤ 11)
    (HG : Hid (∀ w, Calls Tryd.prog 13 #[.agg #[.int .i64 op, .int .i64 rd, .int .i64 rs1, .int .i64 rs2, .int .i64 im, .bool false, .bool false]] w fun e w' => e = .returned (.bool true) ∧ Nb w w'))
    (HN : Hid (∀ w, Calls Tryd.prog 36 #[.int .i64 op] w fun e w' => e = .returned (.string ⟨N.toArray⟩) ∧ Nb w w'))
    (HR : Hid (∀ w, Calls Tryd.prog 27 #[.int .i64 op] w fun e w' => e = .returned (.agg #[.int .i64 7, .int .i64 o3, .int .i64 a3, .int .i64 a7]) ∧ Nb w w'))
    (I1 : Hid (∀ w, Calls Tryd.prog 37 #[.int .i64 rd] w fun e w' => e = .returned (.string ⟨R1.toArray⟩) ∧ Nb w w'))
    (I2 : Hid (∀ w, Calls Tryd.prog 37 #[.int .i64 rs1] w fun e w' => e = .returned (.string ⟨R2.toArray⟩) ∧ Nb w w'))
    (I4 : Hid (∀ w, Calls Tryd.prog 37 #[.int .i64 im] w fun e w' => e = .returned (.string ⟨R4.toArray⟩) ∧ Nb w w'))
    (w : World) :
    Calls Tryd.prog 18 #[.agg #[.int .i64 op, .int .i64 rd, .int .i64 rs1, .int .i64 rs2, .int .i64 im, .bool false, .bool false]] w fun e w' => e = .returned (.string ⟨(N ++ ((32 :: 120 :: R1) ++ ((32 :: 120 :: R2) ++ (32 :: R4)))).toArray⟩) ∧ Nb w w' := by
  go_enter Tryd.func18, Tryd.ntmps18
  go_wp2_with fail
  obtain ⟨W1, h1⟩ : ∃ W1, w.alloc (Obj.cells #[.int .i64 op, .int .i64 rd, .int .i64 rs1, .int .i64 rs2, .int .i64 im, .bool false, .bool false] 33) = W1 := ⟨_, rfl⟩
  have k1 := blk_made w _ h1 rfl
  have n1 : Nb w W1 := by rw [← h1]; exact (Nb.refl _).alloc _
  rw [h1]
  clear h1
  refine (HG.out _).mono ?_
  rintro e w2 ⟨rfl, hn⟩
  have n2 := n1.trans hn
  replace k1 := hn.block k1
  clear hn n1
  obtain ⟨z, c0, c1, c2, c3, c4, c5, c6⟩ := cells7 k1
  go_wp2_with fail
  clear z c0 c1 c2 c3 c4 c5 c6
  refine (HN.out _).mono ?_
  rintro e w3 ⟨rfl, hn⟩
  have n3 := n2.trans hn
  replace k1 := hn.block k1
  clear hn n2
  obtain ⟨z, c0, c1, c2, c3, c4, c5, c6⟩ := cells7 k1
  go_wp2_with fail
  clear z c0 c1 c2 c3 c4 c5 c6
  refine (HR.out _).mono ?_
  rintro e w4 ⟨rfl, hn⟩
  have n4 := n3.trans hn
  replace k1 := hn.block k1
  clear hn n3
  obtain ⟨z, c0, c1, c2, c3, c4, c5, c6⟩ := cells7 k1
  go_wp2_with fail
  clear z c0 c1 c2 c3 c4 c5 c6
  refine (I1.out _).mono ?_
  rintro e w5 ⟨rfl, hn⟩
  have n5 := n4.trans hn
  replace k1 := hn.block k1
  clear hn n4
  obtain ⟨z, c0, c1, c2, c3, c4, c5, c6⟩ := cells7 k1
  go_wp2_with fail
  clear z c0 c1 c2 c3 c4 c5 c6
  refine (I2.out _).mono ?_
  rintro e w6 ⟨rfl, hn⟩
  have n6 := n5.trans hn
  replace k1 := hn.block k1
  clear hn n5
  obtain ⟨z, c0, c1, c2, c3, c4, c5, c6⟩ := cells7 k1
  go_wp2_with fail
  clear z c0 c1 c2 c3 c4 c5 c6
  refine (I4.out _).mono ?_
  rintro e w7 ⟨rfl, hn⟩
  have n7 := n6.trans hn
  replace k1 := hn.block k1
  clear hn n6
  obtain ⟨z, c0, c1, c2, c3, c4, c5, c6⟩ := cells7 k1
  go_wp2_with fail
  clear z c0 c1 c2 c3 c4 c5 c6
  go_ret
  exact ⟨ret_s (by simp [ByteArray.mk_append_mk]), n7⟩
set_option maxRecDepth 100000 in
set_option maxHeartbeats 4000000 in
theorem rtext_8_00 (op rd rs1 rs2 im o3 a3 a7 : Int) (N R1 R2 R3 R4 : Bs) (lN : N.length ≤ 14) (l1 : R1.length ≤ 11) (l2 : R2.length ≤ 11) (l3 : R3.length ≤ 11) (l4 : R4.length ≤ 11)
    (HG : Hid (∀ w, Calls Tryd.prog 13 #[.agg #[.int .i64 op, .int .i64 rd, .int .i64 rs1, .int .i64 rs2, .int .i64 im, .bool false, .bool false]] w fun e w' => e = .returned (.bool true) ∧ Nb w w'))
    (HN : Hid (∀ w, Calls Tryd.prog 36 #[.int .i64 op] w fun e w' => e = .returned (.string ⟨N.toArray⟩) ∧ Nb w w'))
    (HR : Hid (∀ w, Calls Tryd.prog 27 #[.int .i64 op] w fun e w' => e = .returned (.agg #[.int .i64 8, .int .i64 o3, .int .i64 a3, .int .i64 a7]) ∧ Nb w w'))
    (I1 : Hid (∀ w, Calls Tryd.prog 37 #[.int .i64 rd] w fun e w' => e = .returned (.string ⟨R1.toArray⟩) ∧ Nb w w'))
    (I2 : Hid (∀ w, Calls Tryd.prog 37 #[.int .i64 rs1] w fun e w' => e = .returned (.string ⟨R2.toArray⟩) ∧ Nb w w'))
    (I3 : Hid (∀ w, Calls Tryd.prog 37 #[.int .i64 rs2] w fun e w' => e = .returned (.string ⟨R3.toArray⟩) ∧ Nb w w'))
    (w : World) :
    Calls Tryd.prog 18 #[.agg #[.int .i64 op, .int .i64 rd, .int .i64 rs1, .int .i64 rs2, .int .i64 im, .bool false, .bool false]] w fun e w' => e = .returned (.string ⟨(N ++ ((32 :: 120 :: R1) ++ ((32 :: 120 :: R2) ++ (32 :: 120 :: R3)))).toArray⟩) ∧ Nb w w' := by
  go_enter Tryd.func18, Tryd.ntmps18
  go_wp2_with fail
  obtain ⟨W1, h1⟩ : ∃ W1, w.alloc (Obj.cells #[.int .i64 op, .int .i64 rd, .int .i64 rs1, .int .i64 rs2, .int .i64 im, .bool false, .bool false] 33) = W1 := ⟨_, rfl⟩
  have k1 := blk_made w _ h1 rfl
  have n1 : Nb w W1 := by rw [← h1]; exact (Nb.refl _).alloc _
  rw [h1]
  clear h1
  refine (HG.out _).mono ?_
  rintro e w2 ⟨rfl, hn⟩
  have n2 := n1.trans hn
  replace k1 := hn.block k1
  clear hn n1
  obtain ⟨z, c0, c1, c2, c3, c4, c5, c6⟩ := cells7 k1
  go_wp2_with fail
  clear z c0 c1 c2 c3 c4 c5 c6
  refine (HN.out _).mono ?_
  rintro e w3 ⟨rfl, hn⟩
  have n3 := n2.trans hn
  replace k1 := hn.block k1
  clear hn n2
  obtain ⟨z, c0, c1, c2, c3, c4, c5, c6⟩ := cells7 k1
  go_wp2_with fail
  clear z c0 c1 c2 c3 c4 c5 c6
  refine (HR.out _).mono ?_
  rintro e w4 ⟨rfl, hn⟩
  have n4 := n3.trans hn
  replace k1 := hn.block k1
  clear hn n3
  obtain ⟨z, c0, c1, c2, c3, c4, c5, c6⟩ := cells7 k1
  go_wp2_with fail
  clear z c0 c1 c2 c3 c4 c5 c6
  refine (I1.out _).mono ?_
  rintro e w5 ⟨rfl, hn⟩
  have n5 := n4.trans hn
  replace k1 := hn.block k1
  clear hn n4
  obtain ⟨z, c0, c1, c2, c3, c4, c5, c6⟩ := cells7 k1
  go_wp2_with fail
  clear z c0 c1 c2 c3 c4 c5 c6
  refine (I2.out _).mono ?_
  rintro e w6 ⟨rfl, hn⟩
  have n6 := n5.trans hn
  replace k1 := hn.block k1
  clear hn n5
  obtain ⟨z, c0, c1, c2, c3, c4, c5, c6⟩ := cells7 k1
  go_wp2_with fail
  clear z c0 c1 c2 c3 c4 c5 c6
  refine (I3.out _).mono ?_
  rintro e w7 ⟨rfl, hn⟩
  have n7 := n6.trans hn
  replace k1 := hn.block k1
  clear hn n6
  obtain ⟨z, c0, c1, c2, c3, c4, c5, c6⟩ := cells7 k1
  go_wp2_with fail
  clear z c0 c1 c2 c3 c4 c5 c6
  go_ret
  exact ⟨ret_s (by simp [ByteArray.mk_append_mk]), n7⟩
set_option maxRecDepth 100000 in
set_option maxHeartbeats 4000000 in
theorem rtext_9_00 (op rd rs1 rs2 im o3 a3 a7 : Int) (N R1 R2 R3 R4 : Bs) (lN : N.length ≤ 14) (l1 : R1.length ≤ 11) (l2 : R2.length ≤ 11) (l3 : R3.length ≤ 11) (l4 : R4.length ≤ 11)
    (HG : Hid (∀ w, Calls Tryd.prog 13 #[.agg #[.int .i64 op, .int .i64 rd, .int .i64 rs1, .int .i64 rs2, .int .i64 im, .bool false, .bool false]] w fun e w' => e = .returned (.bool true) ∧ Nb w w'))
    (HN : Hid (∀ w, Calls Tryd.prog 36 #[.int .i64 op] w fun e w' => e = .returned (.string ⟨N.toArray⟩) ∧ Nb w w'))
    (HR : Hid (∀ w, Calls Tryd.prog 27 #[.int .i64 op] w fun e w' => e = .returned (.agg #[.int .i64 9, .int .i64 o3, .int .i64 a3, .int .i64 a7]) ∧ Nb w w'))
    (I4 : Hid (∀ w, Calls Tryd.prog 37 #[.int .i64 im] w fun e w' => e = .returned (.string ⟨R4.toArray⟩) ∧ Nb w w'))
    (w : World) :
    Calls Tryd.prog 18 #[.agg #[.int .i64 op, .int .i64 rd, .int .i64 rs1, .int .i64 rs2, .int .i64 im, .bool false, .bool false]] w fun e w' => e = .returned (.string ⟨(N ++ (32 :: R4)).toArray⟩) ∧ Nb w w' := by
  go_enter Tryd.func18, Tryd.ntmps18
  go_wp2_with fail
  obtain ⟨W1, h1⟩ : ∃ W1, w.alloc (Obj.cells #[.int .i64 op, .int .i64 rd, .int .i64 rs1, .int .i64 rs2, .int .i64 im, .bool false, .bool false] 33) = W1 := ⟨_, rfl⟩
  have k1 := blk_made w _ h1 rfl
  have n1 : Nb w W1 := by rw [← h1]; exact (Nb.refl _).alloc _
  rw [h1]
  clear h1
  refine (HG.out _).mono ?_
  rintro e w2 ⟨rfl, hn⟩
  have n2 := n1.trans hn
  replace k1 := hn.block k1
  clear hn n1
  obtain ⟨z, c0, c1, c2, c3, c4, c5, c6⟩ := cells7 k1
  go_wp2_with fail
  clear z c0 c1 c2 c3 c4 c5 c6
  refine (HN.out _).mono ?_
  rintro e w3 ⟨rfl, hn⟩
  have n3 := n2.trans hn
  replace k1 := hn.block k1
  clear hn n2
  obtain ⟨z, c0, c1, c2, c3, c4, c5, c6⟩ := cells7 k1
  go_wp2_with fail
  clear z c0 c1 c2 c3 c4 c5 c6
  refine (HR.out _).mono ?_
  rintro e w4 ⟨rfl, hn⟩
  have n4 := n3.trans hn
  replace k1 := hn.block k1
  clear hn n3
  obtain ⟨z, c0, c1, c2, c3, c4, c5, c6⟩ := cells7 k1
  go_wp2_with fail
  clear z c0 c1 c2 c3 c4 c5 c6
  refine (I4.out _).mono ?_
  rintro e w5 ⟨rfl, hn⟩
  have n5 := n4.trans hn
  replace k1 := hn.block k1
  clear hn n4
  obtain ⟨z, c0, c1, c2, c3, c4, c5, c6⟩ := cells7 k1
  go_wp2_with fail
  clear z c0 c1 c2 c3 c4 c5 c6
  go_ret
  exact ⟨ret_s (by simp [ByteArray.mk_append_mk]), n5⟩
set_option maxRecDepth 100000 in
set_option maxHeartbeats 4000000 in
theorem rtext_10_00 (op rd rs1 rs2 im o3 a3 a7 : Int) (N R1 R2 R3 R4 : Bs) (lN : N.length ≤ 14) (l1 : R1.length ≤ 11) (l2 : R2.length ≤ 11) (l3 : R3.length ≤ 11) (l4 : R4.length ≤ 11)
    (HG : Hid (∀ w, Calls Tryd.prog 13 #[.agg #[.int .i64 op, .int .i64 rd, .int .i64 rs1, .int .i64 rs2, .int .i64 im, .bool false, .bool false]] w fun e w' => e = .returned (.bool true) ∧ Nb w w'))
    (HN : Hid (∀ w, Calls Tryd.prog 36 #[.int .i64 op] w fun e w' => e = .returned (.string ⟨N.toArray⟩) ∧ Nb w w'))
    (HR : Hid (∀ w, Calls Tryd.prog 27 #[.int .i64 op] w fun e w' => e = .returned (.agg #[.int .i64 10, .int .i64 o3, .int .i64 a3, .int .i64 a7]) ∧ Nb w w'))
    (w : World) :
    Calls Tryd.prog 18 #[.agg #[.int .i64 op, .int .i64 rd, .int .i64 rs1, .int .i64 rs2, .int .i64 im, .bool false, .bool false]] w fun e w' => e = .returned (.string ⟨(N ++ []).toArray⟩) ∧ Nb w w' := by
  go_enter Tryd.func18, Tryd.ntmps18
  go_wp2_with fail
  obtain ⟨W1, h1⟩ : ∃ W1, w.alloc (Obj.cells #[.int .i64 op, .int .i64 rd, .int .i64 rs1, .int .i64 rs2, .int .i64 im, .bool false, .bool false] 33) = W1 := ⟨_, rfl⟩
  have k1 := blk_made w _ h1 rfl
  have n1 : Nb w W1 := by rw [← h1]; exact (Nb.refl _).alloc _
  rw [h1]
  clear h1
  refine (HG.out _).mono ?_
  rintro e w2 ⟨rfl, hn⟩
  have n2 := n1.trans hn
  replace k1 := hn.block k1
  clear hn n1
  obtain ⟨z, c0, c1, c2, c3, c4, c5, c6⟩ := cells7 k1
  go_wp2_with fail
  clear z c0 c1 c2 c3 c4 c5 c6
  refine (HN.out _).mono ?_
  rintro e w3 ⟨rfl, hn⟩
  have n3 := n2.trans hn
  replace k1 := hn.block k1
  clear hn n2
  obtain ⟨z, c0, c1, c2, c3, c4, c5, c6⟩ := cells7 k1
  go_wp2_with fail
  clear z c0 c1 c2 c3 c4 c5 c6
  refine (HR.out _).mono ?_
  rintro e w4 ⟨rfl, hn⟩
  have n4 := n3.trans hn
  replace k1 := hn.block k1
  clear hn n3
  obtain ⟨z, c0, c1, c2, c3, c4, c5, c6⟩ := cells7 k1
  go_wp2_with fail
  clear z c0 c1 c2 c3 c4 c5 c6
  go_ret
  exact ⟨ret_s (by simp [ByteArray.mk_append_mk]), n4⟩
set_option maxRecDepth 100000 in
set_option maxHeartbeats 4000000 in
theorem rtext_11_00 (op rd rs1 rs2 im o3 a3 a7 : Int) (N R1 R2 R3 R4 : Bs) (lN : N.length ≤ 14) (l1 : R1.length ≤ 11) (l2 : R2.length ≤ 11) (l3 : R3.length ≤ 11) (l4 : R4.length ≤ 11)
    (HG : Hid (∀ w, Calls Tryd.prog 13 #[.agg #[.int .i64 op, .int .i64 rd, .int .i64 rs1, .int .i64 rs2, .int .i64 im, .bool false, .bool false]] w fun e w' => e = .returned (.bool true) ∧ Nb w w'))
    (HN : Hid (∀ w, Calls Tryd.prog 36 #[.int .i64 op] w fun e w' => e = .returned (.string ⟨N.toArray⟩) ∧ Nb w w'))
    (HR : Hid (∀ w, Calls Tryd.prog 27 #[.int .i64 op] w fun e w' => e = .returned (.agg #[.int .i64 11, .int .i64 o3, .int .i64 a3, .int .i64 a7]) ∧ Nb w w'))
    (I1 : Hid (∀ w, Calls Tryd.prog 37 #[.int .i64 rd] w fun e w' => e = .returned (.string ⟨R1.toArray⟩) ∧ Nb w w'))
    (I2 : Hid (∀ w, Calls Tryd.prog 37 #[.int .i64 rs1] w fun e w' => e = .returned (.string ⟨R2.toArray⟩) ∧ Nb w w'))
    (w : World) :
    Calls Tryd.prog 18 #[.agg #[.int .i64 op, .int .i64 rd, .int .i64 rs1, .int .i64 rs2, .int .i64 im, .bool false, .bool false]] w fun e w' => e = .returned (.string ⟨(N ++ ((32 :: 120 :: R1) ++ (32 :: 120 :: R2))).toArray⟩) ∧ Nb w w' := by
  go_enter Tryd.func18, Tryd.ntmps18
  go_wp2_with fail
  obtain ⟨W1, h1⟩ : ∃ W1, w.alloc (Obj.cells #[.int .i64 op, .int .i64 rd, .int .i64 rs1, .int .i64 rs2, .int .i64 im, .bool false, .bool false] 33) = W1 := ⟨_, rfl⟩
  have k1 := blk_made w _ h1 rfl
  have n1 : Nb w W1 := by rw [← h1]; exact (Nb.refl _).alloc _
  rw [h1]
  clear h1
  refine (HG.out _).mono ?_
  rintro e w2 ⟨rfl, hn⟩
  have n2 := n1.trans hn
  replace k1 := hn.block k1
  clear hn n1
  obtain ⟨z, c0, c1, c2, c3, c4, c5, c6⟩ := cells7 k1
  go_wp2_with fail
  clear z c0 c1 c2 c3 c4 c5 c6
  refine (HN.out _).mono ?_
  rintro e w3 ⟨rfl, hn⟩
  have n3 := n2.trans hn
  replace k1 := hn.block k1
  clear hn n2
  obtain ⟨z, c0, c1, c2, c3, c4, c5, c6⟩ := cells7 k1
  go_wp2_with fail
  clear z c0 c1 c2 c3 c4 c5 c6
  refine (HR.out _).mono ?_
  rintro e w4 ⟨rfl, hn⟩
  have n4 := n3.trans hn
  replace k1 := hn.block k1
  clear hn n3
  obtain ⟨z, c0, c1, c2, c3, c4, c5, c6⟩ := cells7 k1
  go_wp2_with fail
  clear z c0 c1 c2 c3 c4 c5 c6
  refine (I1.out _).mono ?_
  rintro e w5 ⟨rfl, hn⟩
  have n5 := n4.trans hn
  replace k1 := hn.block k1
  clear hn n4
  obtain ⟨z, c0, c1, c2, c3, c4, c5, c6⟩ := cells7 k1
  go_wp2_with fail
  clear z c0 c1 c2 c3 c4 c5 c6
  refine (I2.out _).mono ?_
  rintro e w6 ⟨rfl, hn⟩
  have n6 := n5.trans hn
  replace k1 := hn.block k1
  clear hn n5
  obtain ⟨z, c0, c1, c2, c3, c4, c5, c6⟩ := cells7 k1
  go_wp2_with fail
  clear z c0 c1 c2 c3 c4 c5 c6
  go_ret
  exact ⟨ret_s (by simp [ByteArray.mk_append_mk]), n6⟩
set_option maxRecDepth 100000 in
set_option maxHeartbeats 4000000 in
theorem rtext_11_01 (op rd rs1 rs2 im o3 a3 a7 : Int) (N R1 R2 R3 R4 : Bs) (lN : N.length ≤ 14) (l1 : R1.length ≤ 11) (l2 : R2.length ≤ 11) (l3 : R3.length ≤ 11) (l4 : R4.length ≤ 11)
    (HG : Hid (∀ w, Calls Tryd.prog 13 #[.agg #[.int .i64 op, .int .i64 rd, .int .i64 rs1, .int .i64 rs2, .int .i64 im, .bool false, .bool true]] w fun e w' => e = .returned (.bool true) ∧ Nb w w'))
    (HN : Hid (∀ w, Calls Tryd.prog 36 #[.int .i64 op] w fun e w' => e = .returned (.string ⟨N.toArray⟩) ∧ Nb w w'))
    (HR : Hid (∀ w, Calls Tryd.prog 27 #[.int .i64 op] w fun e w' => e = .returned (.agg #[.int .i64 11, .int .i64 o3, .int .i64 a3, .int .i64 a7]) ∧ Nb w w'))
    (I1 : Hid (∀ w, Calls Tryd.prog 37 #[.int .i64 rd] w fun e w' => e = .returned (.string ⟨R1.toArray⟩) ∧ Nb w w'))
    (I2 : Hid (∀ w, Calls Tryd.prog 37 #[.int .i64 rs1] w fun e w' => e = .returned (.string ⟨R2.toArray⟩) ∧ Nb w w'))
    (w : World) :
    Calls Tryd.prog 18 #[.agg #[.int .i64 op, .int .i64 rd, .int .i64 rs1, .int .i64 rs2, .int .i64 im, .bool false, .bool true]] w fun e w' => e = .returned (.string ⟨((N ++ [46, 114, 108]) ++ ((32 :: 120 :: R1) ++ (32 :: 120 :: R2))).toArray⟩) ∧ Nb w w' := by
  go_enter Tryd.func18, Tryd.ntmps18
  go_wp2_with fail
  obtain ⟨W1, h1⟩ : ∃ W1, w.alloc (Obj.cells #[.int .i64 op, .int .i64 rd, .int .i64 rs1, .int .i64 rs2, .int .i64 im, .bool false, .bool true] 33) = W1 := ⟨_, rfl⟩
  have k1 := blk_made w _ h1 rfl
  have n1 : Nb w W1 := by rw [← h1]; exact (Nb.refl _).alloc _
  rw [h1]
  clear h1
  refine (HG.out _).mono ?_
  rintro e w2 ⟨rfl, hn⟩
  have n2 := n1.trans hn
  replace k1 := hn.block k1
  clear hn n1
  obtain ⟨z, c0, c1, c2, c3, c4, c5, c6⟩ := cells7 k1
  go_wp2_with fail
  clear z c0 c1 c2 c3 c4 c5 c6
  refine (HN.out _).mono ?_
  rintro e w3 ⟨rfl, hn⟩
  have n3 := n2.trans hn
  replace k1 := hn.block k1
  clear hn n2
  obtain ⟨z, c0, c1, c2, c3, c4, c5, c6⟩ := cells7 k1
  go_wp2_with fail
  clear z c0 c1 c2 c3 c4 c5 c6
  refine (HR.out _).mono ?_
  rintro e w4 ⟨rfl, hn⟩
  have n4 := n3.trans hn
  replace k1 := hn.block k1
  clear hn n3
  obtain ⟨z, c0, c1, c2, c3, c4, c5, c6⟩ := cells7 k1
  go_wp2_with fail
  clear z c0 c1 c2 c3 c4 c5 c6
  refine (I1.out _).mono ?_
  rintro e w5 ⟨rfl, hn⟩
  have n5 := n4.trans hn
  replace k1 := hn.block k1
  clear hn n4
  obtain ⟨z, c0, c1, c2, c3, c4, c5, c6⟩ := cells7 k1
  go_wp2_with fail
  clear z c0 c1 c2 c3 c4 c5 c6
  refine (I2.out _).mono ?_
  rintro e w6 ⟨rfl, hn⟩
  have n6 := n5.trans hn
  replace k1 := hn.block k1
  clear hn n5
  obtain ⟨z, c0, c1, c2, c3, c4, c5, c6⟩ := cells7 k1
  go_wp2_with fail
  clear z c0 c1 c2 c3 c4 c5 c6
  go_ret
  exact ⟨ret_s (by simp [ByteArray.mk_append_mk]), n6⟩
set_option maxRecDepth 100000 in
set_option maxHeartbeats 4000000 in
theorem rtext_11_10 (op rd rs1 rs2 im o3 a3 a7 : Int) (N R1 R2 R3 R4 : Bs) (lN : N.length ≤ 14) (l1 : R1.length ≤ 11) (l2 : R2.length ≤ 11) (l3 : R3.length ≤ 11) (l4 : R4.length ≤ 11)
    (HG : Hid (∀ w, Calls Tryd.prog 13 #[.agg #[.int .i64 op, .int .i64 rd, .int .i64 rs1, .int .i64 rs2, .int .i64 im, .bool true, .bool false]] w fun e w' => e = .returned (.bool true) ∧ Nb w w'))
    (HN : Hid (∀ w, Calls Tryd.prog 36 #[.int .i64 op] w fun e w' => e = .returned (.string ⟨N.toArray⟩) ∧ Nb w w'))
    (HR : Hid (∀ w, Calls Tryd.prog 27 #[.int .i64 op] w fun e w' => e = .returned (.agg #[.int .i64 11, .int .i64 o3, .int .i64 a3, .int .i64 a7]) ∧ Nb w w'))
    (I1 : Hid (∀ w, Calls Tryd.prog 37 #[.int .i64 rd] w fun e w' => e = .returned (.string ⟨R1.toArray⟩) ∧ Nb w w'))
    (I2 : Hid (∀ w, Calls Tryd.prog 37 #[.int .i64 rs1] w fun e w' => e = .returned (.string ⟨R2.toArray⟩) ∧ Nb w w'))
    (w : World) :
    Calls Tryd.prog 18 #[.agg #[.int .i64 op, .int .i64 rd, .int .i64 rs1, .int .i64 rs2, .int .i64 im, .bool true, .bool false]] w fun e w' => e = .returned (.string ⟨((N ++ [46, 97, 113]) ++ ((32 :: 120 :: R1) ++ (32 :: 120 :: R2))).toArray⟩) ∧ Nb w w' := by
  go_enter Tryd.func18, Tryd.ntmps18
  go_wp2_with fail
  obtain ⟨W1, h1⟩ : ∃ W1, w.alloc (Obj.cells #[.int .i64 op, .int .i64 rd, .int .i64 rs1, .int .i64 rs2, .int .i64 im, .bool true, .bool false] 33) = W1 := ⟨_, rfl⟩
  have k1 := blk_made w _ h1 rfl
  have n1 : Nb w W1 := by rw [← h1]; exact (Nb.refl _).alloc _
  rw [h1]
  clear h1
  refine (HG.out _).mono ?_
  rintro e w2 ⟨rfl, hn⟩
  have n2 := n1.trans hn
  replace k1 := hn.block k1
  clear hn n1
  obtain ⟨z, c0, c1, c2, c3, c4, c5, c6⟩ := cells7 k1
  go_wp2_with fail
  clear z c0 c1 c2 c3 c4 c5 c6
  refine (HN.out _).mono ?_
  rintro e w3 ⟨rfl, hn⟩
  have n3 := n2.trans hn
  replace k1 := hn.block k1
  clear hn n2
  obtain ⟨z, c0, c1, c2, c3, c4, c5, c6⟩ := cells7 k1
  go_wp2_with fail
  clear z c0 c1 c2 c3 c4 c5 c6
  refine (HR.out _).mono ?_
  rintro e w4 ⟨rfl, hn⟩
  have n4 := n3.trans hn
  replace k1 := hn.block k1
  clear hn n3
  obtain ⟨z, c0, c1, c2, c3, c4, c5, c6⟩ := cells7 k1
  go_wp2_with fail
  clear z c0 c1 c2 c3 c4 c5 c6
  refine (I1.out _).mono ?_
  rintro e w5 ⟨rfl, hn⟩
  have n5 := n4.trans hn
  replace k1 := hn.block k1
  clear hn n4
  obtain ⟨z, c0, c1, c2, c3, c4, c5, c6⟩ := cells7 k1
  go_wp2_with fail
  clear z c0 c1 c2 c3 c4 c5 c6
  refine (I2.out _).mono ?_
  rintro e w6 ⟨rfl, hn⟩
  have n6 := n5.trans hn
  replace k1 := hn.block k1
  clear hn n5
  obtain ⟨z, c0, c1, c2, c3, c4, c5, c6⟩ := cells7 k1
  go_wp2_with fail
  clear z c0 c1 c2 c3 c4 c5 c6
  go_ret
  exact ⟨ret_s (by simp [ByteArray.mk_append_mk]), n6⟩
set_option maxRecDepth 100000 in
set_option maxHeartbeats 4000000 in
theorem rtext_11_11 (op rd rs1 rs2 im o3 a3 a7 : Int) (N R1 R2 R3 R4 : Bs) (lN : N.length ≤ 14) (l1 : R1.length ≤ 11) (l2 : R2.length ≤ 11) (l3 : R3.length ≤ 11) (l4 : R4.length ≤ 11)
    (HG : Hid (∀ w, Calls Tryd.prog 13 #[.agg #[.int .i64 op, .int .i64 rd, .int .i64 rs1, .int .i64 rs2, .int .i64 im, .bool true, .bool true]] w fun e w' => e = .returned (.bool true) ∧ Nb w w'))
    (HN : Hid (∀ w, Calls Tryd.prog 36 #[.int .i64 op] w fun e w' => e = .returned (.string ⟨N.toArray⟩) ∧ Nb w w'))
    (HR : Hid (∀ w, Calls Tryd.prog 27 #[.int .i64 op] w fun e w' => e = .returned (.agg #[.int .i64 11, .int .i64 o3, .int .i64 a3, .int .i64 a7]) ∧ Nb w w'))
    (I1 : Hid (∀ w, Calls Tryd.prog 37 #[.int .i64 rd] w fun e w' => e = .returned (.string ⟨R1.toArray⟩) ∧ Nb w w'))
    (I2 : Hid (∀ w, Calls Tryd.prog 37 #[.int .i64 rs1] w fun e w' => e = .returned (.string ⟨R2.toArray⟩) ∧ Nb w w'))
    (w : World) :
    Calls Tryd.prog 18 #[.agg #[.int .i64 op, .int .i64 rd, .int .i64 rs1, .int .i64 rs2, .int .i64 im, .bool true, .bool true]] w fun e w' => e = .returned (.string ⟨((N ++ [46, 97, 113, 114, 108]) ++ ((32 :: 120 :: R1) ++ (32 :: 120 :: R2))).toArray⟩) ∧ Nb w w' := by
  go_enter Tryd.func18, Tryd.ntmps18
  go_wp2_with fail
  obtain ⟨W1, h1⟩ : ∃ W1, w.alloc (Obj.cells #[.int .i64 op, .int .i64 rd, .int .i64 rs1, .int .i64 rs2, .int .i64 im, .bool true, .bool true] 33) = W1 := ⟨_, rfl⟩
  have k1 := blk_made w _ h1 rfl
  have n1 : Nb w W1 := by rw [← h1]; exact (Nb.refl _).alloc _
  rw [h1]
  clear h1
  refine (HG.out _).mono ?_
  rintro e w2 ⟨rfl, hn⟩
  have n2 := n1.trans hn
  replace k1 := hn.block k1
  clear hn n1
  obtain ⟨z, c0, c1, c2, c3, c4, c5, c6⟩ := cells7 k1
  go_wp2_with fail
  clear z c0 c1 c2 c3 c4 c5 c6
  refine (HN.out _).mono ?_
  rintro e w3 ⟨rfl, hn⟩
  have n3 := n2.trans hn
  replace k1 := hn.block k1
  clear hn n2
  obtain ⟨z, c0, c1, c2, c3, c4, c5, c6⟩ := cells7 k1
  go_wp2_with fail
  clear z c0 c1 c2 c3 c4 c5 c6
  refine (HR.out _).mono ?_
  rintro e w4 ⟨rfl, hn⟩
  have n4 := n3.trans hn
  replace k1 := hn.block k1
  clear hn n3
  obtain ⟨z, c0, c1, c2, c3, c4, c5, c6⟩ := cells7 k1
  go_wp2_with fail
  clear z c0 c1 c2 c3 c4 c5 c6
  refine (I1.out _).mono ?_
  rintro e w5 ⟨rfl, hn⟩
  have n5 := n4.trans hn
  replace k1 := hn.block k1
  clear hn n4
  obtain ⟨z, c0, c1, c2, c3, c4, c5, c6⟩ := cells7 k1
  go_wp2_with fail
  clear z c0 c1 c2 c3 c4 c5 c6
  refine (I2.out _).mono ?_
  rintro e w6 ⟨rfl, hn⟩
  have n6 := n5.trans hn
  replace k1 := hn.block k1
  clear hn n5
  obtain ⟨z, c0, c1, c2, c3, c4, c5, c6⟩ := cells7 k1
  go_wp2_with fail
  clear z c0 c1 c2 c3 c4 c5 c6
  go_ret
  exact ⟨ret_s (by simp [ByteArray.mk_append_mk]), n6⟩
set_option maxRecDepth 100000 in
set_option maxHeartbeats 4000000 in
theorem rtext_12_00 (op rd rs1 rs2 im o3 a3 a7 : Int) (N R1 R2 R3 R4 : Bs) (lN : N.length ≤ 14) (l1 : R1.length ≤ 11) (l2 : R2.length ≤ 11) (l3 : R3.length ≤ 11) (l4 : R4.length ≤ 11)
    (HG : Hid (∀ w, Calls Tryd.prog 13 #[.agg #[.int .i64 op, .int .i64 rd, .int .i64 rs1, .int .i64 rs2, .int .i64 im, .bool false, .bool false]] w fun e w' => e = .returned (.bool true) ∧ Nb w w'))
    (HN : Hid (∀ w, Calls Tryd.prog 36 #[.int .i64 op] w fun e w' => e = .returned (.string ⟨N.toArray⟩) ∧ Nb w w'))
    (HR : Hid (∀ w, Calls Tryd.prog 27 #[.int .i64 op] w fun e w' => e = .returned (.agg #[.int .i64 12, .int .i64 o3, .int .i64 a3, .int .i64 a7]) ∧ Nb w w'))
    (I1 : Hid (∀ w, Calls Tryd.prog 37 #[.int .i64 rd] w fun e w' => e = .returned (.string ⟨R1.toArray⟩) ∧ Nb w w'))
    (I2 : Hid (∀ w, Calls Tryd.prog 37 #[.int .i64 rs1] w fun e w' => e = .returned (.string ⟨R2.toArray⟩) ∧ Nb w w'))
    (I3 : Hid (∀ w, Calls Tryd.prog 37 #[.int .i64 rs2] w fun e w' => e = .returned (.string ⟨R3.toArray⟩) ∧ Nb w w'))
    (w : World) :
    Calls Tryd.prog 18 #[.agg #[.int .i64 op, .int .i64 rd, .int .i64 rs1, .int .i64 rs2, .int .i64 im, .bool false, .bool false]] w fun e w' => e = .returned (.string ⟨(N ++ ((32 :: 120 :: R1) ++ ((32 :: 120 :: R2) ++ (32 :: 120 :: R3)))).toArray⟩) ∧ Nb w w' := by
  go_enter Tryd.func18, Tryd.ntmps18
  go_wp2_with fail
  obtain ⟨W1, h1⟩ : ∃ W1, w.alloc (Obj.cells #[.int .i64 op, .int .i64 rd, .int .i64 rs1, .int .i64 rs2, .int .i64 im, .bool false, .bool false] 33) = W1 := ⟨_, rfl⟩
  have k1 := blk_made w _ h1 rfl
  have n1 : Nb w W1 := by rw [← h1]; exact (Nb.refl _).alloc _
  rw [h1]
  clear h1
  refine (HG.out _).mono ?_
  rintro e w2 ⟨rfl, hn⟩
  have n2 := n1.trans hn
  replace k1 := hn.block k1
  clear hn n1
  obtain ⟨z, c0, c1, c2, c3, c4, c5, c6⟩ := cells7 k1
  go_wp2_with fail
  clear z c0 c1 c2 c3 c4 c5 c6
  refine (HN.out _).mono ?_
  rintro e w3 ⟨rfl, hn⟩
  have n3 := n2.trans hn
  replace k1 := hn.block k1
  clear hn n2
  obtain ⟨z, c0, c1, c2, c3, c4, c5, c6⟩ := cells7 k1
  go_wp2_with fail
  clear z c0 c1 c2 c3 c4 c5 c6
  refine (HR.out _).mono ?_
  rintro e w4 ⟨rfl, hn⟩
  have n4 := n3.trans hn
  replace k1 := hn.block k1
  clear hn n3
  obtain ⟨z, c0, c1, c2, c3, c4, c5, c6⟩ := cells7 k1
  go_wp2_with fail
  clear z c0 c1 c2 c3 c4 c5 c6
  refine (I1.out _).mono ?_
  rintro e w5 ⟨rfl, hn⟩
  have n5 := n4.trans hn
  replace k1 := hn.block k1
  clear hn n4
  obtain ⟨z, c0, c1, c2, c3, c4, c5, c6⟩ := cells7 k1
  go_wp2_with fail
  clear z c0 c1 c2 c3 c4 c5 c6
  refine (I2.out _).mono ?_
  rintro e w6 ⟨rfl, hn⟩
  have n6 := n5.trans hn
  replace k1 := hn.block k1
  clear hn n5
  obtain ⟨z, c0, c1, c2, c3, c4, c5, c6⟩ := cells7 k1
  go_wp2_with fail
  clear z c0 c1 c2 c3 c4 c5 c6
  refine (I3.out _).mono ?_
  rintro e w7 ⟨rfl, hn⟩
  have n7 := n6.trans hn
  replace k1 := hn.block k1
  clear hn n6
  obtain ⟨z, c0, c1, c2, c3, c4, c5, c6⟩ := cells7 k1
  go_wp2_with fail
  clear z c0 c1 c2 c3 c4 c5 c6
  go_ret
  exact ⟨ret_s (by simp [ByteArray.mk_append_mk]), n7⟩
set_option maxRecDepth 100000 in
set_option maxHeartbeats 4000000 in
theorem rtext_12_01 (op rd rs1 rs2 im o3 a3 a7 : Int) (N R1 R2 R3 R4 : Bs) (lN : N.length ≤ 14) (l1 : R1.length ≤ 11) (l2 : R2.length ≤ 11) (l3 : R3.length ≤ 11) (l4 : R4.length ≤ 11)
    (HG : Hid (∀ w, Calls Tryd.prog 13 #[.agg #[.int .i64 op, .int .i64 rd, .int .i64 rs1, .int .i64 rs2, .int .i64 im, .bool false, .bool true]] w fun e w' => e = .returned (.bool true) ∧ Nb w w'))
    (HN : Hid (∀ w, Calls Tryd.prog 36 #[.int .i64 op] w fun e w' => e = .returned (.string ⟨N.toArray⟩) ∧ Nb w w'))
    (HR : Hid (∀ w, Calls Tryd.prog 27 #[.int .i64 op] w fun e w' => e = .returned (.agg #[.int .i64 12, .int .i64 o3, .int .i64 a3, .int .i64 a7]) ∧ Nb w w'))
    (I1 : Hid (∀ w, Calls Tryd.prog 37 #[.int .i64 rd] w fun e w' => e = .returned (.string ⟨R1.toArray⟩) ∧ Nb w w'))
    (I2 : Hid (∀ w, Calls Tryd.prog 37 #[.int .i64 rs1] w fun e w' => e = .returned (.string ⟨R2.toArray⟩) ∧ Nb w w'))
    (I3 : Hid (∀ w, Calls Tryd.prog 37 #[.int .i64 rs2] w fun e w' => e = .returned (.string ⟨R3.toArray⟩) ∧ Nb w w'))
    (w : World) :
    Calls Tryd.prog 18 #[.agg #[.int .i64 op, .int .i64 rd, .int .i64 rs1, .int .i64 rs2, .int .i64 im, .bool false, .bool true]] w fun e w' => e = .returned (.string ⟨((N ++ [46, 114, 108]) ++ ((32 :: 120 :: R1) ++ ((32 :: 120 :: R2) ++ (32 :: 120 :: R3)))).toArray⟩) ∧ Nb w w' := by
  go_enter Tryd.func18, Tryd.ntmps18
  go_wp2_with fail
  obtain ⟨W1, h1⟩ : ∃ W1, w.alloc (Obj.cells #[.int .i64 op, .int .i64 rd, .int .i64 rs1, .int .i64 rs2, .int .i64 im, .bool false, .bool true] 33) = W1 := ⟨_, rfl⟩
  have k1 := blk_made w _ h1 rfl
  have n1 : Nb w W1 := by rw [← h1]; exact (Nb.refl _).alloc _
  rw [h1]
  clear h1
  refine (HG.out _).mono ?_
  rintro e w2 ⟨rfl, hn⟩
  have n2 := n1.trans hn
  replace k1 := hn.block k1
  clear hn n1
  obtain ⟨z, c0, c1, c2, c3, c4, c5, c6⟩ := cells7 k1
  go_wp2_with fail
  clear z c0 c1 c2 c3 c4 c5 c6
  refine (HN.out _).mono ?_
  rintro e w3 ⟨rfl, hn⟩
  have n3 := n2.trans hn
  replace k1 := hn.block k1
  clear hn n2
  obtain ⟨z, c0, c1, c2, c3, c4, c5, c6⟩ := cells7 k1
  go_wp2_with fail
  clear z c0 c1 c2 c3 c4 c5 c6
  refine (HR.out _).mono ?_
  rintro e w4 ⟨rfl, hn⟩
  have n4 := n3.trans hn
  replace k1 := hn.block k1
  clear hn n3
  obtain ⟨z, c0, c1, c2, c3, c4, c5, c6⟩ := cells7 k1
  go_wp2_with fail
  clear z c0 c1 c2 c3 c4 c5 c6
  refine (I1.out _).mono ?_
  rintro e w5 ⟨rfl, hn⟩
  have n5 := n4.trans hn
  replace k1 := hn.block k1
  clear hn n4
  obtain ⟨z, c0, c1, c2, c3, c4, c5, c6⟩ := cells7 k1
  go_wp2_with fail
  clear z c0 c1 c2 c3 c4 c5 c6
  refine (I2.out _).mono ?_
  rintro e w6 ⟨rfl, hn⟩
  have n6 := n5.trans hn
  replace k1 := hn.block k1
  clear hn n5
  obtain ⟨z, c0, c1, c2, c3, c4, c5, c6⟩ := cells7 k1
  go_wp2_with fail
  clear z c0 c1 c2 c3 c4 c5 c6
  refine (I3.out _).mono ?_
  rintro e w7 ⟨rfl, hn⟩
  have n7 := n6.trans hn
  replace k1 := hn.block k1
  clear hn n6
  obtain ⟨z, c0, c1, c2, c3, c4, c5, c6⟩ := cells7 k1
  go_wp2_with fail
  clear z c0 c1 c2 c3 c4 c5 c6
  go_ret
  exact ⟨ret_s (by simp [ByteArray.mk_append_mk]), n7⟩
set_option maxRecDepth 100000 in
set_option maxHeartbeats 4000000 in
theorem rtext_12_10 (op rd rs1 rs2 im o3 a3 a7 : Int) (N R1 R2 R3 R4 : Bs) (lN : N.length ≤ 14) (l1 : R1.length ≤ 11) (l2 : R2.length ≤ 11) (l3 : R3.length ≤ 11) (l4 : R4.length ≤ 11)
    (HG : Hid (∀ w, Calls Tryd.prog 13 #[.agg #[.int .i64 op, .int .i64 rd, .int .i64 rs1, .int .i64 rs2, .int .i64 im, .bool true, .bool false]] w fun e w' => e = .returned (.bool true) ∧ Nb w w'))
    (HN : Hid (∀ w, Calls Tryd.prog 36 #[.int .i64 op] w fun e w' => e = .returned (.string ⟨N.toArray⟩) ∧ Nb w w'))
    (HR : Hid (∀ w, Calls Tryd.prog 27 #[.int .i64 op] w fun e w' => e = .returned (.agg #[.int .i64 12, .int .i64 o3, .int .i64 a3, .int .i64 a7]) ∧ Nb w w'))
    (I1 : Hid (∀ w, Calls Tryd.prog 37 #[.int .i64 rd] w fun e w' => e = .returned (.string ⟨R1.toArray⟩) ∧ Nb w w'))
    (I2 : Hid (∀ w, Calls Tryd.prog 37 #[.int .i64 rs1] w fun e w' => e = .returned (.string ⟨R2.toArray⟩) ∧ Nb w w'))
    (I3 : Hid (∀ w, Calls Tryd.prog 37 #[.int .i64 rs2] w fun e w' => e = .returned (.string ⟨R3.toArray⟩) ∧ Nb w w'))
    (w : World) :
    Calls Tryd.prog 18 #[.agg #[.int .i64 op, .int .i64 rd, .int .i64 rs1, .int .i64 rs2, .int .i64 im, .bool true, .bool false]] w fun e w' => e = .returned (.string ⟨((N ++ [46, 97, 113]) ++ ((32 :: 120 :: R1) ++ ((32 :: 120 :: R2) ++ (32 :: 120 :: R3)))).toArray⟩) ∧ Nb w w' := by
  go_enter Tryd.func18, Tryd.ntmps18
  go_wp2_with fail
  obtain ⟨W1, h1⟩ : ∃ W1, w.alloc (Obj.cells #[.int .i64 op, .int .i64 rd, .int .i64 rs1, .int .i64 rs2, .int .i64 im, .bool true, .bool false] 33) = W1 := ⟨_, rfl⟩
  have k1 := blk_made w _ h1 rfl
  have n1 : Nb w W1 := by rw [← h1]; exact (Nb.refl _).alloc _
  rw [h1]
  clear h1
  refine (HG.out _).mono ?_
  rintro e w2 ⟨rfl, hn⟩
  have n2 := n1.trans hn
  replace k1 := hn.block k1
  clear hn n1
  obtain ⟨z, c0, c1, c2, c3, c4, c5, c6⟩ := cells7 k1
  go_wp2_with fail
  clear z c0 c1 c2 c3 c4 c5 c6
  refine (HN.out _).mono ?_
  rintro e w3 ⟨rfl, hn⟩
  have n3 := n2.trans hn
  replace k1 := hn.block k1
  clear hn n2
  obtain ⟨z, c0, c1, c2, c3, c4, c5, c6⟩ := cells7 k1
  go_wp2_with fail
  clear z c0 c1 c2 c3 c4 c5 c6
  refine (HR.out _).mono ?_
  rintro e w4 ⟨rfl, hn⟩
  have n4 := n3.trans hn
  replace k1 := hn.block k1
  clear hn n3
  obtain ⟨z, c0, c1, c2, c3, c4, c5, c6⟩ := cells7 k1
  go_wp2_with fail
  clear z c0 c1 c2 c3 c4 c5 c6
  refine (I1.out _).mono ?_
  rintro e w5 ⟨rfl, hn⟩
  have n5 := n4.trans hn
  replace k1 := hn.block k1
  clear hn n4
  obtain ⟨z, c0, c1, c2, c3, c4, c5, c6⟩ := cells7 k1
  go_wp2_with fail
  clear z c0 c1 c2 c3 c4 c5 c6
  refine (I2.out _).mono ?_
  rintro e w6 ⟨rfl, hn⟩
  have n6 := n5.trans hn
  replace k1 := hn.block k1
  clear hn n5
  obtain ⟨z, c0, c1, c2, c3, c4, c5, c6⟩ := cells7 k1
  go_wp2_with fail
  clear z c0 c1 c2 c3 c4 c5 c6
  refine (I3.out _).mono ?_
  rintro e w7 ⟨rfl, hn⟩
  have n7 := n6.trans hn
  replace k1 := hn.block k1
  clear hn n6
  obtain ⟨z, c0, c1, c2, c3, c4, c5, c6⟩ := cells7 k1
  go_wp2_with fail
  clear z c0 c1 c2 c3 c4 c5 c6
  go_ret
  exact ⟨ret_s (by simp [ByteArray.mk_append_mk]), n7⟩
set_option maxRecDepth 100000 in
set_option maxHeartbeats 4000000 in
theorem rtext_12_11 (op rd rs1 rs2 im o3 a3 a7 : Int) (N R1 R2 R3 R4 : Bs) (lN : N.length ≤ 14) (l1 : R1.length ≤ 11) (l2 : R2.length ≤ 11) (l3 : R3.length ≤ 11) (l4 : R4.length ≤ 11)
    (HG : Hid (∀ w, Calls Tryd.prog 13 #[.agg #[.int .i64 op, .int .i64 rd, .int .i64 rs1, .int .i64 rs2, .int .i64 im, .bool true, .bool true]] w fun e w' => e = .returned (.bool true) ∧ Nb w w'))
    (HN : Hid (∀ w, Calls Tryd.prog 36 #[.int .i64 op] w fun e w' => e = .returned (.string ⟨N.toArray⟩) ∧ Nb w w'))
    (HR : Hid (∀ w, Calls Tryd.prog 27 #[.int .i64 op] w fun e w' => e = .returned (.agg #[.int .i64 12, .int .i64 o3, .int .i64 a3, .int .i64 a7]) ∧ Nb w w'))
    (I1 : Hid (∀ w, Calls Tryd.prog 37 #[.int .i64 rd] w fun e w' => e = .returned (.string ⟨R1.toArray⟩) ∧ Nb w w'))
    (I2 : Hid (∀ w, Calls Tryd.prog 37 #[.int .i64 rs1] w fun e w' => e = .returned (.string ⟨R2.toArray⟩) ∧ Nb w w'))
    (I3 : Hid (∀ w, Calls Tryd.prog 37 #[.int .i64 rs2] w fun e w' => e = .returned (.string ⟨R3.toArray⟩) ∧ Nb w w'))
    (w : World) :
    Calls Tryd.prog 18 #[.agg #[.int .i64 op, .int .i64 rd, .int .i64 rs1, .int .i64 rs2, .int .i64 im, .bool true, .bool true]] w fun e w' => e = .returned (.string ⟨((N ++ [46, 97, 113, 114, 108]) ++ ((32 :: 120 :: R1) ++ ((32 :: 120 :: R2) ++ (32 :: 120 :: R3)))).toArray⟩) ∧ Nb w w' := by
  go_enter Tryd.func18, Tryd.ntmps18
  go_wp2_with fail
  obtain ⟨W1, h1⟩ : ∃ W1, w.alloc (Obj.cells #[.int .i64 op, .int .i64 rd, .int .i64 rs1, .int .i64 rs2, .int .i64 im, .bool true, .bool true] 33) = W1 := ⟨_, rfl⟩
  have k1 := blk_made w _ h1 rfl
  have n1 : Nb w W1 := by rw [← h1]; exact (Nb.refl _).alloc _
  rw [h1]
  clear h1
  refine (HG.out _).mono ?_
  rintro e w2 ⟨rfl, hn⟩
  have n2 := n1.trans hn
  replace k1 := hn.block k1
  clear hn n1
  obtain ⟨z, c0, c1, c2, c3, c4, c5, c6⟩ := cells7 k1
  go_wp2_with fail
  clear z c0 c1 c2 c3 c4 c5 c6
  refine (HN.out _).mono ?_
  rintro e w3 ⟨rfl, hn⟩
  have n3 := n2.trans hn
  replace k1 := hn.block k1
  clear hn n2
  obtain ⟨z, c0, c1, c2, c3, c4, c5, c6⟩ := cells7 k1
  go_wp2_with fail
  clear z c0 c1 c2 c3 c4 c5 c6
  refine (HR.out _).mono ?_
  rintro e w4 ⟨rfl, hn⟩
  have n4 := n3.trans hn
  replace k1 := hn.block k1
  clear hn n3
  obtain ⟨z, c0, c1, c2, c3, c4, c5, c6⟩ := cells7 k1
  go_wp2_with fail
  clear z c0 c1 c2 c3 c4 c5 c6
  refine (I1.out _).mono ?_
  rintro e w5 ⟨rfl, hn⟩
  have n5 := n4.trans hn
  replace k1 := hn.block k1
  clear hn n4
  obtain ⟨z, c0, c1, c2, c3, c4, c5, c6⟩ := cells7 k1
  go_wp2_with fail
  clear z c0 c1 c2 c3 c4 c5 c6
  refine (I2.out _).mono ?_
  rintro e w6 ⟨rfl, hn⟩
  have n6 := n5.trans hn
  replace k1 := hn.block k1
  clear hn n5
  obtain ⟨z, c0, c1, c2, c3, c4, c5, c6⟩ := cells7 k1
  go_wp2_with fail
  clear z c0 c1 c2 c3 c4 c5 c6
  refine (I3.out _).mono ?_
  rintro e w7 ⟨rfl, hn⟩
  have n7 := n6.trans hn
  replace k1 := hn.block k1
  clear hn n6
  obtain ⟨z, c0, c1, c2, c3, c4, c5, c6⟩ := cells7 k1
  go_wp2_with fail
  clear z c0 c1 c2 c3 c4 c5 c6
  go_ret
  exact ⟨ret_s (by simp [ByteArray.mk_append_mk]), n7⟩
set_option maxRecDepth 100000 in
set_option maxHeartbeats 4000000 in
theorem rtext_no (op rd rs1 rs2 im : Int) (aq rl : Bool)
    (HG : Hid (∀ w, Calls Tryd.prog 13 #[.agg #[.int .i64 op, .int .i64 rd, .int .i64 rs1, .int .i64 rs2, .int .i64 im, .bool aq, .bool rl]] w fun e w' => e = .returned (.bool false) ∧ Nb w w')) (w : World) :
    Calls Tryd.prog 18 #[.agg #[.int .i64 op, .int .i64 rd, .int .i64 rs1, .int .i64 rs2, .int .i64 im, .bool aq, .bool rl]] w fun e w' => e = .returned (.string ⟨([] : Bs).toArray⟩) ∧ Nb w w' := by
  go_enter Tryd.func18, Tryd.ntmps18
  go_wp2_with fail
  have n1 := (Nb.refl w).alloc (Obj.cells #[.int .i64 op, .int .i64 rd, .int .i64 rs1, .int .i64 rs2, .int .i64 im, .bool aq, .bool rl] 33)
  refine (HG.out _).mono ?_
  rintro e w2 ⟨rfl, hn⟩
  go_wp2_with fail
  go_ret
  exact ⟨rfl, n1.trans hn⟩
theorem rgoodL (op rd rs1 rs2 im : Int) (aq rl : Bool) (v0 : -9223372036854775808 ≤ im) (v1 : im < 9223372036854775808) (w : World) :
    Calls Tryd.prog 13 #[.agg #[.int .i64 op, .int .i64 rd, .int .i64 rs1, .int .i64 rs2, .int .i64 im, .bool aq, .bool rl]] w fun e w' => e = .returned (.bool (GoodB op rd rs1 rs2 im aq rl)) ∧ Nb w w' := by
  rw [← rgood_is]
  exact rgood_any op rd rs1 rs2 im aq rl v0 v1 w
theorem good_flags {op rd rs1 rs2 im : Int} {aq rl : Bool} (h : GoodB op rd rs1 rs2 im aq rl = true) : ordT (refRow op).1 = false → aq = false ∧ rl = false := by
  intro e
  rw [← rgood_is] at h
  unfold RGB at h
  rw [e] at h
  simp only [Bool.and_eq_true, Bool.or_eq_true, Bool.not_eq_true'] at h
  have := h.2.2.2.2.2
  simpa using this
set_option maxHeartbeats 4000000 in
theorem rtext_any (op rd rs1 rs2 im : Int) (aq rl : Bool) (v0 : -9223372036854775808 ≤ im) (v1 : im < 9223372036854775808) (w : World) :
    Calls Tryd.prog 18 #[.agg #[.int .i64 op, .int .i64 rd, .int .i64 rs1, .int .i64 rs2, .int .i64 im, .bool aq, .bool rl]] w fun e w' => e = .returned (.string ⟨(TextV op rd rs1 rs2 im aq rl).toArray⟩) ∧ Nb w w' := by
  have HG := fun w => rgoodL op rd rs1 rs2 im aq rl v0 v1 w
  unfold TextV
  cases hg : GoodB op rd rs1 rs2 im aq rl <;> rw [hg] at HG
  · exact rtext_no op rd rs1 rs2 im aq rl (Lib.hid HG) w
  rw [if_pos rfl]
  obtain ⟨ho, z1, z2, z3, z4, r1, r2, r3, r4⟩ := good_is hg
  have HN := Lib.hid (fun w => name_any op (by omega) w)
  have HR := fun w => (row_any op w).mono fun _ _ h => (⟨h.1, h.2.b⟩ : _ ∧ _)
  have I1 := Lib.hid (fun w => number_any rd (by omega) (by omega) w)
  have I2 := Lib.hid (fun w => number_any rs1 (by omega) (by omega) w)
  have I3 := Lib.hid (fun w => number_any rs2 (by omega) (by omega) w)
  have I4 := Lib.hid (fun w => number_any im (by omega) (by omega) w)
  have lN : (nm op).length ≤ 14 := by have := (name_no op ho false false).2.2.1; simp [suf] at this; exact this
  have l1 := Nat.le_trans (itoa_len31 rd r1.1 r1.2) (by decide : 2 ≤ 11)
  have l2 := Nat.le_trans (itoa_len31 rs1 r2.1 r2.2) (by decide : 2 ≤ 11)
  have l3 := Nat.le_trans (itoa_len31 rs2 r3.1 r3.2) (by decide : 2 ≤ 11)
  have l4 := itoa_len32 im r4.1 r4.2
  have hfl := good_flags hg
  obtain ⟨f0, f1, -⟩ := row_ok op
  have fz : (refRow op).1 ≠ 0 := by
    intro h
    unfold GoodB at hg
    rw [if_pos h] at hg
    cases hg
  unfold textL
  generalize (refRow op).2.2.2 = x7 at *
  generalize (refRow op).2.2.1 = x3 at *
  generalize (refRow op).2.1 = x2 at *
  generalize (refRow op).1 = f at *
  have h : f = 1 ∨ f = 2 ∨ f = 3 ∨ f = 4 ∨ f = 5 ∨ f = 6 ∨ f = 7 ∨ f = 8 ∨ f = 9 ∨ f = 10 ∨ f = 11 ∨ f = 12 := by omega
  rcases h with rfl | rfl | rfl | rfl | rfl | rfl | rfl | rfl | rfl | rfl | rfl | rfl
  · obtain ⟨rfl, rfl⟩ := hfl rfl
    refine (rtext_1_00 op rd rs1 rs2 im x2 x3 x7 _ _ _ _ _ lN l1 l2 l3 l4 (Lib.hid HG) HN (Lib.hid HR) I1 I4 w).mono ?_
    rintro e w' ⟨rfl, hn⟩
    exact ⟨str_l (by simp [tailL, opt, suf, rdT, rs1T, rs2T, immT, pcx, pcn]), hn⟩
  · obtain ⟨rfl, rfl⟩ := hfl rfl
    refine (rtext_2_00 op rd rs1 rs2 im x2 x3 x7 _ _ _ _ _ lN l1 l2 l3 l4 (Lib.hid HG) HN (Lib.hid HR) I1 I4 w).mono ?_
    rintro e w' ⟨rfl, hn⟩
    exact ⟨str_l (by simp [tailL, opt, suf, rdT, rs1T, rs2T, immT, pcx, pcn]), hn⟩
  · obtain ⟨rfl, rfl⟩ := hfl rfl
    refine (rtext_3_00 op rd rs1 rs2 im x2 x3 x7 _ _ _ _ _ lN l1 l2 l3 l4 (Lib.hid HG) HN (Lib.hid HR) I1 I2 I4 w).mono ?_
    rintro e w' ⟨rfl, hn⟩
    exact ⟨str_l (by simp [tailL, opt, suf, rdT, rs1T, rs2T, immT, pcx, pcn]), hn⟩
  · obtain ⟨rfl, rfl⟩ := hfl rfl
    refine (rtext_4_00 op rd rs1 rs2 im x2 x3 x7 _ _ _ _ _ lN l1 l2 l3 l4 (Lib.hid HG) HN (Lib.hid HR) I2 I3 I4 w).mono ?_
    rintro e w' ⟨rfl, hn⟩
    exact ⟨str_l (by simp [tailL, opt, suf, rdT, rs1T, rs2T, immT, pcx, pcn]), hn⟩
  · obtain ⟨rfl, rfl⟩ := hfl rfl
    refine (rtext_5_00 op rd rs1 rs2 im x2 x3 x7 _ _ _ _ _ lN l1 l2 l3 l4 (Lib.hid HG) HN (Lib.hid HR) I2 I3 I4 w).mono ?_
    rintro e w' ⟨rfl, hn⟩
    exact ⟨str_l (by simp [tailL, opt, suf, rdT, rs1T, rs2T, immT, pcx, pcn]), hn⟩
  · obtain ⟨rfl, rfl⟩ := hfl rfl
    refine (rtext_6_00 op rd rs1 rs2 im x2 x3 x7 _ _ _ _ _ lN l1 l2 l3 l4 (Lib.hid HG) HN (Lib.hid HR) I1 I2 I4 w).mono ?_
    rintro e w' ⟨rfl, hn⟩
    exact ⟨str_l (by simp [tailL, opt, suf, rdT, rs1T, rs2T, immT, pcx, pcn]), hn⟩
  · obtain ⟨rfl, rfl⟩ := hfl rfl
    refine (rtext_7_00 op rd rs1 rs2 im x2 x3 x7 _ _ _ _ _ lN l1 l2 l3 l4 (Lib.hid HG) HN (Lib.hid HR) I1 I2 I4 w).mono ?_
    rintro e w' ⟨rfl, hn⟩
    exact ⟨str_l (by simp [tailL, opt, suf, rdT, rs1T, rs2T, immT, pcx, pcn]), hn⟩
  · obtain ⟨rfl, rfl⟩ := hfl rfl
    refine (rtext_8_00 op rd rs1 rs2 im x2 x3 x7 _ _ _ _ _ lN l1 l2 l3 l4 (Lib.hid HG) HN (Lib.hid HR) I1 I2 I3 w).mono ?_
    rintro e w' ⟨rfl, hn⟩
    exact ⟨str_l (by simp [tailL, opt, suf, rdT, rs1T, rs2T, immT, pcx, pcn]), hn⟩
  · obtain ⟨rfl, rfl⟩ := hfl rfl
    refine (rtext_9_00 op rd rs1 rs2 im x2 x3 x7 _ _ _ _ _ lN l1 l2 l3 l4 (Lib.hid HG) HN (Lib.hid HR) I4 w).mono ?_
    rintro e w' ⟨rfl, hn⟩
    exact ⟨str_l (by simp [tailL, opt, suf, rdT, rs1T, rs2T, immT, pcx, pcn]), hn⟩
  · obtain ⟨rfl, rfl⟩ := hfl rfl
    refine (rtext_10_00 op rd rs1 rs2 im x2 x3 x7 _ _ _ _ _ lN l1 l2 l3 l4 (Lib.hid HG) HN (Lib.hid HR)  w).mono ?_
    rintro e w' ⟨rfl, hn⟩
    exact ⟨str_l (by simp [tailL, opt, suf, rdT, rs1T, rs2T, immT, pcx, pcn]), hn⟩
  · cases aq <;> cases rl
    · refine (rtext_11_00 op rd rs1 rs2 im x2 x3 x7 _ _ _ _ _ lN l1 l2 l3 l4 (Lib.hid HG) HN (Lib.hid HR) I1 I2 w).mono ?_
      rintro e w' ⟨rfl, hn⟩
      exact ⟨str_l (by simp [tailL, opt, suf, rdT, rs1T, rs2T, immT, pcx, pcn]), hn⟩
    · refine (rtext_11_01 op rd rs1 rs2 im x2 x3 x7 _ _ _ _ _ lN l1 l2 l3 l4 (Lib.hid HG) HN (Lib.hid HR) I1 I2 w).mono ?_
      rintro e w' ⟨rfl, hn⟩
      exact ⟨str_l (by simp [tailL, opt, suf, rdT, rs1T, rs2T, immT, pcx, pcn]), hn⟩
    · refine (rtext_11_10 op rd rs1 rs2 im x2 x3 x7 _ _ _ _ _ lN l1 l2 l3 l4 (Lib.hid HG) HN (Lib.hid HR) I1 I2 w).mono ?_
      rintro e w' ⟨rfl, hn⟩
      exact ⟨str_l (by simp [tailL, opt, suf, rdT, rs1T, rs2T, immT, pcx, pcn]), hn⟩
    · refine (rtext_11_11 op rd rs1 rs2 im x2 x3 x7 _ _ _ _ _ lN l1 l2 l3 l4 (Lib.hid HG) HN (Lib.hid HR) I1 I2 w).mono ?_
      rintro e w' ⟨rfl, hn⟩
      exact ⟨str_l (by simp [tailL, opt, suf, rdT, rs1T, rs2T, immT, pcx, pcn]), hn⟩
  · cases aq <;> cases rl
    · refine (rtext_12_00 op rd rs1 rs2 im x2 x3 x7 _ _ _ _ _ lN l1 l2 l3 l4 (Lib.hid HG) HN (Lib.hid HR) I1 I2 I3 w).mono ?_
      rintro e w' ⟨rfl, hn⟩
      exact ⟨str_l (by simp [tailL, opt, suf, rdT, rs1T, rs2T, immT, pcx, pcn]), hn⟩
    · refine (rtext_12_01 op rd rs1 rs2 im x2 x3 x7 _ _ _ _ _ lN l1 l2 l3 l4 (Lib.hid HG) HN (Lib.hid HR) I1 I2 I3 w).mono ?_
      rintro e w' ⟨rfl, hn⟩
      exact ⟨str_l (by simp [tailL, opt, suf, rdT, rs1T, rs2T, immT, pcx, pcn]), hn⟩
    · refine (rtext_12_10 op rd rs1 rs2 im x2 x3 x7 _ _ _ _ _ lN l1 l2 l3 l4 (Lib.hid HG) HN (Lib.hid HR) I1 I2 I3 w).mono ?_
      rintro e w' ⟨rfl, hn⟩
      exact ⟨str_l (by simp [tailL, opt, suf, rdT, rs1T, rs2T, immT, pcx, pcn]), hn⟩
    · refine (rtext_12_11 op rd rs1 rs2 im x2 x3 x7 _ _ _ _ _ lN l1 l2 l3 l4 (Lib.hid HG) HN (Lib.hid HR) I1 I2 I3 w).mono ?_
      rintro e w' ⟨rfl, hn⟩
      exact ⟨str_l (by simp [tailL, opt, suf, rdT, rs1T, rs2T, immT, pcx, pcn]), hn⟩
end Go.Proofs.YtmggichckhoomaaDoor
