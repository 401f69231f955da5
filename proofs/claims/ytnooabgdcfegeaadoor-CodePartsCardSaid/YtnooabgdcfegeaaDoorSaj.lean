/-
  Proved here: what only of the code answers, form by form. Condition: the form is one.
-/
import Derived.Test.YtnooabgdcfegeaaDoorSah
import Derived.Test.YtnooabgdcfegeaaDoorSai
import Derived.Deep.Cut
import Derived.RegionTactic
namespace Go.Proofs.YtnooabgdcfegeaaDoor
open Go.RowKit
set_option linter.unusedVariables false
/-- What an instruction has of its form's fields alone. -/
def oi (b : Bool) (x : Int) : Int := if b = true then x else 0
def ob (b x : Bool) : Bool := if b = true then x else false
theorem only_0 (op rd rs1 rs2 im : Int) (aq rl : Bool) (w : World) :
    Calls Tryd.prog 76 #[.agg #[.int .i64 op, .int .i64 rd, .int .i64 rs1, .int .i64 rs2, .int .i64 im, .bool aq, .bool rl], .int .u32 0] w fun e w' => e = .returned (.agg #[.int .i64 op, .int .i64 0, .int .i64 0, .int .i64 0, .int .i64 0, .bool false, .bool false]) ∧ Nw w w' := by
  go_enter Tryd.func76, Tryd.ntmps76
  go_wp2_with fail
  obtain ⟨W2, hW⟩ : ∃ W2, (w.alloc (.cells #[.int .i64 op, .int .i64 rd, .int .i64 rs1, .int .i64 rs2, .int .i64 im, .bool aq, .bool rl] 37)).alloc (.cells #[.int .i64 0, .int .i64 0, .int .i64 0, .int .i64 0, .int .i64 0, .bool false, .bool false] 37) = W2 := ⟨_, rfl⟩
  have b1 := heap_alloc2_old w (.cells #[.int .i64 op, .int .i64 rd, .int .i64 rs1, .int .i64 rs2, .int .i64 im, .bool aq, .bool rl] 37) (.cells #[.int .i64 0, .int .i64 0, .int .i64 0, .int .i64 0, .int .i64 0, .bool false, .bool false] 37)
  have b2 := heap_alloc2_new w (.cells #[.int .i64 op, .int .i64 rd, .int .i64 rs1, .int .i64 rs2, .int .i64 im, .bool aq, .bool rl] 37) (.cells #[.int .i64 0, .int .i64 0, .int .i64 0, .int .i64 0, .int .i64 0, .bool false, .bool false] 37)
  have hN : Nw w W2 := by rw [← hW]; exact ((Nw.refl _).alloc _ _).alloc _ _
  rw [hW] at b1 b2 ⊢
  clear hW
  refine (fi_0 _).mono ?_
  rintro e w' ⟨rfl, hn⟩
  have hN' := hN.trans hn
  have b2' := Lib.hid (blk_keep hn b2)
  have n2 := lt_of_block b2'.out
  obtain ⟨n1, c0, c1, c2, c3, c4, c5, c6⟩ := cells7 (blk_keep hn b1)
  clear hn b1 b2 hN
  go_upto_region 13 with (fail)
  clear n1 c0 c1 c2 c3 c4 c5 c6
  apply wp_region_list
  refine wpList_load_row rfl 37 _ rfl (w'.heap.size + 1) rfl 37 #[.int .i64 op, .int .i64 0, .int .i64 0, .int .i64 0, .int .i64 0, .bool false, .bool false] (0, 0) _ (heap_alloc2_new _ _ _) Tryd.underlying37 rfl (by kernel_rfl) ?_
  refine wpList_store_row rfl 37 _ _ rfl (w.heap.size + 1) #[.int .i64 op, .int .i64 0, .int .i64 0, .int .i64 0, .int .i64 0, .bool false, .bool false] rfl rfl 37 #[.int .i64 0, .int .i64 0, .int .i64 0, .int .i64 0, .int .i64 0, .bool false, .bool false] ((heap_alloc_old _ _ (by simp; omega)).trans ((heap_alloc_old _ _ n2).trans b2'.out)) (by kernel_rfl) rfl (by kernel_rfl) ?_
  refine wpList_nil ?_
  rename_i hK
  refine hK _ _ ?_
  clear hK
  go_wp2_with fail
  refine bodyPost_ret (v := .agg #[.int .i64 op, .int .i64 0, .int .i64 0, .int .i64 0, .int .i64 0, .bool false, .bool false]) (results_cell_row rfl _ _ (w.heap.size + 1) 37 _ (0, 0) _ rfl (setRow_heap _ _ _ _ _ _ ((heap_alloc_old _ _ (by simp; omega)).trans ((heap_alloc_old _ _ n2).trans b2'.out))) Tryd.underlying37 rfl (by kernel_rfl)) rfl ⟨rfl, ?_⟩
  exact ((hN'.alloc _ _).alloc _ _).setRow (by omega) _ ((heap_alloc_old _ _ (by simp; omega)).trans ((heap_alloc_old _ _ n2).trans b2'.out))
theorem only_1 (op rd rs1 rs2 im : Int) (aq rl : Bool) (w : World) :
    Calls Tryd.prog 76 #[.agg #[.int .i64 op, .int .i64 rd, .int .i64 rs1, .int .i64 rs2, .int .i64 im, .bool aq, .bool rl], .int .u32 1048576] w fun e w' => e = .returned (.agg #[.int .i64 op, .int .i64 rd, .int .i64 0, .int .i64 0, .int .i64 im, .bool false, .bool false]) ∧ Nw w w' := by
  go_enter Tryd.func76, Tryd.ntmps76
  go_wp2_with fail
  obtain ⟨W2, hW⟩ : ∃ W2, (w.alloc (.cells #[.int .i64 op, .int .i64 rd, .int .i64 rs1, .int .i64 rs2, .int .i64 im, .bool aq, .bool rl] 37)).alloc (.cells #[.int .i64 0, .int .i64 0, .int .i64 0, .int .i64 0, .int .i64 0, .bool false, .bool false] 37) = W2 := ⟨_, rfl⟩
  have b1 := heap_alloc2_old w (.cells #[.int .i64 op, .int .i64 rd, .int .i64 rs1, .int .i64 rs2, .int .i64 im, .bool aq, .bool rl] 37) (.cells #[.int .i64 0, .int .i64 0, .int .i64 0, .int .i64 0, .int .i64 0, .bool false, .bool false] 37)
  have b2 := heap_alloc2_new w (.cells #[.int .i64 op, .int .i64 rd, .int .i64 rs1, .int .i64 rs2, .int .i64 im, .bool aq, .bool rl] 37) (.cells #[.int .i64 0, .int .i64 0, .int .i64 0, .int .i64 0, .int .i64 0, .bool false, .bool false] 37)
  have hN : Nw w W2 := by rw [← hW]; exact ((Nw.refl _).alloc _ _).alloc _ _
  rw [hW] at b1 b2 ⊢
  clear hW
  refine (fi_1 _).mono ?_
  rintro e w' ⟨rfl, hn⟩
  have hN' := hN.trans hn
  have b2' := Lib.hid (blk_keep hn b2)
  have n2 := lt_of_block b2'.out
  obtain ⟨n1, c0, c1, c2, c3, c4, c5, c6⟩ := cells7 (blk_keep hn b1)
  clear hn b1 b2 hN
  go_upto_region 13 with (fail)
  clear n1 c0 c1 c2 c3 c4 c5 c6
  apply wp_region_list
  refine wpList_load_row rfl 37 _ rfl (w'.heap.size + 1) rfl 37 #[.int .i64 op, .int .i64 rd, .int .i64 0, .int .i64 0, .int .i64 im, .bool false, .bool false] (0, 0) _ (heap_alloc2_new _ _ _) Tryd.underlying37 rfl (by kernel_rfl) ?_
  refine wpList_store_row rfl 37 _ _ rfl (w.heap.size + 1) #[.int .i64 op, .int .i64 rd, .int .i64 0, .int .i64 0, .int .i64 im, .bool false, .bool false] rfl rfl 37 #[.int .i64 0, .int .i64 0, .int .i64 0, .int .i64 0, .int .i64 0, .bool false, .bool false] ((heap_alloc_old _ _ (by simp; omega)).trans ((heap_alloc_old _ _ n2).trans b2'.out)) (by kernel_rfl) rfl (by kernel_rfl) ?_
  refine wpList_nil ?_
  rename_i hK
  refine hK _ _ ?_
  clear hK
  go_wp2_with fail
  refine bodyPost_ret (v := .agg #[.int .i64 op, .int .i64 rd, .int .i64 0, .int .i64 0, .int .i64 im, .bool false, .bool false]) (results_cell_row rfl _ _ (w.heap.size + 1) 37 _ (0, 0) _ rfl (setRow_heap _ _ _ _ _ _ ((heap_alloc_old _ _ (by simp; omega)).trans ((heap_alloc_old _ _ n2).trans b2'.out))) Tryd.underlying37 rfl (by kernel_rfl)) rfl ⟨rfl, ?_⟩
  exact ((hN'.alloc _ _).alloc _ _).setRow (by omega) _ ((heap_alloc_old _ _ (by simp; omega)).trans ((heap_alloc_old _ _ n2).trans b2'.out))
theorem only_2 (op rd rs1 rs2 im : Int) (aq rl : Bool) (w : World) :
    Calls Tryd.prog 76 #[.agg #[.int .i64 op, .int .i64 rd, .int .i64 rs1, .int .i64 rs2, .int .i64 im, .bool aq, .bool rl], .int .u32 2097152] w fun e w' => e = .returned (.agg #[.int .i64 op, .int .i64 rd, .int .i64 0, .int .i64 0, .int .i64 im, .bool false, .bool false]) ∧ Nw w w' := by
  go_enter Tryd.func76, Tryd.ntmps76
  go_wp2_with fail
  obtain ⟨W2, hW⟩ : ∃ W2, (w.alloc (.cells #[.int .i64 op, .int .i64 rd, .int .i64 rs1, .int .i64 rs2, .int .i64 im, .bool aq, .bool rl] 37)).alloc (.cells #[.int .i64 0, .int .i64 0, .int .i64 0, .int .i64 0, .int .i64 0, .bool false, .bool false] 37) = W2 := ⟨_, rfl⟩
  have b1 := heap_alloc2_old w (.cells #[.int .i64 op, .int .i64 rd, .int .i64 rs1, .int .i64 rs2, .int .i64 im, .bool aq, .bool rl] 37) (.cells #[.int .i64 0, .int .i64 0, .int .i64 0, .int .i64 0, .int .i64 0, .bool false, .bool false] 37)
  have b2 := heap_alloc2_new w (.cells #[.int .i64 op, .int .i64 rd, .int .i64 rs1, .int .i64 rs2, .int .i64 im, .bool aq, .bool rl] 37) (.cells #[.int .i64 0, .int .i64 0, .int .i64 0, .int .i64 0, .int .i64 0, .bool false, .bool false] 37)
  have hN : Nw w W2 := by rw [← hW]; exact ((Nw.refl _).alloc _ _).alloc _ _
  rw [hW] at b1 b2 ⊢
  clear hW
  refine (fi_2 _).mono ?_
  rintro e w' ⟨rfl, hn⟩
  have hN' := hN.trans hn
  have b2' := Lib.hid (blk_keep hn b2)
  have n2 := lt_of_block b2'.out
  obtain ⟨n1, c0, c1, c2, c3, c4, c5, c6⟩ := cells7 (blk_keep hn b1)
  clear hn b1 b2 hN
  go_upto_region 13 with (fail)
  clear n1 c0 c1 c2 c3 c4 c5 c6
  apply wp_region_list
  refine wpList_load_row rfl 37 _ rfl (w'.heap.size + 1) rfl 37 #[.int .i64 op, .int .i64 rd, .int .i64 0, .int .i64 0, .int .i64 im, .bool false, .bool false] (0, 0) _ (heap_alloc2_new _ _ _) Tryd.underlying37 rfl (by kernel_rfl) ?_
  refine wpList_store_row rfl 37 _ _ rfl (w.heap.size + 1) #[.int .i64 op, .int .i64 rd, .int .i64 0, .int .i64 0, .int .i64 im, .bool false, .bool false] rfl rfl 37 #[.int .i64 0, .int .i64 0, .int .i64 0, .int .i64 0, .int .i64 0, .bool false, .bool false] ((heap_alloc_old _ _ (by simp; omega)).trans ((heap_alloc_old _ _ n2).trans b2'.out)) (by kernel_rfl) rfl (by kernel_rfl) ?_
  refine wpList_nil ?_
  rename_i hK
  refine hK _ _ ?_
  clear hK
  go_wp2_with fail
  refine bodyPost_ret (v := .agg #[.int .i64 op, .int .i64 rd, .int .i64 0, .int .i64 0, .int .i64 im, .bool false, .bool false]) (results_cell_row rfl _ _ (w.heap.size + 1) 37 _ (0, 0) _ rfl (setRow_heap _ _ _ _ _ _ ((heap_alloc_old _ _ (by simp; omega)).trans ((heap_alloc_old _ _ n2).trans b2'.out))) Tryd.underlying37 rfl (by kernel_rfl)) rfl ⟨rfl, ?_⟩
  exact ((hN'.alloc _ _).alloc _ _).setRow (by omega) _ ((heap_alloc_old _ _ (by simp; omega)).trans ((heap_alloc_old _ _ n2).trans b2'.out))
theorem only_3 (op rd rs1 rs2 im : Int) (aq rl : Bool) (w : World) :
    Calls Tryd.prog 76 #[.agg #[.int .i64 op, .int .i64 rd, .int .i64 rs1, .int .i64 rs2, .int .i64 im, .bool aq, .bool rl], .int .u32 3145728] w fun e w' => e = .returned (.agg #[.int .i64 op, .int .i64 rd, .int .i64 rs1, .int .i64 0, .int .i64 im, .bool false, .bool false]) ∧ Nw w w' := by
  go_enter Tryd.func76, Tryd.ntmps76
  go_wp2_with fail
  obtain ⟨W2, hW⟩ : ∃ W2, (w.alloc (.cells #[.int .i64 op, .int .i64 rd, .int .i64 rs1, .int .i64 rs2, .int .i64 im, .bool aq, .bool rl] 37)).alloc (.cells #[.int .i64 0, .int .i64 0, .int .i64 0, .int .i64 0, .int .i64 0, .bool false, .bool false] 37) = W2 := ⟨_, rfl⟩
  have b1 := heap_alloc2_old w (.cells #[.int .i64 op, .int .i64 rd, .int .i64 rs1, .int .i64 rs2, .int .i64 im, .bool aq, .bool rl] 37) (.cells #[.int .i64 0, .int .i64 0, .int .i64 0, .int .i64 0, .int .i64 0, .bool false, .bool false] 37)
  have b2 := heap_alloc2_new w (.cells #[.int .i64 op, .int .i64 rd, .int .i64 rs1, .int .i64 rs2, .int .i64 im, .bool aq, .bool rl] 37) (.cells #[.int .i64 0, .int .i64 0, .int .i64 0, .int .i64 0, .int .i64 0, .bool false, .bool false] 37)
  have hN : Nw w W2 := by rw [← hW]; exact ((Nw.refl _).alloc _ _).alloc _ _
  rw [hW] at b1 b2 ⊢
  clear hW
  refine (fi_3 _).mono ?_
  rintro e w' ⟨rfl, hn⟩
  have hN' := hN.trans hn
  have b2' := Lib.hid (blk_keep hn b2)
  have n2 := lt_of_block b2'.out
  obtain ⟨n1, c0, c1, c2, c3, c4, c5, c6⟩ := cells7 (blk_keep hn b1)
  clear hn b1 b2 hN
  go_upto_region 13 with (fail)
  clear n1 c0 c1 c2 c3 c4 c5 c6
  apply wp_region_list
  refine wpList_load_row rfl 37 _ rfl (w'.heap.size + 1) rfl 37 #[.int .i64 op, .int .i64 rd, .int .i64 rs1, .int .i64 0, .int .i64 im, .bool false, .bool false] (0, 0) _ (heap_alloc2_new _ _ _) Tryd.underlying37 rfl (by kernel_rfl) ?_
  refine wpList_store_row rfl 37 _ _ rfl (w.heap.size + 1) #[.int .i64 op, .int .i64 rd, .int .i64 rs1, .int .i64 0, .int .i64 im, .bool false, .bool false] rfl rfl 37 #[.int .i64 0, .int .i64 0, .int .i64 0, .int .i64 0, .int .i64 0, .bool false, .bool false] ((heap_alloc_old _ _ (by simp; omega)).trans ((heap_alloc_old _ _ n2).trans b2'.out)) (by kernel_rfl) rfl (by kernel_rfl) ?_
  refine wpList_nil ?_
  rename_i hK
  refine hK _ _ ?_
  clear hK
  go_wp2_with fail
  refine bodyPost_ret (v := .agg #[.int .i64 op, .int .i64 rd, .int .i64 rs1, .int .i64 0, .int .i64 im, .bool false, .bool false]) (results_cell_row rfl _ _ (w.heap.size + 1) 37 _ (0, 0) _ rfl (setRow_heap _ _ _ _ _ _ ((heap_alloc_old _ _ (by simp; omega)).trans ((heap_alloc_old _ _ n2).trans b2'.out))) Tryd.underlying37 rfl (by kernel_rfl)) rfl ⟨rfl, ?_⟩
  exact ((hN'.alloc _ _).alloc _ _).setRow (by omega) _ ((heap_alloc_old _ _ (by simp; omega)).trans ((heap_alloc_old _ _ n2).trans b2'.out))
theorem only_4 (op rd rs1 rs2 im : Int) (aq rl : Bool) (w : World) :
    Calls Tryd.prog 76 #[.agg #[.int .i64 op, .int .i64 rd, .int .i64 rs1, .int .i64 rs2, .int .i64 im, .bool aq, .bool rl], .int .u32 4194304] w fun e w' => e = .returned (.agg #[.int .i64 op, .int .i64 0, .int .i64 rs1, .int .i64 rs2, .int .i64 im, .bool false, .bool false]) ∧ Nw w w' := by
  go_enter Tryd.func76, Tryd.ntmps76
  go_wp2_with fail
  obtain ⟨W2, hW⟩ : ∃ W2, (w.alloc (.cells #[.int .i64 op, .int .i64 rd, .int .i64 rs1, .int .i64 rs2, .int .i64 im, .bool aq, .bool rl] 37)).alloc (.cells #[.int .i64 0, .int .i64 0, .int .i64 0, .int .i64 0, .int .i64 0, .bool false, .bool false] 37) = W2 := ⟨_, rfl⟩
  have b1 := heap_alloc2_old w (.cells #[.int .i64 op, .int .i64 rd, .int .i64 rs1, .int .i64 rs2, .int .i64 im, .bool aq, .bool rl] 37) (.cells #[.int .i64 0, .int .i64 0, .int .i64 0, .int .i64 0, .int .i64 0, .bool false, .bool false] 37)
  have b2 := heap_alloc2_new w (.cells #[.int .i64 op, .int .i64 rd, .int .i64 rs1, .int .i64 rs2, .int .i64 im, .bool aq, .bool rl] 37) (.cells #[.int .i64 0, .int .i64 0, .int .i64 0, .int .i64 0, .int .i64 0, .bool false, .bool false] 37)
  have hN : Nw w W2 := by rw [← hW]; exact ((Nw.refl _).alloc _ _).alloc _ _
  rw [hW] at b1 b2 ⊢
  clear hW
  refine (fi_4 _).mono ?_
  rintro e w' ⟨rfl, hn⟩
  have hN' := hN.trans hn
  have b2' := Lib.hid (blk_keep hn b2)
  have n2 := lt_of_block b2'.out
  obtain ⟨n1, c0, c1, c2, c3, c4, c5, c6⟩ := cells7 (blk_keep hn b1)
  clear hn b1 b2 hN
  go_upto_region 13 with (fail)
  clear n1 c0 c1 c2 c3 c4 c5 c6
  apply wp_region_list
  refine wpList_load_row rfl 37 _ rfl (w'.heap.size + 1) rfl 37 #[.int .i64 op, .int .i64 0, .int .i64 rs1, .int .i64 rs2, .int .i64 im, .bool false, .bool false] (0, 0) _ (heap_alloc2_new _ _ _) Tryd.underlying37 rfl (by kernel_rfl) ?_
  refine wpList_store_row rfl 37 _ _ rfl (w.heap.size + 1) #[.int .i64 op, .int .i64 0, .int .i64 rs1, .int .i64 rs2, .int .i64 im, .bool false, .bool false] rfl rfl 37 #[.int .i64 0, .int .i64 0, .int .i64 0, .int .i64 0, .int .i64 0, .bool false, .bool false] ((heap_alloc_old _ _ (by simp; omega)).trans ((heap_alloc_old _ _ n2).trans b2'.out)) (by kernel_rfl) rfl (by kernel_rfl) ?_
  refine wpList_nil ?_
  rename_i hK
  refine hK _ _ ?_
  clear hK
  go_wp2_with fail
  refine bodyPost_ret (v := .agg #[.int .i64 op, .int .i64 0, .int .i64 rs1, .int .i64 rs2, .int .i64 im, .bool false, .bool false]) (results_cell_row rfl _ _ (w.heap.size + 1) 37 _ (0, 0) _ rfl (setRow_heap _ _ _ _ _ _ ((heap_alloc_old _ _ (by simp; omega)).trans ((heap_alloc_old _ _ n2).trans b2'.out))) Tryd.underlying37 rfl (by kernel_rfl)) rfl ⟨rfl, ?_⟩
  exact ((hN'.alloc _ _).alloc _ _).setRow (by omega) _ ((heap_alloc_old _ _ (by simp; omega)).trans ((heap_alloc_old _ _ n2).trans b2'.out))
theorem only_5 (op rd rs1 rs2 im : Int) (aq rl : Bool) (w : World) :
    Calls Tryd.prog 76 #[.agg #[.int .i64 op, .int .i64 rd, .int .i64 rs1, .int .i64 rs2, .int .i64 im, .bool aq, .bool rl], .int .u32 5242880] w fun e w' => e = .returned (.agg #[.int .i64 op, .int .i64 0, .int .i64 rs1, .int .i64 rs2, .int .i64 im, .bool false, .bool false]) ∧ Nw w w' := by
  go_enter Tryd.func76, Tryd.ntmps76
  go_wp2_with fail
  obtain ⟨W2, hW⟩ : ∃ W2, (w.alloc (.cells #[.int .i64 op, .int .i64 rd, .int .i64 rs1, .int .i64 rs2, .int .i64 im, .bool aq, .bool rl] 37)).alloc (.cells #[.int .i64 0, .int .i64 0, .int .i64 0, .int .i64 0, .int .i64 0, .bool false, .bool false] 37) = W2 := ⟨_, rfl⟩
  have b1 := heap_alloc2_old w (.cells #[.int .i64 op, .int .i64 rd, .int .i64 rs1, .int .i64 rs2, .int .i64 im, .bool aq, .bool rl] 37) (.cells #[.int .i64 0, .int .i64 0, .int .i64 0, .int .i64 0, .int .i64 0, .bool false, .bool false] 37)
  have b2 := heap_alloc2_new w (.cells #[.int .i64 op, .int .i64 rd, .int .i64 rs1, .int .i64 rs2, .int .i64 im, .bool aq, .bool rl] 37) (.cells #[.int .i64 0, .int .i64 0, .int .i64 0, .int .i64 0, .int .i64 0, .bool false, .bool false] 37)
  have hN : Nw w W2 := by rw [← hW]; exact ((Nw.refl _).alloc _ _).alloc _ _
  rw [hW] at b1 b2 ⊢
  clear hW
  refine (fi_5 _).mono ?_
  rintro e w' ⟨rfl, hn⟩
  have hN' := hN.trans hn
  have b2' := Lib.hid (blk_keep hn b2)
  have n2 := lt_of_block b2'.out
  obtain ⟨n1, c0, c1, c2, c3, c4, c5, c6⟩ := cells7 (blk_keep hn b1)
  clear hn b1 b2 hN
  go_upto_region 13 with (fail)
  clear n1 c0 c1 c2 c3 c4 c5 c6
  apply wp_region_list
  refine wpList_load_row rfl 37 _ rfl (w'.heap.size + 1) rfl 37 #[.int .i64 op, .int .i64 0, .int .i64 rs1, .int .i64 rs2, .int .i64 im, .bool false, .bool false] (0, 0) _ (heap_alloc2_new _ _ _) Tryd.underlying37 rfl (by kernel_rfl) ?_
  refine wpList_store_row rfl 37 _ _ rfl (w.heap.size + 1) #[.int .i64 op, .int .i64 0, .int .i64 rs1, .int .i64 rs2, .int .i64 im, .bool false, .bool false] rfl rfl 37 #[.int .i64 0, .int .i64 0, .int .i64 0, .int .i64 0, .int .i64 0, .bool false, .bool false] ((heap_alloc_old _ _ (by simp; omega)).trans ((heap_alloc_old _ _ n2).trans b2'.out)) (by kernel_rfl) rfl (by kernel_rfl) ?_
  refine wpList_nil ?_
  rename_i hK
  refine hK _ _ ?_
  clear hK
  go_wp2_with fail
  refine bodyPost_ret (v := .agg #[.int .i64 op, .int .i64 0, .int .i64 rs1, .int .i64 rs2, .int .i64 im, .bool false, .bool false]) (results_cell_row rfl _ _ (w.heap.size + 1) 37 _ (0, 0) _ rfl (setRow_heap _ _ _ _ _ _ ((heap_alloc_old _ _ (by simp; omega)).trans ((heap_alloc_old _ _ n2).trans b2'.out))) Tryd.underlying37 rfl (by kernel_rfl)) rfl ⟨rfl, ?_⟩
  exact ((hN'.alloc _ _).alloc _ _).setRow (by omega) _ ((heap_alloc_old _ _ (by simp; omega)).trans ((heap_alloc_old _ _ n2).trans b2'.out))
theorem only_6 (op rd rs1 rs2 im : Int) (aq rl : Bool) (w : World) :
    Calls Tryd.prog 76 #[.agg #[.int .i64 op, .int .i64 rd, .int .i64 rs1, .int .i64 rs2, .int .i64 im, .bool aq, .bool rl], .int .u32 6291456] w fun e w' => e = .returned (.agg #[.int .i64 op, .int .i64 rd, .int .i64 rs1, .int .i64 0, .int .i64 im, .bool false, .bool false]) ∧ Nw w w' := by
  go_enter Tryd.func76, Tryd.ntmps76
  go_wp2_with fail
  obtain ⟨W2, hW⟩ : ∃ W2, (w.alloc (.cells #[.int .i64 op, .int .i64 rd, .int .i64 rs1, .int .i64 rs2, .int .i64 im, .bool aq, .bool rl] 37)).alloc (.cells #[.int .i64 0, .int .i64 0, .int .i64 0, .int .i64 0, .int .i64 0, .bool false, .bool false] 37) = W2 := ⟨_, rfl⟩
  have b1 := heap_alloc2_old w (.cells #[.int .i64 op, .int .i64 rd, .int .i64 rs1, .int .i64 rs2, .int .i64 im, .bool aq, .bool rl] 37) (.cells #[.int .i64 0, .int .i64 0, .int .i64 0, .int .i64 0, .int .i64 0, .bool false, .bool false] 37)
  have b2 := heap_alloc2_new w (.cells #[.int .i64 op, .int .i64 rd, .int .i64 rs1, .int .i64 rs2, .int .i64 im, .bool aq, .bool rl] 37) (.cells #[.int .i64 0, .int .i64 0, .int .i64 0, .int .i64 0, .int .i64 0, .bool false, .bool false] 37)
  have hN : Nw w W2 := by rw [← hW]; exact ((Nw.refl _).alloc _ _).alloc _ _
  rw [hW] at b1 b2 ⊢
  clear hW
  refine (fi_6 _).mono ?_
  rintro e w' ⟨rfl, hn⟩
  have hN' := hN.trans hn
  have b2' := Lib.hid (blk_keep hn b2)
  have n2 := lt_of_block b2'.out
  obtain ⟨n1, c0, c1, c2, c3, c4, c5, c6⟩ := cells7 (blk_keep hn b1)
  clear hn b1 b2 hN
  go_upto_region 13 with (fail)
  clear n1 c0 c1 c2 c3 c4 c5 c6
  apply wp_region_list
  refine wpList_load_row rfl 37 _ rfl (w'.heap.size + 1) rfl 37 #[.int .i64 op, .int .i64 rd, .int .i64 rs1, .int .i64 0, .int .i64 im, .bool false, .bool false] (0, 0) _ (heap_alloc2_new _ _ _) Tryd.underlying37 rfl (by kernel_rfl) ?_
  refine wpList_store_row rfl 37 _ _ rfl (w.heap.size + 1) #[.int .i64 op, .int .i64 rd, .int .i64 rs1, .int .i64 0, .int .i64 im, .bool false, .bool false] rfl rfl 37 #[.int .i64 0, .int .i64 0, .int .i64 0, .int .i64 0, .int .i64 0, .bool false, .bool false] ((heap_alloc_old _ _ (by simp; omega)).trans ((heap_alloc_old _ _ n2).trans b2'.out)) (by kernel_rfl) rfl (by kernel_rfl) ?_
  refine wpList_nil ?_
  rename_i hK
  refine hK _ _ ?_
  clear hK
  go_wp2_with fail
  refine bodyPost_ret (v := .agg #[.int .i64 op, .int .i64 rd, .int .i64 rs1, .int .i64 0, .int .i64 im, .bool false, .bool false]) (results_cell_row rfl _ _ (w.heap.size + 1) 37 _ (0, 0) _ rfl (setRow_heap _ _ _ _ _ _ ((heap_alloc_old _ _ (by simp; omega)).trans ((heap_alloc_old _ _ n2).trans b2'.out))) Tryd.underlying37 rfl (by kernel_rfl)) rfl ⟨rfl, ?_⟩
  exact ((hN'.alloc _ _).alloc _ _).setRow (by omega) _ ((heap_alloc_old _ _ (by simp; omega)).trans ((heap_alloc_old _ _ n2).trans b2'.out))
theorem only_7 (op rd rs1 rs2 im : Int) (aq rl : Bool) (w : World) :
    Calls Tryd.prog 76 #[.agg #[.int .i64 op, .int .i64 rd, .int .i64 rs1, .int .i64 rs2, .int .i64 im, .bool aq, .bool rl], .int .u32 7340032] w fun e w' => e = .returned (.agg #[.int .i64 op, .int .i64 rd, .int .i64 rs1, .int .i64 0, .int .i64 im, .bool false, .bool false]) ∧ Nw w w' := by
  go_enter Tryd.func76, Tryd.ntmps76
  go_wp2_with fail
  obtain ⟨W2, hW⟩ : ∃ W2, (w.alloc (.cells #[.int .i64 op, .int .i64 rd, .int .i64 rs1, .int .i64 rs2, .int .i64 im, .bool aq, .bool rl] 37)).alloc (.cells #[.int .i64 0, .int .i64 0, .int .i64 0, .int .i64 0, .int .i64 0, .bool false, .bool false] 37) = W2 := ⟨_, rfl⟩
  have b1 := heap_alloc2_old w (.cells #[.int .i64 op, .int .i64 rd, .int .i64 rs1, .int .i64 rs2, .int .i64 im, .bool aq, .bool rl] 37) (.cells #[.int .i64 0, .int .i64 0, .int .i64 0, .int .i64 0, .int .i64 0, .bool false, .bool false] 37)
  have b2 := heap_alloc2_new w (.cells #[.int .i64 op, .int .i64 rd, .int .i64 rs1, .int .i64 rs2, .int .i64 im, .bool aq, .bool rl] 37) (.cells #[.int .i64 0, .int .i64 0, .int .i64 0, .int .i64 0, .int .i64 0, .bool false, .bool false] 37)
  have hN : Nw w W2 := by rw [← hW]; exact ((Nw.refl _).alloc _ _).alloc _ _
  rw [hW] at b1 b2 ⊢
  clear hW
  refine (fi_7 _).mono ?_
  rintro e w' ⟨rfl, hn⟩
  have hN' := hN.trans hn
  have b2' := Lib.hid (blk_keep hn b2)
  have n2 := lt_of_block b2'.out
  obtain ⟨n1, c0, c1, c2, c3, c4, c5, c6⟩ := cells7 (blk_keep hn b1)
  clear hn b1 b2 hN
  go_upto_region 13 with (fail)
  clear n1 c0 c1 c2 c3 c4 c5 c6
  apply wp_region_list
  refine wpList_load_row rfl 37 _ rfl (w'.heap.size + 1) rfl 37 #[.int .i64 op, .int .i64 rd, .int .i64 rs1, .int .i64 0, .int .i64 im, .bool false, .bool false] (0, 0) _ (heap_alloc2_new _ _ _) Tryd.underlying37 rfl (by kernel_rfl) ?_
  refine wpList_store_row rfl 37 _ _ rfl (w.heap.size + 1) #[.int .i64 op, .int .i64 rd, .int .i64 rs1, .int .i64 0, .int .i64 im, .bool false, .bool false] rfl rfl 37 #[.int .i64 0, .int .i64 0, .int .i64 0, .int .i64 0, .int .i64 0, .bool false, .bool false] ((heap_alloc_old _ _ (by simp; omega)).trans ((heap_alloc_old _ _ n2).trans b2'.out)) (by kernel_rfl) rfl (by kernel_rfl) ?_
  refine wpList_nil ?_
  rename_i hK
  refine hK _ _ ?_
  clear hK
  go_wp2_with fail
  refine bodyPost_ret (v := .agg #[.int .i64 op, .int .i64 rd, .int .i64 rs1, .int .i64 0, .int .i64 im, .bool false, .bool false]) (results_cell_row rfl _ _ (w.heap.size + 1) 37 _ (0, 0) _ rfl (setRow_heap _ _ _ _ _ _ ((heap_alloc_old _ _ (by simp; omega)).trans ((heap_alloc_old _ _ n2).trans b2'.out))) Tryd.underlying37 rfl (by kernel_rfl)) rfl ⟨rfl, ?_⟩
  exact ((hN'.alloc _ _).alloc _ _).setRow (by omega) _ ((heap_alloc_old _ _ (by simp; omega)).trans ((heap_alloc_old _ _ n2).trans b2'.out))
theorem only_8 (op rd rs1 rs2 im : Int) (aq rl : Bool) (w : World) :
    Calls Tryd.prog 76 #[.agg #[.int .i64 op, .int .i64 rd, .int .i64 rs1, .int .i64 rs2, .int .i64 im, .bool aq, .bool rl], .int .u32 8388608] w fun e w' => e = .returned (.agg #[.int .i64 op, .int .i64 rd, .int .i64 rs1, .int .i64 rs2, .int .i64 0, .bool false, .bool false]) ∧ Nw w w' := by
  go_enter Tryd.func76, Tryd.ntmps76
  go_wp2_with fail
  obtain ⟨W2, hW⟩ : ∃ W2, (w.alloc (.cells #[.int .i64 op, .int .i64 rd, .int .i64 rs1, .int .i64 rs2, .int .i64 im, .bool aq, .bool rl] 37)).alloc (.cells #[.int .i64 0, .int .i64 0, .int .i64 0, .int .i64 0, .int .i64 0, .bool false, .bool false] 37) = W2 := ⟨_, rfl⟩
  have b1 := heap_alloc2_old w (.cells #[.int .i64 op, .int .i64 rd, .int .i64 rs1, .int .i64 rs2, .int .i64 im, .bool aq, .bool rl] 37) (.cells #[.int .i64 0, .int .i64 0, .int .i64 0, .int .i64 0, .int .i64 0, .bool false, .bool false] 37)
  have b2 := heap_alloc2_new w (.cells #[.int .i64 op, .int .i64 rd, .int .i64 rs1, .int .i64 rs2, .int .i64 im, .bool aq, .bool rl] 37) (.cells #[.int .i64 0, .int .i64 0, .int .i64 0, .int .i64 0, .int .i64 0, .bool false, .bool false] 37)
  have hN : Nw w W2 := by rw [← hW]; exact ((Nw.refl _).alloc _ _).alloc _ _
  rw [hW] at b1 b2 ⊢
  clear hW
  refine (fi_8 _).mono ?_
  rintro e w' ⟨rfl, hn⟩
  have hN' := hN.trans hn
  have b2' := Lib.hid (blk_keep hn b2)
  have n2 := lt_of_block b2'.out
  obtain ⟨n1, c0, c1, c2, c3, c4, c5, c6⟩ := cells7 (blk_keep hn b1)
  clear hn b1 b2 hN
  go_upto_region 13 with (fail)
  clear n1 c0 c1 c2 c3 c4 c5 c6
  apply wp_region_list
  refine wpList_load_row rfl 37 _ rfl (w'.heap.size + 1) rfl 37 #[.int .i64 op, .int .i64 rd, .int .i64 rs1, .int .i64 rs2, .int .i64 0, .bool false, .bool false] (0, 0) _ (heap_alloc2_new _ _ _) Tryd.underlying37 rfl (by kernel_rfl) ?_
  refine wpList_store_row rfl 37 _ _ rfl (w.heap.size + 1) #[.int .i64 op, .int .i64 rd, .int .i64 rs1, .int .i64 rs2, .int .i64 0, .bool false, .bool false] rfl rfl 37 #[.int .i64 0, .int .i64 0, .int .i64 0, .int .i64 0, .int .i64 0, .bool false, .bool false] ((heap_alloc_old _ _ (by simp; omega)).trans ((heap_alloc_old _ _ n2).trans b2'.out)) (by kernel_rfl) rfl (by kernel_rfl) ?_
  refine wpList_nil ?_
  rename_i hK
  refine hK _ _ ?_
  clear hK
  go_wp2_with fail
  refine bodyPost_ret (v := .agg #[.int .i64 op, .int .i64 rd, .int .i64 rs1, .int .i64 rs2, .int .i64 0, .bool false, .bool false]) (results_cell_row rfl _ _ (w.heap.size + 1) 37 _ (0, 0) _ rfl (setRow_heap _ _ _ _ _ _ ((heap_alloc_old _ _ (by simp; omega)).trans ((heap_alloc_old _ _ n2).trans b2'.out))) Tryd.underlying37 rfl (by kernel_rfl)) rfl ⟨rfl, ?_⟩
  exact ((hN'.alloc _ _).alloc _ _).setRow (by omega) _ ((heap_alloc_old _ _ (by simp; omega)).trans ((heap_alloc_old _ _ n2).trans b2'.out))
theorem only_9 (op rd rs1 rs2 im : Int) (aq rl : Bool) (w : World) :
    Calls Tryd.prog 76 #[.agg #[.int .i64 op, .int .i64 rd, .int .i64 rs1, .int .i64 rs2, .int .i64 im, .bool aq, .bool rl], .int .u32 9437184] w fun e w' => e = .returned (.agg #[.int .i64 op, .int .i64 0, .int .i64 0, .int .i64 0, .int .i64 im, .bool false, .bool false]) ∧ Nw w w' := by
  go_enter Tryd.func76, Tryd.ntmps76
  go_wp2_with fail
  obtain ⟨W2, hW⟩ : ∃ W2, (w.alloc (.cells #[.int .i64 op, .int .i64 rd, .int .i64 rs1, .int .i64 rs2, .int .i64 im, .bool aq, .bool rl] 37)).alloc (.cells #[.int .i64 0, .int .i64 0, .int .i64 0, .int .i64 0, .int .i64 0, .bool false, .bool false] 37) = W2 := ⟨_, rfl⟩
  have b1 := heap_alloc2_old w (.cells #[.int .i64 op, .int .i64 rd, .int .i64 rs1, .int .i64 rs2, .int .i64 im, .bool aq, .bool rl] 37) (.cells #[.int .i64 0, .int .i64 0, .int .i64 0, .int .i64 0, .int .i64 0, .bool false, .bool false] 37)
  have b2 := heap_alloc2_new w (.cells #[.int .i64 op, .int .i64 rd, .int .i64 rs1, .int .i64 rs2, .int .i64 im, .bool aq, .bool rl] 37) (.cells #[.int .i64 0, .int .i64 0, .int .i64 0, .int .i64 0, .int .i64 0, .bool false, .bool false] 37)
  have hN : Nw w W2 := by rw [← hW]; exact ((Nw.refl _).alloc _ _).alloc _ _
  rw [hW] at b1 b2 ⊢
  clear hW
  refine (fi_9 _).mono ?_
  rintro e w' ⟨rfl, hn⟩
  have hN' := hN.trans hn
  have b2' := Lib.hid (blk_keep hn b2)
  have n2 := lt_of_block b2'.out
  obtain ⟨n1, c0, c1, c2, c3, c4, c5, c6⟩ := cells7 (blk_keep hn b1)
  clear hn b1 b2 hN
  go_upto_region 13 with (fail)
  clear n1 c0 c1 c2 c3 c4 c5 c6
  apply wp_region_list
  refine wpList_load_row rfl 37 _ rfl (w'.heap.size + 1) rfl 37 #[.int .i64 op, .int .i64 0, .int .i64 0, .int .i64 0, .int .i64 im, .bool false, .bool false] (0, 0) _ (heap_alloc2_new _ _ _) Tryd.underlying37 rfl (by kernel_rfl) ?_
  refine wpList_store_row rfl 37 _ _ rfl (w.heap.size + 1) #[.int .i64 op, .int .i64 0, .int .i64 0, .int .i64 0, .int .i64 im, .bool false, .bool false] rfl rfl 37 #[.int .i64 0, .int .i64 0, .int .i64 0, .int .i64 0, .int .i64 0, .bool false, .bool false] ((heap_alloc_old _ _ (by simp; omega)).trans ((heap_alloc_old _ _ n2).trans b2'.out)) (by kernel_rfl) rfl (by kernel_rfl) ?_
  refine wpList_nil ?_
  rename_i hK
  refine hK _ _ ?_
  clear hK
  go_wp2_with fail
  refine bodyPost_ret (v := .agg #[.int .i64 op, .int .i64 0, .int .i64 0, .int .i64 0, .int .i64 im, .bool false, .bool false]) (results_cell_row rfl _ _ (w.heap.size + 1) 37 _ (0, 0) _ rfl (setRow_heap _ _ _ _ _ _ ((heap_alloc_old _ _ (by simp; omega)).trans ((heap_alloc_old _ _ n2).trans b2'.out))) Tryd.underlying37 rfl (by kernel_rfl)) rfl ⟨rfl, ?_⟩
  exact ((hN'.alloc _ _).alloc _ _).setRow (by omega) _ ((heap_alloc_old _ _ (by simp; omega)).trans ((heap_alloc_old _ _ n2).trans b2'.out))
theorem only_10 (op rd rs1 rs2 im : Int) (aq rl : Bool) (w : World) :
    Calls Tryd.prog 76 #[.agg #[.int .i64 op, .int .i64 rd, .int .i64 rs1, .int .i64 rs2, .int .i64 im, .bool aq, .bool rl], .int .u32 10485760] w fun e w' => e = .returned (.agg #[.int .i64 op, .int .i64 0, .int .i64 0, .int .i64 0, .int .i64 0, .bool false, .bool false]) ∧ Nw w w' := by
  go_enter Tryd.func76, Tryd.ntmps76
  go_wp2_with fail
  obtain ⟨W2, hW⟩ : ∃ W2, (w.alloc (.cells #[.int .i64 op, .int .i64 rd, .int .i64 rs1, .int .i64 rs2, .int .i64 im, .bool aq, .bool rl] 37)).alloc (.cells #[.int .i64 0, .int .i64 0, .int .i64 0, .int .i64 0, .int .i64 0, .bool false, .bool false] 37) = W2 := ⟨_, rfl⟩
  have b1 := heap_alloc2_old w (.cells #[.int .i64 op, .int .i64 rd, .int .i64 rs1, .int .i64 rs2, .int .i64 im, .bool aq, .bool rl] 37) (.cells #[.int .i64 0, .int .i64 0, .int .i64 0, .int .i64 0, .int .i64 0, .bool false, .bool false] 37)
  have b2 := heap_alloc2_new w (.cells #[.int .i64 op, .int .i64 rd, .int .i64 rs1, .int .i64 rs2, .int .i64 im, .bool aq, .bool rl] 37) (.cells #[.int .i64 0, .int .i64 0, .int .i64 0, .int .i64 0, .int .i64 0, .bool false, .bool false] 37)
  have hN : Nw w W2 := by rw [← hW]; exact ((Nw.refl _).alloc _ _).alloc _ _
  rw [hW] at b1 b2 ⊢
  clear hW
  refine (fi_10 _).mono ?_
  rintro e w' ⟨rfl, hn⟩
  have hN' := hN.trans hn
  have b2' := Lib.hid (blk_keep hn b2)
  have n2 := lt_of_block b2'.out
  obtain ⟨n1, c0, c1, c2, c3, c4, c5, c6⟩ := cells7 (blk_keep hn b1)
  clear hn b1 b2 hN
  go_upto_region 13 with (fail)
  clear n1 c0 c1 c2 c3 c4 c5 c6
  apply wp_region_list
  refine wpList_load_row rfl 37 _ rfl (w'.heap.size + 1) rfl 37 #[.int .i64 op, .int .i64 0, .int .i64 0, .int .i64 0, .int .i64 0, .bool false, .bool false] (0, 0) _ (heap_alloc2_new _ _ _) Tryd.underlying37 rfl (by kernel_rfl) ?_
  refine wpList_store_row rfl 37 _ _ rfl (w.heap.size + 1) #[.int .i64 op, .int .i64 0, .int .i64 0, .int .i64 0, .int .i64 0, .bool false, .bool false] rfl rfl 37 #[.int .i64 0, .int .i64 0, .int .i64 0, .int .i64 0, .int .i64 0, .bool false, .bool false] ((heap_alloc_old _ _ (by simp; omega)).trans ((heap_alloc_old _ _ n2).trans b2'.out)) (by kernel_rfl) rfl (by kernel_rfl) ?_
  refine wpList_nil ?_
  rename_i hK
  refine hK _ _ ?_
  clear hK
  go_wp2_with fail
  refine bodyPost_ret (v := .agg #[.int .i64 op, .int .i64 0, .int .i64 0, .int .i64 0, .int .i64 0, .bool false, .bool false]) (results_cell_row rfl _ _ (w.heap.size + 1) 37 _ (0, 0) _ rfl (setRow_heap _ _ _ _ _ _ ((heap_alloc_old _ _ (by simp; omega)).trans ((heap_alloc_old _ _ n2).trans b2'.out))) Tryd.underlying37 rfl (by kernel_rfl)) rfl ⟨rfl, ?_⟩
  exact ((hN'.alloc _ _).alloc _ _).setRow (by omega) _ ((heap_alloc_old _ _ (by simp; omega)).trans ((heap_alloc_old _ _ n2).trans b2'.out))
theorem only_11 (op rd rs1 rs2 im : Int) (aq rl : Bool) (w : World) :
    Calls Tryd.prog 76 #[.agg #[.int .i64 op, .int .i64 rd, .int .i64 rs1, .int .i64 rs2, .int .i64 im, .bool aq, .bool rl], .int .u32 11534336] w fun e w' => e = .returned (.agg #[.int .i64 op, .int .i64 rd, .int .i64 rs1, .int .i64 0, .int .i64 0, .bool aq, .bool rl]) ∧ Nw w w' := by
  go_enter Tryd.func76, Tryd.ntmps76
  go_wp2_with fail
  obtain ⟨W2, hW⟩ : ∃ W2, (w.alloc (.cells #[.int .i64 op, .int .i64 rd, .int .i64 rs1, .int .i64 rs2, .int .i64 im, .bool aq, .bool rl] 37)).alloc (.cells #[.int .i64 0, .int .i64 0, .int .i64 0, .int .i64 0, .int .i64 0, .bool false, .bool false] 37) = W2 := ⟨_, rfl⟩
  have b1 := heap_alloc2_old w (.cells #[.int .i64 op, .int .i64 rd, .int .i64 rs1, .int .i64 rs2, .int .i64 im, .bool aq, .bool rl] 37) (.cells #[.int .i64 0, .int .i64 0, .int .i64 0, .int .i64 0, .int .i64 0, .bool false, .bool false] 37)
  have b2 := heap_alloc2_new w (.cells #[.int .i64 op, .int .i64 rd, .int .i64 rs1, .int .i64 rs2, .int .i64 im, .bool aq, .bool rl] 37) (.cells #[.int .i64 0, .int .i64 0, .int .i64 0, .int .i64 0, .int .i64 0, .bool false, .bool false] 37)
  have hN : Nw w W2 := by rw [← hW]; exact ((Nw.refl _).alloc _ _).alloc _ _
  rw [hW] at b1 b2 ⊢
  clear hW
  refine (fi_11 _).mono ?_
  rintro e w' ⟨rfl, hn⟩
  have hN' := hN.trans hn
  have b2' := Lib.hid (blk_keep hn b2)
  have n2 := lt_of_block b2'.out
  obtain ⟨n1, c0, c1, c2, c3, c4, c5, c6⟩ := cells7 (blk_keep hn b1)
  clear hn b1 b2 hN
  go_upto_region 12 with (fail)
  go_region
  go_upto_region 13 with (fail)
  clear n1 c0 c1 c2 c3 c4 c5 c6
  apply wp_region_list
  refine wpList_load_row rfl 37 _ rfl (w'.heap.size + 1) rfl 37 #[.int .i64 op, .int .i64 rd, .int .i64 rs1, .int .i64 0, .int .i64 0, .bool aq, .bool rl] (0, 0) _ (heap_alloc2_new _ _ _) Tryd.underlying37 rfl (by kernel_rfl) ?_
  refine wpList_store_row rfl 37 _ _ rfl (w.heap.size + 1) #[.int .i64 op, .int .i64 rd, .int .i64 rs1, .int .i64 0, .int .i64 0, .bool aq, .bool rl] rfl rfl 37 #[.int .i64 0, .int .i64 0, .int .i64 0, .int .i64 0, .int .i64 0, .bool false, .bool false] ((heap_alloc_old _ _ (by simp; omega)).trans ((heap_alloc_old _ _ n2).trans b2'.out)) (by kernel_rfl) rfl (by kernel_rfl) ?_
  refine wpList_nil ?_
  rename_i hK
  refine hK _ _ ?_
  clear hK
  go_wp2_with fail
  refine bodyPost_ret (v := .agg #[.int .i64 op, .int .i64 rd, .int .i64 rs1, .int .i64 0, .int .i64 0, .bool aq, .bool rl]) (results_cell_row rfl _ _ (w.heap.size + 1) 37 _ (0, 0) _ rfl (setRow_heap _ _ _ _ _ _ ((heap_alloc_old _ _ (by simp; omega)).trans ((heap_alloc_old _ _ n2).trans b2'.out))) Tryd.underlying37 rfl (by kernel_rfl)) rfl ⟨rfl, ?_⟩
  exact (((hN'.alloc _ _).alloc _ _).drew).setRow (by omega) _ ((heap_alloc_old _ _ (by simp; omega)).trans ((heap_alloc_old _ _ n2).trans b2'.out))
theorem only_12 (op rd rs1 rs2 im : Int) (aq rl : Bool) (w : World) :
    Calls Tryd.prog 76 #[.agg #[.int .i64 op, .int .i64 rd, .int .i64 rs1, .int .i64 rs2, .int .i64 im, .bool aq, .bool rl], .int .u32 12582912] w fun e w' => e = .returned (.agg #[.int .i64 op, .int .i64 rd, .int .i64 rs1, .int .i64 rs2, .int .i64 0, .bool aq, .bool rl]) ∧ Nw w w' := by
  go_enter Tryd.func76, Tryd.ntmps76
  go_wp2_with fail
  obtain ⟨W2, hW⟩ : ∃ W2, (w.alloc (.cells #[.int .i64 op, .int .i64 rd, .int .i64 rs1, .int .i64 rs2, .int .i64 im, .bool aq, .bool rl] 37)).alloc (.cells #[.int .i64 0, .int .i64 0, .int .i64 0, .int .i64 0, .int .i64 0, .bool false, .bool false] 37) = W2 := ⟨_, rfl⟩
  have b1 := heap_alloc2_old w (.cells #[.int .i64 op, .int .i64 rd, .int .i64 rs1, .int .i64 rs2, .int .i64 im, .bool aq, .bool rl] 37) (.cells #[.int .i64 0, .int .i64 0, .int .i64 0, .int .i64 0, .int .i64 0, .bool false, .bool false] 37)
  have b2 := heap_alloc2_new w (.cells #[.int .i64 op, .int .i64 rd, .int .i64 rs1, .int .i64 rs2, .int .i64 im, .bool aq, .bool rl] 37) (.cells #[.int .i64 0, .int .i64 0, .int .i64 0, .int .i64 0, .int .i64 0, .bool false, .bool false] 37)
  have hN : Nw w W2 := by rw [← hW]; exact ((Nw.refl _).alloc _ _).alloc _ _
  rw [hW] at b1 b2 ⊢
  clear hW
  refine (fi_12 _).mono ?_
  rintro e w' ⟨rfl, hn⟩
  have hN' := hN.trans hn
  have b2' := Lib.hid (blk_keep hn b2)
  have n2 := lt_of_block b2'.out
  obtain ⟨n1, c0, c1, c2, c3, c4, c5, c6⟩ := cells7 (blk_keep hn b1)
  clear hn b1 b2 hN
  go_upto_region 12 with (fail)
  go_region
  go_upto_region 13 with (fail)
  clear n1 c0 c1 c2 c3 c4 c5 c6
  apply wp_region_list
  refine wpList_load_row rfl 37 _ rfl (w'.heap.size + 1) rfl 37 #[.int .i64 op, .int .i64 rd, .int .i64 rs1, .int .i64 rs2, .int .i64 0, .bool aq, .bool rl] (0, 0) _ (heap_alloc2_new _ _ _) Tryd.underlying37 rfl (by kernel_rfl) ?_
  refine wpList_store_row rfl 37 _ _ rfl (w.heap.size + 1) #[.int .i64 op, .int .i64 rd, .int .i64 rs1, .int .i64 rs2, .int .i64 0, .bool aq, .bool rl] rfl rfl 37 #[.int .i64 0, .int .i64 0, .int .i64 0, .int .i64 0, .int .i64 0, .bool false, .bool false] ((heap_alloc_old _ _ (by simp; omega)).trans ((heap_alloc_old _ _ n2).trans b2'.out)) (by kernel_rfl) rfl (by kernel_rfl) ?_
  refine wpList_nil ?_
  rename_i hK
  refine hK _ _ ?_
  clear hK
  go_wp2_with fail
  refine bodyPost_ret (v := .agg #[.int .i64 op, .int .i64 rd, .int .i64 rs1, .int .i64 rs2, .int .i64 0, .bool aq, .bool rl]) (results_cell_row rfl _ _ (w.heap.size + 1) 37 _ (0, 0) _ rfl (setRow_heap _ _ _ _ _ _ ((heap_alloc_old _ _ (by simp; omega)).trans ((heap_alloc_old _ _ n2).trans b2'.out))) Tryd.underlying37 rfl (by kernel_rfl)) rfl ⟨rfl, ?_⟩
  exact (((hN'.alloc _ _).alloc _ _).drew).setRow (by omega) _ ((heap_alloc_old _ _ (by simp; omega)).trans ((heap_alloc_old _ _ n2).trans b2'.out))
theorem only_any (f op rd rs1 rs2 im : Int) (aq rl : Bool) (h0 : 0 ≤ f) (h1 : f ≤ 12) (w : World) :
    Calls Tryd.prog 76 #[.agg #[.int .i64 op, .int .i64 rd, .int .i64 rs1, .int .i64 rs2, .int .i64 im, .bool aq, .bool rl], .int .u32 (1048576 * f)] w fun e w' => e = .returned (.agg #[.int .i64 op, .int .i64 (oi (rdT f) rd), .int .i64 (oi (rs1T f) rs1), .int .i64 (oi (rs2T f) rs2), .int .i64 (oi (immT f) im), .bool (ob (ordT f) aq), .bool (ob (ordT f) rl)]) ∧ Nw w w' := by
  obtain ⟨n, rfl⟩ := Int.eq_ofNat_of_zero_le h0
  match n, h1 with
  | 0, _ => exact only_0 op rd rs1 rs2 im aq rl w
  | 1, _ => exact only_1 op rd rs1 rs2 im aq rl w
  | 2, _ => exact only_2 op rd rs1 rs2 im aq rl w
  | 3, _ => exact only_3 op rd rs1 rs2 im aq rl w
  | 4, _ => exact only_4 op rd rs1 rs2 im aq rl w
  | 5, _ => exact only_5 op rd rs1 rs2 im aq rl w
  | 6, _ => exact only_6 op rd rs1 rs2 im aq rl w
  | 7, _ => exact only_7 op rd rs1 rs2 im aq rl w
  | 8, _ => exact only_8 op rd rs1 rs2 im aq rl w
  | 9, _ => exact only_9 op rd rs1 rs2 im aq rl w
  | 10, _ => exact only_10 op rd rs1 rs2 im aq rl w
  | 11, _ => exact only_11 op rd rs1 rs2 im aq rl w
  | 12, _ => exact only_12 op rd rs1 rs2 im aq rl w
  | n + 13, h => exact absurd h (by omega)
end Go.Proofs.YtnooabgdcfegeaaDoor
