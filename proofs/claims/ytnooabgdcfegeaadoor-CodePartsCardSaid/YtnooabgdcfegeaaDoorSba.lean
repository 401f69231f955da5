/-
  Proved here: branch: the instructions of a branch, short or long. Conditions: none.
-/
import Derived.Test.YtnooabgdcfegeaaDoorSaz
import Derived.Test.YtnooabgdcfegeaaDoorSao
namespace Go.Proofs.YtnooabgdcfegeaaDoor
open Go.RowKit Go.Shelf
set_option linter.unusedVariables false
set_option linter.unusedSimpArgs false
set_option maxRecDepth 100000
set_option maxHeartbeats 8000000
attribute [local go_sem] Oper.semAt_some
/-- The instructions of a branch. -/
def brI (i : In7) (far : Int) (long : Bool) : List In7 :=
  if long then [(oppI i.1, i.2.1, i.2.2.1, i.2.2.2.1, 8, i.2.2.2.2.2.1, i.2.2.2.2.2.2), jalI 0 (wrap64 (far - 4))] else [(i.1, i.2.1, i.2.2.1, i.2.2.2.1, far, i.2.2.2.2.2.1, i.2.2.2.2.2.2)]
theorem branch_short (o1 o2 o3 o4 o5 : Int) (o6 o7 : Bool) (far : Int) (w : World) :
    Calls Tryd.prog 61 #[.agg #[.int .i64 o1, .int .i64 o2, .int .i64 o3, .int .i64 o4, .int .i64 o5, .bool o6, .bool o7], .int .i64 far, .bool false] w fun r w' => ∃ g, r = .returned (.slice (some ⟨g, 0, none⟩) 1 1) ∧ w'.ownsRow w.heap.size 37 7 (.slice (some ⟨g, 0, none⟩) 1 1) 1 ([(o1, o2, o3, o4, far, o6, o7)].flatMap i7C) ∧ Nb w w' := by
  go_enter Tryd.func61, Tryd.ntmps61
  go_upto_region 1 with (fail)
  obtain ⟨W1, hW1⟩ : ∃ W1, w.alloc (.cells #[.int .i64 o1, .int .i64 o2, .int .i64 o3, .int .i64 o4, .int .i64 o5, .bool o6, .bool o7] 37) = W1 := ⟨_, rfl⟩
  have n1 : Nb w W1 := by rw [← hW1]; exact Below.alloc (Below.refl _ _) (Nat.le_refl _) _
  have b1 : W1.heap[w.heap.size]? = some (.cells #[.int .i64 o1, .int .i64 o2, .int .i64 o3, .int .i64 o4, .int .i64 o5, .bool o6, .bool o7] 37 (0, 0)) := by rw [← hW1]; exact new_bkc _ _ rfl
  have hlt := lt_bkc b1
  rw [hW1]
  clear hW1
  have c0 := cell_of_row _ _ 0 _ _ _ b1
  have f0 := frozen_bkc b1 0
  have c1 := cell_of_row _ _ 1 _ _ _ b1
  have f1 := frozen_bkc b1 1
  have c2 := cell_of_row _ _ 2 _ _ _ b1
  have f2 := frozen_bkc b1 2
  have c3 := cell_of_row _ _ 3 _ _ _ b1
  have f3 := frozen_bkc b1 3
  have c4 := cell_of_row _ _ 4 _ _ _ b1
  have f4 := frozen_bkc b1 4
  have c5 := cell_of_row _ _ 5 _ _ _ b1
  have f5 := frozen_bkc b1 5
  have c6 := cell_of_row _ _ 6 _ _ _ b1
  have f6 := frozen_bkc b1 6
  go_upto_region 3 with (fail)
  obtain ⟨W2, hW2⟩ : ∃ W2, W1.setCell ⟨w.heap.size, 4, none⟩ (.int .i64 far) = W2 := ⟨_, rfl⟩
  have n2 : Nb w W2 := by rw [← hW2]; exact Below.setCell n1 (Nat.le_refl _) _
  have b2 : W2.heap[w.heap.size]? = some (.cells #[.int .i64 o1, .int .i64 o2, .int .i64 o3, .int .i64 o4, .int .i64 far, .bool o6, .bool o7] 37 (0, 0)) := by rw [← hW2]; simpa using set_bkc b1 4 (.int .i64 far)
  rw [hW2]
  clear c0 f0 c1 f1 c2 f2 c3 f3 c4 f4 c5 f5 c6 f6
  clear hW2 b1
  have c0 := cell_of_row _ _ 0 _ _ _ b2
  have f0 := frozen_bkc b2 0
  have c1 := cell_of_row _ _ 1 _ _ _ b2
  have f1 := frozen_bkc b2 1
  have c2 := cell_of_row _ _ 2 _ _ _ b2
  have f2 := frozen_bkc b2 2
  have c3 := cell_of_row _ _ 3 _ _ _ b2
  have f3 := frozen_bkc b2 3
  have c4 := cell_of_row _ _ 4 _ _ _ b2
  have f4 := frozen_bkc b2 4
  have c5 := cell_of_row _ _ 5 _ _ _ b2
  have f5 := frozen_bkc b2 5
  have c6 := cell_of_row _ _ 6 _ _ _ b2
  have f6 := frozen_bkc b2 6
  go_wp2_with fail
  go_ret
  have b3 : (W2.alloc (.cells #[.int .i64 o1, .int .i64 o2, .int .i64 o3, .int .i64 o4, .int .i64 far, .bool o6, .bool o7] 37)).heap[W2.heap.size]? = some (.cells ([(o1, o2, o3, o4, far, o6, o7)].flatMap i7C).toArray 37 (0, 0)) := new_bkc _ _ rfl
  exact ⟨_, rfl, own_new b3 n2.size (by simp), n2.trans (Below.alloc (Below.refl _ _) (Nat.le_refl _) _)⟩
theorem branch_long (o1 o2 o3 o4 o5 : Int) (o6 o7 : Bool) (far : Int) (w : World) :
    Calls Tryd.prog 61 #[.agg #[.int .i64 o1, .int .i64 o2, .int .i64 o3, .int .i64 o4, .int .i64 o5, .bool o6, .bool o7], .int .i64 far, .bool true] w fun r w' => ∃ g, r = .returned (.slice (some ⟨g, 0, none⟩) 2 2) ∧ w'.ownsRow w.heap.size 37 7 (.slice (some ⟨g, 0, none⟩) 2 2) 2 ([(oppI o1, o2, o3, o4, 8, o6, o7), jalI 0 (wrap64 (far - 4))].flatMap i7C) ∧ Nb w w' := by
  have hopp := Lib.hid (opposite_any o1)
  have hjal := jal_any 0 (wrap64 (far - 4))
  change ∀ w, Calls Tryd.prog 62 #[.int .i64 0, .int .i64 (wrap64 (far - 4))] w fun e w' => e = .returned (.agg #[.int .i64 3, .int .i64 0, .int .i64 0, .int .i64 0, .int .i64 (wrap64 (far - 4)), .bool false, .bool false]) ∧ Nb w w' at hjal
  replace hjal := Lib.hid hjal
  go_enter Tryd.func61, Tryd.ntmps61
  go_upto_region 1 with (fail)
  obtain ⟨W1, hW1⟩ : ∃ W1, w.alloc (.cells #[.int .i64 o1, .int .i64 o2, .int .i64 o3, .int .i64 o4, .int .i64 o5, .bool o6, .bool o7] 37) = W1 := ⟨_, rfl⟩
  have n1 : Nb w W1 := by rw [← hW1]; exact Below.alloc (Below.refl _ _) (Nat.le_refl _) _
  have b1 : W1.heap[w.heap.size]? = some (.cells #[.int .i64 o1, .int .i64 o2, .int .i64 o3, .int .i64 o4, .int .i64 o5, .bool o6, .bool o7] 37 (0, 0)) := by rw [← hW1]; exact new_bkc _ _ rfl
  have hlt := lt_bkc b1
  rw [hW1]
  clear hW1
  have c0 := cell_of_row _ _ 0 _ _ _ b1
  have f0 := frozen_bkc b1 0
  have c1 := cell_of_row _ _ 1 _ _ _ b1
  have f1 := frozen_bkc b1 1
  have c2 := cell_of_row _ _ 2 _ _ _ b1
  have f2 := frozen_bkc b1 2
  have c3 := cell_of_row _ _ 3 _ _ _ b1
  have f3 := frozen_bkc b1 3
  have c4 := cell_of_row _ _ 4 _ _ _ b1
  have f4 := frozen_bkc b1 4
  have c5 := cell_of_row _ _ 5 _ _ _ b1
  have f5 := frozen_bkc b1 5
  have c6 := cell_of_row _ _ 6 _ _ _ b1
  have f6 := frozen_bkc b1 6
  go_upto_region 5 with (go_at_call 58; refine (hopp.out _).mono ?_; rintro r w' ⟨rfl, hww⟩; obtain rfl := hww.symm)
  obtain ⟨p, hp⟩ : ∃ p, oppI o1 = p := ⟨_, rfl⟩
  rw [hp]
  obtain ⟨W2, hW2⟩ : ∃ W2, W1.setCell ⟨w.heap.size, 0, none⟩ (.int .i64 p) = W2 := ⟨_, rfl⟩
  have n2 : Nb w W2 := by rw [← hW2]; exact Below.setCell n1 (Nat.le_refl _) _
  have b2 : W2.heap[w.heap.size]? = some (.cells #[.int .i64 p, .int .i64 o2, .int .i64 o3, .int .i64 o4, .int .i64 o5, .bool o6, .bool o7] 37 (0, 0)) := by rw [← hW2]; simpa using set_bkc b1 0 (.int .i64 p)
  rw [hW2]
  clear c0 f0 c1 f1 c2 f2 c3 f3 c4 f4 c5 f5 c6 f6
  clear hW2 b1
  have c0 := cell_of_row _ _ 0 _ _ _ b2
  have f0 := frozen_bkc b2 0
  have c1 := cell_of_row _ _ 1 _ _ _ b2
  have f1 := frozen_bkc b2 1
  have c2 := cell_of_row _ _ 2 _ _ _ b2
  have f2 := frozen_bkc b2 2
  have c3 := cell_of_row _ _ 3 _ _ _ b2
  have f3 := frozen_bkc b2 3
  have c4 := cell_of_row _ _ 4 _ _ _ b2
  have f4 := frozen_bkc b2 4
  have c5 := cell_of_row _ _ 5 _ _ _ b2
  have f5 := frozen_bkc b2 5
  have c6 := cell_of_row _ _ 6 _ _ _ b2
  have f6 := frozen_bkc b2 6
  go_upto_region 6 with (fail)
  obtain ⟨W3, hW3⟩ : ∃ W3, W2.setCell ⟨w.heap.size, 4, none⟩ (.int .i64 8) = W3 := ⟨_, rfl⟩
  have n3 : Nb w W3 := by rw [← hW3]; exact Below.setCell n2 (Nat.le_refl _) _
  have b3 : W3.heap[w.heap.size]? = some (.cells #[.int .i64 p, .int .i64 o2, .int .i64 o3, .int .i64 o4, .int .i64 8, .bool o6, .bool o7] 37 (0, 0)) := by rw [← hW3]; simpa using set_bkc b2 4 (.int .i64 8)
  rw [hW3]
  clear c0 f0 c1 f1 c2 f2 c3 f3 c4 f4 c5 f5 c6 f6
  clear hW3 b2
  have c0 := cell_of_row _ _ 0 _ _ _ b3
  have c1 := cell_of_row _ _ 1 _ _ _ b3
  have c2 := cell_of_row _ _ 2 _ _ _ b3
  have c3 := cell_of_row _ _ 3 _ _ _ b3
  have c4 := cell_of_row _ _ 4 _ _ _ b3
  have c5 := cell_of_row _ _ 5 _ _ _ b3
  have c6 := cell_of_row _ _ 6 _ _ _ b3
  have hGd : Nb W3 W3.drew := drew1c W3
  refine wp_region_s 1 (by kernel_rfl) ?_
  change wpAnyIn _ _ _ _ _ _ 6 (List.toArray [false, false, false, false, false, false]) _ _
  refine stage (m := 2) (fuel := 4) (List.toArray [true, true, true, true, false, false]) (fun w' => Nb W3 w') hGd (fun hG => ?_)
  refine takeS (i := 0) (v := .agg #[.int .i64 p, .int .i64 o2, .int .i64 o3, .int .i64 o4, .int .i64 8, .bool o6, .bool o7]) rfl (by kernel_rfl) (by kernel_rfl) (by kernel_rfl) (by kernel_rfl) (by kernel_rfl) (fun _ _ _ h => h) (.inl ⟨by rfl, by intro w' hw; have h0 := hw.cell c0; have h1 := hw.cell c1; have h2 := hw.cell c2; have h3 := hw.cell c3; have h4 := hw.cell c4; have h5 := hw.cell c5; have h6 := hw.cell c6; go_simp⟩) hG ?_
  simp only [Act.put, List.setIfInBounds_toArray, List.set_cons_zero, List.set_cons_succ]
  refine takeS (i := 1) (v := .int .i64 far) rfl (by kernel_rfl) (by kernel_rfl) (by kernel_rfl) (by kernel_rfl) (by kernel_rfl) (fun _ _ _ h => h) (.inl ⟨by rfl, by intro w' hw; go_simp⟩) hG ?_
  simp only [Act.put, List.setIfInBounds_toArray, List.set_cons_zero, List.set_cons_succ]
  refine takeS (i := 2) (v := .int .i64 (wrap64 (far - 4))) rfl (by kernel_rfl) (by kernel_rfl) (by kernel_rfl) (by kernel_rfl) (by kernel_rfl) (fun _ _ _ h => h) (.inl ⟨by rfl, by intro w' hw; go_simp; rw [IntKind.wrap_i64]; unfold wrap64; rfl⟩) hG ?_
  simp only [Act.put, List.setIfInBounds_toArray, List.set_cons_zero, List.set_cons_succ]
  generalize W3.drew = Wd at hG ⊢
  refine onlyS (i := 3) (by kernel_rfl) rfl (by rfl) (fun K hK => ?_)
  go_simp
  refine ⟨trivial, callsIn_wide.2 ((hjal.out Wd).mono ?_)⟩
  rintro r W5 ⟨rfl, h5⟩
  replace hG := hG.trans h5
  refine hK.out _ _ hG (fun _ => ?_)
  clear hK K
  simp only [Act.put, List.setIfInBounds_toArray, List.set_cons_zero, List.set_cons_succ]
  refine ⟨rfl, ?_⟩
  refine onlyIn (i := 4) (by kernel_rfl) rfl (by rfl) (fun K hK => ?_)
  go_simp
  refine hK.out _ _ ?_
  clear hK K
  simp only [Act.put, List.setIfInBounds_toArray, List.set_cons_zero, List.set_cons_succ]
  obtain ⟨W6, hW6⟩ : ∃ W6, W5.alloc (.cells #[.int .i64 p, .int .i64 o2, .int .i64 o3, .int .i64 o4, .int .i64 8, .bool o6, .bool o7, .int .i64 3, .int .i64 0, .int .i64 0, .int .i64 0, .int .i64 (wrap64 (far - 4)), .bool false, .bool false] 37) = W6 := ⟨_, rfl⟩
  have n6 : Nb w W6 := by rw [← hW6]; exact (n3.trans hG).trans (Below.alloc (Below.refl _ _) (Nat.le_refl _) _)
  have b6 : W6.heap[W5.heap.size]? = some (.cells ([(p, o2, o3, o4, 8, o6, o7), jalI 0 (wrap64 (far - 4))].flatMap i7C).toArray 37 (0, 0)) := by rw [← hW6]; exact new_bkc _ _ rfl
  rw [hW6]
  clear hW6
  refine stage (m := 0) (fuel := 1) (List.toArray [true, true, true, true, true, true]) (fun _ => True) trivial (fun hT => ?_)
  refine takeS (i := 5) (v := .slice (some ⟨W5.heap.size, 0, none⟩) 2 2) rfl (by kernel_rfl) (by kernel_rfl) (by kernel_rfl) (by kernel_rfl) (by kernel_rfl) (fun _ _ _ h => h) (.inl ⟨by rfl, by intro w' hw; go_simp⟩) trivial ?_
  simp only [Act.put, List.setIfInBounds_toArray, List.set_cons_zero, List.set_cons_succ]
  refine ⟨rfl, ?_⟩
  refine wpAnyIn_done (by kernel_rfl) ?_ _
  go_wp2_with fail
  go_ret
  subst hp
  exact ⟨_, rfl, own_new b6 (n3.trans hG).size (by simp), n6⟩
end Go.Proofs.YtnooabgdcfegeaaDoor
