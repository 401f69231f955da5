/-
  Proved here: which registers an instruction is said to read, by the code and by the reference: the same numbers, in a slice of the call's own. Condition: the table of codes holds what its text lays.
-/
import Derived.Test.YtcbaokgdpmjhgaaDoorTa
import Derived.Laws.OwnMore
import Derived.OwnWalk
import Derived.Deep.AppendLies
import Derived.RegionTactic
namespace Go.Proofs.YtcbaokgdpmjhgaaDoor
open Go.RowKit Go.Sort
set_option linter.unusedVariables false
theorem ix66_0 (a b : Int) (W : World) : (Instr.index 66 (.agg #[.int .i64 a, .int .i64 b]) (.int .i64 0)).run Tryd.prog W = .ok (.int .i64 a) W := by kernel_rfl
theorem ix66_1 (a b : Int) (W : World) : (Instr.index 66 (.agg #[.int .i64 a, .int .i64 b]) (.int .i64 1)).run Tryd.prog W = .ok (.int .i64 b) W := by kernel_rfl
attribute [local go_sem ↓] ix66_0 ix66_1
theorem info3 : (Tryd.prog.info? 3).map (fun i => (i.zero, i.size, i.bytes)) = some (some (.int .i64 0), 1, 8) := by kernel_rfl
/-- The numbers that are not 0. -/
def nz (r : Int) : List Int := if r = 0 then [] else [r]
def UsesL (g : Bool) (r1 r2 : Int) : List Int := if g = true then nz r1 ++ nz r2 else []
def OwnAns (zs : List Int) (w : World) (e : Ending) (w' : World) : Prop := ∃ v, e = .returned v ∧ w'.ownsRow w.heap.size 3 1 v zs.length (zs.map (Value.int .i64)) ∧ Nb w w'
theorem own_grown {w wr w1 : World} {v : Value} {n : Nat} {xs : List Value} (hN : Nb w wr) (x : Int) (hown : wr.ownsRow w.heap.size 3 1 v n xs)
    (hg : (wr.alloc (.cells #[.int .i64 x] 3)).grownBy w1 v.ownBlock) : Nb w w1 :=
  Below.grown (hN.alloc _) hg (by have := hN.size; simp; omega) (fun k hk => (hown.lt k hk).1)
theorem one_news (w : World) (x : Int) : ∀ j u, [Value.int .i64 x][j]? = some u → (w.alloc (.cells #[.int .i64 x] 3)).cell? ((⟨w.heap.size, 0, none⟩ : Addr).add j) = some u :=
  World.news_of_block (cs := #[.int .i64 x]) (t := 3) (fr := (0, 0)) (heap_alloc_new w _)
theorem blk_nil {w w1 : World} {x : Int} {g : Nat} {o : Obj} (h : w.heap[g]? = some o) (hg : (w.alloc (.cells #[.int .i64 x] 3)).grownBy w1 (Value.slice none 0 0).ownBlock) : w1.heap[g]? = some o := by
  have hl := lt_of_block h
  rw [hg.block g (by simp; omega) (by simp [Value.ownBlock])]
  exact (heap_alloc_old _ _ hl).trans h
theorem one_cell (x : Int) : ∀ u ∈ [Value.int .i64 x], u.oneCell' = true := fun u hu => by simp at hu; subst hu; rfl
set_option maxRecDepth 100000 in
set_option maxHeartbeats 4000000 in
theorem uses_00 (op rd r1 r2 im : Int) (aq rl : Bool) (hr1 : (r1 != 0) = false) (hr2 : (r2 != 0) = false)
    (GA : Hid (∀ w, Cod w → Calls Tryd.prog 12 #[.agg #[.int .i64 op, .int .i64 rd, .int .i64 r1, .int .i64 r2, .int .i64 im, .bool aq, .bool rl]] w fun e w' => e = .returned (.bool true) ∧ Nb w w')) (w : World) (hC : Cod w) :
    Calls Tryd.prog 26 #[.agg #[.int .i64 op, .int .i64 rd, .int .i64 r1, .int .i64 r2, .int .i64 im, .bool aq, .bool rl]] w (OwnAns [] w) := by
  obtain ⟨i0, hi, hz0, hz1, hz2⟩ := info_parts info3
  go_enter Tryd.func26, Tryd.ntmps26
  go_wp2_with fail
  obtain ⟨W1, hW1⟩ : ∃ W1, w.alloc (.cells #[.int .i64 op, .int .i64 rd, .int .i64 r1, .int .i64 r2, .int .i64 im, .bool aq, .bool rl] 23) = W1 := ⟨_, rfl⟩
  have hb1 := blk_made w _ hW1 rfl
  have hN1 : Nb w W1 := by rw [← hW1]; exact (Nb.refl _).alloc _
  rw [hW1]
  clear hW1
  refine (GA.out _ (hC.of_nb hN1)).mono ?_
  rintro e w3 ⟨rfl, hn3⟩
  have hN3 := hN1.trans hn3
  obtain ⟨n3, c0, c1, c2, c3, c4, c5, c6⟩ := cells7 (hn3.block hb1)
  have hown0 := World.ownsRow_nil w3 w.heap.size 3 1
  clear hb1 hN1 hn3 hC
  go_wp2_with fail
  clear c0 c1 c2 c3 c4 c5 c6 n3
  refine wp_loop_rounds 3 ?_
  rw [rounds_succ]
  go_wp2_with fail
  rw [rounds_succ]
  go_wp2_with fail
  rw [rounds_succ]
  go_wp2_with fail
  go_ret
  exact ⟨_, rfl, by simpa using hown0, hN3⟩
set_option maxRecDepth 100000 in
set_option maxHeartbeats 4000000 in
theorem uses_01 (op rd r1 r2 im : Int) (aq rl : Bool) (hr1 : (r1 != 0) = false) (hr2 : (r2 != 0) = true)
    (GA : Hid (∀ w, Cod w → Calls Tryd.prog 12 #[.agg #[.int .i64 op, .int .i64 rd, .int .i64 r1, .int .i64 r2, .int .i64 im, .bool aq, .bool rl]] w fun e w' => e = .returned (.bool true) ∧ Nb w w')) (w : World) (hC : Cod w) :
    Calls Tryd.prog 26 #[.agg #[.int .i64 op, .int .i64 rd, .int .i64 r1, .int .i64 r2, .int .i64 im, .bool aq, .bool rl]] w (OwnAns [r2] w) := by
  obtain ⟨i0, hi, hz0, hz1, hz2⟩ := info_parts info3
  go_enter Tryd.func26, Tryd.ntmps26
  go_wp2_with fail
  obtain ⟨W1, hW1⟩ : ∃ W1, w.alloc (.cells #[.int .i64 op, .int .i64 rd, .int .i64 r1, .int .i64 r2, .int .i64 im, .bool aq, .bool rl] 23) = W1 := ⟨_, rfl⟩
  have hb1 := blk_made w _ hW1 rfl
  have hN1 : Nb w W1 := by rw [← hW1]; exact (Nb.refl _).alloc _
  rw [hW1]
  clear hW1
  refine (GA.out _ (hC.of_nb hN1)).mono ?_
  rintro e w3 ⟨rfl, hn3⟩
  have hN3 := hN1.trans hn3
  obtain ⟨n3, c0, c1, c2, c3, c4, c5, c6⟩ := cells7 (hn3.block hb1)
  have hown0 := World.ownsRow_nil w3 w.heap.size 3 1
  clear hb1 hN1 hn3 hC
  go_wp2_with fail
  clear c0 c1 c2 c3 c4 c5 c6 n3
  refine wp_loop_rounds 3 ?_
  rw [rounds_succ]
  go_wp2_with fail
  rw [rounds_succ]
  go_wp2_with (at_builtin; refine wpList_append_own _ rfl _ _ 40 rfl w.heap.size 3 i0 (.int .i64 0) 1 8 Tryd.underlying40 hi hz0 hz1 hz2 rfl (by decide) _ _ _ rfl (hown0.alloc _) ⟨w3.heap.size, 0, none⟩ 1 1 [.int .i64 r2] rfl rfl (one_news _ _) (one_cell _) (by unfold maxLen; omega) (by omega) (by have := hN3.size; simp; omega) ?_; intro v5 w5 hown_w5 hgrow_w5 hnil_w5; have hN_w5 := own_grown hN3 _ hown0 hgrow_w5; clear hgrow_w5 hnil_w5)
  rw [rounds_succ]
  go_wp2_with fail
  go_ret
  exact ⟨_, rfl, by simpa using hown_w5, hN_w5⟩
set_option maxRecDepth 100000 in
set_option maxHeartbeats 4000000 in
theorem uses_10 (op rd r1 r2 im : Int) (aq rl : Bool) (hr1 : (r1 != 0) = true) (hr2 : (r2 != 0) = false)
    (GA : Hid (∀ w, Cod w → Calls Tryd.prog 12 #[.agg #[.int .i64 op, .int .i64 rd, .int .i64 r1, .int .i64 r2, .int .i64 im, .bool aq, .bool rl]] w fun e w' => e = .returned (.bool true) ∧ Nb w w')) (w : World) (hC : Cod w) :
    Calls Tryd.prog 26 #[.agg #[.int .i64 op, .int .i64 rd, .int .i64 r1, .int .i64 r2, .int .i64 im, .bool aq, .bool rl]] w (OwnAns [r1] w) := by
  obtain ⟨i0, hi, hz0, hz1, hz2⟩ := info_parts info3
  go_enter Tryd.func26, Tryd.ntmps26
  go_wp2_with fail
  obtain ⟨W1, hW1⟩ : ∃ W1, w.alloc (.cells #[.int .i64 op, .int .i64 rd, .int .i64 r1, .int .i64 r2, .int .i64 im, .bool aq, .bool rl] 23) = W1 := ⟨_, rfl⟩
  have hb1 := blk_made w _ hW1 rfl
  have hN1 : Nb w W1 := by rw [← hW1]; exact (Nb.refl _).alloc _
  rw [hW1]
  clear hW1
  refine (GA.out _ (hC.of_nb hN1)).mono ?_
  rintro e w3 ⟨rfl, hn3⟩
  have hN3 := hN1.trans hn3
  obtain ⟨n3, c0, c1, c2, c3, c4, c5, c6⟩ := cells7 (hn3.block hb1)
  have hown0 := World.ownsRow_nil w3 w.heap.size 3 1
  clear hb1 hN1 hn3 hC
  go_wp2_with fail
  clear c0 c1 c2 c3 c4 c5 c6 n3
  refine wp_loop_rounds 3 ?_
  rw [rounds_succ]
  go_wp2_with (at_builtin; refine wpList_append_own _ rfl _ _ 40 rfl w.heap.size 3 i0 (.int .i64 0) 1 8 Tryd.underlying40 hi hz0 hz1 hz2 rfl (by decide) _ _ _ rfl (hown0.alloc _) ⟨w3.heap.size, 0, none⟩ 1 1 [.int .i64 r1] rfl rfl (one_news _ _) (one_cell _) (by unfold maxLen; omega) (by omega) (by have := hN3.size; simp; omega) ?_; intro v4 w4 hown_w4 hgrow_w4 hnil_w4; have hN_w4 := own_grown hN3 _ hown0 hgrow_w4; clear hgrow_w4 hnil_w4)
  rw [rounds_succ]
  go_wp2_with fail
  rw [rounds_succ]
  go_wp2_with fail
  go_ret
  exact ⟨_, rfl, by simpa using hown_w4, hN_w4⟩
set_option maxRecDepth 100000 in
set_option maxHeartbeats 4000000 in
theorem uses_11 (op rd r1 r2 im : Int) (aq rl : Bool) (hr1 : (r1 != 0) = true) (hr2 : (r2 != 0) = true)
    (GA : Hid (∀ w, Cod w → Calls Tryd.prog 12 #[.agg #[.int .i64 op, .int .i64 rd, .int .i64 r1, .int .i64 r2, .int .i64 im, .bool aq, .bool rl]] w fun e w' => e = .returned (.bool true) ∧ Nb w w')) (w : World) (hC : Cod w) :
    Calls Tryd.prog 26 #[.agg #[.int .i64 op, .int .i64 rd, .int .i64 r1, .int .i64 r2, .int .i64 im, .bool aq, .bool rl]] w (OwnAns [r1, r2] w) := by
  obtain ⟨i0, hi, hz0, hz1, hz2⟩ := info_parts info3
  go_enter Tryd.func26, Tryd.ntmps26
  go_wp2_with fail
  obtain ⟨W1, hW1⟩ : ∃ W1, w.alloc (.cells #[.int .i64 op, .int .i64 rd, .int .i64 r1, .int .i64 r2, .int .i64 im, .bool aq, .bool rl] 23) = W1 := ⟨_, rfl⟩
  have hb1 := blk_made w _ hW1 rfl
  have hN1 : Nb w W1 := by rw [← hW1]; exact (Nb.refl _).alloc _
  rw [hW1]
  clear hW1
  refine (GA.out _ (hC.of_nb hN1)).mono ?_
  rintro e w3 ⟨rfl, hn3⟩
  have hN3 := hN1.trans hn3
  obtain ⟨n3, c0, c1, c2, c3, c4, c5, c6⟩ := cells7 (hn3.block hb1)
  have hown0 := World.ownsRow_nil w3 w.heap.size 3 1
  clear hb1 hN1 hn3 hC
  go_wp2_with fail
  clear c0 c1 c2 c3 c4 c5 c6 n3
  refine wp_loop_rounds 3 ?_
  rw [rounds_succ]
  go_wp2_with (at_builtin; refine wpList_append_own _ rfl _ _ 40 rfl w.heap.size 3 i0 (.int .i64 0) 1 8 Tryd.underlying40 hi hz0 hz1 hz2 rfl (by decide) _ _ _ rfl (hown0.alloc _) ⟨w3.heap.size, 0, none⟩ 1 1 [.int .i64 r1] rfl rfl (one_news _ _) (one_cell _) (by unfold maxLen; omega) (by omega) (by have := hN3.size; simp; omega) ?_; intro v4 w4 hown_w4 hgrow_w4 hnil_w4; have hN_w4 := own_grown hN3 _ hown0 hgrow_w4; clear hgrow_w4 hnil_w4)
  rw [rounds_succ]
  go_wp2_with (at_builtin; refine wpList_append_own _ rfl _ _ 40 rfl w.heap.size 3 i0 (.int .i64 0) 1 8 Tryd.underlying40 hi hz0 hz1 hz2 rfl (by decide) _ _ _ rfl (hown_w4.alloc _) ⟨w4.heap.size, 0, none⟩ 1 1 [.int .i64 r2] rfl rfl (one_news _ _) (one_cell _) (by unfold maxLen; omega) (by omega) (by have := hN_w4.size; simp; omega) ?_; intro v5 w5 hown_w5 hgrow_w5 hnil_w5; have hN_w5 := own_grown hN_w4 _ hown_w4 hgrow_w5; clear hgrow_w5 hnil_w5)
  rw [rounds_succ]
  go_wp2_with fail
  go_ret
  exact ⟨_, rfl, by simpa using hown_w5, hN_w5⟩
theorem uses_none (op rd r1 r2 im : Int) (aq rl : Bool)
    (GA : Hid (∀ w, Cod w → Calls Tryd.prog 12 #[.agg #[.int .i64 op, .int .i64 rd, .int .i64 r1, .int .i64 r2, .int .i64 im, .bool aq, .bool rl]] w fun e w' => e = .returned (.bool false) ∧ Nb w w')) (w : World) (hC : Cod w) :
    Calls Tryd.prog 26 #[.agg #[.int .i64 op, .int .i64 rd, .int .i64 r1, .int .i64 r2, .int .i64 im, .bool aq, .bool rl]] w (OwnAns [] w) := by
  go_enter Tryd.func26, Tryd.ntmps26
  go_wp2_with fail
  obtain ⟨W1, hW1⟩ : ∃ W1, w.alloc (.cells #[.int .i64 op, .int .i64 rd, .int .i64 r1, .int .i64 r2, .int .i64 im, .bool aq, .bool rl] 23) = W1 := ⟨_, rfl⟩
  have hN1 : Nb w W1 := by rw [← hW1]; exact (Nb.refl _).alloc _
  rw [hW1]
  clear hW1
  refine (GA.out _ (hC.of_nb hN1)).mono ?_
  rintro e w3 ⟨rfl, hn3⟩
  have hN3 := hN1.trans hn3
  have hown0 := World.ownsRow_nil w3 w.heap.size 3 1
  clear hN1 hn3 hC
  go_wp2_with fail
  go_ret
  exact ⟨_, rfl, by simpa using hown0, hN3⟩
set_option maxRecDepth 100000 in
set_option maxHeartbeats 4000000 in
theorem ruses_nn (op rd r1 r2 im : Int) (aq rl : Bool) (f o a3 a7 : Int) (h0 h3 h4 : Bool)
    (GA : Hid (∀ w, Calls Tryd.prog 13 #[.agg #[.int .i64 op, .int .i64 rd, .int .i64 r1, .int .i64 r2, .int .i64 im, .bool aq, .bool rl]] w fun e w' => e = .returned (.bool true) ∧ Nb w w'))
    (RA : Hid (∀ w, Calls Tryd.prog 34 #[.int .i64 op] w fun e w' => e = .returned (.agg #[.int .i64 f, .int .i64 o, .int .i64 a3, .int .i64 a7]) ∧ Nw w w'))
    (HA : Hid (∀ w, Calls Tryd.prog 40 #[.int .i64 f] w fun e w' => e = .returned (.agg #[.bool h0, .bool false, .bool false, .bool h3, .bool h4]) ∧ Nw w w')) (w : World) :
    Calls Tryd.prog 27 #[.agg #[.int .i64 op, .int .i64 rd, .int .i64 r1, .int .i64 r2, .int .i64 im, .bool aq, .bool rl]] w (OwnAns [] w) := by
  obtain ⟨i0, hi, hz0, hz1, hz2⟩ := info_parts info3
  have ih0 := ix52_0 f o a3 a7
  go_enter Tryd.func27, Tryd.ntmps27
  go_wp2_with fail
  obtain ⟨W1, hW1⟩ : ∃ W1, w.alloc (.cells #[.int .i64 op, .int .i64 rd, .int .i64 r1, .int .i64 r2, .int .i64 im, .bool aq, .bool rl] 23) = W1 := ⟨_, rfl⟩
  have hb1 := blk_made w _ hW1 rfl
  have hN1 : Nb w W1 := by rw [← hW1]; exact (Nb.refl _).alloc _
  rw [hW1]
  clear hW1
  refine (GA.out _).mono ?_
  rintro e w3 ⟨rfl, hn3⟩
  have hN3 := hN1.trans hn3
  have hb3 := hn3.block hb1
  clear hb1 hN1 hn3
  obtain ⟨n3, c0, c1, c2, c3, c4, c5, c6⟩ := cells7 hb3
  go_wp2_with fail
  refine (RA.out _).mono ?_
  rintro e w4 ⟨rfl, hn4⟩
  have hN4 := hN3.trans hn4.b
  have hb4 := hn4.b.block hb3
  clear n3 c0 c1 c2 c3 c4 c5 c6 hb3 hN3 hn4
  go_wp2_with fail
  refine (HA.out _).mono ?_
  rintro e w5 ⟨rfl, hn5⟩
  have hN5 := hN4.trans hn5.b
  have hb5 := hn5.b.block hb4
  clear hb4 hN4 hn5 ih0
  go_upto_region 5 with (fail)
  obtain ⟨W6, hW6⟩ : ∃ W6, w5.alloc (.cells #[.bool h0, .bool false, .bool false, .bool h3, .bool h4] 58) = W6 := ⟨_, rfl⟩
  have hh6 := blk_made w5 _ hW6 rfl
  have hn6 : Nb w5 W6 := by rw [← hW6]; exact (Nb.refl _).alloc _
  rw [hW6]
  clear hW6
  have hN6 := hN5.trans hn6
  have hb6 := hn6.block hb5
  clear hb5 hN5 hn6
  obtain ⟨n3, c0, c1, c2, c3, c4, c5, c6⟩ := cells7 hb6
  obtain ⟨n5, d0, d1, d2, d3, d4⟩ := cells5 hh6
  have hown0 := World.ownsRow_nil W6 w.heap.size 3 1
  go_wp2_with fail
  go_ret
  exact ⟨_, rfl, by simpa using hown0, hN6⟩
set_option maxRecDepth 100000 in
set_option maxHeartbeats 4000000 in
theorem ruses_nz (op rd r1 r2 im : Int) (aq rl : Bool) (f o a3 a7 : Int) (h0 h3 h4 : Bool) (hr2 : decide (0 < r2) = false)
    (GA : Hid (∀ w, Calls Tryd.prog 13 #[.agg #[.int .i64 op, .int .i64 rd, .int .i64 r1, .int .i64 r2, .int .i64 im, .bool aq, .bool rl]] w fun e w' => e = .returned (.bool true) ∧ Nb w w'))
    (RA : Hid (∀ w, Calls Tryd.prog 34 #[.int .i64 op] w fun e w' => e = .returned (.agg #[.int .i64 f, .int .i64 o, .int .i64 a3, .int .i64 a7]) ∧ Nw w w'))
    (HA : Hid (∀ w, Calls Tryd.prog 40 #[.int .i64 f] w fun e w' => e = .returned (.agg #[.bool h0, .bool false, .bool true, .bool h3, .bool h4]) ∧ Nw w w')) (w : World) :
    Calls Tryd.prog 27 #[.agg #[.int .i64 op, .int .i64 rd, .int .i64 r1, .int .i64 r2, .int .i64 im, .bool aq, .bool rl]] w (OwnAns [] w) := by
  obtain ⟨i0, hi, hz0, hz1, hz2⟩ := info_parts info3
  have ih0 := ix52_0 f o a3 a7
  go_enter Tryd.func27, Tryd.ntmps27
  go_wp2_with fail
  obtain ⟨W1, hW1⟩ : ∃ W1, w.alloc (.cells #[.int .i64 op, .int .i64 rd, .int .i64 r1, .int .i64 r2, .int .i64 im, .bool aq, .bool rl] 23) = W1 := ⟨_, rfl⟩
  have hb1 := blk_made w _ hW1 rfl
  have hN1 : Nb w W1 := by rw [← hW1]; exact (Nb.refl _).alloc _
  rw [hW1]
  clear hW1
  refine (GA.out _).mono ?_
  rintro e w3 ⟨rfl, hn3⟩
  have hN3 := hN1.trans hn3
  have hb3 := hn3.block hb1
  clear hb1 hN1 hn3
  obtain ⟨n3, c0, c1, c2, c3, c4, c5, c6⟩ := cells7 hb3
  go_wp2_with fail
  refine (RA.out _).mono ?_
  rintro e w4 ⟨rfl, hn4⟩
  have hN4 := hN3.trans hn4.b
  have hb4 := hn4.b.block hb3
  clear n3 c0 c1 c2 c3 c4 c5 c6 hb3 hN3 hn4
  go_wp2_with fail
  refine (HA.out _).mono ?_
  rintro e w5 ⟨rfl, hn5⟩
  have hN5 := hN4.trans hn5.b
  have hb5 := hn5.b.block hb4
  clear hb4 hN4 hn5 ih0
  go_upto_region 5 with (fail)
  obtain ⟨W6, hW6⟩ : ∃ W6, w5.alloc (.cells #[.bool h0, .bool false, .bool true, .bool h3, .bool h4] 58) = W6 := ⟨_, rfl⟩
  have hh6 := blk_made w5 _ hW6 rfl
  have hn6 : Nb w5 W6 := by rw [← hW6]; exact (Nb.refl _).alloc _
  rw [hW6]
  clear hW6
  have hN6 := hN5.trans hn6
  have hb6 := hn6.block hb5
  clear hb5 hN5 hn6
  obtain ⟨n3, c0, c1, c2, c3, c4, c5, c6⟩ := cells7 hb6
  obtain ⟨n5, d0, d1, d2, d3, d4⟩ := cells5 hh6
  have hown0 := World.ownsRow_nil W6 w.heap.size 3 1
  go_wp2_with fail
  go_ret
  exact ⟨_, rfl, by simpa using hown0, hN6⟩
set_option maxRecDepth 100000 in
set_option maxHeartbeats 4000000 in
theorem ruses_zn (op rd r1 r2 im : Int) (aq rl : Bool) (f o a3 a7 : Int) (h0 h3 h4 : Bool) (hr1 : decide (0 < r1) = false)
    (GA : Hid (∀ w, Calls Tryd.prog 13 #[.agg #[.int .i64 op, .int .i64 rd, .int .i64 r1, .int .i64 r2, .int .i64 im, .bool aq, .bool rl]] w fun e w' => e = .returned (.bool true) ∧ Nb w w'))
    (RA : Hid (∀ w, Calls Tryd.prog 34 #[.int .i64 op] w fun e w' => e = .returned (.agg #[.int .i64 f, .int .i64 o, .int .i64 a3, .int .i64 a7]) ∧ Nw w w'))
    (HA : Hid (∀ w, Calls Tryd.prog 40 #[.int .i64 f] w fun e w' => e = .returned (.agg #[.bool h0, .bool true, .bool false, .bool h3, .bool h4]) ∧ Nw w w')) (w : World) :
    Calls Tryd.prog 27 #[.agg #[.int .i64 op, .int .i64 rd, .int .i64 r1, .int .i64 r2, .int .i64 im, .bool aq, .bool rl]] w (OwnAns [] w) := by
  obtain ⟨i0, hi, hz0, hz1, hz2⟩ := info_parts info3
  have ih0 := ix52_0 f o a3 a7
  go_enter Tryd.func27, Tryd.ntmps27
  go_wp2_with fail
  obtain ⟨W1, hW1⟩ : ∃ W1, w.alloc (.cells #[.int .i64 op, .int .i64 rd, .int .i64 r1, .int .i64 r2, .int .i64 im, .bool aq, .bool rl] 23) = W1 := ⟨_, rfl⟩
  have hb1 := blk_made w _ hW1 rfl
  have hN1 : Nb w W1 := by rw [← hW1]; exact (Nb.refl _).alloc _
  rw [hW1]
  clear hW1
  refine (GA.out _).mono ?_
  rintro e w3 ⟨rfl, hn3⟩
  have hN3 := hN1.trans hn3
  have hb3 := hn3.block hb1
  clear hb1 hN1 hn3
  obtain ⟨n3, c0, c1, c2, c3, c4, c5, c6⟩ := cells7 hb3
  go_wp2_with fail
  refine (RA.out _).mono ?_
  rintro e w4 ⟨rfl, hn4⟩
  have hN4 := hN3.trans hn4.b
  have hb4 := hn4.b.block hb3
  clear n3 c0 c1 c2 c3 c4 c5 c6 hb3 hN3 hn4
  go_wp2_with fail
  refine (HA.out _).mono ?_
  rintro e w5 ⟨rfl, hn5⟩
  have hN5 := hN4.trans hn5.b
  have hb5 := hn5.b.block hb4
  clear hb4 hN4 hn5 ih0
  go_upto_region 5 with (fail)
  obtain ⟨W6, hW6⟩ : ∃ W6, w5.alloc (.cells #[.bool h0, .bool true, .bool false, .bool h3, .bool h4] 58) = W6 := ⟨_, rfl⟩
  have hh6 := blk_made w5 _ hW6 rfl
  have hn6 : Nb w5 W6 := by rw [← hW6]; exact (Nb.refl _).alloc _
  rw [hW6]
  clear hW6
  have hN6 := hN5.trans hn6
  have hb6 := hn6.block hb5
  clear hb5 hN5 hn6
  obtain ⟨n3, c0, c1, c2, c3, c4, c5, c6⟩ := cells7 hb6
  obtain ⟨n5, d0, d1, d2, d3, d4⟩ := cells5 hh6
  have hown0 := World.ownsRow_nil W6 w.heap.size 3 1
  go_wp2_with fail
  go_ret
  exact ⟨_, rfl, by simpa using hown0, hN6⟩
set_option maxRecDepth 100000 in
set_option maxHeartbeats 4000000 in
theorem ruses_zz (op rd r1 r2 im : Int) (aq rl : Bool) (f o a3 a7 : Int) (h0 h3 h4 : Bool) (hr1 : decide (0 < r1) = false) (hr2 : decide (0 < r2) = false)
    (GA : Hid (∀ w, Calls Tryd.prog 13 #[.agg #[.int .i64 op, .int .i64 rd, .int .i64 r1, .int .i64 r2, .int .i64 im, .bool aq, .bool rl]] w fun e w' => e = .returned (.bool true) ∧ Nb w w'))
    (RA : Hid (∀ w, Calls Tryd.prog 34 #[.int .i64 op] w fun e w' => e = .returned (.agg #[.int .i64 f, .int .i64 o, .int .i64 a3, .int .i64 a7]) ∧ Nw w w'))
    (HA : Hid (∀ w, Calls Tryd.prog 40 #[.int .i64 f] w fun e w' => e = .returned (.agg #[.bool h0, .bool true, .bool true, .bool h3, .bool h4]) ∧ Nw w w')) (w : World) :
    Calls Tryd.prog 27 #[.agg #[.int .i64 op, .int .i64 rd, .int .i64 r1, .int .i64 r2, .int .i64 im, .bool aq, .bool rl]] w (OwnAns [] w) := by
  obtain ⟨i0, hi, hz0, hz1, hz2⟩ := info_parts info3
  have ih0 := ix52_0 f o a3 a7
  go_enter Tryd.func27, Tryd.ntmps27
  go_wp2_with fail
  obtain ⟨W1, hW1⟩ : ∃ W1, w.alloc (.cells #[.int .i64 op, .int .i64 rd, .int .i64 r1, .int .i64 r2, .int .i64 im, .bool aq, .bool rl] 23) = W1 := ⟨_, rfl⟩
  have hb1 := blk_made w _ hW1 rfl
  have hN1 : Nb w W1 := by rw [← hW1]; exact (Nb.refl _).alloc _
  rw [hW1]
  clear hW1
  refine (GA.out _).mono ?_
  rintro e w3 ⟨rfl, hn3⟩
  have hN3 := hN1.trans hn3
  have hb3 := hn3.block hb1
  clear hb1 hN1 hn3
  obtain ⟨n3, c0, c1, c2, c3, c4, c5, c6⟩ := cells7 hb3
  go_wp2_with fail
  refine (RA.out _).mono ?_
  rintro e w4 ⟨rfl, hn4⟩
  have hN4 := hN3.trans hn4.b
  have hb4 := hn4.b.block hb3
  clear n3 c0 c1 c2 c3 c4 c5 c6 hb3 hN3 hn4
  go_wp2_with fail
  refine (HA.out _).mono ?_
  rintro e w5 ⟨rfl, hn5⟩
  have hN5 := hN4.trans hn5.b
  have hb5 := hn5.b.block hb4
  clear hb4 hN4 hn5 ih0
  go_upto_region 5 with (fail)
  obtain ⟨W6, hW6⟩ : ∃ W6, w5.alloc (.cells #[.bool h0, .bool true, .bool true, .bool h3, .bool h4] 58) = W6 := ⟨_, rfl⟩
  have hh6 := blk_made w5 _ hW6 rfl
  have hn6 : Nb w5 W6 := by rw [← hW6]; exact (Nb.refl _).alloc _
  rw [hW6]
  clear hW6
  have hN6 := hN5.trans hn6
  have hb6 := hn6.block hb5
  clear hb5 hN5 hn6
  obtain ⟨n3, c0, c1, c2, c3, c4, c5, c6⟩ := cells7 hb6
  obtain ⟨n5, d0, d1, d2, d3, d4⟩ := cells5 hh6
  have hown0 := World.ownsRow_nil W6 w.heap.size 3 1
  go_wp2_with fail
  go_ret
  exact ⟨_, rfl, by simpa using hown0, hN6⟩
set_option maxRecDepth 100000 in
set_option maxHeartbeats 4000000 in
theorem ruses_ny (op rd r1 r2 im : Int) (aq rl : Bool) (f o a3 a7 : Int) (h0 h3 h4 : Bool) (hr2 : decide (0 < r2) = true)
    (GA : Hid (∀ w, Calls Tryd.prog 13 #[.agg #[.int .i64 op, .int .i64 rd, .int .i64 r1, .int .i64 r2, .int .i64 im, .bool aq, .bool rl]] w fun e w' => e = .returned (.bool true) ∧ Nb w w'))
    (RA : Hid (∀ w, Calls Tryd.prog 34 #[.int .i64 op] w fun e w' => e = .returned (.agg #[.int .i64 f, .int .i64 o, .int .i64 a3, .int .i64 a7]) ∧ Nw w w'))
    (HA : Hid (∀ w, Calls Tryd.prog 40 #[.int .i64 f] w fun e w' => e = .returned (.agg #[.bool h0, .bool false, .bool true, .bool h3, .bool h4]) ∧ Nw w w')) (w : World) :
    Calls Tryd.prog 27 #[.agg #[.int .i64 op, .int .i64 rd, .int .i64 r1, .int .i64 r2, .int .i64 im, .bool aq, .bool rl]] w (OwnAns [r2] w) := by
  obtain ⟨i0, hi, hz0, hz1, hz2⟩ := info_parts info3
  have ih0 := ix52_0 f o a3 a7
  go_enter Tryd.func27, Tryd.ntmps27
  go_wp2_with fail
  obtain ⟨W1, hW1⟩ : ∃ W1, w.alloc (.cells #[.int .i64 op, .int .i64 rd, .int .i64 r1, .int .i64 r2, .int .i64 im, .bool aq, .bool rl] 23) = W1 := ⟨_, rfl⟩
  have hb1 := blk_made w _ hW1 rfl
  have hN1 : Nb w W1 := by rw [← hW1]; exact (Nb.refl _).alloc _
  rw [hW1]
  clear hW1
  refine (GA.out _).mono ?_
  rintro e w3 ⟨rfl, hn3⟩
  have hN3 := hN1.trans hn3
  have hb3 := hn3.block hb1
  clear hb1 hN1 hn3
  obtain ⟨n3, c0, c1, c2, c3, c4, c5, c6⟩ := cells7 hb3
  go_wp2_with fail
  refine (RA.out _).mono ?_
  rintro e w4 ⟨rfl, hn4⟩
  have hN4 := hN3.trans hn4.b
  have hb4 := hn4.b.block hb3
  clear n3 c0 c1 c2 c3 c4 c5 c6 hb3 hN3 hn4
  go_wp2_with fail
  refine (HA.out _).mono ?_
  rintro e w5 ⟨rfl, hn5⟩
  have hN5 := hN4.trans hn5.b
  have hb5 := hn5.b.block hb4
  clear hb4 hN4 hn5 ih0
  go_upto_region 5 with (fail)
  obtain ⟨W6, hW6⟩ : ∃ W6, w5.alloc (.cells #[.bool h0, .bool false, .bool true, .bool h3, .bool h4] 58) = W6 := ⟨_, rfl⟩
  have hh6 := blk_made w5 _ hW6 rfl
  have hn6 : Nb w5 W6 := by rw [← hW6]; exact (Nb.refl _).alloc _
  rw [hW6]
  clear hW6
  have hN6 := hN5.trans hn6
  have hb6 := hn6.block hb5
  clear hb5 hN5 hn6
  obtain ⟨n3, c0, c1, c2, c3, c4, c5, c6⟩ := cells7 hb6
  obtain ⟨n5, d0, d1, d2, d3, d4⟩ := cells5 hh6
  have hown0 := World.ownsRow_nil W6 w.heap.size 3 1
  go_wp2_with (at_builtin; refine wpList_append_own _ rfl _ _ 40 rfl w.heap.size 3 i0 (.int .i64 0) 1 8 Tryd.underlying40 hi hz0 hz1 hz2 rfl (by decide) _ _ _ rfl (hown0.alloc _) ⟨W6.heap.size, 0, none⟩ 1 1 [.int .i64 r2] rfl rfl (one_news _ _) (one_cell _) (by unfold maxLen; omega) (by omega) (by have := hN6.size; simp; omega) ?_; intro v8 w8 hown_w8 hgrow_w8 hnil_w8; have hN_w8 := own_grown hN6 _ hown0 hgrow_w8; clear hgrow_w8 hnil_w8)
  go_ret
  exact ⟨_, rfl, by simpa using hown_w8, hN_w8⟩
set_option maxRecDepth 100000 in
set_option maxHeartbeats 4000000 in
theorem ruses_zy (op rd r1 r2 im : Int) (aq rl : Bool) (f o a3 a7 : Int) (h0 h3 h4 : Bool) (hr1 : decide (0 < r1) = false) (hr2 : decide (0 < r2) = true)
    (GA : Hid (∀ w, Calls Tryd.prog 13 #[.agg #[.int .i64 op, .int .i64 rd, .int .i64 r1, .int .i64 r2, .int .i64 im, .bool aq, .bool rl]] w fun e w' => e = .returned (.bool true) ∧ Nb w w'))
    (RA : Hid (∀ w, Calls Tryd.prog 34 #[.int .i64 op] w fun e w' => e = .returned (.agg #[.int .i64 f, .int .i64 o, .int .i64 a3, .int .i64 a7]) ∧ Nw w w'))
    (HA : Hid (∀ w, Calls Tryd.prog 40 #[.int .i64 f] w fun e w' => e = .returned (.agg #[.bool h0, .bool true, .bool true, .bool h3, .bool h4]) ∧ Nw w w')) (w : World) :
    Calls Tryd.prog 27 #[.agg #[.int .i64 op, .int .i64 rd, .int .i64 r1, .int .i64 r2, .int .i64 im, .bool aq, .bool rl]] w (OwnAns [r2] w) := by
  obtain ⟨i0, hi, hz0, hz1, hz2⟩ := info_parts info3
  have ih0 := ix52_0 f o a3 a7
  go_enter Tryd.func27, Tryd.ntmps27
  go_wp2_with fail
  obtain ⟨W1, hW1⟩ : ∃ W1, w.alloc (.cells #[.int .i64 op, .int .i64 rd, .int .i64 r1, .int .i64 r2, .int .i64 im, .bool aq, .bool rl] 23) = W1 := ⟨_, rfl⟩
  have hb1 := blk_made w _ hW1 rfl
  have hN1 : Nb w W1 := by rw [← hW1]; exact (Nb.refl _).alloc _
  rw [hW1]
  clear hW1
  refine (GA.out _).mono ?_
  rintro e w3 ⟨rfl, hn3⟩
  have hN3 := hN1.trans hn3
  have hb3 := hn3.block hb1
  clear hb1 hN1 hn3
  obtain ⟨n3, c0, c1, c2, c3, c4, c5, c6⟩ := cells7 hb3
  go_wp2_with fail
  refine (RA.out _).mono ?_
  rintro e w4 ⟨rfl, hn4⟩
  have hN4 := hN3.trans hn4.b
  have hb4 := hn4.b.block hb3
  clear n3 c0 c1 c2 c3 c4 c5 c6 hb3 hN3 hn4
  go_wp2_with fail
  refine (HA.out _).mono ?_
  rintro e w5 ⟨rfl, hn5⟩
  have hN5 := hN4.trans hn5.b
  have hb5 := hn5.b.block hb4
  clear hb4 hN4 hn5 ih0
  go_upto_region 5 with (fail)
  obtain ⟨W6, hW6⟩ : ∃ W6, w5.alloc (.cells #[.bool h0, .bool true, .bool true, .bool h3, .bool h4] 58) = W6 := ⟨_, rfl⟩
  have hh6 := blk_made w5 _ hW6 rfl
  have hn6 : Nb w5 W6 := by rw [← hW6]; exact (Nb.refl _).alloc _
  rw [hW6]
  clear hW6
  have hN6 := hN5.trans hn6
  have hb6 := hn6.block hb5
  clear hb5 hN5 hn6
  obtain ⟨n3, c0, c1, c2, c3, c4, c5, c6⟩ := cells7 hb6
  obtain ⟨n5, d0, d1, d2, d3, d4⟩ := cells5 hh6
  have hown0 := World.ownsRow_nil W6 w.heap.size 3 1
  go_wp2_with (at_builtin; refine wpList_append_own _ rfl _ _ 40 rfl w.heap.size 3 i0 (.int .i64 0) 1 8 Tryd.underlying40 hi hz0 hz1 hz2 rfl (by decide) _ _ _ rfl (hown0.alloc _) ⟨W6.heap.size, 0, none⟩ 1 1 [.int .i64 r2] rfl rfl (one_news _ _) (one_cell _) (by unfold maxLen; omega) (by omega) (by have := hN6.size; simp; omega) ?_; intro v8 w8 hown_w8 hgrow_w8 hnil_w8; have hN_w8 := own_grown hN6 _ hown0 hgrow_w8; clear hgrow_w8 hnil_w8)
  go_ret
  exact ⟨_, rfl, by simpa using hown_w8, hN_w8⟩
set_option maxRecDepth 100000 in
set_option maxHeartbeats 4000000 in
theorem ruses_yn (op rd r1 r2 im : Int) (aq rl : Bool) (f o a3 a7 : Int) (h0 h3 h4 : Bool) (hr1 : decide (0 < r1) = true)
    (GA : Hid (∀ w, Calls Tryd.prog 13 #[.agg #[.int .i64 op, .int .i64 rd, .int .i64 r1, .int .i64 r2, .int .i64 im, .bool aq, .bool rl]] w fun e w' => e = .returned (.bool true) ∧ Nb w w'))
    (RA : Hid (∀ w, Calls Tryd.prog 34 #[.int .i64 op] w fun e w' => e = .returned (.agg #[.int .i64 f, .int .i64 o, .int .i64 a3, .int .i64 a7]) ∧ Nw w w'))
    (HA : Hid (∀ w, Calls Tryd.prog 40 #[.int .i64 f] w fun e w' => e = .returned (.agg #[.bool h0, .bool true, .bool false, .bool h3, .bool h4]) ∧ Nw w w')) (w : World) :
    Calls Tryd.prog 27 #[.agg #[.int .i64 op, .int .i64 rd, .int .i64 r1, .int .i64 r2, .int .i64 im, .bool aq, .bool rl]] w (OwnAns [r1] w) := by
  obtain ⟨i0, hi, hz0, hz1, hz2⟩ := info_parts info3
  have ih0 := ix52_0 f o a3 a7
  go_enter Tryd.func27, Tryd.ntmps27
  go_wp2_with fail
  obtain ⟨W1, hW1⟩ : ∃ W1, w.alloc (.cells #[.int .i64 op, .int .i64 rd, .int .i64 r1, .int .i64 r2, .int .i64 im, .bool aq, .bool rl] 23) = W1 := ⟨_, rfl⟩
  have hb1 := blk_made w _ hW1 rfl
  have hN1 : Nb w W1 := by rw [← hW1]; exact (Nb.refl _).alloc _
  rw [hW1]
  clear hW1
  refine (GA.out _).mono ?_
  rintro e w3 ⟨rfl, hn3⟩
  have hN3 := hN1.trans hn3
  have hb3 := hn3.block hb1
  clear hb1 hN1 hn3
  obtain ⟨n3, c0, c1, c2, c3, c4, c5, c6⟩ := cells7 hb3
  go_wp2_with fail
  refine (RA.out _).mono ?_
  rintro e w4 ⟨rfl, hn4⟩
  have hN4 := hN3.trans hn4.b
  have hb4 := hn4.b.block hb3
  clear n3 c0 c1 c2 c3 c4 c5 c6 hb3 hN3 hn4
  go_wp2_with fail
  refine (HA.out _).mono ?_
  rintro e w5 ⟨rfl, hn5⟩
  have hN5 := hN4.trans hn5.b
  have hb5 := hn5.b.block hb4
  clear hb4 hN4 hn5 ih0
  go_upto_region 5 with (fail)
  obtain ⟨W6, hW6⟩ : ∃ W6, w5.alloc (.cells #[.bool h0, .bool true, .bool false, .bool h3, .bool h4] 58) = W6 := ⟨_, rfl⟩
  have hh6 := blk_made w5 _ hW6 rfl
  have hn6 : Nb w5 W6 := by rw [← hW6]; exact (Nb.refl _).alloc _
  rw [hW6]
  clear hW6
  have hN6 := hN5.trans hn6
  have hb6 := hn6.block hb5
  clear hb5 hN5 hn6
  obtain ⟨n3, c0, c1, c2, c3, c4, c5, c6⟩ := cells7 hb6
  obtain ⟨n5, d0, d1, d2, d3, d4⟩ := cells5 hh6
  have hown0 := World.ownsRow_nil W6 w.heap.size 3 1
  go_wp2_with (at_builtin; refine wpList_append_own _ rfl _ _ 40 rfl w.heap.size 3 i0 (.int .i64 0) 1 8 Tryd.underlying40 hi hz0 hz1 hz2 rfl (by decide) _ _ _ rfl (hown0.alloc _) ⟨W6.heap.size, 0, none⟩ 1 1 [.int .i64 r1] rfl rfl (one_news _ _) (one_cell _) (by unfold maxLen; omega) (by omega) (by have := hN6.size; simp; omega) ?_; intro v7 w7 hown_w7 hgrow_w7 hnil_w7; have hN_w7 := own_grown hN6 _ hown0 hgrow_w7; have hb7 := blk_nil hb6 hgrow_w7; have hh7 := blk_nil hh6 hgrow_w7; clear hgrow_w7 hnil_w7 n3 c0 c1 c2 c3 c4 c5 c6 n5 d0 d1 d2 d3 d4; obtain ⟨n3, c0, c1, c2, c3, c4, c5, c6⟩ := cells7 hb7; obtain ⟨n5, d0, d1, d2, d3, d4⟩ := cells5 hh7)
  go_ret
  exact ⟨_, rfl, by simpa using hown_w7, hN_w7⟩
set_option maxRecDepth 100000 in
set_option maxHeartbeats 4000000 in
theorem ruses_yz (op rd r1 r2 im : Int) (aq rl : Bool) (f o a3 a7 : Int) (h0 h3 h4 : Bool) (hr1 : decide (0 < r1) = true) (hr2 : decide (0 < r2) = false)
    (GA : Hid (∀ w, Calls Tryd.prog 13 #[.agg #[.int .i64 op, .int .i64 rd, .int .i64 r1, .int .i64 r2, .int .i64 im, .bool aq, .bool rl]] w fun e w' => e = .returned (.bool true) ∧ Nb w w'))
    (RA : Hid (∀ w, Calls Tryd.prog 34 #[.int .i64 op] w fun e w' => e = .returned (.agg #[.int .i64 f, .int .i64 o, .int .i64 a3, .int .i64 a7]) ∧ Nw w w'))
    (HA : Hid (∀ w, Calls Tryd.prog 40 #[.int .i64 f] w fun e w' => e = .returned (.agg #[.bool h0, .bool true, .bool true, .bool h3, .bool h4]) ∧ Nw w w')) (w : World) :
    Calls Tryd.prog 27 #[.agg #[.int .i64 op, .int .i64 rd, .int .i64 r1, .int .i64 r2, .int .i64 im, .bool aq, .bool rl]] w (OwnAns [r1] w) := by
  obtain ⟨i0, hi, hz0, hz1, hz2⟩ := info_parts info3
  have ih0 := ix52_0 f o a3 a7
  go_enter Tryd.func27, Tryd.ntmps27
  go_wp2_with fail
  obtain ⟨W1, hW1⟩ : ∃ W1, w.alloc (.cells #[.int .i64 op, .int .i64 rd, .int .i64 r1, .int .i64 r2, .int .i64 im, .bool aq, .bool rl] 23) = W1 := ⟨_, rfl⟩
  have hb1 := blk_made w _ hW1 rfl
  have hN1 : Nb w W1 := by rw [← hW1]; exact (Nb.refl _).alloc _
  rw [hW1]
  clear hW1
  refine (GA.out _).mono ?_
  rintro e w3 ⟨rfl, hn3⟩
  have hN3 := hN1.trans hn3
  have hb3 := hn3.block hb1
  clear hb1 hN1 hn3
  obtain ⟨n3, c0, c1, c2, c3, c4, c5, c6⟩ := cells7 hb3
  go_wp2_with fail
  refine (RA.out _).mono ?_
  rintro e w4 ⟨rfl, hn4⟩
  have hN4 := hN3.trans hn4.b
  have hb4 := hn4.b.block hb3
  clear n3 c0 c1 c2 c3 c4 c5 c6 hb3 hN3 hn4
  go_wp2_with fail
  refine (HA.out _).mono ?_
  rintro e w5 ⟨rfl, hn5⟩
  have hN5 := hN4.trans hn5.b
  have hb5 := hn5.b.block hb4
  clear hb4 hN4 hn5 ih0
  go_upto_region 5 with (fail)
  obtain ⟨W6, hW6⟩ : ∃ W6, w5.alloc (.cells #[.bool h0, .bool true, .bool true, .bool h3, .bool h4] 58) = W6 := ⟨_, rfl⟩
  have hh6 := blk_made w5 _ hW6 rfl
  have hn6 : Nb w5 W6 := by rw [← hW6]; exact (Nb.refl _).alloc _
  rw [hW6]
  clear hW6
  have hN6 := hN5.trans hn6
  have hb6 := hn6.block hb5
  clear hb5 hN5 hn6
  obtain ⟨n3, c0, c1, c2, c3, c4, c5, c6⟩ := cells7 hb6
  obtain ⟨n5, d0, d1, d2, d3, d4⟩ := cells5 hh6
  have hown0 := World.ownsRow_nil W6 w.heap.size 3 1
  go_wp2_with (at_builtin; refine wpList_append_own _ rfl _ _ 40 rfl w.heap.size 3 i0 (.int .i64 0) 1 8 Tryd.underlying40 hi hz0 hz1 hz2 rfl (by decide) _ _ _ rfl (hown0.alloc _) ⟨W6.heap.size, 0, none⟩ 1 1 [.int .i64 r1] rfl rfl (one_news _ _) (one_cell _) (by unfold maxLen; omega) (by omega) (by have := hN6.size; simp; omega) ?_; intro v7 w7 hown_w7 hgrow_w7 hnil_w7; have hN_w7 := own_grown hN6 _ hown0 hgrow_w7; have hb7 := blk_nil hb6 hgrow_w7; have hh7 := blk_nil hh6 hgrow_w7; clear hgrow_w7 hnil_w7 n3 c0 c1 c2 c3 c4 c5 c6 n5 d0 d1 d2 d3 d4; obtain ⟨n3, c0, c1, c2, c3, c4, c5, c6⟩ := cells7 hb7; obtain ⟨n5, d0, d1, d2, d3, d4⟩ := cells5 hh7)
  go_ret
  exact ⟨_, rfl, by simpa using hown_w7, hN_w7⟩
set_option maxRecDepth 100000 in
set_option maxHeartbeats 4000000 in
theorem ruses_yy (op rd r1 r2 im : Int) (aq rl : Bool) (f o a3 a7 : Int) (h0 h3 h4 : Bool) (hr1 : decide (0 < r1) = true) (hr2 : decide (0 < r2) = true)
    (GA : Hid (∀ w, Calls Tryd.prog 13 #[.agg #[.int .i64 op, .int .i64 rd, .int .i64 r1, .int .i64 r2, .int .i64 im, .bool aq, .bool rl]] w fun e w' => e = .returned (.bool true) ∧ Nb w w'))
    (RA : Hid (∀ w, Calls Tryd.prog 34 #[.int .i64 op] w fun e w' => e = .returned (.agg #[.int .i64 f, .int .i64 o, .int .i64 a3, .int .i64 a7]) ∧ Nw w w'))
    (HA : Hid (∀ w, Calls Tryd.prog 40 #[.int .i64 f] w fun e w' => e = .returned (.agg #[.bool h0, .bool true, .bool true, .bool h3, .bool h4]) ∧ Nw w w')) (w : World) :
    Calls Tryd.prog 27 #[.agg #[.int .i64 op, .int .i64 rd, .int .i64 r1, .int .i64 r2, .int .i64 im, .bool aq, .bool rl]] w (OwnAns [r1, r2] w) := by
  obtain ⟨i0, hi, hz0, hz1, hz2⟩ := info_parts info3
  have ih0 := ix52_0 f o a3 a7
  go_enter Tryd.func27, Tryd.ntmps27
  go_wp2_with fail
  obtain ⟨W1, hW1⟩ : ∃ W1, w.alloc (.cells #[.int .i64 op, .int .i64 rd, .int .i64 r1, .int .i64 r2, .int .i64 im, .bool aq, .bool rl] 23) = W1 := ⟨_, rfl⟩
  have hb1 := blk_made w _ hW1 rfl
  have hN1 : Nb w W1 := by rw [← hW1]; exact (Nb.refl _).alloc _
  rw [hW1]
  clear hW1
  refine (GA.out _).mono ?_
  rintro e w3 ⟨rfl, hn3⟩
  have hN3 := hN1.trans hn3
  have hb3 := hn3.block hb1
  clear hb1 hN1 hn3
  obtain ⟨n3, c0, c1, c2, c3, c4, c5, c6⟩ := cells7 hb3
  go_wp2_with fail
  refine (RA.out _).mono ?_
  rintro e w4 ⟨rfl, hn4⟩
  have hN4 := hN3.trans hn4.b
  have hb4 := hn4.b.block hb3
  clear n3 c0 c1 c2 c3 c4 c5 c6 hb3 hN3 hn4
  go_wp2_with fail
  refine (HA.out _).mono ?_
  rintro e w5 ⟨rfl, hn5⟩
  have hN5 := hN4.trans hn5.b
  have hb5 := hn5.b.block hb4
  clear hb4 hN4 hn5 ih0
  go_upto_region 5 with (fail)
  obtain ⟨W6, hW6⟩ : ∃ W6, w5.alloc (.cells #[.bool h0, .bool true, .bool true, .bool h3, .bool h4] 58) = W6 := ⟨_, rfl⟩
  have hh6 := blk_made w5 _ hW6 rfl
  have hn6 : Nb w5 W6 := by rw [← hW6]; exact (Nb.refl _).alloc _
  rw [hW6]
  clear hW6
  have hN6 := hN5.trans hn6
  have hb6 := hn6.block hb5
  clear hb5 hN5 hn6
  obtain ⟨n3, c0, c1, c2, c3, c4, c5, c6⟩ := cells7 hb6
  obtain ⟨n5, d0, d1, d2, d3, d4⟩ := cells5 hh6
  have hown0 := World.ownsRow_nil W6 w.heap.size 3 1
  go_upto_region 7 with (at_builtin; refine wpList_append_own _ rfl _ _ 40 rfl w.heap.size 3 i0 (.int .i64 0) 1 8 Tryd.underlying40 hi hz0 hz1 hz2 rfl (by decide) _ _ _ rfl (hown0.alloc _) ⟨W6.heap.size, 0, none⟩ 1 1 [.int .i64 r1] rfl rfl (one_news _ _) (one_cell _) (by unfold maxLen; omega) (by omega) (by have := hN6.size; simp; omega) ?_; intro v7 w7 hown_w7 hgrow_w7 hnil_w7; have hN_w7 := own_grown hN6 _ hown0 hgrow_w7; have hb7 := blk_nil hb6 hgrow_w7; have hh7 := blk_nil hh6 hgrow_w7; clear hgrow_w7 hnil_w7 n3 c0 c1 c2 c3 c4 c5 c6 n5 d0 d1 d2 d3 d4; obtain ⟨n3, c0, c1, c2, c3, c4, c5, c6⟩ := cells7 hb7; obtain ⟨n5, d0, d1, d2, d3, d4⟩ := cells5 hh7)
  go_wp2_with (at_builtin; refine wpList_append_own _ rfl _ _ 40 rfl w.heap.size 3 i0 (.int .i64 0) 1 8 Tryd.underlying40 hi hz0 hz1 hz2 rfl (by decide) _ _ _ rfl (hown_w7.alloc _) ⟨w7.heap.size, 0, none⟩ 1 1 [.int .i64 r2] rfl rfl (one_news _ _) (one_cell _) (by unfold maxLen; omega) (by omega) (by have := hN_w7.size; simp; omega) ?_; intro v8 w8 hown_w8 hgrow_w8 hnil_w8; have hN_w8 := own_grown hN_w7 _ hown_w7 hgrow_w8; clear hgrow_w8 hnil_w8)
  go_ret
  exact ⟨_, rfl, by simpa using hown_w8, hN_w8⟩
end Go.Proofs.YtcbaokgdpmjhgaaDoor
