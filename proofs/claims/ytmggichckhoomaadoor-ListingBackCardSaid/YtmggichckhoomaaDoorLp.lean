/-
  Proved here: the instruction of a line, the code's. Conditions: the variables hold what their texts lay.
-/
import Derived.Test.YtmggichckhoomaaDoorLo
import Derived.BigRegion
import Derived.Laws.ResultCell
namespace Go.Proofs.YtmggichckhoomaaDoor
open Go.ChangeShapes Go.WideShapes Go.ChangeAt Go.RowKit
set_option linter.unusedVariables false
set_option linter.unusedSimpArgs false
theorem Nb.drew {a b : World} (h : Nb a b) : Nb a b.drew := h.trans ⟨rfl, rfl, rfl, Nat.le_refl _, fun _ _ => rfl⟩
theorem mid4 {w : World} {n : Nat} {t : TypeId} {c0 c1 c2 c3 c4 c5 c6 x1 x2 x3 x4 : Value} (h : w.heap[n]? = some (.cells #[c0, c1, c2, c3, c4, c5, c6] t (0, 0))) :
    ((((w.setCell ⟨n, 1, none⟩ x1).setCell ⟨n, 2, none⟩ x2).setCell ⟨n, 3, none⟩ x3).setCell ⟨n, 4, none⟩ x4).drew.heap[n]? = some (.cells #[c0, x1, x2, x3, x4, c5, c6] t (0, 0)) := by
  have h2 := heap_setCell_same w n 1 _ _ x1 h
  have h3 := heap_setCell_same _ n 2 _ _ x2 h2
  have h4 := heap_setCell_same _ n 3 _ _ x3 h3
  have h5 := heap_setCell_same _ n 4 _ _ x4 h4
  show ((((w.setCell ⟨n, 1, none⟩ x1).setCell ⟨n, 2, none⟩ x2).setCell ⟨n, 3, none⟩ x3).setCell ⟨n, 4, none⟩ x4).heap[n]? = _
  simpa using h5
theorem far4 {w : World} {n m : Nat} {o : Obj} {x1 x2 x3 x4 : Value} (hne : m ≠ n) (h : w.heap[m]? = some o) :
    ((((w.setCell ⟨n, 1, none⟩ x1).setCell ⟨n, 2, none⟩ x2).setCell ⟨n, 3, none⟩ x3).setCell ⟨n, 4, none⟩ x4).drew.heap[m]? = some o := by
  show ((((w.setCell ⟨n, 1, none⟩ x1).setCell ⟨n, 2, none⟩ x2).setCell ⟨n, 3, none⟩ x3).setCell ⟨n, 4, none⟩ x4).heap[m]? = _
  rw [heap_setCell_other _ _ _ _ hne, heap_setCell_other _ _ _ _ hne, heap_setCell_other _ _ _ _ hne, heap_setCell_other _ _ _ _ hne, h]
theorem results_rt {fn : Func} {p u : Tmp} {ty : TypeId} {P : Program} (h : fn.results = #[.cell p ty, .tmp u]) (tmps : Array Value) (w : World) (g : Nat) (cs : Array Value)
    (hp : tmps.getD p undef = .pointer (some ⟨g, 0, none⟩)) (hl : (loadVar ty ⟨g, 0, none⟩).run P w = .ok (.agg cs) w) :
    (results fn tmps).run P w = .ok (.tuple #[.agg cs, tmps.getD u undef]) w := by
  rw [results_cell_tmp h, hp]
  have e : (asAddr (.pointer (some ⟨g, 0, none⟩))).run P w = .ok ⟨g, 0, none⟩ w := rfl
  rw [e]
  simp only [Result.andThen_ok, hl]
set_option maxRecDepth 100000 in
set_option maxHeartbeats 4000000 in
theorem parse_err (l a r T : Bs) (op n1 n2 n3 n4 : Int) (aq rl t b1 b2 b3 b4 : Bool)
    (HC : Hid (∀ w, Lw w → Calls Tryd.prog 19 #[.string ⟨l.toArray⟩, .string ⟨([32] : Bs).toArray⟩] w fun e w' => e = .returned (.tuple #[.string ⟨a.toArray⟩, .string ⟨r.toArray⟩, .bool t]) ∧ Nb w w'))
    (HN : Hid (∀ w, Lx w → Calls Tryd.prog 20 #[.string ⟨a.toArray⟩] w fun e w' => e = .returned (.agg #[.int .i64 op, .int .i64 0, .int .i64 0, .int .i64 0, .int .i64 0, .bool aq, .bool rl]) ∧ Nb w w'))
    (HO : Hid (∀ w, Cod w → Calls Tryd.prog 22 #[.int .i64 op] w fun e w' => e = .returned (.agg #[.bool b1, .bool b2, .bool b3, .bool b4]) ∧ Nb w w'))
    (HM : Hid (∀ w, Lw w → Calls Tryd.prog 21 #[.string ⟨r.toArray⟩, .agg #[.bool b1, .bool b2, .bool b3, .bool b4]] w fun e w' => e = .returned (.agg #[.int .i64 n1, .int .i64 n2, .int .i64 n3, .int .i64 n4]) ∧ Nb w w'))
    (HG : Hid (∀ w, Cod w → Calls Tryd.prog 23 #[.agg #[.int .i64 op, .int .i64 n1, .int .i64 n2, .int .i64 n3, .int .i64 n4, .bool aq, .bool rl]] w fun e w' => e = .returned (.bool false) ∧ Nb w w'))
    (w : World) (hL : Lx w) :
    Calls Tryd.prog 11 #[.string ⟨l.toArray⟩] w fun e w' => e = .returned (.tuple #[.agg #[.int .i64 0, .int .i64 0, .int .i64 0, .int .i64 0, .int .i64 0, .bool false, .bool false], .int .i64 30]) ∧ Nb w w' := by
  go_enter Tryd.func11, Tryd.ntmps11
  go_wp2_with fail
  obtain ⟨W1, h1⟩ : ∃ W1, w.alloc (Obj.cells #[.int .i64 0, .int .i64 0, .int .i64 0, .int .i64 0, .int .i64 0, .bool false, .bool false] 33) = W1 := ⟨_, rfl⟩
  have k1 := blk_made w _ h1 rfl
  have z1 : W1.heap.size = w.heap.size + 1 := by rw [← h1]; exact Array.size_push _
  have m1 : Nb w W1 := by rw [← h1]; exact (Nb.refl _).alloc _
  rw [h1]
  clear h1
  refine (HC.out _ (hL.of_nb m1).1).mono ?_
  rintro e w2 ⟨rfl, hn⟩
  have q2 := m1.trans hn
  replace k1 := hn.block k1
  have z2 := hn.size
  rw [z1] at z2
  clear hn m1 z1
  go_wp2_with fail
  refine (HN.out _ (hL.of_nb q2)).mono ?_
  rintro e w3 ⟨rfl, hn⟩
  have q3 := q2.trans hn
  have z3 := Nat.le_trans z2 hn.size
  replace k1 := hn.block k1
  clear hn q2 z2
  go_wp2_with fail
  obtain ⟨W4, h1⟩ : ∃ W4, w3.alloc (Obj.cells #[.int .i64 op, .int .i64 0, .int .i64 0, .int .i64 0, .int .i64 0, .bool aq, .bool rl] 33) = W4 := ⟨_, rfl⟩
  have k2 := blk_made w3 _ h1 rfl
  have hn : Nb w3 W4 := by rw [← h1]; exact (Nb.refl _).alloc _
  have q4 := q3.trans hn
  replace k1 := hn.block k1
  rw [h1]
  clear h1 hn
  refine (HO.out _ (hL.of_nb q4).1.cod).mono ?_
  rintro e w5 ⟨rfl, hn⟩
  have q5 := q4.trans hn
  replace k1 := hn.block k1
  replace k2 := hn.block k2
  clear hn q4
  go_wp2_with fail
  refine (HM.out _ (hL.of_nb q5).1).mono ?_
  rintro e w6 ⟨rfl, hn⟩
  have q6 := q5.trans hn
  replace k1 := hn.block k1
  replace k2 := hn.block k2
  clear hn q5
  go_upto_region 4 with (fail)
  obtain ⟨W7, h1⟩ : ∃ W7, w6.alloc (Obj.cells #[.int .i64 n1, .int .i64 n2, .int .i64 n3, .int .i64 n4] 55) = W7 := ⟨_, rfl⟩
  have k3 := blk_made w6 _ h1 rfl
  have hn : Nb w6 W7 := by rw [← h1]; exact (Nb.refl _).alloc _
  have q7 := q6.trans hn
  have hne := lt_of_block k2
  replace k1 := hn.block k1
  replace k2 := hn.block k2
  rw [h1]
  clear h1 hn
  obtain ⟨z, c0, c1, c2, c3, c4, c5, c6⟩ := cells7 k2
  obtain ⟨f0, f1, f2, f3, f4, f5, f6⟩ := marks7 k2
  obtain ⟨y, d0, d1, d2, d3⟩ := cells4 k3
  go_region
  obtain ⟨W8, hW⟩ : ∃ W8, ((((W7.setCell ⟨w3.heap.size, 1, none⟩ (.int .i64 n1)).setCell ⟨w3.heap.size, 2, none⟩ (.int .i64 n2)).setCell ⟨w3.heap.size, 3, none⟩ (.int .i64 n3)).setCell ⟨w3.heap.size, 4, none⟩ (.int .i64 n4)).drew = W8 := ⟨_, rfl⟩
  have q8 : Nb w W8 := by rw [← hW]; exact ((((q7.setCell q3.size _).setCell q3.size _).setCell q3.size _).setCell q3.size _).drew
  have hlt : w.heap.size ≠ w3.heap.size := by omega
  replace k1 : W8.heap[w.heap.size]? = some (.cells #[.int .i64 0, .int .i64 0, .int .i64 0, .int .i64 0, .int .i64 0, .bool false, .bool false] 33 (0, 0)) := by rw [← hW]; exact far4 hlt k1
  replace k2 : W8.heap[w3.heap.size]? = some (.cells #[.int .i64 op, .int .i64 n1, .int .i64 n2, .int .i64 n3, .int .i64 n4, .bool aq, .bool rl] 33 (0, 0)) := by rw [← hW]; exact mid4 k2
  rw [hW]
  clear hW z c0 c1 c2 c3 c4 c5 c6 f0 f1 f2 f3 f4 f5 f6 y d0 d1 d2 d3 k3 hne q7 q6
  obtain ⟨z, c0, c1, c2, c3, c4, c5, c6⟩ := cells7 k2
  go_wp2_with fail
  refine (HG.out _ (hL.of_nb q8).1.cod).mono ?_
  rintro e w9 ⟨rfl, hn⟩
  have q9 := q8.trans hn
  replace k1 := hn.block k1
  replace k2 := hn.block k2
  clear hn z c0 c1 c2 c3 c4 c5 c6
  obtain ⟨z, c0, c1, c2, c3, c4, c5, c6⟩ := cells7 k2
  obtain ⟨z', d0, d1, d2, d3, d4, d5, d6⟩ := cells7 k1
  obtain ⟨f0, f1, f2, f3, f4, f5, f6⟩ := marks7 k1
  go_wp2_with fail
  obtain ⟨W3, hW⟩ : ∃ W3, ((((((w9.setCell ⟨w.heap.size, 0, none⟩ (.int .i64 0)).setCell ⟨w.heap.size, 1, none⟩ (.int .i64 0)).setCell ⟨w.heap.size, 2, none⟩ (.int .i64 0)).setCell ⟨w.heap.size, 3, none⟩ (.int .i64 0)).setCell ⟨w.heap.size, 4, none⟩ (.int .i64 0)).setCell ⟨w.heap.size, 5, none⟩ (.bool false)).setCell ⟨w.heap.size, 6, none⟩ (.bool false) = W3 := ⟨_, rfl⟩
  have hb3 : W3.heap[w.heap.size]? = some (.cells #[.int .i64 0, .int .i64 0, .int .i64 0, .int .i64 0, .int .i64 0, .bool false, .bool false] 33 (0, 0)) := by rw [← hW]; exact set7a k1
  have h4 : Nb w W3 := by rw [← hW]; exact ((((((q9.setCell (Nat.le_refl _) _).setCell (Nat.le_refl _) _).setCell (Nat.le_refl _) _).setCell (Nat.le_refl _) _).setCell (Nat.le_refl _) _).setCell (Nat.le_refl _) _).setCell (Nat.le_refl _) _
  rw [hW]
  refine bodyPost_ret (results_rt rfl _ _ w.heap.size _ rfl (run_loadVar_row _ _ _ _ _ _ _ hb3 Tryd.underlying33 rfl (by kernel_rfl))) rfl ?_
  exact ⟨rfl, h4⟩
set_option maxRecDepth 100000 in
set_option maxHeartbeats 4000000 in
theorem parse_errT (l a r T : Bs) (op n1 n2 n3 n4 : Int) (aq rl t b1 b2 b3 b4 : Bool)
    (HC : Hid (∀ w, Lw w → Calls Tryd.prog 19 #[.string ⟨l.toArray⟩, .string ⟨([32] : Bs).toArray⟩] w fun e w' => e = .returned (.tuple #[.string ⟨a.toArray⟩, .string ⟨r.toArray⟩, .bool t]) ∧ Nb w w'))
    (HN : Hid (∀ w, Lx w → Calls Tryd.prog 20 #[.string ⟨a.toArray⟩] w fun e w' => e = .returned (.agg #[.int .i64 op, .int .i64 0, .int .i64 0, .int .i64 0, .int .i64 0, .bool aq, .bool rl]) ∧ Nb w w'))
    (HO : Hid (∀ w, Cod w → Calls Tryd.prog 22 #[.int .i64 op] w fun e w' => e = .returned (.agg #[.bool b1, .bool b2, .bool b3, .bool b4]) ∧ Nb w w'))
    (HM : Hid (∀ w, Lw w → Calls Tryd.prog 21 #[.string ⟨r.toArray⟩, .agg #[.bool b1, .bool b2, .bool b3, .bool b4]] w fun e w' => e = .returned (.agg #[.int .i64 n1, .int .i64 n2, .int .i64 n3, .int .i64 n4]) ∧ Nb w w'))
    (HG : Hid (∀ w, Cod w → Calls Tryd.prog 23 #[.agg #[.int .i64 op, .int .i64 n1, .int .i64 n2, .int .i64 n3, .int .i64 n4, .bool aq, .bool rl]] w fun e w' => e = .returned (.bool true) ∧ Nb w w'))
    (HT : Hid (∀ w, Lw w → Calls Tryd.prog 12 #[.agg #[.int .i64 op, .int .i64 n1, .int .i64 n2, .int .i64 n3, .int .i64 n4, .bool aq, .bool rl]] w fun e w' => e = .returned (.string ⟨T.toArray⟩) ∧ Nb w w')) (hT : (T == l) = false)
    (w : World) (hL : Lx w) :
    Calls Tryd.prog 11 #[.string ⟨l.toArray⟩] w fun e w' => e = .returned (.tuple #[.agg #[.int .i64 0, .int .i64 0, .int .i64 0, .int .i64 0, .int .i64 0, .bool false, .bool false], .int .i64 30]) ∧ Nb w w' := by
  go_enter Tryd.func11, Tryd.ntmps11
  go_wp2_with fail
  obtain ⟨W1, h1⟩ : ∃ W1, w.alloc (Obj.cells #[.int .i64 0, .int .i64 0, .int .i64 0, .int .i64 0, .int .i64 0, .bool false, .bool false] 33) = W1 := ⟨_, rfl⟩
  have k1 := blk_made w _ h1 rfl
  have z1 : W1.heap.size = w.heap.size + 1 := by rw [← h1]; exact Array.size_push _
  have m1 : Nb w W1 := by rw [← h1]; exact (Nb.refl _).alloc _
  rw [h1]
  clear h1
  refine (HC.out _ (hL.of_nb m1).1).mono ?_
  rintro e w2 ⟨rfl, hn⟩
  have q2 := m1.trans hn
  replace k1 := hn.block k1
  have z2 := hn.size
  rw [z1] at z2
  clear hn m1 z1
  go_wp2_with fail
  refine (HN.out _ (hL.of_nb q2)).mono ?_
  rintro e w3 ⟨rfl, hn⟩
  have q3 := q2.trans hn
  have z3 := Nat.le_trans z2 hn.size
  replace k1 := hn.block k1
  clear hn q2 z2
  go_wp2_with fail
  obtain ⟨W4, h1⟩ : ∃ W4, w3.alloc (Obj.cells #[.int .i64 op, .int .i64 0, .int .i64 0, .int .i64 0, .int .i64 0, .bool aq, .bool rl] 33) = W4 := ⟨_, rfl⟩
  have k2 := blk_made w3 _ h1 rfl
  have hn : Nb w3 W4 := by rw [← h1]; exact (Nb.refl _).alloc _
  have q4 := q3.trans hn
  replace k1 := hn.block k1
  rw [h1]
  clear h1 hn
  refine (HO.out _ (hL.of_nb q4).1.cod).mono ?_
  rintro e w5 ⟨rfl, hn⟩
  have q5 := q4.trans hn
  replace k1 := hn.block k1
  replace k2 := hn.block k2
  clear hn q4
  go_wp2_with fail
  refine (HM.out _ (hL.of_nb q5).1).mono ?_
  rintro e w6 ⟨rfl, hn⟩
  have q6 := q5.trans hn
  replace k1 := hn.block k1
  replace k2 := hn.block k2
  clear hn q5
  go_upto_region 4 with (fail)
  obtain ⟨W7, h1⟩ : ∃ W7, w6.alloc (Obj.cells #[.int .i64 n1, .int .i64 n2, .int .i64 n3, .int .i64 n4] 55) = W7 := ⟨_, rfl⟩
  have k3 := blk_made w6 _ h1 rfl
  have hn : Nb w6 W7 := by rw [← h1]; exact (Nb.refl _).alloc _
  have q7 := q6.trans hn
  have hne := lt_of_block k2
  replace k1 := hn.block k1
  replace k2 := hn.block k2
  rw [h1]
  clear h1 hn
  obtain ⟨z, c0, c1, c2, c3, c4, c5, c6⟩ := cells7 k2
  obtain ⟨f0, f1, f2, f3, f4, f5, f6⟩ := marks7 k2
  obtain ⟨y, d0, d1, d2, d3⟩ := cells4 k3
  go_region
  obtain ⟨W8, hW⟩ : ∃ W8, ((((W7.setCell ⟨w3.heap.size, 1, none⟩ (.int .i64 n1)).setCell ⟨w3.heap.size, 2, none⟩ (.int .i64 n2)).setCell ⟨w3.heap.size, 3, none⟩ (.int .i64 n3)).setCell ⟨w3.heap.size, 4, none⟩ (.int .i64 n4)).drew = W8 := ⟨_, rfl⟩
  have q8 : Nb w W8 := by rw [← hW]; exact ((((q7.setCell q3.size _).setCell q3.size _).setCell q3.size _).setCell q3.size _).drew
  have hlt : w.heap.size ≠ w3.heap.size := by omega
  replace k1 : W8.heap[w.heap.size]? = some (.cells #[.int .i64 0, .int .i64 0, .int .i64 0, .int .i64 0, .int .i64 0, .bool false, .bool false] 33 (0, 0)) := by rw [← hW]; exact far4 hlt k1
  replace k2 : W8.heap[w3.heap.size]? = some (.cells #[.int .i64 op, .int .i64 n1, .int .i64 n2, .int .i64 n3, .int .i64 n4, .bool aq, .bool rl] 33 (0, 0)) := by rw [← hW]; exact mid4 k2
  rw [hW]
  clear hW z c0 c1 c2 c3 c4 c5 c6 f0 f1 f2 f3 f4 f5 f6 y d0 d1 d2 d3 k3 hne q7 q6
  obtain ⟨z, c0, c1, c2, c3, c4, c5, c6⟩ := cells7 k2
  go_wp2_with fail
  refine (HG.out _ (hL.of_nb q8).1.cod).mono ?_
  rintro e w9 ⟨rfl, hn⟩
  have q9 := q8.trans hn
  replace k1 := hn.block k1
  replace k2 := hn.block k2
  clear hn z c0 c1 c2 c3 c4 c5 c6
  obtain ⟨z, c0, c1, c2, c3, c4, c5, c6⟩ := cells7 k2
  go_wp2_with fail
  refine (HT.out _ (hL.of_nb q9).1).mono ?_
  rintro e w10 ⟨rfl, hn⟩
  have q10 := q9.trans hn
  replace k1 := hn.block k1
  replace k2 := hn.block k2
  clear hn z c0 c1 c2 c3 c4 c5 c6
  obtain ⟨z, c0, c1, c2, c3, c4, c5, c6⟩ := cells7 k2
  obtain ⟨z', d0, d1, d2, d3, d4, d5, d6⟩ := cells7 k1
  obtain ⟨f0, f1, f2, f3, f4, f5, f6⟩ := marks7 k1
  go_wp2_with fail
  obtain ⟨W3, hW⟩ : ∃ W3, ((((((w10.setCell ⟨w.heap.size, 0, none⟩ (.int .i64 0)).setCell ⟨w.heap.size, 1, none⟩ (.int .i64 0)).setCell ⟨w.heap.size, 2, none⟩ (.int .i64 0)).setCell ⟨w.heap.size, 3, none⟩ (.int .i64 0)).setCell ⟨w.heap.size, 4, none⟩ (.int .i64 0)).setCell ⟨w.heap.size, 5, none⟩ (.bool false)).setCell ⟨w.heap.size, 6, none⟩ (.bool false) = W3 := ⟨_, rfl⟩
  have hb3 : W3.heap[w.heap.size]? = some (.cells #[.int .i64 0, .int .i64 0, .int .i64 0, .int .i64 0, .int .i64 0, .bool false, .bool false] 33 (0, 0)) := by rw [← hW]; exact set7a k1
  have h4 : Nb w W3 := by rw [← hW]; exact ((((((q10.setCell (Nat.le_refl _) _).setCell (Nat.le_refl _) _).setCell (Nat.le_refl _) _).setCell (Nat.le_refl _) _).setCell (Nat.le_refl _) _).setCell (Nat.le_refl _) _).setCell (Nat.le_refl _) _
  rw [hW]
  refine bodyPost_ret (results_rt rfl _ _ w.heap.size _ rfl (run_loadVar_row _ _ _ _ _ _ _ hb3 Tryd.underlying33 rfl (by kernel_rfl))) rfl ?_
  exact ⟨rfl, h4⟩
set_option maxRecDepth 100000 in
set_option maxHeartbeats 4000000 in
theorem parse_ok (l a r T : Bs) (op n1 n2 n3 n4 : Int) (aq rl t b1 b2 b3 b4 : Bool)
    (HC : Hid (∀ w, Lw w → Calls Tryd.prog 19 #[.string ⟨l.toArray⟩, .string ⟨([32] : Bs).toArray⟩] w fun e w' => e = .returned (.tuple #[.string ⟨a.toArray⟩, .string ⟨r.toArray⟩, .bool t]) ∧ Nb w w'))
    (HN : Hid (∀ w, Lx w → Calls Tryd.prog 20 #[.string ⟨a.toArray⟩] w fun e w' => e = .returned (.agg #[.int .i64 op, .int .i64 0, .int .i64 0, .int .i64 0, .int .i64 0, .bool aq, .bool rl]) ∧ Nb w w'))
    (HO : Hid (∀ w, Cod w → Calls Tryd.prog 22 #[.int .i64 op] w fun e w' => e = .returned (.agg #[.bool b1, .bool b2, .bool b3, .bool b4]) ∧ Nb w w'))
    (HM : Hid (∀ w, Lw w → Calls Tryd.prog 21 #[.string ⟨r.toArray⟩, .agg #[.bool b1, .bool b2, .bool b3, .bool b4]] w fun e w' => e = .returned (.agg #[.int .i64 n1, .int .i64 n2, .int .i64 n3, .int .i64 n4]) ∧ Nb w w'))
    (HG : Hid (∀ w, Cod w → Calls Tryd.prog 23 #[.agg #[.int .i64 op, .int .i64 n1, .int .i64 n2, .int .i64 n3, .int .i64 n4, .bool aq, .bool rl]] w fun e w' => e = .returned (.bool true) ∧ Nb w w'))
    (HT : Hid (∀ w, Lw w → Calls Tryd.prog 12 #[.agg #[.int .i64 op, .int .i64 n1, .int .i64 n2, .int .i64 n3, .int .i64 n4, .bool aq, .bool rl]] w fun e w' => e = .returned (.string ⟨l.toArray⟩) ∧ Nb w w'))
    (w : World) (hL : Lx w) :
    Calls Tryd.prog 11 #[.string ⟨l.toArray⟩] w fun e w' => e = .returned (.tuple #[.agg #[.int .i64 op, .int .i64 n1, .int .i64 n2, .int .i64 n3, .int .i64 n4, .bool aq, .bool rl], .int .i64 0]) ∧ Nb w w' := by
  go_enter Tryd.func11, Tryd.ntmps11
  go_wp2_with fail
  obtain ⟨W1, h1⟩ : ∃ W1, w.alloc (Obj.cells #[.int .i64 0, .int .i64 0, .int .i64 0, .int .i64 0, .int .i64 0, .bool false, .bool false] 33) = W1 := ⟨_, rfl⟩
  have k1 := blk_made w _ h1 rfl
  have z1 : W1.heap.size = w.heap.size + 1 := by rw [← h1]; exact Array.size_push _
  have m1 : Nb w W1 := by rw [← h1]; exact (Nb.refl _).alloc _
  rw [h1]
  clear h1
  refine (HC.out _ (hL.of_nb m1).1).mono ?_
  rintro e w2 ⟨rfl, hn⟩
  have q2 := m1.trans hn
  replace k1 := hn.block k1
  have z2 := hn.size
  rw [z1] at z2
  clear hn m1 z1
  go_wp2_with fail
  refine (HN.out _ (hL.of_nb q2)).mono ?_
  rintro e w3 ⟨rfl, hn⟩
  have q3 := q2.trans hn
  have z3 := Nat.le_trans z2 hn.size
  replace k1 := hn.block k1
  clear hn q2 z2
  go_wp2_with fail
  obtain ⟨W4, h1⟩ : ∃ W4, w3.alloc (Obj.cells #[.int .i64 op, .int .i64 0, .int .i64 0, .int .i64 0, .int .i64 0, .bool aq, .bool rl] 33) = W4 := ⟨_, rfl⟩
  have k2 := blk_made w3 _ h1 rfl
  have hn : Nb w3 W4 := by rw [← h1]; exact (Nb.refl _).alloc _
  have q4 := q3.trans hn
  replace k1 := hn.block k1
  rw [h1]
  clear h1 hn
  refine (HO.out _ (hL.of_nb q4).1.cod).mono ?_
  rintro e w5 ⟨rfl, hn⟩
  have q5 := q4.trans hn
  replace k1 := hn.block k1
  replace k2 := hn.block k2
  clear hn q4
  go_wp2_with fail
  refine (HM.out _ (hL.of_nb q5).1).mono ?_
  rintro e w6 ⟨rfl, hn⟩
  have q6 := q5.trans hn
  replace k1 := hn.block k1
  replace k2 := hn.block k2
  clear hn q5
  go_upto_region 4 with (fail)
  obtain ⟨W7, h1⟩ : ∃ W7, w6.alloc (Obj.cells #[.int .i64 n1, .int .i64 n2, .int .i64 n3, .int .i64 n4] 55) = W7 := ⟨_, rfl⟩
  have k3 := blk_made w6 _ h1 rfl
  have hn : Nb w6 W7 := by rw [← h1]; exact (Nb.refl _).alloc _
  have q7 := q6.trans hn
  have hne := lt_of_block k2
  replace k1 := hn.block k1
  replace k2 := hn.block k2
  rw [h1]
  clear h1 hn
  obtain ⟨z, c0, c1, c2, c3, c4, c5, c6⟩ := cells7 k2
  obtain ⟨f0, f1, f2, f3, f4, f5, f6⟩ := marks7 k2
  obtain ⟨y, d0, d1, d2, d3⟩ := cells4 k3
  go_region
  obtain ⟨W8, hW⟩ : ∃ W8, ((((W7.setCell ⟨w3.heap.size, 1, none⟩ (.int .i64 n1)).setCell ⟨w3.heap.size, 2, none⟩ (.int .i64 n2)).setCell ⟨w3.heap.size, 3, none⟩ (.int .i64 n3)).setCell ⟨w3.heap.size, 4, none⟩ (.int .i64 n4)).drew = W8 := ⟨_, rfl⟩
  have q8 : Nb w W8 := by rw [← hW]; exact ((((q7.setCell q3.size _).setCell q3.size _).setCell q3.size _).setCell q3.size _).drew
  have hlt : w.heap.size ≠ w3.heap.size := by omega
  replace k1 : W8.heap[w.heap.size]? = some (.cells #[.int .i64 0, .int .i64 0, .int .i64 0, .int .i64 0, .int .i64 0, .bool false, .bool false] 33 (0, 0)) := by rw [← hW]; exact far4 hlt k1
  replace k2 : W8.heap[w3.heap.size]? = some (.cells #[.int .i64 op, .int .i64 n1, .int .i64 n2, .int .i64 n3, .int .i64 n4, .bool aq, .bool rl] 33 (0, 0)) := by rw [← hW]; exact mid4 k2
  rw [hW]
  clear hW z c0 c1 c2 c3 c4 c5 c6 f0 f1 f2 f3 f4 f5 f6 y d0 d1 d2 d3 k3 hne q7 q6
  obtain ⟨z, c0, c1, c2, c3, c4, c5, c6⟩ := cells7 k2
  go_wp2_with fail
  refine (HG.out _ (hL.of_nb q8).1.cod).mono ?_
  rintro e w9 ⟨rfl, hn⟩
  have q9 := q8.trans hn
  replace k1 := hn.block k1
  replace k2 := hn.block k2
  clear hn z c0 c1 c2 c3 c4 c5 c6
  obtain ⟨z, c0, c1, c2, c3, c4, c5, c6⟩ := cells7 k2
  go_wp2_with fail
  refine (HT.out _ (hL.of_nb q9).1).mono ?_
  rintro e w10 ⟨rfl, hn⟩
  have q10 := q9.trans hn
  replace k1 := hn.block k1
  replace k2 := hn.block k2
  clear hn z c0 c1 c2 c3 c4 c5 c6
  obtain ⟨z, c0, c1, c2, c3, c4, c5, c6⟩ := cells7 k2
  obtain ⟨z', d0, d1, d2, d3, d4, d5, d6⟩ := cells7 k1
  obtain ⟨f0, f1, f2, f3, f4, f5, f6⟩ := marks7 k1
  go_wp2_with fail
  obtain ⟨W3, hW⟩ : ∃ W3, ((((((w10.setCell ⟨w.heap.size, 0, none⟩ (.int .i64 op)).setCell ⟨w.heap.size, 1, none⟩ (.int .i64 n1)).setCell ⟨w.heap.size, 2, none⟩ (.int .i64 n2)).setCell ⟨w.heap.size, 3, none⟩ (.int .i64 n3)).setCell ⟨w.heap.size, 4, none⟩ (.int .i64 n4)).setCell ⟨w.heap.size, 5, none⟩ (.bool aq)).setCell ⟨w.heap.size, 6, none⟩ (.bool rl) = W3 := ⟨_, rfl⟩
  have hb3 : W3.heap[w.heap.size]? = some (.cells #[.int .i64 op, .int .i64 n1, .int .i64 n2, .int .i64 n3, .int .i64 n4, .bool aq, .bool rl] 33 (0, 0)) := by rw [← hW]; exact set7a k1
  have h4 : Nb w W3 := by rw [← hW]; exact ((((((q10.setCell (Nat.le_refl _) _).setCell (Nat.le_refl _) _).setCell (Nat.le_refl _) _).setCell (Nat.le_refl _) _).setCell (Nat.le_refl _) _).setCell (Nat.le_refl _) _).setCell (Nat.le_refl _) _
  rw [hW]
  refine bodyPost_ret (results_rt rfl _ _ w.heap.size _ rfl (run_loadVar_row _ _ _ _ _ _ _ hb3 Tryd.underlying33 rfl (by kernel_rfl))) rfl ?_
  exact ⟨rfl, h4⟩
theorem atoiV_in (l : Bs) : -9223372036854775808 ≤ atoiV l ∧ atoiV l < 9223372036854775808 := by
  unfold atoiV Lib.atoiAll
  cases l with
  | nil => exact ⟨by decide, by decide⟩
  | cons c r =>
    simp only []
    split
    · rename_i v hv
      split at hv
      · cases hv
      · cases hv
      · rename_i u hu
        split at hv
        · cases hv
        · rename_i g1
          split at hv
          · cases hv
          · rename_i g2
            injection hv with hv
            subst hv
            by_cases hc : c.toNat = 45
            · simp [hc] at g2 ⊢; omega
            · simp [hc] at g1 ⊢; omega
    · exact ⟨by decide, by decide⟩
    · unfold Lib.atoiSat; split <;> exact ⟨by decide, by decide⟩
theorem num1_in (b : Bool) (s : Bs) : -9223372036854775808 ≤ (num1 b s).1 ∧ (num1 b s).1 < 9223372036854775808 := by
  unfold num1; split
  · exact atoiV_in _
  · exact ⟨(by decide : (-9223372036854775808 : Int) ≤ 0), (by decide : (0 : Int) < 9223372036854775808)⟩
def instA (i : I7) : Value := .agg #[.int .i64 i.1, .int .i64 i.2.1, .int .i64 i.2.2.1, .int .i64 i.2.2.2.1, .int .i64 i.2.2.2.2.1, .bool i.2.2.2.2.2.1, .bool i.2.2.2.2.2.2]
def zero7 : I7 := (0, 0, 0, 0, 0, false, false)
/-- What a line is: its instruction, or none. -/
def PV (l : Bs) : I7 := (PI l).getD zero7
def PE (l : Bs) : Int := if (PI l).isSome = true then 0 else 30
set_option maxHeartbeats 4000000 in
theorem parse_any (l : Bs) (h : l.length ≤ 1000000) (w : World) (hL : Lx w) :
    Calls Tryd.prog 11 #[.string ⟨l.toArray⟩] w fun e w' => e = .returned (.tuple #[instA (PV l), .int .i64 (PE l)]) ∧ Nb w w' := by
  have hc := cut_len l [32]
  have HC := Lib.hid (cut_any l [32] h)
  have HN := Lib.hid (named_any (Lib.cut l [32]).1 (by omega))
  have HO := fun w hC => opsOf (namedL (Lib.cut l [32]).1).1 w hC
  obtain ⟨e1, e2, e3, e4⟩ := has_is (namedL (Lib.cut l [32]).1).1
  rw [e1, e2, e3, e4] at HO
  obtain ⟨f0, f1, -⟩ := row_ok (namedL (Lib.cut l [32]).1).1
  have HM := Lib.hid (nums_any (refRow (namedL (Lib.cut l [32]).1).1).1 f0 f1 (Lib.cut l [32]).2.1 (by omega))
  have hv := num1_in (immT (refRow (namedL (Lib.cut l [32]).1).1).1) (num1 (rs2T (refRow (namedL (Lib.cut l [32]).1).1).1) (num1 (rs1T (refRow (namedL (Lib.cut l [32]).1).1).1) (num1 (rdT (refRow (namedL (Lib.cut l [32]).1).1).1) (Lib.cut l [32]).2.1).2).2).2
  have HG := fun w hC => good_any (candL l).1 (candL l).2.1 (candL l).2.2.1 (candL l).2.2.2.1 (candL l).2.2.2.2.1 (candL l).2.2.2.2.2.1 (candL l).2.2.2.2.2.2 hv.1 hv.2 w hC
  have HT := fun w hL => text_any (candL l).1 (candL l).2.1 (candL l).2.2.1 (candL l).2.2.2.1 (candL l).2.2.2.2.1 (candL l).2.2.2.2.2.1 (candL l).2.2.2.2.2.2 hv.1 hv.2 w hL
  cases hg : GoodI (candL l)
  · have hp : PI l = none := by unfold PI; rw [if_neg]; intro c; rw [hg] at c; exact absurd c.1 (by decide)
    have hg' : GoodB (candL l).1 (candL l).2.1 (candL l).2.2.1 (candL l).2.2.2.1 (candL l).2.2.2.2.1 (candL l).2.2.2.2.2.1 (candL l).2.2.2.2.2.2 = false := hg
    rw [hg'] at HG
    unfold PV PE
    rw [hp]
    exact parse_err l _ _ [] _ _ _ _ _ _ _ _ _ _ _ _ HC HN (Lib.hid HO) HM (Lib.hid HG) w hL
  · have hg' : GoodB (candL l).1 (candL l).2.1 (candL l).2.2.1 (candL l).2.2.2.1 (candL l).2.2.2.2.1 (candL l).2.2.2.2.2.1 (candL l).2.2.2.2.2.2 = true := hg
    rw [hg'] at HG
    have ht : TextV (candL l).1 (candL l).2.1 (candL l).2.2.1 (candL l).2.2.2.1 (candL l).2.2.2.2.1 (candL l).2.2.2.2.2.1 (candL l).2.2.2.2.2.2 = textI (candL l) := if_pos hg'
    rw [ht] at HT
    cases hl : textI (candL l) == l
    · have hp : PI l = none := by unfold PI; rw [if_neg]; intro c; rw [c.2] at hl; simp at hl
      unfold PV PE
      rw [hp]
      exact parse_errT l _ _ _ _ _ _ _ _ _ _ _ _ _ _ _ HC HN (Lib.hid HO) HM (Lib.hid HG) (Lib.hid HT) hl w hL
    · have hl' := eq_of_beq hl
      have hp : PI l = some (candL l) := by unfold PI; rw [if_pos ⟨hg, hl'⟩]
      rw [hl'] at HT
      unfold PV PE
      rw [hp]
      exact parse_ok l _ _ [] _ _ _ _ _ _ _ _ _ _ _ _ HC HN (Lib.hid HO) HM (Lib.hid HG) (Lib.hid HT) w hL
end Go.Proofs.YtmggichckhoomaaDoor
