/-
  Proved here: the walks of an instruction's text, the code's and the reference's. Conditions: the tables hold what their texts lay.
-/
import Derived.Test.YtmggichckhoomaaDoorLg
namespace Go.Proofs.YtmggichckhoomaaDoor
open Go.ChangeShapes Go.WideShapes Go.ChangeAt Go.RowKit
set_option linter.unusedVariables false
theorem set7 {w : World} {n : Nat} {t : TypeId} {c0 c1 c2 c3 c4 c5 c6 x : Value} (h : w.heap[n]? = some (.cells #[c0, c1, c2, c3, c4, c5, c6] t (0, 0))) :
    (w.setCell ⟨n, 0, none⟩ x).heap[n]? = some (.cells #[x, c1, c2, c3, c4, c5, c6] t (0, 0)) := by
  have h1 := heap_setCell_same w n 0 _ _ x h
  simpa using h1
theorem Nb.setCell {a b : World} (h : Nb a b) {p : Addr} (hp : a.heap.size ≤ p.block) (u : Value) : Nb a (b.setCell p u) := Below.setCell h hp u
set_option maxRecDepth 100000 in
set_option maxHeartbeats 1000000 in
theorem mayc (op o rd rs1 rs2 im : Int) (aq rl : Bool) (v0 : -9223372036854775808 ≤ im) (v1 : im < 9223372036854775808) (B : Nat) (w : World) (hC : Cod w) (hB : w.cell? ⟨B, 0, none⟩ = some (.int .i64 op)) :
    Calls Tryd.prog 43 #[.agg #[.int .i64 o, .int .i64 rd, .int .i64 rs1, .int .i64 rs2, .int .i64 im, .bool aq, .bool rl], .pointer (some ⟨B, 0, none⟩)] w fun e w' => e = .returned (.bool (GoodB op rd rs1 rs2 im aq rl)) ∧ Nb w w' := by
  have HG := Lib.hid (good_any op rd rs1 rs2 im aq rl v0 v1)
  have hlt := block_lt_of_cell hB
  go_enter Tryd.func43, Tryd.ntmps43
  go_wp2_with fail
  refine (HG.out _ (hC.of_nb ((Nb.refl _).alloc _))).mono ?_
  rintro e w1 ⟨rfl, hn⟩
  go_wp2_with fail
  go_ret
  exact ⟨rfl, ((Nb.refl _).alloc _).trans hn⟩
theorem set4 {w : World} {n : Nat} {t : TypeId} {a b c d x y z u : Value} (h : w.heap[n]? = some (.cells #[a, b, c, d] t (0, 0))) :
    ((((w.setCell ⟨n, 0, none⟩ x).setCell ⟨n, 1, none⟩ y).setCell ⟨n, 2, none⟩ z).setCell ⟨n, 3, none⟩ u).heap[n]? = some (.cells #[x, y, z, u] t (0, 0)) := by
  have h1 := heap_setCell_same w n 0 _ _ x h
  have h2 := heap_setCell_same _ n 1 _ _ y h1
  have h3 := heap_setCell_same _ n 2 _ _ z h2
  have h4 := heap_setCell_same _ n 3 _ _ u h3
  simpa using h4
theorem cell1 {w : World} {n : Nat} {t : TypeId} {v : Value} (h : w.heap[n]? = some (.cells #[v] t (0, 0))) : w.cell? ⟨n, 0, none⟩ = some v := cell_of_row _ _ 0 _ _ _ h
def Has (op : Int) (k : Nat) : Bool := if k = 0 then rdT (refRow op).1 else if k = 1 then rs1T (refRow op).1 else if k = 2 then rs2T (refRow op).1 else immT (refRow op).1
set_option maxRecDepth 100000 in
set_option maxHeartbeats 1000000 in
theorem opsOf (op : Int) (w : World) (hC : Cod w) :
    Calls Tryd.prog 22 #[.int .i64 op] w fun e w' => e = .returned (.agg #[.bool (GoodB op 1 0 0 0 false false), .bool (GoodB op 0 1 0 0 false false), .bool (GoodB op 0 0 1 0 false false), .bool (GoodB op 0 0 0 2 false false || GoodB op 0 0 0 4096 false false)]) ∧ Nb w w' := by
  have M1 := fun B => Lib.hid (mayc op 0 1 0 0 0 false false (by decide) (by decide) B)
  have M2 := fun B => Lib.hid (mayc op 0 0 1 0 0 false false (by decide) (by decide) B)
  have M3 := fun B => Lib.hid (mayc op 0 0 0 1 0 false false (by decide) (by decide) B)
  have M4 := fun B => Lib.hid (mayc op 0 0 0 0 2 false false (by decide) (by decide) B)
  have M5 := fun B => Lib.hid (mayc op 0 0 0 0 4096 false false (by decide) (by decide) B)
  generalize GoodB op 1 0 0 0 false false = b1 at *
  generalize GoodB op 0 1 0 0 false false = b2 at *
  generalize GoodB op 0 0 1 0 false false = b3 at *
  generalize GoodB op 0 0 0 2 false false = b4 at *
  generalize GoodB op 0 0 0 4096 false false = b5 at *
  go_enter Tryd.func22, Tryd.ntmps22
  go_wp2_with fail
  obtain ⟨W1, h1⟩ : ∃ W1, w.alloc (Obj.cells #[.int .i64 op] 3) = W1 := ⟨_, rfl⟩
  have k1 := blk_made w _ h1 rfl
  have z1 : W1.heap.size = w.heap.size + 1 := by rw [← h1]; exact Array.size_push _
  obtain ⟨W2, h2⟩ : ∃ W2, W1.alloc (Obj.cells #[.bool false, .bool false, .bool false, .bool false] 57) = W2 := ⟨_, rfl⟩
  have k2 := blk_made W1 _ h2 z1
  have m1 : Nb w W1 := by rw [← h1]; exact (Nb.refl _).alloc _
  have m2 : Nb W1 W2 := by rw [← h2]; exact (Nb.refl _).alloc _
  have n0 := m1.trans m2
  have k1' := (cell1 (m2.block k1))
  rw [h1, h2]
  clear h1 h2 m1 m2 z1
  have q0 := Nb.refl W2
  refine ((M1 _).out _ (hC.of_nb (n0.trans q0)) (q0.cell k1')).mono ?_
  rintro e w1 ⟨rfl, hn⟩
  have q1 := q0.trans hn
  clear hn
  go_wp2_with fail
  refine ((M2 _).out _ (hC.of_nb (n0.trans q1)) (q1.cell k1')).mono ?_
  rintro e w2 ⟨rfl, hn⟩
  have q2 := q1.trans hn
  clear hn
  go_wp2_with fail
  refine ((M3 _).out _ (hC.of_nb (n0.trans q2)) (q2.cell k1')).mono ?_
  rintro e w3 ⟨rfl, hn⟩
  have q3 := q2.trans hn
  clear hn
  go_wp2_with fail
  refine ((M4 _).out _ (hC.of_nb (n0.trans q3)) (q3.cell k1')).mono ?_
  rintro e w4 ⟨rfl, hn⟩
  have q4 := q3.trans hn
  clear hn
  cases b4
  · go_wp2_with fail
    refine ((M5 _).out _ (hC.of_nb (n0.trans q4)) (q4.cell k1')).mono ?_
    rintro e w5 ⟨rfl, hn⟩
    have q5 := q4.trans hn
    clear hn
    obtain ⟨z, d0, d1, d2, d3⟩ := cells4 (q5.block k2)
    obtain ⟨f0, f1, f2, f3⟩ := marks4 (q5.block k2)
    go_wp2_with fail
    obtain ⟨W3, hW⟩ : ∃ W3, (((w5.setCell ⟨w.heap.size + 1, 0, none⟩ (.bool b1)).setCell ⟨w.heap.size + 1, 1, none⟩ (.bool b2)).setCell ⟨w.heap.size + 1, 2, none⟩ (.bool b3)).setCell ⟨w.heap.size + 1, 3, none⟩ (.bool b5) = W3 := ⟨_, rfl⟩
    have hb3 : W3.heap[w.heap.size + 1]? = some (.cells #[.bool b1, .bool b2, .bool b3, .bool b5] 57 (0, 0)) := by rw [← hW]; exact set4 (q5.block k2)
    have h4 : Nb w W3 := by rw [← hW]; exact ((((n0.trans q5).setCell (Nat.le_succ _) _).setCell (Nat.le_succ _) _).setCell (Nat.le_succ _) _).setCell (Nat.le_succ _) _
    rw [hW]
    clear hW z d0 d1 d2 d3 f0 f1 f2 f3
    refine bodyPost_ret (results_cell_row rfl _ _ (w.heap.size + 1) _ _ _ _ rfl hb3 Tryd.underlying57 rfl (by kernel_rfl)) rfl ?_
    exact ⟨rfl, h4⟩
  · obtain ⟨z, d0, d1, d2, d3⟩ := cells4 (q4.block k2)
    obtain ⟨f0, f1, f2, f3⟩ := marks4 (q4.block k2)
    go_wp2_with fail
    obtain ⟨W3, hW⟩ : ∃ W3, (((w4.setCell ⟨w.heap.size + 1, 0, none⟩ (.bool b1)).setCell ⟨w.heap.size + 1, 1, none⟩ (.bool b2)).setCell ⟨w.heap.size + 1, 2, none⟩ (.bool b3)).setCell ⟨w.heap.size + 1, 3, none⟩ (.bool true) = W3 := ⟨_, rfl⟩
    have hb3 : W3.heap[w.heap.size + 1]? = some (.cells #[.bool b1, .bool b2, .bool b3, .bool true] 57 (0, 0)) := by rw [← hW]; exact set4 (q4.block k2)
    have h4 : Nb w W3 := by rw [← hW]; exact ((((n0.trans q4).setCell (Nat.le_succ _) _).setCell (Nat.le_succ _) _).setCell (Nat.le_succ _) _).setCell (Nat.le_succ _) _
    rw [hW]
    clear hW z d0 d1 d2 d3 f0 f1 f2 f3
    refine bodyPost_ret (results_cell_row rfl _ _ (w.heap.size + 1) _ _ _ _ rfl hb3 Tryd.underlying57 rfl (by kernel_rfl)) rfl ?_
    exact ⟨rfl, h4⟩
end Go.Proofs.YtmggichckhoomaaDoor
