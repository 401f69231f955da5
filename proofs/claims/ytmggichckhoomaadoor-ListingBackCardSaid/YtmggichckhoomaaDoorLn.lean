/-
  Proved here: the operation of a name, the code's. Conditions: the tables hold what their texts lay.
-/
import Derived.Test.YtmggichckhoomaaDoorLj
namespace Go.Proofs.YtmggichckhoomaaDoor
open Go.ChangeShapes Go.WideShapes Go.ChangeAt Go.RowKit
set_option linter.unusedVariables false
set_option linter.unusedSimpArgs false
def nmRow : Array Value := (nmTab.map fun l => Value.string ⟨l.toArray⟩).toArray
theorem nmRow_at (k : Nat) (h : k < 88) : nmRow[k]? = some (.string ⟨(nmTab.getD k []).toArray⟩) := by
  have hl : k < nmTab.length := h
  unfold nmRow
  rw [List.getElem?_toArray, List.getElem?_map, List.getD_eq_getElem?_getD, List.getElem?_eq_getElem hl]
  rfl
/-- What the laws on texts ask of a world, with the row of names. -/
def Lx (w : World) : Prop := Lw w ∧ ∃ t fr, w.heap[0]? = some (.cells nmRow t fr)
theorem Lx.of_nb {a b : World} (h : Lx a) (k : Nb a b) : Lx b := by
  obtain ⟨h1, t, fr, h2⟩ := h
  exact ⟨h1.of_nb k, t, fr, k.block h2⟩
theorem load_names {w : World} (h : Lx w) : (loadVar 73 ⟨0, 0, none⟩).run Tryd.prog w = .ok (.agg nmRow) w := by
  obtain ⟨h1, t, fr, h2⟩ := h
  exact run_loadVar_row w _ t _ nmRow fr _ h2 Tryd.underlying73 rfl (by kernel_rfl)
theorem index_T (T : Array Value) (k : Nat) (hk : k < 88) (s : ByteArray) (h : T[k]? = some (.string s)) (W : World) : (Instr.index 73 (.agg T) (.int .i64 k)).run Tryd.prog W = .ok (.string s) W := by
  have hk' : (0:Int) ≤ (k : Int) ∧ (k:Int) < 88 := by omega
  have hs : (sizeOf 9).run Tryd.prog W = .ok 1 W := by kernel_rfl
  simp [Instr.index, run_underlying Tryd.underlying73, asIntOf, hk', go_sem, hs]
  rw [if_pos hk, h]
  rfl
theorem look_yes {n : Bs} {k : Nat} (h : (nmTab[k]?.getD [] == n) = true) : lookL n (k + 1) = k := by
  unfold lookL; rw [List.getD_eq_getElem?_getD, if_pos (eq_of_beq h)]
theorem look_no {n : Bs} {k : Nat} (h : (nmTab[k]?.getD [] == n) = false) : lookL n (k + 1) = lookL n k := by
  rw [lookL, List.getD_eq_getElem?_getD, if_neg (ne_of_beq_false h)]
theorem set7a {w : World} {n : Nat} {t : TypeId} {c0 c1 c2 c3 c4 c5 c6 x0 x1 x2 x3 x4 x5 x6 : Value} (h : w.heap[n]? = some (.cells #[c0, c1, c2, c3, c4, c5, c6] t (0, 0))) :
    (((((((w.setCell ⟨n, 0, none⟩ x0).setCell ⟨n, 1, none⟩ x1).setCell ⟨n, 2, none⟩ x2).setCell ⟨n, 3, none⟩ x3).setCell ⟨n, 4, none⟩ x4).setCell ⟨n, 5, none⟩ x5).setCell ⟨n, 6, none⟩ x6).heap[n]? = some (.cells #[x0, x1, x2, x3, x4, x5, x6] t (0, 0)) := by
  have h1 := heap_setCell_same w n 0 _ _ x0 h
  have h2 := heap_setCell_same _ n 1 _ _ x1 h1
  have h3 := heap_setCell_same _ n 2 _ _ x2 h2
  have h4 := heap_setCell_same _ n 3 _ _ x3 h3
  have h5 := heap_setCell_same _ n 4 _ _ x4 h4
  have h6 := heap_setCell_same _ n 5 _ _ x5 h5
  have h7 := heap_setCell_same _ n 6 _ _ x6 h6
  simpa using h7
theorem suf_q (l p : Bs) (h : l.length ≤ 1000000) (w : World) : Calls Tryd.prog 39 #[.string ⟨l.toArray⟩, .string ⟨p.toArray⟩] w fun e w' => e = .returned (.bool (Lib.hasSuffix l p)) ∧ w = w' :=
  (Tryd.strings_HasSuffix ⟨l.toArray⟩ ⟨p.toArray⟩ w (by show l.toArray.size ≤ _; simp; omega)).mono fun _ _ h => ⟨h.1, h.2.symm⟩
theorem trs_q (l p : Bs) (h : l.length ≤ 1000000) (w : World) : Calls Tryd.prog 40 #[.string ⟨l.toArray⟩, .string ⟨p.toArray⟩] w fun e w' => e = .returned (.string ⟨(Lib.trimSuffix l p).toArray⟩) ∧ w = w' :=
  (Tryd.strings_TrimSuffix ⟨l.toArray⟩ ⟨p.toArray⟩ w (by show l.toArray.size ≤ _; simp; omega)).mono fun _ _ h => ⟨h.1, h.2.symm⟩
theorem trp_q (l p : Bs) (w : World) : Calls Tryd.prog 42 #[.string ⟨l.toArray⟩, .string ⟨p.toArray⟩] w fun e w' => e = .returned (.string ⟨(Lib.trimPrefix l p).toArray⟩) ∧ w = w' :=
  (Tryd.strings_TrimPrefix ⟨l.toArray⟩ ⟨p.toArray⟩ w).mono fun _ _ h => ⟨h.1, h.2.symm⟩
set_option maxRecDepth 100000 in
set_option maxHeartbeats 4000000 in
theorem named_0 (l n : Bs)
    (H0 : Hid (∀ w, Calls Tryd.prog 39 #[.string ⟨l.toArray⟩, .string ⟨([46, 97, 113, 114, 108] : Bs).toArray⟩] w fun e w' => e = .returned (.bool true) ∧ w = w'))
    (HT : Hid (∀ w, Calls Tryd.prog 40 #[.string ⟨l.toArray⟩, .string ⟨([46, 97, 113, 114, 108] : Bs).toArray⟩] w fun e w' => e = .returned (.string ⟨n.toArray⟩) ∧ w = w'))
    (w : World) (hL : Lx w) :
    Calls Tryd.prog 20 #[.string ⟨l.toArray⟩] w fun e w' => e = .returned (.agg #[.int .i64 (lookL n 88), .int .i64 0, .int .i64 0, .int .i64 0, .int .i64 0, .bool true, .bool true]) ∧ Nb w w' := by
  go_enter Tryd.func20, Tryd.ntmps20
  go_wp2_with fail
  refine (H0.out _).mono ?_
  rintro e w' ⟨rfl, rfl⟩
  go_wp2_with fail
  refine (HT.out _).mono ?_
  rintro e w' ⟨rfl, rfl⟩
  go_upto_region 8 with (fail)
  obtain ⟨W1, h1⟩ : ∃ W1, w.alloc (Obj.cells #[.int .i64 0, .int .i64 0, .int .i64 0, .int .i64 0, .int .i64 0, .bool false, .bool false] 33) = W1 := ⟨_, rfl⟩
  have k1 := blk_made w _ h1 rfl
  have z1 : W1.heap.size = w.heap.size + 1 := by rw [← h1]; exact Array.size_push _
  obtain ⟨W2, h2⟩ : ∃ W2, W1.alloc (Obj.cells #[.int .i64 0, .int .i64 0, .int .i64 0, .int .i64 0, .int .i64 0, .bool true, .bool true] 33) = W2 := ⟨_, rfl⟩
  have k2 := blk_made W1 _ h2 z1
  have m1 : Nb w W1 := by rw [← h1]; exact (Nb.refl _).alloc _
  have m2 : Nb W1 W2 := by rw [← h2]; exact (Nb.refl _).alloc _
  have n2 := m1.trans m2
  replace k1 := m2.block k1
  rw [h1, h2]
  clear h1 h2 m1 m2 z1
  obtain ⟨-, t, fr, hx⟩ := hL.of_nb n2
  have hT : ∀ k : Nat, k < 88 → nmRow[k]? = some (.string ⟨(nmTab.getD k []).toArray⟩) := nmRow_at
  have hz : nmRow.size = 88 := by kernel_rfl
  generalize nmRow = T at *
  apply wp_region_list
  refine wpList_load_row rfl 73 _ rfl 0 rfl t T fr _ hx Tryd.underlying73 rfl (by rw [hz]; kernel_rfl) ?_
  clear hx
  go_wp2_with fail
  go_loopw [26] (fun i wr => ∃ k : Nat, k ≤ 88 ∧ i = .int .i64 k ∧ wr.heap[w.heap.size + 1]? = some (.cells #[.int .i64 (lookL n k), .int .i64 0, .int .i64 0, .int .i64 0, .int .i64 0, .bool true, .bool true] 33 (0, 0))
      ∧ wr.heap[w.heap.size]? = some (.cells #[.int .i64 0, .int .i64 0, .int .i64 0, .int .i64 0, .int .i64 0, .bool false, .bool false] 33 (0, 0)) ∧ Nb w wr) (fun i _ => 88 - (intOf i).toNat)
  case atStart => exact ⟨0, Nat.zero_le _, rfl, k2, k1, n2⟩
  case round =>
    obtain ⟨k, hk, rfl, c2, c1, hN⟩ := hrel
    obtain ⟨z, d0, d1, d2, d3, d4, d5, d6⟩ := cells7 c2
    obtain ⟨f0, f1, f2, f3, f4, f5, f6⟩ := marks7 c2
    by_cases hlt : k < 88
    · have hI := index_T T k hlt _ (hT k hlt)
      clear hT hk
      go_wp2_with fail
      · rename_i he
        exact ⟨⟨k + 1, hlt, rfl, by rw [look_yes he]; exact set7 c2, (heap_setCell_other _ _ _ _ (Nat.ne_of_lt (Nat.lt_succ_self _))).trans c1, hN.setCell (Nat.le_succ _) _⟩, by simp [intOf]; omega⟩
      · rename_i he
        exact ⟨⟨k + 1, hlt, rfl, by rw [look_no he]; exact c2, c1, hN⟩, by simp [intOf]; omega⟩
    · have hkk : k = 88 := by omega
      subst hkk
      obtain ⟨z', d0', d1', d2', d3', d4', d5', d6'⟩ := cells7 c1
      obtain ⟨f0', f1', f2', f3', f4', f5', f6'⟩ := marks7 c1
      clear hT hk hlt
      go_wp2_with fail
      obtain ⟨W3, hW⟩ : ∃ W3, ((((((wr.setCell ⟨w.heap.size, 0, none⟩ (.int .i64 (lookL n 88))).setCell ⟨w.heap.size, 1, none⟩ (.int .i64 0)).setCell ⟨w.heap.size, 2, none⟩ (.int .i64 0)).setCell ⟨w.heap.size, 3, none⟩ (.int .i64 0)).setCell ⟨w.heap.size, 4, none⟩ (.int .i64 0)).setCell ⟨w.heap.size, 5, none⟩ (.bool true)).setCell ⟨w.heap.size, 6, none⟩ (.bool true) = W3 := ⟨_, rfl⟩
      have hb3 : W3.heap[w.heap.size]? = some (.cells #[.int .i64 (lookL n 88), .int .i64 0, .int .i64 0, .int .i64 0, .int .i64 0, .bool true, .bool true] 33 (0, 0)) := by rw [← hW]; exact set7a c1
      have h4 : Nb w W3 := by rw [← hW]; exact ((((((hN.setCell (Nat.le_refl _) _).setCell (Nat.le_refl _) _).setCell (Nat.le_refl _) _).setCell (Nat.le_refl _) _).setCell (Nat.le_refl _) _).setCell (Nat.le_refl _) _).setCell (Nat.le_refl _) _
      rw [hW]
      refine bodyPost_ret (results_cell_row rfl _ _ w.heap.size _ _ _ _ rfl hb3 Tryd.underlying33 rfl (by kernel_rfl)) rfl ?_
      exact ⟨rfl, h4⟩
set_option maxRecDepth 100000 in
set_option maxHeartbeats 4000000 in
theorem named_1 (l n : Bs)
    (H0 : Hid (∀ w, Calls Tryd.prog 39 #[.string ⟨l.toArray⟩, .string ⟨([46, 97, 113, 114, 108] : Bs).toArray⟩] w fun e w' => e = .returned (.bool false) ∧ w = w'))
    (H1 : Hid (∀ w, Calls Tryd.prog 39 #[.string ⟨l.toArray⟩, .string ⟨([46, 97, 113] : Bs).toArray⟩] w fun e w' => e = .returned (.bool true) ∧ w = w'))
    (HT : Hid (∀ w, Calls Tryd.prog 40 #[.string ⟨l.toArray⟩, .string ⟨([46, 97, 113] : Bs).toArray⟩] w fun e w' => e = .returned (.string ⟨n.toArray⟩) ∧ w = w'))
    (w : World) (hL : Lx w) :
    Calls Tryd.prog 20 #[.string ⟨l.toArray⟩] w fun e w' => e = .returned (.agg #[.int .i64 (lookL n 88), .int .i64 0, .int .i64 0, .int .i64 0, .int .i64 0, .bool true, .bool false]) ∧ Nb w w' := by
  go_enter Tryd.func20, Tryd.ntmps20
  go_wp2_with fail
  refine (H0.out _).mono ?_
  rintro e w' ⟨rfl, rfl⟩
  go_wp2_with fail
  refine (H1.out _).mono ?_
  rintro e w' ⟨rfl, rfl⟩
  go_wp2_with fail
  refine (HT.out _).mono ?_
  rintro e w' ⟨rfl, rfl⟩
  go_upto_region 8 with (fail)
  obtain ⟨W1, h1⟩ : ∃ W1, w.alloc (Obj.cells #[.int .i64 0, .int .i64 0, .int .i64 0, .int .i64 0, .int .i64 0, .bool false, .bool false] 33) = W1 := ⟨_, rfl⟩
  have k1 := blk_made w _ h1 rfl
  have z1 : W1.heap.size = w.heap.size + 1 := by rw [← h1]; exact Array.size_push _
  obtain ⟨W2, h2⟩ : ∃ W2, W1.alloc (Obj.cells #[.int .i64 0, .int .i64 0, .int .i64 0, .int .i64 0, .int .i64 0, .bool true, .bool false] 33) = W2 := ⟨_, rfl⟩
  have k2 := blk_made W1 _ h2 z1
  have m1 : Nb w W1 := by rw [← h1]; exact (Nb.refl _).alloc _
  have m2 : Nb W1 W2 := by rw [← h2]; exact (Nb.refl _).alloc _
  have n2 := m1.trans m2
  replace k1 := m2.block k1
  rw [h1, h2]
  clear h1 h2 m1 m2 z1
  obtain ⟨-, t, fr, hx⟩ := hL.of_nb n2
  have hT : ∀ k : Nat, k < 88 → nmRow[k]? = some (.string ⟨(nmTab.getD k []).toArray⟩) := nmRow_at
  have hz : nmRow.size = 88 := by kernel_rfl
  generalize nmRow = T at *
  apply wp_region_list
  refine wpList_load_row rfl 73 _ rfl 0 rfl t T fr _ hx Tryd.underlying73 rfl (by rw [hz]; kernel_rfl) ?_
  clear hx
  go_wp2_with fail
  go_loopw [26] (fun i wr => ∃ k : Nat, k ≤ 88 ∧ i = .int .i64 k ∧ wr.heap[w.heap.size + 1]? = some (.cells #[.int .i64 (lookL n k), .int .i64 0, .int .i64 0, .int .i64 0, .int .i64 0, .bool true, .bool false] 33 (0, 0))
      ∧ wr.heap[w.heap.size]? = some (.cells #[.int .i64 0, .int .i64 0, .int .i64 0, .int .i64 0, .int .i64 0, .bool false, .bool false] 33 (0, 0)) ∧ Nb w wr) (fun i _ => 88 - (intOf i).toNat)
  case atStart => exact ⟨0, Nat.zero_le _, rfl, k2, k1, n2⟩
  case round =>
    obtain ⟨k, hk, rfl, c2, c1, hN⟩ := hrel
    obtain ⟨z, d0, d1, d2, d3, d4, d5, d6⟩ := cells7 c2
    obtain ⟨f0, f1, f2, f3, f4, f5, f6⟩ := marks7 c2
    by_cases hlt : k < 88
    · have hI := index_T T k hlt _ (hT k hlt)
      clear hT hk
      go_wp2_with fail
      · rename_i he
        exact ⟨⟨k + 1, hlt, rfl, by rw [look_yes he]; exact set7 c2, (heap_setCell_other _ _ _ _ (Nat.ne_of_lt (Nat.lt_succ_self _))).trans c1, hN.setCell (Nat.le_succ _) _⟩, by simp [intOf]; omega⟩
      · rename_i he
        exact ⟨⟨k + 1, hlt, rfl, by rw [look_no he]; exact c2, c1, hN⟩, by simp [intOf]; omega⟩
    · have hkk : k = 88 := by omega
      subst hkk
      obtain ⟨z', d0', d1', d2', d3', d4', d5', d6'⟩ := cells7 c1
      obtain ⟨f0', f1', f2', f3', f4', f5', f6'⟩ := marks7 c1
      clear hT hk hlt
      go_wp2_with fail
      obtain ⟨W3, hW⟩ : ∃ W3, ((((((wr.setCell ⟨w.heap.size, 0, none⟩ (.int .i64 (lookL n 88))).setCell ⟨w.heap.size, 1, none⟩ (.int .i64 0)).setCell ⟨w.heap.size, 2, none⟩ (.int .i64 0)).setCell ⟨w.heap.size, 3, none⟩ (.int .i64 0)).setCell ⟨w.heap.size, 4, none⟩ (.int .i64 0)).setCell ⟨w.heap.size, 5, none⟩ (.bool true)).setCell ⟨w.heap.size, 6, none⟩ (.bool false) = W3 := ⟨_, rfl⟩
      have hb3 : W3.heap[w.heap.size]? = some (.cells #[.int .i64 (lookL n 88), .int .i64 0, .int .i64 0, .int .i64 0, .int .i64 0, .bool true, .bool false] 33 (0, 0)) := by rw [← hW]; exact set7a c1
      have h4 : Nb w W3 := by rw [← hW]; exact ((((((hN.setCell (Nat.le_refl _) _).setCell (Nat.le_refl _) _).setCell (Nat.le_refl _) _).setCell (Nat.le_refl _) _).setCell (Nat.le_refl _) _).setCell (Nat.le_refl _) _).setCell (Nat.le_refl _) _
      rw [hW]
      refine bodyPost_ret (results_cell_row rfl _ _ w.heap.size _ _ _ _ rfl hb3 Tryd.underlying33 rfl (by kernel_rfl)) rfl ?_
      exact ⟨rfl, h4⟩
set_option maxRecDepth 100000 in
set_option maxHeartbeats 4000000 in
theorem named_2 (l n : Bs)
    (H0 : Hid (∀ w, Calls Tryd.prog 39 #[.string ⟨l.toArray⟩, .string ⟨([46, 97, 113, 114, 108] : Bs).toArray⟩] w fun e w' => e = .returned (.bool false) ∧ w = w'))
    (H1 : Hid (∀ w, Calls Tryd.prog 39 #[.string ⟨l.toArray⟩, .string ⟨([46, 97, 113] : Bs).toArray⟩] w fun e w' => e = .returned (.bool false) ∧ w = w'))
    (H2 : Hid (∀ w, Calls Tryd.prog 39 #[.string ⟨l.toArray⟩, .string ⟨([46, 114, 108] : Bs).toArray⟩] w fun e w' => e = .returned (.bool true) ∧ w = w'))
    (HT : Hid (∀ w, Calls Tryd.prog 40 #[.string ⟨l.toArray⟩, .string ⟨([46, 114, 108] : Bs).toArray⟩] w fun e w' => e = .returned (.string ⟨n.toArray⟩) ∧ w = w'))
    (w : World) (hL : Lx w) :
    Calls Tryd.prog 20 #[.string ⟨l.toArray⟩] w fun e w' => e = .returned (.agg #[.int .i64 (lookL n 88), .int .i64 0, .int .i64 0, .int .i64 0, .int .i64 0, .bool false, .bool true]) ∧ Nb w w' := by
  go_enter Tryd.func20, Tryd.ntmps20
  go_wp2_with fail
  refine (H0.out _).mono ?_
  rintro e w' ⟨rfl, rfl⟩
  go_wp2_with fail
  refine (H1.out _).mono ?_
  rintro e w' ⟨rfl, rfl⟩
  go_wp2_with fail
  refine (H2.out _).mono ?_
  rintro e w' ⟨rfl, rfl⟩
  go_wp2_with fail
  refine (HT.out _).mono ?_
  rintro e w' ⟨rfl, rfl⟩
  go_upto_region 8 with (fail)
  obtain ⟨W1, h1⟩ : ∃ W1, w.alloc (Obj.cells #[.int .i64 0, .int .i64 0, .int .i64 0, .int .i64 0, .int .i64 0, .bool false, .bool false] 33) = W1 := ⟨_, rfl⟩
  have k1 := blk_made w _ h1 rfl
  have z1 : W1.heap.size = w.heap.size + 1 := by rw [← h1]; exact Array.size_push _
  obtain ⟨W2, h2⟩ : ∃ W2, W1.alloc (Obj.cells #[.int .i64 0, .int .i64 0, .int .i64 0, .int .i64 0, .int .i64 0, .bool false, .bool true] 33) = W2 := ⟨_, rfl⟩
  have k2 := blk_made W1 _ h2 z1
  have m1 : Nb w W1 := by rw [← h1]; exact (Nb.refl _).alloc _
  have m2 : Nb W1 W2 := by rw [← h2]; exact (Nb.refl _).alloc _
  have n2 := m1.trans m2
  replace k1 := m2.block k1
  rw [h1, h2]
  clear h1 h2 m1 m2 z1
  obtain ⟨-, t, fr, hx⟩ := hL.of_nb n2
  have hT : ∀ k : Nat, k < 88 → nmRow[k]? = some (.string ⟨(nmTab.getD k []).toArray⟩) := nmRow_at
  have hz : nmRow.size = 88 := by kernel_rfl
  generalize nmRow = T at *
  apply wp_region_list
  refine wpList_load_row rfl 73 _ rfl 0 rfl t T fr _ hx Tryd.underlying73 rfl (by rw [hz]; kernel_rfl) ?_
  clear hx
  go_wp2_with fail
  go_loopw [26] (fun i wr => ∃ k : Nat, k ≤ 88 ∧ i = .int .i64 k ∧ wr.heap[w.heap.size + 1]? = some (.cells #[.int .i64 (lookL n k), .int .i64 0, .int .i64 0, .int .i64 0, .int .i64 0, .bool false, .bool true] 33 (0, 0))
      ∧ wr.heap[w.heap.size]? = some (.cells #[.int .i64 0, .int .i64 0, .int .i64 0, .int .i64 0, .int .i64 0, .bool false, .bool false] 33 (0, 0)) ∧ Nb w wr) (fun i _ => 88 - (intOf i).toNat)
  case atStart => exact ⟨0, Nat.zero_le _, rfl, k2, k1, n2⟩
  case round =>
    obtain ⟨k, hk, rfl, c2, c1, hN⟩ := hrel
    obtain ⟨z, d0, d1, d2, d3, d4, d5, d6⟩ := cells7 c2
    obtain ⟨f0, f1, f2, f3, f4, f5, f6⟩ := marks7 c2
    by_cases hlt : k < 88
    · have hI := index_T T k hlt _ (hT k hlt)
      clear hT hk
      go_wp2_with fail
      · rename_i he
        exact ⟨⟨k + 1, hlt, rfl, by rw [look_yes he]; exact set7 c2, (heap_setCell_other _ _ _ _ (Nat.ne_of_lt (Nat.lt_succ_self _))).trans c1, hN.setCell (Nat.le_succ _) _⟩, by simp [intOf]; omega⟩
      · rename_i he
        exact ⟨⟨k + 1, hlt, rfl, by rw [look_no he]; exact c2, c1, hN⟩, by simp [intOf]; omega⟩
    · have hkk : k = 88 := by omega
      subst hkk
      obtain ⟨z', d0', d1', d2', d3', d4', d5', d6'⟩ := cells7 c1
      obtain ⟨f0', f1', f2', f3', f4', f5', f6'⟩ := marks7 c1
      clear hT hk hlt
      go_wp2_with fail
      obtain ⟨W3, hW⟩ : ∃ W3, ((((((wr.setCell ⟨w.heap.size, 0, none⟩ (.int .i64 (lookL n 88))).setCell ⟨w.heap.size, 1, none⟩ (.int .i64 0)).setCell ⟨w.heap.size, 2, none⟩ (.int .i64 0)).setCell ⟨w.heap.size, 3, none⟩ (.int .i64 0)).setCell ⟨w.heap.size, 4, none⟩ (.int .i64 0)).setCell ⟨w.heap.size, 5, none⟩ (.bool false)).setCell ⟨w.heap.size, 6, none⟩ (.bool true) = W3 := ⟨_, rfl⟩
      have hb3 : W3.heap[w.heap.size]? = some (.cells #[.int .i64 (lookL n 88), .int .i64 0, .int .i64 0, .int .i64 0, .int .i64 0, .bool false, .bool true] 33 (0, 0)) := by rw [← hW]; exact set7a c1
      have h4 : Nb w W3 := by rw [← hW]; exact ((((((hN.setCell (Nat.le_refl _) _).setCell (Nat.le_refl _) _).setCell (Nat.le_refl _) _).setCell (Nat.le_refl _) _).setCell (Nat.le_refl _) _).setCell (Nat.le_refl _) _).setCell (Nat.le_refl _) _
      rw [hW]
      refine bodyPost_ret (results_cell_row rfl _ _ w.heap.size _ _ _ _ rfl hb3 Tryd.underlying33 rfl (by kernel_rfl)) rfl ?_
      exact ⟨rfl, h4⟩
set_option maxRecDepth 100000 in
set_option maxHeartbeats 4000000 in
theorem named_3 (n : Bs)
    (H0 : Hid (∀ w, Calls Tryd.prog 39 #[.string ⟨n.toArray⟩, .string ⟨([46, 97, 113, 114, 108] : Bs).toArray⟩] w fun e w' => e = .returned (.bool false) ∧ w = w'))
    (H1 : Hid (∀ w, Calls Tryd.prog 39 #[.string ⟨n.toArray⟩, .string ⟨([46, 97, 113] : Bs).toArray⟩] w fun e w' => e = .returned (.bool false) ∧ w = w'))
    (H2 : Hid (∀ w, Calls Tryd.prog 39 #[.string ⟨n.toArray⟩, .string ⟨([46, 114, 108] : Bs).toArray⟩] w fun e w' => e = .returned (.bool false) ∧ w = w'))
    (w : World) (hL : Lx w) :
    Calls Tryd.prog 20 #[.string ⟨n.toArray⟩] w fun e w' => e = .returned (.agg #[.int .i64 (lookL n 88), .int .i64 0, .int .i64 0, .int .i64 0, .int .i64 0, .bool false, .bool false]) ∧ Nb w w' := by
  go_enter Tryd.func20, Tryd.ntmps20
  go_wp2_with fail
  refine (H0.out _).mono ?_
  rintro e w' ⟨rfl, rfl⟩
  go_wp2_with fail
  refine (H1.out _).mono ?_
  rintro e w' ⟨rfl, rfl⟩
  go_wp2_with fail
  refine (H2.out _).mono ?_
  rintro e w' ⟨rfl, rfl⟩
  go_upto_region 8 with (fail)
  obtain ⟨W1, h1⟩ : ∃ W1, w.alloc (Obj.cells #[.int .i64 0, .int .i64 0, .int .i64 0, .int .i64 0, .int .i64 0, .bool false, .bool false] 33) = W1 := ⟨_, rfl⟩
  have k1 := blk_made w _ h1 rfl
  have z1 : W1.heap.size = w.heap.size + 1 := by rw [← h1]; exact Array.size_push _
  obtain ⟨W2, h2⟩ : ∃ W2, W1.alloc (Obj.cells #[.int .i64 0, .int .i64 0, .int .i64 0, .int .i64 0, .int .i64 0, .bool false, .bool false] 33) = W2 := ⟨_, rfl⟩
  have k2 := blk_made W1 _ h2 z1
  have m1 : Nb w W1 := by rw [← h1]; exact (Nb.refl _).alloc _
  have m2 : Nb W1 W2 := by rw [← h2]; exact (Nb.refl _).alloc _
  have n2 := m1.trans m2
  replace k1 := m2.block k1
  rw [h1, h2]
  clear h1 h2 m1 m2 z1
  obtain ⟨-, t, fr, hx⟩ := hL.of_nb n2
  have hT : ∀ k : Nat, k < 88 → nmRow[k]? = some (.string ⟨(nmTab.getD k []).toArray⟩) := nmRow_at
  have hz : nmRow.size = 88 := by kernel_rfl
  generalize nmRow = T at *
  apply wp_region_list
  refine wpList_load_row rfl 73 _ rfl 0 rfl t T fr _ hx Tryd.underlying73 rfl (by rw [hz]; kernel_rfl) ?_
  clear hx
  go_wp2_with fail
  go_loopw [26] (fun i wr => ∃ k : Nat, k ≤ 88 ∧ i = .int .i64 k ∧ wr.heap[w.heap.size + 1]? = some (.cells #[.int .i64 (lookL n k), .int .i64 0, .int .i64 0, .int .i64 0, .int .i64 0, .bool false, .bool false] 33 (0, 0))
      ∧ wr.heap[w.heap.size]? = some (.cells #[.int .i64 0, .int .i64 0, .int .i64 0, .int .i64 0, .int .i64 0, .bool false, .bool false] 33 (0, 0)) ∧ Nb w wr) (fun i _ => 88 - (intOf i).toNat)
  case atStart => exact ⟨0, Nat.zero_le _, rfl, k2, k1, n2⟩
  case round =>
    obtain ⟨k, hk, rfl, c2, c1, hN⟩ := hrel
    obtain ⟨z, d0, d1, d2, d3, d4, d5, d6⟩ := cells7 c2
    obtain ⟨f0, f1, f2, f3, f4, f5, f6⟩ := marks7 c2
    by_cases hlt : k < 88
    · have hI := index_T T k hlt _ (hT k hlt)
      clear hT hk
      go_wp2_with fail
      · rename_i he
        exact ⟨⟨k + 1, hlt, rfl, by rw [look_yes he]; exact set7 c2, (heap_setCell_other _ _ _ _ (Nat.ne_of_lt (Nat.lt_succ_self _))).trans c1, hN.setCell (Nat.le_succ _) _⟩, by simp [intOf]; omega⟩
      · rename_i he
        exact ⟨⟨k + 1, hlt, rfl, by rw [look_no he]; exact c2, c1, hN⟩, by simp [intOf]; omega⟩
    · have hkk : k = 88 := by omega
      subst hkk
      obtain ⟨z', d0', d1', d2', d3', d4', d5', d6'⟩ := cells7 c1
      obtain ⟨f0', f1', f2', f3', f4', f5', f6'⟩ := marks7 c1
      clear hT hk hlt
      go_wp2_with fail
      obtain ⟨W3, hW⟩ : ∃ W3, ((((((wr.setCell ⟨w.heap.size, 0, none⟩ (.int .i64 (lookL n 88))).setCell ⟨w.heap.size, 1, none⟩ (.int .i64 0)).setCell ⟨w.heap.size, 2, none⟩ (.int .i64 0)).setCell ⟨w.heap.size, 3, none⟩ (.int .i64 0)).setCell ⟨w.heap.size, 4, none⟩ (.int .i64 0)).setCell ⟨w.heap.size, 5, none⟩ (.bool false)).setCell ⟨w.heap.size, 6, none⟩ (.bool false) = W3 := ⟨_, rfl⟩
      have hb3 : W3.heap[w.heap.size]? = some (.cells #[.int .i64 (lookL n 88), .int .i64 0, .int .i64 0, .int .i64 0, .int .i64 0, .bool false, .bool false] 33 (0, 0)) := by rw [← hW]; exact set7a c1
      have h4 : Nb w W3 := by rw [← hW]; exact ((((((hN.setCell (Nat.le_refl _) _).setCell (Nat.le_refl _) _).setCell (Nat.le_refl _) _).setCell (Nat.le_refl _) _).setCell (Nat.le_refl _) _).setCell (Nat.le_refl _) _).setCell (Nat.le_refl _) _
      rw [hW]
      refine bodyPost_ret (results_cell_row rfl _ _ w.heap.size _ _ _ _ rfl hb3 Tryd.underlying33 rfl (by kernel_rfl)) rfl ?_
      exact ⟨rfl, h4⟩
theorem named_any (l : Bs) (h : l.length ≤ 1000000) (w : World) (hL : Lx w) :
    Calls Tryd.prog 20 #[.string ⟨l.toArray⟩] w fun e w' => e = .returned (.agg #[.int .i64 (namedL l).1, .int .i64 0, .int .i64 0, .int .i64 0, .int .i64 0, .bool (namedL l).2.1, .bool (namedL l).2.2]) ∧ Nb w w' := by
  have H0 := fun w => suf_q l [46, 97, 113, 114, 108] h w
  have H1 := fun w => suf_q l [46, 97, 113] h w
  have H2 := fun w => suf_q l [46, 114, 108] h w
  unfold namedL nameL
  cases e0 : Lib.hasSuffix l [46, 97, 113, 114, 108] <;> rw [e0] at H0
  · rw [if_neg (by decide)]
    cases e1 : Lib.hasSuffix l [46, 97, 113] <;> rw [e1] at H1
    · rw [if_neg (by decide)]
      cases e2 : Lib.hasSuffix l [46, 114, 108] <;> rw [e2] at H2
      · rw [if_neg (by decide)]
        exact named_3 l (Lib.hid H0) (Lib.hid H1) (Lib.hid H2) w hL
      · rw [if_pos rfl]
        exact named_2 l _ (Lib.hid H0) (Lib.hid H1) (Lib.hid H2) (Lib.hid fun w => trs_q l [46, 114, 108] h w) w hL
    · rw [if_pos rfl]
      exact named_1 l _ (Lib.hid H0) (Lib.hid H1) (Lib.hid fun w => trs_q l [46, 97, 113] h w) w hL
  · rw [if_pos rfl]
    exact named_0 l _ (Lib.hid H0) (Lib.hid fun w => trs_q l [46, 97, 113, 114, 108] h w) w hL
end Go.Proofs.YtmggichckhoomaaDoor
