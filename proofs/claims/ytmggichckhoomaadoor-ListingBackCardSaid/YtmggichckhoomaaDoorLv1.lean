/-
  Proved here: the fields that words give an operation, the reference's. Conditions: none.
-/
import Derived.Test.YtmggichckhoomaaDoorLv
namespace Go.Proofs.YtmggichckhoomaaDoor
open Go.ChangeShapes Go.WideShapes Go.ChangeAt Go.RowKit
set_option linter.unusedVariables false
set_option linter.unusedSimpArgs false
attribute [local go_sem ↓] ix52_0 ix52_1 ix52_2 ix52_3
set_option maxRecDepth 100000 in
set_option maxHeartbeats 4000000 in
theorem try_3 (op o3 a3 a7 : Int) (ws : List Bs) (g cap : Nat) (hmax : ws.length ≤ 1000001) (hlen : Hid (∀ k, (ws.getD k []).length ≤ 1000000))
    (HR : Hid (∀ w, Calls Tryd.prog 27 #[.int .i64 op] w fun e w' => e = .returned (.agg #[.int .i64 3, .int .i64 o3, .int .i64 a3, .int .i64 a7]) ∧ Nb w w'))
    (w : World) (hws : Hid (∀ k, k < ws.length → w.cell? ⟨g, k, none⟩ = some (.string ⟨(ws.getD k []).toArray⟩))) :
    Calls Tryd.prog 34 #[.int .i64 op, .slice (some ⟨g, 0, none⟩) ws.length cap] w fun e w' => e = .returned (.agg #[.int .i64 op, .int .i64 (stL 3 ws 4).2.1, .int .i64 (stL 3 ws 4).2.2.1, .int .i64 (stL 3 ws 4).2.2.2.1, .int .i64 (stL 3 ws 4).2.2.2.2, .bool false, .bool false]) ∧ Nb w w' := by
  go_enter Tryd.func34, Tryd.ntmps34
  go_wp2_with fail
  obtain ⟨W1, h1⟩ : ∃ W1, w.alloc (Obj.cells #[.int .i64 0, .int .i64 0, .int .i64 0, .int .i64 0, .int .i64 0, .bool false, .bool false] 33) = W1 := ⟨_, rfl⟩
  have k1 := blk_made w _ h1 rfl
  have z1 : W1.heap.size = w.heap.size + 1 := by rw [← h1]; exact Array.size_push _
  obtain ⟨W2, h2⟩ : ∃ W2, W1.alloc (Obj.cells #[.int .i64 op, .int .i64 0, .int .i64 0, .int .i64 0, .int .i64 0, .bool false, .bool false] 33) = W2 := ⟨_, rfl⟩
  have k2 := blk_made W1 _ h2 z1
  have m1 : Nb w W1 := by rw [← h1]; exact (Nb.refl _).alloc _
  have m2 : Nb W1 W2 := by rw [← h2]; exact (Nb.refl _).alloc _
  have q2 := m1.trans m2
  replace k1 := m2.block k1
  rw [h1, h2]
  clear h1 h2 m1 m2 z1
  refine (HR.out _).mono ?_
  rintro e w3 ⟨rfl, hn⟩
  have q3 := q2.trans hn
  replace k1 := hn.block k1
  replace k2 := hn.block k2
  clear hn q2
  go_wp2_with fail
  go_loopw [6, 8] (fun kk aa wr => ∃ (a k : Nat) (b n1 n2 n3 n4 : Int), b = (a : Int) + 1 ∧ a ≤ 4 ∧ 1 ≤ k ∧ k ≤ a + 1 ∧ kk = .int .i64 k ∧ aa = .int .i64 b ∧ Hid (stL 3 ws a = (k, n1, n2, n3, n4)) ∧ wr.heap[w.heap.size + 1]? = some (.cells #[.int .i64 op, .int .i64 n1, .int .i64 n2, .int .i64 n3, .int .i64 n4, .bool false, .bool false] 33 (0, 0)) ∧ wr.heap[w.heap.size]? = some (.cells #[.int .i64 0, .int .i64 0, .int .i64 0, .int .i64 0, .int .i64 0, .bool false, .bool false] 33 (0, 0)) ∧ Nb w wr) (fun _ aa _ => 6 - (intOf aa).toNat)
  case atStart => exact ⟨0, 1, 1, 0, 0, 0, 0, rfl, by decide, Nat.le_refl _, Nat.le_refl _, rfl, rfl, Lib.hid rfl, k2, k1, q3⟩
  case round =>
    obtain ⟨a, k, b, n1, n2, n3, n4, hb, ha, hk1, hka, rfl, rfl, hS, c2, c1, hN⟩ := hrel
    clear k1 k2 q3 HR
    obtain ⟨z, d0, d1, d2, d3, d4, d5, d6⟩ := cells7 c2
    obtain ⟨f0, f1, f2, f3, f4, f5, f6⟩ := marks7 c2
    have ha' : a = 0 ∨ a = 1 ∨ a = 2 ∨ a = 3 ∨ a = 4 := by omega
    rcases ha' with rfl | rfl | rfl | rfl | rfl
    · obtain rfl : b = 1 := by omega
      clear hb
      go_upto_region 7 with (fail)
      simp only [List.append_eq, List.cons_append, List.nil_append]
      by_cases hlt : (k : Int) < (ws.length : Int)
      · have hlt' : k < ws.length := by omega
        have hc := hN.cell (hws.out k hlt')
        have hl := hlen.out k
        have hS' := Lib.hid (st_yes 3 ws 0 k n1 n2 n3 n4 hS.out rfl hlt')
        generalize ws.getD k [] = u at *
        by_cases hu : 0 < u.length
        · go_wp2_with fail
          rw [drop_ext]
          refine (value_any _ (by simp; omega) _).mono ?_
          rintro e w4 ⟨⟨v, rfl⟩, hn⟩
          replace c2 := hn.block c2
          replace c1 := hn.block c1
          have hN1 := hN.trans hn
          clear z d0 d1 d2 d3 d4 d5 d6 f0 f1 f2 f3 f4 f5 f6 hc
          obtain ⟨z, d0, d1, d2, d3, d4, d5, d6⟩ := cells7 c2
          obtain ⟨f0, f1, f2, f3, f4, f5, f6⟩ := marks7 c2
          go_wp2_with fail
          exact ⟨⟨1, k + 1, _, _, _, _, _, rfl, by decide, by omega, by omega, rfl, rfl, Lib.hid hS'.out, set7_1 c2, (heap_setCell_other _ _ _ _ (Nat.ne_of_lt (Nat.lt_succ_self _))).trans c1, hN1.setCell (Nat.le_succ _) _⟩, by simp [intOf]⟩
        · have hu' : u = [] := List.length_eq_zero_iff.1 (by omega)
          subst hu'
          go_wp2_with fail
          refine (value_any _ (by decide) _).mono ?_
          rintro e w4 ⟨⟨v, rfl⟩, hn⟩
          replace c2 := hn.block c2
          replace c1 := hn.block c1
          have hN1 := hN.trans hn
          clear z d0 d1 d2 d3 d4 d5 d6 f0 f1 f2 f3 f4 f5 f6 hc
          obtain ⟨z, d0, d1, d2, d3, d4, d5, d6⟩ := cells7 c2
          obtain ⟨f0, f1, f2, f3, f4, f5, f6⟩ := marks7 c2
          go_wp2_with fail
          exact ⟨⟨1, k + 1, _, _, _, _, _, rfl, by decide, by omega, by omega, rfl, rfl, Lib.hid hS'.out, set7_1 c2, (heap_setCell_other _ _ _ _ (Nat.ne_of_lt (Nat.lt_succ_self _))).trans c1, hN1.setCell (Nat.le_succ _) _⟩, by simp [intOf]⟩
      · have hS' := Lib.hid (st_no 3 ws 0 k n1 n2 n3 n4 hS.out (Or.inr (by omega)))
        go_wp2_with fail
        exact ⟨⟨1, k, _, n1, n2, n3, n4, rfl, by decide, hk1, by omega, rfl, rfl, hS', c2, c1, hN⟩, by simp [intOf]⟩
    · obtain rfl : b = 2 := by omega
      clear hb
      go_upto_region 7 with (fail)
      simp only [List.append_eq, List.cons_append, List.nil_append]
      by_cases hlt : (k : Int) < (ws.length : Int)
      · have hlt' : k < ws.length := by omega
        have hc := hN.cell (hws.out k hlt')
        have hl := hlen.out k
        have hS' := Lib.hid (st_yes 3 ws 1 k n1 n2 n3 n4 hS.out rfl hlt')
        generalize ws.getD k [] = u at *
        by_cases hu : 0 < u.length
        · go_wp2_with fail
          rw [drop_ext]
          refine (value_any _ (by simp; omega) _).mono ?_
          rintro e w4 ⟨⟨v, rfl⟩, hn⟩
          replace c2 := hn.block c2
          replace c1 := hn.block c1
          have hN1 := hN.trans hn
          clear z d0 d1 d2 d3 d4 d5 d6 f0 f1 f2 f3 f4 f5 f6 hc
          obtain ⟨z, d0, d1, d2, d3, d4, d5, d6⟩ := cells7 c2
          obtain ⟨f0, f1, f2, f3, f4, f5, f6⟩ := marks7 c2
          go_wp2_with fail
          exact ⟨⟨2, k + 1, _, _, _, _, _, rfl, by decide, by omega, by omega, rfl, rfl, Lib.hid hS'.out, set7_2 c2, (heap_setCell_other _ _ _ _ (Nat.ne_of_lt (Nat.lt_succ_self _))).trans c1, hN1.setCell (Nat.le_succ _) _⟩, by simp [intOf]⟩
        · have hu' : u = [] := List.length_eq_zero_iff.1 (by omega)
          subst hu'
          go_wp2_with fail
          refine (value_any _ (by decide) _).mono ?_
          rintro e w4 ⟨⟨v, rfl⟩, hn⟩
          replace c2 := hn.block c2
          replace c1 := hn.block c1
          have hN1 := hN.trans hn
          clear z d0 d1 d2 d3 d4 d5 d6 f0 f1 f2 f3 f4 f5 f6 hc
          obtain ⟨z, d0, d1, d2, d3, d4, d5, d6⟩ := cells7 c2
          obtain ⟨f0, f1, f2, f3, f4, f5, f6⟩ := marks7 c2
          go_wp2_with fail
          exact ⟨⟨2, k + 1, _, _, _, _, _, rfl, by decide, by omega, by omega, rfl, rfl, Lib.hid hS'.out, set7_2 c2, (heap_setCell_other _ _ _ _ (Nat.ne_of_lt (Nat.lt_succ_self _))).trans c1, hN1.setCell (Nat.le_succ _) _⟩, by simp [intOf]⟩
      · have hS' := Lib.hid (st_no 3 ws 1 k n1 n2 n3 n4 hS.out (Or.inr (by omega)))
        go_wp2_with fail
        exact ⟨⟨2, k, _, n1, n2, n3, n4, rfl, by decide, hk1, by omega, rfl, rfl, hS', c2, c1, hN⟩, by simp [intOf]⟩
    · obtain rfl : b = 3 := by omega
      clear hb
      go_upto_region 7 with (fail)
      simp only [List.append_eq, List.cons_append, List.nil_append]
      go_wp2_with fail
      exact ⟨⟨3, k, _, n1, n2, n3, n4, rfl, by decide, hk1, by omega, rfl, rfl, Lib.hid (st_no 3 ws 2 k n1 n2 n3 n4 hS.out (Or.inl rfl)), c2, c1, hN⟩, by simp [intOf]⟩
    · obtain rfl : b = 4 := by omega
      clear hb
      go_upto_region 7 with (fail)
      simp only [List.append_eq, List.cons_append, List.nil_append]
      by_cases hlt : (k : Int) < (ws.length : Int)
      · have hlt' : k < ws.length := by omega
        have hc := hN.cell (hws.out k hlt')
        have hl := hlen.out k
        have hS' := Lib.hid (st_yes 3 ws 3 k n1 n2 n3 n4 hS.out rfl hlt')
        generalize ws.getD k [] = u at *
        · go_wp2_with fail
          refine (value_any _ hl _).mono ?_
          rintro e w4 ⟨⟨v, rfl⟩, hn⟩
          replace c2 := hn.block c2
          replace c1 := hn.block c1
          have hN1 := hN.trans hn
          clear z d0 d1 d2 d3 d4 d5 d6 f0 f1 f2 f3 f4 f5 f6 hc
          obtain ⟨z, d0, d1, d2, d3, d4, d5, d6⟩ := cells7 c2
          obtain ⟨f0, f1, f2, f3, f4, f5, f6⟩ := marks7 c2
          go_wp2_with fail
          exact ⟨⟨4, k + 1, _, _, _, _, _, rfl, by decide, by omega, by omega, rfl, rfl, Lib.hid hS'.out, set7_4 c2, (heap_setCell_other _ _ _ _ (Nat.ne_of_lt (Nat.lt_succ_self _))).trans c1, hN1.setCell (Nat.le_succ _) _⟩, by simp [intOf]⟩
      · have hS' := Lib.hid (st_no 3 ws 3 k n1 n2 n3 n4 hS.out (Or.inr (by omega)))
        go_wp2_with fail
        exact ⟨⟨4, k, _, n1, n2, n3, n4, rfl, by decide, hk1, by omega, rfl, rfl, hS', c2, c1, hN⟩, by simp [intOf]⟩
    · obtain rfl : b = 5 := by omega
      clear hb
      obtain ⟨y, e0, e1, e2, e3, e4, e5, e6⟩ := cells7 c1
      obtain ⟨g0, g1, g2, g3, g4, g5, g6⟩ := marks7 c1
      go_wp2_with fail
      obtain ⟨W3, hW⟩ : ∃ W3, ((((((wr.setCell ⟨w.heap.size, 0, none⟩ (.int .i64 op)).setCell ⟨w.heap.size, 1, none⟩ (.int .i64 n1)).setCell ⟨w.heap.size, 2, none⟩ (.int .i64 n2)).setCell ⟨w.heap.size, 3, none⟩ (.int .i64 n3)).setCell ⟨w.heap.size, 4, none⟩ (.int .i64 n4)).setCell ⟨w.heap.size, 5, none⟩ (.bool false)).setCell ⟨w.heap.size, 6, none⟩ (.bool false) = W3 := ⟨_, rfl⟩
      have hb3 : W3.heap[w.heap.size]? = some (.cells #[.int .i64 op, .int .i64 n1, .int .i64 n2, .int .i64 n3, .int .i64 n4, .bool false, .bool false] 33 (0, 0)) := by rw [← hW]; exact set7a c1
      have h4 : Nb w W3 := by rw [← hW]; exact ((((((hN.setCell (Nat.le_refl _) _).setCell (Nat.le_refl _) _).setCell (Nat.le_refl _) _).setCell (Nat.le_refl _) _).setCell (Nat.le_refl _) _).setCell (Nat.le_refl _) _).setCell (Nat.le_refl _) _
      rw [hW]
      refine bodyPost_ret (results_cell_row rfl _ _ w.heap.size _ _ _ _ rfl hb3 Tryd.underlying33 rfl (by kernel_rfl)) rfl ?_
      exact ⟨by rw [hS.out], h4⟩
set_option maxRecDepth 100000 in
set_option maxHeartbeats 4000000 in
theorem try_4 (op o3 a3 a7 : Int) (ws : List Bs) (g cap : Nat) (hmax : ws.length ≤ 1000001) (hlen : Hid (∀ k, (ws.getD k []).length ≤ 1000000))
    (HR : Hid (∀ w, Calls Tryd.prog 27 #[.int .i64 op] w fun e w' => e = .returned (.agg #[.int .i64 4, .int .i64 o3, .int .i64 a3, .int .i64 a7]) ∧ Nb w w'))
    (w : World) (hws : Hid (∀ k, k < ws.length → w.cell? ⟨g, k, none⟩ = some (.string ⟨(ws.getD k []).toArray⟩))) :
    Calls Tryd.prog 34 #[.int .i64 op, .slice (some ⟨g, 0, none⟩) ws.length cap] w fun e w' => e = .returned (.agg #[.int .i64 op, .int .i64 (stL 4 ws 4).2.1, .int .i64 (stL 4 ws 4).2.2.1, .int .i64 (stL 4 ws 4).2.2.2.1, .int .i64 (stL 4 ws 4).2.2.2.2, .bool false, .bool false]) ∧ Nb w w' := by
  go_enter Tryd.func34, Tryd.ntmps34
  go_wp2_with fail
  obtain ⟨W1, h1⟩ : ∃ W1, w.alloc (Obj.cells #[.int .i64 0, .int .i64 0, .int .i64 0, .int .i64 0, .int .i64 0, .bool false, .bool false] 33) = W1 := ⟨_, rfl⟩
  have k1 := blk_made w _ h1 rfl
  have z1 : W1.heap.size = w.heap.size + 1 := by rw [← h1]; exact Array.size_push _
  obtain ⟨W2, h2⟩ : ∃ W2, W1.alloc (Obj.cells #[.int .i64 op, .int .i64 0, .int .i64 0, .int .i64 0, .int .i64 0, .bool false, .bool false] 33) = W2 := ⟨_, rfl⟩
  have k2 := blk_made W1 _ h2 z1
  have m1 : Nb w W1 := by rw [← h1]; exact (Nb.refl _).alloc _
  have m2 : Nb W1 W2 := by rw [← h2]; exact (Nb.refl _).alloc _
  have q2 := m1.trans m2
  replace k1 := m2.block k1
  rw [h1, h2]
  clear h1 h2 m1 m2 z1
  refine (HR.out _).mono ?_
  rintro e w3 ⟨rfl, hn⟩
  have q3 := q2.trans hn
  replace k1 := hn.block k1
  replace k2 := hn.block k2
  clear hn q2
  go_wp2_with fail
  go_loopw [6, 8] (fun kk aa wr => ∃ (a k : Nat) (b n1 n2 n3 n4 : Int), b = (a : Int) + 1 ∧ a ≤ 4 ∧ 1 ≤ k ∧ k ≤ a + 1 ∧ kk = .int .i64 k ∧ aa = .int .i64 b ∧ Hid (stL 4 ws a = (k, n1, n2, n3, n4)) ∧ wr.heap[w.heap.size + 1]? = some (.cells #[.int .i64 op, .int .i64 n1, .int .i64 n2, .int .i64 n3, .int .i64 n4, .bool false, .bool false] 33 (0, 0)) ∧ wr.heap[w.heap.size]? = some (.cells #[.int .i64 0, .int .i64 0, .int .i64 0, .int .i64 0, .int .i64 0, .bool false, .bool false] 33 (0, 0)) ∧ Nb w wr) (fun _ aa _ => 6 - (intOf aa).toNat)
  case atStart => exact ⟨0, 1, 1, 0, 0, 0, 0, rfl, by decide, Nat.le_refl _, Nat.le_refl _, rfl, rfl, Lib.hid rfl, k2, k1, q3⟩
  case round =>
    obtain ⟨a, k, b, n1, n2, n3, n4, hb, ha, hk1, hka, rfl, rfl, hS, c2, c1, hN⟩ := hrel
    clear k1 k2 q3 HR
    obtain ⟨z, d0, d1, d2, d3, d4, d5, d6⟩ := cells7 c2
    obtain ⟨f0, f1, f2, f3, f4, f5, f6⟩ := marks7 c2
    have ha' : a = 0 ∨ a = 1 ∨ a = 2 ∨ a = 3 ∨ a = 4 := by omega
    rcases ha' with rfl | rfl | rfl | rfl | rfl
    · obtain rfl : b = 1 := by omega
      clear hb
      go_upto_region 7 with (fail)
      simp only [List.append_eq, List.cons_append, List.nil_append]
      go_wp2_with fail
      exact ⟨⟨1, k, _, n1, n2, n3, n4, rfl, by decide, hk1, by omega, rfl, rfl, Lib.hid (st_no 4 ws 0 k n1 n2 n3 n4 hS.out (Or.inl rfl)), c2, c1, hN⟩, by simp [intOf]⟩
    · obtain rfl : b = 2 := by omega
      clear hb
      go_upto_region 7 with (fail)
      simp only [List.append_eq, List.cons_append, List.nil_append]
      by_cases hlt : (k : Int) < (ws.length : Int)
      · have hlt' : k < ws.length := by omega
        have hc := hN.cell (hws.out k hlt')
        have hl := hlen.out k
        have hS' := Lib.hid (st_yes 4 ws 1 k n1 n2 n3 n4 hS.out rfl hlt')
        generalize ws.getD k [] = u at *
        by_cases hu : 0 < u.length
        · go_wp2_with fail
          rw [drop_ext]
          refine (value_any _ (by simp; omega) _).mono ?_
          rintro e w4 ⟨⟨v, rfl⟩, hn⟩
          replace c2 := hn.block c2
          replace c1 := hn.block c1
          have hN1 := hN.trans hn
          clear z d0 d1 d2 d3 d4 d5 d6 f0 f1 f2 f3 f4 f5 f6 hc
          obtain ⟨z, d0, d1, d2, d3, d4, d5, d6⟩ := cells7 c2
          obtain ⟨f0, f1, f2, f3, f4, f5, f6⟩ := marks7 c2
          go_wp2_with fail
          exact ⟨⟨2, k + 1, _, _, _, _, _, rfl, by decide, by omega, by omega, rfl, rfl, Lib.hid hS'.out, set7_2 c2, (heap_setCell_other _ _ _ _ (Nat.ne_of_lt (Nat.lt_succ_self _))).trans c1, hN1.setCell (Nat.le_succ _) _⟩, by simp [intOf]⟩
        · have hu' : u = [] := List.length_eq_zero_iff.1 (by omega)
          subst hu'
          go_wp2_with fail
          refine (value_any _ (by decide) _).mono ?_
          rintro e w4 ⟨⟨v, rfl⟩, hn⟩
          replace c2 := hn.block c2
          replace c1 := hn.block c1
          have hN1 := hN.trans hn
          clear z d0 d1 d2 d3 d4 d5 d6 f0 f1 f2 f3 f4 f5 f6 hc
          obtain ⟨z, d0, d1, d2, d3, d4, d5, d6⟩ := cells7 c2
          obtain ⟨f0, f1, f2, f3, f4, f5, f6⟩ := marks7 c2
          go_wp2_with fail
          exact ⟨⟨2, k + 1, _, _, _, _, _, rfl, by decide, by omega, by omega, rfl, rfl, Lib.hid hS'.out, set7_2 c2, (heap_setCell_other _ _ _ _ (Nat.ne_of_lt (Nat.lt_succ_self _))).trans c1, hN1.setCell (Nat.le_succ _) _⟩, by simp [intOf]⟩
      · have hS' := Lib.hid (st_no 4 ws 1 k n1 n2 n3 n4 hS.out (Or.inr (by omega)))
        go_wp2_with fail
        exact ⟨⟨2, k, _, n1, n2, n3, n4, rfl, by decide, hk1, by omega, rfl, rfl, hS', c2, c1, hN⟩, by simp [intOf]⟩
    · obtain rfl : b = 3 := by omega
      clear hb
      go_upto_region 7 with (fail)
      simp only [List.append_eq, List.cons_append, List.nil_append]
      by_cases hlt : (k : Int) < (ws.length : Int)
      · have hlt' : k < ws.length := by omega
        have hc := hN.cell (hws.out k hlt')
        have hl := hlen.out k
        have hS' := Lib.hid (st_yes 4 ws 2 k n1 n2 n3 n4 hS.out rfl hlt')
        generalize ws.getD k [] = u at *
        by_cases hu : 0 < u.length
        · go_wp2_with fail
          rw [drop_ext]
          refine (value_any _ (by simp; omega) _).mono ?_
          rintro e w4 ⟨⟨v, rfl⟩, hn⟩
          replace c2 := hn.block c2
          replace c1 := hn.block c1
          have hN1 := hN.trans hn
          clear z d0 d1 d2 d3 d4 d5 d6 f0 f1 f2 f3 f4 f5 f6 hc
          obtain ⟨z, d0, d1, d2, d3, d4, d5, d6⟩ := cells7 c2
          obtain ⟨f0, f1, f2, f3, f4, f5, f6⟩ := marks7 c2
          go_wp2_with fail
          exact ⟨⟨3, k + 1, _, _, _, _, _, rfl, by decide, by omega, by omega, rfl, rfl, Lib.hid hS'.out, set7_3 c2, (heap_setCell_other _ _ _ _ (Nat.ne_of_lt (Nat.lt_succ_self _))).trans c1, hN1.setCell (Nat.le_succ _) _⟩, by simp [intOf]⟩
        · have hu' : u = [] := List.length_eq_zero_iff.1 (by omega)
          subst hu'
          go_wp2_with fail
          refine (value_any _ (by decide) _).mono ?_
          rintro e w4 ⟨⟨v, rfl⟩, hn⟩
          replace c2 := hn.block c2
          replace c1 := hn.block c1
          have hN1 := hN.trans hn
          clear z d0 d1 d2 d3 d4 d5 d6 f0 f1 f2 f3 f4 f5 f6 hc
          obtain ⟨z, d0, d1, d2, d3, d4, d5, d6⟩ := cells7 c2
          obtain ⟨f0, f1, f2, f3, f4, f5, f6⟩ := marks7 c2
          go_wp2_with fail
          exact ⟨⟨3, k + 1, _, _, _, _, _, rfl, by decide, by omega, by omega, rfl, rfl, Lib.hid hS'.out, set7_3 c2, (heap_setCell_other _ _ _ _ (Nat.ne_of_lt (Nat.lt_succ_self _))).trans c1, hN1.setCell (Nat.le_succ _) _⟩, by simp [intOf]⟩
      · have hS' := Lib.hid (st_no 4 ws 2 k n1 n2 n3 n4 hS.out (Or.inr (by omega)))
        go_wp2_with fail
        exact ⟨⟨3, k, _, n1, n2, n3, n4, rfl, by decide, hk1, by omega, rfl, rfl, hS', c2, c1, hN⟩, by simp [intOf]⟩
    · obtain rfl : b = 4 := by omega
      clear hb
      go_upto_region 7 with (fail)
      simp only [List.append_eq, List.cons_append, List.nil_append]
      by_cases hlt : (k : Int) < (ws.length : Int)
      · have hlt' : k < ws.length := by omega
        have hc := hN.cell (hws.out k hlt')
        have hl := hlen.out k
        have hS' := Lib.hid (st_yes 4 ws 3 k n1 n2 n3 n4 hS.out rfl hlt')
        generalize ws.getD k [] = u at *
        · go_wp2_with fail
          refine (value_any _ hl _).mono ?_
          rintro e w4 ⟨⟨v, rfl⟩, hn⟩
          replace c2 := hn.block c2
          replace c1 := hn.block c1
          have hN1 := hN.trans hn
          clear z d0 d1 d2 d3 d4 d5 d6 f0 f1 f2 f3 f4 f5 f6 hc
          obtain ⟨z, d0, d1, d2, d3, d4, d5, d6⟩ := cells7 c2
          obtain ⟨f0, f1, f2, f3, f4, f5, f6⟩ := marks7 c2
          go_wp2_with fail
          exact ⟨⟨4, k + 1, _, _, _, _, _, rfl, by decide, by omega, by omega, rfl, rfl, Lib.hid hS'.out, set7_4 c2, (heap_setCell_other _ _ _ _ (Nat.ne_of_lt (Nat.lt_succ_self _))).trans c1, hN1.setCell (Nat.le_succ _) _⟩, by simp [intOf]⟩
      · have hS' := Lib.hid (st_no 4 ws 3 k n1 n2 n3 n4 hS.out (Or.inr (by omega)))
        go_wp2_with fail
        exact ⟨⟨4, k, _, n1, n2, n3, n4, rfl, by decide, hk1, by omega, rfl, rfl, hS', c2, c1, hN⟩, by simp [intOf]⟩
    · obtain rfl : b = 5 := by omega
      clear hb
      obtain ⟨y, e0, e1, e2, e3, e4, e5, e6⟩ := cells7 c1
      obtain ⟨g0, g1, g2, g3, g4, g5, g6⟩ := marks7 c1
      go_wp2_with fail
      obtain ⟨W3, hW⟩ : ∃ W3, ((((((wr.setCell ⟨w.heap.size, 0, none⟩ (.int .i64 op)).setCell ⟨w.heap.size, 1, none⟩ (.int .i64 n1)).setCell ⟨w.heap.size, 2, none⟩ (.int .i64 n2)).setCell ⟨w.heap.size, 3, none⟩ (.int .i64 n3)).setCell ⟨w.heap.size, 4, none⟩ (.int .i64 n4)).setCell ⟨w.heap.size, 5, none⟩ (.bool false)).setCell ⟨w.heap.size, 6, none⟩ (.bool false) = W3 := ⟨_, rfl⟩
      have hb3 : W3.heap[w.heap.size]? = some (.cells #[.int .i64 op, .int .i64 n1, .int .i64 n2, .int .i64 n3, .int .i64 n4, .bool false, .bool false] 33 (0, 0)) := by rw [← hW]; exact set7a c1
      have h4 : Nb w W3 := by rw [← hW]; exact ((((((hN.setCell (Nat.le_refl _) _).setCell (Nat.le_refl _) _).setCell (Nat.le_refl _) _).setCell (Nat.le_refl _) _).setCell (Nat.le_refl _) _).setCell (Nat.le_refl _) _).setCell (Nat.le_refl _) _
      rw [hW]
      refine bodyPost_ret (results_cell_row rfl _ _ w.heap.size _ _ _ _ rfl hb3 Tryd.underlying33 rfl (by kernel_rfl)) rfl ?_
      exact ⟨by rw [hS.out], h4⟩
set_option maxRecDepth 100000 in
set_option maxHeartbeats 4000000 in
theorem try_9 (op o3 a3 a7 : Int) (ws : List Bs) (g cap : Nat) (hmax : ws.length ≤ 1000001) (hlen : Hid (∀ k, (ws.getD k []).length ≤ 1000000))
    (HR : Hid (∀ w, Calls Tryd.prog 27 #[.int .i64 op] w fun e w' => e = .returned (.agg #[.int .i64 9, .int .i64 o3, .int .i64 a3, .int .i64 a7]) ∧ Nb w w'))
    (w : World) (hws : Hid (∀ k, k < ws.length → w.cell? ⟨g, k, none⟩ = some (.string ⟨(ws.getD k []).toArray⟩))) :
    Calls Tryd.prog 34 #[.int .i64 op, .slice (some ⟨g, 0, none⟩) ws.length cap] w fun e w' => e = .returned (.agg #[.int .i64 op, .int .i64 (stL 9 ws 4).2.1, .int .i64 (stL 9 ws 4).2.2.1, .int .i64 (stL 9 ws 4).2.2.2.1, .int .i64 (stL 9 ws 4).2.2.2.2, .bool false, .bool false]) ∧ Nb w w' := by
  go_enter Tryd.func34, Tryd.ntmps34
  go_wp2_with fail
  obtain ⟨W1, h1⟩ : ∃ W1, w.alloc (Obj.cells #[.int .i64 0, .int .i64 0, .int .i64 0, .int .i64 0, .int .i64 0, .bool false, .bool false] 33) = W1 := ⟨_, rfl⟩
  have k1 := blk_made w _ h1 rfl
  have z1 : W1.heap.size = w.heap.size + 1 := by rw [← h1]; exact Array.size_push _
  obtain ⟨W2, h2⟩ : ∃ W2, W1.alloc (Obj.cells #[.int .i64 op, .int .i64 0, .int .i64 0, .int .i64 0, .int .i64 0, .bool false, .bool false] 33) = W2 := ⟨_, rfl⟩
  have k2 := blk_made W1 _ h2 z1
  have m1 : Nb w W1 := by rw [← h1]; exact (Nb.refl _).alloc _
  have m2 : Nb W1 W2 := by rw [← h2]; exact (Nb.refl _).alloc _
  have q2 := m1.trans m2
  replace k1 := m2.block k1
  rw [h1, h2]
  clear h1 h2 m1 m2 z1
  refine (HR.out _).mono ?_
  rintro e w3 ⟨rfl, hn⟩
  have q3 := q2.trans hn
  replace k1 := hn.block k1
  replace k2 := hn.block k2
  clear hn q2
  go_wp2_with fail
  go_loopw [6, 8] (fun kk aa wr => ∃ (a k : Nat) (b n1 n2 n3 n4 : Int), b = (a : Int) + 1 ∧ a ≤ 4 ∧ 1 ≤ k ∧ k ≤ a + 1 ∧ kk = .int .i64 k ∧ aa = .int .i64 b ∧ Hid (stL 9 ws a = (k, n1, n2, n3, n4)) ∧ wr.heap[w.heap.size + 1]? = some (.cells #[.int .i64 op, .int .i64 n1, .int .i64 n2, .int .i64 n3, .int .i64 n4, .bool false, .bool false] 33 (0, 0)) ∧ wr.heap[w.heap.size]? = some (.cells #[.int .i64 0, .int .i64 0, .int .i64 0, .int .i64 0, .int .i64 0, .bool false, .bool false] 33 (0, 0)) ∧ Nb w wr) (fun _ aa _ => 6 - (intOf aa).toNat)
  case atStart => exact ⟨0, 1, 1, 0, 0, 0, 0, rfl, by decide, Nat.le_refl _, Nat.le_refl _, rfl, rfl, Lib.hid rfl, k2, k1, q3⟩
  case round =>
    obtain ⟨a, k, b, n1, n2, n3, n4, hb, ha, hk1, hka, rfl, rfl, hS, c2, c1, hN⟩ := hrel
    clear k1 k2 q3 HR
    obtain ⟨z, d0, d1, d2, d3, d4, d5, d6⟩ := cells7 c2
    obtain ⟨f0, f1, f2, f3, f4, f5, f6⟩ := marks7 c2
    have ha' : a = 0 ∨ a = 1 ∨ a = 2 ∨ a = 3 ∨ a = 4 := by omega
    rcases ha' with rfl | rfl | rfl | rfl | rfl
    · obtain rfl : b = 1 := by omega
      clear hb
      go_upto_region 7 with (fail)
      simp only [List.append_eq, List.cons_append, List.nil_append]
      go_wp2_with fail
      exact ⟨⟨1, k, _, n1, n2, n3, n4, rfl, by decide, hk1, by omega, rfl, rfl, Lib.hid (st_no 9 ws 0 k n1 n2 n3 n4 hS.out (Or.inl rfl)), c2, c1, hN⟩, by simp [intOf]⟩
    · obtain rfl : b = 2 := by omega
      clear hb
      go_upto_region 7 with (fail)
      simp only [List.append_eq, List.cons_append, List.nil_append]
      go_wp2_with fail
      exact ⟨⟨2, k, _, n1, n2, n3, n4, rfl, by decide, hk1, by omega, rfl, rfl, Lib.hid (st_no 9 ws 1 k n1 n2 n3 n4 hS.out (Or.inl rfl)), c2, c1, hN⟩, by simp [intOf]⟩
    · obtain rfl : b = 3 := by omega
      clear hb
      go_upto_region 7 with (fail)
      simp only [List.append_eq, List.cons_append, List.nil_append]
      go_wp2_with fail
      exact ⟨⟨3, k, _, n1, n2, n3, n4, rfl, by decide, hk1, by omega, rfl, rfl, Lib.hid (st_no 9 ws 2 k n1 n2 n3 n4 hS.out (Or.inl rfl)), c2, c1, hN⟩, by simp [intOf]⟩
    · obtain rfl : b = 4 := by omega
      clear hb
      go_upto_region 7 with (fail)
      simp only [List.append_eq, List.cons_append, List.nil_append]
      by_cases hlt : (k : Int) < (ws.length : Int)
      · have hlt' : k < ws.length := by omega
        have hc := hN.cell (hws.out k hlt')
        have hl := hlen.out k
        have hS' := Lib.hid (st_yes 9 ws 3 k n1 n2 n3 n4 hS.out rfl hlt')
        generalize ws.getD k [] = u at *
        · go_wp2_with fail
          refine (value_any _ hl _).mono ?_
          rintro e w4 ⟨⟨v, rfl⟩, hn⟩
          replace c2 := hn.block c2
          replace c1 := hn.block c1
          have hN1 := hN.trans hn
          clear z d0 d1 d2 d3 d4 d5 d6 f0 f1 f2 f3 f4 f5 f6 hc
          obtain ⟨z, d0, d1, d2, d3, d4, d5, d6⟩ := cells7 c2
          obtain ⟨f0, f1, f2, f3, f4, f5, f6⟩ := marks7 c2
          go_wp2_with fail
          exact ⟨⟨4, k + 1, _, _, _, _, _, rfl, by decide, by omega, by omega, rfl, rfl, Lib.hid hS'.out, set7_4 c2, (heap_setCell_other _ _ _ _ (Nat.ne_of_lt (Nat.lt_succ_self _))).trans c1, hN1.setCell (Nat.le_succ _) _⟩, by simp [intOf]⟩
      · have hS' := Lib.hid (st_no 9 ws 3 k n1 n2 n3 n4 hS.out (Or.inr (by omega)))
        go_wp2_with fail
        exact ⟨⟨4, k, _, n1, n2, n3, n4, rfl, by decide, hk1, by omega, rfl, rfl, hS', c2, c1, hN⟩, by simp [intOf]⟩
    · obtain rfl : b = 5 := by omega
      clear hb
      obtain ⟨y, e0, e1, e2, e3, e4, e5, e6⟩ := cells7 c1
      obtain ⟨g0, g1, g2, g3, g4, g5, g6⟩ := marks7 c1
      go_wp2_with fail
      obtain ⟨W3, hW⟩ : ∃ W3, ((((((wr.setCell ⟨w.heap.size, 0, none⟩ (.int .i64 op)).setCell ⟨w.heap.size, 1, none⟩ (.int .i64 n1)).setCell ⟨w.heap.size, 2, none⟩ (.int .i64 n2)).setCell ⟨w.heap.size, 3, none⟩ (.int .i64 n3)).setCell ⟨w.heap.size, 4, none⟩ (.int .i64 n4)).setCell ⟨w.heap.size, 5, none⟩ (.bool false)).setCell ⟨w.heap.size, 6, none⟩ (.bool false) = W3 := ⟨_, rfl⟩
      have hb3 : W3.heap[w.heap.size]? = some (.cells #[.int .i64 op, .int .i64 n1, .int .i64 n2, .int .i64 n3, .int .i64 n4, .bool false, .bool false] 33 (0, 0)) := by rw [← hW]; exact set7a c1
      have h4 : Nb w W3 := by rw [← hW]; exact ((((((hN.setCell (Nat.le_refl _) _).setCell (Nat.le_refl _) _).setCell (Nat.le_refl _) _).setCell (Nat.le_refl _) _).setCell (Nat.le_refl _) _).setCell (Nat.le_refl _) _).setCell (Nat.le_refl _) _
      rw [hW]
      refine bodyPost_ret (results_cell_row rfl _ _ w.heap.size _ _ _ _ rfl hb3 Tryd.underlying33 rfl (by kernel_rfl)) rfl ?_
      exact ⟨by rw [hS.out], h4⟩
end Go.Proofs.YtmggichckhoomaaDoor
