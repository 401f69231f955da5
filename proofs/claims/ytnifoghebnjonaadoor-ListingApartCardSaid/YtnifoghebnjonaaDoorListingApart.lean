/-
  Proved here: unlike instructions that may be have unlike lines, of one line each, and the examples of the chapter stand. Conditions: the variables hold what their texts lay (the card ties them to the text).
-/
import Derived.Test.YtnifoghebnjonaaDoorLr
import Derived.Test.YtnifoghebnjonaaDoorLm
import Derived.Test.YtnifoghebnjonaaDoorCards
import Derived.Test.YtnifoghebnjonaaDoorTie
import Derived.SevenTiedAt
namespace Go.Proofs.YtnifoghebnjonaaDoor.listingApart
open Go.ChangeShapes Go.WideShapes Go.ChangeAt Go.RowKit
set_option linter.unusedVariables false
set_option linter.unusedSimpArgs false
attribute [local go_sem ↓] eq7
theorem keepS {w W : World} {n m : Nat} {v0 v1 v2 v3 v4 v5 v6 u0 u1 u2 u3 u4 u5 u6 : Value} (h : Nb w W) {W2 : World}
    (hS : Nb W2 w ∧ w.cell? ⟨n, 0, none⟩ = some v0 ∧ w.cell? ⟨n, 1, none⟩ = some v1 ∧ w.cell? ⟨n, 2, none⟩ = some v2 ∧ w.cell? ⟨n, 3, none⟩ = some v3 ∧ w.cell? ⟨n, 4, none⟩ = some v4 ∧ w.cell? ⟨n, 5, none⟩ = some v5 ∧ w.cell? ⟨n, 6, none⟩ = some v6 ∧ w.cell? ⟨m, 0, none⟩ = some u0 ∧ w.cell? ⟨m, 1, none⟩ = some u1 ∧ w.cell? ⟨m, 2, none⟩ = some u2 ∧ w.cell? ⟨m, 3, none⟩ = some u3 ∧ w.cell? ⟨m, 4, none⟩ = some u4 ∧ w.cell? ⟨m, 5, none⟩ = some u5 ∧ w.cell? ⟨m, 6, none⟩ = some u6) :
    Nb W2 W ∧ W.cell? ⟨n, 0, none⟩ = some v0 ∧ W.cell? ⟨n, 1, none⟩ = some v1 ∧ W.cell? ⟨n, 2, none⟩ = some v2 ∧ W.cell? ⟨n, 3, none⟩ = some v3 ∧ W.cell? ⟨n, 4, none⟩ = some v4 ∧ W.cell? ⟨n, 5, none⟩ = some v5 ∧ W.cell? ⟨n, 6, none⟩ = some v6 ∧ W.cell? ⟨m, 0, none⟩ = some u0 ∧ W.cell? ⟨m, 1, none⟩ = some u1 ∧ W.cell? ⟨m, 2, none⟩ = some u2 ∧ W.cell? ⟨m, 3, none⟩ = some u3 ∧ W.cell? ⟨m, 4, none⟩ = some u4 ∧ W.cell? ⟨m, 5, none⟩ = some u5 ∧ W.cell? ⟨m, 6, none⟩ = some u6 := by
  obtain ⟨h0, c0, c1, c2, c3, c4, c5, c6, d0, d1, d2, d3, d4, d5, d6⟩ := hS
  exact ⟨h0.trans h, h.cell c0, h.cell c1, h.cell c2, h.cell c3, h.cell c4, h.cell c5, h.cell c6, h.cell d0, h.cell d1, h.cell d2, h.cell d3, h.cell d4, h.cell d5, h.cell d6⟩
theorem lxS {w W2 : World} (hL : Lx W2) {R : Prop} (hS : Nb W2 w ∧ R) : Lx w := hL.of_nb hS.1
theorem no10 {x : Bs} (h : 10 ∉ x) (k : Nat) (hk : k < x.length) (p : k < (⟨x.toArray⟩ : ByteArray).size) (he : ((((⟨x.toArray⟩ : ByteArray)[k]'p).toNat : Int) == 10) = true) : False := by
  have e := eq_of_beq he
  apply h
  have h1 : (⟨x.toArray⟩ : ByteArray)[k]'p = x[k] := rfl
  rw [h1] at e
  have : x[k] = 10 := by apply UInt8.toNat_inj.1; show x[k].toNat = 10; omega
  rw [← this]; exact List.getElem_mem hk
set_option maxRecDepth 100000 in
set_option maxHeartbeats 4000000 in
theorem walk_a (op rd ra rb im op2 rd2 ra2 rb2 im2 : Int) (aq rl aq2 rl2 : Bool)
    (wi : -9223372036854775808 ≤ im ∧ im < 9223372036854775808) (wj : -9223372036854775808 ≤ im2 ∧ im2 < 9223372036854775808)
    (H3 : Hid (∀ w, Calls Tryd.prog 25 #[.agg #[.int .i64 op, .int .i64 rd, .int .i64 ra, .int .i64 rb, .int .i64 im, .bool aq, .bool rl]] w fun e w' => e = .returned (.bool false) ∧ Nb w w'))
    (w : World) (hL : Lx w) :
    Calls Tryd.prog 7 #[.agg #[.int .i64 op, .int .i64 rd, .int .i64 ra, .int .i64 rb, .int .i64 im, .bool aq, .bool rl], .agg #[.int .i64 op2, .int .i64 rd2, .int .i64 ra2, .int .i64 rb2, .int .i64 im2, .bool aq2, .bool rl2]] w fun e w' => e = .returned (.bool true) ∧ Nb w w' := by
  go_enter Tryd.func7, Tryd.ntmps7
  go_wp2_with fail
  obtain ⟨W1, h1⟩ : ∃ W1, w.alloc (Obj.cells #[.int .i64 op, .int .i64 rd, .int .i64 ra, .int .i64 rb, .int .i64 im, .bool aq, .bool rl] 23) = W1 := ⟨_, rfl⟩
  have k1 := blk_made w _ h1 rfl
  have z1 : W1.heap.size = w.heap.size + 1 := by rw [← h1]; exact Array.size_push _
  obtain ⟨W2, h2⟩ : ∃ W2, W1.alloc (Obj.cells #[.int .i64 op2, .int .i64 rd2, .int .i64 ra2, .int .i64 rb2, .int .i64 im2, .bool aq2, .bool rl2] 23) = W2 := ⟨_, rfl⟩
  have k2 := blk_made W1 _ h2 z1
  have m1 : Nb w W1 := by rw [← h1]; exact (Nb.refl _).alloc _
  have m2 : Nb W1 W2 := by rw [← h2]; exact (Nb.refl _).alloc _
  have hN := m1.trans m2
  replace k1 := m2.block k1
  rw [h1, h2]
  clear h1 h2 m1 m2 z1
  have hL1 := hL.of_nb hN
  clear hL
  obtain ⟨n1, c0, c1, c2, c3, c4, c5, c6⟩ := cells7 k1
  obtain ⟨n2, d0, d1, d2, d3, d4, d5, d6⟩ := cells7 k2
  clear n1 n2 k1 k2
  go_region_held3 (fun w' => Nb W2 w' ∧ w'.cell? ⟨w.heap.size, 0, none⟩ = some (.int .i64 op) ∧ w'.cell? ⟨w.heap.size, 1, none⟩ = some (.int .i64 rd) ∧ w'.cell? ⟨w.heap.size, 2, none⟩ = some (.int .i64 ra) ∧ w'.cell? ⟨w.heap.size, 3, none⟩ = some (.int .i64 rb) ∧ w'.cell? ⟨w.heap.size, 4, none⟩ = some (.int .i64 im) ∧ w'.cell? ⟨w.heap.size, 5, none⟩ = some (.bool aq) ∧ w'.cell? ⟨w.heap.size, 6, none⟩ = some (.bool rl) ∧ w'.cell? ⟨w.heap.size + 1, 0, none⟩ = some (.int .i64 op2) ∧ w'.cell? ⟨w.heap.size + 1, 1, none⟩ = some (.int .i64 rd2) ∧ w'.cell? ⟨w.heap.size + 1, 2, none⟩ = some (.int .i64 ra2) ∧ w'.cell? ⟨w.heap.size + 1, 3, none⟩ = some (.int .i64 rb2) ∧ w'.cell? ⟨w.heap.size + 1, 4, none⟩ = some (.int .i64 im2) ∧ w'.cell? ⟨w.heap.size + 1, 5, none⟩ = some (.bool aq2) ∧ w'.cell? ⟨w.heap.size + 1, 6, none⟩ = some (.bool rl2))
    (first | assumption | (exact keepS (by assumption) (by assumption)) | (exact ⟨(Nb.refl _).trans (drewN_nb _ 1), c0, c1, c2, c3, c4, c5, c6, d0, d1, d2, d3, d4, d5, d6⟩))
    (first
      | (go_at_call 15; refine (text_any _ _ _ _ _ _ _ (by omega) (by omega) _ (lxS hL1 (by assumption)).1).mono ?_; rintro e w1 ⟨rfl, hn1⟩))
  rename_i hH
  clear c0 c1 c2 c3 c4 c5 c6 d0 d1 d2 d3 d4 d5 d6 hn1
  obtain ⟨hQ, c0, c1, c2, c3, c4, c5, c6, d0, d1, d2, d3, d4, d5, d6⟩ := hH
  generalize TextV op rd ra rb im aq rl = x at *
  generalize TextV op2 rd2 ra2 rb2 im2 aq2 rl2 = y at *
  go_wp2_with fail
  refine (H3.out _).mono ?_
  rintro e w5 ⟨rfl, hg⟩
  have hS := keepS hg ⟨hQ, c0, c1, c2, c3, c4, c5, c6, d0, d1, d2, d3, d4, d5, d6⟩
  clear hg hQ c0 c1 c2 c3 c4 c5 c6 d0 d1 d2 d3 d4 d5 d6
  obtain ⟨hQ, c0, c1, c2, c3, c4, c5, c6, d0, d1, d2, d3, d4, d5, d6⟩ := hS
  go_wp2_with fail
  refine (tlives_any _ (hL1.of_nb hQ)).mono ?_
  rintro e w9 ⟨rfl, hg⟩
  go_wp2_with fail
  go_ret
  exact ⟨rfl, hN.trans (hQ.trans hg)⟩
set_option maxRecDepth 100000 in
set_option maxHeartbeats 4000000 in
theorem walk_b (op rd ra rb im op2 rd2 ra2 rb2 im2 : Int) (aq rl aq2 rl2 : Bool)
    (wi : -9223372036854775808 ≤ im ∧ im < 9223372036854775808) (wj : -9223372036854775808 ≤ im2 ∧ im2 < 9223372036854775808)
    (H3 : Hid (∀ w, Calls Tryd.prog 25 #[.agg #[.int .i64 op, .int .i64 rd, .int .i64 ra, .int .i64 rb, .int .i64 im, .bool aq, .bool rl]] w fun e w' => e = .returned (.bool true) ∧ Nb w w'))
    (H4 : Hid (∀ w, Calls Tryd.prog 25 #[.agg #[.int .i64 op2, .int .i64 rd2, .int .i64 ra2, .int .i64 rb2, .int .i64 im2, .bool aq2, .bool rl2]] w fun e w' => e = .returned (.bool false) ∧ Nb w w'))
    (w : World) (hL : Lx w) :
    Calls Tryd.prog 7 #[.agg #[.int .i64 op, .int .i64 rd, .int .i64 ra, .int .i64 rb, .int .i64 im, .bool aq, .bool rl], .agg #[.int .i64 op2, .int .i64 rd2, .int .i64 ra2, .int .i64 rb2, .int .i64 im2, .bool aq2, .bool rl2]] w fun e w' => e = .returned (.bool true) ∧ Nb w w' := by
  go_enter Tryd.func7, Tryd.ntmps7
  go_wp2_with fail
  obtain ⟨W1, h1⟩ : ∃ W1, w.alloc (Obj.cells #[.int .i64 op, .int .i64 rd, .int .i64 ra, .int .i64 rb, .int .i64 im, .bool aq, .bool rl] 23) = W1 := ⟨_, rfl⟩
  have k1 := blk_made w _ h1 rfl
  have z1 : W1.heap.size = w.heap.size + 1 := by rw [← h1]; exact Array.size_push _
  obtain ⟨W2, h2⟩ : ∃ W2, W1.alloc (Obj.cells #[.int .i64 op2, .int .i64 rd2, .int .i64 ra2, .int .i64 rb2, .int .i64 im2, .bool aq2, .bool rl2] 23) = W2 := ⟨_, rfl⟩
  have k2 := blk_made W1 _ h2 z1
  have m1 : Nb w W1 := by rw [← h1]; exact (Nb.refl _).alloc _
  have m2 : Nb W1 W2 := by rw [← h2]; exact (Nb.refl _).alloc _
  have hN := m1.trans m2
  replace k1 := m2.block k1
  rw [h1, h2]
  clear h1 h2 m1 m2 z1
  have hL1 := hL.of_nb hN
  clear hL
  obtain ⟨n1, c0, c1, c2, c3, c4, c5, c6⟩ := cells7 k1
  obtain ⟨n2, d0, d1, d2, d3, d4, d5, d6⟩ := cells7 k2
  clear n1 n2 k1 k2
  go_region_held3 (fun w' => Nb W2 w' ∧ w'.cell? ⟨w.heap.size, 0, none⟩ = some (.int .i64 op) ∧ w'.cell? ⟨w.heap.size, 1, none⟩ = some (.int .i64 rd) ∧ w'.cell? ⟨w.heap.size, 2, none⟩ = some (.int .i64 ra) ∧ w'.cell? ⟨w.heap.size, 3, none⟩ = some (.int .i64 rb) ∧ w'.cell? ⟨w.heap.size, 4, none⟩ = some (.int .i64 im) ∧ w'.cell? ⟨w.heap.size, 5, none⟩ = some (.bool aq) ∧ w'.cell? ⟨w.heap.size, 6, none⟩ = some (.bool rl) ∧ w'.cell? ⟨w.heap.size + 1, 0, none⟩ = some (.int .i64 op2) ∧ w'.cell? ⟨w.heap.size + 1, 1, none⟩ = some (.int .i64 rd2) ∧ w'.cell? ⟨w.heap.size + 1, 2, none⟩ = some (.int .i64 ra2) ∧ w'.cell? ⟨w.heap.size + 1, 3, none⟩ = some (.int .i64 rb2) ∧ w'.cell? ⟨w.heap.size + 1, 4, none⟩ = some (.int .i64 im2) ∧ w'.cell? ⟨w.heap.size + 1, 5, none⟩ = some (.bool aq2) ∧ w'.cell? ⟨w.heap.size + 1, 6, none⟩ = some (.bool rl2))
    (first | assumption | (exact keepS (by assumption) (by assumption)) | (exact ⟨(Nb.refl _).trans (drewN_nb _ 1), c0, c1, c2, c3, c4, c5, c6, d0, d1, d2, d3, d4, d5, d6⟩))
    (first
      | (go_at_call 15; refine (text_any _ _ _ _ _ _ _ (by omega) (by omega) _ (lxS hL1 (by assumption)).1).mono ?_; rintro e w1 ⟨rfl, hn1⟩))
  rename_i hH
  clear c0 c1 c2 c3 c4 c5 c6 d0 d1 d2 d3 d4 d5 d6 hn1
  obtain ⟨hQ, c0, c1, c2, c3, c4, c5, c6, d0, d1, d2, d3, d4, d5, d6⟩ := hH
  generalize TextV op rd ra rb im aq rl = x at *
  generalize TextV op2 rd2 ra2 rb2 im2 aq2 rl2 = y at *
  go_wp2_with fail
  refine (H3.out _).mono ?_
  rintro e w5 ⟨rfl, hg⟩
  have hS := keepS hg ⟨hQ, c0, c1, c2, c3, c4, c5, c6, d0, d1, d2, d3, d4, d5, d6⟩
  clear hg hQ c0 c1 c2 c3 c4 c5 c6 d0 d1 d2 d3 d4 d5 d6
  obtain ⟨hQ, c0, c1, c2, c3, c4, c5, c6, d0, d1, d2, d3, d4, d5, d6⟩ := hS
  go_wp2_with fail
  refine (H4.out _).mono ?_
  rintro e w6 ⟨rfl, hg⟩
  have hS := keepS hg ⟨hQ, c0, c1, c2, c3, c4, c5, c6, d0, d1, d2, d3, d4, d5, d6⟩
  clear hg hQ c0 c1 c2 c3 c4 c5 c6 d0 d1 d2 d3 d4 d5 d6
  obtain ⟨hQ, c0, c1, c2, c3, c4, c5, c6, d0, d1, d2, d3, d4, d5, d6⟩ := hS
  go_wp2_with fail
  refine (tlives_any _ (hL1.of_nb hQ)).mono ?_
  rintro e w9 ⟨rfl, hg⟩
  go_wp2_with fail
  go_ret
  exact ⟨rfl, hN.trans (hQ.trans hg)⟩
set_option maxRecDepth 100000 in
set_option maxHeartbeats 4000000 in
theorem walk_c (op rd ra rb im op2 rd2 ra2 rb2 im2 : Int) (aq rl aq2 rl2 : Bool)
    (wi : -9223372036854775808 ≤ im ∧ im < 9223372036854775808) (wj : -9223372036854775808 ≤ im2 ∧ im2 < 9223372036854775808)
    (H3 : Hid (∀ w, Calls Tryd.prog 25 #[.agg #[.int .i64 op, .int .i64 rd, .int .i64 ra, .int .i64 rb, .int .i64 im, .bool aq, .bool rl]] w fun e w' => e = .returned (.bool true) ∧ Nb w w'))
    (H4 : Hid (∀ w, Calls Tryd.prog 25 #[.agg #[.int .i64 op2, .int .i64 rd2, .int .i64 ra2, .int .i64 rb2, .int .i64 im2, .bool aq2, .bool rl2]] w fun e w' => e = .returned (.bool true) ∧ Nb w w'))
    (hl : (TextV op rd ra rb im aq rl).length ≤ 40) (h10 : 10 ∉ TextV op rd ra rb im aq rl) (hx : (TextV op rd ra rb im aq rl == []) = false) (he : (TextV op rd ra rb im aq rl == TextV op2 rd2 ra2 rb2 im2 aq2 rl2) = EqI op rd ra rb im aq rl op2 rd2 ra2 rb2 im2 aq2 rl2)
    (w : World) (hL : Lx w) :
    Calls Tryd.prog 7 #[.agg #[.int .i64 op, .int .i64 rd, .int .i64 ra, .int .i64 rb, .int .i64 im, .bool aq, .bool rl], .agg #[.int .i64 op2, .int .i64 rd2, .int .i64 ra2, .int .i64 rb2, .int .i64 im2, .bool aq2, .bool rl2]] w fun e w' => e = .returned (.bool true) ∧ Nb w w' := by
  go_enter Tryd.func7, Tryd.ntmps7
  go_wp2_with fail
  obtain ⟨W1, h1⟩ : ∃ W1, w.alloc (Obj.cells #[.int .i64 op, .int .i64 rd, .int .i64 ra, .int .i64 rb, .int .i64 im, .bool aq, .bool rl] 23) = W1 := ⟨_, rfl⟩
  have k1 := blk_made w _ h1 rfl
  have z1 : W1.heap.size = w.heap.size + 1 := by rw [← h1]; exact Array.size_push _
  obtain ⟨W2, h2⟩ : ∃ W2, W1.alloc (Obj.cells #[.int .i64 op2, .int .i64 rd2, .int .i64 ra2, .int .i64 rb2, .int .i64 im2, .bool aq2, .bool rl2] 23) = W2 := ⟨_, rfl⟩
  have k2 := blk_made W1 _ h2 z1
  have m1 : Nb w W1 := by rw [← h1]; exact (Nb.refl _).alloc _
  have m2 : Nb W1 W2 := by rw [← h2]; exact (Nb.refl _).alloc _
  have hN := m1.trans m2
  replace k1 := m2.block k1
  rw [h1, h2]
  clear h1 h2 m1 m2 z1
  have hL1 := hL.of_nb hN
  clear hL
  obtain ⟨n1, c0, c1, c2, c3, c4, c5, c6⟩ := cells7 k1
  obtain ⟨n2, d0, d1, d2, d3, d4, d5, d6⟩ := cells7 k2
  clear n1 n2 k1 k2
  go_region_held3 (fun w' => Nb W2 w' ∧ w'.cell? ⟨w.heap.size, 0, none⟩ = some (.int .i64 op) ∧ w'.cell? ⟨w.heap.size, 1, none⟩ = some (.int .i64 rd) ∧ w'.cell? ⟨w.heap.size, 2, none⟩ = some (.int .i64 ra) ∧ w'.cell? ⟨w.heap.size, 3, none⟩ = some (.int .i64 rb) ∧ w'.cell? ⟨w.heap.size, 4, none⟩ = some (.int .i64 im) ∧ w'.cell? ⟨w.heap.size, 5, none⟩ = some (.bool aq) ∧ w'.cell? ⟨w.heap.size, 6, none⟩ = some (.bool rl) ∧ w'.cell? ⟨w.heap.size + 1, 0, none⟩ = some (.int .i64 op2) ∧ w'.cell? ⟨w.heap.size + 1, 1, none⟩ = some (.int .i64 rd2) ∧ w'.cell? ⟨w.heap.size + 1, 2, none⟩ = some (.int .i64 ra2) ∧ w'.cell? ⟨w.heap.size + 1, 3, none⟩ = some (.int .i64 rb2) ∧ w'.cell? ⟨w.heap.size + 1, 4, none⟩ = some (.int .i64 im2) ∧ w'.cell? ⟨w.heap.size + 1, 5, none⟩ = some (.bool aq2) ∧ w'.cell? ⟨w.heap.size + 1, 6, none⟩ = some (.bool rl2))
    (first | assumption | (exact keepS (by assumption) (by assumption)) | (exact ⟨(Nb.refl _).trans (drewN_nb _ 1), c0, c1, c2, c3, c4, c5, c6, d0, d1, d2, d3, d4, d5, d6⟩))
    (first
      | (go_at_call 15; refine (text_any _ _ _ _ _ _ _ (by omega) (by omega) _ (lxS hL1 (by assumption)).1).mono ?_; rintro e w1 ⟨rfl, hn1⟩))
  rename_i hH
  clear c0 c1 c2 c3 c4 c5 c6 d0 d1 d2 d3 d4 d5 d6 hn1
  obtain ⟨hQ, c0, c1, c2, c3, c4, c5, c6, d0, d1, d2, d3, d4, d5, d6⟩ := hH
  generalize TextV op rd ra rb im aq rl = x at *
  generalize TextV op2 rd2 ra2 rb2 im2 aq2 rl2 = y at *
  go_wp2_with fail
  refine (H3.out _).mono ?_
  rintro e w5 ⟨rfl, hg⟩
  have hS := keepS hg ⟨hQ, c0, c1, c2, c3, c4, c5, c6, d0, d1, d2, d3, d4, d5, d6⟩
  clear hg hQ c0 c1 c2 c3 c4 c5 c6 d0 d1 d2 d3 d4 d5 d6
  obtain ⟨hQ, c0, c1, c2, c3, c4, c5, c6, d0, d1, d2, d3, d4, d5, d6⟩ := hS
  go_wp2_with fail
  refine (H4.out _).mono ?_
  rintro e w6 ⟨rfl, hg⟩
  have hS := keepS hg ⟨hQ, c0, c1, c2, c3, c4, c5, c6, d0, d1, d2, d3, d4, d5, d6⟩
  clear hg hQ c0 c1 c2 c3 c4 c5 c6 d0 d1 d2 d3 d4 d5 d6
  obtain ⟨hQ, c0, c1, c2, c3, c4, c5, c6, d0, d1, d2, d3, d4, d5, d6⟩ := hS
  go_wp2_with fail
  go_loop [23] (fun i => ∃ k : Nat, k ≤ x.length ∧ i = .int .i64 k) (fun i => x.length - (intOf i).toNat)
  case atStart => exact ⟨0, Nat.zero_le _, rfl⟩
  case round =>
    obtain ⟨k, hk, rfl⟩ := hrel
    by_cases hlt : k < x.length
    · clear hk
      go_wp2_with fail
      · exact (no10 h10 k hlt _ (by assumption)).elim
      · exact ⟨⟨k + 1, hlt, rfl⟩, by simp [intOf]; omega⟩
    · have hkk : k = x.length := by omega
      subst hkk
      go_wp2_with fail
      refine (tlives_any _ (hL1.of_nb hQ)).mono ?_
      rintro e w9 ⟨rfl, hg⟩
      go_wp2_with fail
      go_ret
      exact ⟨rfl, hN.trans (hQ.trans hg)⟩
theorem eqi_refl (op rd ra rb im : Int) (aq rl : Bool) : EqI op rd ra rb im aq rl op rd ra rb im aq rl = true := by unfold EqI; simp
theorem eqi_eq {op rd ra rb im op2 rd2 ra2 rb2 im2 : Int} {aq rl aq2 rl2 : Bool} (h : EqI op rd ra rb im aq rl op2 rd2 ra2 rb2 im2 aq2 rl2 = true) :
    op = op2 ∧ rd = rd2 ∧ ra = ra2 ∧ rb = rb2 ∧ im = im2 ∧ aq = aq2 ∧ rl = rl2 := by
  unfold EqI at h
  simpa using h
theorem text_eq {op rd ra rb im op2 rd2 ra2 rb2 im2 : Int} {aq rl aq2 rl2 : Bool} (g1 : GoodB op rd ra rb im aq rl = true) (g2 : GoodB op2 rd2 ra2 rb2 im2 aq2 rl2 = true) :
    (TextV op rd ra rb im aq rl == TextV op2 rd2 ra2 rb2 im2 aq2 rl2) = EqI op rd ra rb im aq rl op2 rd2 ra2 rb2 im2 aq2 rl2 := by
  cases he : EqI op rd ra rb im aq rl op2 rd2 ra2 rb2 im2 aq2 rl2
  · rw [beq_eq_false_iff_ne]
    intro e
    unfold TextV at e
    rw [if_pos g1, if_pos g2] at e
    have h := text_inj (i := (op, rd, ra, rb, im, aq, rl)) (j := (op2, rd2, ra2, rb2, im2, aq2, rl2)) g1 g2 e
    simp only [Prod.mk.injEq] at h
    obtain ⟨rfl, rfl, rfl, rfl, rfl, rfl, rfl⟩ := h
    rw [eqi_refl] at he
    cases he
  · obtain ⟨rfl, rfl, rfl, rfl, rfl, rfl, rfl⟩ := eqi_eq he
    simp
set_option maxHeartbeats 1000000 in
theorem walk (op rd ra rb im : Int) (aq rl : Bool) (op2 rd2 ra2 rb2 im2 : Int) (aq2 rl2 : Bool) (wi : -9223372036854775808 ≤ im ∧ im < 9223372036854775808) (wj : -9223372036854775808 ≤ im2 ∧ im2 < 9223372036854775808) (w : World) (hL : Lx w) :
    Calls Tryd.prog 7 #[instV op rd ra rb im aq rl, instV op2 rd2 ra2 rb2 im2 aq2 rl2] w fun e w' => e = .returned (.bool true) ∧ Nb w w' := by
  have H3 := fun w => rgoodL op rd ra rb im aq rl wi.1 wi.2 w
  have H4 := fun w => rgoodL op2 rd2 ra2 rb2 im2 aq2 rl2 wj.1 wj.2 w
  cases g1 : GoodB op rd ra rb im aq rl <;> rw [g1] at H3
  · exact walk_a op rd ra rb im op2 rd2 ra2 rb2 im2 aq rl aq2 rl2 wi wj (Lib.hid H3) w hL
  cases g2 : GoodB op2 rd2 ra2 rb2 im2 aq2 rl2 <;> rw [g2] at H4
  · exact walk_b op rd ra rb im op2 rd2 ra2 rb2 im2 aq rl aq2 rl2 wi wj (Lib.hid H3) (Lib.hid H4) w hL
  have ht : TextV op rd ra rb im aq rl = textI (op, rd, ra, rb, im, aq, rl) := if_pos g1
  obtain ⟨l1, l2⟩ := text_len (i := (op, rd, ra, rb, im, aq, rl)) g1
  have l3 := text_line (i := (op, rd, ra, rb, im, aq, rl)) g1
  exact walk_c op rd ra rb im op2 rd2 ra2 rb2 im2 aq rl aq2 rl2 wi wj (Lib.hid H3) (Lib.hid H4) (by rw [ht]; exact l1) (by rw [ht]; exact l3)
    (by rw [ht, beq_eq_false_iff_ne]; intro e; rw [e] at l2; exact absurd l2 (by decide)) (text_eq g1 g2) w hL
/-! The row's step. -/
set_option maxRecDepth 100000 in
set_option maxHeartbeats 1000000 in
theorem lifted (os : Os) (started : os.Started) (H : Type) (enc : TypeId × Value → H) :
    ReturnsInHanded {} Tryd.checked os 7 .any (fun w args => (Rows.listingApartSpec.pre enc Tryd.prog Tryd.f7 [] false w args ∧ laidMetH Tryd.prog laidT w) ∧ sizedMet enc Tryd.prog Tryd.f7 (OpenSpec.ofChange Rows.listingApartSpec) false w args)
      (Rows.listingApartSpec.post enc Tryd.prog Tryd.f7 false true false false) := by
  refine returnsT (C := Tryd.checked) (X := fun w _ => laidMetH Tryd.prog laidT w) (fun _ _ _ hh h => h.of_heap hh) own started (by kernel_rfl) Tryd.func7
    (ChangeSpec.witness_shaped (enc := enc) (C := Tryd.checked) (os := os) (X := fun w _ => laidMetH Tryd.prog laidT w) false (World.doorLaid Tryd.prog 400 os) #[.agg #[.int .i64 0, .int .i64 0, .int .i64 0, .int .i64 0, .int .i64 0, .bool false, .bool false], .agg #[.int .i64 0, .int .i64 0, .int .i64 0, .int .i64 0, .int .i64 0, .bool false, .bool false]] 8 rfl (World.shaped_of_RefB (by kernel_rfl) (by kernel_rfl)) (by kernel_rfl) (by kernel_rfl) (by kernel_rfl) (door_metT os _)) ?_
  intro W base args ds gs before hval0 hW hsh hL
  have hval : ∀ (j : Nat) t v, Tryd.f7.params[j]? = some t → args[j]? = some v → Value.okWide Tryd.prog W .any base t v := hval0
  have hW' := hW
  obtain ⟨p, q, hA0, hV, rfl, hfz, hnd⟩ := hW
  have hA : DataW.TrodAll enc Tryd.prog W 0 (fun _ => true) true Tryd.f7.params.toList args.toList ds p := hA0
  rw [Tryd.params7] at hA hval
  obtain ⟨v0, vs0, d0, ds0, p0, q0, hargs0, rfl, rfl, h0, r0⟩ := trodAll_cons hA
  obtain ⟨v1, vs1, d1, ds1, p1, q1, hargs1, rfl, rfl, h1, r1⟩ := trodAll_cons r0
  obtain ⟨rfl, rfl, rfl⟩ := trodAll_nil r1
  obtain rfl : args = #[v0, v1] := by cases args; simp_all
  obtain ⟨rfl, rfl⟩ := trodVars_none hV
  obtain ⟨op0, rd0, rsa0, rsb0, im0, aq0, rl0, rfl, rfl, rfl, wo0, wr0, wa0, wb0, wi0⟩ := open_inst (hval 0 23 v0 rfl rfl) h0
  obtain ⟨op1, rd1, rsa1, rsb1, im1, aq1, rl1, rfl, rfl, rfl, wo1, wr1, wa1, wb1, wi1⟩ := open_inst (hval 1 23 v1 rfl rfl) h1
  clear hA0 hval0
  simp only [List.append_nil] at hW'
  refine (walk op0 rd0 rsa0 rsb0 im0 aq0 rl0 op1 rd1 rsa1 rsb1 im1 aq1 rl1 (i64_of wi0) (i64_of wi1) W (lx_of_laid hsh hL)).mono fun e W' ⟨he, hg⟩ => ?_
  subst he
  exact ⟨_, rfl, post_of_nb (pa := []) (pv := []) hW' (fun _ _ _ => (trodAll_cons_mk (shut_bool Tryd.underlying4 _) trodAll_mk0)) (fun sp _ => (trodAll_cons_mk (shut_inst wo0 wr0 wa0 wb0 wi0) (trodAll_cons_mk (shut_inst wo1 wr1 wa1 wb1 wi1) trodAll_mk0))) (fun _ _ => rfl) rfl
    hg (ok_one (by kernel_rfl) rfl (okWide_bool_mk Tryd.underlying4 _))⟩
theorem over : Rows.ListingApartSaid :=
  OpenClaim.holds_of_wide 7 Tryd.f7 rfl rfl rfl rfl rfl rfl rfl ⟨rfl, rfl, rfl, rfl, rfl⟩ rfl rfl rfl rfl rfl (by kernel_rfl) Tryd.func7 (by kernel_rfl)
    (of_decide_eq_true (by kernel_rfl)) (by unfold Func.isWrapper; first | (rw [if_pos (by decide +kernel)]; kernel_rfl) | (rw [if_neg (by decide +kernel)]; exact ⟨rfl, rfl⟩))
    (fun os started H enc _ => lifted os started H enc)
/-- The statement: the tied card. -/
theorem proved : Rows.ListingApartCardSaid :=
  Claim7.holds_tied_plain_at .later [] [.data, .data, .data, .data, .sentinel, .sentinel, .data] true (true, "1b30c97159391c2948209299fea3c696635feb17c735c187f33a81c21148e5d9") true
    over (fun _ h => by cases h) (by kernel_rfl) (fun _ h => by cases h) listingApart_row_tie rfl ⟨rfl, rfl⟩ (by kernel_rfl) rfl
    (fun f fn hf hfn => by
      obtain rfl : f = 7 := Option.some.inj ((show Tryd.prog.funcNamed "postbag/postbaglaw03.ListingApart" = some 7 by kernel_rfl).symm.trans hf) |>.symm
      obtain rfl : fn = Tryd.f7 := (Option.some.inj (Tryd.func7.symm.trans hfn)).symm
      exact ⟨by kernel_rfl, fun j t ht => by
        rw [Tryd.params7] at ht
        have hm : t ∈ [23, 23] := by simpa using Array.mem_of_getElem? ht
        have hall : ([23, 23].all fun u => !Tryd.prog.wantsStandIn u) = true := by kernel_rfl
        exact (show Tryd.prog.wantsStandIn t = false by simpa using List.all_eq_true.1 hall t hm)⟩)
    (by kernel_rfl)
#print axioms proved
end Go.Proofs.YtnifoghebnjonaaDoor.listingApart
