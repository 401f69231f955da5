/-
  Proved here: for every number that picks one of three pairs of opposite branches, every small offset and two numbers just one of the two branches is taken, and the first is taken of equal numbers just if it is beq. Condition: the table of codes holds what its text lays (the card ties it to the text).
-/
import Derived.Test.YtnifoghebnjonaaDoorCz
import Derived.Test.YtnifoghebnjonaaDoorCards
import Derived.Test.YtnifoghebnjonaaDoorTie
import Derived.SevenTiedAt
namespace Go.Proofs.YtnifoghebnjonaaDoor.aluTurn
open Go.ChangeShapes Go.WideShapes Go.ChangeAt Go.RowKit
set_option linter.unusedVariables false
theorem in_of {x : Int} (h : (Lit.int .u64 x).wf = true) : InU x := by
  simp [Lit.wf, IntKind.min, IntKind.max, IntKind.signed, IntKind.bits] at h
  unfold InU; omega
theorem codS {w W2 : World} (hC : Cod W2) {R : Prop} (hS : Nb W2 w ∧ R) : Cod w := hC.of_nb hS.1
theorem good_all : ∀ n : Nat, n < 256 → ∀ k : Nat, k < 6 → GoodB (5 + (k : Int)) 0 1 2 (2 * (n : Int) - 256) false false = true := by decide +kernel
theorem off_of (im : Int) : ∃ n : Nat, n < 256 ∧ wrap64 (2 * wrap64 (IntKind.i8.wrap im)) = 2 * (n : Int) - 256 := by
  have h : -128 ≤ IntKind.i8.wrap im ∧ IntKind.i8.wrap im < 128 := by
    simp [IntKind.wrap, IntKind.signed, IntKind.bits]; split <;> omega
  refine ⟨(IntKind.i8.wrap im + 128).toNat, by omega, ?_⟩
  generalize IntKind.i8.wrap im = z at *
  rw [IntWalk.wrap64_in z (by omega), IntWalk.wrap64_in (2 * z) (by omega)]
  omega
theorem rem3 (op : Int) : wrap64 ((IntKind.u64.wrap op).tmod 3) = 0 ∨ wrap64 ((IntKind.u64.wrap op).tmod 3) = 1 ∨ wrap64 ((IntKind.u64.wrap op).tmod 3) = 2 := by
  obtain ⟨a, b⟩ := in_wrap op
  generalize IntKind.u64.wrap op = z at *
  have h : z.tmod 3 = z % 3 := Int.tmod_eq_emod_of_nonneg a
  rw [h, IntWalk.wrap64_in (z % 3) (by omega)]
  omega
theorem keep_5 {w W W2 : World} {v : Int} {B : Nat} (h : Nb w W)
    (hS : Nb W2 w ∧ B < w.heap.size ∧ w.cell? ⟨B, 0, none⟩ = some (.int .i64 5) ∧ w.cell? ⟨B, 1, none⟩ = some (.int .i64 0) ∧ w.cell? ⟨B, 2, none⟩ = some (.int .i64 1) ∧ w.cell? ⟨B, 3, none⟩ = some (.int .i64 2) ∧ w.cell? ⟨B, 4, none⟩ = some (.int .i64 v) ∧ w.cell? ⟨B, 5, none⟩ = some (.bool false) ∧ w.cell? ⟨B, 6, none⟩ = some (.bool false) ∧ B + 1 < w.heap.size ∧ w.cell? ⟨B + 1, 0, none⟩ = some (.int .i64 6) ∧ w.cell? ⟨B + 1, 1, none⟩ = some (.int .i64 0) ∧ w.cell? ⟨B + 1, 2, none⟩ = some (.int .i64 1) ∧ w.cell? ⟨B + 1, 3, none⟩ = some (.int .i64 2) ∧ w.cell? ⟨B + 1, 4, none⟩ = some (.int .i64 v) ∧ w.cell? ⟨B + 1, 5, none⟩ = some (.bool false) ∧ w.cell? ⟨B + 1, 6, none⟩ = some (.bool false)) :
    Nb W2 W ∧ B < W.heap.size ∧ W.cell? ⟨B, 0, none⟩ = some (.int .i64 5) ∧ W.cell? ⟨B, 1, none⟩ = some (.int .i64 0) ∧ W.cell? ⟨B, 2, none⟩ = some (.int .i64 1) ∧ W.cell? ⟨B, 3, none⟩ = some (.int .i64 2) ∧ W.cell? ⟨B, 4, none⟩ = some (.int .i64 v) ∧ W.cell? ⟨B, 5, none⟩ = some (.bool false) ∧ W.cell? ⟨B, 6, none⟩ = some (.bool false) ∧ B + 1 < W.heap.size ∧ W.cell? ⟨B + 1, 0, none⟩ = some (.int .i64 6) ∧ W.cell? ⟨B + 1, 1, none⟩ = some (.int .i64 0) ∧ W.cell? ⟨B + 1, 2, none⟩ = some (.int .i64 1) ∧ W.cell? ⟨B + 1, 3, none⟩ = some (.int .i64 2) ∧ W.cell? ⟨B + 1, 4, none⟩ = some (.int .i64 v) ∧ W.cell? ⟨B + 1, 5, none⟩ = some (.bool false) ∧ W.cell? ⟨B + 1, 6, none⟩ = some (.bool false) :=
  ⟨hS.1.trans h, Nat.lt_of_lt_of_le hS.2.1 h.size, h.cell hS.2.2.1, h.cell hS.2.2.2.1, h.cell hS.2.2.2.2.1, h.cell hS.2.2.2.2.2.1, h.cell hS.2.2.2.2.2.2.1, h.cell hS.2.2.2.2.2.2.2.1, h.cell hS.2.2.2.2.2.2.2.2.1, Nat.lt_of_lt_of_le hS.2.2.2.2.2.2.2.2.2.1 h.size, h.cell hS.2.2.2.2.2.2.2.2.2.2.1, h.cell hS.2.2.2.2.2.2.2.2.2.2.2.1, h.cell hS.2.2.2.2.2.2.2.2.2.2.2.2.1, h.cell hS.2.2.2.2.2.2.2.2.2.2.2.2.2.1, h.cell hS.2.2.2.2.2.2.2.2.2.2.2.2.2.2.1, h.cell hS.2.2.2.2.2.2.2.2.2.2.2.2.2.2.2.1, h.cell hS.2.2.2.2.2.2.2.2.2.2.2.2.2.2.2.2⟩
set_option maxRecDepth 100000 in
set_option maxHeartbeats 2000000 in
theorem turn_5 (op im a b : Int) (L : Bool) (hk : wrap64 ((IntKind.u64.wrap op).tmod 3) = 0)
    (H1 : Hid (∀ v w, wrap64 (2 * wrap64 (IntKind.i8.wrap im)) = v → Cod w → Calls Tryd.prog 29 #[.agg #[.int .i64 5, .int .i64 0, .int .i64 1, .int .i64 2, .int .i64 v, .bool false, .bool false], .int .u64 a, .int .u64 b] w fun e w' => e = .returned (.bool L) ∧ Nb w w'))
    (H2 : Hid (∀ v w, wrap64 (2 * wrap64 (IntKind.i8.wrap im)) = v → Cod w → Calls Tryd.prog 29 #[.agg #[.int .i64 6, .int .i64 0, .int .i64 1, .int .i64 2, .int .i64 v, .bool false, .bool false], .int .u64 a, .int .u64 b] w fun e w' => e = .returned (.bool (!L)) ∧ Nb w w'))
    (H3 : Hid (∀ v w, wrap64 (2 * wrap64 (IntKind.i8.wrap im)) = v → Cod w → Calls Tryd.prog 29 #[.agg #[.int .i64 5, .int .i64 0, .int .i64 1, .int .i64 2, .int .i64 v, .bool false, .bool false], .int .u64 a, .int .u64 a] w fun e w' => e = .returned (.bool true) ∧ Nb w w'))
    (w : World) (hC : Cod w) :
    Calls Tryd.prog 12 #[.int .i64 op, .int .i64 im, .int .u64 a, .int .u64 b] w fun e w' => e = .returned (.bool true) ∧ Nb w w' := by
  have hi : ∀ (x y z : Int) (w : World), (Instr.index 59 (.agg #[.int .i64 x, .int .i64 y, .int .i64 z]) (.int .i64 0)).run Tryd.prog w = .ok (.int .i64 x) w := fun _ _ _ _ => by kernel_rfl
  cases L
  all_goals
    go_enter Tryd.func12, Tryd.ntmps12
    go_wp2_with fail
    generalize hv : wrap64 (2 * wrap64 (IntKind.i8.wrap im)) = v
    generalize wrap64 ((IntKind.u64.wrap op).tmod 3) = kk at *
    subst hk
    have HV := Lib.hid hv
    clear hv hi
    obtain ⟨W0, hW0⟩ : ∃ W0, w.alloc (.cells #[.int .i64 5, .int .i64 0, .int .i64 1, .int .i64 2, .int .i64 v, .bool false, .bool false] 23) = W0 := ⟨_, rfl⟩
    have hb0 := blk_made w _ hW0 rfl
    have h0 : Nb w W0 := by rw [← hW0]; exact (Nb.refl _).alloc _
    have hz : W0.heap.size = w.heap.size + 1 := by rw [← hW0]; simp
    rw [hW0]
    obtain ⟨W1, hW1⟩ : ∃ W1, W0.alloc (.cells #[.int .i64 6, .int .i64 0, .int .i64 1, .int .i64 2, .int .i64 v, .bool false, .bool false] 23) = W1 := ⟨_, rfl⟩
    have hb1 := blk_made W0 _ hW1 hz
    have h1 : Nb W0 W1 := by rw [← hW1]; exact (Nb.refl _).alloc _
    rw [hW1]
    have hN := h0.trans h1
    have hC1 := hC.of_nb hN
    obtain ⟨m1, d0, d1, d2, d3, d4, d5, d6⟩ := cells7 hb1
    obtain ⟨n1, c0, c1, c2, c3, c4, c5, c6⟩ := cells7 (Nb.block h1 hb0)
    clear hb1 hb0 hW0 hW1 h0 h1 hC hz
    go_region_held3 (fun w' => Nb W1 w' ∧ w.heap.size < w'.heap.size ∧ w'.cell? ⟨w.heap.size, 0, none⟩ = some (.int .i64 5) ∧ w'.cell? ⟨w.heap.size, 1, none⟩ = some (.int .i64 0) ∧ w'.cell? ⟨w.heap.size, 2, none⟩ = some (.int .i64 1) ∧ w'.cell? ⟨w.heap.size, 3, none⟩ = some (.int .i64 2) ∧ w'.cell? ⟨w.heap.size, 4, none⟩ = some (.int .i64 v) ∧ w'.cell? ⟨w.heap.size, 5, none⟩ = some (.bool false) ∧ w'.cell? ⟨w.heap.size, 6, none⟩ = some (.bool false) ∧ w.heap.size + 1 < w'.heap.size ∧ w'.cell? ⟨w.heap.size + 1, 0, none⟩ = some (.int .i64 6) ∧ w'.cell? ⟨w.heap.size + 1, 1, none⟩ = some (.int .i64 0) ∧ w'.cell? ⟨w.heap.size + 1, 2, none⟩ = some (.int .i64 1) ∧ w'.cell? ⟨w.heap.size + 1, 3, none⟩ = some (.int .i64 2) ∧ w'.cell? ⟨w.heap.size + 1, 4, none⟩ = some (.int .i64 v) ∧ w'.cell? ⟨w.heap.size + 1, 5, none⟩ = some (.bool false) ∧ w'.cell? ⟨w.heap.size + 1, 6, none⟩ = some (.bool false))
      (first | assumption | (exact keep_5 (by assumption) (by assumption)) | (exact ⟨(Nb.refl _).drewN 1, n1, c0, c1, c2, c3, c4, c5, c6, m1, d0, d1, d2, d3, d4, d5, d6⟩))
      (first
        | (go_at_call 29; (with_reducible refine (H1.out _ _ HV.out (codS hC1 (by assumption))).mono ?_); rintro e w1 ⟨rfl, hn1⟩)
        | (go_at_call 29; (with_reducible refine (H2.out _ _ HV.out (codS hC1 (by assumption))).mono ?_); rintro e w1 ⟨rfl, hn1⟩)
        | (go_at_call 29; (with_reducible refine (H3.out _ _ HV.out (codS hC1 (by assumption))).mono ?_); rintro e w1 ⟨rfl, hn1⟩)
        | (go_at_call 28; refine (alives_any _ (codS hC1 (by assumption))).mono ?_; rintro e w1 ⟨rfl, hn7⟩))
    rename_i hH
    have hN2 := hN.trans hH.1
    clear hH n1 c0 c1 c2 c3 c4 c5 c6 m1 d0 d1 d2 d3 d4 d5 d6 hC1 hN
    go_wp2_with fail
    go_ret
    exact ⟨rfl, hN2⟩
theorem keep_7 {w W W2 : World} {v : Int} {B : Nat} (h : Nb w W)
    (hS : Nb W2 w ∧ B < w.heap.size ∧ w.cell? ⟨B, 0, none⟩ = some (.int .i64 7) ∧ w.cell? ⟨B, 1, none⟩ = some (.int .i64 0) ∧ w.cell? ⟨B, 2, none⟩ = some (.int .i64 1) ∧ w.cell? ⟨B, 3, none⟩ = some (.int .i64 2) ∧ w.cell? ⟨B, 4, none⟩ = some (.int .i64 v) ∧ w.cell? ⟨B, 5, none⟩ = some (.bool false) ∧ w.cell? ⟨B, 6, none⟩ = some (.bool false) ∧ B + 1 < w.heap.size ∧ w.cell? ⟨B + 1, 0, none⟩ = some (.int .i64 8) ∧ w.cell? ⟨B + 1, 1, none⟩ = some (.int .i64 0) ∧ w.cell? ⟨B + 1, 2, none⟩ = some (.int .i64 1) ∧ w.cell? ⟨B + 1, 3, none⟩ = some (.int .i64 2) ∧ w.cell? ⟨B + 1, 4, none⟩ = some (.int .i64 v) ∧ w.cell? ⟨B + 1, 5, none⟩ = some (.bool false) ∧ w.cell? ⟨B + 1, 6, none⟩ = some (.bool false)) :
    Nb W2 W ∧ B < W.heap.size ∧ W.cell? ⟨B, 0, none⟩ = some (.int .i64 7) ∧ W.cell? ⟨B, 1, none⟩ = some (.int .i64 0) ∧ W.cell? ⟨B, 2, none⟩ = some (.int .i64 1) ∧ W.cell? ⟨B, 3, none⟩ = some (.int .i64 2) ∧ W.cell? ⟨B, 4, none⟩ = some (.int .i64 v) ∧ W.cell? ⟨B, 5, none⟩ = some (.bool false) ∧ W.cell? ⟨B, 6, none⟩ = some (.bool false) ∧ B + 1 < W.heap.size ∧ W.cell? ⟨B + 1, 0, none⟩ = some (.int .i64 8) ∧ W.cell? ⟨B + 1, 1, none⟩ = some (.int .i64 0) ∧ W.cell? ⟨B + 1, 2, none⟩ = some (.int .i64 1) ∧ W.cell? ⟨B + 1, 3, none⟩ = some (.int .i64 2) ∧ W.cell? ⟨B + 1, 4, none⟩ = some (.int .i64 v) ∧ W.cell? ⟨B + 1, 5, none⟩ = some (.bool false) ∧ W.cell? ⟨B + 1, 6, none⟩ = some (.bool false) :=
  ⟨hS.1.trans h, Nat.lt_of_lt_of_le hS.2.1 h.size, h.cell hS.2.2.1, h.cell hS.2.2.2.1, h.cell hS.2.2.2.2.1, h.cell hS.2.2.2.2.2.1, h.cell hS.2.2.2.2.2.2.1, h.cell hS.2.2.2.2.2.2.2.1, h.cell hS.2.2.2.2.2.2.2.2.1, Nat.lt_of_lt_of_le hS.2.2.2.2.2.2.2.2.2.1 h.size, h.cell hS.2.2.2.2.2.2.2.2.2.2.1, h.cell hS.2.2.2.2.2.2.2.2.2.2.2.1, h.cell hS.2.2.2.2.2.2.2.2.2.2.2.2.1, h.cell hS.2.2.2.2.2.2.2.2.2.2.2.2.2.1, h.cell hS.2.2.2.2.2.2.2.2.2.2.2.2.2.2.1, h.cell hS.2.2.2.2.2.2.2.2.2.2.2.2.2.2.2.1, h.cell hS.2.2.2.2.2.2.2.2.2.2.2.2.2.2.2.2⟩
set_option maxRecDepth 100000 in
set_option maxHeartbeats 2000000 in
theorem turn_7 (op im a b : Int) (L : Bool) (hk : wrap64 ((IntKind.u64.wrap op).tmod 3) = 1)
    (H1 : Hid (∀ v w, wrap64 (2 * wrap64 (IntKind.i8.wrap im)) = v → Cod w → Calls Tryd.prog 29 #[.agg #[.int .i64 7, .int .i64 0, .int .i64 1, .int .i64 2, .int .i64 v, .bool false, .bool false], .int .u64 a, .int .u64 b] w fun e w' => e = .returned (.bool L) ∧ Nb w w'))
    (H2 : Hid (∀ v w, wrap64 (2 * wrap64 (IntKind.i8.wrap im)) = v → Cod w → Calls Tryd.prog 29 #[.agg #[.int .i64 8, .int .i64 0, .int .i64 1, .int .i64 2, .int .i64 v, .bool false, .bool false], .int .u64 a, .int .u64 b] w fun e w' => e = .returned (.bool (!L)) ∧ Nb w w'))
    (H3 : Hid (∀ v w, wrap64 (2 * wrap64 (IntKind.i8.wrap im)) = v → Cod w → Calls Tryd.prog 29 #[.agg #[.int .i64 7, .int .i64 0, .int .i64 1, .int .i64 2, .int .i64 v, .bool false, .bool false], .int .u64 a, .int .u64 a] w fun e w' => e = .returned (.bool false) ∧ Nb w w'))
    (w : World) (hC : Cod w) :
    Calls Tryd.prog 12 #[.int .i64 op, .int .i64 im, .int .u64 a, .int .u64 b] w fun e w' => e = .returned (.bool true) ∧ Nb w w' := by
  have hi : ∀ (x y z : Int) (w : World), (Instr.index 59 (.agg #[.int .i64 x, .int .i64 y, .int .i64 z]) (.int .i64 1)).run Tryd.prog w = .ok (.int .i64 y) w := fun _ _ _ _ => by kernel_rfl
  cases L
  all_goals
    go_enter Tryd.func12, Tryd.ntmps12
    go_wp2_with fail
    generalize hv : wrap64 (2 * wrap64 (IntKind.i8.wrap im)) = v
    generalize wrap64 ((IntKind.u64.wrap op).tmod 3) = kk at *
    subst hk
    have HV := Lib.hid hv
    clear hv hi
    obtain ⟨W0, hW0⟩ : ∃ W0, w.alloc (.cells #[.int .i64 7, .int .i64 0, .int .i64 1, .int .i64 2, .int .i64 v, .bool false, .bool false] 23) = W0 := ⟨_, rfl⟩
    have hb0 := blk_made w _ hW0 rfl
    have h0 : Nb w W0 := by rw [← hW0]; exact (Nb.refl _).alloc _
    have hz : W0.heap.size = w.heap.size + 1 := by rw [← hW0]; simp
    rw [hW0]
    obtain ⟨W1, hW1⟩ : ∃ W1, W0.alloc (.cells #[.int .i64 8, .int .i64 0, .int .i64 1, .int .i64 2, .int .i64 v, .bool false, .bool false] 23) = W1 := ⟨_, rfl⟩
    have hb1 := blk_made W0 _ hW1 hz
    have h1 : Nb W0 W1 := by rw [← hW1]; exact (Nb.refl _).alloc _
    rw [hW1]
    have hN := h0.trans h1
    have hC1 := hC.of_nb hN
    obtain ⟨m1, d0, d1, d2, d3, d4, d5, d6⟩ := cells7 hb1
    obtain ⟨n1, c0, c1, c2, c3, c4, c5, c6⟩ := cells7 (Nb.block h1 hb0)
    clear hb1 hb0 hW0 hW1 h0 h1 hC hz
    go_region_held3 (fun w' => Nb W1 w' ∧ w.heap.size < w'.heap.size ∧ w'.cell? ⟨w.heap.size, 0, none⟩ = some (.int .i64 7) ∧ w'.cell? ⟨w.heap.size, 1, none⟩ = some (.int .i64 0) ∧ w'.cell? ⟨w.heap.size, 2, none⟩ = some (.int .i64 1) ∧ w'.cell? ⟨w.heap.size, 3, none⟩ = some (.int .i64 2) ∧ w'.cell? ⟨w.heap.size, 4, none⟩ = some (.int .i64 v) ∧ w'.cell? ⟨w.heap.size, 5, none⟩ = some (.bool false) ∧ w'.cell? ⟨w.heap.size, 6, none⟩ = some (.bool false) ∧ w.heap.size + 1 < w'.heap.size ∧ w'.cell? ⟨w.heap.size + 1, 0, none⟩ = some (.int .i64 8) ∧ w'.cell? ⟨w.heap.size + 1, 1, none⟩ = some (.int .i64 0) ∧ w'.cell? ⟨w.heap.size + 1, 2, none⟩ = some (.int .i64 1) ∧ w'.cell? ⟨w.heap.size + 1, 3, none⟩ = some (.int .i64 2) ∧ w'.cell? ⟨w.heap.size + 1, 4, none⟩ = some (.int .i64 v) ∧ w'.cell? ⟨w.heap.size + 1, 5, none⟩ = some (.bool false) ∧ w'.cell? ⟨w.heap.size + 1, 6, none⟩ = some (.bool false))
      (first | assumption | (exact keep_7 (by assumption) (by assumption)) | (exact ⟨(Nb.refl _).drewN 1, n1, c0, c1, c2, c3, c4, c5, c6, m1, d0, d1, d2, d3, d4, d5, d6⟩))
      (first
        | (go_at_call 29; (with_reducible refine (H1.out _ _ HV.out (codS hC1 (by assumption))).mono ?_); rintro e w1 ⟨rfl, hn1⟩)
        | (go_at_call 29; (with_reducible refine (H2.out _ _ HV.out (codS hC1 (by assumption))).mono ?_); rintro e w1 ⟨rfl, hn1⟩)
        | (go_at_call 29; (with_reducible refine (H3.out _ _ HV.out (codS hC1 (by assumption))).mono ?_); rintro e w1 ⟨rfl, hn1⟩)
        | (go_at_call 28; refine (alives_any _ (codS hC1 (by assumption))).mono ?_; rintro e w1 ⟨rfl, hn7⟩))
    rename_i hH
    have hN2 := hN.trans hH.1
    clear hH n1 c0 c1 c2 c3 c4 c5 c6 m1 d0 d1 d2 d3 d4 d5 d6 hC1 hN
    go_wp2_with fail
    go_ret
    exact ⟨rfl, hN2⟩
theorem keep_9 {w W W2 : World} {v : Int} {B : Nat} (h : Nb w W)
    (hS : Nb W2 w ∧ B < w.heap.size ∧ w.cell? ⟨B, 0, none⟩ = some (.int .i64 9) ∧ w.cell? ⟨B, 1, none⟩ = some (.int .i64 0) ∧ w.cell? ⟨B, 2, none⟩ = some (.int .i64 1) ∧ w.cell? ⟨B, 3, none⟩ = some (.int .i64 2) ∧ w.cell? ⟨B, 4, none⟩ = some (.int .i64 v) ∧ w.cell? ⟨B, 5, none⟩ = some (.bool false) ∧ w.cell? ⟨B, 6, none⟩ = some (.bool false) ∧ B + 1 < w.heap.size ∧ w.cell? ⟨B + 1, 0, none⟩ = some (.int .i64 10) ∧ w.cell? ⟨B + 1, 1, none⟩ = some (.int .i64 0) ∧ w.cell? ⟨B + 1, 2, none⟩ = some (.int .i64 1) ∧ w.cell? ⟨B + 1, 3, none⟩ = some (.int .i64 2) ∧ w.cell? ⟨B + 1, 4, none⟩ = some (.int .i64 v) ∧ w.cell? ⟨B + 1, 5, none⟩ = some (.bool false) ∧ w.cell? ⟨B + 1, 6, none⟩ = some (.bool false)) :
    Nb W2 W ∧ B < W.heap.size ∧ W.cell? ⟨B, 0, none⟩ = some (.int .i64 9) ∧ W.cell? ⟨B, 1, none⟩ = some (.int .i64 0) ∧ W.cell? ⟨B, 2, none⟩ = some (.int .i64 1) ∧ W.cell? ⟨B, 3, none⟩ = some (.int .i64 2) ∧ W.cell? ⟨B, 4, none⟩ = some (.int .i64 v) ∧ W.cell? ⟨B, 5, none⟩ = some (.bool false) ∧ W.cell? ⟨B, 6, none⟩ = some (.bool false) ∧ B + 1 < W.heap.size ∧ W.cell? ⟨B + 1, 0, none⟩ = some (.int .i64 10) ∧ W.cell? ⟨B + 1, 1, none⟩ = some (.int .i64 0) ∧ W.cell? ⟨B + 1, 2, none⟩ = some (.int .i64 1) ∧ W.cell? ⟨B + 1, 3, none⟩ = some (.int .i64 2) ∧ W.cell? ⟨B + 1, 4, none⟩ = some (.int .i64 v) ∧ W.cell? ⟨B + 1, 5, none⟩ = some (.bool false) ∧ W.cell? ⟨B + 1, 6, none⟩ = some (.bool false) :=
  ⟨hS.1.trans h, Nat.lt_of_lt_of_le hS.2.1 h.size, h.cell hS.2.2.1, h.cell hS.2.2.2.1, h.cell hS.2.2.2.2.1, h.cell hS.2.2.2.2.2.1, h.cell hS.2.2.2.2.2.2.1, h.cell hS.2.2.2.2.2.2.2.1, h.cell hS.2.2.2.2.2.2.2.2.1, Nat.lt_of_lt_of_le hS.2.2.2.2.2.2.2.2.2.1 h.size, h.cell hS.2.2.2.2.2.2.2.2.2.2.1, h.cell hS.2.2.2.2.2.2.2.2.2.2.2.1, h.cell hS.2.2.2.2.2.2.2.2.2.2.2.2.1, h.cell hS.2.2.2.2.2.2.2.2.2.2.2.2.2.1, h.cell hS.2.2.2.2.2.2.2.2.2.2.2.2.2.2.1, h.cell hS.2.2.2.2.2.2.2.2.2.2.2.2.2.2.2.1, h.cell hS.2.2.2.2.2.2.2.2.2.2.2.2.2.2.2.2⟩
set_option maxRecDepth 100000 in
set_option maxHeartbeats 2000000 in
theorem turn_9 (op im a b : Int) (L : Bool) (hk : wrap64 ((IntKind.u64.wrap op).tmod 3) = 2)
    (H1 : Hid (∀ v w, wrap64 (2 * wrap64 (IntKind.i8.wrap im)) = v → Cod w → Calls Tryd.prog 29 #[.agg #[.int .i64 9, .int .i64 0, .int .i64 1, .int .i64 2, .int .i64 v, .bool false, .bool false], .int .u64 a, .int .u64 b] w fun e w' => e = .returned (.bool L) ∧ Nb w w'))
    (H2 : Hid (∀ v w, wrap64 (2 * wrap64 (IntKind.i8.wrap im)) = v → Cod w → Calls Tryd.prog 29 #[.agg #[.int .i64 10, .int .i64 0, .int .i64 1, .int .i64 2, .int .i64 v, .bool false, .bool false], .int .u64 a, .int .u64 b] w fun e w' => e = .returned (.bool (!L)) ∧ Nb w w'))
    (H3 : Hid (∀ v w, wrap64 (2 * wrap64 (IntKind.i8.wrap im)) = v → Cod w → Calls Tryd.prog 29 #[.agg #[.int .i64 9, .int .i64 0, .int .i64 1, .int .i64 2, .int .i64 v, .bool false, .bool false], .int .u64 a, .int .u64 a] w fun e w' => e = .returned (.bool false) ∧ Nb w w'))
    (w : World) (hC : Cod w) :
    Calls Tryd.prog 12 #[.int .i64 op, .int .i64 im, .int .u64 a, .int .u64 b] w fun e w' => e = .returned (.bool true) ∧ Nb w w' := by
  have hi : ∀ (x y z : Int) (w : World), (Instr.index 59 (.agg #[.int .i64 x, .int .i64 y, .int .i64 z]) (.int .i64 2)).run Tryd.prog w = .ok (.int .i64 z) w := fun _ _ _ _ => by kernel_rfl
  cases L
  all_goals
    go_enter Tryd.func12, Tryd.ntmps12
    go_wp2_with fail
    generalize hv : wrap64 (2 * wrap64 (IntKind.i8.wrap im)) = v
    generalize wrap64 ((IntKind.u64.wrap op).tmod 3) = kk at *
    subst hk
    have HV := Lib.hid hv
    clear hv hi
    obtain ⟨W0, hW0⟩ : ∃ W0, w.alloc (.cells #[.int .i64 9, .int .i64 0, .int .i64 1, .int .i64 2, .int .i64 v, .bool false, .bool false] 23) = W0 := ⟨_, rfl⟩
    have hb0 := blk_made w _ hW0 rfl
    have h0 : Nb w W0 := by rw [← hW0]; exact (Nb.refl _).alloc _
    have hz : W0.heap.size = w.heap.size + 1 := by rw [← hW0]; simp
    rw [hW0]
    obtain ⟨W1, hW1⟩ : ∃ W1, W0.alloc (.cells #[.int .i64 10, .int .i64 0, .int .i64 1, .int .i64 2, .int .i64 v, .bool false, .bool false] 23) = W1 := ⟨_, rfl⟩
    have hb1 := blk_made W0 _ hW1 hz
    have h1 : Nb W0 W1 := by rw [← hW1]; exact (Nb.refl _).alloc _
    rw [hW1]
    have hN := h0.trans h1
    have hC1 := hC.of_nb hN
    obtain ⟨m1, d0, d1, d2, d3, d4, d5, d6⟩ := cells7 hb1
    obtain ⟨n1, c0, c1, c2, c3, c4, c5, c6⟩ := cells7 (Nb.block h1 hb0)
    clear hb1 hb0 hW0 hW1 h0 h1 hC hz
    go_region_held3 (fun w' => Nb W1 w' ∧ w.heap.size < w'.heap.size ∧ w'.cell? ⟨w.heap.size, 0, none⟩ = some (.int .i64 9) ∧ w'.cell? ⟨w.heap.size, 1, none⟩ = some (.int .i64 0) ∧ w'.cell? ⟨w.heap.size, 2, none⟩ = some (.int .i64 1) ∧ w'.cell? ⟨w.heap.size, 3, none⟩ = some (.int .i64 2) ∧ w'.cell? ⟨w.heap.size, 4, none⟩ = some (.int .i64 v) ∧ w'.cell? ⟨w.heap.size, 5, none⟩ = some (.bool false) ∧ w'.cell? ⟨w.heap.size, 6, none⟩ = some (.bool false) ∧ w.heap.size + 1 < w'.heap.size ∧ w'.cell? ⟨w.heap.size + 1, 0, none⟩ = some (.int .i64 10) ∧ w'.cell? ⟨w.heap.size + 1, 1, none⟩ = some (.int .i64 0) ∧ w'.cell? ⟨w.heap.size + 1, 2, none⟩ = some (.int .i64 1) ∧ w'.cell? ⟨w.heap.size + 1, 3, none⟩ = some (.int .i64 2) ∧ w'.cell? ⟨w.heap.size + 1, 4, none⟩ = some (.int .i64 v) ∧ w'.cell? ⟨w.heap.size + 1, 5, none⟩ = some (.bool false) ∧ w'.cell? ⟨w.heap.size + 1, 6, none⟩ = some (.bool false))
      (first | assumption | (exact keep_9 (by assumption) (by assumption)) | (exact ⟨(Nb.refl _).drewN 1, n1, c0, c1, c2, c3, c4, c5, c6, m1, d0, d1, d2, d3, d4, d5, d6⟩))
      (first
        | (go_at_call 29; (with_reducible refine (H1.out _ _ HV.out (codS hC1 (by assumption))).mono ?_); rintro e w1 ⟨rfl, hn1⟩)
        | (go_at_call 29; (with_reducible refine (H2.out _ _ HV.out (codS hC1 (by assumption))).mono ?_); rintro e w1 ⟨rfl, hn1⟩)
        | (go_at_call 29; (with_reducible refine (H3.out _ _ HV.out (codS hC1 (by assumption))).mono ?_); rintro e w1 ⟨rfl, hn1⟩)
        | (go_at_call 28; refine (alives_any _ (codS hC1 (by assumption))).mono ?_; rintro e w1 ⟨rfl, hn7⟩))
    rename_i hH
    have hN2 := hN.trans hH.1
    clear hH n1 c0 c1 c2 c3 c4 c5 c6 m1 d0 d1 d2 d3 d4 d5 d6 hC1 hN
    go_wp2_with fail
    go_ret
    exact ⟨rfl, hN2⟩
theorem tk_good (k : Nat) (hk : k < 6) (im x y : Int) (qx : InU x) (qy : InU y) (v : Int) (w : World) (hv : wrap64 (2 * wrap64 (IntKind.i8.wrap im)) = v) (hC : Cod w) :
    Calls Tryd.prog 29 #[.agg #[.int .i64 (5 + (k : Int)), .int .i64 0, .int .i64 1, .int .i64 2, .int .i64 v, .bool false, .bool false], .int .u64 x, .int .u64 y] w fun e w' => e = .returned (.bool (TakeB (5 + (k : Int)) x y)) ∧ Nb w w' := by
  obtain ⟨n, hn, e⟩ := off_of im
  have hg := good_all n hn k hk
  rw [← e, hv] at hg
  have h := tk_any (5 + (k : Int)) 0 1 2 v x y false false qx qy (by omega) (by omega) w hC
  unfold TkB at h
  rw [hg, if_pos rfl] at h
  exact h
theorem walk (op im a b : Int) (wo : -9223372036854775808 ≤ op ∧ op < 9223372036854775808) (wi : -9223372036854775808 ≤ im ∧ im < 9223372036854775808) (qa : InU a) (qb : InU b) (w : World) (hC : Cod w) :
    Calls Tryd.prog 12 #[.int .i64 op, .int .i64 im, .int .u64 a, .int .u64 b] w fun e w' => e = .returned (.bool true) ∧ Nb w w' := by
  rcases rem3 op with hk | hk | hk
  · refine turn_5 op im a b (a == b) hk (Lib.hid fun v w hv hC => tk_good 0 (by decide) im a b qa qb v w hv hC) (Lib.hid fun v w hv hC => ?_) (Lib.hid fun v w hv hC => ?_) w hC
    · exact tk_good 1 (by decide) im a b qa qb v w hv hC
    · have h := tk_good 0 (by decide) im a a qa qa v w hv hC
      rw [show TakeB (5 + ((0 : Nat) : Int)) a a = true from by simp [TakeB]] at h
      exact h
  · refine turn_7 op im a b (LtS a b) hk (Lib.hid fun v w hv hC => tk_good 2 (by decide) im a b qa qb v w hv hC) (Lib.hid fun v w hv hC => ?_) (Lib.hid fun v w hv hC => ?_) w hC
    · exact tk_good 3 (by decide) im a b qa qb v w hv hC
    · have h := tk_good 2 (by decide) im a a qa qa v w hv hC
      rw [show TakeB (5 + ((2 : Nat) : Int)) a a = false from by simp [TakeB, LtS]] at h
      exact h
  · refine turn_9 op im a b (LtU a b) hk (Lib.hid fun v w hv hC => tk_good 4 (by decide) im a b qa qb v w hv hC) (Lib.hid fun v w hv hC => ?_) (Lib.hid fun v w hv hC => ?_) w hC
    · exact tk_good 5 (by decide) im a b qa qb v w hv hC
    · have h := tk_good 4 (by decide) im a a qa qa v w hv hC
      rw [show TakeB (5 + ((4 : Nat) : Int)) a a = false from by simp [TakeB, LtU]] at h
      exact h
/-! The row's step. -/
set_option maxRecDepth 100000 in
set_option maxHeartbeats 1000000 in
theorem lifted (os : Os) (started : os.Started) (H : Type) (enc : TypeId × Value → H) :
    ReturnsInHanded {} Tryd.checked os 12 .any (fun w args => (Rows.aluTurnSpec.pre enc Tryd.prog Tryd.f12 [] false w args ∧ laidMetH Tryd.prog laidL w) ∧ sizedMet enc Tryd.prog Tryd.f12 (OpenSpec.ofChange Rows.aluTurnSpec) false w args)
      (Rows.aluTurnSpec.post enc Tryd.prog Tryd.f12 false true false false) := by
  refine returnsInHanded_of_change_and (C := Tryd.checked) (X := fun w _ => laidMetH Tryd.prog laidL w) (fun _ _ _ hh h => h.of_heap hh) own started (by kernel_rfl) Tryd.func12
    (ChangeSpec.witness_shaped (enc := enc) (C := Tryd.checked) (os := os) (X := fun w _ => laidMetH Tryd.prog laidL w) false (World.doorLaid Tryd.prog 400 os) #[.int .i64 0, .int .i64 0, .int .u64 0, .int .u64 0] 8 rfl (World.shaped_of_RefB (by kernel_rfl) (by kernel_rfl)) (by kernel_rfl) (by kernel_rfl) (by kernel_rfl) (door_met os _)) ?_
  intro W base args ds gs before hval0 hW _ _ hL _
  have hval : ∀ (j : Nat) t v, Tryd.f12.params[j]? = some t → args[j]? = some v → Value.okWide Tryd.prog W .any base t v := hval0
  have hW' := hW
  obtain ⟨p, q, hA0, hV, rfl, hfz, hnd⟩ := hW
  have hA : DataW.TrodAll enc Tryd.prog W 0 (fun _ => true) true Tryd.f12.params.toList args.toList ds p := hA0
  rw [Tryd.params12] at hA hval
  obtain ⟨v0, vs0, d0, ds0, p0, q0, hargs0, rfl, rfl, h0, r0⟩ := trodAll_cons hA
  obtain ⟨v1, vs1, d1, ds1, p1, q1, hargs1, rfl, rfl, h1, r1⟩ := trodAll_cons r0
  obtain ⟨v2, vs2, d2, ds2, p2, q2, hargs2, rfl, rfl, h2, r2⟩ := trodAll_cons r1
  obtain ⟨v3, vs3, d3, ds3, p3, q3, hargs3, rfl, rfl, h3, r3⟩ := trodAll_cons r2
  obtain ⟨rfl, rfl, rfl⟩ := trodAll_nil r3
  obtain rfl : args = #[v0, v1, v2, v3] := by cases args; simp_all
  obtain ⟨rfl, rfl⟩ := trodVars_none hV
  obtain ⟨n0, rfl, rfl, rfl, w0⟩ := open_int Tryd.underlying3 (hval 0 3 v0 rfl rfl) h0
  obtain ⟨n1, rfl, rfl, rfl, w1⟩ := open_int Tryd.underlying3 (hval 1 3 v1 rfl rfl) h1
  obtain ⟨n2, rfl, rfl, rfl, w2⟩ := open_int Tryd.underlying43 (hval 2 43 v2 rfl rfl) h2
  obtain ⟨n3, rfl, rfl, rfl, w3⟩ := open_int Tryd.underlying43 (hval 3 43 v3 rfl rfl) h3
  clear hA0 hval0
  simp only [List.append_nil] at hW'
  refine (walk n0 n1 n2 n3 (i64_of w0) (i64_of w1) (in_of w2) (in_of w3) W (cod_of_laid hL)).mono fun e W' ⟨he, hg⟩ => ?_
  subst he
  exact ⟨_, rfl, post_of_nb (pa := []) (pv := []) hW' (fun _ _ _ => (trodAll_cons_mk (shut_bool Tryd.underlying4 _) trodAll_mk0)) (fun sp _ => (trodAll_cons_mk (shut_int Tryd.underlying3 w0) (trodAll_cons_mk (shut_int Tryd.underlying3 w1) (trodAll_cons_mk (shut_int Tryd.underlying43 w2) (trodAll_cons_mk (shut_int Tryd.underlying43 w3) trodAll_mk0))))) (fun _ _ => rfl) rfl
    hg (ok_one (by kernel_rfl) rfl (okWide_bool_mk Tryd.underlying4 _))⟩
theorem over : Rows.AluTurnSaid :=
  OpenClaim.holds_of_wide 12 Tryd.f12 rfl rfl rfl rfl rfl rfl rfl ⟨rfl, rfl, rfl, rfl, rfl⟩ rfl rfl rfl rfl rfl (by kernel_rfl) Tryd.func12 (by kernel_rfl)
    (of_decide_eq_true (by kernel_rfl)) (by unfold Func.isWrapper; first | (rw [if_pos (by decide +kernel)]; kernel_rfl) | (rw [if_neg (by decide +kernel)]; exact ⟨rfl, rfl⟩))
    (fun os started H enc _ => lifted os started H enc)
/-- The statement: the tied card. -/
theorem proved : Rows.AluTurnCardSaid :=
  Claim7.holds_tied_plain_at .later [] [.data] true (true, "1b30c97159391c2948209299fea3c696635feb17c735c187f33a81c21148e5d9") true
    over (fun _ h => by cases h) (by kernel_rfl) (fun _ h => by cases h) aluTurn_row_tie rfl ⟨rfl, rfl⟩ (by kernel_rfl) rfl
    (fun f fn hf hfn => by
      obtain rfl : f = 12 := Option.some.inj ((show Tryd.prog.funcNamed "postbag/postbaglaw04.AluTurn" = some 12 by kernel_rfl).symm.trans hf) |>.symm
      obtain rfl : fn = Tryd.f12 := (Option.some.inj (Tryd.func12.symm.trans hfn)).symm
      exact ⟨by kernel_rfl, fun j t ht => by
        rw [Tryd.params12] at ht
        have hm : t ∈ [3, 3, 43, 43] := by simpa using Array.mem_of_getElem? ht
        have hall : ([3, 3, 43, 43].all fun u => !Tryd.prog.wantsStandIn u) = true := by kernel_rfl
        exact (show Tryd.prog.wantsStandIn t = false by simpa using List.all_eq_true.1 hall t hm)⟩)
    (by kernel_rfl)
#print axioms proved
end Go.Proofs.YtnifoghebnjonaaDoor.aluTurn
