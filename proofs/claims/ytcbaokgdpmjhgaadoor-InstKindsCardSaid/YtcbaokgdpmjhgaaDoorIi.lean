/-
  Proved here: the instruction of an operation whose fields a word has, by the code. Conditions: the form is one; the word is a word.
-/
import Derived.Test.YtcbaokgdpmjhgaaDoorIe
namespace Go.Proofs.YtcbaokgdpmjhgaaDoor
open Go.RowKit Go.Sort
set_option linter.unusedVariables false
theorem fld5 (u low : Int) (l0 : 0 ≤ low) (l1 : low ≤ 50) : 0 ≤ Fld u low 5 ∧ Fld u low 5 ≤ 31 := by
  unfold Fld
  have hw := wid_yes low 5 l0 (by omega) (by decide)
  have e : wid low 5 = 5 := by omega
  rw [e]
  have := fld_lt u.toNat low.toNat 5
  omega
theorem Nb.setRow {a b : World} (h : Nb a b) {g : Nat} (hg : a.heap.size ≤ g) (cs : Array Value) : Nb a (b.setRow g cs) := by
  have hb : Below a.heap.size a b := h
  exact ⟨hb.os, hb.tape, hb.output, by rw [size_setRow]; exact hb.size, fun k hk => (setRow_other b g k cs (by omega)).trans (hb.block k hk)⟩
set_option maxRecDepth 100000 in
set_option maxHeartbeats 4000000 in
theorem ins_any (op f u : Int) (f0 : 0 ≤ f) (f1 : f ≤ 12) (u0 : 0 ≤ u) (u1 : u < 18446744073709551616) (w : World) :
    Calls Tryd.prog 45 #[.int .i64 op, .int .u32 (1048576 * f), .int .u64 u] w fun e w' => e = .returned (.agg #[.int .i64 op, .int .i64 (oi (rdT f) (Fld u 7 5)), .int .i64 (oi (rs1T f) (Fld u 15 5)), .int .i64 (oi (rs2T f) (Fld u 20 5)), .int .i64 (oi (immT f) (II f u)), .bool (ob (ordT f) (Fld u 26 1 == 1)), .bool (ob (ordT f) (Fld u 25 1 == 1))]) ∧ Nb w w' := by
  obtain ⟨p0, p1⟩ := fld5 u 7 (by decide) (by decide)
  obtain ⟨q0, q1⟩ := fld5 u 15 (by decide) (by decide)
  obtain ⟨r0, r1⟩ := fld5 u 20 (by decide) (by decide)
  go_enter Tryd.func45, Tryd.ntmps45
  go_wp2_with fail
  obtain ⟨W1, hW⟩ : ∃ W1, w.alloc (.cells #[.int .i64 0, .int .i64 0, .int .i64 0, .int .i64 0, .int .i64 0, .bool false, .bool false] 23) = W1 := ⟨_, rfl⟩
  have hb := blk_made w _ hW rfl
  have hN : Nb w W1 := by rw [← hW]; exact (Nb.refl _).alloc _
  rw [hW]
  clear hW
  refine (field_any _ _ _ u0 u1 _).mono ?_
  rintro e w' ⟨rfl, rfl⟩
  go_wp2_with fail
  refine (field_any _ _ _ u0 u1 _).mono ?_
  rintro e w' ⟨rfl, rfl⟩
  go_wp2_with fail
  refine (field_any _ _ _ u0 u1 _).mono ?_
  rintro e w' ⟨rfl, rfl⟩
  go_wp2_with fail
  refine (ii_any f u f0 f1 u0 u1 _).mono ?_
  rintro e w2 ⟨rfl, hn2⟩
  go_wp2_with fail
  refine (field_any _ _ _ u0 u1 _).mono ?_
  rintro e w' ⟨rfl, rfl⟩
  go_wp2_with fail
  refine (field_any _ _ _ u0 u1 _).mono ?_
  rintro e w' ⟨rfl, rfl⟩
  have hb2 := Lib.hid (hn2.b.block hb)
  have hN2 := hN.trans hn2.b
  clear hb hN hn2
  go_wp2_with fail
  refine (only_any f _ _ _ _ _ _ _ f0 f1 _).mono ?_
  rintro e w4 ⟨rfl, hn4⟩
  have hN4 := (hN2.alloc _).trans hn4.b
  have hb4 := hn4.b.block ((heap_alloc_old _ _ (lt_of_block hb2.out)).trans hb2.out)
  rename_i hK1 _ hK
  refine hK _ _ ?_
  clear hK
  refine wpList_store_row rfl 23 _ _ rfl w.heap.size #[.int .i64 op, .int .i64 (oi (rdT f) (Fld u 7 5)), .int .i64 (oi (rs1T f) (Fld u 15 5)), .int .i64 (oi (rs2T f) (Fld u 20 5)), .int .i64 (oi (immT f) (II f u)), .bool (ob (ordT f) (Fld u 26 1 == 1)), .bool (ob (ordT f) (Fld u 25 1 == 1))] rfl rfl 23 _ hb4 (by kernel_rfl) rfl (by kernel_rfl) ?_
  refine wpList_nil ?_
  refine hK1 _ _ ?_
  clear hK1
  go_wp2_with fail
  refine bodyPost_ret (v := .agg #[.int .i64 op, .int .i64 (oi (rdT f) (Fld u 7 5)), .int .i64 (oi (rs1T f) (Fld u 15 5)), .int .i64 (oi (rs2T f) (Fld u 20 5)), .int .i64 (oi (immT f) (II f u)), .bool (ob (ordT f) (Fld u 26 1 == 1)), .bool (ob (ordT f) (Fld u 25 1 == 1))])
    (results_cell_row rfl _ _ w.heap.size 23 _ (0, 0) _ rfl (setRow_heap _ _ _ _ _ _ hb4) Tryd.underlying23 rfl (by kernel_rfl)) rfl ⟨rfl, ?_⟩
  exact hN4.setRow (Nat.le_refl _) _
end Go.Proofs.YtcbaokgdpmjhgaaDoor
