/-
  Proved here: insts, the iterator of an item's instructions: a jump, an address. Conditions: the address is a word.
-/
import Derived.Test.YtnooabgdcfegeaaDoorSay
namespace Go.Proofs.YtnooabgdcfegeaaDoor
open Go.RowKit Go.Shelf
set_option linter.unusedVariables false
set_option linter.unusedSimpArgs false
set_option maxRecDepth 100000
set_option maxHeartbeats 8000000
attribute [local go_sem] Oper.semAt_some
theorem im_two {a b : In7} (ha : ImOk a) (hb : ImOk b) : ∀ x ∈ [a, b], ImOk x := fun x hx => by
  rcases List.mem_cons.1 hx with rfl | hx
  · exact ha
  · rw [List.mem_singleton] at hx; subst hx; exact hb
theorem insts_jump (o1 o2 o3 o4 o5 : Int) (o6 o7 : Bool) (nm : ByteArray) (v at_ to : Int) (long : Bool) (w : World) :
    Calls Tryd.prog 37 #[.agg #[.int .i64 4, .int .i64 o1, .int .i64 o2, .int .i64 o3, .int .i64 o4, .int .i64 o5, .bool o6, .bool o7, .string nm, .int .u64 v], .int .u64 at_, .int .u64 to, .bool long] w fun r w' => ∃ fv, r = .returned fv ∧ ItOK w w' fv [jalI o2 (farI to at_)] ∧ Nb w w' := by
  go_enter Tryd.func37, Tryd.ntmps37
  go_upto_region 1 with (fail)
  obtain ⟨W1, hW1⟩ : ∃ W1, w.alloc (.cells #[.int .i64 4, .int .i64 o1, .int .i64 o2, .int .i64 o3, .int .i64 o4, .int .i64 o5, .bool o6, .bool o7, .string nm, .int .u64 v] 39) = W1 := ⟨_, rfl⟩
  have n1 : Nb w W1 := by rw [← hW1]; exact Below.alloc (Below.refl _ _) (Nat.le_refl _) _
  have b1 : W1.heap[w.heap.size]? = some (.cells #[.int .i64 4, .int .i64 o1, .int .i64 o2, .int .i64 o3, .int .i64 o4, .int .i64 o5, .bool o6, .bool o7, .string nm, .int .u64 v] 39 (0, 0)) := by rw [← hW1]; exact new_bkc _ _ rfl
  rw [hW1]
  clear hW1
  have c0 := cell_of_row _ _ 0 _ _ _ b1
  have c1 := cell_of_row _ _ 1 _ _ _ b1
  have c2 := cell_of_row _ _ 2 _ _ _ b1
  have c3 := cell_of_row _ _ 3 _ _ _ b1
  have c4 := cell_of_row _ _ 4 _ _ _ b1
  have c5 := cell_of_row _ _ 5 _ _ _ b1
  have c6 := cell_of_row _ _ 6 _ _ _ b1
  have c7 := cell_of_row _ _ 7 _ _ _ b1
  have c8 := cell_of_row _ _ 8 _ _ _ b1
  have c9 := cell_of_row _ _ 9 _ _ _ b1
  have hjal := jal_any o2 (wrap64 (IntKind.u64.wrap (to - at_))) W1
  change Calls Tryd.prog 62 #[.int .i64 o2, .int .i64 (wrap64 (IntKind.u64.wrap (to - at_)))] W1 fun e w' => e = .returned (.agg #[.int .i64 (3), .int .i64 (o2), .int .i64 (0), .int .i64 (0), .int .i64 (wrap64 (IntKind.u64.wrap (to - at_))), .bool false, .bool false]) ∧ Nb W1 w' at hjal
  replace hjal := Lib.hid hjal
  go_upto_region 15 with (go_at_call 62; refine hjal.out.mono ?_; rintro r W5 ⟨rfl, n5⟩)
  obtain ⟨W2, hW2⟩ : ∃ W2, W5.alloc (.cells #[.int .i64 (3), .int .i64 (o2), .int .i64 (0), .int .i64 (0), .int .i64 (wrap64 (IntKind.u64.wrap (to - at_))), .bool false, .bool false] 37) = W2 := ⟨_, rfl⟩
  have n2 : Nb W5 W2 := by rw [← hW2]; exact Below.alloc (Below.refl _ _) (Nat.le_refl _) _
  have b2 : W2.heap[W5.heap.size]? = some (.cells ([jalI o2 (farI to at_)].flatMap i7C).toArray 37 (0, 0)) := by rw [← hW2]; exact new_bkc _ _ rfl
  rw [hW2]
  clear hW2 b1
  clear c0 c1 c2 c3 c4 c5 c6 c7 c8 c9
  have ho := own_new b2 (n1.trans n5).size (by simp)
  replace ho : W2.ownsRow w.heap.size 37 7 (.slice (some ⟨W5.heap.size, 0, none⟩) 1 1) 1 _ := ho
  have hIt := Lib.hid (val_it (w0 := w) (by simp) (fun x hx => by rw [List.mem_singleton] at hx; subst hx; exact wrap64_r _) ho (n1.trans (n5.trans n2)))
  have hval := Lib.hid (values_any (some ⟨W5.heap.size, 0, none⟩) 1 1)
  go_wp2_with (go_at_call 63; refine (hval.out _).mono ?_; rintro r w5 ⟨rfl, hw5⟩)
  go_ret
  subst hw5
  exact ⟨_, rfl, hIt.out, Nb.trans (n1.trans (n5.trans n2)) (Below.alloc (Below.refl _ _) (Nat.le_refl _) _)⟩
theorem insts_addr (o1 o2 o3 o4 o5 : Int) (o6 o7 : Bool) (nm : ByteArray) (v at_ to : Int) (long : Bool) (h0 : 0 ≤ to) (h1 : to < 18446744073709551616) (w : World) :
    Calls Tryd.prog 37 #[.agg #[.int .i64 5, .int .i64 o1, .int .i64 o2, .int .i64 o3, .int .i64 o4, .int .i64 o5, .bool o6, .bool o7, .string nm, .int .u64 v], .int .u64 at_, .int .u64 to, .bool long] w fun r w' => ∃ fv, r = .returned fv ∧ ItOK w w' fv [luiI o2 to, morI 22 o2 to] ∧ Nb w w' := by
  go_enter Tryd.func37, Tryd.ntmps37
  go_upto_region 1 with (fail)
  obtain ⟨W1, hW1⟩ : ∃ W1, w.alloc (.cells #[.int .i64 5, .int .i64 o1, .int .i64 o2, .int .i64 o3, .int .i64 o4, .int .i64 o5, .bool o6, .bool o7, .string nm, .int .u64 v] 39) = W1 := ⟨_, rfl⟩
  have n1 : Nb w W1 := by rw [← hW1]; exact Below.alloc (Below.refl _ _) (Nat.le_refl _) _
  have b1 : W1.heap[w.heap.size]? = some (.cells #[.int .i64 5, .int .i64 o1, .int .i64 o2, .int .i64 o3, .int .i64 o4, .int .i64 o5, .bool o6, .bool o7, .string nm, .int .u64 v] 39 (0, 0)) := by rw [← hW1]; exact new_bkc _ _ rfl
  rw [hW1]
  clear hW1
  have c0 := cell_of_row _ _ 0 _ _ _ b1
  have c1 := cell_of_row _ _ 1 _ _ _ b1
  have c2 := cell_of_row _ _ 2 _ _ _ b1
  have c3 := cell_of_row _ _ 3 _ _ _ b1
  have c4 := cell_of_row _ _ 4 _ _ _ b1
  have c5 := cell_of_row _ _ 5 _ _ _ b1
  have c6 := cell_of_row _ _ 6 _ _ _ b1
  have c7 := cell_of_row _ _ 7 _ _ _ b1
  have c8 := cell_of_row _ _ 8 _ _ _ b1
  have c9 := cell_of_row _ _ 9 _ _ _ b1
  have hlui := lui_any o2 to h0 h1
  change ∀ w, Calls Tryd.prog 52 #[.int .i64 o2, .int .u64 to] w fun e w' => e = .returned (.agg #[.int .i64 (1), .int .i64 (o2), .int .i64 (0), .int .i64 (0), .int .i64 (wrap64 (Sgn (upI to) 32)), .bool false, .bool false]) ∧ Nb w w' at hlui
  replace hlui := Lib.hid hlui
  have hmore := more_any 22 o2 to h0 h1
  change ∀ w, Calls Tryd.prog 54 #[.int .i64 22, .int .i64 o2, .int .u64 to] w fun e w' => e = .returned (.agg #[.int .i64 (22), .int .i64 (o2), .int .i64 (o2), .int .i64 (0), .int .i64 (wrap64 (Sgn to 12)), .bool false, .bool false]) ∧ Nb w w' at hmore
  replace hmore := Lib.hid hmore
  clear h0 h1
  go_upto_region 15 with (first | (go_at_call 52; refine (hlui.out _).mono ?_; rintro r W4 ⟨rfl, n4⟩) | (go_at_call 54; refine (hmore.out _).mono ?_; rintro r W5 ⟨rfl, n5⟩))
  obtain ⟨W2, hW2⟩ : ∃ W2, W5.alloc (.cells #[.int .i64 (1), .int .i64 (o2), .int .i64 (0), .int .i64 (0), .int .i64 (wrap64 (Sgn (upI to) 32)), .bool false, .bool false, .int .i64 (22), .int .i64 (o2), .int .i64 (o2), .int .i64 (0), .int .i64 (wrap64 (Sgn to 12)), .bool false, .bool false] 37) = W2 := ⟨_, rfl⟩
  have n2 : Nb W5 W2 := by rw [← hW2]; exact Below.alloc (Below.refl _ _) (Nat.le_refl _) _
  have b2 : W2.heap[W5.heap.size]? = some (.cells ([luiI o2 to, morI 22 o2 to].flatMap i7C).toArray 37 (0, 0)) := by rw [← hW2]; exact new_bkc _ _ rfl
  rw [hW2]
  clear hW2 b1
  clear c0 c1 c2 c3 c4 c5 c6 c7 c8 c9
  have ho := own_new b2 (n1.trans (n4.trans n5)).size (by simp)
  replace ho : W2.ownsRow w.heap.size 37 7 (.slice (some ⟨W5.heap.size, 0, none⟩) 2 2) 2 _ := ho
  have hIt := Lib.hid (val_it (w0 := w) (by simp) (im_two (a := luiI o2 to) (b := morI 22 o2 to) (wrap64_r (Sgn (upI to) 32)) (wrap64_r (Sgn to 12))) ho (n1.trans (n4.trans (n5.trans n2))))
  have hval := Lib.hid (values_any (some ⟨W5.heap.size, 0, none⟩) 2 2)
  go_wp2_with (go_at_call 63; refine (hval.out _).mono ?_; rintro r w5 ⟨rfl, hw5⟩)
  go_ret
  subst hw5
  exact ⟨_, rfl, hIt.out, Nb.trans (n1.trans (n4.trans (n5.trans n2))) (Below.alloc (Below.refl _ _) (Nat.le_refl _) _)⟩
end Go.Proofs.YtnooabgdcfegeaaDoor
