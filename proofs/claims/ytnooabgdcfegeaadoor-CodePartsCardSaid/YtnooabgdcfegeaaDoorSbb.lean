/-
  Proved here: insts, the iterator of an item's instructions: any item. Conditions: its number and the address are words.
-/
import Derived.Test.YtnooabgdcfegeaaDoorSba
namespace Go.Proofs.YtnooabgdcfegeaaDoor
open Go.RowKit Go.Shelf
set_option linter.unusedVariables false
set_option linter.unusedSimpArgs false
set_option maxRecDepth 100000
set_option maxHeartbeats 8000000
attribute [local go_sem] Oper.semAt_some
theorem branch_any (o1 o2 o3 o4 o5 : Int) (o6 o7 : Bool) (far : Int) (long : Bool) (w : World) :
    Calls Tryd.prog 61 #[.agg #[.int .i64 o1, .int .i64 o2, .int .i64 o3, .int .i64 o4, .int .i64 o5, .bool o6, .bool o7], .int .i64 far, .bool long] w fun r w' => ∃ g m, r = .returned (.slice (some ⟨g, 0, none⟩) m m) ∧
      (w'.ownsRow w.heap.size 37 7 (.slice (some ⟨g, 0, none⟩) m m) (brI (o1, o2, o3, o4, o5, o6, o7) far long).length ((brI (o1, o2, o3, o4, o5, o6, o7) far long).flatMap i7C)) ∧ Nb w w' := by
  cases long with
  | false => exact (branch_short o1 o2 o3 o4 o5 o6 o7 far w).mono (fun r w' ⟨g, h1, h2, h3⟩ => ⟨g, 1, h1, h2, h3⟩)
  | true => exact (branch_long o1 o2 o3 o4 o5 o6 o7 far w).mono (fun r w' ⟨g, h1, h2, h3⟩ => ⟨g, 2, h1, h2, h3⟩)
theorem br_im (i : In7) (far : Int) (long : Bool) (h : -9223372036854775808 ≤ far ∧ far < 9223372036854775808) : ∀ x ∈ brI i far long, ImOk x := by
  cases long
  · intro x hx
    simp only [brI, Bool.false_eq_true, if_false, List.mem_singleton] at hx
    subst hx
    exact h
  · intro x hx
    simp only [brI, if_true] at hx
    rcases List.mem_cons.1 hx with rfl | hx
    · exact ⟨by show (-9223372036854775808 : Int) ≤ 8; decide, by show (8 : Int) < 9223372036854775808; decide⟩
    · rw [List.mem_singleton] at hx; subst hx; exact wrap64_r _
theorem br_len (i : In7) (far : Int) (long : Bool) : (brI i far long).length ≤ 1000 := by cases long <;> simp [brI]
theorem insts_branch (o1 o2 o3 o4 o5 : Int) (o6 o7 : Bool) (nm : ByteArray) (v at_ to : Int) (long : Bool) (w : World) :
    Calls Tryd.prog 37 #[.agg #[.int .i64 3, .int .i64 o1, .int .i64 o2, .int .i64 o3, .int .i64 o4, .int .i64 o5, .bool o6, .bool o7, .string nm, .int .u64 v], .int .u64 at_, .int .u64 to, .bool long] w fun r w' => ∃ fv, r = .returned fv ∧ ItOK w w' fv (brI (o1, o2, o3, o4, o5, o6, o7) (farI to at_) long) ∧ Nb w w' := by
  obtain ⟨L, hLe⟩ : ∃ L, (brI (o1, o2, o3, o4, o5, o6, o7) (farI to at_) long) = L := ⟨_, rfl⟩
  rw [hLe]
  go_enter Tryd.func37, Tryd.ntmps37
  go_upto_region 1 with (fail)
  obtain ⟨W1, hW1⟩ : ∃ W1, w.alloc (.cells #[.int .i64 3, .int .i64 o1, .int .i64 o2, .int .i64 o3, .int .i64 o4, .int .i64 o5, .bool o6, .bool o7, .string nm, .int .u64 v] 39) = W1 := ⟨_, rfl⟩
  have n1 : Nb w W1 := by rw [← hW1]; exact Below.alloc (Below.refl _ _) (Nat.le_refl _) _
  have b1 : W1.heap[w.heap.size]? = some (.cells #[.int .i64 3, .int .i64 o1, .int .i64 o2, .int .i64 o3, .int .i64 o4, .int .i64 o5, .bool o6, .bool o7, .string nm, .int .u64 v] 39 (0, 0)) := by rw [← hW1]; exact new_bkc _ _ rfl
  rw [hW1]
  clear hW1
  have c0 := cell_of_row _ _ 0 _ _ _ b1
  have c1 := cell_of_row _ _ 1 _ _ _ b1
  have c2 := cell_of_row _ _ 2 _ _ _ b1
  have c3 := cell_of_row _ _ 3 _ _ _ b1
  have c4 := cell_of_row _ _ 4 _ _ _ b1
  have c5 := cell_of_row _ _ 5 _ _ _ b1
  have c6 := cell_of_row _ _ 6 _ _ _ b1
  have c7 := cell_of_row _ _ 7 _ _ _ b1
  have c8 := cell_of_row _ _ 8 _ _ _ b1
  have c9 := cell_of_row _ _ 9 _ _ _ b1
  have hbr := branch_any o1 o2 o3 o4 o5 o6 o7 (wrap64 (IntKind.u64.wrap (to - at_))) long W1
  change Calls Tryd.prog 61 _ W1 fun r w' => ∃ g m, r = .returned (.slice (some ⟨g, 0, none⟩) m m) ∧ (w'.ownsRow W1.heap.size 37 7 (.slice (some ⟨g, 0, none⟩) m m) (brI (o1, o2, o3, o4, o5, o6, o7) (farI to at_) long).length ((brI (o1, o2, o3, o4, o5, o6, o7) (farI to at_) long).flatMap i7C)) ∧ Nb W1 w' at hbr
  have hbl := br_len (o1, o2, o3, o4, o5, o6, o7) (farI to at_) long
  have hbi := br_im (o1, o2, o3, o4, o5, o6, o7) (farI to at_) long (wrap64_r _)
  rw [hLe] at hbr hbl hbi
  clear hLe
  replace hbr := Lib.hid hbr
  replace hbl := Lib.hid hbl
  replace hbi := Lib.hid hbi
  go_upto_region 15 with (go_at_call 61; refine hbr.out.mono ?_; rintro r W5 ⟨g, m, rfl, ho, n5⟩)
  replace ho := own_base n1.size ho
  clear b1 hbr
  clear c0 c1 c2 c3 c4 c5 c6 c7 c8 c9
  have hIt := Lib.hid (val_it (w0 := w) hbl.out hbi.out ho (n1.trans n5))
  have hval := Lib.hid (values_any (some ⟨g, 0, none⟩) m m)
  go_wp2_with (go_at_call 63; refine (hval.out _).mono ?_; rintro r w5 ⟨rfl, hw5⟩)
  go_ret
  subst hw5
  refine ⟨_, ?_, hIt.out, ?_⟩
  · rfl
  · exact Nb.trans (n1.trans n5) (Below.alloc (Below.refl _ _) (Nat.le_refl _) _)
/-- The instructions of an item. -/
def insI (i : Itm) (at_ to : Int) (long : Bool) : List In7 :=
  if i.1 = 1 then [i.2.1] else if i.1 = 3 then brI i.2.1 (farI to at_) long else if i.1 = 4 then [jalI i.2.1.2.1 (farI to at_)] else if i.1 = 5 then [luiI i.2.1.2.1 to, morI 22 i.2.1.2.1 to] else if i.1 = 6 then conI i.2.1.2.1 i.2.2.2 else []
theorem insts_any (i : Itm) (at_ to : Int) (long : Bool) (h0 : 0 ≤ to) (h1 : to < 18446744073709551616) (g0 : 0 ≤ i.2.2.2) (g1 : i.2.2.2 < 18446744073709551616) (hIm : ImOk i.2.1) (w : World) :
    Calls Tryd.prog 37 #[itmV i, .int .u64 at_, .int .u64 to, .bool long] w fun r w' => ∃ fv, r = .returned fv ∧ ItOK w w' fv (insI i at_ to long) ∧ Nb w w' := by
  obtain ⟨k, ⟨o1, o2, o3, o4, o5, o6, o7⟩, nm, v⟩ := i
  by_cases k1 : k = 1
  · subst k1; exact insts_inst o1 o2 o3 o4 o5 o6 o7 hIm nm v at_ to long w
  by_cases k3 : k = 3
  · subst k3; exact insts_branch o1 o2 o3 o4 o5 o6 o7 nm v at_ to long w
  by_cases k4 : k = 4
  · subst k4; exact insts_jump o1 o2 o3 o4 o5 o6 o7 nm v at_ to long w
  by_cases k5 : k = 5
  · subst k5; exact insts_addr o1 o2 o3 o4 o5 o6 o7 nm v at_ to long h0 h1 w
  by_cases k6 : k = 6
  · subst k6; exact insts_const o1 o2 o3 o4 o5 o6 o7 nm v at_ to long g0 g1 w
  have e : insI (k, (o1, o2, o3, o4, o5, o6, o7), nm, v) at_ to long = [] := by unfold insI; rw [if_neg k1, if_neg k3, if_neg k4, if_neg k5, if_neg k6]
  rw [e]
  exact insts_none k o1 o2 o3 o4 o5 o6 o7 nm v at_ to long ⟨k1, k3, k4, k5, k6⟩ w
end Go.Proofs.YtnooabgdcfegeaaDoor
