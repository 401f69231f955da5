/-
  Proved here: the names of the reference's. No condition.
-/
import Derived.Test.YtmggichckhoomaaDoorLk
import Derived.Great.Walk
import Derived.Deep.WholeRow
namespace Go.Proofs.YtmggichckhoomaaDoor
open Go.ChangeShapes Go.WideShapes Go.ChangeAt Go.RowKit Go.Great
set_option linter.unusedVariables false
set_option linter.unusedSimpArgs false
def nmCells : Array Value := ((nmTab.drop 1).map fun l => Value.string ⟨l.toArray⟩).toArray
theorem nm_cell (op : Int) (h : 1 ≤ op ∧ op ≤ 87) : nmCells[op.toNat - 1]? = some (.string ⟨(nm op).toArray⟩) := by
  rw [nm_yes op h]
  obtain ⟨k, hk⟩ : ∃ k : Nat, op = k + 1 := ⟨(op - 1).toNat, by omega⟩
  subst hk
  have hk : k < 87 := by omega
  have e2 : ((k : Int) + 1).toNat = k + 1 := by omega
  rw [e2, Nat.add_sub_cancel]
  have hl : k + 1 < nmTab.length := by show k + 1 < 88; omega
  unfold nmCells
  rw [List.getElem?_toArray, List.getElem?_map, List.getElem?_drop, List.getD_eq_getElem?_getD, show 1 + k = k + 1 from Nat.add_comm _ _, List.getElem?_eq_getElem hl]
  rfl
set_option maxRecDepth 100000 in
set_option maxHeartbeats 2000000 in
theorem name_any (op : Int) (v0 : -9223372036854775808 ≤ op) (w : World) :
    Calls Tryd.prog 36 #[.int .i64 op] w fun e w' => e = .returned (.string ⟨(nm op).toArray⟩) ∧ Nb w w' := by
  go_enter Tryd.func36, Tryd.ntmps36
  go_upto_region 1 with (fail)
  apply wp_region_list
  refine wpList_buildTo rfl 87 _ rfl (some 4) rfl nmCells (by as_aux_lemma => kernel_rfl) ?_
  refine wpList_allocTo rfl (some 3) rfl (.pointer (some ⟨w.heap.size, 0, none⟩)) (.cells (Array.replicate 87 (.string ⟨#[]⟩)) 87) (by as_aux_lemma => kernel_rfl) ?_
  refine wpList_store_rowTo rfl 87 (.tmp 3) (.tmp 4) rfl rfl w.heap.size nmCells (by kernel_rfl) (by kernel_rfl) 87 (Array.replicate 87 (.string ⟨#[]⟩)) (heap_alloc_new _ _) (by kernel_rfl) (by kernel_rfl) (by kernel_rfl) ?_
  refine wpList_nil ?_
  rename_i hK
  refine hK _ _ ?_
  clear hK
  rw [World.setRow_alloc_new]
  have hn : 1 ≤ op ∧ op ≤ 87 → nmCells[op.toNat - 1]? = some (.string ⟨(nm op).toArray⟩) := nm_cell op
  have hz : nmCells.size = 87 := by kernel_rfl
  generalize nmCells = T at *
  simp only [Act.put, List.setIfInBounds_toArray, List.set_cons_succ, List.set_cons_zero]
  by_cases h : op < 1 ∨ 87 < op
  · have e : nm op = [] := if_neg (by omega)
    have e := Lib.hid e
    clear hn
    by_cases c : op < 1
    · clear h
      go_wp2
      go_ret
      first | exact ⟨ret_s rfl, (Nb.refl _).alloc _⟩ | exact ⟨ret_s (by rw [e.out]), (Nb.refl _).alloc _⟩
    · have c' : 87 < op := by omega
      clear h
      go_wp2
      go_ret
      first | exact ⟨ret_s rfl, (Nb.refl _).alloc _⟩ | exact ⟨ret_s (by rw [e.out]), (Nb.refl _).alloc _⟩
  · have f0 : 1 ≤ op := by omega
    have f1 : op ≤ 87 := by omega
    have hn1 := hn ⟨f0, f1⟩
    clear h hn
    obtain ⟨l, e⟩ : ∃ l, l = nm op := ⟨_, rfl⟩
    rw [← e] at hn1
    have e := Lib.hid e
    have hc : (w.alloc (Obj.cells T 87)).cell? ⟨w.heap.size, op.toNat - 1, none⟩ = some (.string ⟨l.toArray⟩) := (World.cell?_alloc_mark w T 87 (0, 0) _).trans hn1
    clear hn1
    go_wp2
    go_ret
    first | exact ⟨ret_s rfl, (Nb.refl _).alloc _⟩ | exact ⟨ret_s (by rw [e.out]), (Nb.refl _).alloc _⟩
end Go.Proofs.YtmggichckhoomaaDoor
