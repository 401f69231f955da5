/-
  Proved here: what New, Len, Bytes, Put and Clone of the code answer, and what stands in memory behind them. Conditions: the memory is one that a call made, of at most 2^24 bytes.
-/
import Derived.Test.YtmggichckhoomaaGreatDoorQan
import Derived.Test.YtmggichckhoomaaGreatDoorQbn
namespace Go.Proofs.YtmggichckhoomaaGreatDoor
open Go.RowKit
set_option linter.unusedVariables false
set_option linter.unusedSimpArgs false
set_option maxRecDepth 100000 in
theorem len_any (p b : Nat) (bs : By) (w : World) (hM : Mem 92 w p b bs) :
    Calls Tryz.prog 20 #[.pointer (some ⟨p, 0, none⟩)] w fun e w' => e = .returned (.int .i64 bs.length) ∧ w = w' := by
  have hc := hM.head
  go_enter Tryz.func20, Tryz.ntmps20
  go_wp2_with fail
  refine (made_any p b bs _ hM).mono ?_
  rintro e w' ⟨rfl, rfl⟩
  go_wp2_with fail
  go_ret
  exact ⟨rfl, rfl⟩
theorem splice_whole {α : Type} (L cs : List α) (h : cs.length = L.length) : splice L 0 cs = cs := by simp [splice, h]
/-- The bytes of a part, in a block of their own. -/
def BytesOk (bs : By) (at_ k : Nat) (w : World) (e : Ending) (w' : World) : Prop :=
  e = .returned (.tuple #[.slice (some ⟨w.heap.size, 0, none⟩) k k, .int .i64 0]) ∧ w'.heap[w.heap.size]? = some (.cells (Lib.byteCells ((bs.drop at_).take k)).toArray 5 (0, 0)) ∧ Below w.heap.size w w'
theorem addr_add (b a j : Nat) : (⟨b, a, none⟩ : Addr).add j = ⟨b, a + j, none⟩ := by unfold Addr.add; split <;> simp_all
theorem byte_cells_one (l : By) : ∀ v ∈ Lib.byteCells l, v.oneCell' = true := by
  intro v hv
  obtain ⟨c, -, rfl⟩ := List.mem_map.1 hv
  rfl
theorem src_part {w : World} {b : Nat} {bs : By} (hb : w.heap[b]? = some (.cells (Lib.byteCells bs).toArray 5 (0, 0))) (at_ k : Nat) : ∀ j v, (Lib.byteCells ((bs.drop at_).take k))[j]? = some v → w.cell? ((⟨b, at_, none⟩ : Addr).add j) = some v := by
  intro j v hv
  rw [addr_add, cell_of_row _ _ _ _ _ _ hb]
  unfold Lib.byteCells at hv ⊢
  rw [List.getElem?_map, List.getElem?_take] at hv
  split at hv
  · rw [List.getElem?_drop] at hv
    simpa using hv
  · cases hv
set_option maxRecDepth 100000 in
set_option maxHeartbeats 1000000 in
theorem bytes_ok (p b : Nat) (bs : By) (at_ k : Nat) (h : at_ + k ≤ bs.length) (hl : bs.length ≤ 16777216) (w : World) (hM : Mem 92 w p b bs) :
    Calls Tryz.prog 19 #[.pointer (some ⟨p, 0, none⟩), .int .u64 (at_ : Int), .int .i64 (k : Int)] w (BytesOk bs at_ k w) := by
  obtain ⟨i0, hi, hz0, hz1, hz2⟩ := info_parts info5
  have HN := Lib.hid (part_ok p b bs at_ k h hl w hM)
  unfold PartOk at HN
  have hlt := hM.lt.2
  have hcl := Lib.hid (show (Lib.byteCells ((bs.drop at_).take k)).length = k by rw [Lib.byteCells_length]; simp; omega)
  have hsrc := Lib.hid (src_part (w := w.alloc (.cells (Lib.byteCells (List.replicate k 0)).toArray 5)) (bs := bs) ((Below.heap_alloc _ _ _ hlt).trans hM.2) at_ k)
  have hone := Lib.hid (byte_cells_one ((bs.drop at_).take k))
  have hzl := Lib.hid (show (Lib.byteCells (List.replicate k 0)).length = k by rw [Lib.byteCells_length]; simp)
  have hfin := Lib.hid (show splice (Lib.byteCells (List.replicate k 0)) 0 (Lib.byteCells ((bs.drop at_).take k)) = Lib.byteCells ((bs.drop at_).take k) from splice_whole _ _ (by rw [hcl.out, hzl.out]))
  unfold BytesOk
  generalize Lib.byteCells ((bs.drop at_).take k) = cs at *
  go_enter Tryz.func19, Tryz.ntmps19
  go_wp2_with fail
  refine (made_any p b bs _ hM).mono ?_
  rintro e w' ⟨rfl, rfl⟩
  go_wp2_with fail
  refine (HN.out).mono ?_
  rintro e w' ⟨A, hA0, rfl, rfl⟩
  have hA := Lib.hid hA0
  clear hA0
  go_wp2_with (first
    | refine wpList_make_zero _ rfl _ _ 27 rfl 5 i0 Tryz.underlying27 hi hz0 hz1 hz2 .i64 .i64 _ _ k rfl rfl rfl rfl (by omega) ?_
    | (refine wpList_copy_splice rfl (.tmp 29) (.tmp 30) 27 27 rfl 5 Tryz.underlying27 (by kernel_rfl) _ _ _ _ _ _ rfl rfl w.heap.size 0 (Lib.byteCells (List.replicate k 0)) 5 (heap_alloc_new w _) cs (by rw [hcl.out]; exact (Nat.min_self k).symm) (fun h0 => ⟨rfl, _, hA.out (by rw [hcl.out] at h0; exact h0), hsrc.out⟩) (by rw [hcl.out, hzl.out]; omega) hone.out w.heap.size w ((Below.refl _ _).alloc (Nat.le_refl _) _) (Nat.le_refl _) ?_; intro w2 HG2 hB2))
  go_ret2
  exact ⟨rfl, by have := HG2.out; rw [hfin.out] at this; exact this, hB2⟩
theorem setRow_grown (w : World) (g : Nat) (cs : Array Value) : w.grownBy (w.setRow g cs) (some g) :=
  ⟨rfl, rfl, rfl, by simp [World.setRow], fun i _ hi => setRow_other w g i cs (fun e => hi (by rw [e]))⟩
theorem mem_row {T : TypeId} {w : World} {p b : Nat} {bs ys : By} (h : Mem T w p b bs) (hT : T ≠ 5) (hl : ys.length = bs.length) : Mem T (w.setRow b (Lib.byteCells ys).toArray) p b ys :=
  ⟨by rw [hl]; exact (setRow_other w b p _ (h.ne hT)).trans h.1, setRow_heap w b _ _ 5 _ h.2⟩
end Go.Proofs.YtmggichckhoomaaGreatDoor
