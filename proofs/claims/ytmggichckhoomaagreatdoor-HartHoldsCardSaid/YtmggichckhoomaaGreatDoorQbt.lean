/-
  Proved here: the chapter's example stands: what lives of the laws answers. Conditions: the table of codes holds what its text lays.
-/
import Derived.Test.YtmggichckhoomaaGreatDoorQbq
import Derived.Test.YtmggichckhoomaaGreatDoorQbs
namespace Go.Proofs.YtmggichckhoomaaGreatDoor
open Go.RowKit
set_option linter.unusedVariables false
set_option linter.unusedSimpArgs false
def exI : List In7 := [(22, 1, 0, 0, 5, false, false), (31, 2, 1, 1, 0, false, false), (51, 0, 0, 0, 0, false, false)]
def h0 : HV := ⟨0, List.replicate 32 0, false, 0, 0⟩
theorem h0_ok : HOk h0 := ⟨rfl, zero_in, fun v hv => by rw [List.eq_of_mem_replicate hv]; exact zero_in, zero_in, zero_sz⟩
def exB : By := laidB 64 exI
theorem ex_run : ((runS 10 0 h0 exB).2.1 == 2 && ((runS 10 0 h0 exB).2.2.1 == 60 && ((runS 10 0 h0 exB).1.x.getD 2 0 == 10 && (runS 10 0 h0 exB).1.pc == 8))) = true := by decide +kernel
theorem cellX {w : World} {g : Nat} {h : HV} (kH : w.heap[g]? = some (.cells (hC h).toArray 25 (0, 0))) (r : Nat) (v : Int) (hr : h.x[r]? = some v) : w.cell? ⟨g, 1 + r, none⟩ = some (.int .u64 v) := by
  have hl : r < h.x.length := (List.getElem?_eq_some_iff.1 hr).1
  rw [cell_of_row _ _ _ _ _ _ kH, List.getElem?_toArray, Nat.add_comm]
  unfold hC
  rw [List.getElem?_cons_succ, List.getElem?_append_left (by rw [xV_len]; exact hl)]
  unfold xV
  rw [List.getElem?_map, hr]
  rfl
theorem ex_ins {w : World} {B : Nat} (k : w.heap[B]? = some (.cells #[.int .i64 22, .int .i64 1, .int .i64 0, .int .i64 0, .int .i64 5, .bool false, .bool false, .int .i64 31, .int .i64 2, .int .i64 1, .int .i64 1, .int .i64 0, .bool false, .bool false, .int .i64 51, .int .i64 0, .int .i64 0, .int .i64 0, .int .i64 0, .bool false, .bool false] 56 (0, 0))) : Ins w B 0 exI := by
  intro j hj
  have hc : ∀ m v, (#[.int .i64 22, .int .i64 1, .int .i64 0, .int .i64 0, .int .i64 5, .bool false, .bool false, .int .i64 31, .int .i64 2, .int .i64 1, .int .i64 1, .int .i64 0, .bool false, .bool false, .int .i64 51, .int .i64 0, .int .i64 0, .int .i64 0, .int .i64 0, .bool false, .bool false] : Array Value)[m]? = some v → w.cell? ⟨B, m, none⟩ = some v := fun m v hv => (cell_of_row _ _ m _ _ _ k).trans hv
  have h3 : j = 0 ∨ j = 1 ∨ j = 2 := by have : exI.length = 3 := rfl; omega
  rcases h3 with rfl | rfl | rfl
  · exact ⟨_, rfl, hc 0 _ rfl, hc 1 _ rfl, hc 2 _ rfl, hc 3 _ rfl, hc 4 _ rfl, hc 5 _ rfl, hc 6 _ rfl⟩
  · exact ⟨_, rfl, hc 7 _ rfl, hc 8 _ rfl, hc 9 _ rfl, hc 10 _ rfl, hc 11 _ rfl, hc 12 _ rfl, hc 13 _ rfl⟩
  · exact ⟨_, rfl, hc 14 _ rfl, hc 15 _ rfl, hc 16 _ rfl, hc 17 _ rfl, hc 18 _ rfl, hc 19 _ rfl, hc 20 _ rfl⟩
theorem h0_eq : hA h0 = .agg zerosH := rfl
set_option maxRecDepth 100000 in
set_option maxHeartbeats 4000000 in
theorem hlives_any (w : World) (hC0 : Cod w) : Calls Tryz.prog 9 #[] w fun e w' => e = .returned (.bool true) ∧ Nb w w' := by
  have hr := ex_run
  simp only [Bool.and_eq_true, beq_iff_eq] at hr
  obtain ⟨r1, r2, r3, r4⟩ := hr
  have hk := run_ok 10 0 h0 exB h0_ok
  go_enter Tryz.func9, Tryz.ntmps9
  go_wp2_with fail
  obtain ⟨W1, w1e⟩ : ∃ W1, w.alloc (Obj.cells #[.int .i64 22, .int .i64 1, .int .i64 0, .int .i64 0, .int .i64 5, .bool false, .bool false, .int .i64 31, .int .i64 2, .int .i64 1, .int .i64 1, .int .i64 0, .bool false, .bool false, .int .i64 51, .int .i64 0, .int .i64 0, .int .i64 0, .int .i64 0, .bool false, .bool false] 56) = W1 := ⟨_, rfl⟩
  have n1 : Nb w W1 := by rw [← w1e]; exact (Nb.refl _).alloc _
  have kI : W1.heap[w.heap.size]? = some (.cells #[.int .i64 22, .int .i64 1, .int .i64 0, .int .i64 0, .int .i64 5, .bool false, .bool false, .int .i64 31, .int .i64 2, .int .i64 1, .int .i64 1, .int .i64 0, .bool false, .bool false, .int .i64 51, .int .i64 0, .int .i64 0, .int .i64 0, .int .i64 0, .bool false, .bool false] 56 (0, 0)) := by rw [← w1e]; exact new_blk _ _ rfl
  rw [w1e]
  clear w1e
  have hIns := Lib.hid (ex_ins kI)
  have hIR : ∀ i ∈ exI, InR i.2.2.2.2.1 := by
    intro i hi
    unfold exI at hi
    simp at hi
    rcases hi with rfl | rfl | rfl <;> exact ⟨by decide, by decide⟩
  have HL := Lib.hid (laid_any 0 ⟨by decide, by decide⟩ exI (by decide) hIR (some ⟨w.heap.size, 0, none⟩) w.heap.size 0 3 (fun _ => rfl) W1 (hC0.of_nb n1) hIns)
  unfold LaidAns at HL
  have hsz : sizeN 0 = 64 := by decide
  rw [hsz] at HL
  have hbl : exB.length = 64 := laidB_len 64 exI
  have HL2 := Lib.hid (show Calls Tryz.prog 10 #[.int .i64 0, .slice (some ⟨w.heap.size, 0, none⟩) 3 3] W1 fun e w' => e = .returned (.tuple #[.pointer (some ⟨W1.heap.size + 1, 0, none⟩), .pointer (some ⟨W1.heap.size + 3, 0, none⟩)]) ∧ Mem 92 w' (W1.heap.size + 1) W1.heap.size exB ∧ Mem 72 w' (W1.heap.size + 3) (W1.heap.size + 2) exB ∧ Nb W1 w' from HL.out)
  clear HL hIR hIns hsz kI
  refine (HL2.out).mono ?_
  rintro e w2 ⟨rfl, hM, -, n2⟩
  have nn := n1.trans n2
  have HR := run_any h0 (W1.heap.size + 1) W1.heap.size exB 10 (by decide) h0_ok (by rw [hbl]; decide) w2 (hC0.of_nb nn) hM
  unfold RunAns at HR
  have hz1 := Nb.size n1
  have hokx := hk.1
  generalize runS 10 0 h0 exB = R at *
  obtain ⟨x, i, E, bs1⟩ := R
  dsimp only at HR r1 r2 r3 r4 hokx
  subst r1
  subst r2
  rw [h0_eq] at HR
  replace HR := Lib.hid HR
  have hlenx := Lib.hid (show (hC x).toArray.size = 36 by rw [List.size_toArray]; exact hC_len (by exact hokx.len))
  have honex := Lib.hid (one_all (hC_one x))
  clear hk HL2
  go_wp2_with fail
  refine (HR.out).mono ?_
  rintro e w3 ⟨rfl, hM3, g3⟩
  have n3 : Nb w w3 := below_grown nn g3 nn.size hz1
  clear HR g3 hM3 hM
  go_upto_region 3 with (first
    | refine wpList_store_row rfl 25 (.tmp 3) (.tmp 18) rfl w3.heap.size (hC x).toArray rfl rfl 25 zerosH (heap_alloc_new w3 _) (by rw [size36, hlenx.out]) (by rw [hlenx.out]; rfl) honex.out ?_)
  obtain ⟨W4, w4e⟩ : ∃ W4, (w3.alloc (Obj.cells zerosH 25)).setRow w3.heap.size (hC x).toArray = W4 := ⟨_, rfl⟩
  have n4 : Nb w3 W4 := by rw [← w4e]; exact ((Nb.refl _).alloc _).setRow (Nat.le_refl _) _
  have kX : W4.heap[w3.heap.size]? = some (.cells (hC x).toArray 25 (0, 0)) := by rw [← w4e]; exact setRow_heap _ _ _ _ _ _ (heap_alloc_new w3 _)
  change Code.wp _ _ _ _ ((w3.alloc (Obj.cells zerosH 25)).setRow w3.heap.size (hC x).toArray)
  rw [w4e]
  clear w4e
  obtain ⟨c0, -⟩ := cell36 kX (by exact hokx.len)
  have c3 : W4.cell? ⟨w3.heap.size, 3, none⟩ = some (.int .u64 10) := cellX kX 2 10 (by
    rw [List.getD_eq_getElem?_getD, List.getElem?_eq_getElem (by rw [hokx.len]; decide)] at r3
    rw [List.getElem?_eq_getElem (by rw [hokx.len]; decide)]
    exact congrArg some r3)
  rw [r4] at c0
  clear kX
  go_wp2_with fail
  go_ret
  exact ⟨rfl, n3.trans n4⟩
end Go.Proofs.YtmggichckhoomaaGreatDoor
