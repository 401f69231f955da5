/-
  Proved here: a hart's registers as values; what reading and written of the code answer. Conditions: there are 32 registers. ¦ what reading, the closure that it makes, and branch of the code answer. Conditions: there are 32 registers. ¦ what made, part and number of the code answer. Conditions: the memory is one that a call made, of at most 2^24 bytes.
-/
import Derived.Test.YtmggichckhoomaaGreatDoorQal
import Derived.Laws.Rows
import Derived.Laws.Tables
import Derived.Laws.ResultCell
import Derived.Deep.Cut
section
namespace Go.Proofs.YtmggichckhoomaaGreatDoor
open Go.RowKit
set_option linter.unusedVariables false
set_option linter.unusedSimpArgs false
/-- Registers, as values. -/
def xV (xs : List Int) : List Value := xs.map (Value.int .u64)
theorem xV_len (xs : List Int) : (xV xs).length = xs.length := by simp [xV]
theorem xV_set (xs : List Int) (r : Nat) (v : Int) : (xV xs).set r (.int .u64 v) = xV (xs.set r v) := by simp [xV, List.map_set]
theorem xV_get (xs : List Int) (r : Nat) (h : r < xs.length) : (xV xs)[r]? = some (.int .u64 xs[r]) := by simp [xV, h]
theorem xV_one (xs : List Int) : ∀ v ∈ xV xs, v.oneCell' = true := by
  intro v hv
  obtain ⟨c, -, rfl⟩ := List.mem_map.1 hv
  rfl
theorem one_all {l : List Value} (h : ∀ v ∈ l, v.oneCell' = true) : l.toArray.all (·.oneCell') = true := by
  rw [Array.all_eq_true_iff_forall_mem]
  intro v hv
  exact h v (by simpa using hv)
section
variable {P : Program}
theorem run_loadVar_part (w : World) (g off : Nat) (t ty : TypeId) (cur : Array Value) (cs : List Value) (fr : Nat × Nat) (d : TypeDesc) (hg : w.heap[g]? = some (.cells cur t fr))
    (hu : P.underlying ty = some d) (hd : (match d with | .struct _ | .array _ _ => true | _ => false) = true) (hi : (P.info? ty).map (·.size) = some cs.length) (hc : ∀ j v, cs[j]? = some v → cur[off + j]? = some v) :
    (loadVar ty ⟨g, off, none⟩).run P w = .ok (.agg cs.toArray) w := by
  have hl : (loadCells ⟨g, off, none⟩ cs.length).run P w = .ok cs.toArray w :=
    run_loadCells_list (P := P) w ⟨g, off, none⟩ cs (fun j v hv => by
      have hadd : (⟨g, off, none⟩ : Addr).add j = ⟨g, off + j, none⟩ := by unfold Addr.add; split <;> simp_all
      rw [hadd, cell_of_row w g (off + j) cur t fr hg]
      exact hc j v hv)
  cases hq : P.info? ty with
  | none => simp [hq] at hi
  | some i =>
    have hs : i.size = cs.length := by simpa [hq] using hi
    have hagg : (isAgg ty).run P w = .ok true w := by
      unfold isAgg
      rw [Sem.run_bind, run_underlying hu w]
      cases d <;> simp_all
    simp [loadVar, Sem.run_bind, hagg, sizeOf, typeInfo, hq, hs, hl]
theorem run_storeVar_part (w : World) (g off : Nat) (t ty : TypeId) (cur : Array Value) (cs : List Value) (hg : w.heap[g]? = some (.cells cur t (0, 0))) (hi : (P.info? ty).map (·.size) = some cs.length)
    (ho : off + cs.length ≤ cur.size) (h1 : ∀ v ∈ cs, v.oneCell' = true) :
    (storeVar ty ⟨g, off, none⟩ (.agg cs.toArray)).run P w = .ok () (w.setRow g (cur.toList.take off ++ cs ++ cur.toList.drop (off + cs.length)).toArray) := by
  have := run_storeCells_at (P := P) g off t cs 0 cur w hg (by omega) h1
  cases hq : P.info? ty with
  | none => simp [hq] at hi
  | some i =>
    have hs : cs.length = i.size := by simp [hq] at hi; omega
    simp only [Nat.add_zero] at this
    simp [storeVar, sizeOf, typeInfo, hq, Value.cells, hs] at this ⊢
    exact this
theorem wpList_load_run {ops : Array Oper} {rest : List Oper} {o : Oper} {a : Act} {w : World} {Q : Exit → Act → World → Prop} (hgd : o.guard = none) (ty : TypeId) (x : Operand) (ho : o.op = .load ty x)
    (p : Addr) (hx : a.eval x = .pointer (some p)) (v : Value) (hr : (loadVar ty p).run P w = .ok v w) (h : wpList P ops Q rest (a.put o.dst v) w) : wpList P ops Q (o :: rest) a w := by
  refine wpList_plain hgd fun K hK => ?_
  unfold Oper.wp execOp
  simp only [ho, hx, Instr.loadAt, Instr.sureAddr, Sem.run_bind, Sem.run_pure, Result.andThen_ok, hr]
  exact hK _ _ h
end
theorem new_blk (w : World) (o : Obj) {n : Nat} (hn : w.heap.size = n) : (w.alloc o).heap[n]? = some o := by subst hn; exact heap_alloc_new w o
theorem old_blk {w : World} {g : Nat} {o : Obj} (h : w.heap[g]? = some o) (o' : Obj) : (w.alloc o').heap[g]? = some o := (Below.heap_alloc w o' g (lt_blk h)).trans h
theorem size32 : (Tryz.prog.info? 23).map (·.size) = some 32 := by kernel_rfl
set_option maxRecDepth 100000 in
set_option maxHeartbeats 1000000 in
theorem written_any (xs : List Int) (hx : xs.length = 32) (r : Nat) (hr : r < 32) (v : Int) (w : World) :
    Calls Tryz.prog 36 #[.agg (xV xs).toArray, .int .i64 (r : Int), .int .u64 v] w fun e w' => e = .returned (.agg (xV ((xs.set r v).set 0 0)).toArray) ∧ Below w.heap.size w w' := by
  have hx' := Lib.hid hx
  go_enter Tryz.func36, Tryz.ntmps36
  clear hx
  go_upto_region 1 with (fail)
  obtain ⟨W1, h1⟩ : ∃ W1, (w.alloc (Obj.cells (xV xs).toArray 23)).alloc (Obj.cells #[.int .u64 0, .int .u64 0, .int .u64 0, .int .u64 0, .int .u64 0, .int .u64 0, .int .u64 0, .int .u64 0, .int .u64 0, .int .u64 0, .int .u64 0, .int .u64 0, .int .u64 0, .int .u64 0, .int .u64 0, .int .u64 0, .int .u64 0, .int .u64 0, .int .u64 0, .int .u64 0, .int .u64 0, .int .u64 0, .int .u64 0, .int .u64 0, .int .u64 0, .int .u64 0, .int .u64 0, .int .u64 0, .int .u64 0, .int .u64 0, .int .u64 0, .int .u64 0] 23) = W1 := ⟨_, rfl⟩
  have hb : Below w.heap.size w W1 := by rw [← h1]; exact ((Below.refl _ _).alloc (Nat.le_refl _) _).alloc (by simp) _
  have k0 : W1.heap[w.heap.size]? = some (.cells (xV xs).toArray 23 (0, 0)) := by rw [← h1]; exact old_blk (new_blk _ _ rfl) _
  have k1 : W1.heap[w.heap.size + 1]? = some (.cells #[.int .u64 0, .int .u64 0, .int .u64 0, .int .u64 0, .int .u64 0, .int .u64 0, .int .u64 0, .int .u64 0, .int .u64 0, .int .u64 0, .int .u64 0, .int .u64 0, .int .u64 0, .int .u64 0, .int .u64 0, .int .u64 0, .int .u64 0, .int .u64 0, .int .u64 0, .int .u64 0, .int .u64 0, .int .u64 0, .int .u64 0, .int .u64 0, .int .u64 0, .int .u64 0, .int .u64 0, .int .u64 0, .int .u64 0, .int .u64 0, .int .u64 0, .int .u64 0] 23 (0, 0)) := by rw [← h1]; exact new_blk _ _ (by simp)
  rw [h1]
  clear h1
  obtain ⟨x1, c1⟩ : ∃ x, W1.cell? ⟨w.heap.size, r, none⟩ = some x := ⟨_, (cell_of_row _ _ _ _ _ _ k0).trans (by rw [List.getElem?_toArray]; exact xV_get xs r (by rw [hx'.out]; exact hr))⟩
  have f1 := frozen_blk k0 r
  go_upto_region 2 with (fail)
  obtain ⟨W2, h2⟩ : ∃ W2, W1.setCell ⟨w.heap.size, r, none⟩ (.int .u64 v) = W2 := ⟨_, rfl⟩
  have k2 : W2.heap[w.heap.size]? = some (.cells (xV (xs.set r v)).toArray 23 (0, 0)) := by rw [← h2, set_blk k0, ← xV_set xs r v]; simp
  have k3 := (show W2.heap[w.heap.size + 1]? = _ by rw [← h2]; exact Below.heap_setCell _ _ _ _ (by simp)).trans k1
  have hb2 : Below w.heap.size w W2 := by rw [← h2]; exact hb.setCell (p := ⟨w.heap.size, r, none⟩) (Nat.le_refl _) _
  rw [h2]
  clear h2 k0 k1 hb c1 f1
  obtain ⟨x2, c2⟩ : ∃ x, W2.cell? ⟨w.heap.size, 0, none⟩ = some x := ⟨_, (cell_of_row _ _ _ _ _ _ k2).trans (by rw [List.getElem?_toArray]; exact xV_get _ 0 (by rw [List.length_set, hx'.out]; omega))⟩
  have f2 := frozen_blk k2 0
  go_upto_region 3 with (fail)
  obtain ⟨W3, h3⟩ : ∃ W3, W2.setCell ⟨w.heap.size, 0, none⟩ (.int .u64 0) = W3 := ⟨_, rfl⟩
  have k4 : W3.heap[w.heap.size]? = some (.cells (xV ((xs.set r v).set 0 0)).toArray 23 (0, 0)) := by rw [← h3, set_blk k2, ← xV_set (xs.set r v) 0 0]; simp
  have k5 := (show W3.heap[w.heap.size + 1]? = _ by rw [← h3]; exact Below.heap_setCell _ _ _ _ (by simp)).trans k3
  have hb3 : Below w.heap.size w W3 := by rw [← h3]; exact hb2.setCell (p := ⟨w.heap.size, 0, none⟩) (Nat.le_refl _) _
  rw [h3]
  clear h3 k2 k3 hb2 c2 f2
  have hl : (xV ((xs.set r v).set 0 0)).length = 32 := by rw [xV_len, List.length_set, List.length_set]; exact hx'.out
  have ho := xV_one ((xs.set r v).set 0 0)
  obtain ⟨ys, hys⟩ : ∃ ys, xV ((xs.set r v).set 0 0) = ys := ⟨_, rfl⟩
  rw [hys] at k4 hl ho
  have hys' := Lib.hid hys
  clear hys
  apply wp_region_list
  refine wpList_load_row rfl 23 _ rfl w.heap.size rfl 23 ys.toArray (0, 0) _ k4 Tryz.underlying23 rfl (by rw [size32]; simp [hl]) ?_
  refine wpList_store_row rfl 23 _ _ rfl (w.heap.size + 1) ys.toArray rfl rfl 23 _ k5 (by rw [size32]; simp [hl]) (by simp [hl]) (one_all ho) ?_
  refine wpList_nil ?_
  have k6 := setRow_heap W3 (w.heap.size + 1) _ ys.toArray 23 _ k5
  have hb4 := below_setRow hb3 (Nat.le_succ _) ys.toArray
  rename_i hK
  refine hK _ _ ?_
  clear hK
  go_wp2_with fail
  exact bodyPost_ret (v := .agg ys.toArray) (results_cell_row rfl _ _ (w.heap.size + 1) 23 _ (0, 0) _ rfl k6 Tryz.underlying23 rfl (by rw [size32]; simp [hl])) rfl ⟨by rw [hys'.out], hb4⟩
end Go.Proofs.YtmggichckhoomaaGreatDoor
end
section
namespace Go.Proofs.YtmggichckhoomaaGreatDoor
open Go.RowKit
set_option linter.unusedVariables false
set_option linter.unusedSimpArgs false
/-- What a register has: register 0 has 0. -/
def rg (xs : List Int) (r : Nat) : Int := (xs.set 0 0).getD r 0
theorem rg_at (xs : List Int) (r : Nat) (h : r < xs.length) : (xV (xs.set 0 0))[r]? = some (.int .u64 (rg xs r)) := by
  rw [xV_get _ r (by rw [List.length_set]; exact h)]
  unfold rg
  rw [List.getD_eq_getElem?_getD, List.getElem?_eq_getElem (by rw [List.length_set]; exact h)]
  rfl
def ReadFn (xs : List Int) (w : World) (e : Ending) (w' : World) : Prop :=
  e = .returned (.func (.func 55) #[] #[.pointer (some ⟨w.heap.size, 0, none⟩)]) ∧ w'.heap[w.heap.size]? = some (.cells (xV (xs.set 0 0)).toArray 23 (0, 0)) ∧ Below w.heap.size w w'
set_option maxRecDepth 100000 in
theorem reading_any (xs : List Int) (hx : xs.length = 32) (w : World) :
    Calls Tryz.prog 33 #[.agg (xV xs).toArray] w (ReadFn xs w) := by
  have hx' := Lib.hid hx
  clear hx
  go_enter Tryz.func33, Tryz.ntmps33
  go_upto_region 1 with (fail)
  obtain ⟨W1, h1⟩ : ∃ W1, w.alloc (Obj.cells (xV xs).toArray 23) = W1 := ⟨_, rfl⟩
  have hb : Below w.heap.size w W1 := by rw [← h1]; exact (Below.refl _ _).alloc (Nat.le_refl _) _
  have k0 : W1.heap[w.heap.size]? = some (.cells (xV xs).toArray 23 (0, 0)) := by rw [← h1]; exact new_blk _ _ rfl
  rw [h1]
  clear h1
  obtain ⟨x1, c1⟩ : ∃ x, W1.cell? ⟨w.heap.size, 0, none⟩ = some x := ⟨_, (cell_of_row _ _ _ _ _ _ k0).trans (by rw [List.getElem?_toArray]; exact xV_get xs 0 (by rw [hx'.out]; omega))⟩
  have f1 := frozen_blk k0 0
  have k1 : (W1.setCell ⟨w.heap.size, 0, none⟩ (.int .u64 0)).heap[w.heap.size]? = some (.cells (xV (xs.set 0 0)).toArray 23 (0, 0)) := by rw [set_blk k0, ← xV_set xs 0 0]; simp
  have hb2 := hb.setCell (p := ⟨w.heap.size, 0, none⟩) (Nat.le_refl _) (.int .u64 0)
  replace k1 := Lib.hid k1
  clear k0
  go_wp2_with fail
  go_ret
  exact ⟨rfl, k1.out, hb2⟩
theorem read1_any (B : Nat) (xs : List Int) (r : Nat) (h : r < xs.length) (w : World) (hB : w.heap[B]? = some (.cells (xV (xs.set 0 0)).toArray 23 (0, 0))) (hx : xs.length = 32) :
    Calls Tryz.prog 55 #[.int .i64 (r : Int), .pointer (some ⟨B, 0, none⟩)] w fun e w' => e = .returned (.int .u64 (rg xs r)) ∧ w = w' := by
  have c : w.cell? ⟨B, r, none⟩ = some (.int .u64 (rg xs r)) := by rw [cell_of_row _ _ r _ _ _ hB, List.getElem?_toArray]; exact rg_at xs r h
  have hr : r < 32 := by omega
  clear hx h hB
  go_enter Tryz.func55, Tryz.ntmps55
  go_wp2_with fail
  go_ret
  exact ⟨rfl, rfl⟩
def BrB (op : Int) : Bool := decide (5 ≤ op ∧ op ≤ 10)
theorem ret_b {a b : Bool} (h : a = b) : Ending.returned (.bool a) = .returned (.bool b) := by rw [h]
theorem branch_any (op : Int) (w : World) : Calls Tryz.prog 61 #[.int .i64 op] w fun e w' => e = .returned (.bool (BrB op)) ∧ w = w' := by
  by_cases h5 : 5 ≤ op
  · by_cases h10 : op ≤ 10
    · have H := Lib.hid (show BrB op = true from decide_eq_true ⟨h5, h10⟩)
      go_enter Tryz.func61, Tryz.ntmps61
      go_wp2_with fail
      go_ret
      exact ⟨ret_b H.out.symm, rfl⟩
    · have H := Lib.hid (show BrB op = false from decide_eq_false (by omega))
      go_enter Tryz.func61, Tryz.ntmps61
      go_wp2_with fail
      go_ret
      exact ⟨ret_b H.out.symm, rfl⟩
  · have H := Lib.hid (show BrB op = false from decide_eq_false (by omega))
    go_enter Tryz.func61, Tryz.ntmps61
    go_wp2_with fail
    go_ret
    exact ⟨ret_b H.out.symm, rfl⟩
end Go.Proofs.YtmggichckhoomaaGreatDoor
end
section
namespace Go.Proofs.YtmggichckhoomaaGreatDoor
open Go.RowKit
set_option linter.unusedVariables false
set_option linter.unusedSimpArgs false
set_option maxRecDepth 100000 in
theorem made_any (p b : Nat) (bs : By) (w : World) (hM : Mem 92 w p b bs) :
    Calls Tryz.prog 45 #[.pointer (some ⟨p, 0, none⟩)] w fun e w' => e = .returned (.bool true) ∧ w = w' := by
  have hc := hM.head
  go_enter Tryz.func45, Tryz.ntmps45
  go_wp2
  go_ret
  exact ⟨rfl, rfl⟩
/-- What part answers where there is room: the bytes. -/
def PartOk (b : Nat) (at_ k n : Nat) (w : World) (e : Ending) (w' : World) : Prop := ∃ A, (0 < k → A = some ⟨b, at_, none⟩) ∧ e = .returned (.tuple #[.slice A k (n - at_), .int .i64 0]) ∧ w = w'
set_option maxRecDepth 100000 in
theorem part_ok (p b : Nat) (bs : By) (at_ k : Nat) (h : at_ + k ≤ bs.length) (hl : bs.length ≤ 16777216) (w : World) (hM : Mem 92 w p b bs) :
    Calls Tryz.prog 30 #[.pointer (some ⟨p, 0, none⟩), .int .u64 (at_ : Int), .int .i64 (k : Int)] w (PartOk b at_ k bs.length w) := by
  have hc := hM.head
  go_enter Tryz.func30, Tryz.ntmps30
  go_wp2_with fail
  refine (made_any p b bs _ hM).mono ?_
  rintro e w' ⟨rfl, rfl⟩
  go_wp2_with fail
  all_goals
    go_ret2
    first
      | exact ⟨_, fun h => absurd h (by omega), rfl, rfl⟩
      | exact ⟨_, fun _ => rfl, rfl, rfl⟩
      | exact ⟨some ⟨b, 0, none⟩, fun h => absurd h (by omega), by simp, rfl⟩
set_option maxRecDepth 100000 in
theorem part_no (p b : Nat) (bs : By) (at_ : Int) (k : Nat) (a0 : 0 ≤ at_) (a1 : at_ < 18446744073709551616) (k1 : k ≤ 9223372036854775807) (h : (bs.length : Int) < at_ + k) (hl : bs.length ≤ 16777216) (w : World) (hM : Mem 92 w p b bs) :
    Calls Tryz.prog 30 #[.pointer (some ⟨p, 0, none⟩), .int .u64 at_, .int .i64 (k : Int)] w fun e w' => e = .returned (.tuple #[.slice none 0 0, .int .i64 50]) ∧ w = w' := by
  have hc := hM.head
  by_cases h1 : (bs.length : Int) < at_
  · go_enter Tryz.func30, Tryz.ntmps30
    go_wp2_with fail
    refine (made_any p b bs _ hM).mono ?_
    rintro e w' ⟨rfl, rfl⟩
    go_wp2_with fail
    go_ret2
    exact ⟨rfl, rfl⟩
  · have h2 : (bs.length : Int) - at_ < k := by omega
    clear h
    go_enter Tryz.func30, Tryz.ntmps30
    go_wp2_with fail
    refine (made_any p b bs _ hM).mono ?_
    rintro e w' ⟨rfl, rfl⟩
    go_wp2_with fail
    all_goals
      go_ret2
      exact ⟨rfl, rfl⟩
set_option maxRecDepth 100000 in
theorem num_size (p b : Nat) (bs : By) (at_ s : Int) (h : ¬ (s = 1 ∨ s = 2 ∨ s = 4 ∨ s = 8)) (w : World) (hM : Mem 92 w p b bs) :
    Calls Tryz.prog 48 #[.pointer (some ⟨p, 0, none⟩), .int .u64 at_, .int .i64 s] w fun e w' => e = .returned (.tuple #[.slice none 0 0, .int .i64 2]) ∧ w = w' := by
  have h1 : (s == 1) = false := beq_eq_false_iff_ne.2 (by omega)
  have h2 : (s == 2) = false := beq_eq_false_iff_ne.2 (by omega)
  have h4 : (s == 4) = false := beq_eq_false_iff_ne.2 (by omega)
  have h8 : (s == 8) = false := beq_eq_false_iff_ne.2 (by omega)
  clear h
  go_enter Tryz.func48, Tryz.ntmps48
  go_wp2_with fail
  refine (made_any p b bs _ hM).mono ?_
  rintro e w' ⟨rfl, rfl⟩
  go_wp2_with fail
  go_ret2
  exact ⟨rfl, rfl⟩
set_option maxRecDepth 100000 in
theorem num_align (p b : Nat) (bs : By) (at_ s : Int) (hs : s = 1 ∨ s = 2 ∨ s = 4 ∨ s = 8) (h : at_ % s ≠ 0) (a0 : 0 ≤ at_) (a1 : at_ < 18446744073709551616) (w : World) (hM : Mem 92 w p b bs) :
    Calls Tryz.prog 48 #[.pointer (some ⟨p, 0, none⟩), .int .u64 at_, .int .i64 s] w fun e w' => e = .returned (.tuple #[.slice none 0 0, .int .i64 51]) ∧ w = w' := by
  rcases hs with rfl | rfl | rfl | rfl
  · omega
  all_goals
    go_enter Tryz.func48, Tryz.ntmps48
    go_wp2_with fail
    refine (made_any p b bs _ hM).mono ?_
    rintro e w' ⟨rfl, rfl⟩
    go_wp2_with fail
    all_goals
      go_ret2
      exact ⟨rfl, rfl⟩
set_option maxRecDepth 100000 in
theorem num_ok (p b : Nat) (bs : By) (at_ s : Nat) (hs : (s : Int) = 1 ∨ (s : Int) = 2 ∨ (s : Int) = 4 ∨ (s : Int) = 8) (h0 : (at_ : Int) % (s : Int) = 0) (h : at_ + s ≤ bs.length) (hl : bs.length ≤ 16777216) (w : World) (hM : Mem 92 w p b bs) :
    Calls Tryz.prog 48 #[.pointer (some ⟨p, 0, none⟩), .int .u64 (at_ : Int), .int .i64 (s : Int)] w (PartOk b at_ s bs.length w) := by
  have HP := Lib.hid (part_ok p b bs at_ s h hl w hM)
  obtain ⟨n, hn⟩ : ∃ n, bs.length = n := ⟨_, rfl⟩
  rw [hn] at HP ⊢
  clear hn h hl
  have e : s = 1 ∨ s = 2 ∨ s = 4 ∨ s = 8 := by omega
  unfold PartOk at HP ⊢
  rcases e with rfl | rfl | rfl | rfl
  all_goals
    go_enter Tryz.func48, Tryz.ntmps48
    go_wp2_with fail
    refine (made_any p b bs _ hM).mono ?_
    rintro e w' ⟨rfl, rfl⟩
    go_wp2_with fail
    refine (HP.out).mono ?_
    rintro e w' ⟨A, hA, rfl, rfl⟩
    obtain rfl := hA (by omega)
    clear hA
    go_wp2_with fail
    go_ret2
    exact ⟨_, fun _ => rfl, rfl, rfl⟩
end Go.Proofs.YtmggichckhoomaaGreatDoor
end
