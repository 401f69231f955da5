/-
  Proved here: the walks of an instruction's text, the code's. Conditions: the tables hold what their texts lay.
-/
import Derived.Test.YtmggichckhoomaaDoorLh
namespace Go.Proofs.YtmggichckhoomaaDoor
open Go.ChangeShapes Go.WideShapes Go.ChangeAt Go.RowKit Go.Sort
set_option linter.unusedVariables false
theorem has_is (op : Int) : GoodB op 1 0 0 0 false false = rdT (refRow op).1 ∧ GoodB op 0 1 0 0 false false = rs1T (refRow op).1 ∧ GoodB op 0 0 1 0 false false = rs2T (refRow op).1
    ∧ (GoodB op 0 0 0 2 false false || GoodB op 0 0 0 4096 false false) = immT (refRow op).1 := by
  obtain ⟨f0, f1, -⟩ := row_ok op
  rw [← rgood_is, ← rgood_is, ← rgood_is, ← rgood_is, ← rgood_is]
  generalize (refRow op).1 = f at *
  have h : f = 0 ∨ f = 1 ∨ f = 2 ∨ f = 3 ∨ f = 4 ∨ f = 5 ∨ f = 6 ∨ f = 7 ∨ f = 8 ∨ f = 9 ∨ f = 10 ∨ f = 11 ∨ f = 12 := by omega
  rcases h with rfl | rfl | rfl | rfl | rfl | rfl | rfl | rfl | rfl | rfl | rfl | rfl | rfl <;> decide +kernel
theorem str_app (a b : Bs) : Ending.returned (.string (⟨a.toArray⟩ ++ ⟨b.toArray⟩)) = Ending.returned (.string ⟨(a ++ b).toArray⟩) := by rw [ByteArray.mk_append_mk]
theorem grow_nb (w : World) (k : Nat) (os : Array Obj) : Nb w (grow (w.drewN k) os) := by
  refine ⟨rfl, rfl, rfl, ?_, fun i hi => ?_⟩
  · show w.heap.size ≤ (w.heap ++ os).size
    rw [Array.size_append]; exact Nat.le_add_right _ _
  · show (w.heap ++ os)[i]? = w.heap[i]?
    rw [Array.getElem?_append_left hi]
theorem ret_s {a b : ByteArray} (h : a = b) : Ending.returned (.string a) = .returned (.string b) := by rw [h]
set_option maxRecDepth 100000 in
set_option maxHeartbeats 1000000 in
theorem full_any (op rd rs1 rs2 im : Int) (aq rl : Bool) (ho : 1 ≤ op ∧ op ≤ 87) (w : World) (hL : Lw w) :
    Calls Tryd.prog 24 #[.agg #[.int .i64 op, .int .i64 rd, .int .i64 rs1, .int .i64 rs2, .int .i64 im, .bool aq, .bool rl]] w fun e w' => e = .returned (.string ⟨(nm op ++ suf aq rl).toArray⟩) ∧ Nb w w' := by
  have hn := hL.2.1 op.toNat (by omega)
  rw [← nm_yes op ho] at hn
  have hl : (nm op).length ≤ 14 := by have := (name_no op ho false false).2.2.1; simp [suf] at this; exact this
  generalize nm op = l at *
  have hn2 := ((Nb.refl w).alloc (Obj.cells #[.int .i64 op, .int .i64 rd, .int .i64 rs1, .int .i64 rs2, .int .i64 im, .bool aq, .bool rl] 33)).cell hn
  have h0 : 0 ≤ op := by omega
  have h1 : op < 88 := by omega
  clear ho hL
  go_enter Tryd.func24, Tryd.ntmps24
  cases aq <;> cases rl
  · go_wp2_with fail
    go_ret
    exact ⟨ret_s (by rw [show l ++ suf false false = l from List.append_nil l]), (Nb.refl _).alloc _⟩
  all_goals
    go_wp2_with fail
    go_ret
    exact ⟨str_app _ _, (Nb.refl _).alloc _⟩
theorem itoa_nb (n : Int) (h0 : -9223372036854775808 ≤ n) (h1 : n ≤ 9223372036854775807) (w : World) (hL : Lw w) :
    Calls Tryd.prog 26 #[.int .i64 n] w fun e w' => e = .returned (.string ⟨(Lib.itoa n).toArray⟩) ∧ Nb w w' := by
  refine (Tryd.strconv_Itoa n h0 h1 w hL.2.2.1).mono ?_
  rintro e w' ⟨rfl, k, os, rfl⟩
  exact ⟨rfl, grow_nb w k os⟩
set_option maxRecDepth 100000 in
set_option maxHeartbeats 1000000 in
theorem ahead_any (k : Int) (w : World) : Calls Tryd.prog 25 #[.int .i64 k] w fun e w' => e = .returned (.string ⟨(if k < 3 then [32, 120] else [32] : Bs).toArray⟩) ∧ w = w' := by
  go_enter Tryd.func25, Tryd.ntmps25
  have e1 : k < 3 → (if k < 3 then [32, 120] else [32] : Bs) = [32, 120] := fun h => if_pos h
  have e2 : ¬ k < 3 → (if k < 3 then [32, 120] else [32] : Bs) = [32] := fun h => if_neg h
  generalize (if k < 3 then [32, 120] else [32] : Bs) = l at *
  have e1 := Lib.hid e1
  have e2 := Lib.hid e2
  by_cases h : k < 3
  · go_wp2_with fail
    go_ret
    exact ⟨ret_s rfl, rfl⟩
  · go_wp2_with fail
    go_ret
    exact ⟨ret_s rfl, rfl⟩
end Go.Proofs.YtmggichckhoomaaDoor
