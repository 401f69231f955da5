/-
  Proved here: slices.Collect of a constant's iterator, and Const. Conditions: the number is a word. ¦ the small functions about an item: jal, opposite, names. Conditions: none.
-/
import Derived.Test.YtnooabgdcfegeaaDoorSav
section
namespace Go.Proofs.YtnooabgdcfegeaaDoor
open Go.RowKit Go.Shelf
set_option linter.unusedVariables false
set_option linter.unusedSimpArgs false
set_option maxRecDepth 100000
set_option maxHeartbeats 8000000
attribute [local go_sem] Oper.semAt_some
theorem collect_any {rd v : Int} {L : List In7} (h : ConOK rd v L) (hL : L.length ≤ 1000) (VB RB : Nat) (w : World)
    (hV : w.heap[VB]? = some (.cells #[.int .u64 v] 23 (0, 0))) (hR : w.heap[RB]? = some (.cells #[.int .i64 rd] 3 (0, 0))) :
    Calls Tryd.prog 25 #[.func (.func 51) #[] #[.pointer (some ⟨VB, 0, none⟩), .pointer (some ⟨RB, 0, none⟩)]] w fun r w' =>
      ∃ s, r = .returned s ∧ w'.ownsRow w.heap.size 37 7 s L.length (L.flatMap i7C) ∧ Nb w w' := by
  have h1 := Lib.hid (app_seq h hL VB RB w hV hR)
  clear h
  go_enter Tryd.func25, Tryd.ntmps25
  go_wp2_with (go_at_call 50; refine h1.out.mono ?_; rintro r w' ⟨s, rfl, ho, hn⟩)
  go_ret
  exact ⟨_, rfl, ho, hn⟩
theorem conL_len (rd : Int) : ∀ (n : Nat) (v : Int), (conL rd n v).length ≤ 2 * n := by
  intro n
  induction n with
  | zero => intro v; simp [conL]
  | succ n ih =>
    intro v
    have t : ∀ op, (talI op rd v).length ≤ 1 := fun op => by unfold talI; split <;> simp
    have t1 := t 41
    have t2 := t 22
    have i := ih (hiI v)
    rw [conL]
    split
    · simp; omega
    · split
      · simp; omega
      · simp; omega
theorem conI_len (rd v : Int) : (conI rd v).length ≤ 8 := conL_len rd 4 v
theorem own_base {w : World} {b b' : Nat} {e : TypeId} {size : Nat} {v : Value} {n : Nat} {xs : List Value} (hb : b' ≤ b) (h : w.ownsRow b e size v n xs) : w.ownsRow b' e size v n xs :=
  ⟨h.1, h.2.imp id fun ⟨g, c, cur, a1, a2, a3⟩ => ⟨g, c, cur, a1, by omega, a3⟩⟩
/-- The instructions that the code's Const tells. -/
def constI (rd v : Int) : List In7 := if 1 ≤ rd ∧ rd ≤ 31 then conI rd v else []
theorem const_ok (rd v : Int) (h0 : 0 ≤ v) (h1 : v < 18446744073709551616) (w : World) :
    Calls Tryd.prog 11 #[.int .i64 rd, .int .u64 v] w fun r w' => ∃ s, r = .returned s ∧ w'.ownsRow w.heap.size 37 7 s (constI rd v).length ((constI rd v).flatMap i7C) ∧ Nb w w' := by
  have hcon := Lib.hid (con_ok rd v h0 h1)
  have hreg := Lib.hid (register_any rd 1)
  clear h0 h1
  by_cases hr : 1 ≤ rd ∧ rd ≤ 31
  · have hd : decide (1 ≤ rd ∧ rd ≤ 31) = true := decide_eq_true hr
    have eI : constI rd v = conI rd v := if_pos hr
    rw [hd] at hreg
    rw [eI]
    clear hd hr eI
    go_enter Tryd.func11, Tryd.ntmps11
    go_upto_region 3 with (go_at_call 24; refine (hreg.out _).mono ?_; rintro r w' ⟨rfl, hww⟩; obtain rfl := hww.symm)
    have hcst := Lib.hid (constant_any rd v w)
    go_wp2_with (first | (go_at_call 26; go_loud (refine hcst.out.mono ?_; rintro r w6 ⟨rfl, hw6⟩; have g6 : Nb w w6 := (by rw [hw6]; exact Below.alloc (Below.alloc (Below.refl _ _) (Nat.le_refl _) _) (by rw [World.size_alloc]; omega) _); have d3 : w6.heap[w.heap.size]? = some (.cells #[.int .i64 rd] 3 (0, 0)) := (by rw [hw6]; exact Nb.block (show Nb _ _ from Below.alloc (Below.refl _ _) (Nat.le_refl _) _) (new_bkc _ _ rfl)); have d2 : w6.heap[w.heap.size + 1]? = some (.cells #[.int .u64 v] 23 (0, 0)) := (by rw [hw6]; exact new_bkc _ _ (by rw [World.size_alloc])); have hcol := Lib.hid (collect_any hcon.out (Nat.le_trans (conI_len rd v) (by omega)) _ _ w6 d2 d3); clear hw6 hcst)) | (go_at_call 25; refine hcol.out.mono ?_; rintro r w7 ⟨s, rfl, ho, hn⟩))
    go_ret
    exact ⟨_, rfl, own_base g6.size ho, g6.trans hn⟩
  · have hd : decide (1 ≤ rd ∧ rd ≤ 31) = false := decide_eq_false hr
    have eI : constI rd v = [] := if_neg hr
    rw [hd] at hreg
    rw [eI]
    clear hd hr eI
    go_enter Tryd.func11, Tryd.ntmps11
    go_wp2_with (go_at_call 24; refine (hreg.out _).mono ?_; rintro r w' ⟨rfl, hww⟩; obtain rfl := hww.symm)
    go_ret
    exact ⟨_, rfl, World.ownsRow_nil _ _ _ _, Below.refl _ _⟩
end Go.Proofs.YtnooabgdcfegeaaDoor
end
section
namespace Go.Proofs.YtnooabgdcfegeaaDoor
open Go.RowKit Go.Shelf
set_option linter.unusedVariables false
set_option linter.unusedSimpArgs false
set_option maxRecDepth 100000
set_option maxHeartbeats 8000000
attribute [local go_sem] Oper.semAt_some
def jalI (rd far : Int) : In7 := (3, rd, 0, 0, far, false, false)
theorem jal_any (rd far : Int) (w : World) : Calls Tryd.prog 62 #[.int .i64 rd, .int .i64 far] w fun e w' => e = .returned (.agg (i7C (jalI rd far)).toArray) ∧ Nb w w' := by
  show Calls Tryd.prog 62 _ w fun e w' => e = .returned (.agg #[.int .i64 3, .int .i64 rd, .int .i64 0, .int .i64 0, .int .i64 far, .bool false, .bool false]) ∧ Nb w w'
  go_enter Tryd.func62, Tryd.ntmps62
  go_upto_region 1 with (fail)
  obtain ⟨W1, hW1⟩ : ∃ W1, w.alloc (.cells #[.int .i64 0, .int .i64 0, .int .i64 0, .int .i64 0, .int .i64 0, .bool false, .bool false] 37) = W1 := ⟨_, rfl⟩
  have n1 : Nb w W1 := by rw [← hW1]; exact Below.alloc (Below.refl _ _) (Nat.le_refl _) _
  have b1 : W1.heap[w.heap.size]? = some (.cells #[.int .i64 0, .int .i64 0, .int .i64 0, .int .i64 0, .int .i64 0, .bool false, .bool false] 37 (0, 0)) := by rw [← hW1]; exact new_bkc _ _ rfl
  rw [hW1]
  clear hW1
  have c0 := cell_of_row _ _ 0 _ _ _ b1
  have f0 := frozen_bkc b1 0
  have c1 := cell_of_row _ _ 1 _ _ _ b1
  have f1 := frozen_bkc b1 1
  have c2 := cell_of_row _ _ 2 _ _ _ b1
  have f2 := frozen_bkc b1 2
  have c3 := cell_of_row _ _ 3 _ _ _ b1
  have f3 := frozen_bkc b1 3
  have c4 := cell_of_row _ _ 4 _ _ _ b1
  have f4 := frozen_bkc b1 4
  have c5 := cell_of_row _ _ 5 _ _ _ b1
  have f5 := frozen_bkc b1 5
  have c6 := cell_of_row _ _ 6 _ _ _ b1
  have f6 := frozen_bkc b1 6
  have b1h := Lib.hid b1
  clear b1
  go_wp2_with fail
  refine bodyPost_ret (results_cell_row rfl _ _ w.heap.size 37 _ (0, 0) _ rfl (set7_all b1h.out) Tryd.underlying37 rfl (by kernel_rfl)) rfl ?_
  exact ⟨rfl, nb7 n1 (Nat.le_refl _)⟩
/-- The branch that is taken where another is not. -/
def oppI (op : Int) : Int := if op = 5 then 6 else if op = 6 then 5 else if op = 7 then 8 else if op = 8 then 7 else if op = 9 then 10 else if op = 10 then 9 else 0
theorem opposite_any (op : Int) (w : World) : Calls Tryd.prog 58 #[.int .i64 op] w fun e w' => e = .returned (.int .i64 (oppI op)) ∧ w' = w := by
  by_cases h5 : op = 5
  · subst h5; go_enter Tryd.func58, Tryd.ntmps58; go_wp2_with fail; go_ret; exact ⟨rfl, rfl⟩
  by_cases h6 : op = 6
  · subst h6; go_enter Tryd.func58, Tryd.ntmps58; go_wp2_with fail; go_ret; exact ⟨rfl, rfl⟩
  by_cases h7 : op = 7
  · subst h7; go_enter Tryd.func58, Tryd.ntmps58; go_wp2_with fail; go_ret; exact ⟨rfl, rfl⟩
  by_cases h8 : op = 8
  · subst h8; go_enter Tryd.func58, Tryd.ntmps58; go_wp2_with fail; go_ret; exact ⟨rfl, rfl⟩
  by_cases h9 : op = 9
  · subst h9; go_enter Tryd.func58, Tryd.ntmps58; go_wp2_with fail; go_ret; exact ⟨rfl, rfl⟩
  by_cases h10 : op = 10
  · subst h10; go_enter Tryd.func58, Tryd.ntmps58; go_wp2_with fail; go_ret; exact ⟨rfl, rfl⟩
  have q5 : (op == 5) = false := beq_false_of_ne h5
  have q6 : (op == 6) = false := beq_false_of_ne h6
  have q7 : (op == 7) = false := beq_false_of_ne h7
  have q8 : (op == 8) = false := beq_false_of_ne h8
  have q9 : (op == 9) = false := beq_false_of_ne h9
  have q10 : (op == 10) = false := beq_false_of_ne h10
  have e : oppI op = 0 := by unfold oppI; simp [h5, h6, h7, h8, h9, h10]
  rw [e]
  clear e h5 h6 h7 h8 h9 h10
  go_enter Tryd.func58, Tryd.ntmps58
  go_wp2_with fail
  go_ret
  exact ⟨rfl, rfl⟩
/-- An item: its kind, its instruction, its name, its number. -/
abbrev Itm := Int × In7 × ByteArray × Int
def itmC (i : Itm) : List Value := .int .i64 i.1 :: (i7C i.2.1 ++ [.string i.2.2.1, .int .u64 i.2.2.2])
def itmV (i : Itm) : Value := .agg (itmC i).toArray
def namesI (i : Itm) : Bool := i.1 == 3 || (i.1 == 4 || i.1 == 5)
theorem names_any (i : Itm) (w : World) : Calls Tryd.prog 56 #[itmV i] w fun e w' => e = .returned (.bool (namesI i)) ∧ Nb w w' := by
  obtain ⟨k, ⟨o1, o2, o3, o4, o5, o6, o7⟩, nm, v⟩ := i
  show Calls Tryd.prog 56 #[.agg #[.int .i64 k, .int .i64 o1, .int .i64 o2, .int .i64 o3, .int .i64 o4, .int .i64 o5, .bool o6, .bool o7, .string nm, .int .u64 v]] w fun e w' => e = .returned (.bool (k == 3 || (k == 4 || k == 5))) ∧ Nb w w'
  go_enter Tryd.func56, Tryd.ntmps56
  go_upto_region 1 with (fail)
  obtain ⟨W1, hW1⟩ : ∃ W1, w.alloc (.cells #[.int .i64 k, .int .i64 o1, .int .i64 o2, .int .i64 o3, .int .i64 o4, .int .i64 o5, .bool o6, .bool o7, .string nm, .int .u64 v] 39) = W1 := ⟨_, rfl⟩
  have n1 : Nb w W1 := by rw [← hW1]; exact Below.alloc (Below.refl _ _) (Nat.le_refl _) _
  have b1 : W1.heap[w.heap.size]? = some (.cells #[.int .i64 k, .int .i64 o1, .int .i64 o2, .int .i64 o3, .int .i64 o4, .int .i64 o5, .bool o6, .bool o7, .string nm, .int .u64 v] 39 (0, 0)) := by rw [← hW1]; exact new_bkc _ _ rfl
  rw [hW1]
  clear hW1
  have c0 := cell_of_row _ _ 0 _ _ _ b1
  cases h3 : (k == 3) <;> cases h4 : (k == 4) <;> cases h5 : (k == 5)
  all_goals
    go_wp2_with fail
    go_ret
    exact ⟨by simp only [h3, h4, h5]; rfl, n1⟩
end Go.Proofs.YtnooabgdcfegeaaDoor
end
