/-
  Proved here: small functions of image and of its reference: whether a number is within two others, whether a config may be, where a record and a block stand. Conditions: none.
-/
import Derived.Test.YtojogolmcclpoaaProg
import Derived.WalkKit
import Derived.WalkSpells
import Derived.WalkLawsBesides
import Derived.Deep.QuietTactic
import Derived.BigQuiet
import Derived.BigRegion
import Derived.Handy
import Derived.Lib.Hide
import Derived.Laws.Rows
import Derived.Deep.RegionHeld3
import Derived.Laws.ResultCell
import Derived.Deep.Cut
import Derived.Lib.QuietBelow
namespace Go.Proofs.Ytojogolmcclpoaa
open Go.RowKit
set_option linter.unusedVariables false
set_option linter.unusedSimpArgs false
set_option maxRecDepth 100000
set_option maxHeartbeats 4000000
def Nb (w w' : World) : Prop := Below w.heap.size w w'
theorem lt_bk {w : World} {g : Nat} {o : Obj} (h : w.heap[g]? = some o) : g < w.heap.size := (Array.getElem?_eq_some_iff.1 h).1
theorem Nb.refl (w : World) : Nb w w := Below.refl _ _
theorem Nb.trans {a b c : World} (h : Nb a b) (k : Nb b c) : Nb a c := Below.trans h (Below.mono k (Below.size h))
theorem Nb.alloc {a b : World} (h : Nb a b) (o : Obj) : Nb a (b.alloc o) := Below.alloc h (Below.size h) o
theorem Nb.size {a b : World} (h : Nb a b) : a.heap.size ≤ b.heap.size := Below.size h
theorem Nb.block {a b : World} (h : Nb a b) {n : Nat} {o : Obj} (k : a.heap[n]? = some o) : b.heap[n]? = some o := (Below.block h n (lt_bk k)).trans k
theorem Nb.cell {a b : World} (h : Nb a b) {p : Addr} {v : Value} (k : a.cell? p = some v) : b.cell? p = some v := (Below.cell h (block_lt_of_cell k)).trans k
theorem Nb.drewN {a b : World} (h : Nb a b) (n : Nat) : Nb a (b.drewN n) := Below.trans h ⟨rfl, rfl, rfl, Nat.le_refl _, fun _ _ => rfl⟩
theorem Nb.drew {a b : World} (h : Nb a b) : Nb a b.drew := h.drewN 1
theorem Nb.setCell {a b : World} (h : Nb a b) {p : Addr} (hp : a.heap.size ≤ p.block) (u : Value) : Nb a (b.setCell p u) := Below.setCell h hp u
theorem alloc_nb (w : World) (o : Obj) : Nb w (w.alloc o) := (Nb.refl w).alloc o
theorem new_blk (w : World) (o : Obj) {n : Nat} (hn : w.heap.size = n) : (w.alloc o).heap[n]? = some o := by subst hn; exact heap_alloc_new w o
theorem frozen_bk {w : World} {g : Nat} {cs : Array Value} {t : TypeId} (h : w.heap[g]? = some (.cells cs t (0, 0))) (k : Nat) : w.frozen? ⟨g, k, none⟩ = false := by simp [World.frozen?, h]
theorem set_bk {w : World} {g : Nat} {cs : Array Value} {t : TypeId} (h : w.heap[g]? = some (.cells cs t (0, 0))) (k : Nat) (v : Value) : (w.setCell ⟨g, k, none⟩ v).heap[g]? = some (.cells (cs.setIfInBounds k v) t (0, 0)) := by
  simp [World.setCell, Array.getElem?_modify, h]
theorem ret_b {a b : Bool} (h : a = b) : Ending.returned (.bool a) = .returned (.bool b) := by rw [h]
/-- Is a number within two others? -/
def inB (n a b : Int) : Bool := decide (a ≤ n ∧ n ≤ b)
theorem within_any (n a b : Int) (w : World) : Calls Try.prog 18 #[.int .i64 n, .int .i64 a, .int .i64 b] w fun e w' => e = .returned (.bool (inB n a b)) ∧ w' = w := by
  by_cases h1 : a ≤ n
  · by_cases h2 : n ≤ b
    · have H : inB n a b = true := decide_eq_true ⟨h1, h2⟩
      rw [H]
      clear H
      have q1 : decide (a ≤ n) = true := decide_eq_true h1
      have q2 : decide (n ≤ b) = true := decide_eq_true h2
      go_enter Try.func18, Try.ntmps18
      go_wp2_with fail
      go_ret
      exact ⟨rfl, rfl⟩
    · have H : inB n a b = false := decide_eq_false (by omega)
      rw [H]
      clear H
      have q1 : decide (a ≤ n) = true := decide_eq_true h1
      have q2 : decide (n ≤ b) = false := decide_eq_false h2
      go_enter Try.func18, Try.ntmps18
      go_wp2_with fail
      go_ret
      exact ⟨rfl, rfl⟩
  · have H : inB n a b = false := decide_eq_false (by omega)
    rw [H]
    clear H
    have q1 : decide (a ≤ n) = false := decide_eq_false h1
    go_enter Try.func18, Try.ntmps18
    go_wp2_with fail
    go_ret
    exact ⟨rfl, rfl⟩
theorem rin_any (n a b : Int) (w : World) : Calls Try.prog 21 #[.int .i64 n, .int .i64 a, .int .i64 b] w fun e w' => e = .returned (.bool (inB n a b)) ∧ w' = w := by
  by_cases h1 : a ≤ n
  · by_cases h2 : n ≤ b
    · have H : inB n a b = true := decide_eq_true ⟨h1, h2⟩
      rw [H]
      clear H
      have q1 : decide (a ≤ n) = true := decide_eq_true h1
      have q2 : decide (n ≤ b) = true := decide_eq_true h2
      go_enter Try.func21, Try.ntmps21
      go_wp2_with fail
      go_ret
      exact ⟨rfl, rfl⟩
    · have H : inB n a b = false := decide_eq_false (by omega)
      rw [H]
      clear H
      have q1 : decide (a ≤ n) = true := decide_eq_true h1
      have q2 : decide (n ≤ b) = false := decide_eq_false h2
      go_enter Try.func21, Try.ntmps21
      go_wp2_with fail
      go_ret
      exact ⟨rfl, rfl⟩
  · have H : inB n a b = false := decide_eq_false (by omega)
    rw [H]
    clear H
    have q1 : decide (a ≤ n) = false := decide_eq_false h1
    go_enter Try.func21, Try.ntmps21
    go_wp2_with fail
    go_ret
    exact ⟨rfl, rfl⟩
/-- A config. -/
structure Cf where
  harts : Int
  actors : Int
  blocks : Int
  words : Int
  budget : Int
def Cf.v (c : Cf) : Value := .agg #[.int .i64 c.harts, .int .i64 c.actors, .int .i64 c.blocks, .int .i64 c.words, .int .i64 c.budget]
def Cf.good (c : Cf) : Bool := inB c.harts 1 8 && (inB c.actors 1 64 && (inB c.blocks 1 256 && (inB c.words 8 1024 && inB c.budget 1 1000)))
theorem good_any (c : Cf) (w : World) : Calls Try.prog 9 #[c.v] w fun e w' => e = .returned (.bool c.good) ∧ Nb w w' := by
  obtain ⟨x0, x1, x2, x3, x4⟩ := c
  show Calls Try.prog 9 #[.agg #[.int .i64 x0, .int .i64 x1, .int .i64 x2, .int .i64 x3, .int .i64 x4]] w fun e w' => e = .returned (.bool (inB x0 1 8 && (inB x1 1 64 && (inB x2 1 256 && (inB x3 8 1024 && inB x4 1 1000))))) ∧ Nb w w'
  obtain ⟨q0, hq0⟩ : ∃ q, inB x0 1 8 = q := ⟨_, rfl⟩
  rw [hq0]
  have H0 := Lib.hid hq0
  clear hq0
  obtain ⟨q1, hq1⟩ : ∃ q, inB x1 1 64 = q := ⟨_, rfl⟩
  rw [hq1]
  have H1 := Lib.hid hq1
  clear hq1
  obtain ⟨q2, hq2⟩ : ∃ q, inB x2 1 256 = q := ⟨_, rfl⟩
  rw [hq2]
  have H2 := Lib.hid hq2
  clear hq2
  obtain ⟨q3, hq3⟩ : ∃ q, inB x3 8 1024 = q := ⟨_, rfl⟩
  rw [hq3]
  have H3 := Lib.hid hq3
  clear hq3
  obtain ⟨q4, hq4⟩ : ∃ q, inB x4 1 1000 = q := ⟨_, rfl⟩
  rw [hq4]
  have H4 := Lib.hid hq4
  clear hq4
  go_enter Try.func9, Try.ntmps9
  go_upto_region 1 with (fail)
  obtain ⟨W1, hW1⟩ : ∃ W1, w.alloc (.cells #[.int .i64 x0, .int .i64 x1, .int .i64 x2, .int .i64 x3, .int .i64 x4] 23) = W1 := ⟨_, rfl⟩
  have b1 : W1.heap[w.heap.size]? = some (.cells #[.int .i64 x0, .int .i64 x1, .int .i64 x2, .int .i64 x3, .int .i64 x4] 23 (0, 0)) := by rw [← hW1]; exact new_blk _ _ rfl
  have n1 : Nb w W1 := by rw [← hW1]; exact alloc_nb _ _
  rw [hW1]
  clear hW1
  obtain ⟨B, hB⟩ : ∃ B, w.heap.size = B := ⟨_, rfl⟩
  rw [hB] at b1 ⊢
  clear hB
  have c0 := cell_of_row _ _ 0 _ _ _ b1
  have c1 := cell_of_row _ _ 1 _ _ _ b1
  have c2 := cell_of_row _ _ 2 _ _ _ b1
  have c3 := cell_of_row _ _ 3 _ _ _ b1
  have c4 := cell_of_row _ _ 4 _ _ _ b1
  clear b1
  cases q0 with
  | false =>
    go_wp2_with (go_at_call 18; refine (within_any _ _ _ _).mono ?_; rintro r w' ⟨rfl, rfl⟩; first | rw [H0.out] | rw [H1.out] | rw [H2.out] | rw [H3.out] | rw [H4.out])
    go_ret
    exact ⟨rfl, n1⟩
  | true =>
  cases q1 with
  | false =>
    go_wp2_with (go_at_call 18; refine (within_any _ _ _ _).mono ?_; rintro r w' ⟨rfl, rfl⟩; first | rw [H0.out] | rw [H1.out] | rw [H2.out] | rw [H3.out] | rw [H4.out])
    go_ret
    exact ⟨rfl, n1⟩
  | true =>
  cases q2 with
  | false =>
    go_wp2_with (go_at_call 18; refine (within_any _ _ _ _).mono ?_; rintro r w' ⟨rfl, rfl⟩; first | rw [H0.out] | rw [H1.out] | rw [H2.out] | rw [H3.out] | rw [H4.out])
    go_ret
    exact ⟨rfl, n1⟩
  | true =>
  cases q3 with
  | false =>
    go_wp2_with (go_at_call 18; refine (within_any _ _ _ _).mono ?_; rintro r w' ⟨rfl, rfl⟩; first | rw [H0.out] | rw [H1.out] | rw [H2.out] | rw [H3.out] | rw [H4.out])
    go_ret
    exact ⟨rfl, n1⟩
  | true =>
  cases q4 with
  | false =>
    go_wp2_with (go_at_call 18; refine (within_any _ _ _ _).mono ?_; rintro r w' ⟨rfl, rfl⟩; first | rw [H0.out] | rw [H1.out] | rw [H2.out] | rw [H3.out] | rw [H4.out])
    go_ret
    exact ⟨rfl, n1⟩
  | true =>
  go_wp2_with (go_at_call 18; refine (within_any _ _ _ _).mono ?_; rintro r w' ⟨rfl, rfl⟩; first | rw [H0.out] | rw [H1.out] | rw [H2.out] | rw [H3.out] | rw [H4.out])
  go_ret
  exact ⟨rfl, n1⟩
theorem rgood_any (c : Cf) (w : World) : Calls Try.prog 10 #[c.v] w fun e w' => e = .returned (.bool c.good) ∧ Nb w w' := by
  obtain ⟨x0, x1, x2, x3, x4⟩ := c
  show Calls Try.prog 10 #[.agg #[.int .i64 x0, .int .i64 x1, .int .i64 x2, .int .i64 x3, .int .i64 x4]] w fun e w' => e = .returned (.bool (inB x0 1 8 && (inB x1 1 64 && (inB x2 1 256 && (inB x3 8 1024 && inB x4 1 1000))))) ∧ Nb w w'
  obtain ⟨q0, hq0⟩ : ∃ q, inB x0 1 8 = q := ⟨_, rfl⟩
  rw [hq0]
  have H0 := Lib.hid hq0
  clear hq0
  obtain ⟨q1, hq1⟩ : ∃ q, inB x1 1 64 = q := ⟨_, rfl⟩
  rw [hq1]
  have H1 := Lib.hid hq1
  clear hq1
  obtain ⟨q2, hq2⟩ : ∃ q, inB x2 1 256 = q := ⟨_, rfl⟩
  rw [hq2]
  have H2 := Lib.hid hq2
  clear hq2
  obtain ⟨q3, hq3⟩ : ∃ q, inB x3 8 1024 = q := ⟨_, rfl⟩
  rw [hq3]
  have H3 := Lib.hid hq3
  clear hq3
  obtain ⟨q4, hq4⟩ : ∃ q, inB x4 1 1000 = q := ⟨_, rfl⟩
  rw [hq4]
  have H4 := Lib.hid hq4
  clear hq4
  go_enter Try.func10, Try.ntmps10
  go_upto_region 1 with (fail)
  obtain ⟨W1, hW1⟩ : ∃ W1, w.alloc (.cells #[.int .i64 x0, .int .i64 x1, .int .i64 x2, .int .i64 x3, .int .i64 x4] 23) = W1 := ⟨_, rfl⟩
  have b1 : W1.heap[w.heap.size]? = some (.cells #[.int .i64 x0, .int .i64 x1, .int .i64 x2, .int .i64 x3, .int .i64 x4] 23 (0, 0)) := by rw [← hW1]; exact new_blk _ _ rfl
  have n1 : Nb w W1 := by rw [← hW1]; exact alloc_nb _ _
  rw [hW1]
  clear hW1
  obtain ⟨B, hB⟩ : ∃ B, w.heap.size = B := ⟨_, rfl⟩
  rw [hB] at b1 ⊢
  clear hB
  have c0 := cell_of_row _ _ 0 _ _ _ b1
  have c1 := cell_of_row _ _ 1 _ _ _ b1
  have c2 := cell_of_row _ _ 2 _ _ _ b1
  have c3 := cell_of_row _ _ 3 _ _ _ b1
  have c4 := cell_of_row _ _ 4 _ _ _ b1
  clear b1
  cases q0 with
  | false =>
    go_wp2_with (go_at_call 21; refine (rin_any _ _ _ _).mono ?_; rintro r w' ⟨rfl, rfl⟩; first | rw [H0.out] | rw [H1.out] | rw [H2.out] | rw [H3.out] | rw [H4.out])
    go_ret
    exact ⟨rfl, n1⟩
  | true =>
  cases q1 with
  | false =>
    go_wp2_with (go_at_call 21; refine (rin_any _ _ _ _).mono ?_; rintro r w' ⟨rfl, rfl⟩; first | rw [H0.out] | rw [H1.out] | rw [H2.out] | rw [H3.out] | rw [H4.out])
    go_ret
    exact ⟨rfl, n1⟩
  | true =>
  cases q2 with
  | false =>
    go_wp2_with (go_at_call 21; refine (rin_any _ _ _ _).mono ?_; rintro r w' ⟨rfl, rfl⟩; first | rw [H0.out] | rw [H1.out] | rw [H2.out] | rw [H3.out] | rw [H4.out])
    go_ret
    exact ⟨rfl, n1⟩
  | true =>
  cases q3 with
  | false =>
    go_wp2_with (go_at_call 21; refine (rin_any _ _ _ _).mono ?_; rintro r w' ⟨rfl, rfl⟩; first | rw [H0.out] | rw [H1.out] | rw [H2.out] | rw [H3.out] | rw [H4.out])
    go_ret
    exact ⟨rfl, n1⟩
  | true =>
  cases q4 with
  | false =>
    go_wp2_with (go_at_call 21; refine (rin_any _ _ _ _).mono ?_; rintro r w' ⟨rfl, rfl⟩; first | rw [H0.out] | rw [H1.out] | rw [H2.out] | rw [H3.out] | rw [H4.out])
    go_ret
    exact ⟨rfl, n1⟩
  | true =>
  go_wp2_with (go_at_call 21; refine (rin_any _ _ _ _).mono ?_; rintro r w' ⟨rfl, rfl⟩; first | rw [H0.out] | rw [H1.out] | rw [H2.out] | rw [H3.out] | rw [H4.out])
  go_ret
  exact ⟨rfl, n1⟩
end Go.Proofs.Ytojogolmcclpoaa
