/-
  Proved here: which registers an instruction is said to read, for every instruction, and that the reference's comparison of such slices says yes. Condition: the table of codes holds what its text lays.
-/
import Derived.Test.YtcbaokgdpmjhgaaDoorTb
import Derived.Deep.QuietTactic
import Derived.BigQuiet
namespace Go.Proofs.YtcbaokgdpmjhgaaDoor
open Go.RowKit Go.Sort
set_option linter.unusedVariables false
theorem nz_z : nz 0 = [] := rfl
theorem nz_y {r : Int} (h : r ≠ 0) : nz r = [r] := if_neg h
theorem bne_t {r : Int} (h : r ≠ 0) : (r != 0) = true := by simpa using h
theorem uses_any (op rd r1 r2 im : Int) (aq rl : Bool) (v0 : -9223372036854775808 ≤ im) (v1 : im < 9223372036854775808) (w : World) (hC : Cod w) :
    Calls Tryd.prog 26 #[.agg #[.int .i64 op, .int .i64 rd, .int .i64 r1, .int .i64 r2, .int .i64 im, .bool aq, .bool rl]] w (OwnAns (UsesL (GoodB op rd r1 r2 im aq rl) r1 r2) w) := by
  have GA := fun w (hC : Cod w) => good_any op rd r1 r2 im aq rl v0 v1 w hC
  generalize GoodB op rd r1 r2 im aq rl = g at *
  cases g
  · exact uses_none op rd r1 r2 im aq rl GA w hC
  · rw [show UsesL true r1 r2 = nz r1 ++ nz r2 from rfl]
    by_cases c1 : r1 = 0
    · subst c1
      by_cases c2 : r2 = 0
      · subst c2; exact uses_00 op rd 0 0 im aq rl rfl rfl GA w hC
      · rw [nz_y c2]; exact uses_01 op rd 0 r2 im aq rl rfl (bne_t c2) GA w hC
    · by_cases c2 : r2 = 0
      · subst c2; rw [nz_y c1]; exact uses_10 op rd r1 0 im aq rl (bne_t c1) rfl GA w hC
      · rw [nz_y c1, nz_y c2]; exact uses_11 op rd r1 r2 im aq rl (bne_t c1) (bne_t c2) GA w hC
set_option maxRecDepth 100000 in
set_option maxHeartbeats 4000000 in
theorem ruses_none (op rd r1 r2 im : Int) (aq rl : Bool)
    (GA : Hid (∀ w, Calls Tryd.prog 13 #[.agg #[.int .i64 op, .int .i64 rd, .int .i64 r1, .int .i64 r2, .int .i64 im, .bool aq, .bool rl]] w fun e w' => e = .returned (.bool false) ∧ Nb w w')) (w : World) :
    Calls Tryd.prog 27 #[.agg #[.int .i64 op, .int .i64 rd, .int .i64 r1, .int .i64 r2, .int .i64 im, .bool aq, .bool rl]] w (OwnAns [] w) := by
  go_enter Tryd.func27, Tryd.ntmps27
  go_wp2_with fail
  obtain ⟨W1, hW1⟩ : ∃ W1, w.alloc (.cells #[.int .i64 op, .int .i64 rd, .int .i64 r1, .int .i64 r2, .int .i64 im, .bool aq, .bool rl] 23) = W1 := ⟨_, rfl⟩
  have hN1 : Nb w W1 := by rw [← hW1]; exact (Nb.refl _).alloc _
  rw [hW1]
  clear hW1
  refine (GA.out _).mono ?_
  rintro e w3 ⟨rfl, hn3⟩
  have hN3 := hN1.trans hn3
  have hown0 := World.ownsRow_nil w3 w.heap.size 3 1
  clear hN1 hn3
  go_wp2_with fail
  go_ret
  exact ⟨_, rfl, by simpa using hown0, hN3⟩
theorem ruses_any (op rd r1 r2 im : Int) (aq rl : Bool) (v0 : -9223372036854775808 ≤ im) (v1 : im < 9223372036854775808) (w : World) :
    Calls Tryd.prog 27 #[.agg #[.int .i64 op, .int .i64 rd, .int .i64 r1, .int .i64 r2, .int .i64 im, .bool aq, .bool rl]] w (OwnAns (UsesL (GoodB op rd r1 r2 im aq rl) r1 r2) w) := by
  have GA := fun w => rgoods op rd r1 r2 im aq rl v0 v1 w
  obtain ⟨f0, f1, -⟩ := row_ok op
  have RA := fun w => row_any op w
  have HA := fun w => hs_any (refRow op).1 f0 f1 w
  cases hg : GoodB op rd r1 r2 im aq rl
  · rw [hg] at GA
    exact ruses_none op rd r1 r2 im aq rl GA w
  · rw [hg] at GA
    obtain ⟨-, q2, q3⟩ := good_ranges hg
    unfold GoodB at hg
    by_cases c : (refRow op).1 = 0
    · rw [if_pos c] at hg; cases hg
    rw [if_neg c] at hg
    simp only [Bool.and_eq_true] at hg
    obtain ⟨e0, e1, e2, e3, e4, e5, e6⟩ := eqi hg.1
    clear hg c e0 e1 e4 e5 e6
    generalize (refRow op).1 = f at *
    generalize (refRow op).2.1 = o at *
    generalize (refRow op).2.2.1 = a3 at *
    generalize (refRow op).2.2.2 = a7 at *
    rw [show UsesL true r1 r2 = nz r1 ++ nz r2 from rfl]
    generalize rs1T f = h1 at *
    generalize rs2T f = h2 at *
    have z1 : h1 = false → r1 = 0 := fun h => by rw [h] at e2; exact e2
    have z2 : h2 = false → r2 = 0 := fun h => by rw [h] at e3; exact e3
    have p1 : ∀ {r : Int}, 0 ≤ r → r ≠ 0 → decide (0 < r) = true := fun h0 hn => decide_eq_true (by omega)
    cases h1
    · obtain rfl := z1 rfl
      cases h2
      · obtain rfl := z2 rfl
        exact ruses_nn op rd 0 0 im aq rl f o a3 a7 _ _ _ GA RA HA w
      · by_cases c2 : r2 = 0
        · subst c2
          exact ruses_nz op rd 0 0 im aq rl f o a3 a7 _ _ _ rfl GA RA HA w
        · rw [nz_y c2]
          exact ruses_ny op rd 0 r2 im aq rl f o a3 a7 _ _ _ (p1 q3.1 c2) GA RA HA w
    · by_cases c1 : r1 = 0
      · subst c1
        cases h2
        · obtain rfl := z2 rfl
          exact ruses_zn op rd 0 0 im aq rl f o a3 a7 _ _ _ rfl GA RA HA w
        · by_cases c2 : r2 = 0
          · subst c2
            exact ruses_zz op rd 0 0 im aq rl f o a3 a7 _ _ _ rfl rfl GA RA HA w
          · rw [nz_y c2]
            exact ruses_zy op rd 0 r2 im aq rl f o a3 a7 _ _ _ rfl (p1 q3.1 c2) GA RA HA w
      · rw [nz_y c1]
        cases h2
        · obtain rfl := z2 rfl
          exact ruses_yn op rd r1 0 im aq rl f o a3 a7 _ _ _ (p1 q2.1 c1) GA RA HA w
        · by_cases c2 : r2 = 0
          · subst c2
            exact ruses_yz op rd r1 0 im aq rl f o a3 a7 _ _ _ (p1 q2.1 c1) rfl GA RA HA w
          · rw [nz_y c2]
            exact ruses_yy op rd r1 r2 im aq rl f o a3 a7 _ _ _ (p1 q2.1 c1) (p1 q3.1 c2) GA RA HA w
theorem uses_len (g : Bool) (r1 r2 : Int) : (UsesL g r1 r2).length ≤ 2 := by
  unfold UsesL nz; cases g <;> (by_cases c1 : r1 = 0 <;> by_cases c2 : r2 = 0 <;> simp [c1, c2])

theorem own_form {w : World} {b n : Nat} {v : Value} {xs : List Value} (h : w.ownsRow b 3 1 v n xs) : ∃ A c, v = .slice A n c := by
  rcases h.2 with ⟨rfl, rfl⟩ | ⟨g, cap, cur, rfl, _⟩
  · exact ⟨_, _, rfl⟩
  · exact ⟨_, _, rfl⟩
theorem own_some {w : World} {b n : Nat} {v : Value} {xs : List Value} (h : w.ownsRow b 3 1 v n xs) (hn : 0 < n) : ∃ g c, v = .slice (some ⟨g, 0, none⟩) n c ∧ ∀ j, j < n → w.cell? ⟨g, j, none⟩ = xs[j]? := by
  rcases h.2 with ⟨rfl, rfl⟩ | ⟨g, cap, cur, rfl, _⟩
  · omega
  · exact ⟨_, _, rfl, fun j hj => h.cellAt j (by omega)⟩
theorem own_nb {w w' : World} {b n : Nat} {v : Value} {xs : List Value} (h : w.ownsRow b 3 1 v n xs) (hn : Nb w w') : w'.ownsRow b 3 1 v n xs :=
  h.kept (row := none) ⟨hn.os, hn.tape, hn.output, hn.size, fun k hk _ => Below.block hn k hk⟩ (by cases v.ownBlock <;> simp)
set_option maxRecDepth 100000 in
set_option maxHeartbeats 4000000 in
theorem ints_0 (A A' : Option Addr) (c c' : Nat) (w : World) :
    Calls Tryd.prog 25 #[.slice A 0 c, .slice A' 0 c'] w fun e w' => e = .returned (.bool true) ∧ Nb w w' := by
  go_enter Tryd.func25, Tryd.ntmps25
  go_wp2_with fail
  refine wp_loop_rounds 1 ?_
  rw [rounds_succ]
  go_wp2_with fail
  go_ret
  exact ⟨rfl, Nb.refl _⟩
set_option maxRecDepth 100000 in
set_option maxHeartbeats 4000000 in
theorem ints_1 (g g' : Nat) (x : Int) (c c' : Nat) (w : World) (h0 : w.cell? ⟨g, 0, none⟩ = some (.int .i64 x)) (k0 : w.cell? ⟨g', 0, none⟩ = some (.int .i64 x)) :
    Calls Tryd.prog 25 #[.slice (some ⟨g, 0, none⟩) 1 c, .slice (some ⟨g', 0, none⟩) 1 c'] w fun e w' => e = .returned (.bool true) ∧ Nb w w' := by
  go_enter Tryd.func25, Tryd.ntmps25
  go_wp2_with fail
  refine wp_loop_rounds 2 ?_
  rw [rounds_succ]
  go_wp2_with fail
  go_quiet (fail)
  go_wp2_with fail
  rw [rounds_succ]
  go_wp2_with fail
  go_ret
  exact ⟨rfl, (Nb.refl _).drewN _⟩
set_option maxRecDepth 100000 in
set_option maxHeartbeats 4000000 in
theorem ints_2 (g g' : Nat) (x y : Int) (c c' : Nat) (w : World) (h0 : w.cell? ⟨g, 0, none⟩ = some (.int .i64 x)) (k0 : w.cell? ⟨g', 0, none⟩ = some (.int .i64 x))
    (h1 : w.cell? ⟨g, 1, none⟩ = some (.int .i64 y)) (k1 : w.cell? ⟨g', 1, none⟩ = some (.int .i64 y)) :
    Calls Tryd.prog 25 #[.slice (some ⟨g, 0, none⟩) 2 c, .slice (some ⟨g', 0, none⟩) 2 c'] w fun e w' => e = .returned (.bool true) ∧ Nb w w' := by
  go_enter Tryd.func25, Tryd.ntmps25
  go_wp2_with fail
  refine wp_loop_rounds 3 ?_
  rw [rounds_succ]
  go_wp2_with fail
  go_quiet (fail)
  go_wp2_with fail
  rw [rounds_succ]
  go_wp2_with fail
  go_quiet (fail)
  go_wp2_with fail
  rw [rounds_succ]
  go_wp2_with fail
  go_ret
  exact ⟨rfl, (Nb.refl _).drewN _⟩
theorem ints_same (zs : List Int) (v v' : Value) (b b' : Nat) (w : World) (h : w.ownsRow b 3 1 v zs.length (zs.map (Value.int .i64))) (h' : w.ownsRow b' 3 1 v' zs.length (zs.map (Value.int .i64))) (hl : zs.length ≤ 2) :
    Calls Tryd.prog 25 #[v, v'] w fun e w' => e = .returned (.bool true) ∧ Nb w w' := by
  match zs, hl with
  | [], _ =>
    obtain ⟨A, c, rfl⟩ := own_form h
    obtain ⟨A', c', rfl⟩ := own_form h'
    exact ints_0 A A' c c' w
  | [x], _ =>
    obtain ⟨g, c, rfl, hc⟩ := own_some h (by simp)
    obtain ⟨g', c', rfl, hc'⟩ := own_some h' (by simp)
    exact ints_1 g g' x c c' w (hc 0 (by simp)) (hc' 0 (by simp))
  | [x, y], _ =>
    obtain ⟨g, c, rfl, hc⟩ := own_some h (by simp)
    obtain ⟨g', c', rfl, hc'⟩ := own_some h' (by simp)
    exact ints_2 g g' x y c c' w (hc 0 (by simp)) (hc' 0 (by simp)) (hc 1 (by simp)) (hc' 1 (by simp))
end Go.Proofs.YtcbaokgdpmjhgaaDoor
