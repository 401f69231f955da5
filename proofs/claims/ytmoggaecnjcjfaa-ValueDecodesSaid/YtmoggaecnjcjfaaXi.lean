/-
  Proved here: what the reference's Decode answers; values of one shape are the same. Conditions: the memory holds the words; they are words.
-/
import Derived.Test.YtmoggaecnjcjfaaXh
namespace Go.Proofs.Ytmoggaecnjcjfaa
open Go.RowKit Go.ChangeMaps
set_option linter.unusedVariables false
set_option linter.unusedSimpArgs false
set_option maxRecDepth 100000
set_option maxHeartbeats 4000000
/-- What has come of a word, the reference's, for who asks. -/
def VRef (R : Rs) (W0 : World) (r : Ending) (w' : World) : Prop :=
  Nb W0 w' ∧ match R with
    | .bad e => e ≠ 0 ∧ r = .returned (.tuple #[.agg #[.int .i64 0, .int .i64 0, .slice none 0 0], .int .i64 e])
    | .good p => ∃ v : Vl, r = .returned (.tuple #[.agg v.cells.toArray, .int .i64 0]) ∧ v.sh = p ∧ v.Has w'
theorem rdec_any (w : World) (xs : List Int) (bs : Int) (A : Option Addr) (n c : Nat) (hv : WdsR w (.slice A n c) xs) (hx : ∀ x ∈ xs, 0 ≤ x ∧ x < 18446744073709551616) (hl : xs.length ≤ 500) (hb0 : 0 ≤ bs) (hb1 : bs < 18446744073709551616) (wd : Int) (hd0 : 0 ≤ wd) (hd1 : wd < 18446744073709551616) :
    Calls Try.prog 21 #[.int .u64 wd, .slice A n c, .int .u64 bs] w (VRef (decV xs bs 64 wd 0).2 w) := by
  obtain ⟨R, hR⟩ : ∃ R, decV xs bs 64 wd 0 = R := ⟨_, rfl⟩
  rw [hR]
  go_enter Try.func21, Try.ntmps21
  go_upto_region 2 with (fail)
  obtain ⟨S, hS⟩ : ∃ p, w.heap.size = p := ⟨_, rfl⟩
  rw [hS]
  obtain ⟨W1, h1⟩ : ∃ W, w.alloc (Obj.cells #[.int .i64 0, .int .i64 0, .slice none 0 0] 24) = W := ⟨_, rfl⟩
  rw [h1]
  obtain ⟨W2, h2⟩ : ∃ W, W1.alloc (Obj.cells #[Value.slice A n c, .int .u64 bs, .int .i64 0] 66) = W := ⟨_, rfl⟩
  rw [h2]
  have s1 : W1.heap.size = S + 1 := by rw [← h1, ← hS]; exact alloc_sz _ _
  have s2 : W2.heap.size = S + 1 + 1 := by rw [← h2, ← s1]; exact alloc_sz _ _
  have n1 : Nb w W1 := by rw [← h1]; exact (Nb.refl w).alloc _
  have n2 : Nb W1 W2 := by rw [← h2]; exact (Nb.refl W1).alloc _
  have b1 := n2.block (show W1.heap[S]? = some _ by rw [← h1, ← hS]; exact new_blk _ _ rfl)
  have b2 : W2.heap[S + 1]? = some (.cells #[Value.slice A n c, .int .u64 bs, .int .i64 0] 66 (0, 0)) := by rw [← h2, ← s1]; exact new_blk _ _ rfl
  have n02 : Nb w W2 := n1.trans n2
  clear h1 h2 n1 n2 s1
  obtain ⟨rd, hrd⟩ : ∃ b, S + 1 = b := ⟨_, rfl⟩
  rw [hrd] at b2 s2 ⊢
  have hat : RdAt w rd (.slice A n c) bs W2 0 := ⟨n02, b2, by omega⟩
  have hc := rval_of w rd (.slice A n c) xs bs 64 wd hd0 hd1 0 (by omega) W2 hat (fun ht hm w' hw' => rtup_any w rd (.slice A n c) xs bs hv hx hl hb0 hb1 64 (Nat.le_refl _) (wd - 1) (by omega) (by omega) 1 (by omega) w' hw')
  have hSr : S ≠ rd := by omega
  have hS2 : S < W2.heap.size := by omega
  have hwS : w.heap.size ≤ S := by omega
  have hwr : w.heap.size ≤ rd := by omega
  rw [hR] at hc
  clear hR hrd hS s2 b2 hat
  obtain ⟨m, rs⟩ := R
  cases rs with
  | bad e =>
    replace hc : Hid (Calls Try.prog 41 #[.pointer (some ⟨rd, 0, none⟩), .int .u64 wd, .int .i64 64] W2 (fun r w' => r = .returned (.tuple #[.agg #[.int .i64 0, .int .i64 0, .slice none 0 0], .int .i64 e]) ∧ Gb rd W2 w' ∧ e ≠ 0)) := Lib.hid (hc.mono fun r w' h => ⟨h.2.2.2, h.1, h.2.2.1⟩)
    go_wp2_with (go_at_call 41; refine (hc.out).mono ?_; rintro r w6 ⟨rfl, g6, he⟩; have bS := g6.block b1 hSr; have c0 := cell_of_row _ _ 0 _ _ _ bS; have c1 := cell_of_row _ _ 1 _ _ _ bS; have c2 := cell_of_row _ _ 2 _ _ _ bS; have f0 := frozen_blk bS 0; have f1 := frozen_blk bS 1; have f2 := frozen_blk bS 2)
    refine bodyPost_ret (results_rt rfl _ _ S _ rfl (run_loadVar_row _ _ _ _ _ _ _ (set3_all' bS) Try.underlying24 rfl (by kernel_rfl))) rfl ?_
    have n6 := g6.nb n02 hwr
    exact ⟨((n6.setCell (p := ⟨S, 0, none⟩) hwS _).setCell (p := ⟨S, 1, none⟩) hwS _).setCell (p := ⟨S, 2, none⟩) hwS _, he, rfl⟩
  | good pq =>
    replace hc : Hid (Calls Try.prog 41 #[.pointer (some ⟨rd, 0, none⟩), .int .u64 wd, .int .i64 64] W2 _) := Lib.hid (hc.mono fun r w' h => RAns.open h)
    go_wp2_with (go_at_call 41; refine (hc.out).mono ?_; rintro r w6 ⟨kd, nn, A', L', c', l, rfl, g6, b6, hv6⟩; have bS := g6.block b1 hSr; have c0 := cell_of_row _ _ 0 _ _ _ bS; have c1 := cell_of_row _ _ 1 _ _ _ bS; have c2 := cell_of_row _ _ 2 _ _ _ bS; have f0 := frozen_blk bS 0; have f1 := frozen_blk bS 1; have f2 := frozen_blk bS 2)
    refine bodyPost_ret (results_rt rfl _ _ S _ rfl (run_loadVar_row _ _ _ _ _ _ _ (set3_all' bS) Try.underlying24 rfl (by kernel_rfl))) rfl ?_
    have n6 := g6.nb n02 hwr
    obtain ⟨h1, h2, h3⟩ := hv6.out
    obtain ⟨p1, q1⟩ := keeps_set ⟨S, 0, none⟩ hS2 (.int .i64 kd) h2 h3
    obtain ⟨p1, q1⟩ := keeps_set ⟨S, 1, none⟩ hS2 (.int .i64 nn) p1 q1
    obtain ⟨p1, q1⟩ := keeps_set ⟨S, 2, none⟩ hS2 (.slice A' L' c') p1 q1
    exact ⟨((n6.setCell (p := ⟨S, 0, none⟩) hwS _).setCell (p := ⟨S, 1, none⟩) hwS _).setCell (p := ⟨S, 2, none⟩) hwS _, Vl.mk kd nn (.slice A' L' c') l, rfl, h1, p1⟩
end Go.Proofs.Ytmoggaecnjcjfaa
