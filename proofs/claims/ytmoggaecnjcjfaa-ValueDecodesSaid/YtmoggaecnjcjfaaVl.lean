/-
  Proved here: the law's example; what the reference tells of two integers. Conditions: none.
-/
import Derived.Test.YtmoggaecnjcjfaaVk
namespace Go.Proofs.Ytmoggaecnjcjfaa
open Go.RowKit Go.ChangeMaps
set_option linter.unusedVariables false
set_option linter.unusedSimpArgs false
set_option maxRecDepth 100000
set_option maxHeartbeats 4000000
def exV (g : Nat) : Vl := .mk 4 0 (.slice (some ⟨g, 0, none⟩) 2 2) [.mk 1 1 (.slice none 0 0) [], .mk 2 0 (.slice none 0 0) []]
theorem exV_enc (g : Nat) : (exV g).enc 64 [] = (65, [2, 4, 2]) := by rfl
theorem exV_good (g : Nat) : (exV g).good = true := by rfl
theorem exV_wd (g : Nat) : (exV g).wd = 3 := by rfl
theorem leaf_has {w : World} (k n : Int) (hn : -9223372036854775808 ≤ n ∧ n < 9223372036854775808) : (Vl.mk k n (.slice none 0 0) []).Has w :=
  .mk ⟨none, 0, rfl, Nat.le_refl _, by simp [Vl.args], fun _ => rfl, fun i r hi => by simp [Vl.args] at hi⟩ (fun x hx => by simp [Vl.args] at hx) hn
theorem leaf_fre {w : World} (k n : Int) : (Vl.mk k n (.slice none 0 0) []).Fre w :=
  .mk (fun b o L c he => by simp [Vl.av] at he) (fun x hx => by simp [Vl.args] at hx)
theorem exV_has {w : World} {g : Nat} (h : w.heap[g]? = some (.cells #[.int .i64 1, .int .i64 1, .slice none 0 0, .int .i64 2, .int .i64 0, .slice none 0 0] 24 (0, 0))) : (exV g).Has w ∧ (exV g).Fre w := by
  constructor
  · refine .mk ⟨some ⟨g, 0, none⟩, 2, rfl, by simp [exV, Vl.args], by simp [exV, Vl.args], (fun h => nomatch h), ?_⟩ ?_ (by simp [exV, Vl.n])
    · intro i r hi
      refine ⟨g, 0, rfl, fun j u hu => ?_⟩
      rw [cell_of_row _ _ _ _ _ _ h]
      match i, hi with
      | 0, hi =>
        simp only [exV, Vl.args, List.map_cons, List.getElem?_cons_zero, Option.some.injEq] at hi
        subst hi
        match j, hu with
        | 0, hu => simpa [Vl.cells, Vl.kind] using hu
        | 1, hu => simpa [Vl.cells, Vl.n] using hu
        | 2, hu => simpa [Vl.cells, Vl.av] using hu
        | j + 3, hu => simp [Vl.cells] at hu
      | 1, hi =>
        simp only [exV, Vl.args, List.map_cons, List.getElem?_cons_succ, List.getElem?_cons_zero, Option.some.injEq] at hi
        subst hi
        match j, hu with
        | 0, hu => simpa [Vl.cells, Vl.kind] using hu
        | 1, hu => simpa [Vl.cells, Vl.n] using hu
        | 2, hu => simpa [Vl.cells, Vl.av] using hu
        | j + 3, hu => simp [Vl.cells] at hu
      | i + 2, hi => simp [exV, Vl.args] at hi
    · intro x hx
      simp only [exV, Vl.args, List.mem_cons, List.not_mem_nil, or_false] at hx
      rcases hx with rfl | rfl
      · exact leaf_has _ _ (by omega)
      · exact leaf_has _ _ (by omega)
  · refine .mk (fun b o L c he => ?_) ?_
    · simp only [exV, Vl.av, Value.slice.injEq, Option.some.injEq, Addr.mk.injEq] at he
      obtain ⟨⟨rfl, -⟩, -⟩ := he
      exact ⟨_, _, h⟩
    · intro x hx
      simp only [exV, Vl.args, List.mem_cons, List.not_mem_nil, or_false] at hx
      rcases hx with rfl | rfl
      · exact leaf_fre _ _
      · exact leaf_fre _ _
theorem nil_wds (w : World) : WdsR w (.slice none 0 0) [] := ⟨none, 0, rfl, Nat.le_refl _, by simp, fun _ => rfl, fun i r hi => by simp at hi⟩
theorem lives_any (w : World) : Calls Try.prog 9 #[] w fun r w' => r = .returned (.bool true) ∧ Nb w w' := by
  obtain ⟨W1, hW⟩ : ∃ W1, w.alloc (.cells #[.int .i64 1, .int .i64 1, .slice none 0 0, .int .i64 2, .int .i64 0, .slice none 0 0] 24) = W1 := ⟨_, rfl⟩
  have n1 : Nb w W1 := by rw [← hW]; exact (Nb.refl w).alloc _
  have b1 : W1.heap[w.heap.size]? = some (.cells #[.int .i64 1, .int .i64 1, .slice none 0 0, .int .i64 2, .int .i64 0, .slice none 0 0] 24 (0, 0)) := by rw [← hW]; exact new_blk _ _ rfl
  have hh := exV_has b1
  have henc := encode_any W1 (exV w.heap.size) hh.1 hh.2 (exV_good _) (.slice none 0 0) [] (nil_wds _) (by rw [exV_wd]; decide) 64 (by decide) (by decide) (by decide) W1 (Nb.refl _)
  rw [exV_enc] at henc
  replace henc : Hid (Calls Try.prog 15 #[.agg #[.int .i64 4, .int .i64 0, .slice (some ⟨w.heap.size, 0, none⟩) 2 2], .slice none 0 0, .int .u64 64] W1 (fun r w' => ∃ A, r = .returned (.tuple #[.int .u64 65, .slice A 3 3, .int .i64 0]) ∧ Nb W1 w' ∧ WdsR w' (.slice A 3 3) [2, 4, 2])) := Lib.hid henc
  go_enter Try.func9, Try.ntmps9
  go_upto_region 2 with (fail)
  refine (henc.out).mono ?_
  rintro r w2 ⟨A, rfl, n2, hr⟩
  obtain ⟨b, o, rfl, q0⟩ := hr.at_ (i := 0) (r := [.int .u64 2]) rfl
  obtain ⟨b', o', e1, q1⟩ := hr.at_ (i := 1) (r := [.int .u64 4]) rfl
  cases e1
  obtain ⟨b', o', e1, q2⟩ := hr.at_ (i := 2) (r := [.int .u64 2]) rfl
  cases e1
  replace q0 := q0 0 _ rfl
  replace q1 := q1 0 _ rfl
  replace q2 := q2 0 _ rfl
  simp only [Nat.mul_one, Nat.add_zero] at q0 q1 q2
  go_wp2_with fail
  go_ret
  exact ⟨rfl, n1.trans n2⟩
end Go.Proofs.Ytmoggaecnjcjfaa
