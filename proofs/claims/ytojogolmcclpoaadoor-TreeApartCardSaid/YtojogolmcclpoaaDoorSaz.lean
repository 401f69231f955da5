/-
  Proved here: of the code: laying a pattern. Conditions: stated.
-/
import Derived.Test.YtojogolmcclpoaaDoorSay
namespace Go.Proofs.YtojogolmcclpoaaDoor
open Go.RowKit Go.Shelf
set_option linter.unusedVariables false
set_option linter.unusedSimpArgs false
set_option maxRecDepth 100000
set_option maxHeartbeats 4000000
attribute [-go_sem] run_eql_struct
theorem wpat_any (W0 : World) (hT0 : Tw W0) : ∀ e : Ex, e.Has W0 → gT e = true → ∀ t W, Nb W0 W → Wr W0 t W → (t ++ txT e).length ≤ 140737488355328 → Calls Tryd.prog 83 #[.pointer (some ⟨W0.heap.size, 0, none⟩), .agg e.cells.toArray] W (Lays W0 t (txT e) W) := by
  intro e
  induction e using Ex.ind
  rename_i e ih
  intro he hg t W hW hT hlen
  rw [gT_eq, Bool.and_eq_true] at hg
  obtain ⟨hg, hgs⟩ := hg
  rw [gTs_all, List.all_eq_true] at hgs
  have hlt := hT.lt
  have hnum := he.num
  obtain ⟨A0, cap0, hv0, -, -, -⟩ := he.exs.head
  try rw [List.length_map] at hv0
  have hc : e.cells = [.int .i64 e.kind, .int .i64 e.at_, .int .i64 e.n, sV e.name, .slice A0 e.args.length cap0] := by
    rw [← hv0]; rfl
  rw [hc]
  have htx := txT_eq e
  obtain ⟨X, hX⟩ : ∃ X, txT e = X := ⟨_, rfl⟩
  rw [hX] at htx hlen ⊢
  replace hX := htx
  clear htx
  unfold matchS at hg
  rw [show (hdT e).kind = e.kind from rfl] at hg
  by_cases hk1 : e.kind = 1
  · simp only [hk1, if_true, if_false, Int.reduceEq, true_or, or_true, or_self] at hg hX
    
    replace hX := Lib.hid hX
    replace hlen := Lib.hid (show (t ++ X).length ≤ 140737488355328 from hlen)
    rw [hX.out] at hlen
    rw [hk1] at *
    clear hc
    go_enter Tryd.func83, Tryd.ntmps83
    go_upto_region 1 with (fail)
    obtain ⟨W1, hW1⟩ : ∃ W1, W.alloc (.cells #[.int .i64 1, .int .i64 e.at_, .int .i64 e.n, sV e.name, .slice A0 e.args.length cap0] 71) = W1 := ⟨_, rfl⟩
    have b1 : W1.heap[W.heap.size]? = some (.cells #[.int .i64 1, .int .i64 e.at_, .int .i64 e.n, sV e.name, .slice A0 e.args.length cap0] 71 (0, 0)) := by rw [← hW1]; exact new_blk _ _ rfl
    have n1 : Nb W W1 := by rw [← hW1]; exact alloc_nb _ _
    rw [hW1]
    have hT1 := hT.nb n1
    have hA1 := hW.trans n1
    have q1 : Pk W0 W W1 := Pk.of_nb (Nat.le_of_lt hlt) n1
    clear hW1 n1
    have y0 := cell_of_row _ _ 0 _ _ _ b1
    have y1 := cell_of_row _ _ 1 _ _ _ b1
    have y2 := cell_of_row _ _ 2 _ _ _ b1
    have y3 := cell_of_row _ _ 3 _ _ _ b1
    have y4 := cell_of_row _ _ 4 _ _ _ b1
    go_wp2_with fail
    refine (put_any W0 t [[95]] _ (hT1.nb (alloc_nb _ _)) _ (new_blk _ _ rfl) (by have := hT1.lt; omega) 1 (Nat.le_refl _) (by simp) (by have h := hlen.out; simp only [List.flatten_cons, List.flatten_nil, List.append_nil, List.length_append] at h ⊢; omega)).mono ?_
    rintro r W2 ⟨rfl, hT2, p2⟩
    have hA2 := Pk.nb (hA1.trans (alloc_nb _ _)) p2
    have b2 := p2.block (old_blk b1 _) (by omega) (by decide)
    have q2 : Pk W0 W W2 := q1.trans ((Pk.of_nb (Nat.le_of_lt hT1.lt) (alloc_nb _ _)).trans p2)
    go_wp2_with fail
    go_end0
    refine ⟨rfl, ?_, q2⟩
    rw [hX.out]
    simpa only [List.flatten_cons, List.flatten_nil, List.append_nil, List.append_assoc] using hT2
  by_cases hk2 : e.kind = 2
  · simp only [hk2, if_true, if_false, Int.reduceEq, true_or, or_true, or_self] at hg hX
    
    replace hX := Lib.hid hX
    replace hlen := Lib.hid (show (t ++ X).length ≤ 140737488355328 from hlen)
    rw [hX.out] at hlen
    rw [hk2] at *
    clear hc
    go_enter Tryd.func83, Tryd.ntmps83
    go_upto_region 1 with (fail)
    obtain ⟨W1, hW1⟩ : ∃ W1, W.alloc (.cells #[.int .i64 2, .int .i64 e.at_, .int .i64 e.n, sV e.name, .slice A0 e.args.length cap0] 71) = W1 := ⟨_, rfl⟩
    have b1 : W1.heap[W.heap.size]? = some (.cells #[.int .i64 2, .int .i64 e.at_, .int .i64 e.n, sV e.name, .slice A0 e.args.length cap0] 71 (0, 0)) := by rw [← hW1]; exact new_blk _ _ rfl
    have n1 : Nb W W1 := by rw [← hW1]; exact alloc_nb _ _
    rw [hW1]
    have hT1 := hT.nb n1
    have hA1 := hW.trans n1
    have q1 : Pk W0 W W1 := Pk.of_nb (Nat.le_of_lt hlt) n1
    clear hW1 n1
    have y0 := cell_of_row _ _ 0 _ _ _ b1
    have y1 := cell_of_row _ _ 1 _ _ _ b1
    have y2 := cell_of_row _ _ 2 _ _ _ b1
    have y3 := cell_of_row _ _ 3 _ _ _ b1
    have y4 := cell_of_row _ _ 4 _ _ _ b1
    go_wp2_with fail
    refine (itoa_T W0 hT0 hnum.1 hnum.2 _ hA1).mono ?_
    rintro r V2 ⟨rfl, m2⟩
    have hT2v := hT1.nb m2
    have hA2v := hA1.trans m2
    have q2v : Pk W0 W V2 := q1.trans (Pk.of_nb (Nat.le_of_lt hT1.lt) m2)
    have b2v := m2.block b1
    have lt2v := hT2v.lt
    go_wp2_with fail
    refine (put_any W0 t [Lib.itoa e.n] _ (hT2v.nb (alloc_nb _ _)) _ (new_blk _ _ rfl) (by have := hT2v.lt; omega) 1 (Nat.le_refl _) (by simp) (by have h := hlen.out; simp only [List.flatten_cons, List.flatten_nil, List.append_nil, List.length_append] at h ⊢; omega)).mono ?_
    rintro r W2 ⟨rfl, hT2, p2⟩
    have hA2 := Pk.nb (hA2v.trans (alloc_nb _ _)) p2
    have b2 := p2.block (old_blk b2v _) (by omega) (by decide)
    have q2 : Pk W0 W W2 := q2v.trans ((Pk.of_nb (Nat.le_of_lt hT2v.lt) (alloc_nb _ _)).trans p2)
    go_wp2_with fail
    go_end0
    refine ⟨rfl, ?_, q2⟩
    rw [hX.out]
    simpa only [List.flatten_cons, List.flatten_nil, List.append_nil, List.append_assoc] using hT2
  by_cases hk3 : e.kind = 3
  · simp only [hk3, if_true, if_false, Int.reduceEq, true_or, or_true, or_self] at hg hX
    
    replace hX := Lib.hid hX
    replace hlen := Lib.hid (show (t ++ X).length ≤ 140737488355328 from hlen)
    rw [hX.out] at hlen
    rw [hk3] at *
    clear hc
    go_enter Tryd.func83, Tryd.ntmps83
    go_upto_region 1 with (fail)
    obtain ⟨W1, hW1⟩ : ∃ W1, W.alloc (.cells #[.int .i64 3, .int .i64 e.at_, .int .i64 e.n, sV e.name, .slice A0 e.args.length cap0] 71) = W1 := ⟨_, rfl⟩
    have b1 : W1.heap[W.heap.size]? = some (.cells #[.int .i64 3, .int .i64 e.at_, .int .i64 e.n, sV e.name, .slice A0 e.args.length cap0] 71 (0, 0)) := by rw [← hW1]; exact new_blk _ _ rfl
    have n1 : Nb W W1 := by rw [← hW1]; exact alloc_nb _ _
    rw [hW1]
    have hT1 := hT.nb n1
    have hA1 := hW.trans n1
    have q1 : Pk W0 W W1 := Pk.of_nb (Nat.le_of_lt hlt) n1
    clear hW1 n1
    have y0 := cell_of_row _ _ 0 _ _ _ b1
    have y1 := cell_of_row _ _ 1 _ _ _ b1
    have y2 := cell_of_row _ _ 2 _ _ _ b1
    have y3 := cell_of_row _ _ 3 _ _ _ b1
    have y4 := cell_of_row _ _ 4 _ _ _ b1
    go_wp2_with fail
    refine (put_any W0 t [[39], e.name] _ (hT1.nb (alloc_nb _ _)) _ (new_blk _ _ rfl) (by have := hT1.lt; omega) 2 (Nat.le_refl _) (by simp) (by have h := hlen.out; simp only [List.flatten_cons, List.flatten_nil, List.append_nil, List.length_append] at h ⊢; omega)).mono ?_
    rintro r W2 ⟨rfl, hT2, p2⟩
    have hA2 := Pk.nb (hA1.trans (alloc_nb _ _)) p2
    have b2 := p2.block (old_blk b1 _) (by omega) (by decide)
    have q2 : Pk W0 W W2 := q1.trans ((Pk.of_nb (Nat.le_of_lt hT1.lt) (alloc_nb _ _)).trans p2)
    go_wp2_with fail
    go_end0
    refine ⟨rfl, ?_, q2⟩
    rw [hX.out]
    simpa only [List.flatten_cons, List.flatten_nil, List.append_nil, List.append_assoc] using hT2
  by_cases hk4 : e.kind = 4
  · simp only [hk4, if_true, if_false, Int.reduceEq, true_or, or_true, or_self] at hg hX
    
    replace hX := Lib.hid hX
    replace hlen := Lib.hid (show (t ++ X).length ≤ 140737488355328 from hlen)
    rw [hX.out] at hlen
    rw [hk4] at *
    clear hc
    go_enter Tryd.func83, Tryd.ntmps83
    go_upto_region 1 with (fail)
    obtain ⟨W1, hW1⟩ : ∃ W1, W.alloc (.cells #[.int .i64 4, .int .i64 e.at_, .int .i64 e.n, sV e.name, .slice A0 e.args.length cap0] 71) = W1 := ⟨_, rfl⟩
    have b1 : W1.heap[W.heap.size]? = some (.cells #[.int .i64 4, .int .i64 e.at_, .int .i64 e.n, sV e.name, .slice A0 e.args.length cap0] 71 (0, 0)) := by rw [← hW1]; exact new_blk _ _ rfl
    have n1 : Nb W W1 := by rw [← hW1]; exact alloc_nb _ _
    rw [hW1]
    have hT1 := hT.nb n1
    have hA1 := hW.trans n1
    have q1 : Pk W0 W W1 := Pk.of_nb (Nat.le_of_lt hlt) n1
    clear hW1 n1
    have y0 := cell_of_row _ _ 0 _ _ _ b1
    have y1 := cell_of_row _ _ 1 _ _ _ b1
    have y2 := cell_of_row _ _ 2 _ _ _ b1
    have y3 := cell_of_row _ _ 3 _ _ _ b1
    have y4 := cell_of_row _ _ 4 _ _ _ b1
    go_wp2_with fail
    refine (put_any W0 t [e.name] _ (hT1.nb (alloc_nb _ _)) _ (new_blk _ _ rfl) (by have := hT1.lt; omega) 1 (Nat.le_refl _) (by simp) (by have h := hlen.out; simp only [List.flatten_cons, List.flatten_nil, List.append_nil, List.length_append] at h ⊢; omega)).mono ?_
    rintro r W2 ⟨rfl, hT2, p2⟩
    have hA2 := Pk.nb (hA1.trans (alloc_nb _ _)) p2
    have b2 := p2.block (old_blk b1 _) (by omega) (by decide)
    have q2 : Pk W0 W W2 := q1.trans ((Pk.of_nb (Nat.le_of_lt hT1.lt) (alloc_nb _ _)).trans p2)
    go_wp2_with fail
    go_end0
    refine ⟨rfl, ?_, q2⟩
    rw [hX.out]
    simpa only [List.flatten_cons, List.flatten_nil, List.append_nil, List.append_assoc] using hT2
  by_cases hk5 : e.kind = 5
  · simp only [hk5, if_true, if_false, Int.reduceEq, true_or, or_true, or_self] at hg hX
    have hok : ∀ x ∈ e.args, x.cells.toArray.all (·.oneCell') = true := fun x hx => Ex.okc (he.exs.kids x hx).exs
    replace hX := Lib.hid hX
    replace hlen := Lib.hid (show (t ++ X).length ≤ 140737488355328 from hlen)
    rw [hX.out] at hlen
    rw [hk5] at *
    clear hc
    go_enter Tryd.func83, Tryd.ntmps83
    go_upto_region 1 with (fail)
    obtain ⟨W1, hW1⟩ : ∃ W1, W.alloc (.cells #[.int .i64 5, .int .i64 e.at_, .int .i64 e.n, sV e.name, .slice A0 e.args.length cap0] 71) = W1 := ⟨_, rfl⟩
    have b1 : W1.heap[W.heap.size]? = some (.cells #[.int .i64 5, .int .i64 e.at_, .int .i64 e.n, sV e.name, .slice A0 e.args.length cap0] 71 (0, 0)) := by rw [← hW1]; exact new_blk _ _ rfl
    have n1 : Nb W W1 := by rw [← hW1]; exact alloc_nb _ _
    rw [hW1]
    have hT1 := hT.nb n1
    have hA1 := hW.trans n1
    have q1 : Pk W0 W W1 := Pk.of_nb (Nat.le_of_lt hlt) n1
    clear hW1 n1
    have y0 := cell_of_row _ _ 0 _ _ _ b1
    have y1 := cell_of_row _ _ 1 _ _ _ b1
    have y2 := cell_of_row _ _ 2 _ _ _ b1
    have y3 := cell_of_row _ _ 3 _ _ _ b1
    have y4 := cell_of_row _ _ 4 _ _ _ b1
    go_wp2_with fail
    refine (put_any W0 t [[123]] _ (hT1.nb (alloc_nb _ _)) _ (new_blk _ _ rfl) (by have := hT1.lt; omega) 1 (Nat.le_refl _) (by simp) (by have h := hlen.out; simp only [List.flatten_cons, List.flatten_nil, List.append_nil, List.length_append] at h ⊢; omega)).mono ?_
    rintro r W2 ⟨rfl, hT2, p2⟩
    have hA2 := Pk.nb (hA1.trans (alloc_nb _ _)) p2
    have b2 := p2.block (old_blk b1 _) (by omega) (by decide)
    have q2 : Pk W0 W W2 := q1.trans ((Pk.of_nb (Nat.le_of_lt hT1.lt) (alloc_nb _ _)).trans p2)
    have y0 := cell_of_row _ _ 0 _ _ _ b2
    have y1 := cell_of_row _ _ 1 _ _ _ b2
    have y2 := cell_of_row _ _ 2 _ _ _ b2
    have y3 := cell_of_row _ _ 3 _ _ _ b2
    have y4 := cell_of_row _ _ 4 _ _ _ b2
    go_wp2_with fail
    refine (listT_any W0 e.args hok (fun x hx => ih x hx (he.exs.kids x hx) (hgs x hx)) _ (hv0 ▸ he.exs.row) (t ++ [[123]].flatten) W2 hA2 hT2 (by have h := hlen.out; simp only [List.flatten_cons, List.flatten_nil, List.append_nil, List.length_append] at h ⊢; omega)).mono ?_
    rintro r W3 ⟨rfl, hT3, p3⟩
    have hA3 := Pk.nb hA2 p3
    have b3 := p3.block b2 (by omega) (by decide)
    have q3 : Pk W0 W W3 := q2.trans (p3)
    have y0 := cell_of_row _ _ 0 _ _ _ b3
    have y1 := cell_of_row _ _ 1 _ _ _ b3
    have y2 := cell_of_row _ _ 2 _ _ _ b3
    have y3 := cell_of_row _ _ 3 _ _ _ b3
    have y4 := cell_of_row _ _ 4 _ _ _ b3
    go_wp2_with fail
    refine (put_any W0 ((t ++ [[123]].flatten) ++ jnT (txTs e.args)) [[125]] _ (hT3.nb (alloc_nb _ _)) _ (new_blk _ _ rfl) (by have := hT3.lt; omega) 1 (Nat.le_refl _) (by simp) (by have h := hlen.out; simp only [List.flatten_cons, List.flatten_nil, List.append_nil, List.length_append] at h ⊢; omega)).mono ?_
    rintro r W4 ⟨rfl, hT4, p4⟩
    have hA4 := Pk.nb (hA3.trans (alloc_nb _ _)) p4
    have b4 := p4.block (old_blk b3 _) (by omega) (by decide)
    have q4 : Pk W0 W W4 := q3.trans ((Pk.of_nb (Nat.le_of_lt hT3.lt) (alloc_nb _ _)).trans p4)
    go_wp2_with fail
    go_end0
    refine ⟨rfl, ?_, q4⟩
    rw [hX.out]
    simpa only [List.flatten_cons, List.flatten_nil, List.append_nil, List.append_assoc] using hT4
  · simp only [hk1, hk2, hk3, hk4, hk5, if_false, or_self, Bool.false_eq_true] at hg
end Go.Proofs.YtojogolmcclpoaaDoor
