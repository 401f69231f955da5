/-
  Proved here: of the code: a program's text. Conditions: the memory holds it; it is neither too great nor too deep; the table of powers is laid.
-/
import Derived.Test.YtjibblpfhnigjaaDoorSbj
import Derived.Test.YtjibblpfhnigjaaDoorSbq
namespace Go.Proofs.YtjibblpfhnigjaaDoor
open Go.RowKit Go.Shelf
set_option linter.unusedVariables false
set_option linter.unusedSimpArgs false
set_option maxRecDepth 100000
set_option maxHeartbeats 4000000
attribute [-go_sem] run_eql_struct
theorem wtext_any (W0 : World) (t : Bs) (w : World) (h : Wr W0 t w) (h0 : t ≠ []) :
    Calls Tryd.prog 19 #[.pointer (some ⟨W0.heap.size, 0, none⟩)] w fun r w' => r = .returned (.string ⟨t.toArray⟩) ∧ Below W0.heap.size w w' := by
  obtain ⟨b, hb0⟩ : ∃ b, W0.heap.size = b := ⟨_, rfl⟩
  unfold Wr at h
  rw [hb0] at h ⊢
  obtain ⟨p, hAt⟩ : ∃ p, Lib.BuilderAtF wT bT b b p (Lib.byteCells t) w := by
    rcases h with h | h
    · exact ⟨_, h⟩
    · exact ⟨_, h⟩
  obtain ⟨hB, v, hbk, hown, hne⟩ := hAt
  have hl0 : t.length ≠ 0 := by simpa using h0
  rw [Lib.byteCells_length] at hown
  obtain ⟨g, cap, cur, fz, rfl, hbg, hg, hfz, hnc, hcm, hcs, htake⟩ : ∃ g cap cur fz, v = .slice (some ⟨g, 0, none⟩) t.length cap ∧ b ≤ g ∧ w.heap[g]? = some (.cells cur bT fz) ∧ fz.2 ≤ t.length * 1 ∧ t.length ≤ cap ∧ cap ≤ maxLen ∧ cur.size = cap * 1 ∧ cur.toList.take (t.length * 1) = Lib.byteCells t := by
    rcases hown.2 with ⟨_, hz⟩ | ⟨g, cap, cur, fz, hv, r⟩
    · exact absurd hz hl0
    · exact ⟨g, cap, cur, fz, hv, r⟩
  have c1 : w.drew.cell? ⟨b, 1, none⟩ = some (.slice (some ⟨g, 0, none⟩) t.length cap) := by
    have : w.drew.heap[b]? = some (.cells #[p, .slice (some ⟨g, 0, none⟩) t.length cap] wT (0, 0)) := hbk
    rw [Lib.cell_of_heap this]; rfl
  have hSD : (Builtin.unsafeSliceData_ #[54] 101 #[.slice (some ⟨g, 0, none⟩) t.length cap]).run Tryd.prog w.drew = .ok (.pointer (some ⟨g, 0, none⟩)) w.drew :=
    Lib.run_unsafeSliceData_row _ _ _ _ _ _ (by omega)
  have hUS : (Builtin.unsafeString_ #[101, 3] 9 #[.pointer (some ⟨g, 0, none⟩), .int .i64 t.length]).run Tryd.prog w.drew = .ok (.string ⟨t.toArray⟩) (w.drew.freeze ⟨g, 0, none⟩ t.length) := by
    refine Lib.run_unsafeString_row w.drew 101 3 9 bT Tryd.underlying101 (by kernel_rfl) g cur.size (by have hg' : w.drew.heap[g]? = some (.cells cur bT fz) := hg; simp [World.shape?, hg']) t h0 (by omega) (by unfold maxLen at hcm; omega) ?_
    intro j x hx
    have := hown.cells (g := g) rfl j (.int .u8 x.toNat) (by simp [Lib.byteCells, hx])
    exact this
  go_enter Tryd.func19, Tryd.ntmps19
  go_wp2
  go_region
  all_goals (go_wp2; go_ret; exact ⟨rfl, Lib.below_freeze (Below.drew (Below.refl b w)) (p := ⟨g, 0, none⟩) hbg _⟩)
theorem wr_new (w : World) : Wr w [] (w.alloc (.cells #[.pointer none, .slice none 0 0] wT)) :=
  .inl ⟨Nat.le_refl _, .slice none 0 0, new_blk _ _ rfl, World.ownsRowF_of (World.ownsRow_nil _ _ _ _), by simp [Value.ownBlock]⟩
theorem txP_ne (e : Pg) : txP e ≠ [] := by
  unfold txP
  intro h
  have := congrArg List.length h
  simp only [List.length_append, List.length_cons, List.length_nil] at this
  omega
theorem print_any (W00 : World) (hT00 : Tw W00) (e : Pg) (he0 : e.Has W00) (hs : szP e ≤ 4096) (hd : dpP e ≤ 64) (w : World) (hw : Nb W00 w) :
    Calls Tryd.prog 10 #[.agg e.cells.toArray] w fun r w' => r = .returned (sV (if gP e = true then txP e else [])) ∧ Nb w w' := by
  have hgood := good_any W00 e he0 hs hd
  have hlen := fun hg => len_P e hs (by omega) hg
  rw [allM_flP e (by omega)] at hgood
  have hwp := fun (W0 : World) (h : Nb W00 W0) hg t W hW hT hl => wprog_any W0 (var_nbT hT00 h) e (he0.nb h) hg t W hW hT hl
  clear hs hd
  cases hg : gP e with
  | false =>
    rw [hg] at hgood
    replace hgood := Lib.hid hgood
    clear hwp hlen
    go_enter Tryd.func10, Tryd.ntmps10
    go_upto_region 1 with (fail)
    obtain ⟨W1, hW1⟩ : ∃ W1, w.alloc (Obj.cells e.cells.toArray 25) = W1 := ⟨_, rfl⟩
    have n1 : Nb w W1 := by rw [← hW1]; exact alloc_nb _ _
    have b1 : W1.heap[w.heap.size]? = some (.cells e.cells.toArray 25 (0, 0)) := by rw [← hW1]; exact new_blk _ _ rfl
    rw [hW1]
    clear hW1
    go_wp2_with (first
      | (refine wpList_load_row rfl 25 (.tmp 1) rfl w.heap.size rfl 25 e.cells.toArray (0, 0) _ b1 Tryd.underlying25 rfl (show (Tryd.prog.info? 25).map (·.size) = some 4 by kernel_rfl) ?_)
      | (go_at_call 9; refine (hgood.out _ (hw.trans n1)).mono ?_; rintro r w3 ⟨rfl, g3⟩))
    go_ret
    exact ⟨rfl, n1.trans g3⟩
  | true =>
    rw [hg] at hgood
    replace hgood := Lib.hid hgood
    have hlen := hlen hg
    replace hwp := Lib.hid (fun (W0 : World) (h : Nb W00 W0) => hwp W0 h hg)
    have hne := Lib.hid (txP_ne e)
    obtain ⟨X, hX⟩ : ∃ X, txP e = X := ⟨_, rfl⟩
    rw [hX] at hwp hlen hne
    simp only [if_true]
    rw [hX]
    clear hX
    go_enter Tryd.func10, Tryd.ntmps10
    go_upto_region 1 with (fail)
    obtain ⟨W1, hW1⟩ : ∃ W1, w.alloc (Obj.cells e.cells.toArray 25) = W1 := ⟨_, rfl⟩
    have n1 : Nb w W1 := by rw [← hW1]; exact alloc_nb _ _
    have b1 : W1.heap[w.heap.size]? = some (.cells e.cells.toArray 25 (0, 0)) := by rw [← hW1]; exact new_blk _ _ rfl
    rw [hW1]
    clear hW1
    go_wp2_with (first
      | (refine wpList_load_row rfl 25 (.tmp 1) rfl w.heap.size rfl 25 e.cells.toArray (0, 0) _ b1 Tryd.underlying25 rfl (show (Tryd.prog.info? 25).map (·.size) = some 4 by kernel_rfl) ?_)
      | (refine wpList_load_row rfl 25 (.tmp 1) rfl w.heap.size rfl 25 e.cells.toArray (0, 0) _ (old_blk (g3.block b1) _) Tryd.underlying25 rfl (show (Tryd.prog.info? 25).map (·.size) = some 4 by kernel_rfl) ?_)
      | (go_at_call 9; refine (hgood.out _ (hw.trans n1)).mono ?_; rintro r w3 ⟨rfl, g3⟩)
      | (go_at_call 18; refine (hwp.out w3 (hw.trans (n1.trans g3)) [] _ (alloc_nb _ _) (wr_new w3) (by simpa using (by omega : X.length ≤ 140737488355328))).mono ?_; rintro r w4 ⟨rfl, hT4, p4⟩)
      | (go_at_call 19; refine (wtext_any w3 X w4 hT4 hne.out).mono ?_; rintro r w5 ⟨rfl, g5⟩))
    go_ret
    exact ⟨rfl, Nb.trans (n1.trans g3) (show Nb w3 w5 from Below.trans (alloc_nb w3 _) (p4.1.trans g5))⟩
end Go.Proofs.YtjibblpfhnigjaaDoor
