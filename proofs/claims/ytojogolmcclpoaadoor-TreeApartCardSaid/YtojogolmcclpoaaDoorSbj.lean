/-
  Proved here: of the code: whether a program may be, if it is neither too great nor too deep. Conditions: the memory holds it. ¦ of the code: a program's text. Conditions: the memory holds it; it is neither too great nor too deep; the table of powers is laid.
-/
import Derived.Test.YtojogolmcclpoaaDoorSas
import Derived.Test.YtojogolmcclpoaaDoorSbi
import Derived.Test.YtojogolmcclpoaaDoorSbe
section
namespace Go.Proofs.YtojogolmcclpoaaDoor
open Go.RowKit Go.Shelf
set_option linter.unusedVariables false
set_option linter.unusedSimpArgs false
set_option maxRecDepth 100000
set_option maxHeartbeats 4000000
attribute [-go_sem] run_eql_struct
attribute [local go_sem] Oper.semAt_some
theorem cell_putObj_ne (W : World) (D : Nat) (o : Obj) (a : Addr) (h : a.block ≠ D) : (W.putObj D o).cell? a = W.cell? a := by
  unfold World.cell?
  rw [World.putObj_heap_other h]
theorem good_any (W00 : World) (e : Pg) (he0 : e.Has W00) (hs : szP e ≤ 4096) (hd : dpP e ≤ 64) (w : World) (hw : Nb W00 w) :
    Calls Tryd.prog 5 #[.agg e.cells.toArray] w fun r w' => r = .returned (.bool (allM (flP e))) ∧ Nb w w' := by
  have he := he0.nb hw
  obtain ⟨M, hM⟩ : ∃ M, allM (flP e) = M := ⟨_, rfl⟩
  rw [hM]
  replace hM := Lib.hid hM
  obtain ⟨n, hn⟩ : ∃ n : Nat, n = 5 := ⟨_, rfl⟩
  have h1 : 1 ≤ n := by omega
  refine (callsIn_wide (n := n)).1 ?_
  refine callsIn_of_wp_marks Tryd.func5 rfl trivial ?_ rfl
  simp only [Tryd.ntmps5, List.size_toArray, List.length_cons, List.length_nil, Nat.reduceAdd, Nat.reduceSub, Array.replicate_succ, Array.replicate_zero, List.push_toArray, List.append_toArray, List.nil_append, List.cons_append]
  refine wpIn_wide.2 ?_
  go_upto_region 1 with (fail)
  obtain ⟨W1, hW1⟩ : ∃ W1, (w.alloc (Obj.cells e.cells.toArray 25)).alloc (Obj.cells #[.bool false] 4) = W1 := ⟨_, rfl⟩
  have n1 : Nb w W1 := by rw [← hW1]; exact ((Nb.refl w).alloc _).alloc _
  have b1 : W1.heap[w.heap.size]? = some (.cells e.cells.toArray 25 (0, 0)) := by rw [← hW1]; exact old_blk (new_blk w _ rfl) _
  have d1 : W1.heap[w.heap.size + 1]? = some (.cells #[.bool false] 4 (0, 0)) := by rw [← hW1]; exact new_blk _ _ (by rw [World.size_alloc])
  have s1 : W1.heap.size = w.heap.size + 1 + 1 := by rw [← hW1]; simp
  rw [hW1]
  clear hW1
  have hsize := Lib.hid (size_any W00 e he0 W1 (hw.trans n1))
  have hdep := Lib.hid (fun W2 (h : Nb W1 W2) => depth_any W00 e he0 W2 (hw.trans (n1.trans h)))
  obtain ⟨S, hS⟩ : ∃ S, min (szP e) 4097 = S := ⟨_, rfl⟩
  obtain ⟨D, hD⟩ : ∃ D, dpP e = D := ⟨_, rfl⟩
  have h4 : ¬ (4096 : Int) < (S : Int) := by omega
  have h5 : ¬ (64 : Int) < (D : Int) := by omega
  rw [hS] at hsize
  rw [hD] at hdep
  clear hS hD hs hd
  go_wp2_with (first
      | (refine wpList_load_row rfl 25 (.tmp 1) rfl w.heap.size rfl 25 e.cells.toArray (0, 0) _ b1 Tryd.underlying25 rfl (show (Tryd.prog.info? 25).map (·.size) = some 4 by kernel_rfl) ?_)
      | (go_at_call 11; refine (hsize.out).mono ?_; clear hsize; rintro r w3 ⟨rfl, g3⟩; have b3 := g3.block b1; have d3 := g3.block d1; have c0 : w3.cell? ⟨w.heap.size, 0, none⟩ = some e.dv := cell_of_row _ _ 0 _ _ _ b3; have c1 : w3.cell? ⟨w.heap.size, 1, none⟩ = some (.int .i64 e.at_) := cell_of_row _ _ 1 _ _ _ b3; have c2 : w3.cell? ⟨w.heap.size, 2, none⟩ = some (sV e.main) := cell_of_row _ _ 2 _ _ _ b3; have c3 : w3.cell? ⟨w.heap.size, 3, none⟩ = some e.av := cell_of_row _ _ 3 _ _ _ b3)
      | (refine wpList_load_row rfl 25 (.tmp 1) rfl w.heap.size rfl 25 e.cells.toArray (0, 0) _ b4 Tryd.underlying25 rfl (show (Tryd.prog.info? 25).map (·.size) = some 4 by kernel_rfl) ?_)
      | (go_at_call 12; refine (hdep.out _ g3).mono ?_; rintro r w4 ⟨rfl, g4⟩; have b4 := g4.block b3; have d4 := g4.block d3; clear c0 c1 c2 c3)
      | (go_at_call 13; refine (parts_any e _).mono ?_; rintro r w5 ⟨rfl, rfl⟩))
  obtain ⟨X1, hX1⟩ : ∃ X, (Value.bool (decide ((4096 : Int) < (S : Int)))) = X := ⟨_, rfl⟩
  obtain ⟨X2, hX2⟩ : ∃ X, (Value.bool (decide ((64 : Int) < (D : Int)))) = X := ⟨_, rfl⟩
  obtain ⟨X3, hX3⟩ : ∃ X, (Value.bool (decide ((4096 : Int) < (S : Int)) || decide ((64 : Int) < (D : Int)))) = X := ⟨_, rfl⟩
  rw [hX1, hX2, hX3]
  clear hX1 hX2 hX3
  obtain ⟨W2, hW2⟩ : ∃ W2, w4.alloc (Obj.cells e.cells.toArray 25) = W2 := ⟨_, rfl⟩
  have g34 : Nb W1 w4 := g3.trans g4
  have g2 : Nb W1 W2 := by rw [← hW2]; exact g34.trans (alloc_nb _ _)
  have p2 : W2.heap[w4.heap.size]? = some (.cells e.cells.toArray 25 (0, 0)) := by rw [← hW2]; exact new_blk _ _ rfl
  have s4 : w.heap.size + 1 + 1 ≤ w4.heap.size := by have := g34.size; omega
  have s2 : W2.heap.size = w4.heap.size + 1 := by rw [← hW2, World.size_alloc]
  have n2 := n1.trans g2
  have d2 := g2.block d1
  rw [hW2]
  clear hW2 b1 d1 s1 b3 d3 b4 d4 g34 g2 g3 g4 h4 h5
  obtain ⟨PB, hPB⟩ : ∃ PB, w4.heap.size = PB := ⟨_, rfl⟩
  rw [hPB] at p2 s4 s2 ⊢
  clear hPB hdep
  have q2 : W2.cell? ⟨w.heap.size + 1, 0, none⟩ = some (.bool false) := cell_of_row _ _ 0 _ _ _ d2
  have f2 : W2.frozen? ⟨w.heap.size + 1, 0, none⟩ = false := frozen_blk d2 0
  have heh := Lib.hid (he.nb n2)
  refine (wpIn_wide (n := n)).1 ?_
  refine range_box rfl h1 (gf := 23) (lb := #[.pointer (some ⟨PB, 0, none⟩)]) rfl trivial (enters_of Tryd.func23 (by kernel_rfl) rfl)
    (parts_stops w (w.heap.size + 1 + 1) (n - 1) e he PB W2 n2 s4 p2) (fun h k => Kp.trans h k) (fun W o hl => Kp.alloc' W o (by omega)) (fun W l o o' hl hW ho => Kp.putObj W l o o' (by omega) hW ho) (Below.refl _ _) (fun _ => rfl)
    (fun (pre : List Pt) W => (allM pre = true ∧ W.cell? ⟨w.heap.size + 1, 0, none⟩ = some (.bool false) ∧ W.frozen? ⟨w.heap.size + 1, 0, none⟩ = false) ∧ Below w.heap.size w W)
    (fun c (pre : List Pt) W => (c = .ret ∧ allM pre = false ∧ W.cell? ⟨w.heap.size + 1, 0, none⟩ = some (.bool false)) ∧ Below w.heap.size w W)
    (OwnFrom.and (Own.from (fun s A B row hs hg hr => ⟨hs.1, cell_kept hs.2.1 hg hr, (frozen_kept hs.2.1 hg hr).trans hs.2.2⟩) _) (ownFrom_below (Nat.le_refl _) (by omega)))
    (fun c => OwnFrom.and (Own.from (fun s A B row hs hg hr => ⟨hs.1, hs.2.1, cell_kept hs.2.2 hg hr⟩) _) (ownFrom_below (Nat.le_refl _) (by omega)))
    ⟨⟨rfl, q2, f2⟩, n2⟩
    (fun (x : Pt) (B : Nat) => { tmps := #[.agg e.cells.toArray, .pointer (some ⟨w.heap.size, 0, none⟩), .pointer (some ⟨w.heap.size + 1, 0, none⟩), undef, .pointer (some ⟨B, 0, none⟩), .agg e.cells.toArray, .int .i64 S, X1, X1, .agg #[e.dv, .int .i64 e.at_, sV e.main, e.av], .int .i64 D, X2, X3, .agg e.cells.toArray, .func (.func 23) #[] #[.pointer (some ⟨PB, 0, none⟩)], .int .i64 x.1, .agg x.2.cells, undef, undef, undef], defers := [] })
    (fun x => .cells x.2.cells 34) (fun _ => rfl) ?assign ?body ?done ?stop
  case assign =>
    rintro l ⟨lv, h⟩ W K hK
    simp only [Hd.cells] at hK ⊢
    gi_wp2
    exact hK
  case body =>
    rintro l pre ⟨lv, h⟩ W B hBl hob ⟨⟨hall, hc0, hfr⟩, hB⟩ _
    have hsn := allM_snoc pre (lv, h)
    rw [hall, Bool.true_and] at hsn
    have hcs := may_any h
    simp only [Hd.cells] at hob hcs
    have y0 := cell_of_row _ _ 0 _ _ _ hob
    have y1 := cell_of_row _ _ 1 _ _ _ hob
    have y2 := cell_of_row _ _ 2 _ _ _ hob
    have y3 := cell_of_row _ _ 3 _ _ _ hob
    have y4 := cell_of_row _ _ 4 _ _ _ hob
    have y5 := cell_of_row _ _ 5 _ _ _ hob
    have y6 := cell_of_row _ _ 6 _ _ _ hob
    have y7 := cell_of_row _ _ 7 _ _ _ hob
    have y8 := cell_of_row _ _ 8 _ _ _ hob
    have y9 := cell_of_row _ _ 9 _ _ _ hob
    have y10 := cell_of_row _ _ 10 _ _ _ hob
    have y11 := cell_of_row _ _ 11 _ _ _ hob
    have hcs := Lib.hid hcs
    cases hh : mayS h with
    | false =>
      rw [show mayS (lv, h).2 = mayS h from rfl, hh] at hsn
      rw [hh] at hcs
      gi_wp2_with (refine ⟨trivial, ?_⟩; gi_at_call 14; refine (CallsIn.inRound l (callsIn_wide.2 (hcs.out _))).mono ?_; rintro r w5 ⟨rfl, g5⟩; have z0 := g5.cell hc0; have gr : W.grownBy w5 none := ⟨g5.os, g5.tape, g5.output, g5.size, fun k hk _ => Below.block g5 k hk⟩; have zf := (frozen_kept hc0 gr (fun r e => nomatch e)).trans hfr)
      refine ⟨KeepsOthers.trans ⟨g5.size, fun k o hk _ => g5.block hk⟩ (KeepsOthers.setCell _ _ _), ⟨rfl, hsn, ?_⟩, (hB.trans (Below.mono g5 hB.size)).setCell (p := ⟨w.heap.size + 1, 0, none⟩) (by simp) _⟩
      rw [World.cell?_setCell_same' _ _ _ (by rw [z0]; rfl)]
    | true =>
      rw [show mayS (lv, h).2 = mayS h from rfl, hh] at hsn
      rw [hh] at hcs
      gi_wp2_with (refine ⟨trivial, ?_⟩; gi_at_call 14; refine (CallsIn.inRound l (callsIn_wide.2 (hcs.out _))).mono ?_; rintro r w5 ⟨rfl, g5⟩; have z0 := g5.cell hc0; have gr : W.grownBy w5 none := ⟨g5.os, g5.tape, g5.output, g5.size, fun k hk _ => Below.block g5 k hk⟩; have zf := (frozen_kept hc0 gr (fun r e => nomatch e)).trans hfr)
      exact ⟨⟨g5.size, fun k o hk _ => g5.block hk⟩, Kp.of_nb hB.size g5, ⟨hsn, z0, zf⟩, hB.trans (Below.mono g5 hB.size)⟩
  case done =>
    rintro D ys W hD rfl ⟨⟨hall, hcr, hfr⟩, hB⟩ hK
    rw [hM.out] at hall
    subst hall
    go_wp2_with fail
    have hK2 : (W.setCell ⟨w.heap.size + 1, 0, none⟩ (.bool true)).heap[D]? = some (.deferred (some [])) := (Below.heap_setCell W _ _ D (by simp; omega)).trans hK
    refine ⟨by simp, .inl ⟨_, _, rfl, run_takeDeferred hK2, ?_⟩⟩
    have hB2 : Below w.heap.size w (W.setCell ⟨w.heap.size + 1, 0, none⟩ (.bool true)) := hB.setCell (p := ⟨w.heap.size + 1, 0, none⟩) (by simp) _
    have hc : ((W.setCell ⟨w.heap.size + 1, 0, none⟩ (.bool true)).putObj D (.deferred none)).cell? ⟨w.heap.size + 1, 0, none⟩ = some (.bool true) := by
      rw [cell_putObj_ne _ _ _ _ (by simp; omega)]
      exact World.cell?_setCell_same' _ _ _ (by rw [hcr]; rfl)
    exact ⟨_, by simp [results, Tryd.f5, go_sem, hc], rfl, hB2.trans (belowK_b (w := w) (Nat.le_refl _) _ D _ _ (by omega) hK2 rfl rfl)⟩
  case stop =>
    rintro D c pre W hD hpre ⟨⟨rfl, hgt, hcr⟩, hB⟩ hK
    have h1 := allM_prefix hpre hgt
    rw [hM.out] at h1
    subst h1
    gi_wp2
    go_wp2_with fail
    refine ⟨by simp, .inl ⟨_, _, rfl, run_takeDeferred hK, ?_⟩⟩
    have hc : (W.putObj D (.deferred none)).cell? ⟨w.heap.size + 1, 0, none⟩ = some (.bool false) := by
      rw [cell_putObj_ne _ _ _ _ (by simp; omega)]
      exact hcr
    exact ⟨_, by simp [results, Tryd.f5, go_sem, hc], rfl, hB.trans (belowK_b (w := w) (Nat.le_refl _) W D _ _ (by omega) hK rfl rfl)⟩
end Go.Proofs.YtojogolmcclpoaaDoor
end
section
namespace Go.Proofs.YtojogolmcclpoaaDoor
open Go.RowKit Go.Shelf
set_option linter.unusedVariables false
set_option linter.unusedSimpArgs false
set_option maxRecDepth 100000
set_option maxHeartbeats 4000000
attribute [-go_sem] run_eql_struct
theorem wtext_any (W0 : World) (t : Bs) (w : World) (h : Wr W0 t w) (h0 : t ≠ []) :
    Calls Tryd.prog 16 #[.pointer (some ⟨W0.heap.size, 0, none⟩)] w fun r w' => r = .returned (.string ⟨t.toArray⟩) ∧ Below W0.heap.size w w' := by
  obtain ⟨b, hb0⟩ : ∃ b, W0.heap.size = b := ⟨_, rfl⟩
  unfold Wr at h
  rw [hb0] at h ⊢
  obtain ⟨p, hAt⟩ : ∃ p, Lib.BuilderAtF wT bT b b p (Lib.byteCells t) w := by
    rcases h with h | h
    · exact ⟨_, h⟩
    · exact ⟨_, h⟩
  obtain ⟨hB, v, hbk, hown, hne⟩ := hAt
  have hl0 : t.length ≠ 0 := by simpa using h0
  rw [Lib.byteCells_length] at hown
  obtain ⟨g, cap, cur, fz, rfl, hbg, hg, hfz, hnc, hcm, hcs, htake⟩ : ∃ g cap cur fz, v = .slice (some ⟨g, 0, none⟩) t.length cap ∧ b ≤ g ∧ w.heap[g]? = some (.cells cur bT fz) ∧ fz.2 ≤ t.length * 1 ∧ t.length ≤ cap ∧ cap ≤ maxLen ∧ cur.size = cap * 1 ∧ cur.toList.take (t.length * 1) = Lib.byteCells t := by
    rcases hown.2 with ⟨_, hz⟩ | ⟨g, cap, cur, fz, hv, r⟩
    · exact absurd hz hl0
    · exact ⟨g, cap, cur, fz, hv, r⟩
  have c1 : w.drew.cell? ⟨b, 1, none⟩ = some (.slice (some ⟨g, 0, none⟩) t.length cap) := by
    have : w.drew.heap[b]? = some (.cells #[p, .slice (some ⟨g, 0, none⟩) t.length cap] wT (0, 0)) := hbk
    rw [Lib.cell_of_heap this]; rfl
  have hSD : (Builtin.unsafeSliceData_ #[48] 98 #[.slice (some ⟨g, 0, none⟩) t.length cap]).run Tryd.prog w.drew = .ok (.pointer (some ⟨g, 0, none⟩)) w.drew :=
    Lib.run_unsafeSliceData_row _ _ _ _ _ _ (by omega)
  have hUS : (Builtin.unsafeString_ #[98, 3] 9 #[.pointer (some ⟨g, 0, none⟩), .int .i64 t.length]).run Tryd.prog w.drew = .ok (.string ⟨t.toArray⟩) (w.drew.freeze ⟨g, 0, none⟩ t.length) := by
    refine Lib.run_unsafeString_row w.drew 98 3 9 bT Tryd.underlying98 (by kernel_rfl) g cur.size (by have hg' : w.drew.heap[g]? = some (.cells cur bT fz) := hg; simp [World.shape?, hg']) t h0 (by omega) (by unfold maxLen at hcm; omega) ?_
    intro j x hx
    have := hown.cells (g := g) rfl j (.int .u8 x.toNat) (by simp [Lib.byteCells, hx])
    exact this
  go_enter Tryd.func16, Tryd.ntmps16
  go_wp2
  go_region
  all_goals (go_wp2; go_ret; exact ⟨rfl, Lib.below_freeze (Below.drew (Below.refl b w)) (p := ⟨g, 0, none⟩) hbg _⟩)
theorem wr_new (w : World) : Wr w [] (w.alloc (.cells #[.pointer none, .slice none 0 0] wT)) :=
  .inl ⟨Nat.le_refl _, .slice none 0 0, new_blk _ _ rfl, World.ownsRowF_of (World.ownsRow_nil _ _ _ _), by simp [Value.ownBlock]⟩
theorem txP_ne (e : Pg) : txP e ≠ [] := by
  unfold txP
  intro h
  have := congrArg List.length h
  simp only [List.length_append, List.length_cons, List.length_nil] at this
  omega
theorem print_any (W00 : World) (hT00 : Tw W00) (e : Pg) (he0 : e.Has W00) (hs : szP e ≤ 4096) (hd : dpP e ≤ 64) (w : World) (hw : Nb W00 w) :
    Calls Tryd.prog 7 #[.agg e.cells.toArray] w fun r w' => r = .returned (sV (if gP e = true then txP e else [])) ∧ Nb w w' := by
  have hgood := good_any W00 e he0 hs hd
  have hlen := fun hg => len_P e hs (by omega) hg
  rw [allM_flP e (by omega)] at hgood
  have hwp := fun (W0 : World) (h : Nb W00 W0) hg t W hW hT hl => wprog_any W0 (var_nbT hT00 h) e (he0.nb h) hg t W hW hT hl
  clear hs hd
  cases hg : gP e with
  | false =>
    rw [hg] at hgood
    replace hgood := Lib.hid hgood
    clear hwp hlen
    go_enter Tryd.func7, Tryd.ntmps7
    go_upto_region 1 with (fail)
    obtain ⟨W1, hW1⟩ : ∃ W1, w.alloc (Obj.cells e.cells.toArray 25) = W1 := ⟨_, rfl⟩
    have n1 : Nb w W1 := by rw [← hW1]; exact alloc_nb _ _
    have b1 : W1.heap[w.heap.size]? = some (.cells e.cells.toArray 25 (0, 0)) := by rw [← hW1]; exact new_blk _ _ rfl
    rw [hW1]
    clear hW1
    go_wp2_with (first
      | (refine wpList_load_row rfl 25 (.tmp 1) rfl w.heap.size rfl 25 e.cells.toArray (0, 0) _ b1 Tryd.underlying25 rfl (show (Tryd.prog.info? 25).map (·.size) = some 4 by kernel_rfl) ?_)
      | (go_at_call 5; refine (hgood.out _ (hw.trans n1)).mono ?_; rintro r w3 ⟨rfl, g3⟩))
    go_ret
    exact ⟨rfl, n1.trans g3⟩
  | true =>
    rw [hg] at hgood
    replace hgood := Lib.hid hgood
    have hlen := hlen hg
    replace hwp := Lib.hid (fun (W0 : World) (h : Nb W00 W0) => hwp W0 h hg)
    have hne := Lib.hid (txP_ne e)
    obtain ⟨X, hX⟩ : ∃ X, txP e = X := ⟨_, rfl⟩
    rw [hX] at hwp hlen hne
    simp only [if_true]
    rw [hX]
    clear hX
    go_enter Tryd.func7, Tryd.ntmps7
    go_upto_region 1 with (fail)
    obtain ⟨W1, hW1⟩ : ∃ W1, w.alloc (Obj.cells e.cells.toArray 25) = W1 := ⟨_, rfl⟩
    have n1 : Nb w W1 := by rw [← hW1]; exact alloc_nb _ _
    have b1 : W1.heap[w.heap.size]? = some (.cells e.cells.toArray 25 (0, 0)) := by rw [← hW1]; exact new_blk _ _ rfl
    rw [hW1]
    clear hW1
    go_wp2_with (first
      | (refine wpList_load_row rfl 25 (.tmp 1) rfl w.heap.size rfl 25 e.cells.toArray (0, 0) _ b1 Tryd.underlying25 rfl (show (Tryd.prog.info? 25).map (·.size) = some 4 by kernel_rfl) ?_)
      | (refine wpList_load_row rfl 25 (.tmp 1) rfl w.heap.size rfl 25 e.cells.toArray (0, 0) _ (old_blk (g3.block b1) _) Tryd.underlying25 rfl (show (Tryd.prog.info? 25).map (·.size) = some 4 by kernel_rfl) ?_)
      | (go_at_call 5; refine (hgood.out _ (hw.trans n1)).mono ?_; rintro r w3 ⟨rfl, g3⟩)
      | (go_at_call 15; refine (hwp.out w3 (hw.trans (n1.trans g3)) [] _ (alloc_nb _ _) (wr_new w3) (by simpa using (by omega : X.length ≤ 140737488355328))).mono ?_; rintro r w4 ⟨rfl, hT4, p4⟩)
      | (go_at_call 16; refine (wtext_any w3 X w4 hT4 hne.out).mono ?_; rintro r w5 ⟨rfl, g5⟩))
    go_ret
    exact ⟨rfl, Nb.trans (n1.trans g3) (show Nb w3 w5 from Below.trans (alloc_nb w3 _) (p4.1.trans g5))⟩
end Go.Proofs.YtojogolmcclpoaaDoor
end
