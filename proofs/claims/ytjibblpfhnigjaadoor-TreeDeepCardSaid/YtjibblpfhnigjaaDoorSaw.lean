/-
  Proved here: of the code: how many parts a program has. Conditions: the memory holds it.
-/
import Derived.Test.YtjibblpfhnigjaaDoorSau
import Derived.Test.YtjibblpfhnigjaaDoorSav
namespace Go.Proofs.YtjibblpfhnigjaaDoor
open Go.RowKit Go.Shelf
set_option linter.unusedVariables false
set_option linter.unusedSimpArgs false
set_option maxRecDepth 100000
set_option maxHeartbeats 4000000
attribute [local go_sem] Oper.semAt_some
theorem Kp.alloc' {lo hi : Nat} (W : World) (o : Obj) (h : lo ≤ W.heap.size) : Kp lo hi W (W.alloc o) := Kp.of_nb h ((Nb.refl W).alloc o)
theorem size_any (W00 : World) (e : Pg) (he0 : e.Has W00) (w : World) (hw : Nb W00 w) :
    Calls Tryd.prog 16 #[.agg e.cells.toArray] w fun r w' => r = .returned (.int .i64 ((min (szP e) 4097 : Nat) : Int)) ∧ Nb w w' := by
  have he := he0.nb hw
  obtain ⟨M, hM⟩ : ∃ M, szP e = M := ⟨_, rfl⟩
  rw [hM]
  replace hM := Lib.hid hM
  obtain ⟨n, hn⟩ : ∃ n : Nat, n = 5 := ⟨_, rfl⟩
  have h1 : 1 ≤ n := by omega
  refine (callsIn_wide (n := n)).1 ?_
  refine callsIn_of_wp_marks Tryd.func16 rfl trivial ?_ rfl
  simp only [Tryd.ntmps16, List.size_toArray, List.length_cons, List.length_nil, Nat.reduceAdd, Nat.reduceSub, Array.replicate_succ, Array.replicate_zero, List.push_toArray, List.append_toArray, List.nil_append, List.cons_append]
  refine wpIn_wide.2 ?_
  go_upto_region 2 with (fail)
  obtain ⟨W1, hW1⟩ : ∃ W1, (w.alloc (Obj.cells e.cells.toArray 25)).alloc (Obj.cells #[.int .i64 0] 3) = W1 := ⟨_, rfl⟩
  have n1 : Nb w W1 := by rw [← hW1]; exact ((Nb.refl w).alloc _).alloc _
  have b1 : W1.heap[w.heap.size]? = some (.cells e.cells.toArray 25 (0, 0)) := by rw [← hW1]; exact old_blk (new_blk w _ rfl) _
  have d1 : W1.heap[w.heap.size + 1]? = some (.cells #[.int .i64 0] 3 (0, 0)) := by rw [← hW1]; exact new_blk _ _ (by rw [World.size_alloc])
  have s1 : W1.heap.size = w.heap.size + 1 + 1 := by rw [← hW1]; simp
  rw [hW1]
  clear hW1
  go_wp2_with (first
    | (refine wpList_load_row rfl 25 (.tmp 1) rfl w.heap.size rfl 25 e.cells.toArray (0, 0) _ b1 Tryd.underlying25 rfl (show (Tryd.prog.info? 25).map (·.size) = some 4 by kernel_rfl) ?_)
    | (go_at_call 15; refine (parts_any e _).mono ?_; rintro r w2 ⟨rfl, rfl⟩))
  obtain ⟨W2, hW2⟩ : ∃ W2, W1.alloc (Obj.cells e.cells.toArray 25) = W2 := ⟨_, rfl⟩
  have g2 : Nb W1 W2 := by rw [← hW2]; exact alloc_nb _ _
  have p2 : W2.heap[w.heap.size + 1 + 1]? = some (.cells e.cells.toArray 25 (0, 0)) := by rw [← hW2]; exact new_blk _ _ s1
  have s2 : W2.heap.size = w.heap.size + 1 + 1 + 1 := by rw [← hW2, World.size_alloc, s1]
  have n2 := n1.trans g2
  have d2 := g2.block d1
  rw [hW2]
  clear hW2 b1 d1 s1
  have q2 : W2.cell? ⟨w.heap.size + 1, 0, none⟩ = some (.int .i64 0) := cell_of_row _ _ 0 _ _ _ d2
  have f2 : W2.frozen? ⟨w.heap.size + 1, 0, none⟩ = false := frozen_blk d2 0
  have heh := Lib.hid (he.nb n2)
  refine (wpIn_wide (n := n)).1 ?_
  refine range_box rfl h1 (gf := 24) (lb := #[.pointer (some ⟨w.heap.size + 1 + 1, 0, none⟩)]) rfl trivial (enters_of Tryd.func24 (by kernel_rfl) rfl)
    (parts_stops w (w.heap.size + 1 + 1) (n - 1) e he (w.heap.size + 1 + 1) W2 n2 (Nat.le_refl _) p2) (fun h k => Kp.trans h k) (fun W o hl => Kp.alloc' W o (by omega)) (fun W l o o' hl hW ho => Kp.putObj W l o o' (by omega) hW ho) (Below.refl _ _) (fun _ => rfl)
    (fun (pre : List Pt) W => (cntL pre ≤ 4096 ∧ W.cell? ⟨w.heap.size + 1, 0, none⟩ = some (.int .i64 (cntL pre : Nat)) ∧ W.frozen? ⟨w.heap.size + 1, 0, none⟩ = false) ∧ Below w.heap.size w W)
    (fun c (pre : List Pt) W => (c = .exit 0 ∧ cntL pre = 4097 ∧ W.cell? ⟨w.heap.size + 1, 0, none⟩ = some (.int .i64 (cntL pre : Nat))) ∧ Below w.heap.size w W)
    (OwnFrom.and (Own.from (fun s A B row hs hg hr => ⟨hs.1, cell_kept hs.2.1 hg hr, (frozen_kept hs.2.1 hg hr).trans hs.2.2⟩) _) (ownFrom_below (Nat.le_refl _) (by omega)))
    (fun c => OwnFrom.and (Own.from (fun s A B row hs hg hr => ⟨hs.1, hs.2.1, cell_kept hs.2.2 hg hr⟩) _) (ownFrom_below (Nat.le_refl _) (by omega)))
    ⟨⟨Nat.zero_le _, q2, f2⟩, n2⟩
    (fun (x : Pt) (B : Nat) => { tmps := #[.agg e.cells.toArray, .pointer (some ⟨w.heap.size, 0, none⟩), .int .i64 0, .pointer (some ⟨w.heap.size + 1, 0, none⟩), undef, .pointer (some ⟨B, 0, none⟩), .agg e.cells.toArray, .func (.func 24) #[] #[.pointer (some ⟨w.heap.size + 1 + 1, 0, none⟩)], .int .i64 x.1, .agg x.2.cells, undef, undef, undef, undef, undef, undef, undef], defers := [] })
    (fun x => .cells x.2.cells 52) (fun _ => rfl) ?assign ?body ?done ?stop
  case assign =>
    rintro l ⟨lv, h⟩ W K hK
    simp only [Hd.cells] at hK ⊢
    gi_wp2
    exact hK
  case body =>
    rintro l pre ⟨lv, h⟩ W B hBl hob ⟨⟨hle, hc0, hfr⟩, hB⟩ _
    have hcnt := cntL_snoc pre (lv, h)
    have hcs := counts_any h
    simp only [Hd.cells] at hob hcs
    have y0 := cell_of_row _ _ 0 _ _ _ hob
    have y1 := cell_of_row _ _ 1 _ _ _ hob
    have y2 := cell_of_row _ _ 2 _ _ _ hob
    have y3 := cell_of_row _ _ 3 _ _ _ hob
    have y4 := cell_of_row _ _ 4 _ _ _ hob
    have y5 := cell_of_row _ _ 5 _ _ _ hob
    have y6 := cell_of_row _ _ 6 _ _ _ hob
    have y7 := cell_of_row _ _ 7 _ _ _ hob
    have y8 := cell_of_row _ _ 8 _ _ _ hob
    have y9 := cell_of_row _ _ 9 _ _ _ hob
    have y10 := cell_of_row _ _ 10 _ _ _ hob
    have y11 := cell_of_row _ _ 11 _ _ _ hob
    have hwr : IntKind.i64.wrap (((cntL pre : Nat) : Int) + 1) = ((cntL pre + 1 : Nat) : Int) := by rw [IntKind.wrap_i64]; omega
    have hcs := Lib.hid hcs
    cases hh : h.cnt with
    | false =>
      simp only [hh, Bool.false_eq_true, if_false, Nat.add_zero] at hcnt
      rw [hh] at hcs
      have hx3 : ¬ ((4096 : Int) < ((cntL pre : Nat) : Int)) := by omega
      gi_wp2_with (refine ⟨trivial, ?_⟩; gi_at_call 47; refine (CallsIn.inRound l (callsIn_wide.2 (hcs.out _))).mono ?_; rintro r w5 ⟨rfl, g5⟩; have z0 := g5.cell hc0; have gr : W.grownBy w5 none := ⟨g5.os, g5.tape, g5.output, g5.size, fun k hk _ => Below.block g5 k hk⟩; have zf := (frozen_kept hc0 gr (fun r e => nomatch e)).trans hfr)
      exact ⟨⟨g5.size, fun k o hk _ => g5.block hk⟩, Kp.of_nb hB.size g5, ⟨by omega, by rw [hcnt]; exact z0, zf⟩, hB.trans (Below.mono g5 hB.size)⟩
    | true =>
      simp only [hh, if_true] at hcnt
      rw [hh] at hcs
      by_cases hb : cntL pre = 4096
      · have hx3 : (4096 : Int) < ((cntL pre + 1 : Nat) : Int) := by omega
        gi_wp2_with (refine ⟨trivial, ?_⟩; gi_at_call 47; refine (CallsIn.inRound l (callsIn_wide.2 (hcs.out _))).mono ?_; rintro r w5 ⟨rfl, g5⟩; have z0 := g5.cell hc0; have gr : W.grownBy w5 none := ⟨g5.os, g5.tape, g5.output, g5.size, fun k hk _ => Below.block g5 k hk⟩; have zf := (frozen_kept hc0 gr (fun r e => nomatch e)).trans hfr)
        refine ⟨KeepsOthers.trans ⟨g5.size, fun k o hk _ => g5.block hk⟩ (KeepsOthers.setCell _ _ _), ⟨rfl, by omega, ?_⟩, (hB.trans (Below.mono g5 hB.size)).setCell (p := ⟨w.heap.size + 1, 0, none⟩) (by simp) _⟩
        rw [World.cell?_setCell_same' _ _ _ (by rw [z0]; rfl), hcnt]
        rw [hb]
        rfl
      · have hx3 : ¬ ((4096 : Int) < ((cntL pre + 1 : Nat) : Int)) := by omega
        gi_wp2_with (refine ⟨trivial, ?_⟩; gi_at_call 47; refine (CallsIn.inRound l (callsIn_wide.2 (hcs.out _))).mono ?_; rintro r w5 ⟨rfl, g5⟩; have z0 := g5.cell hc0; have gr : W.grownBy w5 none := ⟨g5.os, g5.tape, g5.output, g5.size, fun k hk _ => Below.block g5 k hk⟩; have zf := (frozen_kept hc0 gr (fun r e => nomatch e)).trans hfr)
        refine ⟨KeepsOthers.trans ⟨g5.size, fun k o hk _ => g5.block hk⟩ (KeepsOthers.setCell _ _ _), (Kp.of_nb hB.size g5).trans (Kp.setCell _ (by simp) (by simp) _), ⟨by omega, ?_, by rw [World.frozen?_setCell]; exact zf⟩, (hB.trans (Below.mono g5 hB.size)).setCell (p := ⟨w.heap.size + 1, 0, none⟩) (by simp) _⟩
        rw [World.cell?_setCell_same' _ _ _ (by rw [z0]; rfl), hcnt]
        simp
  case done =>
    rintro D ys W hD rfl ⟨⟨hle, hcr, hfr⟩, hB⟩ hK
    rw [cntL_flP, hM.out] at hcr hle
    go_wp2_with fail
    refine ⟨by simp, .inl ⟨_, _, rfl, run_takeDeferred hK, ?_⟩⟩
    exact ⟨_, results_tmp rfl _ _ _, by rw [Nat.min_eq_left (by omega)]; rfl, hB.trans (belowK_b (w := w) (Nat.le_refl _) W D _ _ (by omega) hK rfl rfl)⟩
  case stop =>
    rintro D c pre W hD hpre ⟨⟨rfl, hgt, hcr⟩, hB⟩ hK
    have h1 := cntL_prefix hpre
    rw [cntL_flP, hM.out] at h1
    rw [hgt] at hcr
    gi_wp2
    go_wp2_with fail
    refine ⟨by simp, .inl ⟨_, _, rfl, run_takeDeferred hK, ?_⟩⟩
    exact ⟨_, results_tmp rfl _ _ _, by rw [Nat.min_eq_right (by omega)]; rfl, hB.trans (belowK_b (w := w) (Nat.le_refl _) W D _ _ (by omega) hK rfl rfl)⟩
end Go.Proofs.YtjibblpfhnigjaaDoor
