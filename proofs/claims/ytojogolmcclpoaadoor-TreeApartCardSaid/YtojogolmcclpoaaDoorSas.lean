/-
  Proved here: of the code: how many parts a program has. Conditions: the memory holds it. ¦ of the reference: how deep a program is; whether one is light. Conditions: the memory holds it. ¦ of the law: whether a program is light. Conditions: the memory holds it.
-/
import Derived.Test.YtojogolmcclpoaaDoorSar
import Derived.Test.YtojogolmcclpoaaDoorSap
import Derived.Test.YtojogolmcclpoaaDoorSaj
section
namespace Go.Proofs.YtojogolmcclpoaaDoor
open Go.RowKit Go.Shelf
set_option linter.unusedVariables false
set_option linter.unusedSimpArgs false
set_option maxRecDepth 100000
set_option maxHeartbeats 4000000
attribute [local go_sem] Oper.semAt_some
theorem Kp.alloc' {lo hi : Nat} (W : World) (o : Obj) (h : lo ≤ W.heap.size) : Kp lo hi W (W.alloc o) := Kp.of_nb h ((Nb.refl W).alloc o)
theorem size_any (W00 : World) (e : Pg) (he0 : e.Has W00) (w : World) (hw : Nb W00 w) :
    Calls Tryd.prog 11 #[.agg e.cells.toArray] w fun r w' => r = .returned (.int .i64 ((min (szP e) 4097 : Nat) : Int)) ∧ Nb w w' := by
  have he := he0.nb hw
  obtain ⟨M, hM⟩ : ∃ M, szP e = M := ⟨_, rfl⟩
  rw [hM]
  replace hM := Lib.hid hM
  obtain ⟨n, hn⟩ : ∃ n : Nat, n = 5 := ⟨_, rfl⟩
  have h1 : 1 ≤ n := by omega
  refine (callsIn_wide (n := n)).1 ?_
  refine callsIn_of_wp_marks Tryd.func11 rfl trivial ?_ rfl
  simp only [Tryd.ntmps11, List.size_toArray, List.length_cons, List.length_nil, Nat.reduceAdd, Nat.reduceSub, Array.replicate_succ, Array.replicate_zero, List.push_toArray, List.append_toArray, List.nil_append, List.cons_append]
  refine wpIn_wide.2 ?_
  go_upto_region 2 with (fail)
  obtain ⟨W1, hW1⟩ : ∃ W1, (w.alloc (Obj.cells e.cells.toArray 25)).alloc (Obj.cells #[.int .i64 0] 3) = W1 := ⟨_, rfl⟩
  have n1 : Nb w W1 := by rw [← hW1]; exact ((Nb.refl w).alloc _).alloc _
  have b1 : W1.heap[w.heap.size]? = some (.cells e.cells.toArray 25 (0, 0)) := by rw [← hW1]; exact old_blk (new_blk w _ rfl) _
  have d1 : W1.heap[w.heap.size + 1]? = some (.cells #[.int .i64 0] 3 (0, 0)) := by rw [← hW1]; exact new_blk _ _ (by rw [World.size_alloc])
  have s1 : W1.heap.size = w.heap.size + 1 + 1 := by rw [← hW1]; simp
  rw [hW1]
  clear hW1
  go_wp2_with (first
    | (refine wpList_load_row rfl 25 (.tmp 1) rfl w.heap.size rfl 25 e.cells.toArray (0, 0) _ b1 Tryd.underlying25 rfl (show (Tryd.prog.info? 25).map (·.size) = some 4 by kernel_rfl) ?_)
    | (go_at_call 13; refine (parts_any e _).mono ?_; rintro r w2 ⟨rfl, rfl⟩))
  obtain ⟨W2, hW2⟩ : ∃ W2, W1.alloc (Obj.cells e.cells.toArray 25) = W2 := ⟨_, rfl⟩
  have g2 : Nb W1 W2 := by rw [← hW2]; exact alloc_nb _ _
  have p2 : W2.heap[w.heap.size + 1 + 1]? = some (.cells e.cells.toArray 25 (0, 0)) := by rw [← hW2]; exact new_blk _ _ s1
  have s2 : W2.heap.size = w.heap.size + 1 + 1 + 1 := by rw [← hW2, World.size_alloc, s1]
  have n2 := n1.trans g2
  have d2 := g2.block d1
  rw [hW2]
  clear hW2 b1 d1 s1
  have q2 : W2.cell? ⟨w.heap.size + 1, 0, none⟩ = some (.int .i64 0) := cell_of_row _ _ 0 _ _ _ d2
  have f2 : W2.frozen? ⟨w.heap.size + 1, 0, none⟩ = false := frozen_blk d2 0
  have heh := Lib.hid (he.nb n2)
  refine (wpIn_wide (n := n)).1 ?_
  refine range_box rfl h1 (gf := 23) (lb := #[.pointer (some ⟨w.heap.size + 1 + 1, 0, none⟩)]) rfl trivial (enters_of Tryd.func23 (by kernel_rfl) rfl)
    (parts_stops w (w.heap.size + 1 + 1) (n - 1) e he (w.heap.size + 1 + 1) W2 n2 (Nat.le_refl _) p2) (fun h k => Kp.trans h k) (fun W o hl => Kp.alloc' W o (by omega)) (fun W l o o' hl hW ho => Kp.putObj W l o o' (by omega) hW ho) (Below.refl _ _) (fun _ => rfl)
    (fun (pre : List Pt) W => (cntL pre ≤ 4096 ∧ W.cell? ⟨w.heap.size + 1, 0, none⟩ = some (.int .i64 (cntL pre : Nat)) ∧ W.frozen? ⟨w.heap.size + 1, 0, none⟩ = false) ∧ Below w.heap.size w W)
    (fun c (pre : List Pt) W => (c = .exit 0 ∧ cntL pre = 4097 ∧ W.cell? ⟨w.heap.size + 1, 0, none⟩ = some (.int .i64 (cntL pre : Nat))) ∧ Below w.heap.size w W)
    (OwnFrom.and (Own.from (fun s A B row hs hg hr => ⟨hs.1, cell_kept hs.2.1 hg hr, (frozen_kept hs.2.1 hg hr).trans hs.2.2⟩) _) (ownFrom_below (Nat.le_refl _) (by omega)))
    (fun c => OwnFrom.and (Own.from (fun s A B row hs hg hr => ⟨hs.1, hs.2.1, cell_kept hs.2.2 hg hr⟩) _) (ownFrom_below (Nat.le_refl _) (by omega)))
    ⟨⟨Nat.zero_le _, q2, f2⟩, n2⟩
    (fun (x : Pt) (B : Nat) => { tmps := #[.agg e.cells.toArray, .pointer (some ⟨w.heap.size, 0, none⟩), .int .i64 0, .pointer (some ⟨w.heap.size + 1, 0, none⟩), undef, .pointer (some ⟨B, 0, none⟩), .agg e.cells.toArray, .func (.func 23) #[] #[.pointer (some ⟨w.heap.size + 1 + 1, 0, none⟩)], .int .i64 x.1, .agg x.2.cells, undef, undef, undef, undef, undef, undef, undef], defers := [] })
    (fun x => .cells x.2.cells 34) (fun _ => rfl) ?assign ?body ?done ?stop
  case assign =>
    rintro l ⟨lv, h⟩ W K hK
    simp only [Hd.cells] at hK ⊢
    gi_wp2
    exact hK
  case body =>
    rintro l pre ⟨lv, h⟩ W B hBl hob ⟨⟨hle, hc0, hfr⟩, hB⟩ _
    have hcnt := cntL_snoc pre (lv, h)
    have hcs := counts_any h
    simp only [Hd.cells] at hob hcs
    have y0 := cell_of_row _ _ 0 _ _ _ hob
    have y1 := cell_of_row _ _ 1 _ _ _ hob
    have y2 := cell_of_row _ _ 2 _ _ _ hob
    have y3 := cell_of_row _ _ 3 _ _ _ hob
    have y4 := cell_of_row _ _ 4 _ _ _ hob
    have y5 := cell_of_row _ _ 5 _ _ _ hob
    have y6 := cell_of_row _ _ 6 _ _ _ hob
    have y7 := cell_of_row _ _ 7 _ _ _ hob
    have y8 := cell_of_row _ _ 8 _ _ _ hob
    have y9 := cell_of_row _ _ 9 _ _ _ hob
    have y10 := cell_of_row _ _ 10 _ _ _ hob
    have y11 := cell_of_row _ _ 11 _ _ _ hob
    have hwr : IntKind.i64.wrap (((cntL pre : Nat) : Int) + 1) = ((cntL pre + 1 : Nat) : Int) := by rw [IntKind.wrap_i64]; omega
    have hcs := Lib.hid hcs
    cases hh : h.cnt with
    | false =>
      simp only [hh, Bool.false_eq_true, if_false, Nat.add_zero] at hcnt
      rw [hh] at hcs
      have hx3 : ¬ ((4096 : Int) < ((cntL pre : Nat) : Int)) := by omega
      gi_wp2_with (refine ⟨trivial, ?_⟩; gi_at_call 22; refine (CallsIn.inRound l (callsIn_wide.2 (hcs.out _))).mono ?_; rintro r w5 ⟨rfl, g5⟩; have z0 := g5.cell hc0; have gr : W.grownBy w5 none := ⟨g5.os, g5.tape, g5.output, g5.size, fun k hk _ => Below.block g5 k hk⟩; have zf := (frozen_kept hc0 gr (fun r e => nomatch e)).trans hfr)
      exact ⟨⟨g5.size, fun k o hk _ => g5.block hk⟩, Kp.of_nb hB.size g5, ⟨by omega, by rw [hcnt]; exact z0, zf⟩, hB.trans (Below.mono g5 hB.size)⟩
    | true =>
      simp only [hh, if_true] at hcnt
      rw [hh] at hcs
      by_cases hb : cntL pre = 4096
      · have hx3 : (4096 : Int) < ((cntL pre + 1 : Nat) : Int) := by omega
        gi_wp2_with (refine ⟨trivial, ?_⟩; gi_at_call 22; refine (CallsIn.inRound l (callsIn_wide.2 (hcs.out _))).mono ?_; rintro r w5 ⟨rfl, g5⟩; have z0 := g5.cell hc0; have gr : W.grownBy w5 none := ⟨g5.os, g5.tape, g5.output, g5.size, fun k hk _ => Below.block g5 k hk⟩; have zf := (frozen_kept hc0 gr (fun r e => nomatch e)).trans hfr)
        refine ⟨KeepsOthers.trans ⟨g5.size, fun k o hk _ => g5.block hk⟩ (KeepsOthers.setCell _ _ _), ⟨rfl, by omega, ?_⟩, (hB.trans (Below.mono g5 hB.size)).setCell (p := ⟨w.heap.size + 1, 0, none⟩) (by simp) _⟩
        rw [World.cell?_setCell_same' _ _ _ (by rw [z0]; rfl), hcnt]
        rw [hb]
        rfl
      · have hx3 : ¬ ((4096 : Int) < ((cntL pre + 1 : Nat) : Int)) := by omega
        gi_wp2_with (refine ⟨trivial, ?_⟩; gi_at_call 22; refine (CallsIn.inRound l (callsIn_wide.2 (hcs.out _))).mono ?_; rintro r w5 ⟨rfl, g5⟩; have z0 := g5.cell hc0; have gr : W.grownBy w5 none := ⟨g5.os, g5.tape, g5.output, g5.size, fun k hk _ => Below.block g5 k hk⟩; have zf := (frozen_kept hc0 gr (fun r e => nomatch e)).trans hfr)
        refine ⟨KeepsOthers.trans ⟨g5.size, fun k o hk _ => g5.block hk⟩ (KeepsOthers.setCell _ _ _), (Kp.of_nb hB.size g5).trans (Kp.setCell _ (by simp) (by simp) _), ⟨by omega, ?_, by rw [World.frozen?_setCell]; exact zf⟩, (hB.trans (Below.mono g5 hB.size)).setCell (p := ⟨w.heap.size + 1, 0, none⟩) (by simp) _⟩
        rw [World.cell?_setCell_same' _ _ _ (by rw [z0]; rfl), hcnt]
        simp
  case done =>
    rintro D ys W hD rfl ⟨⟨hle, hcr, hfr⟩, hB⟩ hK
    rw [cntL_flP, hM.out] at hcr hle
    go_wp2_with fail
    refine ⟨by simp, .inl ⟨_, _, rfl, run_takeDeferred hK, ?_⟩⟩
    exact ⟨_, results_tmp rfl _ _ _, by rw [Nat.min_eq_left (by omega)]; rfl, hB.trans (belowK_b (w := w) (Nat.le_refl _) W D _ _ (by omega) hK rfl rfl)⟩
  case stop =>
    rintro D c pre W hD hpre ⟨⟨rfl, hgt, hcr⟩, hB⟩ hK
    have h1 := cntL_prefix hpre
    rw [cntL_flP, hM.out] at h1
    rw [hgt] at hcr
    gi_wp2
    go_wp2_with fail
    refine ⟨by simp, .inl ⟨_, _, rfl, run_takeDeferred hK, ?_⟩⟩
    exact ⟨_, results_tmp rfl _ _ _, by rw [Nat.min_eq_right (by omega)]; rfl, hB.trans (belowK_b (w := w) (Nat.le_refl _) W D _ _ (by omega) hK rfl rfl)⟩
end Go.Proofs.YtojogolmcclpoaaDoor
end
section
namespace Go.Proofs.YtojogolmcclpoaaDoor
open Go.RowKit
set_option linter.unusedVariables false
set_option linter.unusedSimpArgs false
set_option maxRecDepth 100000
set_option maxHeartbeats 4000000
theorem rdepth_any (W0 : World) (e : Pg) (he : e.Has W0) (w : World) (hw : Nb W0 w) :
    Calls Tryd.prog 10 #[.agg e.cells.toArray] w fun r w' => r = .returned (.int .i64 ((dpP e : Nat) : Int)) ∧ Nb w w' := by
  obtain ⟨S0, hS0⟩ : ∃ S, dpEs 65 e.args = S := ⟨_, rfl⟩
  obtain ⟨L1, hL1⟩ : ∃ L, (e.defs.map fun d => dpB 65 d.body) = L := ⟨_, rfl⟩
  have hsz : dpP e = max S0 (maxL L1) := by rw [← hS0, ← hL1]; rfl
  obtain ⟨T, hT⟩ : ∃ T, dpP e = T := ⟨_, rfl⟩
  rw [hT]
  rw [hsz] at hT
  clear hsz
  have hT := Lib.hid hT
  have hL1 := Lib.hid hL1
  have hS0k : S0 ≤ 65 := by rw [← hS0]; exact dpEs_le 65 e.args
  go_enter Tryd.func10, Tryd.ntmps10
  go_upto_region 1 with (fail)
  obtain ⟨W1, hW⟩ : ∃ W1, w.alloc (Obj.cells e.cells.toArray 25) = W1 := ⟨_, rfl⟩
  have n1 : Nb w W1 := by rw [← hW]; exact (Nb.refl w).alloc _
  have b1 : W1.heap[w.heap.size]? = some (.cells e.cells.toArray 25 (0, 0)) := by rw [← hW]; exact new_blk w _ rfl
  rw [hW]
  clear hW
  have q3 : W1.cell? ⟨w.heap.size, 3, none⟩ = some e.av := cell_of_row _ _ 3 _ _ _ b1
  have hargs := Lib.hid (dexprs_any W0 65 (by omega) e.av e.args he.args W1 (hw.trans n1))
  rw [hS0] at hargs
  clear hS0
  go_upto_region 2 with (go_at_call 20; refine (hargs.out).mono ?_; rintro r w3 ⟨rfl, g3⟩)
  obtain ⟨A1, cap1, hav1, hcap1, hlen1, hz1⟩ := he.drow.head
  have hX1 := Lib.hid (show RowS W0 12 (.slice A1 (e.defs.map Df.cells).length cap1) (e.defs.map Df.cells) by rw [← hav1]; exact he.drow)
  have hK1 := Lib.hid he.body
  rw [List.length_map] at hav1 hcap1 hlen1 hX1
  obtain ⟨M1, hM1⟩ : ∃ N, e.defs.length = N := ⟨_, rfl⟩
  have hMh1 := Lib.hid hM1
  rw [hM1] at hav1 hcap1 hlen1 hX1
  have hav1 := Lib.hid hav1
  have b3 := g3.block b1
  have n3 := n1.trans g3
  have hT1 := Lib.hid (show max S0 (maxL (L1.drop 0)) = T by rw [List.drop_zero]; exact hT.out)
  clear hM1 b1 q3 hargs g3 n1
  go_wp2_with fail
  go_loopw [3, 4] (fun sd si wr => ∃ i d : Nat, i ≤ M1 ∧ d ≤ 65 ∧ sd = .int .i64 d ∧ si = .int .i64 i ∧ Hid (max d (maxL (L1.drop i)) = T) ∧ Nb w3 wr) (fun _ si _ => M1 - (intOf si).toNat)
  case atStart => exact ⟨0, S0, Nat.zero_le _, hS0k, rfl, rfl, hT1, Nb.refl _⟩
  case round =>
    obtain ⟨i, d, hi, hd, rfl, rfl, hR, hg3⟩ := hrel
    have b4 := hg3.block b3
    have q4 : wr.cell? ⟨w.heap.size, 0, none⟩ = some (.slice A1 M1 cap1) := (cell_of_row _ _ 0 _ _ _ b4).trans (congrArg some hav1.out)
    by_cases hlt2 : i < M1
    · have hlt3 : (i : Int) < (M1 : Int) := by omega
      obtain ⟨x, hx⟩ : ∃ x, e.defs[i]? = some x := ⟨_, List.getElem?_eq_getElem (by rw [hMh1.out]; exact hlt2)⟩
      obtain ⟨b, o, rfl, hxc⟩ := hX1.out.at_ (i := i) (r := x.cells) (by rw [List.getElem?_map, hx]; rfl)
      have hnb : Nb W0 wr := hw.trans (n3.trans hg3)
      have hxs : maxL (L1.drop i) = max (dpB 65 x.body) (maxL (L1.drop (i + 1))) := max_drop (by rw [← hL1.out, List.getElem?_map, hx]; rfl)
      have hbody := Lib.hid (dbody_any W0 65 (by omega) x.body (hK1.out x (List.mem_of_getElem? hx)) wr hnb)
      have hle2 := dpB_le 65 x.body
      have hR2 := Lib.hid (show max (max d (dpB 65 x.body)) (maxL (L1.drop (i + 1))) = T by rw [← hR.out, hxs]; omega)
      have y3 := hnb.cell (hxc 3 _ rfl)
      have y4 := hnb.cell (hxc 4 _ rfl)
      have y5 := hnb.cell (hxc 5 _ rfl)
      have y6 := hnb.cell (hxc 6 _ rfl)
      have y7 := hnb.cell (hxc 7 _ rfl)
      have y8 := hnb.cell (hxc 8 _ rfl)
      have y9 := hnb.cell (hxc 9 _ rfl)
      have y10 := hnb.cell (hxc 10 _ rfl)
      have y11 := hnb.cell (hxc 11 _ rfl)
      generalize dpB 65 x.body = D at hbody hle2 hR2
      clear hx hxc hR hxs
      go_wp2_with (go_at_call 21; refine (hbody.out).mono ?_; rintro r w5 ⟨rfl, g5⟩)
      exact ⟨⟨i + 1, max d D, by omega, by omega, by first | rfl | (congr 1; split <;> omega), by simp, hR2, hg3.trans g5⟩, by simp [intOf] <;> omega⟩
    · obtain rfl : i = M1 := by omega
      have hT2 : d = T := by
        have := hR.out
        rw [List.drop_eq_nil_of_le (by rw [← hL1.out, List.length_map, hMh1.out]; exact Nat.le_refl _)] at this
        rw [← this]
        show d = max d 0
        omega
      subst hT2
      clear hR
      go_wp2_with fail
      go_ret
      exact ⟨rfl, n3.trans hg3⟩
end Go.Proofs.YtojogolmcclpoaaDoor
end
section
namespace Go.Proofs.YtojogolmcclpoaaDoor
open Go.RowKit
set_option linter.unusedVariables false
set_option linter.unusedSimpArgs false
set_option maxRecDepth 100000
set_option maxHeartbeats 4000000
/-- Whether a program is light: at most 70 actors, 800 parts, 40 levels. -/
def Pg.light (e : Pg) : Bool := decide (e.defs.length ≤ 70) && decide (min (szP e) 4097 ≤ 800) && decide (dpP e ≤ 40)
theorem light_any (W0 : World) (e : Pg) (he : e.Has W0) (w : World) (hw : Nb W0 w) :
    Calls Tryd.prog 4 #[.agg e.cells.toArray] w fun r w' => r = .returned (.bool e.light) ∧ Nb w w' := by
  obtain ⟨A1, cap1, hav1, hcap1, hlen1, hz1⟩ := he.drow.head
  rw [List.length_map] at hav1 hcap1 hlen1
  have hB : e.light = (decide (e.defs.length ≤ 70) && decide (min (szP e) 4097 ≤ 800) && decide (dpP e ≤ 40)) := rfl
  obtain ⟨B, hBB⟩ : ∃ B, e.light = B := ⟨_, rfl⟩
  rw [hBB] at hB ⊢
  clear hBB
  have hB := Lib.hid hB
  have hav1 := Lib.hid hav1
  go_enter Tryd.func4, Tryd.ntmps4
  go_upto_region 1 with (fail)
  obtain ⟨W1, hW⟩ : ∃ W1, w.alloc (Obj.cells e.cells.toArray 25) = W1 := ⟨_, rfl⟩
  have n1 : Nb w W1 := by rw [← hW]; exact (Nb.refl w).alloc _
  have b1 : W1.heap[w.heap.size]? = some (.cells e.cells.toArray 25 (0, 0)) := by rw [← hW]; exact new_blk w _ rfl
  rw [hW]
  clear hW
  have q0 : W1.cell? ⟨w.heap.size, 0, none⟩ = some (.slice A1 e.defs.length cap1) := (cell_of_row _ _ 0 _ _ _ b1).trans (congrArg some hav1.out)
  have q1 : W1.cell? ⟨w.heap.size, 1, none⟩ = some (.int .i64 e.at_) := cell_of_row _ _ 1 _ _ _ b1
  have q2 : W1.cell? ⟨w.heap.size, 2, none⟩ = some (sV e.main) := cell_of_row _ _ 2 _ _ _ b1
  have q3 : W1.cell? ⟨w.heap.size, 3, none⟩ = some e.av := cell_of_row _ _ 3 _ _ _ b1
  have hcl : e.cells = [.slice A1 e.defs.length cap1, .int .i64 e.at_, sV e.main, e.av] := by rw [← hav1.out]; rfl
  have hsize := rsize_any W0 e he W1 (hw.trans n1)
  have hdep := fun W2 (h2 : Nb W1 W2) => rdepth_any W0 e he W2 (hw.trans (n1.trans h2))
  rw [hcl] at hsize
  simp only [hcl] at hdep
  have hsize := Lib.hid hsize
  have hdep := Lib.hid hdep
  rw [hcl]
  clear hcl
  obtain ⟨S, hS⟩ : ∃ S, min (szP e) 4097 = S := ⟨_, rfl⟩
  obtain ⟨D, hD⟩ : ∃ D, dpP e = D := ⟨_, rfl⟩
  rw [hS] at hsize hB
  rw [hD] at hdep hB
  clear hS hD
  by_cases h70 : e.defs.length ≤ 70
  · have g70 : decide ((e.defs.length : Int) ≤ 70) = true := by simp; omega
    by_cases h800 : S ≤ 800
    · have g800 : decide ((S : Int) ≤ 800) = true := by simp; omega
      by_cases h40 : D ≤ 40
      · have g40 : decide ((D : Int) ≤ 40) = true := by simp; omega
        go_wp2_with (first
          | (go_at_call 9; refine (hsize.out).mono ?_; clear hsize; rintro r w3 ⟨rfl, g3⟩; have c0 := g3.cell q0; have c1 := g3.cell q1; have c2 := g3.cell q2; have c3 := g3.cell q3)
          | (go_at_call 10; refine (hdep.out _ g3).mono ?_; rintro r w4 ⟨rfl, g4⟩))
        go_ret
        exact ⟨by rw [hB.out]; simp [h70, h800, h40], n1.trans (g3.trans g4)⟩
      · have g40 : decide ((D : Int) ≤ 40) = false := by simp; omega
        go_wp2_with (first
          | (go_at_call 9; refine (hsize.out).mono ?_; clear hsize; rintro r w3 ⟨rfl, g3⟩; have c0 := g3.cell q0; have c1 := g3.cell q1; have c2 := g3.cell q2; have c3 := g3.cell q3)
          | (go_at_call 10; refine (hdep.out _ g3).mono ?_; rintro r w4 ⟨rfl, g4⟩))
        go_ret
        exact ⟨by rw [hB.out]; simp [h70, h800, h40], n1.trans (g3.trans g4)⟩
    · have g800 : decide ((S : Int) ≤ 800) = false := by simp; omega
      go_wp2_with (go_at_call 9; refine (hsize.out).mono ?_; clear hsize; rintro r w3 ⟨rfl, g3⟩)
      go_ret
      exact ⟨by rw [hB.out]; simp [h70, h800], n1.trans g3⟩
  · have g70 : decide ((e.defs.length : Int) ≤ 70) = false := by simp; omega
    go_wp2_with (fail)
    go_ret
    exact ⟨by rw [hB.out]; simp [h70], n1⟩
end Go.Proofs.YtojogolmcclpoaaDoor
end
