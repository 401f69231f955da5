/-
  Proved here: of the reference: whether a program may be. Conditions: the memory holds it; its size and depth.
-/
import Derived.Test.YtebcjocpmnapeaaGreatDoorSbr
import Derived.Test.YtebcjocpmnapeaaGreatDoorSar
import Derived.Test.YtebcjocpmnapeaaGreatDoorSai
namespace Go.Proofs.YtebcjocpmnapeaaGreatDoor
open Go.RowKit
set_option linter.unusedVariables false
set_option linter.unusedSimpArgs false
set_option maxRecDepth 100000
set_option maxHeartbeats 4000000
theorem gP_rf (p : Pg) : gP p = (((decide ((1 : Int) ≤ (p.defs.length : Int)) && decide ((p.defs.length : Int) ≤ 64)) && (nameS p.main && lenS p.args 0 8)) && p.defs.all gD) := by
  unfold gP inI lenS
  rw [gEs_all]
  have h0 : decide ((0 : Int) ≤ (p.args.length : Int)) = true := decide_eq_true (Int.natCast_nonneg _)
  rw [h0]
  simp only [Bool.true_and, Bool.and_assoc, Bool.and_comm, Bool.and_left_comm]
theorem rgoodP_any (W0 : World) (e : Pg) (he : e.Has W0) (hs : szP e ≤ 4096) (hd : dpP e ≤ 64) (w : World) (hw : Nb W0 w) : Calls Tryz.prog 7 #[.agg e.cells.toArray] w fun r w' => r = .returned (.bool (gP e)) ∧ Nb w w' := by
  have hsz := fun w h => rsize_any W0 e he w h
  rw [show min (szP e) 4097 = szP e by omega] at hsz
  have hdp := fun w h => rdepth_any W0 e he w h
  have hat := Lib.hid (ratom_any e.main he.mn)
  have hes := fun w (h : Nb W0 w) => rgoodEs_any W0 e.args e.av he.args 0 8 w h
  have hX := he.drow
  obtain ⟨A0, cp0, hv0, hcap, hlenr, -⟩ := hX.head
  obtain ⟨A1, cp1, hv1, hcap1, hlenr1, -⟩ := he.args.row.head
  rw [List.length_map] at hv0 hcap hlenr hv1
  have hc : e.cells = [.slice A0 e.defs.length cp0, .int .i64 e.at_, sV e.main, .slice A1 e.args.length cp1] := by
    rw [← hv0, ← hv1]; rfl
  rw [hv0] at hX
  rw [hv1] at hes
  rw [hc] at hsz hdp ⊢
  have hg := gP_rf e
  obtain ⟨G, hG⟩ : ∃ G, gP e = G := ⟨_, rfl⟩
  rw [hG] at hg ⊢
  have hatd := Lib.hid (fun d (hd : d ∈ e.defs) => ratom_any d.name (he.dnm d hd).1)
  have hatp := Lib.hid (fun d (hd : d ∈ e.defs) s (hs : s ∈ d.params) => ratom_any s ((he.dnm d hd).2 s hs))
  have hbd := Lib.hid (fun d (hd : d ∈ e.defs) => rgoodB_any W0 d.body (he.body d hd))
  have hbh := Lib.hid he.body
  have hpr := Lib.hid he.prow
  clear hG hc hv0 hv1 he
  replace hes : ∀ w, Nb W0 w → Calls Tryz.prog 17 #[.slice A1 e.args.length cp1, .int .i64 0, .int .i64 8] w fun r w' => r = .returned (.bool (lenS e.args 0 8)) ∧ Nb w w' := hes
  obtain ⟨L, hL⟩ : ∃ L, lenS e.args 0 8 = L := ⟨_, rfl⟩
  rw [hL] at hg hes
  obtain ⟨Q, hQ⟩ : ∃ Q, nameS e.main = Q := ⟨_, rfl⟩
  rw [hQ] at hg hat
  obtain ⟨S, hS⟩ : ∃ S, szP e = S := ⟨_, rfl⟩
  rw [hS] at hs hsz
  obtain ⟨D, hD⟩ : ∃ D, dpP e = D := ⟨_, rfl⟩
  rw [hD] at hd hdp
  clear hL hQ hS hD
  obtain ⟨l, hl⟩ : ∃ l, e.defs = l := ⟨_, rfl⟩
  rw [hl] at hg hX hatd hatp hbd hbh hpr hcap hlenr hsz hdp ⊢
  clear hl
  obtain ⟨M, hM⟩ : ∃ M, l.length = M := ⟨_, rfl⟩
  have hMh := Lib.hid hM
  rw [hM] at hg hX hcap hlenr hsz hdp ⊢
  clear hM
  replace hX := Lib.hid hX
  replace hsz := Lib.hid hsz
  replace hdp := Lib.hid hdp
  replace hes := Lib.hid hes
  replace hg := Lib.hid hg
  go_enter Tryz.func7, Tryz.ntmps7
  go_upto_region 1 with (fail)
  obtain ⟨W1, hW1⟩ : ∃ W1, w.alloc (.cells #[.slice A0 M cp0, .int .i64 e.at_, sV e.main, .slice A1 e.args.length cp1] 25) = W1 := ⟨_, rfl⟩
  have b1 : W1.heap[w.heap.size]? = some (.cells #[.slice A0 M cp0, .int .i64 e.at_, sV e.main, .slice A1 e.args.length cp1] 25 (0, 0)) := by rw [← hW1]; exact new_blk _ _ rfl
  have n1 : Nb w W1 := by rw [← hW1]; exact alloc_nb _ _
  rw [hW1]
  clear hW1
  obtain ⟨B, hB⟩ : ∃ B, w.heap.size = B := ⟨_, rfl⟩
  rw [hB] at b1 ⊢
  clear hB
  have hn : Nb W1 W1 := Nb.refl W1
  have hnW : Nb w W1 := n1
  have hnb : Nb W0 W1 := hw.trans n1
  have y0 := cell_of_row _ _ 0 _ _ _ b1
  have y1 := cell_of_row _ _ 1 _ _ _ b1
  have y2 := cell_of_row _ _ 2 _ _ _ b1
  have y3 := cell_of_row _ _ 3 _ _ _ b1
  have hS1 : ¬ (4096 : Int) < (S : Int) := by omega
  have hD1 : ¬ (64 : Int) < (D : Int) := by omega
  by_cases hlo : (M : Int) < 1
  · have hgf : G = false := by rw [hg.out, decide_eq_false (show ¬ (1 : Int) ≤ (M : Int) by omega)]; rfl
    go_wp2_with fail
    go_ret
    exact ⟨by first | (rw [hgf]; rfl) | rfl, hnW⟩
  by_cases hhi : (64 : Int) < (M : Int)
  · have hgf : G = false := by rw [hg.out, decide_eq_false (show ¬ (M : Int) ≤ 64 by omega)]; simp
    go_wp2_with fail
    go_ret
    exact ⟨by first | (rw [hgf]; rfl) | rfl, hnW⟩
  replace hg : Hid (G = ((Q && L) && l.all gD)) := Lib.hid (by rw [hg.out, decide_eq_true (show (1 : Int) ≤ (M : Int) by omega), decide_eq_true (show (M : Int) ≤ 64 by omega)]; rfl)
  cases Q with
  | false =>
    have hgf : G = false := by rw [hg.out]; rfl
    go_wp2_with (first
      | (go_at_call 10; refine (hsz.out _ hnb).mono ?_; rintro r w6 ⟨rfl, g6⟩; replace hn := hn.trans g6; replace hnb := hnb.trans g6; replace hnW := hnW.trans g6; replace y0 := g6.cell y0; replace y1 := g6.cell y1; replace y2 := g6.cell y2; replace y3 := g6.cell y3; clear g6)
      | (go_at_call 11; refine (hdp.out _ hnb).mono ?_; rintro r w6 ⟨rfl, g6⟩; replace hn := hn.trans g6; replace hnb := hnb.trans g6; replace hnW := hnW.trans g6; replace y0 := g6.cell y0; replace y1 := g6.cell y1; replace y2 := g6.cell y2; replace y3 := g6.cell y3; clear g6)
      | (go_at_call 16; refine (hat.out _).mono ?_; rintro r w6 ⟨rfl, g6⟩; replace hn := hn.trans g6; replace hnb := hnb.trans g6; replace hnW := hnW.trans g6; replace y0 := g6.cell y0; replace y1 := g6.cell y1; replace y2 := g6.cell y2; replace y3 := g6.cell y3; clear g6)
      | (go_at_call 17; refine (hes.out _ hnb).mono ?_; rintro r w6 ⟨rfl, g6⟩; replace hn := hn.trans g6; replace hnb := hnb.trans g6; replace hnW := hnW.trans g6; replace y0 := g6.cell y0; replace y1 := g6.cell y1; replace y2 := g6.cell y2; replace y3 := g6.cell y3; clear g6))
    go_ret
    exact ⟨by first | (rw [hgf]; rfl) | rfl, hnW⟩
  | true =>
  cases L with
  | false =>
    have hgf : G = false := by rw [hg.out]; rfl
    go_wp2_with (first
      | (go_at_call 10; refine (hsz.out _ hnb).mono ?_; rintro r w6 ⟨rfl, g6⟩; replace hn := hn.trans g6; replace hnb := hnb.trans g6; replace hnW := hnW.trans g6; replace y0 := g6.cell y0; replace y1 := g6.cell y1; replace y2 := g6.cell y2; replace y3 := g6.cell y3; clear g6)
      | (go_at_call 11; refine (hdp.out _ hnb).mono ?_; rintro r w6 ⟨rfl, g6⟩; replace hn := hn.trans g6; replace hnb := hnb.trans g6; replace hnW := hnW.trans g6; replace y0 := g6.cell y0; replace y1 := g6.cell y1; replace y2 := g6.cell y2; replace y3 := g6.cell y3; clear g6)
      | (go_at_call 16; refine (hat.out _).mono ?_; rintro r w6 ⟨rfl, g6⟩; replace hn := hn.trans g6; replace hnb := hnb.trans g6; replace hnW := hnW.trans g6; replace y0 := g6.cell y0; replace y1 := g6.cell y1; replace y2 := g6.cell y2; replace y3 := g6.cell y3; clear g6)
      | (go_at_call 17; refine (hes.out _ hnb).mono ?_; rintro r w6 ⟨rfl, g6⟩; replace hn := hn.trans g6; replace hnb := hnb.trans g6; replace hnW := hnW.trans g6; replace y0 := g6.cell y0; replace y1 := g6.cell y1; replace y2 := g6.cell y2; replace y3 := g6.cell y3; clear g6))
    go_ret
    exact ⟨by first | (rw [hgf]; rfl) | rfl, hnW⟩
  | true =>
  replace hg : Hid (G = l.all gD) := Lib.hid (by rw [hg.out]; rfl)
  go_wp2_with (first
      | (go_at_call 10; refine (hsz.out _ hnb).mono ?_; rintro r w6 ⟨rfl, g6⟩; replace hn := hn.trans g6; replace hnb := hnb.trans g6; replace hnW := hnW.trans g6; replace y0 := g6.cell y0; replace y1 := g6.cell y1; replace y2 := g6.cell y2; replace y3 := g6.cell y3; clear g6)
      | (go_at_call 11; refine (hdp.out _ hnb).mono ?_; rintro r w6 ⟨rfl, g6⟩; replace hn := hn.trans g6; replace hnb := hnb.trans g6; replace hnW := hnW.trans g6; replace y0 := g6.cell y0; replace y1 := g6.cell y1; replace y2 := g6.cell y2; replace y3 := g6.cell y3; clear g6)
      | (go_at_call 16; refine (hat.out _).mono ?_; rintro r w6 ⟨rfl, g6⟩; replace hn := hn.trans g6; replace hnb := hnb.trans g6; replace hnW := hnW.trans g6; replace y0 := g6.cell y0; replace y1 := g6.cell y1; replace y2 := g6.cell y2; replace y3 := g6.cell y3; clear g6)
      | (go_at_call 17; refine (hes.out _ hnb).mono ?_; rintro r w6 ⟨rfl, g6⟩; replace hn := hn.trans g6; replace hnb := hnb.trans g6; replace hnW := hnW.trans g6; replace y0 := g6.cell y0; replace y1 := g6.cell y1; replace y2 := g6.cell y2; replace y3 := g6.cell y3; clear g6))
  clear y0 y1 y2 y3 hnb hnW
  go_loopw [3, 4, 5] (fun si sb sj wr => ∃ i : Nat, i ≤ M ∧ si = .int .i64 i ∧ (l.take i).all gD = true ∧ Nb W1 wr) (fun si _ _ _ => M - (intOf si).toNat)
  case atStart => exact ⟨0, Nat.zero_le _, rfl, by simp, hn⟩
  case round =>
    clear hn
    obtain ⟨i, hi2, rfl, hall, hn⟩ := hrel
    have b2 := hn.block b1
    have y0 := cell_of_row _ _ 0 _ _ _ b2
    have y1 := cell_of_row _ _ 1 _ _ _ b2
    have y2 := cell_of_row _ _ 2 _ _ _ b2
    have y3 := cell_of_row _ _ 3 _ _ _ b2
    have hnb : Nb W0 wr := hw.trans (n1.trans hn)
    by_cases hlt2 : i < M
    · have hlt3 : (i : Int) < (M : Int) := by omega
      obtain ⟨x, hx⟩ : ∃ x, l[i]? = some x := ⟨_, List.getElem?_eq_getElem (by rw [hMh.out]; exact hlt2)⟩
      obtain ⟨b, o, hbo, hxc⟩ := RowS.at_ hX.out (i := i) (r := x.cells) (by rw [List.getElem?_map, hx]; rfl)
      obtain rfl := hbo
      have x0 := hnb.cell (hxc 0 _ rfl)
      have x1 := hnb.cell (hxc 1 _ rfl)
      have x2 := hnb.cell (hxc 2 _ rfl)
      have x3 := hnb.cell (hxc 3 _ rfl)
      have x4 := hnb.cell (hxc 4 _ rfl)
      have x5 := hnb.cell (hxc 5 _ rfl)
      have x6 := hnb.cell (hxc 6 _ rfl)
      have x7 := hnb.cell (hxc 7 _ rfl)
      have x8 := hnb.cell (hxc 8 _ rfl)
      have x9 := hnb.cell (hxc 9 _ rfl)
      have x10 := hnb.cell (hxc 10 _ rfl)
      have x11 := hnb.cell (hxc 11 _ rfl)
      rw [Nat.add_zero] at x0
      have hmem := List.mem_of_getElem? hx
      have htk : (l.take (i + 1)).all gD = gD x := by rw [List.take_add_one, hx, List.all_append, hall]; simp
      have hfl : gD x = false → G = false := fun h => by
        rw [hg.out, ← Bool.not_eq_true, List.all_eq_true]
        intro h2
        rw [h2 x hmem] at h
        cases h
      have hgd : gD x = ((nameS x.name && decide ((x.params.length : Int) ≤ 8)) && (x.params.all nameS && gB x.body)) := rfl
      have hka := hatd.out x hmem
      have hkb := hbd.out x hmem
      have hkp := Lib.hid (hatp.out x hmem)
      have hPr := hpr.out x hmem
      obtain ⟨Ap, cpp, hpv, hcapp, hlenp, -⟩ := hPr.head
      obtain ⟨S0, sc0, hs0, -, -, -⟩ := (hbh.out x hmem).srow.1.head
      obtain ⟨S1, sc1, hs1, -, -, -⟩ := (hbh.out x hmem).exs.row.head
      obtain ⟨S2, sc2, hs2, -, -, -⟩ := (hbh.out x hmem).prow.1.head
      obtain ⟨S3, sc3, hs3, -, -, -⟩ := (hbh.out x hmem).mrow.1.head
      rw [List.length_map] at hs0 hs1 hs2 hs3 hpv hcapp hlenp
      rw [hpv] at x2 hPr
      rw [hs0] at x3
      rw [hs1] at x7
      rw [hs2] at x8
      rw [hs3] at x9
      rw [show x.body.cells = [x.body.sv, .int .i64 x.body.kind, .int .i64 x.body.at_, sV x.body.actor, x.body.av, x.body.pv, x.body.mv, .bool x.body.late, .int .i64 x.body.after] from rfl, hs0, hs1, hs2, hs3] at hkb
      obtain ⟨pl, hpl⟩ : ∃ pl, x.params = pl := ⟨_, rfl⟩
      rw [hpl] at hgd hkp hPr x2 hcapp hlenp
      obtain ⟨N, hN⟩ : ∃ N, pl.length = N := ⟨_, rfl⟩
      have hNh := Lib.hid hN
      rw [hN] at hgd hPr x2 hcapp hlenp
      replace hPr := Lib.hid hPr
      clear hx hxc hpl hN hpv hs0 hs1 hs2 hs3
      obtain ⟨Q, hQ⟩ : ∃ Q, nameS x.name = Q := ⟨_, rfl⟩
      rw [hQ] at hgd hka
      obtain ⟨R, hR⟩ : ∃ R, gB x.body = R := ⟨_, rfl⟩
      rw [hR] at hgd hkb
      clear hQ hR
      replace hka := Lib.hid hka
      replace hkb := Lib.hid hkb
      replace hfl := Lib.hid hfl
      replace hgd := Lib.hid hgd
      replace htk := Lib.hid htk
      go_upto_region 7 with (fail)
      obtain ⟨W2, hW2⟩ : ∃ W2, wr.alloc (.cells #[.int .i64 x.at_, sV x.name, .slice Ap N cpp, .slice S0 x.body.stmts.length sc0, .int .i64 x.body.kind, .int .i64 x.body.at_, sV x.body.actor, .slice S1 x.body.args.length sc1, .slice S2 x.body.parts.length sc2, .slice S3 x.body.arms.length sc3, .bool x.body.late, .int .i64 x.body.after] 41) = W2 := ⟨_, rfl⟩
      have c1 : W2.heap[wr.heap.size]? = some (.cells #[.int .i64 x.at_, sV x.name, .slice Ap N cpp, .slice S0 x.body.stmts.length sc0, .int .i64 x.body.kind, .int .i64 x.body.at_, sV x.body.actor, .slice S1 x.body.args.length sc1, .slice S2 x.body.parts.length sc2, .slice S3 x.body.arms.length sc3, .bool x.body.late, .int .i64 x.body.after] 41 (0, 0)) := by rw [← hW2]; exact new_blk _ _ rfl
      have n2 : Nb wr W2 := by rw [← hW2]; exact alloc_nb _ _
      rw [hW2]
      clear hW2 b2
      obtain ⟨B2, hB2⟩ : ∃ B2, wr.heap.size = B2 := ⟨_, rfl⟩
      rw [hB2] at c1 ⊢
      clear hB2 x0 x1 x2 x3 x4 x5 x6 x7 x8 x9 x10 x11 y0 y1 y2 y3
      have z0 := cell_of_row _ _ 0 _ _ _ c1
      have z1 := cell_of_row _ _ 1 _ _ _ c1
      have z2 := cell_of_row _ _ 2 _ _ _ c1
      have z3 := cell_of_row _ _ 3 _ _ _ c1
      have z4 := cell_of_row _ _ 4 _ _ _ c1
      have z5 := cell_of_row _ _ 5 _ _ _ c1
      have z6 := cell_of_row _ _ 6 _ _ _ c1
      have z7 := cell_of_row _ _ 7 _ _ _ c1
      have z8 := cell_of_row _ _ 8 _ _ _ c1
      have z9 := cell_of_row _ _ 9 _ _ _ c1
      have z10 := cell_of_row _ _ 10 _ _ _ c1
      have z11 := cell_of_row _ _ 11 _ _ _ c1
      have hn3 : Nb W2 W2 := Nb.refl W2
      have hnb3 : Nb W0 W2 := hnb.trans n2
      cases Q with
      | false =>
        have hgf := hfl.out (by rw [hgd.out]; rfl)
        go_wp2_with (first
          | (go_at_call 16; refine (hka.out _).mono ?_; rintro r w6 ⟨rfl, g6⟩; replace hn3 := hn3.trans g6; replace hnb3 := hnb3.trans g6; replace z0 := g6.cell z0; replace z1 := g6.cell z1; replace z2 := g6.cell z2; replace z3 := g6.cell z3; replace z4 := g6.cell z4; replace z5 := g6.cell z5; replace z6 := g6.cell z6; replace z7 := g6.cell z7; replace z8 := g6.cell z8; replace z9 := g6.cell z9; replace z10 := g6.cell z10; replace z11 := g6.cell z11; clear g6)
          | (go_at_call 18; refine (hkb.out _ hnb3).mono ?_; rintro r w6 ⟨rfl, g6⟩; replace hn3 := hn3.trans g6; replace hnb3 := hnb3.trans g6; replace z0 := g6.cell z0; replace z1 := g6.cell z1; replace z2 := g6.cell z2; replace z3 := g6.cell z3; replace z4 := g6.cell z4; replace z5 := g6.cell z5; replace z6 := g6.cell z6; replace z7 := g6.cell z7; replace z8 := g6.cell z8; replace z9 := g6.cell z9; replace z10 := g6.cell z10; replace z11 := g6.cell z11; clear g6))
        go_ret
        exact ⟨by first | (rw [hgf]; rfl) | rfl, n1.trans (hn.trans (n2.trans hn3))⟩
      | true =>
      by_cases hp8 : (8 : Int) < (N : Int)
      · have hgf := hfl.out (by rw [hgd.out, decide_eq_false (show ¬ (N : Int) ≤ 8 by omega)]; rfl)
        go_wp2_with (first
          | (go_at_call 16; refine (hka.out _).mono ?_; rintro r w6 ⟨rfl, g6⟩; replace hn3 := hn3.trans g6; replace hnb3 := hnb3.trans g6; replace z0 := g6.cell z0; replace z1 := g6.cell z1; replace z2 := g6.cell z2; replace z3 := g6.cell z3; replace z4 := g6.cell z4; replace z5 := g6.cell z5; replace z6 := g6.cell z6; replace z7 := g6.cell z7; replace z8 := g6.cell z8; replace z9 := g6.cell z9; replace z10 := g6.cell z10; replace z11 := g6.cell z11; clear g6)
          | (go_at_call 18; refine (hkb.out _ hnb3).mono ?_; rintro r w6 ⟨rfl, g6⟩; replace hn3 := hn3.trans g6; replace hnb3 := hnb3.trans g6; replace z0 := g6.cell z0; replace z1 := g6.cell z1; replace z2 := g6.cell z2; replace z3 := g6.cell z3; replace z4 := g6.cell z4; replace z5 := g6.cell z5; replace z6 := g6.cell z6; replace z7 := g6.cell z7; replace z8 := g6.cell z8; replace z9 := g6.cell z9; replace z10 := g6.cell z10; replace z11 := g6.cell z11; clear g6))
        go_ret
        exact ⟨by first | (rw [hgf]; rfl) | rfl, n1.trans (hn.trans (n2.trans hn3))⟩
      cases R with
      | false =>
        have hgf := hfl.out (by rw [hgd.out]; simp)
        go_wp2_with (first
          | (go_at_call 16; refine (hka.out _).mono ?_; rintro r w6 ⟨rfl, g6⟩; replace hn3 := hn3.trans g6; replace hnb3 := hnb3.trans g6; replace z0 := g6.cell z0; replace z1 := g6.cell z1; replace z2 := g6.cell z2; replace z3 := g6.cell z3; replace z4 := g6.cell z4; replace z5 := g6.cell z5; replace z6 := g6.cell z6; replace z7 := g6.cell z7; replace z8 := g6.cell z8; replace z9 := g6.cell z9; replace z10 := g6.cell z10; replace z11 := g6.cell z11; clear g6)
          | (go_at_call 18; refine (hkb.out _ hnb3).mono ?_; rintro r w6 ⟨rfl, g6⟩; replace hn3 := hn3.trans g6; replace hnb3 := hnb3.trans g6; replace z0 := g6.cell z0; replace z1 := g6.cell z1; replace z2 := g6.cell z2; replace z3 := g6.cell z3; replace z4 := g6.cell z4; replace z5 := g6.cell z5; replace z6 := g6.cell z6; replace z7 := g6.cell z7; replace z8 := g6.cell z8; replace z9 := g6.cell z9; replace z10 := g6.cell z10; replace z11 := g6.cell z11; clear g6))
        go_ret
        exact ⟨by first | (rw [hgf]; rfl) | rfl, n1.trans (hn.trans (n2.trans hn3))⟩
      | true =>
      replace hgd : Hid (gD x = pl.all nameS) := Lib.hid (by rw [hgd.out, decide_eq_true (show (N : Int) ≤ 8 by omega)]; simp)
      go_wp2_with (first
          | (go_at_call 16; refine (hka.out _).mono ?_; rintro r w6 ⟨rfl, g6⟩; replace hn3 := hn3.trans g6; replace hnb3 := hnb3.trans g6; replace z0 := g6.cell z0; replace z1 := g6.cell z1; replace z2 := g6.cell z2; replace z3 := g6.cell z3; replace z4 := g6.cell z4; replace z5 := g6.cell z5; replace z6 := g6.cell z6; replace z7 := g6.cell z7; replace z8 := g6.cell z8; replace z9 := g6.cell z9; replace z10 := g6.cell z10; replace z11 := g6.cell z11; clear g6)
          | (go_at_call 18; refine (hkb.out _ hnb3).mono ?_; rintro r w6 ⟨rfl, g6⟩; replace hn3 := hn3.trans g6; replace hnb3 := hnb3.trans g6; replace z0 := g6.cell z0; replace z1 := g6.cell z1; replace z2 := g6.cell z2; replace z3 := g6.cell z3; replace z4 := g6.cell z4; replace z5 := g6.cell z5; replace z6 := g6.cell z6; replace z7 := g6.cell z7; replace z8 := g6.cell z8; replace z9 := g6.cell z9; replace z10 := g6.cell z10; replace z11 := g6.cell z11; clear g6))
      clear z0 z1 z2 z3 z4 z5 z6 z7 z8 z9 z10 z11 hnb3
      go_loopw [5] (fun sj wr2 => ∃ j : Nat, j ≤ N ∧ sj = .int .i64 j ∧ (pl.take j).all nameS = true ∧ Nb W2 wr2) (fun sj _ => N - (intOf sj).toNat)
      case atStart => exact ⟨0, Nat.zero_le _, rfl, by simp, hn3⟩
      case round =>
        clear hn3
        obtain ⟨j, hj2, rfl, hall2, hn3⟩ := hrel
        have c2 := hn3.block c1
        have z2 := cell_of_row _ _ 2 _ _ _ c2
        have hnb3 : Nb W0 wr := hnb.trans (n2.trans hn3)
        by_cases hlt4 : j < N
        · have hlt5 : (j : Int) < (N : Int) := by omega
          obtain ⟨s, hsx⟩ : ∃ s, pl[j]? = some s := ⟨_, List.getElem?_eq_getElem (by rw [hNh.out]; exact hlt4)⟩
          obtain ⟨sb, so, hbo, hsc⟩ := RowS.at_ hPr.out (i := j) (r := [sV s]) (by rw [List.getElem?_map, hsx]; rfl)
          obtain rfl := hbo
          have s0 := hnb3.cell (hsc 0 _ rfl)
          rw [Nat.add_zero, Nat.mul_one] at s0
          have hsm := List.mem_of_getElem? hsx
          have hks := hkp.out s hsm
          have htk2 : (pl.take (j + 1)).all nameS = nameS s := by rw [List.take_add_one, hsx, List.all_append, hall2]; simp
          clear hsx hsc
          cases hns : nameS s with
          | false =>
            rw [hns] at hks
            have hgf := hfl.out (by
              rw [hgd.out, ← Bool.not_eq_true, List.all_eq_true]
              intro h2
              rw [h2 s hsm] at hns
              cases hns)
            replace hks := Lib.hid hks
            go_wp2_with (go_at_call 16; refine (hks.out _).mono ?_; rintro r w6 ⟨rfl, g6⟩)
            go_ret
            exact ⟨by first | (rw [hgf]; rfl) | rfl, n1.trans (hn.trans (n2.trans (hn3.trans g6)))⟩
          | true =>
            rw [hns] at hks htk2
            replace hks := Lib.hid hks
            replace htk2 := Lib.hid htk2
            go_wp2_with (go_at_call 16; refine (hks.out _).mono ?_; rintro r w6 ⟨rfl, g6⟩)
            exact ⟨⟨j + 1, by omega, by simp, htk2.out, hn3.trans g6⟩, by simp [intOf] <;> omega⟩
        · obtain rfl : j = N := by omega
          have hpf : gD x = true := by rw [hgd.out, ← hall2, ← hNh.out, List.take_length]
          have htt : (l.take (i + 1)).all gD = true := by rw [htk.out, hpf]
          replace htt := Lib.hid htt
          go_wp2_with fail
          exact ⟨⟨i + 1, by omega, by simp, htt.out, hn.trans (n2.trans hn3)⟩, by simp [intOf] <;> omega⟩
    · obtain rfl : i = M := by omega
      have hfull : G = true := by rw [hg.out, ← hall, ← hMh.out, List.take_length]
      go_wp2_with fail
      go_ret
      exact ⟨by first | (rw [hfull]; rfl) | rfl, n1.trans hn⟩
end Go.Proofs.YtebcjocpmnapeaaGreatDoor
