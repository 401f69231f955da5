/-
  Proved here: of the reference: whether two programs are the same but for places. Conditions: the memory holds them.
-/
import Derived.Test.YtojogolmcclpoaaDoorSbs
namespace Go.Proofs.YtojogolmcclpoaaDoor
open Go.RowKit
set_option linter.unusedVariables false
set_option linter.unusedSimpArgs false
set_option maxRecDepth 100000
set_option maxHeartbeats 16000000
theorem take_next_eq {l m : List Bs} {j : Nat} {s t : Bs} (h : l[j]? = some s) (h' : m[j]? = some t) (e : l.take j = m.take j) (hs : s = t) : l.take (j + 1) = m.take (j + 1) := by
  rw [List.take_add_one, List.take_add_one, h, h', e, hs]
theorem ne_at {l m : List Bs} {j : Nat} {s t : Bs} (h : l[j]? = some s) (h' : m[j]? = some t) (hs : s ≠ t) : l ≠ m := by
  rintro rfl
  exact hs (Option.some.inj (h.symm.trans h'))
theorem rsame_any (W0 : World) (p q : Pg) (hp : p.Has W0) (hq : q.Has W0) (w : World) (hw : Nb W0 w) :
    Calls Tryd.prog 8 #[.agg p.cells.toArray, .agg q.cells.toArray] w fun r w' => r = .returned (.bool (smP p q)) ∧ Nb w w' := by
  obtain ⟨A0, a0, hv0, hca0, hla0, -⟩ := hp.drow.head
  obtain ⟨A1, a1, hv1, -, -, -⟩ := hp.args.row.head
  obtain ⟨D0, d0, hu0, hcd0, hld0, -⟩ := hq.drow.head
  obtain ⟨D1, d1, hu1, -, -, -⟩ := hq.args.row.head
  rw [List.length_map] at hv0 hv1 hu0 hu1 hca0 hla0 hcd0 hld0
  have cE := rsmEs_any W0 p.args p.av hp.args q.args q.av hq.args
  have hX := hp.drow
  have hY := hq.drow
  have hkx := fun d hd => And.intro (hp.prow d hd) (hp.body d hd)
  have hky := fun d hd => And.intro (hq.prow d hd) (hq.body d hd)
  rw [hv1, hu1] at cE
  rw [hv0] at hX
  rw [hu0] at hY
  rw [show p.cells = [.slice A0 p.defs.length a0, .int .i64 p.at_, sV p.main, .slice A1 p.args.length a1] by rw [← hv0, ← hv1]; rfl, show q.cells = [.slice D0 q.defs.length d0, .int .i64 q.at_, sV q.main, .slice D1 q.args.length d1] by rw [← hu0, ← hu1]; rfl]
  clear hp hq hv0 hv1 hu0 hu1
  have hsm : smP p q = (((p.main == q.main) && smEs p.args q.args) && smDs p.defs q.defs) := rfl
  obtain ⟨G, hG0⟩ : ∃ G, smP p q = G := ⟨_, rfl⟩
  rw [hG0] at hsm ⊢
  clear hG0
  obtain ⟨M, hM⟩ : ∃ M, p.defs.length = M := ⟨_, rfl⟩
  rw [hM] at hX hca0 hla0 ⊢
  have hMh := Lib.hid hM
  clear hM
  obtain ⟨N, hN⟩ : ∃ N, q.defs.length = N := ⟨_, rfl⟩
  rw [hN] at hY hcd0 hld0 ⊢
  have hNh := Lib.hid hN
  clear hN
  obtain ⟨PA, hPA⟩ : ∃ M, p.args.length = M := ⟨_, rfl⟩
  rw [hPA] at cE ⊢
  clear hPA
  obtain ⟨QA, hQA⟩ : ∃ M, q.args.length = M := ⟨_, rfl⟩
  rw [hQA] at cE ⊢
  clear hQA
  obtain ⟨R1, hR1⟩ : ∃ R, smEs p.args q.args = R := ⟨_, rfl⟩
  rw [hR1] at hsm cE
  clear hR1
  obtain ⟨pm, hpm⟩ : ∃ k, p.main = k := ⟨_, rfl⟩
  rw [hpm] at hsm ⊢
  clear hpm
  obtain ⟨qm, hqm⟩ : ∃ k, q.main = k := ⟨_, rfl⟩
  rw [hqm] at hsm ⊢
  clear hqm
  replace hX := Lib.hid hX
  replace hY := Lib.hid hY
  replace hkx := Lib.hid hkx
  replace hky := Lib.hid hky
  replace hsm := Lib.hid hsm
  replace cE := Lib.hid cE
  go_enter Tryd.func8, Tryd.ntmps8
  go_upto_region 1 with (fail)
  obtain ⟨W1, hW1⟩ : ∃ W1, w.alloc (.cells #[.slice A0 M a0, .int .i64 p.at_, sV pm, .slice A1 PA a1] 25) = W1 := ⟨_, rfl⟩
  have bX : W1.heap[w.heap.size]? = some (.cells #[.slice A0 M a0, .int .i64 p.at_, sV pm, .slice A1 PA a1] 25 (0, 0)) := by rw [← hW1]; exact new_blk _ _ rfl
  have n1 : Nb w W1 := by rw [← hW1]; exact alloc_nb _ _
  have hz1 : W1.heap.size = w.heap.size + 1 := by rw [← hW1]; show (w.heap.push _).size = _; exact Array.size_push ..
  rw [hW1]
  clear hW1
  obtain ⟨BX, hBX⟩ : ∃ B, w.heap.size = B := ⟨_, rfl⟩
  rw [hBX] at bX hz1 ⊢
  clear hBX
  obtain ⟨W2, hW2⟩ : ∃ W2, W1.alloc (.cells #[.slice D0 N d0, .int .i64 q.at_, sV qm, .slice D1 QA d1] 25) = W2 := ⟨_, rfl⟩
  have bY : W2.heap[W1.heap.size]? = some (.cells #[.slice D0 N d0, .int .i64 q.at_, sV qm, .slice D1 QA d1] 25 (0, 0)) := by rw [← hW2]; exact new_blk _ _ rfl
  have n2 : Nb W1 W2 := by rw [← hW2]; exact alloc_nb _ _
  rw [hW2]
  clear hW2
  rw [hz1] at bY
  clear hz1
  obtain ⟨BY, hBY⟩ : ∃ B, BX + 1 = B := ⟨_, rfl⟩
  rw [hBY] at bY ⊢
  clear hBY
  replace bX := n2.block bX
  have hn2 : Nb w W2 := n1.trans n2
  have hnb2 : Nb W0 W2 := hw.trans hn2
  have p0 := cell_of_row _ _ 0 _ _ _ bX
  have p2 := cell_of_row _ _ 2 _ _ _ bX
  have p3 := cell_of_row _ _ 3 _ _ _ bX
  have q0 := cell_of_row _ _ 0 _ _ _ bY
  have q2 := cell_of_row _ _ 2 _ _ _ bY
  have q3 := cell_of_row _ _ 3 _ _ _ bY
  by_cases k_m : pm = qm
  case neg =>
    have t1 : (pm == qm) = false := beq_false_of_ne k_m
    have t3 : ((⟨pm.toArray⟩ : ByteArray).toList == (⟨qm.toArray⟩ : ByteArray).toList) = false := by rw [bytesR_eq]; exact decide_eq_false k_m
    have t4 : ((⟨pm.toArray⟩ : ByteArray).toList != (⟨qm.toArray⟩ : ByteArray).toList) = true := by rw [bne, t3]; rfl
    have hgf : G = false := by rw [hsm.out, t1]; rfl
    go_wp2_with fail
    go_ret
    exact ⟨by first | (rw [hgf]; rfl) | rfl, hn2⟩
  case pos =>
  subst k_m
  cases R1 with
  | false =>
    have hgf : G = false := by rw [hsm.out]; simp
    go_wp2_with (go_at_call 17; refine (cE.out _ hnb2).mono ?_; rintro r w3 ⟨rfl, g3⟩; replace hn2 := hn2.trans g3; replace hnb2 := hnb2.trans g3; replace bX := g3.block bX; replace bY := g3.block bY; replace p0 := g3.cell p0; replace q0 := g3.cell q0)
    go_ret
    exact ⟨by first | (rw [hgf]; rfl) | rfl, hn2⟩
  | true =>
  by_cases hMN : M = N
  case neg =>
    have t1 : ((M : Int) == (N : Int)) = false := beq_false_of_ne (by omega)
    have t2 : ((M : Int) != (N : Int)) = true := bne_iff_ne.2 (by omega)
    have hgf : G = false := by rw [hsm.out, smDs_ne (by rw [hMh.out, hNh.out]; exact hMN)]; simp
    go_wp2_with (go_at_call 17; refine (cE.out _ hnb2).mono ?_; rintro r w3 ⟨rfl, g3⟩; replace hn2 := hn2.trans g3; replace hnb2 := hnb2.trans g3; replace bX := g3.block bX; replace bY := g3.block bY; replace p0 := g3.cell p0; replace q0 := g3.cell q0)
    go_ret
    exact ⟨by first | (rw [hgf]; rfl) | rfl, hn2⟩
  case pos =>
  subst hMN
  replace hsm : Hid (G = smDs p.defs q.defs) := Lib.hid (by rw [hsm.out]; simp)
  have hnX : Nb W2 W2 := Nb.refl W2
  have bX2 := Lib.hid bX
  have bY2 := Lib.hid bY
  have hn22 := Lib.hid hn2
  have hnb22 := Lib.hid hnb2
  go_wp2_with (go_at_call 17; refine (cE.out _ hnb2).mono ?_; rintro r w3 ⟨rfl, g3⟩; replace hnX := hnX.trans g3; replace p0 := g3.cell p0; replace q0 := g3.cell q0)
  go_loopw [5, 6, 7, 8] (fun si _ _ _ wr => ∃ i : Nat, i ≤ M ∧ si = .int .i64 i ∧ smDs (p.defs.take i) (q.defs.take i) = true ∧ Nb W2 wr) (fun si _ _ _ _ => M - (intOf si).toNat)
  case atStart => exact ⟨0, Nat.zero_le _, rfl, by simp [smDs], hnX⟩
  case round =>
    clear p0 p2 p3 q0 q2 q3 bX bY hn2 hnb2 hnX
    obtain ⟨i, hi2, rfl, hall, hnX⟩ := hrel
    have dX := hnX.block bX2.out
    have dY := hnX.block bY2.out
    have p0 := cell_of_row _ _ 0 _ _ _ dX
    have q0 := cell_of_row _ _ 0 _ _ _ dY
    have hn : Nb w wr := hn22.out.trans hnX
    have hnb : Nb W0 wr := hnb22.out.trans hnX
    clear dX dY
    by_cases hlt2 : i < M
    · have hlt3 : (i : Int) < (M : Int) := by omega
      obtain ⟨x, hx⟩ : ∃ x, p.defs[i]? = some x := ⟨_, List.getElem?_eq_getElem (by rw [hMh.out]; exact hlt2)⟩
      obtain ⟨y, hy⟩ : ∃ y, q.defs[i]? = some y := ⟨_, List.getElem?_eq_getElem (by rw [hNh.out]; exact hlt2)⟩
      obtain ⟨b, o, hbo, hxc⟩ := RowS.at_ hX.out (i := i) (r := x.cells) (by rw [List.getElem?_map, hx]; rfl)
      obtain rfl := hbo
      obtain ⟨b', o', hbo, hyc⟩ := RowS.at_ hY.out (i := i) (r := y.cells) (by rw [List.getElem?_map, hy]; rfl)
      obtain rfl := hbo
      have x0 := hnb.cell (hxc 0 _ rfl)
      have y0 := hnb.cell (hyc 0 _ rfl)
      have x1 := hnb.cell (hxc 1 _ rfl)
      have y1 := hnb.cell (hyc 1 _ rfl)
      have x2 := hnb.cell (hxc 2 _ rfl)
      have y2 := hnb.cell (hyc 2 _ rfl)
      have x3 := hnb.cell (hxc 3 _ rfl)
      have y3 := hnb.cell (hyc 3 _ rfl)
      have x4 := hnb.cell (hxc 4 _ rfl)
      have y4 := hnb.cell (hyc 4 _ rfl)
      have x5 := hnb.cell (hxc 5 _ rfl)
      have y5 := hnb.cell (hyc 5 _ rfl)
      have x6 := hnb.cell (hxc 6 _ rfl)
      have y6 := hnb.cell (hyc 6 _ rfl)
      have x7 := hnb.cell (hxc 7 _ rfl)
      have y7 := hnb.cell (hyc 7 _ rfl)
      have x8 := hnb.cell (hxc 8 _ rfl)
      have y8 := hnb.cell (hyc 8 _ rfl)
      have x9 := hnb.cell (hxc 9 _ rfl)
      have y9 := hnb.cell (hyc 9 _ rfl)
      have x10 := hnb.cell (hxc 10 _ rfl)
      have y10 := hnb.cell (hyc 10 _ rfl)
      have x11 := hnb.cell (hxc 11 _ rfl)
      have y11 := hnb.cell (hyc 11 _ rfl)
      rw [Nat.add_zero] at x0 y0
      have hmx := List.mem_of_getElem? hx
      have hmy := List.mem_of_getElem? hy
      have hhx := hkx.out x hmx
      have hhy := hky.out y hmy
      have cD : ∀ (w : World) (g g' : Nat) (t t' : TypeId), Nb W0 w → w.heap[g]? = some (.cells x.body.cells.toArray t (0, 0)) → w.heap[g']? = some (.cells y.body.cells.toArray t' (0, 0)) → Calls Tryd.prog 18 #[.slice (some ⟨g, 0, none⟩) 1 1, .slice (some ⟨g', 0, none⟩) 1 1] w fun r w' => r = .returned (.bool (smB x.body y.body)) ∧ Nb w w' := fun w g g' t t' hw h h' => by
        have h2 := smR_all [x.body] w _ (one_bds (hhx.2.nb hw) h) [y.body] _ (one_bds (hhy.2.nb hw) h') w (Nb.refl w)
        rw [show smBs [x.body] [y.body] = smB x.body y.body by simp [smBs]] at h2
        exact h2
      have sX := hhx.1
      have sY := hhy.1
      obtain ⟨XP, xc, hxp, -, hxl, -⟩ := sX.head
      obtain ⟨YP, yc, hyp, -, hyl, -⟩ := sY.head
      rw [List.length_map] at hxp hyp hxl hyl
      rw [hxp] at x2 sX
      rw [hyp] at y2 sY
      clear hxp hyp
      obtain ⟨uA, uAc, huA, -, -, -⟩ := hhx.2.srow.1.head
      rw [List.length_map] at huA
      rw [huA] at x3
      obtain ⟨uAL, huAL⟩ : ∃ k, x.body.stmts.length = k := ⟨_, rfl⟩
      rw [huAL] at huA x3
      obtain ⟨uB, uBc, huB, -, -, -⟩ := hhx.2.exs.row.head
      rw [List.length_map] at huB
      rw [huB] at x7
      obtain ⟨uBL, huBL⟩ : ∃ k, x.body.args.length = k := ⟨_, rfl⟩
      rw [huBL] at huB x7
      obtain ⟨uC, uCc, huC, -, -, -⟩ := hhx.2.prow.1.head
      rw [List.length_map] at huC
      rw [huC] at x8
      obtain ⟨uCL, huCL⟩ : ∃ k, x.body.parts.length = k := ⟨_, rfl⟩
      rw [huCL] at huC x8
      obtain ⟨uD, uDc, huD, -, -, -⟩ := hhx.2.mrow.1.head
      rw [List.length_map] at huD
      rw [huD] at x9
      obtain ⟨uDL, huDL⟩ : ∃ k, x.body.arms.length = k := ⟨_, rfl⟩
      rw [huDL] at huD x9
      rw [show x.body.cells = [x.body.sv, .int .i64 x.body.kind, .int .i64 x.body.at_, sV x.body.actor, x.body.av, x.body.pv, x.body.mv, .bool x.body.late, .int .i64 x.body.after] from rfl, huA, huB, huC, huD] at cD
      clear huA huAL huB huBL huC huCL huD huDL
      obtain ⟨vA, vAc, hvA, -, -, -⟩ := hhy.2.srow.1.head
      rw [List.length_map] at hvA
      rw [hvA] at y3
      obtain ⟨vAL, hvAL⟩ : ∃ k, y.body.stmts.length = k := ⟨_, rfl⟩
      rw [hvAL] at hvA y3
      obtain ⟨vB, vBc, hvB, -, -, -⟩ := hhy.2.exs.row.head
      rw [List.length_map] at hvB
      rw [hvB] at y7
      obtain ⟨vBL, hvBL⟩ : ∃ k, y.body.args.length = k := ⟨_, rfl⟩
      rw [hvBL] at hvB y7
      obtain ⟨vC, vCc, hvC, -, -, -⟩ := hhy.2.prow.1.head
      rw [List.length_map] at hvC
      rw [hvC] at y8
      obtain ⟨vCL, hvCL⟩ : ∃ k, y.body.parts.length = k := ⟨_, rfl⟩
      rw [hvCL] at hvC y8
      obtain ⟨vD, vDc, hvD, -, -, -⟩ := hhy.2.mrow.1.head
      rw [List.length_map] at hvD
      rw [hvD] at y9
      obtain ⟨vDL, hvDL⟩ : ∃ k, y.body.arms.length = k := ⟨_, rfl⟩
      rw [hvDL] at hvD y9
      rw [show y.body.cells = [y.body.sv, .int .i64 y.body.kind, .int .i64 y.body.at_, sV y.body.actor, y.body.av, y.body.pv, y.body.mv, .bool y.body.late, .int .i64 y.body.after] from rfl, hvA, hvB, hvC, hvD] at cD
      clear hvA hvAL hvB hvBL hvC hvCL hvD hvDL
      have htk := smDs_step p.defs q.defs i x y hx hy
      rw [hall, Bool.true_and] at htk
      have hbad : smD x y = false → G = false := fun h => by rw [hsm.out]; exact smDs_bad hx hy h
      have hsD : smD x y = ((x.name == y.name) && (smB x.body y.body && decide (x.params = y.params))) := rfl
      obtain ⟨R2, hR2⟩ : ∃ R, smB x.body y.body = R := ⟨_, rfl⟩
      rw [hR2] at hsD cD
      obtain ⟨xn, hxn⟩ : ∃ k, x.name = k := ⟨_, rfl⟩
      rw [hxn] at hsD x1
      obtain ⟨yn, hyn⟩ : ∃ k, y.name = k := ⟨_, rfl⟩
      rw [hyn] at hsD y1
      obtain ⟨XL, hXL⟩ : ∃ k, x.params.length = k := ⟨_, rfl⟩
      rw [hXL] at x2 sX hxl
      replace hXL := Lib.hid hXL
      obtain ⟨YL, hYL⟩ : ∃ k, y.params.length = k := ⟨_, rfl⟩
      rw [hYL] at y2 sY hyl
      replace hYL := Lib.hid hYL
      replace htk := Lib.hid htk
      replace hbad := Lib.hid hbad
      replace hsD := Lib.hid hsD
      replace cD := Lib.hid cD
      replace sX := Lib.hid sX
      replace sY := Lib.hid sY
      clear hxn hyn hR2 hx hy hxc hyc hhx hhy hmx hmy
      go_upto_region 7 with (fail)
      obtain ⟨W4, hW4⟩ : ∃ W, wr.alloc (.cells #[.int .i64 x.at_, sV xn, .slice XP XL xc, .slice uA uAL uAc, .int .i64 x.body.kind, .int .i64 x.body.at_, sV x.body.actor, .slice uB uBL uBc, .slice uC uCL uCc, .slice uD uDL uDc, .bool x.body.late, .int .i64 x.body.after] 46) = W := ⟨_, rfl⟩
      have eX : W4.heap[wr.heap.size]? = some (.cells #[.int .i64 x.at_, sV xn, .slice XP XL xc, .slice uA uAL uAc, .int .i64 x.body.kind, .int .i64 x.body.at_, sV x.body.actor, .slice uB uBL uBc, .slice uC uCL uCc, .slice uD uDL uDc, .bool x.body.late, .int .i64 x.body.after] 46 (0, 0)) := by rw [← hW4]; exact new_blk _ _ rfl
      have n4 : Nb wr W4 := by rw [← hW4]; exact alloc_nb _ _
      rw [hW4]
      clear hW4
      obtain ⟨EX, hEX⟩ : ∃ B, wr.heap.size = B := ⟨_, rfl⟩
      rw [hEX] at eX ⊢
      clear hEX x0 x1 x2 x3 x4 x5 x6 x7 x8 x9 x10 x11
      replace y0 := n4.cell y0; replace y1 := n4.cell y1; replace y2 := n4.cell y2; replace y3 := n4.cell y3; replace y4 := n4.cell y4; replace y5 := n4.cell y5; replace y6 := n4.cell y6; replace y7 := n4.cell y7; replace y8 := n4.cell y8; replace y9 := n4.cell y9; replace y10 := n4.cell y10; replace y11 := n4.cell y11
      replace q0 := n4.cell q0
      clear p0
      go_upto_region 8 with (fail)
      obtain ⟨W5, hW5⟩ : ∃ W, W4.alloc (.cells #[.int .i64 y.at_, sV yn, .slice YP YL yc, .slice vA vAL vAc, .int .i64 y.body.kind, .int .i64 y.body.at_, sV y.body.actor, .slice vB vBL vBc, .slice vC vCL vCc, .slice vD vDL vDc, .bool y.body.late, .int .i64 y.body.after] 46) = W := ⟨_, rfl⟩
      have eY : W5.heap[W4.heap.size]? = some (.cells #[.int .i64 y.at_, sV yn, .slice YP YL yc, .slice vA vAL vAc, .int .i64 y.body.kind, .int .i64 y.body.at_, sV y.body.actor, .slice vB vBL vBc, .slice vC vCL vCc, .slice vD vDL vDc, .bool y.body.late, .int .i64 y.body.after] 46 (0, 0)) := by rw [← hW5]; exact new_blk _ _ rfl
      have n5 : Nb W4 W5 := by rw [← hW5]; exact alloc_nb _ _
      rw [hW5]
      clear hW5
      obtain ⟨EY, hEY⟩ : ∃ B, W4.heap.size = B := ⟨_, rfl⟩
      rw [hEY] at eY ⊢
      clear hEY y0 y1 y2 y3 y4 y5 y6 y7 y8 y9 y10 y11 q0
      replace eX := n5.block eX
      have hn5 : Nb w W5 := hn.trans (n4.trans n5)
      have hnb5 : Nb W0 W5 := hnb.trans (n4.trans n5)
      have hnX5 : Nb W2 W5 := hnX.trans (n4.trans n5)
      have lX : EX < W5.heap.size := lt_blkR eX
      have lY : EY < W5.heap.size := lt_blkR eY
      have u0 := cell_of_row _ _ 0 _ _ _ eX
      have v0 := cell_of_row _ _ 0 _ _ _ eY
      have u1 := cell_of_row _ _ 1 _ _ _ eX
      have v1 := cell_of_row _ _ 1 _ _ _ eY
      have u2 := cell_of_row _ _ 2 _ _ _ eX
      have v2 := cell_of_row _ _ 2 _ _ _ eY
      have u3 := cell_of_row _ _ 3 _ _ _ eX
      have v3 := cell_of_row _ _ 3 _ _ _ eY
      have u4 := cell_of_row _ _ 4 _ _ _ eX
      have v4 := cell_of_row _ _ 4 _ _ _ eY
      have u5 := cell_of_row _ _ 5 _ _ _ eX
      have v5 := cell_of_row _ _ 5 _ _ _ eY
      have u6 := cell_of_row _ _ 6 _ _ _ eX
      have v6 := cell_of_row _ _ 6 _ _ _ eY
      have u7 := cell_of_row _ _ 7 _ _ _ eX
      have v7 := cell_of_row _ _ 7 _ _ _ eY
      have u8 := cell_of_row _ _ 8 _ _ _ eX
      have v8 := cell_of_row _ _ 8 _ _ _ eY
      have u9 := cell_of_row _ _ 9 _ _ _ eX
      have v9 := cell_of_row _ _ 9 _ _ _ eY
      have u10 := cell_of_row _ _ 10 _ _ _ eX
      have v10 := cell_of_row _ _ 10 _ _ _ eY
      have u11 := cell_of_row _ _ 11 _ _ _ eX
      have v11 := cell_of_row _ _ 11 _ _ _ eY
      by_cases k_n : xn = yn
      case neg =>
        have t1 : (xn == yn) = false := beq_false_of_ne k_n
        have t3 : ((⟨xn.toArray⟩ : ByteArray).toList == (⟨yn.toArray⟩ : ByteArray).toList) = false := by rw [bytesR_eq]; exact decide_eq_false k_n
        have t4 : ((⟨xn.toArray⟩ : ByteArray).toList != (⟨yn.toArray⟩ : ByteArray).toList) = true := by rw [bne, t3]; rfl
        have hgf := hbad.out (by rw [hsD.out, t1]; rfl)
        go_wp2_with fail
        go_ret
        exact ⟨by first | (rw [hgf]; rfl) | rfl, hn5⟩
      case pos =>
      subst k_n
      by_cases hl : XL = YL
      case neg =>
        have t1 : ((XL : Int) == (YL : Int)) = false := beq_false_of_ne (by omega)
        have t2 : ((XL : Int) != (YL : Int)) = true := bne_iff_ne.2 (by omega)
        have hgf := hbad.out (by rw [hsD.out, decide_eq_false (fun e => hl (by rw [← hXL.out, ← hYL.out, e]))]; simp)
        go_wp2_with fail
        go_ret
        exact ⟨by first | (rw [hgf]; rfl) | rfl, hn5⟩
      case pos =>
      subst hl
      cases R2 with
      | false =>
        have hgf := hbad.out (by rw [hsD.out]; simp)
        go_wp2_with (go_at_call 18; refine (cD.out _ _ _ _ _ ((hnb5.trans (alloc_nb _ _)).trans (alloc_nb _ _)) (old_blk (new_blk _ _ rfl) _) (new_blk _ _ (by first | rfl | simp))).mono ?_; rintro r w8 ⟨rfl, g8⟩; have m8 : Nb W5 w8 := ((alloc_nb _ _).trans (alloc_nb _ _)).trans g8; have hn8 := hn5.trans m8; have hX8 := hnX5.trans m8)
        go_ret
        exact ⟨by first | (rw [hgf]; rfl) | rfl, hn8⟩
      | true =>
        replace hsD : Hid (smD x y = decide (x.params = y.params)) := Lib.hid (by rw [hsD.out]; simp)
        go_wp2_with (go_at_call 18; refine (cD.out _ _ _ _ _ ((hnb5.trans (alloc_nb _ _)).trans (alloc_nb _ _)) (old_blk (new_blk _ _ rfl) _) (new_blk _ _ (by first | rfl | simp))).mono ?_; rintro r w8 ⟨rfl, g8⟩; have m8 : Nb W5 w8 := ((alloc_nb _ _).trans (alloc_nb _ _)).trans g8; have hn8 := hn5.trans m8; have hX8 := hnX5.trans m8)
        have fX := Lib.hid (m8.block eX)
        have fY := Lib.hid (m8.block eY)
        have u2 := cell_of_row _ _ 2 _ _ _ fX.out
        have v2 := cell_of_row _ _ 2 _ _ _ fY.out
        go_loopw [8] (fun sj wr => ∃ j : Nat, j ≤ XL ∧ sj = .int .i64 j ∧ x.params.take j = y.params.take j ∧ Nb w8 wr) (fun sj _ => XL - (intOf sj).toNat)
        case atStart => exact ⟨0, Nat.zero_le _, rfl, by simp, Nb.refl _⟩
        case round =>
          clear u2 v2
          obtain ⟨j, hj2, rfl, htake, hw9⟩ := hrel
          have gX := hw9.block fX.out
          have gY := hw9.block fY.out
          have u2 := cell_of_row _ _ 2 _ _ _ gX
          have v2 := cell_of_row _ _ 2 _ _ _ gY
          have hn9 := hn8.trans hw9
          by_cases hlt4 : j < XL
          · have hlt5 : (j : Int) < (XL : Int) := by omega
            obtain ⟨s, hs⟩ : ∃ s, x.params[j]? = some s := ⟨_, List.getElem?_eq_getElem (by rw [hXL.out]; exact hlt4)⟩
            obtain ⟨t, ht⟩ : ∃ s, y.params[j]? = some s := ⟨_, List.getElem?_eq_getElem (by rw [hYL.out]; exact hlt4)⟩
            obtain ⟨sb, so, hbo, hsc⟩ := RowS.at_ sX.out (i := j) (r := [sV s]) (by rw [List.getElem?_map, hs]; rfl)
            obtain rfl := hbo
            obtain ⟨tb, to, hbo, htc⟩ := RowS.at_ sY.out (i := j) (r := [sV t]) (by rw [List.getElem?_map, ht]; rfl)
            obtain rfl := hbo
            have s0 := ((hnb5.trans m8).trans hw9).cell (hsc 0 _ rfl)
            have t0 := ((hnb5.trans m8).trans hw9).cell (htc 0 _ rfl)
            rw [Nat.mul_one, Nat.add_zero] at s0 t0
            clear hsc htc
            by_cases k_s : s = t
            case neg =>
              have t3 : ((⟨s.toArray⟩ : ByteArray).toList == (⟨t.toArray⟩ : ByteArray).toList) = false := by rw [bytesR_eq]; exact decide_eq_false k_s
              have t4 : ((⟨s.toArray⟩ : ByteArray).toList != (⟨t.toArray⟩ : ByteArray).toList) = true := by rw [bne, t3]; rfl
              have hgf := hbad.out (by rw [hsD.out]; exact decide_eq_false (ne_at hs ht k_s))
              clear hs ht
              go_wp2_with fail
              go_quiet (fail)
              go_wp2_with fail
              · go_ret
                exact ⟨by first | (rw [hgf]; rfl) | rfl, hn9.drewN _⟩
              · rename_i h
                exact absurd (by simpa using h) k_s
            case pos =>
              have htake2 := Lib.hid (take_next_eq hs ht htake k_s)
              subst k_s
              clear hs ht
              go_wp2_with fail
              go_quiet (fail)
              all_goals go_wp2_with fail
              all_goals exact ⟨⟨j + 1, by omega, by simp, htake2.out, hw9.drewN _⟩, by simp [intOf] <;> omega⟩
          · obtain rfl : j = XL := by omega
            have hpe : x.params = y.params := by
              have h1 := htake
              rwa [List.take_of_length_le (by rw [hXL.out]; exact Nat.le_refl _), List.take_of_length_le (by rw [hYL.out]; exact Nat.le_refl _)] at h1
            have htt : (smDs (p.defs.take (i + 1)) (q.defs.take (i + 1))) = true := by rw [htk.out, hsD.out]; exact decide_eq_true hpe
            replace htt := Lib.hid htt
            clear hpe htake
            go_wp2_with fail
            exact ⟨⟨i + 1, by omega, by simp, htt.out, hX8.trans hw9⟩, by simp [intOf] <;> omega⟩
    · obtain rfl : i = M := by omega
      have hfull : G = true := by
        rw [hsm.out, ← hall]
        congr 1
        · rw [← hMh.out, List.take_length]
        · rw [← hNh.out, List.take_length]
      go_wp2_with fail
      go_ret
      exact ⟨by first | (rw [hfull]; rfl) | rfl, hn⟩
end Go.Proofs.YtojogolmcclpoaaDoor
