/-
  Proved here: programs that may be have one text, by the code's Print, just if the reference says that they are the same but for places. No condition but that the laid tables hold what their texts lay.
-/
import Derived.Test.YtojogolmcclpoaaDoorSas
import Derived.Test.YtojogolmcclpoaaDoorSbk
import Derived.Test.YtojogolmcclpoaaDoorSbt
import Derived.Test.YtojogolmcclpoaaDoorCards
import Derived.Test.YtojogolmcclpoaaDoorTie
import Derived.SevenTiedAt
namespace Go.Proofs.YtojogolmcclpoaaDoor.treeApart
open Go.ChangeShapes Go.WideShapes Go.ChangeAt Go.RowKit
set_option linter.unusedVariables false
set_option linter.unusedSimpArgs false
set_option maxRecDepth 100000
set_option maxHeartbeats 4000000
theorem light_le {p : Pg} (h : p.light = true) : szP p ≤ 4096 ∧ dpP p ≤ 64 := by
  unfold Pg.light at h
  simp only [Bool.and_eq_true, decide_eq_true_eq] at h
  omega
theorem walk (p q : Pg) (W : World) (hT : Tw W) (hp : p.Has W) (hq : q.Has W) :
    Calls Tryd.prog 3 #[.agg p.cells.toArray, .agg q.cells.toArray] W fun r w' => r = .returned (.bool true) ∧ Nb W w' := by
  obtain ⟨A0, cp0, hv0, -, -, -⟩ := hp.drow.head
  obtain ⟨A1, cp1, hv1, -, -, -⟩ := hp.args.row.head
  obtain ⟨D0, dp0, hu0, -, -, -⟩ := hq.drow.head
  obtain ⟨D1, dp1, hu1, -, -, -⟩ := hq.args.row.head
  rw [List.length_map] at hv0 hv1 hu0 hu1
  have hlp := light_any W p hp
  have hlq := light_any W q hq
  have hlives := Lib.hid (fun w (h : Nb W w) => lives_any w (var_nbT hT h))
  have hgp : p.light = true → ∀ w, Nb W w → Calls Tryd.prog 5 #[.agg p.cells.toArray] w fun r w' => r = .returned (.bool (gP p)) ∧ Nb w w' := fun hl w hw => by
    have h := good_any W p hp (light_le hl).1 (light_le hl).2 w hw
    rw [allM_flP p (by have := (light_le hl).2; omega)] at h
    exact h
  have hgq : q.light = true → ∀ w, Nb W w → Calls Tryd.prog 5 #[.agg q.cells.toArray] w fun r w' => r = .returned (.bool (gP q)) ∧ Nb w w' := fun hl w hw => by
    have h := good_any W q hq (light_le hl).1 (light_le hl).2 w hw
    rw [allM_flP q (by have := (light_le hl).2; omega)] at h
    exact h
  have hpp := fun (hl : p.light = true) => print_any W hT p hp (light_le hl).1 (light_le hl).2
  have hpq := fun (hl : q.light = true) => print_any W hT q hq (light_le hl).1 (light_le hl).2
  have hsame := rsame_any W p q hp hq
  have hiff := txP_same p q
  have hc : p.cells = [.slice A0 p.defs.length cp0, .int .i64 p.at_, sV p.main, .slice A1 p.args.length cp1] := by
    rw [← hv0, ← hv1]; rfl
  have hd : q.cells = [.slice D0 q.defs.length dp0, .int .i64 q.at_, sV q.main, .slice D1 q.args.length dp1] := by
    rw [← hu0, ← hu1]; rfl
  rw [hc] at hlp hgp hpp hsame ⊢
  rw [hd] at hlq hgq hpq hsame ⊢
  obtain ⟨M, hM⟩ : ∃ M, p.defs.length = M := ⟨_, rfl⟩
  rw [hM] at hlp hgp hpp hsame ⊢
  obtain ⟨N, hN⟩ : ∃ N, p.args.length = N := ⟨_, rfl⟩
  rw [hN] at hlp hgp hpp hsame ⊢
  obtain ⟨M', hM'⟩ : ∃ M, q.defs.length = M := ⟨_, rfl⟩
  rw [hM'] at hlq hgq hpq hsame ⊢
  obtain ⟨N', hN'⟩ : ∃ N, q.args.length = N := ⟨_, rfl⟩
  rw [hN'] at hlq hgq hpq hsame ⊢
  clear hM hN hc hv0 hv1 hM' hN' hd hu0 hu1
  replace hlp := Lib.hid hlp
  replace hlq := Lib.hid hlq
  replace hsame := Lib.hid hsame
  go_enter Tryd.func3, Tryd.ntmps3
  go_upto_region 1 with (fail)
  obtain ⟨W1, hW1⟩ : ∃ W1, W.alloc (Obj.cells #[.slice A0 M cp0, .int .i64 p.at_, sV p.main, .slice A1 N cp1] 25) = W1 := ⟨_, rfl⟩
  have n1 : Nb W W1 := by rw [← hW1]; exact alloc_nb _ _
  have hz1 : W1.heap.size = W.heap.size + 1 := by rw [← hW1]; show (W.heap.push _).size = _; exact Array.size_push ..
  have b1 : W1.heap[W.heap.size]? = some (.cells #[.slice A0 M cp0, .int .i64 p.at_, sV p.main, .slice A1 N cp1] 25 (0, 0)) := by rw [← hW1]; exact new_blk _ _ rfl
  rw [hW1]
  clear hW1
  obtain ⟨B, hB⟩ : ∃ B, W.heap.size = B := ⟨_, rfl⟩
  rw [hB] at b1 hz1 ⊢
  clear hB
  obtain ⟨W2, hW2⟩ : ∃ W2, W1.alloc (Obj.cells #[.slice D0 M' dp0, .int .i64 q.at_, sV q.main, .slice D1 N' dp1] 25) = W2 := ⟨_, rfl⟩
  have n2 : Nb W1 W2 := by rw [← hW2]; exact alloc_nb _ _
  have b2 : W2.heap[W1.heap.size]? = some (.cells #[.slice D0 M' dp0, .int .i64 q.at_, sV q.main, .slice D1 N' dp1] 25 (0, 0)) := by rw [← hW2]; exact new_blk _ _ rfl
  rw [hW2]
  clear hW2
  rw [hz1] at b2
  clear hz1
  obtain ⟨B2, hB2⟩ : ∃ B2, B + 1 = B2 := ⟨_, rfl⟩
  rw [hB2] at b2 ⊢
  clear hB2
  replace b1 := n2.block b1
  replace n1 := n1.trans n2
  clear n2
  have y0 := cell_of_row _ _ 0 _ _ _ b1
  have y1 := cell_of_row _ _ 1 _ _ _ b1
  have y2 := cell_of_row _ _ 2 _ _ _ b1
  have y3 := cell_of_row _ _ 3 _ _ _ b1
  have z0 := cell_of_row _ _ 0 _ _ _ b2
  have z1 := cell_of_row _ _ 1 _ _ _ b2
  have z2 := cell_of_row _ _ 2 _ _ _ b2
  have z3 := cell_of_row _ _ 3 _ _ _ b2
  cases lp : p.light with
  | false =>
    rw [lp] at hlp
    clear hgp hgq hpp hpq
    go_wp2_with (first
      | (go_at_call 4; refine (hlp.out _ n1).mono ?_; clear hlp; rintro r w3 ⟨rfl, g⟩; replace n1 := n1.trans g; replace y0 := g.cell y0; replace y1 := g.cell y1; replace y2 := g.cell y2; replace y3 := g.cell y3; replace z0 := g.cell z0; replace z1 := g.cell z1; replace z2 := g.cell z2; replace z3 := g.cell z3)
      | (go_at_call 6; refine (hlives.out _ n1).mono ?_; rintro r w4 ⟨rfl, g⟩; replace n1 := n1.trans g))
    go_ret
    exact ⟨rfl, n1⟩
  | true =>
  cases lq : q.light with
  | false =>
    rw [lp] at hlp
    rw [lq] at hlq
    clear hgp hgq hpp hpq
    go_wp2_with (first
      | (go_at_call 4; refine (hlp.out _ n1).mono ?_; clear hlp; rintro r w3 ⟨rfl, g⟩; replace n1 := n1.trans g; replace y0 := g.cell y0; replace y1 := g.cell y1; replace y2 := g.cell y2; replace y3 := g.cell y3; replace z0 := g.cell z0; replace z1 := g.cell z1; replace z2 := g.cell z2; replace z3 := g.cell z3)
      | (go_at_call 4; refine (hlq.out _ n1).mono ?_; clear hlq; rintro r w3 ⟨rfl, g⟩; replace n1 := n1.trans g; replace y0 := g.cell y0; replace y1 := g.cell y1; replace y2 := g.cell y2; replace y3 := g.cell y3; replace z0 := g.cell z0; replace z1 := g.cell z1; replace z2 := g.cell z2; replace z3 := g.cell z3)
      | (go_at_call 6; refine (hlives.out _ n1).mono ?_; rintro r w4 ⟨rfl, g⟩; replace n1 := n1.trans g))
    go_ret
    exact ⟨rfl, n1⟩
  | true =>
  rw [lp] at hlp
  rw [lq] at hlq
  replace hgp := Lib.hid (hgp lp)
  replace hgq := Lib.hid (hgq lq)
  replace hpp := hpp lp
  replace hpq := hpq lq
  cases gp : gP p with
  | false =>
    rw [gp] at hgp
    clear hpp hpq
    go_wp2_with (first
      | (go_at_call 4; refine (hlp.out _ n1).mono ?_; clear hlp; rintro r w3 ⟨rfl, g⟩; replace n1 := n1.trans g; replace y0 := g.cell y0; replace y1 := g.cell y1; replace y2 := g.cell y2; replace y3 := g.cell y3; replace z0 := g.cell z0; replace z1 := g.cell z1; replace z2 := g.cell z2; replace z3 := g.cell z3)
      | (go_at_call 4; refine (hlq.out _ n1).mono ?_; clear hlq; rintro r w3 ⟨rfl, g⟩; replace n1 := n1.trans g; replace y0 := g.cell y0; replace y1 := g.cell y1; replace y2 := g.cell y2; replace y3 := g.cell y3; replace z0 := g.cell z0; replace z1 := g.cell z1; replace z2 := g.cell z2; replace z3 := g.cell z3)
      | (go_at_call 5; refine (hgp.out _ n1).mono ?_; clear hgp; rintro r w3 ⟨rfl, g⟩; replace n1 := n1.trans g; replace y0 := g.cell y0; replace y1 := g.cell y1; replace y2 := g.cell y2; replace y3 := g.cell y3; replace z0 := g.cell z0; replace z1 := g.cell z1; replace z2 := g.cell z2; replace z3 := g.cell z3)
      | (go_at_call 6; refine (hlives.out _ n1).mono ?_; rintro r w4 ⟨rfl, g⟩; replace n1 := n1.trans g))
    go_ret
    exact ⟨rfl, n1⟩
  | true =>
  rw [gp] at hgp hpp
  cases gq : gP q with
  | false =>
    rw [gq] at hgq
    clear hpp hpq
    go_wp2_with (first
      | (go_at_call 4; refine (hlp.out _ n1).mono ?_; clear hlp; rintro r w3 ⟨rfl, g⟩; replace n1 := n1.trans g; replace y0 := g.cell y0; replace y1 := g.cell y1; replace y2 := g.cell y2; replace y3 := g.cell y3; replace z0 := g.cell z0; replace z1 := g.cell z1; replace z2 := g.cell z2; replace z3 := g.cell z3)
      | (go_at_call 4; refine (hlq.out _ n1).mono ?_; clear hlq; rintro r w3 ⟨rfl, g⟩; replace n1 := n1.trans g; replace y0 := g.cell y0; replace y1 := g.cell y1; replace y2 := g.cell y2; replace y3 := g.cell y3; replace z0 := g.cell z0; replace z1 := g.cell z1; replace z2 := g.cell z2; replace z3 := g.cell z3)
      | (go_at_call 5; refine (hgp.out _ n1).mono ?_; clear hgp; rintro r w3 ⟨rfl, g⟩; replace n1 := n1.trans g; replace y0 := g.cell y0; replace y1 := g.cell y1; replace y2 := g.cell y2; replace y3 := g.cell y3; replace z0 := g.cell z0; replace z1 := g.cell z1; replace z2 := g.cell z2; replace z3 := g.cell z3)
      | (go_at_call 5; refine (hgq.out _ n1).mono ?_; clear hgq; rintro r w3 ⟨rfl, g⟩; replace n1 := n1.trans g; replace y0 := g.cell y0; replace y1 := g.cell y1; replace y2 := g.cell y2; replace y3 := g.cell y3; replace z0 := g.cell z0; replace z1 := g.cell z1; replace z2 := g.cell z2; replace z3 := g.cell z3)
      | (go_at_call 6; refine (hlives.out _ n1).mono ?_; rintro r w4 ⟨rfl, g⟩; replace n1 := n1.trans g))
    go_ret
    exact ⟨rfl, n1⟩
  | true =>
  rw [gq] at hgq hpq
  rw [if_pos rfl] at hpp hpq
  replace hiff := hiff gp gq
  obtain ⟨T, hTx⟩ : ∃ T, txP p = T := ⟨_, rfl⟩
  rw [hTx] at hpp hiff
  obtain ⟨U, hUx⟩ : ∃ T, txP q = T := ⟨_, rfl⟩
  rw [hUx] at hpq hiff
  obtain ⟨E, hE⟩ : ∃ E, smP p q = E := ⟨_, rfl⟩
  replace hsame := hsame.out
  rw [hE] at hsame hiff
  rw [← bytesR_eq] at hiff
  clear hTx hUx hE lp lq gp gq
  replace hsame := Lib.hid hsame
  replace hpp := Lib.hid hpp
  replace hpq := Lib.hid hpq
  replace hiff := Lib.hid hiff
  go_upto_region 3 with (first
    | (go_at_call 4; refine (hlp.out _ n1).mono ?_; clear hlp; rintro r w3 ⟨rfl, g⟩; replace n1 := n1.trans g; replace y0 := g.cell y0; replace y1 := g.cell y1; replace y2 := g.cell y2; replace y3 := g.cell y3; replace z0 := g.cell z0; replace z1 := g.cell z1; replace z2 := g.cell z2; replace z3 := g.cell z3)
    | (go_at_call 4; refine (hlq.out _ n1).mono ?_; clear hlq; rintro r w3 ⟨rfl, g⟩; replace n1 := n1.trans g; replace y0 := g.cell y0; replace y1 := g.cell y1; replace y2 := g.cell y2; replace y3 := g.cell y3; replace z0 := g.cell z0; replace z1 := g.cell z1; replace z2 := g.cell z2; replace z3 := g.cell z3)
    | (go_at_call 5; refine (hgp.out _ n1).mono ?_; clear hgp; rintro r w3 ⟨rfl, g⟩; replace n1 := n1.trans g; replace y0 := g.cell y0; replace y1 := g.cell y1; replace y2 := g.cell y2; replace y3 := g.cell y3; replace z0 := g.cell z0; replace z1 := g.cell z1; replace z2 := g.cell z2; replace z3 := g.cell z3)
    | (go_at_call 5; refine (hgq.out _ n1).mono ?_; clear hgq; rintro r w3 ⟨rfl, g⟩; replace n1 := n1.trans g; replace y0 := g.cell y0; replace y1 := g.cell y1; replace y2 := g.cell y2; replace y3 := g.cell y3; replace z0 := g.cell z0; replace z1 := g.cell z1; replace z2 := g.cell z2; replace z3 := g.cell z3))
  have hG : Nb w3 w3.drew := drew1R (Nb.refl w3)
  have hiff2 := hiff.out
  rw [bytesR_eq] at hiff2
  cases E with
  | false =>
    have e1 := of_decide_eq_false hiff2
    clear hiff2
    refine wp_region_late [] (fun _ => True) (fun w' => Nb w3 w') (by kernel_rfl) ⟨fun _ => trivial, hG⟩ (fun _ => ?_)
    change wpAnyL _ _ _ _ _ _ _ 13 (List.toArray [false, false, false, false, false, false, false, false, false, false, false, false, false]) _ _
    refine takeG_l (i := 0) (v := .agg #[.slice A0 M cp0, .int .i64 p.at_, sV p.main, .slice A1 N cp1]) rfl (by kernel_rfl) (by kernel_rfl) (by kernel_rfl) (by rfl) (fun _ _ _ h => h) (.inl ⟨by rfl, by intro w' hw; have r0 := hw.cell y0; have r1 := hw.cell y1; have r2 := hw.cell y2; have r3 := hw.cell y3; go_simp⟩) ⟨fun _ => trivial, hG⟩ ?_
    simp only [Act.put, List.setIfInBounds_toArray, List.set_cons_zero, List.set_cons_succ]
    refine takeG_l (i := 2) (v := .agg #[.slice D0 M' dp0, .int .i64 q.at_, sV q.main, .slice D1 N' dp1]) rfl (by kernel_rfl) (by kernel_rfl) (by kernel_rfl) (by rfl) (fun _ _ _ h => h) (.inl ⟨by rfl, by intro w' hw; have r0 := hw.cell z0; have r1 := hw.cell z1; have r2 := hw.cell z2; have r3 := hw.cell z3; go_simp⟩) ⟨fun _ => trivial, hG⟩ ?_
    simp only [Act.put, List.setIfInBounds_toArray, List.set_cons_zero, List.set_cons_succ]
    refine takeG_l (i := 5) (v := .agg #[.slice A0 M cp0, .int .i64 p.at_, sV p.main, .slice A1 N cp1]) rfl (by kernel_rfl) (by kernel_rfl) (by kernel_rfl) (by rfl) (fun _ _ _ h => h) (.inl ⟨by rfl, by intro w' hw; have r0 := hw.cell y0; have r1 := hw.cell y1; have r2 := hw.cell y2; have r3 := hw.cell y3; go_simp⟩) ⟨fun _ => trivial, hG⟩ ?_
    simp only [Act.put, List.setIfInBounds_toArray, List.set_cons_zero, List.set_cons_succ]
    refine takeG_l (i := 6) (v := .agg #[.slice D0 M' dp0, .int .i64 q.at_, sV q.main, .slice D1 N' dp1]) rfl (by kernel_rfl) (by kernel_rfl) (by kernel_rfl) (by rfl) (fun _ _ _ h => h) (.inl ⟨by rfl, by intro w' hw; have r0 := hw.cell z0; have r1 := hw.cell z1; have r2 := hw.cell z2; have r3 := hw.cell z3; go_simp⟩) ⟨fun _ => trivial, hG⟩ ?_
    simp only [Act.put, List.setIfInBounds_toArray, List.set_cons_zero, List.set_cons_succ]
    generalize w3.drew = Wd at hG ⊢
    refine onlyL_l (i := 1) (by kernel_rfl) rfl (by rfl) (fun K hK => ?_)
    go_simp
    refine (hpp.out _ (n1.trans hG)).mono ?_
    rintro r w5 ⟨rfl, nc⟩
    replace hG := hG.trans nc
    refine hK.out _ _ ⟨fun _ => trivial, hG⟩ (fun _ => ?_)
    clear hK K nc
    simp only [Act.put, List.setIfInBounds_toArray, List.set_cons_zero, List.set_cons_succ]
    refine onlyL_l (i := 3) (by kernel_rfl) rfl (by rfl) (fun K hK => ?_)
    go_simp
    refine (hpq.out _ (n1.trans hG)).mono ?_
    rintro r w5 ⟨rfl, nc⟩
    replace hG := hG.trans nc
    refine hK.out _ _ ⟨fun _ => trivial, hG⟩ (fun _ => ?_)
    clear hK K nc
    simp only [Act.put, List.setIfInBounds_toArray, List.set_cons_zero, List.set_cons_succ]
    refine takeG_l (i := 4) (v := .bool false) rfl (by kernel_rfl) (by kernel_rfl) (by kernel_rfl) (by rfl) (fun _ _ _ h => h) (.inl ⟨by rfl, by intro w' hw; go_simp⟩) ⟨fun _ => trivial, hG⟩ ?_
    simp only [Act.put, List.setIfInBounds_toArray, List.set_cons_zero, List.set_cons_succ]
    refine onlyL_l (i := 7) (by kernel_rfl) rfl (by rfl) (fun K hK => ?_)
    go_simp
    refine (hsame.out _ (n1.trans hG)).mono ?_
    rintro r w5 ⟨rfl, nc⟩
    replace hG := hG.trans nc
    refine hK.out _ _ ⟨fun _ => trivial, hG⟩ (fun _ => ?_)
    clear hK K nc
    simp only [Act.put, List.setIfInBounds_toArray, List.set_cons_zero, List.set_cons_succ]
    refine takeG_l (i := 8) (v := .bool true) rfl (by kernel_rfl) (by kernel_rfl) (by kernel_rfl) (by rfl) (fun _ _ _ h => h) (.inl ⟨by rfl, by intro w' hw; go_simp⟩) ⟨fun _ => trivial, hG⟩ ?_
    simp only [Act.put, List.setIfInBounds_toArray, List.set_cons_zero, List.set_cons_succ]
    refine takeG_l (i := 9) (v := .bool true) rfl (by kernel_rfl) (by kernel_rfl) (by kernel_rfl) (by rfl) (fun _ _ _ h => h) (.inl ⟨by rfl, by intro w' hw; go_simp⟩) ⟨fun _ => trivial, hG⟩ ?_
    simp only [Act.put, List.setIfInBounds_toArray, List.set_cons_zero, List.set_cons_succ]
    refine onlyL_l (i := 10) (by kernel_rfl) rfl (by rfl) (fun K hK => ?_)
    go_simp
    refine (hlives.out _ (n1.trans hG)).mono ?_
    rintro r w5 ⟨rfl, nc⟩
    replace hG := hG.trans nc
    refine hK.out _ _ ⟨fun _ => trivial, hG⟩ (fun _ => ?_)
    clear hK K nc
    simp only [Act.put, List.setIfInBounds_toArray, List.set_cons_zero, List.set_cons_succ]
    refine takeG_l (i := 11) (v := .bool true) rfl (by kernel_rfl) (by kernel_rfl) (by kernel_rfl) (by rfl) (fun _ _ _ h => h) (.inl ⟨by rfl, by intro w' hw; go_simp⟩) ⟨fun _ => trivial, hG⟩ ?_
    simp only [Act.put, List.setIfInBounds_toArray, List.set_cons_zero, List.set_cons_succ]
    refine takeG_l (i := 12) (v := .bool true) rfl (by kernel_rfl) (by kernel_rfl) (by kernel_rfl) (by rfl) (fun _ _ _ h => h) (.inl ⟨by rfl, by intro w' hw; go_simp⟩) ⟨fun _ => trivial, hG⟩ ?_
    simp only [Act.put, List.setIfInBounds_toArray, List.set_cons_zero, List.set_cons_succ]
    refine doneL (by kernel_rfl) ?_ _
    go_wp2_with fail
    go_ret
    exact ⟨rfl, n1.trans hG⟩
  | true =>
    have e1 := of_decide_eq_true hiff2
    clear hiff2
    refine wp_region_late [] (fun _ => True) (fun w' => Nb w3 w') (by kernel_rfl) ⟨fun _ => trivial, hG⟩ (fun _ => ?_)
    change wpAnyL _ _ _ _ _ _ _ 13 (List.toArray [false, false, false, false, false, false, false, false, false, false, false, false, false]) _ _
    refine takeG_l (i := 0) (v := .agg #[.slice A0 M cp0, .int .i64 p.at_, sV p.main, .slice A1 N cp1]) rfl (by kernel_rfl) (by kernel_rfl) (by kernel_rfl) (by rfl) (fun _ _ _ h => h) (.inl ⟨by rfl, by intro w' hw; have r0 := hw.cell y0; have r1 := hw.cell y1; have r2 := hw.cell y2; have r3 := hw.cell y3; go_simp⟩) ⟨fun _ => trivial, hG⟩ ?_
    simp only [Act.put, List.setIfInBounds_toArray, List.set_cons_zero, List.set_cons_succ]
    refine takeG_l (i := 2) (v := .agg #[.slice D0 M' dp0, .int .i64 q.at_, sV q.main, .slice D1 N' dp1]) rfl (by kernel_rfl) (by kernel_rfl) (by kernel_rfl) (by rfl) (fun _ _ _ h => h) (.inl ⟨by rfl, by intro w' hw; have r0 := hw.cell z0; have r1 := hw.cell z1; have r2 := hw.cell z2; have r3 := hw.cell z3; go_simp⟩) ⟨fun _ => trivial, hG⟩ ?_
    simp only [Act.put, List.setIfInBounds_toArray, List.set_cons_zero, List.set_cons_succ]
    refine takeG_l (i := 5) (v := .agg #[.slice A0 M cp0, .int .i64 p.at_, sV p.main, .slice A1 N cp1]) rfl (by kernel_rfl) (by kernel_rfl) (by kernel_rfl) (by rfl) (fun _ _ _ h => h) (.inl ⟨by rfl, by intro w' hw; have r0 := hw.cell y0; have r1 := hw.cell y1; have r2 := hw.cell y2; have r3 := hw.cell y3; go_simp⟩) ⟨fun _ => trivial, hG⟩ ?_
    simp only [Act.put, List.setIfInBounds_toArray, List.set_cons_zero, List.set_cons_succ]
    refine takeG_l (i := 6) (v := .agg #[.slice D0 M' dp0, .int .i64 q.at_, sV q.main, .slice D1 N' dp1]) rfl (by kernel_rfl) (by kernel_rfl) (by kernel_rfl) (by rfl) (fun _ _ _ h => h) (.inl ⟨by rfl, by intro w' hw; have r0 := hw.cell z0; have r1 := hw.cell z1; have r2 := hw.cell z2; have r3 := hw.cell z3; go_simp⟩) ⟨fun _ => trivial, hG⟩ ?_
    simp only [Act.put, List.setIfInBounds_toArray, List.set_cons_zero, List.set_cons_succ]
    generalize w3.drew = Wd at hG ⊢
    refine onlyL_l (i := 1) (by kernel_rfl) rfl (by rfl) (fun K hK => ?_)
    go_simp
    refine (hpp.out _ (n1.trans hG)).mono ?_
    rintro r w5 ⟨rfl, nc⟩
    replace hG := hG.trans nc
    refine hK.out _ _ ⟨fun _ => trivial, hG⟩ (fun _ => ?_)
    clear hK K nc
    simp only [Act.put, List.setIfInBounds_toArray, List.set_cons_zero, List.set_cons_succ]
    refine onlyL_l (i := 3) (by kernel_rfl) rfl (by rfl) (fun K hK => ?_)
    go_simp
    refine (hpq.out _ (n1.trans hG)).mono ?_
    rintro r w5 ⟨rfl, nc⟩
    replace hG := hG.trans nc
    refine hK.out _ _ ⟨fun _ => trivial, hG⟩ (fun _ => ?_)
    clear hK K nc
    simp only [Act.put, List.setIfInBounds_toArray, List.set_cons_zero, List.set_cons_succ]
    refine takeG_l (i := 4) (v := .bool true) rfl (by kernel_rfl) (by kernel_rfl) (by kernel_rfl) (by rfl) (fun _ _ _ h => h) (.inl ⟨by rfl, by intro w' hw; go_simp⟩) ⟨fun _ => trivial, hG⟩ ?_
    simp only [Act.put, List.setIfInBounds_toArray, List.set_cons_zero, List.set_cons_succ]
    refine onlyL_l (i := 7) (by kernel_rfl) rfl (by rfl) (fun K hK => ?_)
    go_simp
    refine (hsame.out _ (n1.trans hG)).mono ?_
    rintro r w5 ⟨rfl, nc⟩
    replace hG := hG.trans nc
    refine hK.out _ _ ⟨fun _ => trivial, hG⟩ (fun _ => ?_)
    clear hK K nc
    simp only [Act.put, List.setIfInBounds_toArray, List.set_cons_zero, List.set_cons_succ]
    refine takeG_l (i := 8) (v := .bool true) rfl (by kernel_rfl) (by kernel_rfl) (by kernel_rfl) (by rfl) (fun _ _ _ h => h) (.inl ⟨by rfl, by intro w' hw; go_simp⟩) ⟨fun _ => trivial, hG⟩ ?_
    simp only [Act.put, List.setIfInBounds_toArray, List.set_cons_zero, List.set_cons_succ]
    refine takeG_l (i := 9) (v := .bool true) rfl (by kernel_rfl) (by kernel_rfl) (by kernel_rfl) (by rfl) (fun _ _ _ h => h) (.inl ⟨by rfl, by intro w' hw; go_simp⟩) ⟨fun _ => trivial, hG⟩ ?_
    simp only [Act.put, List.setIfInBounds_toArray, List.set_cons_zero, List.set_cons_succ]
    refine onlyL_l (i := 10) (by kernel_rfl) rfl (by rfl) (fun K hK => ?_)
    go_simp
    refine (hlives.out _ (n1.trans hG)).mono ?_
    rintro r w5 ⟨rfl, nc⟩
    replace hG := hG.trans nc
    refine hK.out _ _ ⟨fun _ => trivial, hG⟩ (fun _ => ?_)
    clear hK K nc
    simp only [Act.put, List.setIfInBounds_toArray, List.set_cons_zero, List.set_cons_succ]
    refine takeG_l (i := 11) (v := .bool true) rfl (by kernel_rfl) (by kernel_rfl) (by kernel_rfl) (by rfl) (fun _ _ _ h => h) (.inl ⟨by rfl, by intro w' hw; go_simp⟩) ⟨fun _ => trivial, hG⟩ ?_
    simp only [Act.put, List.setIfInBounds_toArray, List.set_cons_zero, List.set_cons_succ]
    refine takeG_l (i := 12) (v := .bool true) rfl (by kernel_rfl) (by kernel_rfl) (by kernel_rfl) (by rfl) (fun _ _ _ h => h) (.inl ⟨by rfl, by intro w' hw; go_simp⟩) ⟨fun _ => trivial, hG⟩ ?_
    simp only [Act.put, List.setIfInBounds_toArray, List.set_cons_zero, List.set_cons_succ]
    refine doneL (by kernel_rfl) ?_ _
    go_wp2_with fail
    go_ret
    exact ⟨rfl, n1.trans hG⟩
/-! The row's step. -/
set_option maxRecDepth 100000 in
set_option maxHeartbeats 1000000 in
theorem lifted (os : Os) (started : os.Started) (H : Type) (enc : TypeId × Value → H) :
    ReturnsInHanded {} Tryd.checked os 3 .any (fun w args => (Rows.treeApartSpec.pre enc Tryd.prog Tryd.f3 [] false w args ∧ laidMetH Tryd.prog laidG w) ∧ sizedMet enc Tryd.prog Tryd.f3 (OpenSpec.ofChange Rows.treeApartSpec) false w args)
      (Rows.treeApartSpec.post enc Tryd.prog Tryd.f3 false true false false) := by
  refine returnsInHanded_of_change_and (C := Tryd.checked) (X := fun w _ => laidMetH Tryd.prog laidG w) (fun _ _ _ hh h => h.of_heap hh) own started (by kernel_rfl) Tryd.func3
    (ChangeSpec.witness_shaped (enc := enc) (C := Tryd.checked) (os := os) (X := fun w _ => laidMetH Tryd.prog laidG w) false (World.doorLaid Tryd.prog 400 os) #[.agg #[.slice none 0 0, .int .i64 0, .string ⟨#[]⟩, .slice none 0 0], .agg #[.slice none 0 0, .int .i64 0, .string ⟨#[]⟩, .slice none 0 0]] 8 rfl (World.shaped_of_RefB (by kernel_rfl) (by kernel_rfl)) (by kernel_rfl) (by kernel_rfl) (by kernel_rfl) (door_metG os _)) ?_
  intro W base args ds gs before hval0 hW _ _ hL _
  have hval : ∀ (j : Nat) t v, Tryd.f3.params[j]? = some t → args[j]? = some v → Value.okWide Tryd.prog W .any base t v := hval0
  have hW' := hW
  obtain ⟨p, q, hA0, hV, rfl, hfz, hnd⟩ := hW
  have hA1 : DataW.TrodAll enc Tryd.prog W 0 (fun _ => true) true Tryd.f3.params.toList args.toList ds p := hA0
  have hA := hA1
  rw [Tryd.params3] at hA hval
  obtain ⟨v0, vs0, d0, ds0, p0, q0, hargs0, rfl, -, h0, r0⟩ := trodAll_cons hA
  obtain ⟨v1, vs1, d1, ds1, p1, q1, hargs1, rfl, -, h1, r1⟩ := trodAll_cons r0
  obtain ⟨rfl, rfl, -⟩ := trodAll_nil r1
  obtain rfl : args = #[v0, v1] := by cases args; simp_all
  obtain ⟨rfl, rfl⟩ := trodVars_none hV
  obtain ⟨q0, rfl, hq0⟩ := open_program (hval 0 25 v0 rfl rfl) h0
  obtain ⟨q1, rfl, hq1⟩ := open_program (hval 1 25 v1 rfl rfl) h1
  clear hval0
  simp only [List.append_nil] at hW'
  refine (walk q0 q1  W (tw_of_laid hL) hq0 hq1).mono fun e W' ⟨he, hg⟩ => ?_
  subst he
  exact ⟨_, rfl, post_of_nb (pa := p) (pv := []) hW' (fun _ _ _ => (trodAll_cons_mk (shut_bool Tryd.underlying4 _) trodAll_mk0))
    (fun sp hsp => args_stay (by kernel_rfl) hg hA1 (fun t ht => by
      have h0 : (Tryd.f3.params.toList.all fun t => Tryd.prog.readableRec t && decide (t < Tryd.prog.types.size)) = true := by kernel_rfl
      have h1 := List.all_eq_true.1 h0 t ht
      rw [Bool.and_eq_true, decide_eq_true_eq] at h1
      exact h1) (fun x hx => hW'.lt x hx) hsp)
    (fun _ _ => rfl) (by simp) hg (ok_one (by kernel_rfl) rfl (okWide_bool_mk Tryd.underlying4 _))⟩
theorem over : Rows.TreeApartSaid :=
  OpenClaim.holds_of_wide 3 Tryd.f3 rfl rfl rfl rfl rfl rfl rfl ⟨rfl, rfl, rfl, rfl, rfl⟩ rfl rfl rfl rfl rfl (by kernel_rfl) Tryd.func3 (by kernel_rfl)
    (of_decide_eq_true (by kernel_rfl)) (by unfold Func.isWrapper; first | (rw [if_pos (by decide +kernel)]; kernel_rfl) | (rw [if_neg (by decide +kernel)]; exact ⟨rfl, rfl⟩))
    (fun os started H enc _ => lifted os started H enc)
/-- The statement: the tied card. -/
theorem proved : Rows.TreeApartCardSaid :=
  Claim7.holds_tied_plain_at .later [] [.data, .data, .data] true (true, "fbac7f04c39f6589380320f0d95c25752d6cfa1919a0e3c2089bfd84d0586c3e") false
    over (fun _ h => by cases h) (by kernel_rfl) (fun _ h => by cases h) treeApart_row_tie rfl ⟨rfl, rfl⟩ (by kernel_rfl) rfl
    (fun f fn hf hfn => by
      obtain rfl : f = 3 := Option.some.inj ((show Tryd.prog.funcNamed "postbag/postbaglaw12.TreeApart" = some 3 by kernel_rfl).symm.trans hf) |>.symm
      obtain rfl : fn = Tryd.f3 := (Option.some.inj (Tryd.func3.symm.trans hfn)).symm
      exact ⟨by kernel_rfl, fun j t ht => by
        rw [Tryd.params3] at ht
        have hm : t ∈ [25, 25] := by simpa using Array.mem_of_getElem? ht
        have hall : ([25, 25].all fun u => !Tryd.prog.wantsStandIn u) = true := by kernel_rfl
        exact (show Tryd.prog.wantsStandIn t = false by simpa using List.all_eq_true.1 hall t hm)⟩)
    (by kernel_rfl)
#print axioms proved
end Go.Proofs.YtojogolmcclpoaaDoor.treeApart
