/-
  Proved here: which trees may be, and what text they have, the code says as the reference says it. No condition but that the laid tables hold what their texts lay.
-/
import Derived.Test.YtebcjocpmnapeaaGreatDoorSar
import Derived.Test.YtebcjocpmnapeaaGreatDoorSbi
import Derived.Test.YtebcjocpmnapeaaGreatDoorSbt
import Derived.Test.YtebcjocpmnapeaaGreatDoorCards
import Derived.Test.YtebcjocpmnapeaaGreatDoorTie
import Derived.SevenTiedAt
namespace Go.Proofs.YtebcjocpmnapeaaGreatDoor.treePrints
open Go.ChangeShapes Go.WideShapes Go.ChangeAt Go.RowKit
set_option linter.unusedVariables false
set_option linter.unusedSimpArgs false
set_option maxRecDepth 100000
set_option maxHeartbeats 4000000
theorem walk (p : Pg) (W : World) (hT : Tw W) (hp : p.Has W) :
    Calls Tryz.prog 3 #[.agg p.cells.toArray] W fun r w' => r = .returned (.bool true) ∧ Nb W w' := by
  obtain ⟨A0, cp0, hv0, -, -, -⟩ := hp.drow.head
  obtain ⟨A1, cp1, hv1, -, -, -⟩ := hp.args.row.head
  rw [List.length_map] at hv0 hv1
  have hlight := light_any W p hp
  have hlives := Lib.hid (fun w (h : Nb W w) => lives_any w (var_nbT hT h))
  have hgood : szP p ≤ 4096 → dpP p ≤ 64 → ∀ w, Nb W w → Calls Tryz.prog 6 #[.agg p.cells.toArray] w fun r w' => r = .returned (.bool (gP p)) ∧ Nb w w' := fun hs hd w hw => by
    have h := good_any W p hp hs hd w hw
    rw [allM_flP p (by omega)] at h
    exact h
  have hprint := fun hs hd w hw => print_any W hT p hp hs hd w hw
  have hrgood := fun hs hd w hw => rgoodP_any W p hp hs hd w hw
  have hrprint := fun hs hd w hw => rprint_any W p hp hs hd w hw
  have hlg : p.light = true → szP p ≤ 4096 ∧ dpP p ≤ 64 := fun h => by
    unfold Pg.light at h
    simp only [Bool.and_eq_true, decide_eq_true_eq] at h
    omega
  have hc : p.cells = [.slice A0 p.defs.length cp0, .int .i64 p.at_, sV p.main, .slice A1 p.args.length cp1] := by
    rw [← hv0, ← hv1]; rfl
  rw [hc] at hlight hgood hprint hrgood hrprint ⊢
  obtain ⟨M, hM⟩ : ∃ M, p.defs.length = M := ⟨_, rfl⟩
  rw [hM] at hlight hgood hprint hrgood hrprint ⊢
  obtain ⟨N, hN⟩ : ∃ N, p.args.length = N := ⟨_, rfl⟩
  rw [hN] at hlight hgood hprint hrgood hrprint ⊢
  clear hM hN hc hv0 hv1
  replace hlight := Lib.hid hlight
  go_enter Tryz.func3, Tryz.ntmps3
  go_upto_region 1 with (fail)
  obtain ⟨W1, hW1⟩ : ∃ W1, W.alloc (Obj.cells #[.slice A0 M cp0, .int .i64 p.at_, sV p.main, .slice A1 N cp1] 25) = W1 := ⟨_, rfl⟩
  have n1 : Nb W W1 := by rw [← hW1]; exact alloc_nb _ _
  have b1 : W1.heap[W.heap.size]? = some (.cells #[.slice A0 M cp0, .int .i64 p.at_, sV p.main, .slice A1 N cp1] 25 (0, 0)) := by rw [← hW1]; exact new_blk _ _ rfl
  rw [hW1]
  clear hW1
  obtain ⟨B, hB⟩ : ∃ B, W.heap.size = B := ⟨_, rfl⟩
  rw [hB] at b1 ⊢
  clear hB
  have y0 := cell_of_row _ _ 0 _ _ _ b1
  have y1 := cell_of_row _ _ 1 _ _ _ b1
  have y2 := cell_of_row _ _ 2 _ _ _ b1
  have y3 := cell_of_row _ _ 3 _ _ _ b1
  cases hl : p.light with
  | false =>
    rw [hl] at hlight
    clear hgood hprint hrgood hrprint
    go_wp2_with (first
      | (go_at_call 4; refine (hlight.out _ n1).mono ?_; rintro r w3 ⟨rfl, g3⟩)
      | (go_at_call 5; refine (hlives.out _ (n1.trans g3)).mono ?_; rintro r w4 ⟨rfl, g4⟩))
    go_ret
    exact ⟨rfl, n1.trans (g3.trans g4)⟩
  | true =>
    obtain ⟨hs, hd⟩ := hlg hl
    rw [hl] at hlight
    replace hgood := hgood hs hd
    replace hprint := hprint hs hd
    replace hrgood := hrgood hs hd
    replace hrprint := hrprint hs hd
    obtain ⟨G, hG⟩ : ∃ G, gP p = G := ⟨_, rfl⟩
    rw [hG] at hgood hprint hrgood hrprint
    obtain ⟨T, hTx⟩ : ∃ T, (if G = true then txP p else []) = T := ⟨_, rfl⟩
    rw [hTx] at hprint hrprint
    clear hG hTx hlg hl hs hd
    replace hgood := Lib.hid hgood
    replace hprint := Lib.hid hprint
    replace hrgood := Lib.hid hrgood
    replace hrprint := Lib.hid hrprint
    go_upto_region 3 with (go_at_call 4; refine (hlight.out _ n1).mono ?_; rintro r w3 ⟨rfl, g3⟩)
    have n3 : Nb W w3 := n1.trans g3
    have b3 := g3.block b1
    clear y0 y1 y2 y3
    have y0 := cell_of_row _ _ 0 _ _ _ b3
    have y1 := cell_of_row _ _ 1 _ _ _ b3
    have y2 := cell_of_row _ _ 2 _ _ _ b3
    have y3 := cell_of_row _ _ 3 _ _ _ b3
    have hG : Nb w3 w3.drew := drew1R (Nb.refl w3)
    cases G
    all_goals
      refine wp_region_late [] (fun _ => True) (fun w' => Nb w3 w') (by kernel_rfl) ⟨fun _ => trivial, hG⟩ (fun _ => ?_)
      change wpAnyL _ _ _ _ _ _ _ 16 (List.toArray [false, false, false, false, false, false, false, false, false, false, false, false, false, false, false, false]) _ _
      refine takeG_l (i := 0) (v := .agg #[.slice A0 M cp0, .int .i64 p.at_, sV p.main, .slice A1 N cp1]) rfl (by kernel_rfl) (by kernel_rfl) (by kernel_rfl) (by rfl) (fun _ _ _ h => h) (.inl ⟨by rfl, by intro w' hw; have r0 := hw.cell y0; have r1 := hw.cell y1; have r2 := hw.cell y2; have r3 := hw.cell y3; go_simp⟩) ⟨fun _ => trivial, hG⟩ ?_
      simp only [Act.put, List.setIfInBounds_toArray, List.set_cons_zero, List.set_cons_succ]
      refine takeG_l (i := 2) (v := .agg #[.slice A0 M cp0, .int .i64 p.at_, sV p.main, .slice A1 N cp1]) rfl (by kernel_rfl) (by kernel_rfl) (by kernel_rfl) (by rfl) (fun _ _ _ h => h) (.inl ⟨by rfl, by intro w' hw; have r0 := hw.cell y0; have r1 := hw.cell y1; have r2 := hw.cell y2; have r3 := hw.cell y3; go_simp⟩) ⟨fun _ => trivial, hG⟩ ?_
      simp only [Act.put, List.setIfInBounds_toArray, List.set_cons_zero, List.set_cons_succ]
      generalize w3.drew = Wd at hG ⊢
      refine onlyL_l (i := 1) (by kernel_rfl) rfl (by rfl) (fun K hK => ?_)
      go_simp
      refine (hgood.out _ (n3.trans hG)).mono ?_
      rintro r w5 ⟨rfl, nc⟩
      replace hG := hG.trans nc
      refine hK.out _ _ ⟨fun _ => trivial, hG⟩ (fun _ => ?_)
      clear hK K nc
      simp only [Act.put, List.setIfInBounds_toArray, List.set_cons_zero, List.set_cons_succ]
      refine onlyL_l (i := 3) (by kernel_rfl) rfl (by rfl) (fun K hK => ?_)
      go_simp
      refine (hrgood.out _ (n3.trans hG)).mono ?_
      rintro r w5 ⟨rfl, nc⟩
      replace hG := hG.trans nc
      refine hK.out _ _ ⟨fun _ => trivial, hG⟩ (fun _ => ?_)
      clear hK K nc
      simp only [Act.put, List.setIfInBounds_toArray, List.set_cons_zero, List.set_cons_succ]
      refine takeG_l (i := 4) (v := .bool true) rfl (by kernel_rfl) (by kernel_rfl) (by kernel_rfl) (by rfl) (fun _ _ _ h => h) (.inl ⟨by rfl, by intro w' hw; go_simp⟩) ⟨fun _ => trivial, hG⟩ ?_
      simp only [Act.put, List.setIfInBounds_toArray, List.set_cons_zero, List.set_cons_succ]
      refine takeG_l (i := 5) (v := .bool true) rfl (by kernel_rfl) (by kernel_rfl) (by kernel_rfl) (by rfl) (fun _ _ _ h => h) (.inl ⟨by rfl, by intro w' hw; go_simp⟩) ⟨fun _ => trivial, hG⟩ ?_
      simp only [Act.put, List.setIfInBounds_toArray, List.set_cons_zero, List.set_cons_succ]
      refine takeG_l (i := 6) (v := .agg #[.slice A0 M cp0, .int .i64 p.at_, sV p.main, .slice A1 N cp1]) rfl (by kernel_rfl) (by kernel_rfl) (by kernel_rfl) (by rfl) (fun _ _ _ h => h) (.inl ⟨by rfl, by intro w' hw; have r0 := hw.cell y0; have r1 := hw.cell y1; have r2 := hw.cell y2; have r3 := hw.cell y3; go_simp⟩) ⟨fun _ => trivial, hG⟩ ?_
      simp only [Act.put, List.setIfInBounds_toArray, List.set_cons_zero, List.set_cons_succ]
      refine takeG_l (i := 8) (v := .agg #[.slice A0 M cp0, .int .i64 p.at_, sV p.main, .slice A1 N cp1]) rfl (by kernel_rfl) (by kernel_rfl) (by kernel_rfl) (by rfl) (fun _ _ _ h => h) (.inl ⟨by rfl, by intro w' hw; have r0 := hw.cell y0; have r1 := hw.cell y1; have r2 := hw.cell y2; have r3 := hw.cell y3; go_simp⟩) ⟨fun _ => trivial, hG⟩ ?_
      simp only [Act.put, List.setIfInBounds_toArray, List.set_cons_zero, List.set_cons_succ]
      refine onlyL_l (i := 7) (by kernel_rfl) rfl (by rfl) (fun K hK => ?_)
      go_simp
      refine (hprint.out _ (n3.trans hG)).mono ?_
      rintro r w5 ⟨rfl, nc⟩
      replace hG := hG.trans nc
      refine hK.out _ _ ⟨fun _ => trivial, hG⟩ (fun _ => ?_)
      clear hK K nc
      simp only [Act.put, List.setIfInBounds_toArray, List.set_cons_zero, List.set_cons_succ]
      refine onlyL_l (i := 9) (by kernel_rfl) rfl (by rfl) (fun K hK => ?_)
      go_simp
      refine (hrprint.out _ (n3.trans hG)).mono ?_
      rintro r w5 ⟨rfl, nc⟩
      replace hG := hG.trans nc
      refine hK.out _ _ ⟨fun _ => trivial, hG⟩ (fun _ => ?_)
      clear hK K nc
      simp only [Act.put, List.setIfInBounds_toArray, List.set_cons_zero, List.set_cons_succ]
      refine takeG_l (i := 10) (v := .bool true) rfl (by kernel_rfl) (by kernel_rfl) (by kernel_rfl) (by rfl) (fun _ _ _ h => h) (.inl ⟨by rfl, by intro w' hw; go_simp⟩) ⟨fun _ => trivial, hG⟩ ?_
      simp only [Act.put, List.setIfInBounds_toArray, List.set_cons_zero, List.set_cons_succ]
      refine takeG_l (i := 11) (v := .bool true) rfl (by kernel_rfl) (by kernel_rfl) (by kernel_rfl) (by rfl) (fun _ _ _ h => h) (.inl ⟨by rfl, by intro w' hw; go_simp⟩) ⟨fun _ => trivial, hG⟩ ?_
      simp only [Act.put, List.setIfInBounds_toArray, List.set_cons_zero, List.set_cons_succ]
      refine takeG_l (i := 12) (v := .bool true) rfl (by kernel_rfl) (by kernel_rfl) (by kernel_rfl) (by rfl) (fun _ _ _ h => h) (.inl ⟨by rfl, by intro w' hw; go_simp⟩) ⟨fun _ => trivial, hG⟩ ?_
      simp only [Act.put, List.setIfInBounds_toArray, List.set_cons_zero, List.set_cons_succ]
      refine onlyL_l (i := 13) (by kernel_rfl) rfl (by rfl) (fun K hK => ?_)
      go_simp
      refine (hlives.out _ (n3.trans hG)).mono ?_
      rintro r w5 ⟨rfl, nc⟩
      replace hG := hG.trans nc
      refine hK.out _ _ ⟨fun _ => trivial, hG⟩ (fun _ => ?_)
      clear hK K nc
      simp only [Act.put, List.setIfInBounds_toArray, List.set_cons_zero, List.set_cons_succ]
      refine takeG_l (i := 14) (v := .bool true) rfl (by kernel_rfl) (by kernel_rfl) (by kernel_rfl) (by rfl) (fun _ _ _ h => h) (.inl ⟨by rfl, by intro w' hw; go_simp⟩) ⟨fun _ => trivial, hG⟩ ?_
      simp only [Act.put, List.setIfInBounds_toArray, List.set_cons_zero, List.set_cons_succ]
      refine takeG_l (i := 15) (v := .bool true) rfl (by kernel_rfl) (by kernel_rfl) (by kernel_rfl) (by rfl) (fun _ _ _ h => h) (.inl ⟨by rfl, by intro w' hw; go_simp⟩) ⟨fun _ => trivial, hG⟩ ?_
      simp only [Act.put, List.setIfInBounds_toArray, List.set_cons_zero, List.set_cons_succ]
      refine doneL (by kernel_rfl) ?_ _
      go_wp2_with fail
      go_ret
      exact ⟨rfl, n3.trans hG⟩
/-! The row's step. -/
set_option maxRecDepth 100000 in
set_option maxHeartbeats 1000000 in
theorem lifted (os : Os) (started : os.Started) (H : Type) (enc : TypeId × Value → H) :
    ReturnsInHanded {} Tryz.checked os 3 .any (fun w args => (Rows.treePrintsSpec.pre enc Tryz.prog Tryz.f3 [] false w args ∧ laidMetH Tryz.prog laidG w) ∧ sizedMet enc Tryz.prog Tryz.f3 (OpenSpec.ofChange Rows.treePrintsSpec) false w args)
      (Rows.treePrintsSpec.post enc Tryz.prog Tryz.f3 false true false false) := by
  refine returnsInHanded_of_change_and (C := Tryz.checked) (X := fun w _ => laidMetH Tryz.prog laidG w) (fun _ _ _ hh h => h.of_heap hh) own started (by kernel_rfl) Tryz.func3
    (ChangeSpec.witness_shaped (enc := enc) (C := Tryz.checked) (os := os) (X := fun w _ => laidMetH Tryz.prog laidG w) false (World.doorLaid Tryz.prog 400 os) #[.agg #[.slice none 0 0, .int .i64 0, .string ⟨#[]⟩, .slice none 0 0]] 8 rfl (World.shaped_of_RefB (by kernel_rfl) (by kernel_rfl)) (by kernel_rfl) (by kernel_rfl) (by kernel_rfl) (door_metG os _)) ?_
  intro W base args ds gs before hval0 hW _ _ hL _
  have hval : ∀ (j : Nat) t v, Tryz.f3.params[j]? = some t → args[j]? = some v → Value.okWide Tryz.prog W .any base t v := hval0
  have hW' := hW
  obtain ⟨p, q, hA0, hV, rfl, hfz, hnd⟩ := hW
  have hA1 : DataW.TrodAll enc Tryz.prog W 0 (fun _ => true) true Tryz.f3.params.toList args.toList ds p := hA0
  have hA := hA1
  rw [Tryz.params3] at hA hval
  obtain ⟨v0, vs0, d0, ds0, p0, q0, hargs0, rfl, -, h0, r0⟩ := trodAll_cons hA
  obtain ⟨rfl, rfl, -⟩ := trodAll_nil r0
  obtain rfl : args = #[v0] := by cases args; simp_all
  obtain ⟨rfl, rfl⟩ := trodVars_none hV
  obtain ⟨q0, rfl, hq0⟩ := open_program (hval 0 25 v0 rfl rfl) h0
  clear hval0
  simp only [List.append_nil] at hW'
  refine (walk q0  W (tw_of_laid hL) hq0).mono fun e W' ⟨he, hg⟩ => ?_
  subst he
  exact ⟨_, rfl, post_of_nb (pa := p) (pv := []) hW' (fun _ _ _ => (trodAll_cons_mk (shut_bool Tryz.underlying4 _) trodAll_mk0))
    (fun sp hsp => args_stay (by kernel_rfl) hg hA1 (fun t ht => by
      have h0 : (Tryz.f3.params.toList.all fun t => Tryz.prog.readableRec t && decide (t < Tryz.prog.types.size)) = true := by kernel_rfl
      have h1 := List.all_eq_true.1 h0 t ht
      rw [Bool.and_eq_true, decide_eq_true_eq] at h1
      exact h1) (fun x hx => hW'.lt x hx) hsp)
    (fun _ _ => rfl) (by simp) hg (ok_one (by kernel_rfl) rfl (okWide_bool_mk Tryz.underlying4 _))⟩
theorem over : Rows.TreePrintsSaid :=
  OpenClaim.holds_of_wide 3 Tryz.f3 rfl rfl rfl rfl rfl rfl rfl ⟨rfl, rfl, rfl, rfl, rfl⟩ rfl rfl rfl rfl rfl (by kernel_rfl) Tryz.func3 (by kernel_rfl)
    (of_decide_eq_true (by kernel_rfl)) (by unfold Func.isWrapper; first | (rw [if_pos (by decide +kernel)]; kernel_rfl) | (rw [if_neg (by decide +kernel)]; exact ⟨rfl, rfl⟩))
    (fun os started H enc _ => lifted os started H enc)
/-- The statement: the tied card. -/
theorem proved : Rows.TreePrintsCardSaid :=
  Claim7.holds_tied_plain_at .later [] [.data, .data, .data] true (true, "e01a42202369b7a906d00e292e38bf645e15569c372aa854ad7a88c73861e2cf") false
    over (fun _ h => by cases h) (by kernel_rfl) (fun _ h => by cases h) treePrints_row_tie rfl ⟨rfl, rfl⟩ (by kernel_rfl) rfl
    (fun f fn hf hfn => by
      obtain rfl : f = 3 := Option.some.inj ((show Tryz.prog.funcNamed "postbag/postbaglaw12.TreePrints" = some 3 by kernel_rfl).symm.trans hf) |>.symm
      obtain rfl : fn = Tryz.f3 := (Option.some.inj (Tryz.func3.symm.trans hfn)).symm
      exact ⟨by kernel_rfl, fun j t ht => by
        rw [Tryz.params3] at ht
        have hm : t ∈ [25] := by simpa using Array.mem_of_getElem? ht
        have hall : ([25].all fun u => !Tryz.prog.wantsStandIn u) = true := by kernel_rfl
        exact (show Tryz.prog.wantsStandIn t = false by simpa using List.all_eq_true.1 hall t hm)⟩)
    (by kernel_rfl)
#print axioms proved
end Go.Proofs.YtebcjocpmnapeaaGreatDoor.treePrints
