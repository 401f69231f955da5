/-
  Proved here: of the reference: the text of a statement. Conditions: the memory holds it.
-/
import Derived.Test.YtebcjocpmnapeaaGreatDoorSbl
import Derived.Test.YtebcjocpmnapeaaGreatDoorSbn
namespace Go.Proofs.YtebcjocpmnapeaaGreatDoor
open Go.RowKit
set_option linter.unusedVariables false
set_option linter.unusedSimpArgs false
set_option maxRecDepth 100000
set_option maxHeartbeats 4000000
theorem rtxL_any (W0 : World) (l : List Ex) (v : Value) (hv : ExsHas W0 v l) (hg : l.all gE = true) (hlen : (jnT (txEs l)).length ≤ 1000000) (w : World) (hw : Nb W0 w) : Calls Tryz.prog 22 #[v] w fun r w' => r = .returned (sV (jnT (txEs l))) ∧ Nb w w' :=
  rtxEs_any W0 l v hv (fun x hx w hw => rtxE_any W0 x (hv.kids x hx) (List.all_eq_true.1 hg x hx) (Nat.le_trans (jnT_mem (by rw [txEs_map]; exact List.mem_map_of_mem hx)) hlen) w hw) hlen w hw
theorem jn_one (x : Ex) : jnT (txEs [x]) = txE x := by
  show txE x ++ [] = txE x
  exact List.append_nil _
theorem rtxS_any (W0 : World) (e : St) (he : e.Has W0) (hg : gSt e = true) (hlen : (txS e).length ≤ 1000000) (w : World) (hw : Nb W0 w) : Calls Tryz.prog 64 #[.agg e.cells.toArray] w fun r w' => r = .returned (sV (txS e)) ∧ Nb w w' := by
  obtain ⟨A0, cap0, hv0, hcap, hlenr, hz⟩ := he.args.row.head
  rw [List.length_map] at hv0 hcap hlenr
  have hX := he.args.row
  have hEs := rtxL_any W0 e.args e.av he.args
  have hkids := fun x hx hg hl w hw => rtxE_any W0 x (he.args.kids x hx) hg hl w hw
  have hc : e.cells = [.int .i64 e.kind, .int .i64 e.at_, sV e.name, sV e.actor, .slice A0 e.args.length cap0] := by
    rw [← hv0]; rfl
  rw [hv0] at hX hEs
  rw [hc]
  rw [rfS_eq] at hg
  unfold rfS lenS at hg
  have htx : txS e = (if e.kind = 1 then ([108, 101, 116, 32] ++ (e.name ++ [32, 61, 32])) ++ jnT (txEs e.args) else if e.kind = 2 then ([108, 101, 116, 32] ++ (e.name ++ [32, 61, 32, 115, 112, 97, 119, 110, 32])) ++ acT e.actor e.args else if e.kind = 3 then [115, 101, 110, 100, 32] ++ jnT (txEs e.args) else [111, 117, 116, 32] ++ jnT (txEs e.args)) ++ [59] := rfl
  obtain ⟨T, hT⟩ : ∃ T, txS e = T := ⟨_, rfl⟩
  rw [hT] at htx hlen ⊢
  obtain ⟨kd, hkd⟩ : ∃ kd, e.kind = kd := ⟨_, rfl⟩
  rw [hkd] at htx hg ⊢
  clear hT hc hv0 hkd
  replace hkids := Lib.hid hkids
  replace hX := Lib.hid hX
  replace hEs := Lib.hid hEs
  by_cases k1 : kd = 1
  · subst k1
    simp only [if_true, if_false, Int.reduceEq] at hg htx
    have h2 : e.args.length = 1 := by
      simp only [Bool.and_eq_true, decide_eq_true_eq] at hg
      have := hg.2.2
      omega
    obtain ⟨x, hxy⟩ : ∃ x, e.args = [x] := by
      match hq : e.args, h2 with
      | [x], _ => exact ⟨x, rfl⟩
    obtain ⟨b, o, hbo, hxc⟩ := RowS.at_ hX.out (i := 0) (r := x.cells) (by rw [hxy]; rfl)
    obtain rfl := hbo
    have hgx : gE x = true := by
      simp only [Bool.and_eq_true] at hg
      exact List.all_eq_true.1 hg.2.1 x (by rw [hxy]; simp)
    have hkx := hkids.out x (by rw [hxy]; simp) hgx
    rw [h2]
    rw [h2] at hcap hlenr
    rw [hxy, jn_one] at htx
    obtain ⟨X, hX1⟩ : ∃ X, txE x = X := ⟨_, rfl⟩
    rw [hX1] at hkx htx
    rw [htx] at hlen
    simp only [List.length_append, List.length_cons, List.length_nil] at hlen
    replace hkx := Lib.hid (hkx (by omega))
    clear hX1 hxy h2 hg hgx
    replace htx := Lib.hid htx
    go_enter Tryz.func64, Tryz.ntmps64
    go_upto_region 1 with (fail)
    obtain ⟨W1, hW1⟩ : ∃ W1, w.alloc (.cells #[.int .i64 1, .int .i64 e.at_, sV e.name, sV e.actor, .slice (some ⟨b, o, none⟩) 1 cap0] 34) = W1 := ⟨_, rfl⟩
    have b1 : W1.heap[w.heap.size]? = some (.cells #[.int .i64 1, .int .i64 e.at_, sV e.name, sV e.actor, .slice (some ⟨b, o, none⟩) 1 cap0] 34 (0, 0)) := by rw [← hW1]; exact new_blk _ _ rfl
    have n1 : Nb w W1 := by rw [← hW1]; exact alloc_nb _ _
    rw [hW1]
    clear hW1
    have h1 : Nb W0 W1 := hw.trans n1
    obtain ⟨B, hB⟩ : ∃ B, w.heap.size = B := ⟨_, rfl⟩
    rw [hB] at b1 ⊢
    clear hB
    have y0 := cell_of_row _ _ 0 _ _ _ b1
    have y2 := cell_of_row _ _ 2 _ _ _ b1
    have y3 := cell_of_row _ _ 3 _ _ _ b1
    have y4 := cell_of_row _ _ 4 _ _ _ b1
    have x0 := h1.cell (hxc 0 _ rfl)
    have x1 := h1.cell (hxc 1 _ rfl)
    have x2 := h1.cell (hxc 2 _ rfl)
    have x3 := h1.cell (hxc 3 _ rfl)
    have x4 := h1.cell (hxc 4 _ rfl)
    simp only [Nat.zero_mul, Nat.add_zero] at x0 x1 x2 x3 x4
    go_upto_region 3 with (fail)
    have hG : Nb W1 W1.drew := drew1R (Nb.refl W1)
    refine wp_region_late [] (fun _ => True) (fun w' => Nb W1 w') (by kernel_rfl) ⟨fun _ => trivial, hG⟩ (fun _ => ?_)
    change wpAnyL _ _ _ _ _ _ _ 12 (List.toArray [false, false, false, false, false, false, false, false, false, false, false, false]) _ _
    refine takeG_l (i := 0) (v := .pointer (some ⟨B, 2, none⟩)) rfl (by kernel_rfl) (by kernel_rfl) (by kernel_rfl) (by rfl) (fun _ _ _ h => h) (.inl ⟨by rfl, by intro w' hw; go_simp <;> omega⟩) ⟨fun _ => trivial, hG⟩ ?_
    simp only [Act.put, List.setIfInBounds_toArray, List.set_cons_zero, List.set_cons_succ]
    refine takeG_l (i := 1) (v := sV e.name) rfl (by kernel_rfl) (by kernel_rfl) (by kernel_rfl) (by rfl) (fun _ _ _ h => h) (.inl ⟨by rfl, by intro w' hw; have hc := hw.cell y2; go_simp <;> omega⟩) ⟨fun _ => trivial, hG⟩ ?_
    simp only [Act.put, List.setIfInBounds_toArray, List.set_cons_zero, List.set_cons_succ]
    refine takeG_l (i := 2) (v := .string (((⟨#[108, 101, 116, 32]⟩ : ByteArray)) ++ ⟨e.name.toArray⟩)) rfl (by kernel_rfl) (by kernel_rfl) (by kernel_rfl) (by rfl) (fun _ _ _ h => h) (.inl ⟨by rfl, by intro w' hw; go_simp <;> omega⟩) ⟨fun _ => trivial, hG⟩ ?_
    simp only [Act.put, List.setIfInBounds_toArray, List.set_cons_zero, List.set_cons_succ]
    refine takeG_l (i := 3) (v := .string ((((⟨#[108, 101, 116, 32]⟩ : ByteArray)) ++ ⟨e.name.toArray⟩) ++ ⟨#[32, 61, 32]⟩)) rfl (by kernel_rfl) (by kernel_rfl) (by kernel_rfl) (by rfl) (fun _ _ _ h => h) (.inl ⟨by rfl, by intro w' hw; go_simp <;> omega⟩) ⟨fun _ => trivial, hG⟩ ?_
    simp only [Act.put, List.setIfInBounds_toArray, List.set_cons_zero, List.set_cons_succ]
    refine takeG_l (i := 4) (v := .pointer (some ⟨B, 4, none⟩)) rfl (by kernel_rfl) (by kernel_rfl) (by kernel_rfl) (by rfl) (fun _ _ _ h => h) (.inl ⟨by rfl, by intro w' hw; go_simp <;> omega⟩) ⟨fun _ => trivial, hG⟩ ?_
    simp only [Act.put, List.setIfInBounds_toArray, List.set_cons_zero, List.set_cons_succ]
    refine takeG_l (i := 5) (v := .slice (some ⟨b, o, none⟩) 1 cap0) rfl (by kernel_rfl) (by kernel_rfl) (by kernel_rfl) (by rfl) (fun _ _ _ h => h) (.inl ⟨by rfl, by intro w' hw; have hc := hw.cell y4; go_simp <;> omega⟩) ⟨fun _ => trivial, hG⟩ ?_
    simp only [Act.put, List.setIfInBounds_toArray, List.set_cons_zero, List.set_cons_succ]
    refine takeG_l (i := 6) (v := .pointer (some ⟨b, o, none⟩)) rfl (by kernel_rfl) (by kernel_rfl) (by kernel_rfl) (by rfl) (fun _ _ _ h => h) (.inl ⟨by rfl, by intro w' hw; go_simp <;> omega⟩) ⟨fun _ => trivial, hG⟩ ?_
    simp only [Act.put, List.setIfInBounds_toArray, List.set_cons_zero, List.set_cons_succ]
    refine takeG_l (i := 7) (v := .agg #[.int .i64 x.kind, .int .i64 x.at_, .int .i64 x.n, sV x.name, x.av]) rfl (by kernel_rfl) (by kernel_rfl) (by kernel_rfl) (by rfl) (fun _ _ _ h => h) (.inl ⟨by rfl, by intro w' hw; have q0 := hw.cell x0; have q1 := hw.cell x1; have q2 := hw.cell x2; have q3 := hw.cell x3; have q4 := hw.cell x4; go_simp <;> omega⟩) ⟨fun _ => trivial, hG⟩ ?_
    simp only [Act.put, List.setIfInBounds_toArray, List.set_cons_zero, List.set_cons_succ]
    generalize W1.drew = Wd at hG ⊢
    refine onlyL_l (i := 8) (by kernel_rfl) rfl (by rfl) (fun K hK => ?_)
    go_simp
    refine (hkx.out _ (h1.trans hG)).mono ?_
    rintro r w5 ⟨rfl, nc⟩
    replace hG := hG.trans nc
    refine hK.out _ _ ⟨fun _ => trivial, hG⟩ (fun _ => ?_)
    clear hK K nc
    simp only [Act.put, List.setIfInBounds_toArray, List.set_cons_zero, List.set_cons_succ]
    refine takeG_l (i := 9) (v := .string (((((⟨#[108, 101, 116, 32]⟩ : ByteArray)) ++ ⟨e.name.toArray⟩) ++ ⟨#[32, 61, 32]⟩) ++ ⟨X.toArray⟩)) rfl (by kernel_rfl) (by kernel_rfl) (by kernel_rfl) (by rfl) (fun _ _ _ h => h) (.inl ⟨by rfl, by intro w' hw; go_simp <;> omega⟩) ⟨fun _ => trivial, hG⟩ ?_
    simp only [Act.put, List.setIfInBounds_toArray, List.set_cons_zero, List.set_cons_succ]
    refine takeG_l (i := 10) (v := .string ((((((⟨#[108, 101, 116, 32]⟩ : ByteArray)) ++ ⟨e.name.toArray⟩) ++ ⟨#[32, 61, 32]⟩) ++ ⟨X.toArray⟩) ++ ⟨#[59]⟩)) rfl (by kernel_rfl) (by kernel_rfl) (by kernel_rfl) (by rfl) (fun _ _ _ h => h) (.inl ⟨by rfl, by intro w' hw; go_simp <;> omega⟩) ⟨fun _ => trivial, hG⟩ ?_
    simp only [Act.put, List.setIfInBounds_toArray, List.set_cons_zero, List.set_cons_succ]
    refine takeG_l (i := 11) (v := .string ((((((⟨#[108, 101, 116, 32]⟩ : ByteArray)) ++ ⟨e.name.toArray⟩) ++ ⟨#[32, 61, 32]⟩) ++ ⟨X.toArray⟩) ++ ⟨#[59]⟩)) rfl (by kernel_rfl) (by kernel_rfl) (by kernel_rfl) (by rfl) (fun _ _ _ h => h) (.inl ⟨by rfl, by intro w' hw; go_simp <;> omega⟩) ⟨fun _ => trivial, hG⟩ ?_
    simp only [Act.put, List.setIfInBounds_toArray, List.set_cons_zero, List.set_cons_succ]
    refine doneL (by kernel_rfl) ?_ _
    go_wp2_with fail
    go_ret
    exact ⟨by rw [htx.out]; show Ending.returned (.string _) = _; simp only [addB, List.append_assoc, List.cons_append, List.nil_append], n1.trans hG⟩
  by_cases k2 : kd = 2
  · subst k2
    simp only [if_true, if_false, Int.reduceEq] at hg htx
    have hga : e.args.all gE = true := by
      simp only [Bool.and_eq_true] at hg
      exact hg.2.1
    try unfold acT at htx
    obtain ⟨X, hX1⟩ : ∃ X, jnT (txEs e.args) = X := ⟨_, rfl⟩
    have hkx := hEs.out hga
    rw [hX1] at hkx htx
    rw [htx] at hlen
    simp only [List.length_append, List.length_cons, List.length_nil] at hlen
    replace hkx := Lib.hid (hkx (by omega))
    clear hX1 hga hg
    replace htx := Lib.hid htx
    go_enter Tryz.func64, Tryz.ntmps64
    go_upto_region 1 with (fail)
    obtain ⟨W1, hW1⟩ : ∃ W1, w.alloc (.cells #[.int .i64 2, .int .i64 e.at_, sV e.name, sV e.actor, .slice A0 e.args.length cap0] 34) = W1 := ⟨_, rfl⟩
    have b1 : W1.heap[w.heap.size]? = some (.cells #[.int .i64 2, .int .i64 e.at_, sV e.name, sV e.actor, .slice A0 e.args.length cap0] 34 (0, 0)) := by rw [← hW1]; exact new_blk _ _ rfl
    have n1 : Nb w W1 := by rw [← hW1]; exact alloc_nb _ _
    rw [hW1]
    clear hW1
    have h1 : Nb W0 W1 := hw.trans n1
    obtain ⟨B, hB⟩ : ∃ B, w.heap.size = B := ⟨_, rfl⟩
    rw [hB] at b1 ⊢
    clear hB
    have y0 := cell_of_row _ _ 0 _ _ _ b1
    have y2 := cell_of_row _ _ 2 _ _ _ b1
    have y3 := cell_of_row _ _ 3 _ _ _ b1
    have y4 := cell_of_row _ _ 4 _ _ _ b1
    go_upto_region 5 with (fail)
    have hG : Nb W1 W1.drew := drew1R (Nb.refl W1)
    refine wp_region_late [] (fun _ => True) (fun w' => Nb W1 w') (by kernel_rfl) ⟨fun _ => trivial, hG⟩ (fun _ => ?_)
    change wpAnyL _ _ _ _ _ _ _ 14 (List.toArray [false, false, false, false, false, false, false, false, false, false, false, false, false, false]) _ _
    refine takeG_l (i := 0) (v := .pointer (some ⟨B, 2, none⟩)) rfl (by kernel_rfl) (by kernel_rfl) (by kernel_rfl) (by rfl) (fun _ _ _ h => h) (.inl ⟨by rfl, by intro w' hw; go_simp <;> omega⟩) ⟨fun _ => trivial, hG⟩ ?_
    simp only [Act.put, List.setIfInBounds_toArray, List.set_cons_zero, List.set_cons_succ]
    refine takeG_l (i := 1) (v := sV e.name) rfl (by kernel_rfl) (by kernel_rfl) (by kernel_rfl) (by rfl) (fun _ _ _ h => h) (.inl ⟨by rfl, by intro w' hw; have hc := hw.cell y2; go_simp <;> omega⟩) ⟨fun _ => trivial, hG⟩ ?_
    simp only [Act.put, List.setIfInBounds_toArray, List.set_cons_zero, List.set_cons_succ]
    refine takeG_l (i := 2) (v := .string (((⟨#[108, 101, 116, 32]⟩ : ByteArray)) ++ ⟨e.name.toArray⟩)) rfl (by kernel_rfl) (by kernel_rfl) (by kernel_rfl) (by rfl) (fun _ _ _ h => h) (.inl ⟨by rfl, by intro w' hw; go_simp <;> omega⟩) ⟨fun _ => trivial, hG⟩ ?_
    simp only [Act.put, List.setIfInBounds_toArray, List.set_cons_zero, List.set_cons_succ]
    refine takeG_l (i := 3) (v := .string ((((⟨#[108, 101, 116, 32]⟩ : ByteArray)) ++ ⟨e.name.toArray⟩) ++ ⟨#[32, 61, 32, 115, 112, 97, 119, 110, 32]⟩)) rfl (by kernel_rfl) (by kernel_rfl) (by kernel_rfl) (by rfl) (fun _ _ _ h => h) (.inl ⟨by rfl, by intro w' hw; go_simp <;> omega⟩) ⟨fun _ => trivial, hG⟩ ?_
    simp only [Act.put, List.setIfInBounds_toArray, List.set_cons_zero, List.set_cons_succ]
    refine takeG_l (i := 4) (v := .pointer (some ⟨B, 3, none⟩)) rfl (by kernel_rfl) (by kernel_rfl) (by kernel_rfl) (by rfl) (fun _ _ _ h => h) (.inl ⟨by rfl, by intro w' hw; go_simp <;> omega⟩) ⟨fun _ => trivial, hG⟩ ?_
    simp only [Act.put, List.setIfInBounds_toArray, List.set_cons_zero, List.set_cons_succ]
    refine takeG_l (i := 5) (v := sV e.actor) rfl (by kernel_rfl) (by kernel_rfl) (by kernel_rfl) (by rfl) (fun _ _ _ h => h) (.inl ⟨by rfl, by intro w' hw; have hc := hw.cell y3; go_simp <;> omega⟩) ⟨fun _ => trivial, hG⟩ ?_
    simp only [Act.put, List.setIfInBounds_toArray, List.set_cons_zero, List.set_cons_succ]
    refine takeG_l (i := 6) (v := .string (((((⟨#[108, 101, 116, 32]⟩ : ByteArray)) ++ ⟨e.name.toArray⟩) ++ ⟨#[32, 61, 32, 115, 112, 97, 119, 110, 32]⟩) ++ ⟨e.actor.toArray⟩)) rfl (by kernel_rfl) (by kernel_rfl) (by kernel_rfl) (by rfl) (fun _ _ _ h => h) (.inl ⟨by rfl, by intro w' hw; go_simp <;> omega⟩) ⟨fun _ => trivial, hG⟩ ?_
    simp only [Act.put, List.setIfInBounds_toArray, List.set_cons_zero, List.set_cons_succ]
    refine takeG_l (i := 7) (v := .string ((((((⟨#[108, 101, 116, 32]⟩ : ByteArray)) ++ ⟨e.name.toArray⟩) ++ ⟨#[32, 61, 32, 115, 112, 97, 119, 110, 32]⟩) ++ ⟨e.actor.toArray⟩) ++ ⟨#[40]⟩)) rfl (by kernel_rfl) (by kernel_rfl) (by kernel_rfl) (by rfl) (fun _ _ _ h => h) (.inl ⟨by rfl, by intro w' hw; go_simp <;> omega⟩) ⟨fun _ => trivial, hG⟩ ?_
    simp only [Act.put, List.setIfInBounds_toArray, List.set_cons_zero, List.set_cons_succ]
    refine takeG_l (i := 8) (v := .pointer (some ⟨B, 4, none⟩)) rfl (by kernel_rfl) (by kernel_rfl) (by kernel_rfl) (by rfl) (fun _ _ _ h => h) (.inl ⟨by rfl, by intro w' hw; go_simp <;> omega⟩) ⟨fun _ => trivial, hG⟩ ?_
    simp only [Act.put, List.setIfInBounds_toArray, List.set_cons_zero, List.set_cons_succ]
    refine takeG_l (i := 9) (v := .slice A0 e.args.length cap0) rfl (by kernel_rfl) (by kernel_rfl) (by kernel_rfl) (by rfl) (fun _ _ _ h => h) (.inl ⟨by rfl, by intro w' hw; have hc := hw.cell y4; go_simp <;> omega⟩) ⟨fun _ => trivial, hG⟩ ?_
    simp only [Act.put, List.setIfInBounds_toArray, List.set_cons_zero, List.set_cons_succ]
    generalize W1.drew = Wd at hG ⊢
    refine onlyL_l (i := 10) (by kernel_rfl) rfl (by rfl) (fun K hK => ?_)
    go_simp
    refine (hkx.out _ (h1.trans hG)).mono ?_
    rintro r w5 ⟨rfl, nc⟩
    replace hG := hG.trans nc
    refine hK.out _ _ ⟨fun _ => trivial, hG⟩ (fun _ => ?_)
    clear hK K nc
    simp only [Act.put, List.setIfInBounds_toArray, List.set_cons_zero, List.set_cons_succ]
    refine takeG_l (i := 11) (v := .string (((((((⟨#[108, 101, 116, 32]⟩ : ByteArray)) ++ ⟨e.name.toArray⟩) ++ ⟨#[32, 61, 32, 115, 112, 97, 119, 110, 32]⟩) ++ ⟨e.actor.toArray⟩) ++ ⟨#[40]⟩) ++ ⟨X.toArray⟩)) rfl (by kernel_rfl) (by kernel_rfl) (by kernel_rfl) (by rfl) (fun _ _ _ h => h) (.inl ⟨by rfl, by intro w' hw; go_simp <;> omega⟩) ⟨fun _ => trivial, hG⟩ ?_
    simp only [Act.put, List.setIfInBounds_toArray, List.set_cons_zero, List.set_cons_succ]
    refine takeG_l (i := 12) (v := .string ((((((((⟨#[108, 101, 116, 32]⟩ : ByteArray)) ++ ⟨e.name.toArray⟩) ++ ⟨#[32, 61, 32, 115, 112, 97, 119, 110, 32]⟩) ++ ⟨e.actor.toArray⟩) ++ ⟨#[40]⟩) ++ ⟨X.toArray⟩) ++ ⟨#[41, 59]⟩)) rfl (by kernel_rfl) (by kernel_rfl) (by kernel_rfl) (by rfl) (fun _ _ _ h => h) (.inl ⟨by rfl, by intro w' hw; go_simp <;> omega⟩) ⟨fun _ => trivial, hG⟩ ?_
    simp only [Act.put, List.setIfInBounds_toArray, List.set_cons_zero, List.set_cons_succ]
    refine takeG_l (i := 13) (v := .string ((((((((⟨#[108, 101, 116, 32]⟩ : ByteArray)) ++ ⟨e.name.toArray⟩) ++ ⟨#[32, 61, 32, 115, 112, 97, 119, 110, 32]⟩) ++ ⟨e.actor.toArray⟩) ++ ⟨#[40]⟩) ++ ⟨X.toArray⟩) ++ ⟨#[41, 59]⟩)) rfl (by kernel_rfl) (by kernel_rfl) (by kernel_rfl) (by rfl) (fun _ _ _ h => h) (.inl ⟨by rfl, by intro w' hw; go_simp <;> omega⟩) ⟨fun _ => trivial, hG⟩ ?_
    simp only [Act.put, List.setIfInBounds_toArray, List.set_cons_zero, List.set_cons_succ]
    refine doneL (by kernel_rfl) ?_ _
    go_wp2_with fail
    go_ret
    exact ⟨by rw [htx.out]; show Ending.returned (.string _) = _; simp only [addB, List.append_assoc, List.cons_append, List.nil_append], n1.trans hG⟩
  by_cases k3 : kd = 3
  · subst k3
    simp only [if_true, if_false, Int.reduceEq] at hg htx
    have hga : e.args.all gE = true := by
      simp only [Bool.and_eq_true] at hg
      exact hg.2.1
    try unfold acT at htx
    obtain ⟨X, hX1⟩ : ∃ X, jnT (txEs e.args) = X := ⟨_, rfl⟩
    have hkx := hEs.out hga
    rw [hX1] at hkx htx
    rw [htx] at hlen
    simp only [List.length_append, List.length_cons, List.length_nil] at hlen
    replace hkx := Lib.hid (hkx (by omega))
    clear hX1 hga hg
    replace htx := Lib.hid htx
    go_enter Tryz.func64, Tryz.ntmps64
    go_upto_region 1 with (fail)
    obtain ⟨W1, hW1⟩ : ∃ W1, w.alloc (.cells #[.int .i64 3, .int .i64 e.at_, sV e.name, sV e.actor, .slice A0 e.args.length cap0] 34) = W1 := ⟨_, rfl⟩
    have b1 : W1.heap[w.heap.size]? = some (.cells #[.int .i64 3, .int .i64 e.at_, sV e.name, sV e.actor, .slice A0 e.args.length cap0] 34 (0, 0)) := by rw [← hW1]; exact new_blk _ _ rfl
    have n1 : Nb w W1 := by rw [← hW1]; exact alloc_nb _ _
    rw [hW1]
    clear hW1
    have h1 : Nb W0 W1 := hw.trans n1
    obtain ⟨B, hB⟩ : ∃ B, w.heap.size = B := ⟨_, rfl⟩
    rw [hB] at b1 ⊢
    clear hB
    have y0 := cell_of_row _ _ 0 _ _ _ b1
    have y2 := cell_of_row _ _ 2 _ _ _ b1
    have y3 := cell_of_row _ _ 3 _ _ _ b1
    have y4 := cell_of_row _ _ 4 _ _ _ b1
    go_wp2_with (go_at_call 22; refine (hkx.out _ h1).mono ?_; rintro r w6 ⟨rfl, g6⟩)
    go_ret
    exact ⟨by rw [htx.out]; show Ending.returned (.string _) = _; simp only [addB, List.append_assoc, List.cons_append, List.nil_append], n1.trans g6⟩
  by_cases k4 : kd = 4
  · subst k4
    simp only [if_true, if_false, Int.reduceEq] at hg htx
    have h2 : e.args.length = 1 := by
      simp only [Bool.and_eq_true, decide_eq_true_eq] at hg
      have := hg.2.2
      omega
    obtain ⟨x, hxy⟩ : ∃ x, e.args = [x] := by
      match hq : e.args, h2 with
      | [x], _ => exact ⟨x, rfl⟩
    obtain ⟨b, o, hbo, hxc⟩ := RowS.at_ hX.out (i := 0) (r := x.cells) (by rw [hxy]; rfl)
    obtain rfl := hbo
    have hgx : gE x = true := by
      simp only [Bool.and_eq_true] at hg
      exact List.all_eq_true.1 hg.2.1 x (by rw [hxy]; simp)
    have hkx := hkids.out x (by rw [hxy]; simp) hgx
    rw [h2]
    rw [h2] at hcap hlenr
    rw [hxy, jn_one] at htx
    obtain ⟨X, hX1⟩ : ∃ X, txE x = X := ⟨_, rfl⟩
    rw [hX1] at hkx htx
    rw [htx] at hlen
    simp only [List.length_append, List.length_cons, List.length_nil] at hlen
    replace hkx := Lib.hid (hkx (by omega))
    clear hX1 hxy h2 hg hgx
    replace htx := Lib.hid htx
    go_enter Tryz.func64, Tryz.ntmps64
    go_upto_region 1 with (fail)
    obtain ⟨W1, hW1⟩ : ∃ W1, w.alloc (.cells #[.int .i64 4, .int .i64 e.at_, sV e.name, sV e.actor, .slice (some ⟨b, o, none⟩) 1 cap0] 34) = W1 := ⟨_, rfl⟩
    have b1 : W1.heap[w.heap.size]? = some (.cells #[.int .i64 4, .int .i64 e.at_, sV e.name, sV e.actor, .slice (some ⟨b, o, none⟩) 1 cap0] 34 (0, 0)) := by rw [← hW1]; exact new_blk _ _ rfl
    have n1 : Nb w W1 := by rw [← hW1]; exact alloc_nb _ _
    rw [hW1]
    clear hW1
    have h1 : Nb W0 W1 := hw.trans n1
    obtain ⟨B, hB⟩ : ∃ B, w.heap.size = B := ⟨_, rfl⟩
    rw [hB] at b1 ⊢
    clear hB
    have y0 := cell_of_row _ _ 0 _ _ _ b1
    have y2 := cell_of_row _ _ 2 _ _ _ b1
    have y3 := cell_of_row _ _ 3 _ _ _ b1
    have y4 := cell_of_row _ _ 4 _ _ _ b1
    have x0 := h1.cell (hxc 0 _ rfl)
    have x1 := h1.cell (hxc 1 _ rfl)
    have x2 := h1.cell (hxc 2 _ rfl)
    have x3 := h1.cell (hxc 3 _ rfl)
    have x4 := h1.cell (hxc 4 _ rfl)
    simp only [Nat.zero_mul, Nat.add_zero] at x0 x1 x2 x3 x4
    go_wp2_with (go_at_call 66; refine (hkx.out _ h1).mono ?_; rintro r w6 ⟨rfl, g6⟩)
    go_ret
    exact ⟨by rw [htx.out]; show Ending.returned (.string _) = _; simp only [addB, List.append_assoc, List.cons_append, List.nil_append], n1.trans g6⟩
  simp only [k1, k2, k3, k4, if_false] at hg
  exact absurd hg (by decide)
end Go.Proofs.YtebcjocpmnapeaaGreatDoor
