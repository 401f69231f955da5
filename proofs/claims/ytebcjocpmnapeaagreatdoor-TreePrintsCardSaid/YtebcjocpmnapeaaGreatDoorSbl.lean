/-
  Proved here: of the reference: the text of an expression. Conditions: the memory holds it.
-/
import Derived.Test.YtebcjocpmnapeaaGreatDoorSbj
import Derived.Test.YtebcjocpmnapeaaGreatDoorSbk
namespace Go.Proofs.YtebcjocpmnapeaaGreatDoor
open Go.RowKit
set_option linter.unusedVariables false
set_option linter.unusedSimpArgs false
set_option maxRecDepth 100000
set_option maxHeartbeats 4000000
theorem jnT_mem {l : List Bs} {x : Bs} (h : x ∈ l) : x.length ≤ (jnT l).length := by
  obtain ⟨i, hi⟩ := List.getElem?_of_mem h
  exact jnT_lt hi
theorem drew1R {a b : World} (h : Nb a b) : Nb a b.drew := h.drewN 1
theorem rtxE_any (W0 : World) : ∀ e : Ex, e.Has W0 → gE e = true → (txE e).length ≤ 1000000 → ∀ w, Nb W0 w → Calls Tryz.prog 66 #[.agg e.cells.toArray] w fun r w' => r = .returned (sV (txE e)) ∧ Nb w w' := by
  intro e
  induction e using Ex.ind
  rename_i e ih
  intro he hg hlen w hw
  rw [gE_eq, Bool.and_eq_true] at hg
  obtain ⟨hg, hgs⟩ := hg
  rw [gEs_all, List.all_eq_true] at hgs
  have hnum := he.num
  have hX := he.exs.row
  obtain ⟨A0, cap0, hv0, hcap, hlenr, hz⟩ := hX.head
  rw [List.length_map] at hv0 hcap hlenr
  have hkids : ∀ x ∈ e.args, (txE x).length ≤ 1000000 → ∀ w, Nb W0 w → Calls Tryz.prog 66 #[.agg x.cells.toArray] w fun r w' => r = .returned (sV (txE x)) ∧ Nb w w' := fun x hx hl w hw => ih x hx (he.exs.kids x hx) (hgs x hx) hl w hw
  have hexs : (jnT (txEs e.args)).length ≤ 1000000 → ∀ w, Nb W0 w → Calls Tryz.prog 22 #[.slice A0 e.args.length cap0] w fun r w' => r = .returned (sV (jnT (txEs e.args))) ∧ Nb w w' := fun hl w hw => by
    rw [← hv0]
    exact rtxEs_any W0 e.args e.av he.exs (fun x hx w hw => hkids x hx (Nat.le_trans (jnT_mem (by rw [txEs_map]; exact List.mem_map_of_mem hx)) hl) w hw) hl w hw
  have hc : e.cells = [.int .i64 e.kind, .int .i64 e.at_, .int .i64 e.n, sV e.name, .slice A0 e.args.length cap0] := by
    rw [← hv0]; rfl
  rw [hv0] at hX
  rw [hc]
  have htx := txE_eq e
  obtain ⟨T, hT⟩ : ∃ T, txE e = T := ⟨_, rfl⟩
  rw [hT] at htx hlen ⊢
  rw [rfE_eq] at hg
  unfold rfE at hg
  obtain ⟨kd, hkd⟩ : ∃ kd, e.kind = kd := ⟨_, rfl⟩
  rw [hkd] at htx hg ⊢
  clear hT ih hgs hc hv0 hkd
  replace hkids := Lib.hid hkids
  replace hexs := Lib.hid hexs
  replace hX := Lib.hid hX
  by_cases k1 : kd = 1
  · subst k1
    simp only [if_true, if_false, Int.reduceEq, true_or, or_true, or_self] at hg htx
    replace htx := Lib.hid htx
    go_enter Tryz.func66, Tryz.ntmps66
    go_upto_region 1 with (fail)
    obtain ⟨W1, hW1⟩ : ∃ W1, w.alloc (.cells #[.int .i64 1, .int .i64 e.at_, .int .i64 e.n, sV e.name, .slice A0 e.args.length cap0] 31) = W1 := ⟨_, rfl⟩
    have b1 : W1.heap[w.heap.size]? = some (.cells #[.int .i64 1, .int .i64 e.at_, .int .i64 e.n, sV e.name, .slice A0 e.args.length cap0] 31 (0, 0)) := by rw [← hW1]; exact new_blk _ _ rfl
    have n1 : Nb w W1 := by rw [← hW1]; exact alloc_nb _ _
    rw [hW1]
    clear hW1
    have h1 : Nb W0 W1 := hw.trans n1
    obtain ⟨B, hB⟩ : ∃ B, w.heap.size = B := ⟨_, rfl⟩
    rw [hB] at b1 ⊢
    clear hB
    have y0 := cell_of_row _ _ 0 _ _ _ b1
    have y2 := cell_of_row _ _ 2 _ _ _ b1
    have y3 := cell_of_row _ _ 3 _ _ _ b1
    have y4 := cell_of_row _ _ 4 _ _ _ b1
    go_wp2_with (go_at_call 84; refine (number_any e.n hnum.1 (by omega) _).mono ?_; rintro r w6 ⟨rfl, g6⟩)
    go_ret
    exact ⟨by rw [htx.out]; first | rfl | (show Ending.returned (.string _) = _; simp only [addB, List.append_assoc]), n1.trans g6⟩
  by_cases k2 : kd = 2
  · subst k2
    simp only [if_true, if_false, Int.reduceEq, true_or, or_true, or_self] at hg htx
    rw [htx, List.length_append] at hlen
    replace htx := Lib.hid htx
    go_enter Tryz.func66, Tryz.ntmps66
    go_upto_region 1 with (fail)
    obtain ⟨W1, hW1⟩ : ∃ W1, w.alloc (.cells #[.int .i64 2, .int .i64 e.at_, .int .i64 e.n, sV e.name, .slice A0 e.args.length cap0] 31) = W1 := ⟨_, rfl⟩
    have b1 : W1.heap[w.heap.size]? = some (.cells #[.int .i64 2, .int .i64 e.at_, .int .i64 e.n, sV e.name, .slice A0 e.args.length cap0] 31 (0, 0)) := by rw [← hW1]; exact new_blk _ _ rfl
    have n1 : Nb w W1 := by rw [← hW1]; exact alloc_nb _ _
    rw [hW1]
    clear hW1
    have h1 : Nb W0 W1 := hw.trans n1
    obtain ⟨B, hB⟩ : ∃ B, w.heap.size = B := ⟨_, rfl⟩
    rw [hB] at b1 ⊢
    clear hB
    have y0 := cell_of_row _ _ 0 _ _ _ b1
    have y2 := cell_of_row _ _ 2 _ _ _ b1
    have y3 := cell_of_row _ _ 3 _ _ _ b1
    have y4 := cell_of_row _ _ 4 _ _ _ b1
    go_wp2_with (fail)
    go_ret
    exact ⟨by rw [htx.out]; first | rfl | (show Ending.returned (.string _) = _; simp only [addB, List.append_assoc]), n1⟩
  by_cases k3 : kd = 3
  · subst k3
    simp only [if_true, if_false, Int.reduceEq, true_or, or_true, or_self] at hg htx
    replace htx := Lib.hid htx
    go_enter Tryz.func66, Tryz.ntmps66
    go_upto_region 1 with (fail)
    obtain ⟨W1, hW1⟩ : ∃ W1, w.alloc (.cells #[.int .i64 3, .int .i64 e.at_, .int .i64 e.n, sV e.name, .slice A0 e.args.length cap0] 31) = W1 := ⟨_, rfl⟩
    have b1 : W1.heap[w.heap.size]? = some (.cells #[.int .i64 3, .int .i64 e.at_, .int .i64 e.n, sV e.name, .slice A0 e.args.length cap0] 31 (0, 0)) := by rw [← hW1]; exact new_blk _ _ rfl
    have n1 : Nb w W1 := by rw [← hW1]; exact alloc_nb _ _
    rw [hW1]
    clear hW1
    have h1 : Nb W0 W1 := hw.trans n1
    obtain ⟨B, hB⟩ : ∃ B, w.heap.size = B := ⟨_, rfl⟩
    rw [hB] at b1 ⊢
    clear hB
    have y0 := cell_of_row _ _ 0 _ _ _ b1
    have y2 := cell_of_row _ _ 2 _ _ _ b1
    have y3 := cell_of_row _ _ 3 _ _ _ b1
    have y4 := cell_of_row _ _ 4 _ _ _ b1
    go_wp2_with (fail)
    go_ret
    exact ⟨by rw [htx.out]; first | rfl | (show Ending.returned (.string _) = _; simp only [addB, List.append_assoc]), n1⟩
  by_cases k4 : kd = 4
  · subst k4
    simp only [if_true, if_false, Int.reduceEq, true_or, or_true, or_self] at hg htx
    replace htx := Lib.hid htx
    go_enter Tryz.func66, Tryz.ntmps66
    go_upto_region 1 with (fail)
    obtain ⟨W1, hW1⟩ : ∃ W1, w.alloc (.cells #[.int .i64 4, .int .i64 e.at_, .int .i64 e.n, sV e.name, .slice A0 e.args.length cap0] 31) = W1 := ⟨_, rfl⟩
    have b1 : W1.heap[w.heap.size]? = some (.cells #[.int .i64 4, .int .i64 e.at_, .int .i64 e.n, sV e.name, .slice A0 e.args.length cap0] 31 (0, 0)) := by rw [← hW1]; exact new_blk _ _ rfl
    have n1 : Nb w W1 := by rw [← hW1]; exact alloc_nb _ _
    rw [hW1]
    clear hW1
    have h1 : Nb W0 W1 := hw.trans n1
    obtain ⟨B, hB⟩ : ∃ B, w.heap.size = B := ⟨_, rfl⟩
    rw [hB] at b1 ⊢
    clear hB
    have y0 := cell_of_row _ _ 0 _ _ _ b1
    have y2 := cell_of_row _ _ 2 _ _ _ b1
    have y3 := cell_of_row _ _ 3 _ _ _ b1
    have y4 := cell_of_row _ _ 4 _ _ _ b1
    go_wp2_with (fail)
    go_ret
    exact ⟨by rw [htx.out]; first | rfl | (show Ending.returned (.string _) = _; simp only [addB, List.append_assoc]), n1⟩
  by_cases k5 : kd = 5
  · subst k5
    simp only [if_true, if_false, Int.reduceEq, true_or, or_true, or_self] at hg htx
    rw [htx, List.length_append, List.length_append] at hlen
    simp only [List.length_cons, List.length_nil] at hlen
    have hcall := Lib.hid (hexs.out (by omega))
    obtain ⟨L5, hL5⟩ : ∃ L5, jnT (txEs e.args) = L5 := ⟨_, rfl⟩
    rw [hL5] at hcall htx hlen
    clear hL5
    replace htx := Lib.hid htx
    go_enter Tryz.func66, Tryz.ntmps66
    go_upto_region 1 with (fail)
    obtain ⟨W1, hW1⟩ : ∃ W1, w.alloc (.cells #[.int .i64 5, .int .i64 e.at_, .int .i64 e.n, sV e.name, .slice A0 e.args.length cap0] 31) = W1 := ⟨_, rfl⟩
    have b1 : W1.heap[w.heap.size]? = some (.cells #[.int .i64 5, .int .i64 e.at_, .int .i64 e.n, sV e.name, .slice A0 e.args.length cap0] 31 (0, 0)) := by rw [← hW1]; exact new_blk _ _ rfl
    have n1 : Nb w W1 := by rw [← hW1]; exact alloc_nb _ _
    rw [hW1]
    clear hW1
    have h1 : Nb W0 W1 := hw.trans n1
    obtain ⟨B, hB⟩ : ∃ B, w.heap.size = B := ⟨_, rfl⟩
    rw [hB] at b1 ⊢
    clear hB
    have y0 := cell_of_row _ _ 0 _ _ _ b1
    have y2 := cell_of_row _ _ 2 _ _ _ b1
    have y3 := cell_of_row _ _ 3 _ _ _ b1
    have y4 := cell_of_row _ _ 4 _ _ _ b1
    go_wp2_with (go_at_call 22; refine (hcall.out _ h1).mono ?_; rintro r w6 ⟨rfl, g6⟩)
    go_ret
    exact ⟨by rw [htx.out]; first | rfl | (show Ending.returned (.string _) = _; simp only [addB, List.append_assoc]), n1.trans g6⟩
  by_cases k6 : kd = 6
  · subst k6
    simp only [if_true, if_false, Int.reduceEq, true_or, or_true, or_self] at hg htx
    have h2 : e.args.length = 2 := by
      simp only [Bool.and_eq_true, decide_eq_true_eq] at hg
      have := hg.2
      omega
    obtain ⟨x, y, hxy⟩ : ∃ x y, e.args = [x, y] := by
      match hq : e.args, h2 with
      | [x, y], _ => exact ⟨x, y, rfl⟩
    obtain ⟨b, o, hbo, hxc⟩ := RowS.at_ hX.out (i := 0) (r := x.cells) (by rw [hxy]; rfl)
    obtain rfl := hbo
    obtain ⟨b', o', hbo, hyc⟩ := RowS.at_ hX.out (i := 1) (r := y.cells) (by rw [hxy]; rfl)
    obtain ⟨rfl, rfl⟩ : b = b' ∧ o = o' := by
      simp only [Value.slice.injEq, Option.some.injEq, Addr.mk.injEq] at hbo
      exact ⟨hbo.1, by omega⟩
    clear hbo
    have hkx := hkids.out x (by rw [hxy]; simp)
    have hky := hkids.out y (by rw [hxy]; simp)
    rw [hxy] at htx
    rw [h2]
    rw [h2] at hcap hlenr
    rw [show (txEs [x, y]).getD 0 [] = txE x from rfl, show (txEs [x, y]).getD 1 [] = txE y from rfl] at htx
    obtain ⟨X, hX1⟩ : ∃ X, txE x = X := ⟨_, rfl⟩
    obtain ⟨Y, hY1⟩ : ∃ Y, txE y = Y := ⟨_, rfl⟩
    rw [hX1] at hkx htx
    rw [hY1] at hky htx
    rw [htx] at hlen
    simp only [List.length_append, List.length_cons, List.length_nil] at hlen
    replace hkx := Lib.hid (hkx (by omega))
    replace hky := Lib.hid (hky (by omega))
    clear hX1 hY1 hxy h2 hg
    replace htx := Lib.hid htx
    go_enter Tryz.func66, Tryz.ntmps66
    go_upto_region 1 with (fail)
    obtain ⟨W1, hW1⟩ : ∃ W1, w.alloc (.cells #[.int .i64 6, .int .i64 e.at_, .int .i64 e.n, sV e.name, .slice (some ⟨b, o, none⟩) 2 cap0] 31) = W1 := ⟨_, rfl⟩
    have b1 : W1.heap[w.heap.size]? = some (.cells #[.int .i64 6, .int .i64 e.at_, .int .i64 e.n, sV e.name, .slice (some ⟨b, o, none⟩) 2 cap0] 31 (0, 0)) := by rw [← hW1]; exact new_blk _ _ rfl
    have n1 : Nb w W1 := by rw [← hW1]; exact alloc_nb _ _
    rw [hW1]
    clear hW1
    have h1 : Nb W0 W1 := hw.trans n1
    obtain ⟨B, hB⟩ : ∃ B, w.heap.size = B := ⟨_, rfl⟩
    rw [hB] at b1 ⊢
    clear hB
    have y0 := cell_of_row _ _ 0 _ _ _ b1
    have y2 := cell_of_row _ _ 2 _ _ _ b1
    have y3 := cell_of_row _ _ 3 _ _ _ b1
    have y4 := cell_of_row _ _ 4 _ _ _ b1
    have x0 := h1.cell (hxc 0 _ rfl)
    have x1 := h1.cell (hxc 1 _ rfl)
    have x2 := h1.cell (hxc 2 _ rfl)
    have x3 := h1.cell (hxc 3 _ rfl)
    have x4 := h1.cell (hxc 4 _ rfl)
    have z0 := h1.cell (hyc 0 _ rfl)
    have z1 := h1.cell (hyc 1 _ rfl)
    have z2 := h1.cell (hyc 2 _ rfl)
    have z3 := h1.cell (hyc 3 _ rfl)
    have z4 := h1.cell (hyc 4 _ rfl)
    simp only [Nat.zero_mul, Nat.one_mul, Nat.add_zero] at x0 x1 x2 x3 x4 z0 z1 z2 z3 z4
    go_upto_region 12 with (fail)
    have hG : Nb W1 W1.drew := drew1R (Nb.refl W1)
    refine wp_region_late [] (fun _ => True) (fun w' => Nb W1 w') (by kernel_rfl) ⟨fun _ => trivial, hG⟩ (fun _ => ?_)
    change wpAnyL _ _ _ _ _ _ _ 19 (List.toArray [false, false, false, false, false, false, false, false, false, false, false, false, false, false, false, false, false, false, false]) _ _
    refine takeG_l (i := 0) (v := .pointer (some ⟨B, 4, none⟩)) rfl (by kernel_rfl) (by kernel_rfl) (by kernel_rfl) (by rfl) (fun _ _ _ h => h) (.inl ⟨by rfl, by intro w' hw; go_simp⟩) ⟨fun _ => trivial, hG⟩ ?_
    simp only [Act.put, List.setIfInBounds_toArray, List.set_cons_zero, List.set_cons_succ]
    refine takeG_l (i := 1) (v := .slice (some ⟨b, o, none⟩) 2 cap0) rfl (by kernel_rfl) (by kernel_rfl) (by kernel_rfl) (by rfl) (fun _ _ _ h => h) (.inl ⟨by rfl, by intro w' hw; have hc := hw.cell y4; go_simp⟩) ⟨fun _ => trivial, hG⟩ ?_
    simp only [Act.put, List.setIfInBounds_toArray, List.set_cons_zero, List.set_cons_succ]
    refine takeG_l (i := 2) (v := .pointer (some ⟨b, o, none⟩)) rfl (by kernel_rfl) (by kernel_rfl) (by kernel_rfl) (by rfl) (fun _ _ _ h => h) (.inl ⟨by rfl, by intro w' hw; go_simp⟩) ⟨fun _ => trivial, hG⟩ ?_
    simp only [Act.put, List.setIfInBounds_toArray, List.set_cons_zero, List.set_cons_succ]
    refine takeG_l (i := 3) (v := .agg #[.int .i64 x.kind, .int .i64 x.at_, .int .i64 x.n, sV x.name, x.av]) rfl (by kernel_rfl) (by kernel_rfl) (by kernel_rfl) (by rfl) (fun _ _ _ h => h) (.inl ⟨by rfl, by intro w' hw; have q0 := hw.cell x0; have q1 := hw.cell x1; have q2 := hw.cell x2; have q3 := hw.cell x3; have q4 := hw.cell x4; go_simp⟩) ⟨fun _ => trivial, hG⟩ ?_
    simp only [Act.put, List.setIfInBounds_toArray, List.set_cons_zero, List.set_cons_succ]
    refine takeG_l (i := 7) (v := .pointer (some ⟨B, 3, none⟩)) rfl (by kernel_rfl) (by kernel_rfl) (by kernel_rfl) (by rfl) (fun _ _ _ h => h) (.inl ⟨by rfl, by intro w' hw; go_simp⟩) ⟨fun _ => trivial, hG⟩ ?_
    simp only [Act.put, List.setIfInBounds_toArray, List.set_cons_zero, List.set_cons_succ]
    refine takeG_l (i := 8) (v := sV e.name) rfl (by kernel_rfl) (by kernel_rfl) (by kernel_rfl) (by rfl) (fun _ _ _ h => h) (.inl ⟨by rfl, by intro w' hw; have hc := hw.cell y3; go_simp⟩) ⟨fun _ => trivial, hG⟩ ?_
    simp only [Act.put, List.setIfInBounds_toArray, List.set_cons_zero, List.set_cons_succ]
    refine takeG_l (i := 11) (v := .pointer (some ⟨B, 4, none⟩)) rfl (by kernel_rfl) (by kernel_rfl) (by kernel_rfl) (by rfl) (fun _ _ _ h => h) (.inl ⟨by rfl, by intro w' hw; go_simp⟩) ⟨fun _ => trivial, hG⟩ ?_
    simp only [Act.put, List.setIfInBounds_toArray, List.set_cons_zero, List.set_cons_succ]
    refine takeG_l (i := 12) (v := .slice (some ⟨b, o, none⟩) 2 cap0) rfl (by kernel_rfl) (by kernel_rfl) (by kernel_rfl) (by rfl) (fun _ _ _ h => h) (.inl ⟨by rfl, by intro w' hw; have hc := hw.cell y4; go_simp⟩) ⟨fun _ => trivial, hG⟩ ?_
    simp only [Act.put, List.setIfInBounds_toArray, List.set_cons_zero, List.set_cons_succ]
    refine takeG_l (i := 13) (v := .pointer (some ⟨b, o + 5, none⟩)) rfl (by kernel_rfl) (by kernel_rfl) (by kernel_rfl) (by rfl) (fun _ _ _ h => h) (.inl ⟨by rfl, by intro w' hw; go_simp⟩) ⟨fun _ => trivial, hG⟩ ?_
    simp only [Act.put, List.setIfInBounds_toArray, List.set_cons_zero, List.set_cons_succ]
    refine takeG_l (i := 14) (v := .agg #[.int .i64 y.kind, .int .i64 y.at_, .int .i64 y.n, sV y.name, y.av]) rfl (by kernel_rfl) (by kernel_rfl) (by kernel_rfl) (by rfl) (fun _ _ _ h => h) (.inl ⟨by rfl, by intro w' hw; have q0 := hw.cell z0; have q1 := hw.cell z1; have q2 := hw.cell z2; have q3 := hw.cell z3; have q4 := hw.cell z4; go_simp⟩) ⟨fun _ => trivial, hG⟩ ?_
    simp only [Act.put, List.setIfInBounds_toArray, List.set_cons_zero, List.set_cons_succ]
    generalize W1.drew = Wd at hG ⊢
    refine onlyL_l (i := 4) (by kernel_rfl) rfl (by rfl) (fun K hK => ?_)
    go_simp
    refine (hkx.out _ (h1.trans hG)).mono ?_
    rintro r w5 ⟨rfl, nc⟩
    replace hG := hG.trans nc
    refine hK.out _ _ ⟨fun _ => trivial, hG⟩ (fun _ => ?_)
    clear hK K nc
    simp only [Act.put, List.setIfInBounds_toArray, List.set_cons_zero, List.set_cons_succ]
    refine takeG_l (i := 5) (v := .string (((⟨#[40]⟩ : ByteArray)) ++ ⟨X.toArray⟩)) rfl (by kernel_rfl) (by kernel_rfl) (by kernel_rfl) (by rfl) (fun _ _ _ h => h) (.inl ⟨by rfl, by intro w' hw; go_simp <;> omega⟩) ⟨fun _ => trivial, hG⟩ ?_
    simp only [Act.put, List.setIfInBounds_toArray, List.set_cons_zero, List.set_cons_succ]
    refine takeG_l (i := 6) (v := .string ((((⟨#[40]⟩ : ByteArray)) ++ ⟨X.toArray⟩) ++ ⟨#[32]⟩)) rfl (by kernel_rfl) (by kernel_rfl) (by kernel_rfl) (by rfl) (fun _ _ _ h => h) (.inl ⟨by rfl, by intro w' hw; go_simp <;> omega⟩) ⟨fun _ => trivial, hG⟩ ?_
    simp only [Act.put, List.setIfInBounds_toArray, List.set_cons_zero, List.set_cons_succ]
    refine takeG_l (i := 9) (v := .string (((((⟨#[40]⟩ : ByteArray)) ++ ⟨X.toArray⟩) ++ ⟨#[32]⟩) ++ ⟨e.name.toArray⟩)) rfl (by kernel_rfl) (by kernel_rfl) (by kernel_rfl) (by rfl) (fun _ _ _ h => h) (.inl ⟨by rfl, by intro w' hw; go_simp <;> omega⟩) ⟨fun _ => trivial, hG⟩ ?_
    simp only [Act.put, List.setIfInBounds_toArray, List.set_cons_zero, List.set_cons_succ]
    refine takeG_l (i := 10) (v := .string ((((((⟨#[40]⟩ : ByteArray)) ++ ⟨X.toArray⟩) ++ ⟨#[32]⟩) ++ ⟨e.name.toArray⟩) ++ ⟨#[32]⟩)) rfl (by kernel_rfl) (by kernel_rfl) (by kernel_rfl) (by rfl) (fun _ _ _ h => h) (.inl ⟨by rfl, by intro w' hw; go_simp <;> omega⟩) ⟨fun _ => trivial, hG⟩ ?_
    simp only [Act.put, List.setIfInBounds_toArray, List.set_cons_zero, List.set_cons_succ]
    refine onlyL_l (i := 15) (by kernel_rfl) rfl (by rfl) (fun K hK => ?_)
    go_simp
    refine (hky.out _ (h1.trans hG)).mono ?_
    rintro r w5 ⟨rfl, nc⟩
    replace hG := hG.trans nc
    refine hK.out _ _ ⟨fun _ => trivial, hG⟩ (fun _ => ?_)
    clear hK K nc
    simp only [Act.put, List.setIfInBounds_toArray, List.set_cons_zero, List.set_cons_succ]
    refine takeG_l (i := 16) (v := .string (((((((⟨#[40]⟩ : ByteArray)) ++ ⟨X.toArray⟩) ++ ⟨#[32]⟩) ++ ⟨e.name.toArray⟩) ++ ⟨#[32]⟩) ++ ⟨Y.toArray⟩)) rfl (by kernel_rfl) (by kernel_rfl) (by kernel_rfl) (by rfl) (fun _ _ _ h => h) (.inl ⟨by rfl, by intro w' hw; go_simp <;> omega⟩) ⟨fun _ => trivial, hG⟩ ?_
    simp only [Act.put, List.setIfInBounds_toArray, List.set_cons_zero, List.set_cons_succ]
    refine takeG_l (i := 17) (v := .string ((((((((⟨#[40]⟩ : ByteArray)) ++ ⟨X.toArray⟩) ++ ⟨#[32]⟩) ++ ⟨e.name.toArray⟩) ++ ⟨#[32]⟩) ++ ⟨Y.toArray⟩) ++ ⟨#[41]⟩)) rfl (by kernel_rfl) (by kernel_rfl) (by kernel_rfl) (by rfl) (fun _ _ _ h => h) (.inl ⟨by rfl, by intro w' hw; go_simp <;> omega⟩) ⟨fun _ => trivial, hG⟩ ?_
    simp only [Act.put, List.setIfInBounds_toArray, List.set_cons_zero, List.set_cons_succ]
    refine takeG_l (i := 18) (v := .string ((((((((⟨#[40]⟩ : ByteArray)) ++ ⟨X.toArray⟩) ++ ⟨#[32]⟩) ++ ⟨e.name.toArray⟩) ++ ⟨#[32]⟩) ++ ⟨Y.toArray⟩) ++ ⟨#[41]⟩)) rfl (by kernel_rfl) (by kernel_rfl) (by kernel_rfl) (by rfl) (fun _ _ _ h => h) (.inl ⟨by rfl, by intro w' hw; go_simp <;> omega⟩) ⟨fun _ => trivial, hG⟩ ?_
    simp only [Act.put, List.setIfInBounds_toArray, List.set_cons_zero, List.set_cons_succ]
    refine doneL (by kernel_rfl) ?_ _
    go_wp2_with fail
    go_ret
    exact ⟨by rw [htx.out]; show Ending.returned (.string _) = _; simp only [addB, List.append_assoc], n1.trans hG⟩
  simp only [k1, k2, k3, k4, k5, k6, if_false, or_self] at hg
  exact absurd hg (by decide)
end Go.Proofs.YtebcjocpmnapeaaGreatDoor
