/-
  Proved here: of the reference: the text of a body's end. Conditions: stated.
-/
import Derived.Test.YtebcjocpmnapeaaGreatDoorSbn
import Derived.Test.YtebcjocpmnapeaaGreatDoorSbo
import Derived.Test.YtebcjocpmnapeaaGreatDoorSbp
import Derived.Test.YtebcjocpmnapeaaGreatDoorSai
namespace Go.Proofs.YtebcjocpmnapeaaGreatDoor
open Go.RowKit
set_option linter.unusedVariables false
set_option linter.unusedSimpArgs false
set_option maxRecDepth 100000
set_option maxHeartbeats 4000000
theorem rendT_any (W0 : World) (e : Bd) (he : e.Has W0) (hg : gB e = true) (hlen : (endT e).length ≤ 1000000)
    (hP : ∀ x ∈ e.parts, (txB x).length ≤ 1000000 → ∀ w, Nb W0 w → Calls Tryz.prog 21 #[.agg x.cells.toArray] w fun r w' => r = .returned (sV (txB x)) ∧ Nb w w')
    (hM : ∀ m ∈ e.arms, (txB m.body).length ≤ 1000000 → ∀ w, Nb W0 w → Calls Tryz.prog 21 #[.agg m.body.cells.toArray] w fun r w' => r = .returned (sV (txB m.body)) ∧ Nb w w')
    (w : World) (hw : Nb W0 w) : Calls Tryz.prog 65 #[.agg e.cells.toArray] w fun r w' => r = .returned (sV (endT e)) ∧ Nb w w' := by
  cases he with
  | mk srow skids args prow pkids mrow mpat mguard mbody ac af =>
  obtain ⟨A0, cp0, hv0, hcap0, hlq0, -⟩ := srow.head
  obtain ⟨A1, cp1, hv1, hcap1, hlq1, -⟩ := args.row.head
  obtain ⟨A2, cp2, hv2, hcap2, hlq2, -⟩ := prow.head
  obtain ⟨A3, cp3, hv3, hcap3, hlq3, -⟩ := mrow.head
  rw [List.length_map] at hv0 hlq0 hcap0 hv1 hlq1 hcap1 hv2 hlq2 hcap2 hv3 hlq3 hcap3
  have hEs := rtxL_any W0 e.args e.av args
  have hkids := fun x hx hg hl w hw => rtxE_any W0 x (args.kids x hx) hg hl w hw
  have hXa := args.row
  have hc : e.cells = [.slice A0 e.stmts.length cp0, .int .i64 e.kind, .int .i64 e.at_, sV e.actor, .slice A1 e.args.length cp1, .slice A2 e.parts.length cp2, .slice A3 e.arms.length cp3, .bool e.late, .int .i64 e.after] := by
    rw [← hv0, ← hv1, ← hv2, ← hv3]; rfl
  rw [hv1] at hEs hXa
  rw [hv2] at prow
  rw [hv3] at mrow
  rw [hc]
  rw [rfB_eq] at hg
  unfold rfB at hg
  have hgM : ∀ m ∈ e.arms, gA m = true := by
    simp only [Bool.and_eq_true] at hg
    exact List.all_eq_true.1 hg.2.1
  replace hg : rfX e = true := by
    simp only [Bool.and_eq_true] at hg
    exact hg.2.2
  unfold rfX lenS at hg
  have htx : endT e = if e.kind = 1 then [98, 101, 99, 111, 109, 101, 32] ++ acT e.actor e.args else if e.kind = 2 then [115, 116, 111, 112] else if e.kind = 3 then [105, 102, 32] ++ (jnT (txEs e.args) ++ ([32] ++ ((txBs e.parts).getD 0 [] ++ ([32, 101, 108, 115, 101, 32] ++ (txBs e.parts).getD 1 []))))
      else rcT e.late e.after (txBs e.parts) (txAs e.arms) := rfl
  obtain ⟨T, hT⟩ : ∃ T, endT e = T := ⟨_, rfl⟩
  rw [hT] at htx hlen ⊢
  obtain ⟨kd, hkd⟩ : ∃ kd, e.kind = kd := ⟨_, rfl⟩
  rw [hkd] at htx hg ⊢
  clear hT hc hv0 hv1 hv2 hv3 hkd srow skids pkids args
  replace hkids := Lib.hid hkids
  replace hXa := Lib.hid hXa
  replace prow := Lib.hid prow
  replace mrow := Lib.hid mrow
  replace mpat := Lib.hid mpat
  replace mguard := Lib.hid mguard
  replace mbody := Lib.hid mbody
  replace hEs := Lib.hid hEs
  replace hP := Lib.hid hP
  replace hM := Lib.hid hM
  replace hgM := Lib.hid hgM
  by_cases k1 : kd = 1
  · subst k1
    simp only [if_true, if_false, Int.reduceEq] at hg htx
    have hga : e.args.all gE = true := by
      simp only [Bool.and_eq_true] at hg
      exact hg.2.1.2.1
    unfold acT at htx
    obtain ⟨X, hX1⟩ : ∃ X, jnT (txEs e.args) = X := ⟨_, rfl⟩
    have hkx := hEs.out hga
    rw [hX1] at hkx htx
    rw [htx] at hlen
    simp only [List.length_append, List.length_cons, List.length_nil] at hlen
    replace hkx := Lib.hid (hkx (by omega))
    clear hX1 hga hg
    replace htx := Lib.hid htx
    go_enter Tryz.func65, Tryz.ntmps65
    go_upto_region 1 with (fail)
    obtain ⟨W1, hW1⟩ : ∃ W1, w.alloc (.cells #[.slice A0 e.stmts.length cp0, .int .i64 1, .int .i64 e.at_, sV e.actor, .slice A1 e.args.length cp1, .slice A2 e.parts.length cp2, .slice A3 e.arms.length cp3, .bool e.late, .int .i64 e.after] 39) = W1 := ⟨_, rfl⟩
    have b1 : W1.heap[w.heap.size]? = some (.cells #[.slice A0 e.stmts.length cp0, .int .i64 1, .int .i64 e.at_, sV e.actor, .slice A1 e.args.length cp1, .slice A2 e.parts.length cp2, .slice A3 e.arms.length cp3, .bool e.late, .int .i64 e.after] 39 (0, 0)) := by rw [← hW1]; exact new_blk _ _ rfl
    have n1 : Nb w W1 := by rw [← hW1]; exact alloc_nb _ _
    rw [hW1]
    clear hW1
    have h1 : Nb W0 W1 := hw.trans n1
    obtain ⟨B, hB⟩ : ∃ B, w.heap.size = B := ⟨_, rfl⟩
    rw [hB] at b1 ⊢
    clear hB
    have y1 := cell_of_row _ _ 1 _ _ _ b1
    have y3 := cell_of_row _ _ 3 _ _ _ b1
    have y4 := cell_of_row _ _ 4 _ _ _ b1
    have y5 := cell_of_row _ _ 5 _ _ _ b1
    have y6 := cell_of_row _ _ 6 _ _ _ b1
    have y7 := cell_of_row _ _ 7 _ _ _ b1
    have y8 := cell_of_row _ _ 8 _ _ _ b1
    go_upto_region 3 with (fail)
    have hG : Nb W1 W1.drew := drew1R (Nb.refl W1)
    refine wp_region_late [] (fun _ => True) (fun w' => Nb W1 w') (by kernel_rfl) ⟨fun _ => trivial, hG⟩ (fun _ => ?_)
    change wpAnyL _ _ _ _ _ _ _ 10 (List.toArray [false, false, false, false, false, false, false, false, false, false]) _ _
    refine takeG_l (i := 0) (v := .pointer (some ⟨B, 3, none⟩)) rfl (by kernel_rfl) (by kernel_rfl) (by kernel_rfl) (by rfl) (fun _ _ _ h => h) (.inl ⟨by rfl, by intro w' hw; go_simp <;> omega⟩) ⟨fun _ => trivial, hG⟩ ?_
    simp only [Act.put, List.setIfInBounds_toArray, List.set_cons_zero, List.set_cons_succ]
    refine takeG_l (i := 1) (v := sV e.actor) rfl (by kernel_rfl) (by kernel_rfl) (by kernel_rfl) (by rfl) (fun _ _ _ h => h) (.inl ⟨by rfl, by intro w' hw; have hc := hw.cell y3; go_simp <;> omega⟩) ⟨fun _ => trivial, hG⟩ ?_
    simp only [Act.put, List.setIfInBounds_toArray, List.set_cons_zero, List.set_cons_succ]
    refine takeG_l (i := 2) (v := .string (((⟨#[98, 101, 99, 111, 109, 101, 32]⟩ : ByteArray)) ++ ⟨e.actor.toArray⟩)) rfl (by kernel_rfl) (by kernel_rfl) (by kernel_rfl) (by rfl) (fun _ _ _ h => h) (.inl ⟨by rfl, by intro w' hw; go_simp <;> omega⟩) ⟨fun _ => trivial, hG⟩ ?_
    simp only [Act.put, List.setIfInBounds_toArray, List.set_cons_zero, List.set_cons_succ]
    refine takeG_l (i := 3) (v := .string ((((⟨#[98, 101, 99, 111, 109, 101, 32]⟩ : ByteArray)) ++ ⟨e.actor.toArray⟩) ++ ⟨#[40]⟩)) rfl (by kernel_rfl) (by kernel_rfl) (by kernel_rfl) (by rfl) (fun _ _ _ h => h) (.inl ⟨by rfl, by intro w' hw; go_simp <;> omega⟩) ⟨fun _ => trivial, hG⟩ ?_
    simp only [Act.put, List.setIfInBounds_toArray, List.set_cons_zero, List.set_cons_succ]
    refine takeG_l (i := 4) (v := .pointer (some ⟨B, 4, none⟩)) rfl (by kernel_rfl) (by kernel_rfl) (by kernel_rfl) (by rfl) (fun _ _ _ h => h) (.inl ⟨by rfl, by intro w' hw; go_simp <;> omega⟩) ⟨fun _ => trivial, hG⟩ ?_
    simp only [Act.put, List.setIfInBounds_toArray, List.set_cons_zero, List.set_cons_succ]
    refine takeG_l (i := 5) (v := .slice A1 e.args.length cp1) rfl (by kernel_rfl) (by kernel_rfl) (by kernel_rfl) (by rfl) (fun _ _ _ h => h) (.inl ⟨by rfl, by intro w' hw; have hc := hw.cell y4; go_simp <;> omega⟩) ⟨fun _ => trivial, hG⟩ ?_
    simp only [Act.put, List.setIfInBounds_toArray, List.set_cons_zero, List.set_cons_succ]
    generalize W1.drew = Wd at hG ⊢
    refine onlyL_l (i := 6) (by kernel_rfl) rfl (by rfl) (fun K hK => ?_)
    go_simp
    refine (hkx.out _ (h1.trans hG)).mono ?_
    rintro r w5 ⟨rfl, nc⟩
    replace hG := hG.trans nc
    refine hK.out _ _ ⟨fun _ => trivial, hG⟩ (fun _ => ?_)
    clear hK K nc
    simp only [Act.put, List.setIfInBounds_toArray, List.set_cons_zero, List.set_cons_succ]
    refine takeG_l (i := 7) (v := .string (((((⟨#[98, 101, 99, 111, 109, 101, 32]⟩ : ByteArray)) ++ ⟨e.actor.toArray⟩) ++ ⟨#[40]⟩) ++ ⟨X.toArray⟩)) rfl (by kernel_rfl) (by kernel_rfl) (by kernel_rfl) (by rfl) (fun _ _ _ h => h) (.inl ⟨by rfl, by intro w' hw; go_simp <;> omega⟩) ⟨fun _ => trivial, hG⟩ ?_
    simp only [Act.put, List.setIfInBounds_toArray, List.set_cons_zero, List.set_cons_succ]
    refine takeG_l (i := 8) (v := .string ((((((⟨#[98, 101, 99, 111, 109, 101, 32]⟩ : ByteArray)) ++ ⟨e.actor.toArray⟩) ++ ⟨#[40]⟩) ++ ⟨X.toArray⟩) ++ ⟨#[41]⟩)) rfl (by kernel_rfl) (by kernel_rfl) (by kernel_rfl) (by rfl) (fun _ _ _ h => h) (.inl ⟨by rfl, by intro w' hw; go_simp <;> omega⟩) ⟨fun _ => trivial, hG⟩ ?_
    simp only [Act.put, List.setIfInBounds_toArray, List.set_cons_zero, List.set_cons_succ]
    refine takeG_l (i := 9) (v := .string ((((((⟨#[98, 101, 99, 111, 109, 101, 32]⟩ : ByteArray)) ++ ⟨e.actor.toArray⟩) ++ ⟨#[40]⟩) ++ ⟨X.toArray⟩) ++ ⟨#[41]⟩)) rfl (by kernel_rfl) (by kernel_rfl) (by kernel_rfl) (by rfl) (fun _ _ _ h => h) (.inl ⟨by rfl, by intro w' hw; go_simp <;> omega⟩) ⟨fun _ => trivial, hG⟩ ?_
    simp only [Act.put, List.setIfInBounds_toArray, List.set_cons_zero, List.set_cons_succ]
    refine doneL (by kernel_rfl) ?_ _
    go_wp2_with fail
    go_ret
    exact ⟨by rw [htx.out]; show Ending.returned (.string _) = _; simp only [addB, List.append_assoc, List.cons_append, List.nil_append], n1.trans hG⟩
  by_cases k2 : kd = 2
  · subst k2
    simp only [if_true, if_false, Int.reduceEq] at hg htx
    replace htx := Lib.hid htx
    go_enter Tryz.func65, Tryz.ntmps65
    go_upto_region 1 with (fail)
    obtain ⟨W1, hW1⟩ : ∃ W1, w.alloc (.cells #[.slice A0 e.stmts.length cp0, .int .i64 2, .int .i64 e.at_, sV e.actor, .slice A1 e.args.length cp1, .slice A2 e.parts.length cp2, .slice A3 e.arms.length cp3, .bool e.late, .int .i64 e.after] 39) = W1 := ⟨_, rfl⟩
    have b1 : W1.heap[w.heap.size]? = some (.cells #[.slice A0 e.stmts.length cp0, .int .i64 2, .int .i64 e.at_, sV e.actor, .slice A1 e.args.length cp1, .slice A2 e.parts.length cp2, .slice A3 e.arms.length cp3, .bool e.late, .int .i64 e.after] 39 (0, 0)) := by rw [← hW1]; exact new_blk _ _ rfl
    have n1 : Nb w W1 := by rw [← hW1]; exact alloc_nb _ _
    rw [hW1]
    clear hW1
    have h1 : Nb W0 W1 := hw.trans n1
    obtain ⟨B, hB⟩ : ∃ B, w.heap.size = B := ⟨_, rfl⟩
    rw [hB] at b1 ⊢
    clear hB
    have y1 := cell_of_row _ _ 1 _ _ _ b1
    have y3 := cell_of_row _ _ 3 _ _ _ b1
    have y4 := cell_of_row _ _ 4 _ _ _ b1
    have y5 := cell_of_row _ _ 5 _ _ _ b1
    have y6 := cell_of_row _ _ 6 _ _ _ b1
    have y7 := cell_of_row _ _ 7 _ _ _ b1
    have y8 := cell_of_row _ _ 8 _ _ _ b1
    go_wp2_with fail
    go_ret
    exact ⟨by rw [htx.out]; rfl, n1⟩
  by_cases k3 : kd = 3
  · subst k3
    simp only [if_true, if_false, Int.reduceEq] at hg htx
    have hga : e.args.all gE = true ∧ e.args.length = 1 ∧ e.parts.length = 2 := by
      simp only [Bool.and_eq_true, decide_eq_true_eq] at hg
      refine ⟨hg.2.1.1, ?_, ?_⟩ <;> omega
    obtain ⟨hga, ha1, hp2⟩ := hga
    clear hg
    obtain ⟨x, hxy⟩ : ∃ x, e.args = [x] := by
      match hq : e.args, ha1 with
      | [x], _ => exact ⟨x, rfl⟩
    obtain ⟨p, q, hpq⟩ : ∃ p q, e.parts = [p, q] := by
      match hq : e.parts, hp2 with
      | [p, q], _ => exact ⟨p, q, rfl⟩
    obtain ⟨b, o, hbo, hxc⟩ := RowS.at_ hXa.out (i := 0) (r := x.cells) (by rw [hxy]; rfl)
    obtain rfl := hbo
    obtain ⟨pb, po, hbo, hpc⟩ := RowS.at_ prow.out (i := 0) (r := p.cells) (by rw [hpq]; rfl)
    obtain rfl := hbo
    obtain ⟨b', o', hbo, hqc⟩ := RowS.at_ prow.out (i := 1) (r := q.cells) (by rw [hpq]; rfl)
    obtain ⟨rfl, rfl⟩ : pb = b' ∧ po = o' := by
      simp only [Value.slice.injEq, Option.some.injEq, Addr.mk.injEq] at hbo
      exact ⟨hbo.1, by omega⟩
    clear hbo
    have hgx : gE x = true := List.all_eq_true.1 hga x (by rw [hxy]; simp)
    have hkx := hkids.out x (by rw [hxy]; simp) hgx
    have hkp := hP.out p (by rw [hpq]; simp)
    have hkq := hP.out q (by rw [hpq]; simp)
    rw [ha1, hp2]
    rw [ha1] at hcap1
    rw [hp2] at hcap2
    rw [hxy, jn_one, hpq, show (txBs [p, q]).getD 0 [] = txB p from rfl, show (txBs [p, q]).getD 1 [] = txB q from rfl] at htx
    obtain ⟨X, hX1⟩ : ∃ X, txE x = X := ⟨_, rfl⟩
    obtain ⟨U, hU1⟩ : ∃ U, txB p = U := ⟨_, rfl⟩
    obtain ⟨V, hV1⟩ : ∃ V, txB q = V := ⟨_, rfl⟩
    rw [hX1] at hkx htx
    rw [hU1] at hkp htx
    rw [hV1] at hkq htx
    rw [htx] at hlen
    simp only [List.length_append, List.length_cons, List.length_nil] at hlen
    replace hkx := Lib.hid (hkx (by omega))
    replace hkp := Lib.hid (hkp (by omega))
    replace hkq := Lib.hid (hkq (by omega))
    clear hX1 hU1 hV1 hxy hpq ha1 hp2 hga hgx
    replace htx := Lib.hid htx
    go_enter Tryz.func65, Tryz.ntmps65
    go_upto_region 1 with (fail)
    obtain ⟨W1, hW1⟩ : ∃ W1, w.alloc (.cells #[.slice A0 e.stmts.length cp0, .int .i64 3, .int .i64 e.at_, sV e.actor, .slice (some ⟨b, o, none⟩) 1 cp1, .slice (some ⟨pb, po, none⟩) 2 cp2, .slice A3 e.arms.length cp3, .bool e.late, .int .i64 e.after] 39) = W1 := ⟨_, rfl⟩
    have b1 : W1.heap[w.heap.size]? = some (.cells #[.slice A0 e.stmts.length cp0, .int .i64 3, .int .i64 e.at_, sV e.actor, .slice (some ⟨b, o, none⟩) 1 cp1, .slice (some ⟨pb, po, none⟩) 2 cp2, .slice A3 e.arms.length cp3, .bool e.late, .int .i64 e.after] 39 (0, 0)) := by rw [← hW1]; exact new_blk _ _ rfl
    have n1 : Nb w W1 := by rw [← hW1]; exact alloc_nb _ _
    rw [hW1]
    clear hW1
    have h1 : Nb W0 W1 := hw.trans n1
    obtain ⟨B, hB⟩ : ∃ B, w.heap.size = B := ⟨_, rfl⟩
    rw [hB] at b1 ⊢
    clear hB
    have y1 := cell_of_row _ _ 1 _ _ _ b1
    have y3 := cell_of_row _ _ 3 _ _ _ b1
    have y4 := cell_of_row _ _ 4 _ _ _ b1
    have y5 := cell_of_row _ _ 5 _ _ _ b1
    have y6 := cell_of_row _ _ 6 _ _ _ b1
    have y7 := cell_of_row _ _ 7 _ _ _ b1
    have y8 := cell_of_row _ _ 8 _ _ _ b1
    have x0 := h1.cell (hxc 0 _ rfl)
    have x1 := h1.cell (hxc 1 _ rfl)
    have x2 := h1.cell (hxc 2 _ rfl)
    have x3 := h1.cell (hxc 3 _ rfl)
    have x4 := h1.cell (hxc 4 _ rfl)
    have p0 := h1.cell (hpc 0 _ rfl)
    have q0 := h1.cell (hqc 0 _ rfl)
    have p1 := h1.cell (hpc 1 _ rfl)
    have q1 := h1.cell (hqc 1 _ rfl)
    have p2 := h1.cell (hpc 2 _ rfl)
    have q2 := h1.cell (hqc 2 _ rfl)
    have p3 := h1.cell (hpc 3 _ rfl)
    have q3 := h1.cell (hqc 3 _ rfl)
    have p4 := h1.cell (hpc 4 _ rfl)
    have q4 := h1.cell (hqc 4 _ rfl)
    have p5 := h1.cell (hpc 5 _ rfl)
    have q5 := h1.cell (hqc 5 _ rfl)
    have p6 := h1.cell (hpc 6 _ rfl)
    have q6 := h1.cell (hqc 6 _ rfl)
    have p7 := h1.cell (hpc 7 _ rfl)
    have q7 := h1.cell (hqc 7 _ rfl)
    have p8 := h1.cell (hpc 8 _ rfl)
    have q8 := h1.cell (hqc 8 _ rfl)
    simp only [Nat.zero_mul, Nat.one_mul, Nat.add_zero] at x0 x1 x2 x3 x4 p0 q0 p1 q1 p2 q2 p3 q3 p4 q4 p5 q5 p6 q6 p7 q7 p8 q8
    go_upto_region 7 with (fail)
    have hG : Nb W1 W1.drew := drew1R (Nb.refl W1)
    refine wp_region_late [] (fun _ => True) (fun w' => Nb W1 w') (by kernel_rfl) ⟨fun _ => trivial, hG⟩ (fun _ => ?_)
    change wpAnyL _ _ _ _ _ _ _ 21 (List.toArray [false, false, false, false, false, false, false, false, false, false, false, false, false, false, false, false, false, false, false, false, false]) _ _
    refine takeG_l (i := 0) (v := .pointer (some ⟨B, 4, none⟩)) rfl (by kernel_rfl) (by kernel_rfl) (by kernel_rfl) (by rfl) (fun _ _ _ h => h) (.inl ⟨by rfl, by intro w' hw; go_simp <;> omega⟩) ⟨fun _ => trivial, hG⟩ ?_
    simp only [Act.put, List.setIfInBounds_toArray, List.set_cons_zero, List.set_cons_succ]
    refine takeG_l (i := 1) (v := .slice (some ⟨b, o, none⟩) 1 cp1) rfl (by kernel_rfl) (by kernel_rfl) (by kernel_rfl) (by rfl) (fun _ _ _ h => h) (.inl ⟨by rfl, by intro w' hw; have hc := hw.cell y4; go_simp <;> omega⟩) ⟨fun _ => trivial, hG⟩ ?_
    simp only [Act.put, List.setIfInBounds_toArray, List.set_cons_zero, List.set_cons_succ]
    refine takeG_l (i := 2) (v := .pointer (some ⟨b, o, none⟩)) rfl (by kernel_rfl) (by kernel_rfl) (by kernel_rfl) (by rfl) (fun _ _ _ h => h) (.inl ⟨by rfl, by intro w' hw; go_simp <;> omega⟩) ⟨fun _ => trivial, hG⟩ ?_
    simp only [Act.put, List.setIfInBounds_toArray, List.set_cons_zero, List.set_cons_succ]
    refine takeG_l (i := 3) (v := .agg #[.int .i64 x.kind, .int .i64 x.at_, .int .i64 x.n, sV x.name, x.av]) rfl (by kernel_rfl) (by kernel_rfl) (by kernel_rfl) (by rfl) (fun _ _ _ h => h) (.inl ⟨by rfl, by intro w' hw; have r0 := hw.cell x0; have r1 := hw.cell x1; have r2 := hw.cell x2; have r3 := hw.cell x3; have r4 := hw.cell x4; go_simp <;> omega⟩) ⟨fun _ => trivial, hG⟩ ?_
    simp only [Act.put, List.setIfInBounds_toArray, List.set_cons_zero, List.set_cons_succ]
    refine takeG_l (i := 7) (v := .pointer (some ⟨B, 5, none⟩)) rfl (by kernel_rfl) (by kernel_rfl) (by kernel_rfl) (by rfl) (fun _ _ _ h => h) (.inl ⟨by rfl, by intro w' hw; go_simp <;> omega⟩) ⟨fun _ => trivial, hG⟩ ?_
    simp only [Act.put, List.setIfInBounds_toArray, List.set_cons_zero, List.set_cons_succ]
    refine takeG_l (i := 8) (v := .slice (some ⟨pb, po, none⟩) 2 cp2) rfl (by kernel_rfl) (by kernel_rfl) (by kernel_rfl) (by rfl) (fun _ _ _ h => h) (.inl ⟨by rfl, by intro w' hw; have hc := hw.cell y5; go_simp <;> omega⟩) ⟨fun _ => trivial, hG⟩ ?_
    simp only [Act.put, List.setIfInBounds_toArray, List.set_cons_zero, List.set_cons_succ]
    refine takeG_l (i := 9) (v := .pointer (some ⟨pb, po, none⟩)) rfl (by kernel_rfl) (by kernel_rfl) (by kernel_rfl) (by rfl) (fun _ _ _ h => h) (.inl ⟨by rfl, by intro w' hw; go_simp <;> omega⟩) ⟨fun _ => trivial, hG⟩ ?_
    simp only [Act.put, List.setIfInBounds_toArray, List.set_cons_zero, List.set_cons_succ]
    refine takeG_l (i := 10) (v := .agg #[p.sv, .int .i64 p.kind, .int .i64 p.at_, sV p.actor, p.av, p.pv, p.mv, .bool p.late, .int .i64 p.after]) rfl (by kernel_rfl) (by kernel_rfl) (by kernel_rfl) (by rfl) (fun _ _ _ h => h) (.inl ⟨by rfl, by intro w' hw; have r0 := hw.cell p0; have r1 := hw.cell p1; have r2 := hw.cell p2; have r3 := hw.cell p3; have r4 := hw.cell p4; have r5 := hw.cell p5; have r6 := hw.cell p6; have r7 := hw.cell p7; have r8 := hw.cell p8; go_simp <;> omega⟩) ⟨fun _ => trivial, hG⟩ ?_
    simp only [Act.put, List.setIfInBounds_toArray, List.set_cons_zero, List.set_cons_succ]
    refine takeG_l (i := 14) (v := .pointer (some ⟨B, 5, none⟩)) rfl (by kernel_rfl) (by kernel_rfl) (by kernel_rfl) (by rfl) (fun _ _ _ h => h) (.inl ⟨by rfl, by intro w' hw; go_simp <;> omega⟩) ⟨fun _ => trivial, hG⟩ ?_
    simp only [Act.put, List.setIfInBounds_toArray, List.set_cons_zero, List.set_cons_succ]
    refine takeG_l (i := 15) (v := .slice (some ⟨pb, po, none⟩) 2 cp2) rfl (by kernel_rfl) (by kernel_rfl) (by kernel_rfl) (by rfl) (fun _ _ _ h => h) (.inl ⟨by rfl, by intro w' hw; have hc := hw.cell y5; go_simp <;> omega⟩) ⟨fun _ => trivial, hG⟩ ?_
    simp only [Act.put, List.setIfInBounds_toArray, List.set_cons_zero, List.set_cons_succ]
    refine takeG_l (i := 16) (v := .pointer (some ⟨pb, po + 9, none⟩)) rfl (by kernel_rfl) (by kernel_rfl) (by kernel_rfl) (by rfl) (fun _ _ _ h => h) (.inl ⟨by rfl, by intro w' hw; go_simp <;> omega⟩) ⟨fun _ => trivial, hG⟩ ?_
    simp only [Act.put, List.setIfInBounds_toArray, List.set_cons_zero, List.set_cons_succ]
    refine takeG_l (i := 17) (v := .agg #[q.sv, .int .i64 q.kind, .int .i64 q.at_, sV q.actor, q.av, q.pv, q.mv, .bool q.late, .int .i64 q.after]) rfl (by kernel_rfl) (by kernel_rfl) (by kernel_rfl) (by rfl) (fun _ _ _ h => h) (.inl ⟨by rfl, by intro w' hw; have r0 := hw.cell q0; have r1 := hw.cell q1; have r2 := hw.cell q2; have r3 := hw.cell q3; have r4 := hw.cell q4; have r5 := hw.cell q5; have r6 := hw.cell q6; have r7 := hw.cell q7; have r8 := hw.cell q8; go_simp <;> omega⟩) ⟨fun _ => trivial, hG⟩ ?_
    simp only [Act.put, List.setIfInBounds_toArray, List.set_cons_zero, List.set_cons_succ]
    generalize W1.drew = Wd at hG ⊢
    refine onlyL_l (i := 4) (by kernel_rfl) rfl (by rfl) (fun K hK => ?_)
    go_simp
    refine (hkx.out _ (h1.trans hG)).mono ?_
    rintro r w5 ⟨rfl, nc⟩
    replace hG := hG.trans nc
    refine hK.out _ _ ⟨fun _ => trivial, hG⟩ (fun _ => ?_)
    clear hK K nc
    simp only [Act.put, List.setIfInBounds_toArray, List.set_cons_zero, List.set_cons_succ]
    refine takeG_l (i := 5) (v := .string (((⟨#[105, 102, 32]⟩ : ByteArray)) ++ ⟨X.toArray⟩)) rfl (by kernel_rfl) (by kernel_rfl) (by kernel_rfl) (by rfl) (fun _ _ _ h => h) (.inl ⟨by rfl, by intro w' hw; go_simp <;> omega⟩) ⟨fun _ => trivial, hG⟩ ?_
    simp only [Act.put, List.setIfInBounds_toArray, List.set_cons_zero, List.set_cons_succ]
    refine takeG_l (i := 6) (v := .string ((((⟨#[105, 102, 32]⟩ : ByteArray)) ++ ⟨X.toArray⟩) ++ ⟨#[32]⟩)) rfl (by kernel_rfl) (by kernel_rfl) (by kernel_rfl) (by rfl) (fun _ _ _ h => h) (.inl ⟨by rfl, by intro w' hw; go_simp <;> omega⟩) ⟨fun _ => trivial, hG⟩ ?_
    simp only [Act.put, List.setIfInBounds_toArray, List.set_cons_zero, List.set_cons_succ]
    refine onlyL_l (i := 11) (by kernel_rfl) rfl (by rfl) (fun K hK => ?_)
    go_simp
    refine (hkp.out _ (h1.trans hG)).mono ?_
    rintro r w5 ⟨rfl, nc⟩
    replace hG := hG.trans nc
    refine hK.out _ _ ⟨fun _ => trivial, hG⟩ (fun _ => ?_)
    clear hK K nc
    simp only [Act.put, List.setIfInBounds_toArray, List.set_cons_zero, List.set_cons_succ]
    refine takeG_l (i := 12) (v := .string (((((⟨#[105, 102, 32]⟩ : ByteArray)) ++ ⟨X.toArray⟩) ++ ⟨#[32]⟩) ++ ⟨U.toArray⟩)) rfl (by kernel_rfl) (by kernel_rfl) (by kernel_rfl) (by rfl) (fun _ _ _ h => h) (.inl ⟨by rfl, by intro w' hw; go_simp <;> omega⟩) ⟨fun _ => trivial, hG⟩ ?_
    simp only [Act.put, List.setIfInBounds_toArray, List.set_cons_zero, List.set_cons_succ]
    refine takeG_l (i := 13) (v := .string ((((((⟨#[105, 102, 32]⟩ : ByteArray)) ++ ⟨X.toArray⟩) ++ ⟨#[32]⟩) ++ ⟨U.toArray⟩) ++ ⟨#[32, 101, 108, 115, 101, 32]⟩)) rfl (by kernel_rfl) (by kernel_rfl) (by kernel_rfl) (by rfl) (fun _ _ _ h => h) (.inl ⟨by rfl, by intro w' hw; go_simp <;> omega⟩) ⟨fun _ => trivial, hG⟩ ?_
    simp only [Act.put, List.setIfInBounds_toArray, List.set_cons_zero, List.set_cons_succ]
    refine onlyL_l (i := 18) (by kernel_rfl) rfl (by rfl) (fun K hK => ?_)
    go_simp
    refine (hkq.out _ (h1.trans hG)).mono ?_
    rintro r w5 ⟨rfl, nc⟩
    replace hG := hG.trans nc
    refine hK.out _ _ ⟨fun _ => trivial, hG⟩ (fun _ => ?_)
    clear hK K nc
    simp only [Act.put, List.setIfInBounds_toArray, List.set_cons_zero, List.set_cons_succ]
    refine takeG_l (i := 19) (v := .string (((((((⟨#[105, 102, 32]⟩ : ByteArray)) ++ ⟨X.toArray⟩) ++ ⟨#[32]⟩) ++ ⟨U.toArray⟩) ++ ⟨#[32, 101, 108, 115, 101, 32]⟩) ++ ⟨V.toArray⟩)) rfl (by kernel_rfl) (by kernel_rfl) (by kernel_rfl) (by rfl) (fun _ _ _ h => h) (.inl ⟨by rfl, by intro w' hw; go_simp <;> omega⟩) ⟨fun _ => trivial, hG⟩ ?_
    simp only [Act.put, List.setIfInBounds_toArray, List.set_cons_zero, List.set_cons_succ]
    refine takeG_l (i := 20) (v := .string (((((((⟨#[105, 102, 32]⟩ : ByteArray)) ++ ⟨X.toArray⟩) ++ ⟨#[32]⟩) ++ ⟨U.toArray⟩) ++ ⟨#[32, 101, 108, 115, 101, 32]⟩) ++ ⟨V.toArray⟩)) rfl (by kernel_rfl) (by kernel_rfl) (by kernel_rfl) (by rfl) (fun _ _ _ h => h) (.inl ⟨by rfl, by intro w' hw; go_simp <;> omega⟩) ⟨fun _ => trivial, hG⟩ ?_
    simp only [Act.put, List.setIfInBounds_toArray, List.set_cons_zero, List.set_cons_succ]
    refine doneL (by kernel_rfl) ?_ _
    go_wp2_with fail
    go_ret
    exact ⟨by rw [htx.out]; show Ending.returned (.string _) = _; simp only [addB, List.append_assoc, List.cons_append, List.nil_append], n1.trans hG⟩
  by_cases k4 : kd = 4
  · subst k4
    simp only [if_true, if_false, Int.reduceEq] at hg htx
    have hpl : e.late = true → e.parts.length = 1 := fun h => by
      simp only [h, if_true, Bool.and_eq_true, decide_eq_true_eq] at hg
      omega
    unfold rcT at htx
    clear hg
    replace hpl := Lib.hid hpl
    obtain ⟨l, hl⟩ : ∃ l, e.arms = l := ⟨_, rfl⟩
    rw [hl] at mrow mpat mguard mbody hM hgM htx hcap3 hlq3 ⊢
    clear hl
    obtain ⟨M, hMl⟩ : ∃ M, l.length = M := ⟨_, rfl⟩
    have hMh := Lib.hid hMl
    rw [hMl] at hcap3 hlq3 mrow ⊢
    clear hMl
    obtain ⟨Z, hZ⟩ : ∃ Z, txAs l = Z := ⟨_, rfl⟩
    rw [hZ] at htx
    have hZm := hZ.symm
    rw [txAs_map] at hZm
    replace hZm := Lib.hid hZm
    obtain ⟨R, hR⟩ : ∃ R, (if e.late = true then ([32, 97, 102, 116, 101, 114, 32] ++ (Lib.itoa e.after ++ [32])) ++ jnT (txBs e.parts) else []) = R := ⟨_, rfl⟩
    rw [hR] at htx
    have hR := Lib.hid hR
    rw [htx] at hlen
    simp only [List.length_append, List.length_cons, List.length_nil] at hlen
    have htx := Lib.hid htx
    have hle := Lib.hid hlen
    clear hZ
    go_enter Tryz.func65, Tryz.ntmps65
    go_upto_region 1 with (fail)
    obtain ⟨W1, hW1⟩ : ∃ W1, w.alloc (.cells #[.slice A0 e.stmts.length cp0, .int .i64 4, .int .i64 e.at_, sV e.actor, .slice A1 e.args.length cp1, .slice A2 e.parts.length cp2, .slice A3 M cp3, .bool e.late, .int .i64 e.after] 39) = W1 := ⟨_, rfl⟩
    have b1 : W1.heap[w.heap.size]? = some (.cells #[.slice A0 e.stmts.length cp0, .int .i64 4, .int .i64 e.at_, sV e.actor, .slice A1 e.args.length cp1, .slice A2 e.parts.length cp2, .slice A3 M cp3, .bool e.late, .int .i64 e.after] 39 (0, 0)) := by rw [← hW1]; exact new_blk _ _ rfl
    have n1 : Nb w W1 := by rw [← hW1]; exact alloc_nb _ _
    rw [hW1]
    clear hW1
    have h1 : Nb W0 W1 := hw.trans n1
    obtain ⟨B, hB⟩ : ∃ B, w.heap.size = B := ⟨_, rfl⟩
    rw [hB] at b1 ⊢
    clear hB
    have y1 := cell_of_row _ _ 1 _ _ _ b1
    have y3 := cell_of_row _ _ 3 _ _ _ b1
    have y4 := cell_of_row _ _ 4 _ _ _ b1
    have y5 := cell_of_row _ _ 5 _ _ _ b1
    have y6 := cell_of_row _ _ 6 _ _ _ b1
    have y7 := cell_of_row _ _ 7 _ _ _ b1
    have y8 := cell_of_row _ _ 8 _ _ _ b1
    go_wp2_with fail
    go_loopw [3, 4, 5] (fun s si sb wr => ∃ i : Nat, i ≤ M ∧ si = .int .i64 i ∧ s = sV ([114, 101, 99, 101, 105, 118, 101, 32, 123] ++ ((l.take i).map fun m => [32] ++ txA m).flatten) ∧ Nb W1 wr) (fun _ si _ _ => M - (intOf si).toNat)
    case atStart => exact ⟨0, Nat.zero_le _, rfl, rfl, Nb.refl _⟩
    case round =>
      clear y1 y3 y4 y5 y6 y7 y8
      obtain ⟨i, hi2, rfl, rfl, hn⟩ := hrel
      have b2 := hn.block b1
      have y5 := cell_of_row _ _ 5 _ _ _ b2
      have y6 := cell_of_row _ _ 6 _ _ _ b2
      have y7 := cell_of_row _ _ 7 _ _ _ b2
      have y8 := cell_of_row _ _ 8 _ _ _ b2
      by_cases hlt2 : i < M
      · have hlt3 : (i : Int) < (M : Int) := by omega
        obtain ⟨x, hx⟩ : ∃ x, l[i]? = some x := ⟨_, List.getElem?_eq_getElem (by rw [hMh.out]; exact hlt2)⟩
        obtain ⟨b, o, hbo, hxc⟩ := RowS.at_ mrow.out (i := i) (r := x.cells) (by rw [List.getElem?_map, hx]; rfl)
        obtain rfl := hbo
        have hnb : Nb W0 wr := h1.trans hn
        have x0 := hnb.cell (hxc 0 _ rfl)
        have x1 := hnb.cell (hxc 1 _ rfl)
        have x2 := hnb.cell (hxc 2 _ rfl)
        have x3 := hnb.cell (hxc 3 _ rfl)
        have x4 := hnb.cell (hxc 4 _ rfl)
        have x5 := hnb.cell (hxc 5 _ rfl)
        have x6 := hnb.cell (hxc 6 _ rfl)
        have x7 := hnb.cell (hxc 7 _ rfl)
        have x8 := hnb.cell (hxc 8 _ rfl)
        have x9 := hnb.cell (hxc 9 _ rfl)
        have x10 := hnb.cell (hxc 10 _ rfl)
        have x11 := hnb.cell (hxc 11 _ rfl)
        have x12 := hnb.cell (hxc 12 _ rfl)
        have x13 := hnb.cell (hxc 13 _ rfl)
        have x14 := hnb.cell (hxc 14 _ rfl)
        rw [Nat.add_zero] at x0
        have hmem := List.mem_of_getElem? hx
        have htk := flat_take (fun m => [32] ++ txA m) l i x hx
        have hl1 := flat_le (fun m => [32] ++ txA m) l (i + 1)
        rw [← hZm.out] at hl1
        rw [htk, List.length_append] at hl1
        have hgx := hgM.out x hmem
        rw [gA_rf] at hgx
        unfold lenS at hgx
        simp only [Bool.and_eq_true, decide_eq_true_eq] at hgx
        obtain ⟨hgp, ⟨hgg, -, hg1⟩, -⟩ := hgx
        obtain ⟨Ag, cg, hgv, hcapg, hlqg, -⟩ := (mguard.out x hmem).row.head
        rw [List.length_map] at hgv hcapg hlqg
        obtain ⟨Y, hY1⟩ : ∃ Y, ((l.take i).map fun m => [32] ++ txA m).flatten = Y := ⟨_, rfl⟩
        rw [hY1] at htk hl1 ⊢
        clear hY1
        rw [txA_eq] at htk hl1
        have hkp := rtxT_any W0 x.pat (mpat.out x hmem) hgp
        have hkb := hM.out x hmem
        obtain ⟨U, hU1⟩ : ∃ U, txT x.pat = U := ⟨_, rfl⟩
        obtain ⟨V, hV1⟩ : ∃ V, txB x.body = V := ⟨_, rfl⟩
        rw [hU1] at hkp htk hl1
        rw [hV1] at hkb htk hl1
        have hGrow := Lib.hid (mguard.out x hmem)
        rw [hgv] at x5 hGrow
        simp only [List.length_append, List.length_cons, List.length_nil] at hl1
        have hlz := hle.out
        obtain ⟨P0, pc0, hp0, -, -, -⟩ := (mpat.out x hmem).exs.row.head
        obtain ⟨S0, sc0, hs0, -, -, -⟩ := (mbody.out x hmem).srow.1.head
        obtain ⟨S1, sc1, hs1, -, -, -⟩ := (mbody.out x hmem).exs.row.head
        obtain ⟨S2, sc2, hs2, -, -, -⟩ := (mbody.out x hmem).prow.1.head
        obtain ⟨S3, sc3, hs3, -, -, -⟩ := (mbody.out x hmem).mrow.1.head
        rw [List.length_map] at hp0 hs0 hs1 hs2 hs3
        rw [hp0] at x4
        rw [hs0] at x6
        rw [hs1] at x10
        rw [hs2] at x11
        rw [hs3] at x12
        rw [show x.pat.cells = [.int .i64 x.pat.kind, .int .i64 x.pat.at_, .int .i64 x.pat.n, sV x.pat.name, x.pat.av] from rfl, hp0] at hkp
        rw [show x.body.cells = [x.body.sv, .int .i64 x.body.kind, .int .i64 x.body.at_, sV x.body.actor, x.body.av, x.body.pv, x.body.mv, .bool x.body.late, .int .i64 x.body.after] from rfl, hs0, hs1, hs2, hs3] at hkb
        replace hkp := Lib.hid (hkp (by omega))
        replace hkb := Lib.hid (hkb (by omega))
        clear hU1 hV1 hx
        go_upto_region 13 with (fail)
        obtain ⟨W2, hW2⟩ : ∃ W2, wr.alloc (.cells #[.int .i64 x.pat.kind, .int .i64 x.pat.at_, .int .i64 x.pat.n, sV x.pat.name, .slice P0 x.pat.args.length pc0, .slice Ag x.guard.length cg, .slice S0 x.body.stmts.length sc0, .int .i64 x.body.kind, .int .i64 x.body.at_, sV x.body.actor, .slice S1 x.body.args.length sc1, .slice S2 x.body.parts.length sc2, .slice S3 x.body.arms.length sc3, .bool x.body.late, .int .i64 x.body.after] 80) = W2 := ⟨_, rfl⟩
        have c1 : W2.heap[wr.heap.size]? = some (.cells #[.int .i64 x.pat.kind, .int .i64 x.pat.at_, .int .i64 x.pat.n, sV x.pat.name, .slice P0 x.pat.args.length pc0, .slice Ag x.guard.length cg, .slice S0 x.body.stmts.length sc0, .int .i64 x.body.kind, .int .i64 x.body.at_, sV x.body.actor, .slice S1 x.body.args.length sc1, .slice S2 x.body.parts.length sc2, .slice S3 x.body.arms.length sc3, .bool x.body.late, .int .i64 x.body.after] 80 (0, 0)) := by rw [← hW2]; exact new_blk _ _ rfl
        have n2 : Nb wr W2 := by rw [← hW2]; exact alloc_nb _ _
        rw [hW2]
        clear hW2
        have h2 : Nb W0 W2 := hnb.trans n2
        obtain ⟨B2, hB2⟩ : ∃ B2, wr.heap.size = B2 := ⟨_, rfl⟩
        rw [hB2] at c1 ⊢
        clear hB2 x0 x1 x2 x3 x4 x5 x6 x7 x8 x9 x10 x11 x12 x13 x14
        have z0 := cell_of_row _ _ 0 _ _ _ c1
        have z1 := cell_of_row _ _ 1 _ _ _ c1
        have z2 := cell_of_row _ _ 2 _ _ _ c1
        have z3 := cell_of_row _ _ 3 _ _ _ c1
        have z4 := cell_of_row _ _ 4 _ _ _ c1
        have z5 := cell_of_row _ _ 5 _ _ _ c1
        have z6 := cell_of_row _ _ 6 _ _ _ c1
        have z7 := cell_of_row _ _ 7 _ _ _ c1
        have z8 := cell_of_row _ _ 8 _ _ _ c1
        have z9 := cell_of_row _ _ 9 _ _ _ c1
        have z10 := cell_of_row _ _ 10 _ _ _ c1
        have z11 := cell_of_row _ _ 11 _ _ _ c1
        have z12 := cell_of_row _ _ 12 _ _ _ c1
        have z13 := cell_of_row _ _ 13 _ _ _ c1
        have z14 := cell_of_row _ _ 14 _ _ _ c1
        by_cases hq0 : x.guard = []
        · rw [hq0] at htk hl1
          rw [show x.guard.length = 0 by rw [hq0]; rfl] at z5 c1
          replace htk := Lib.hid htk
          simp only [gdT, List.length_nil] at hl1
          clear hq0 hGrow
          go_wp2_with (first
            | (go_at_call 83; refine (hkp.out _ h2).mono ?_; rintro r w6 ⟨rfl, g6⟩; have d6 := g6.block c1; replace z5 := cell_of_row _ _ 5 _ _ _ d6; replace z6 := cell_of_row _ _ 6 _ _ _ d6; replace z7 := cell_of_row _ _ 7 _ _ _ d6; replace z8 := cell_of_row _ _ 8 _ _ _ d6; replace z9 := cell_of_row _ _ 9 _ _ _ d6; replace z10 := cell_of_row _ _ 10 _ _ _ d6; replace z11 := cell_of_row _ _ 11 _ _ _ d6; replace z12 := cell_of_row _ _ 12 _ _ _ d6; replace z13 := cell_of_row _ _ 13 _ _ _ d6; replace z14 := cell_of_row _ _ 14 _ _ _ d6; have h6 := h2.trans g6)
            | (go_at_call 21; refine (hkb.out _ h6).mono ?_; rintro r w8 ⟨rfl, g8⟩))
          exact ⟨⟨i + 1, by omega, by simp, by rw [htk.out]; show Value.string _ = _; simp only [addB, gdT, List.append_assoc, List.cons_append, List.nil_append, List.append_nil], hn.trans (n2.trans (g6.trans g8))⟩, by simp [intOf] <;> omega⟩
        · obtain ⟨g, hq⟩ : ∃ g, x.guard = [g] := by
            match hq : x.guard, hq0, hg1 with
            | [g], _, _ => exact ⟨g, rfl⟩
            | [], h, _ => exact absurd rfl h
            | _ :: _ :: _, _, h => simp at h; omega
          obtain ⟨gb, go, hbo, hgc⟩ := RowS.at_ hGrow.out.row (i := 0) (r := g.cells) (by rw [hq]; rfl)
          obtain rfl := hbo
          have hkg := Lib.hid (rtxE_any W0 g (hGrow.out.kids g (by rw [hq]; simp)) (List.all_eq_true.1 hgg g (by rw [hq]; simp)))
          rw [hq] at htk hl1
          rw [show x.guard.length = 1 by rw [hq]; rfl] at z5 c1
          obtain ⟨GT, hGT⟩ : ∃ GT, txE g = GT := ⟨_, rfl⟩
          unfold gdT gdT at htk hl1
          rw [hGT] at htk hl1 hkg
          simp only [List.length_append, List.length_cons, List.length_nil] at hl1
          replace hkg := Lib.hid (hkg.out (by omega))
          replace htk := Lib.hid htk
          have g0 := h2.cell (hgc 0 _ rfl)
          have g1 := h2.cell (hgc 1 _ rfl)
          have g2 := h2.cell (hgc 2 _ rfl)
          have g3 := h2.cell (hgc 3 _ rfl)
          have g4 := h2.cell (hgc 4 _ rfl)
          simp only [Nat.zero_mul, Nat.add_zero] at g0 g1 g2 g3 g4
          clear hGT hq hq0 hGrow hgc
          go_wp2_with (first
            | (go_at_call 83; refine (hkp.out _ h2).mono ?_; rintro r w6 ⟨rfl, g6⟩; have d6 := g6.block c1; replace z5 := cell_of_row _ _ 5 _ _ _ d6; replace z6 := cell_of_row _ _ 6 _ _ _ d6; replace z7 := cell_of_row _ _ 7 _ _ _ d6; replace z8 := cell_of_row _ _ 8 _ _ _ d6; replace z9 := cell_of_row _ _ 9 _ _ _ d6; replace z10 := cell_of_row _ _ 10 _ _ _ d6; replace z11 := cell_of_row _ _ 11 _ _ _ d6; replace z12 := cell_of_row _ _ 12 _ _ _ d6; replace z13 := cell_of_row _ _ 13 _ _ _ d6; replace z14 := cell_of_row _ _ 14 _ _ _ d6; have h6 := h2.trans g6; replace g0 := g6.cell g0; replace g1 := g6.cell g1; replace g2 := g6.cell g2; replace g3 := g6.cell g3; replace g4 := g6.cell g4)
            | (go_at_call 66; refine (hkg.out _ h6).mono ?_; rintro r w7 ⟨rfl, g7⟩; have d7 := g7.block d6; replace z6 := cell_of_row _ _ 6 _ _ _ d7; replace z7 := cell_of_row _ _ 7 _ _ _ d7; replace z8 := cell_of_row _ _ 8 _ _ _ d7; replace z9 := cell_of_row _ _ 9 _ _ _ d7; replace z10 := cell_of_row _ _ 10 _ _ _ d7; replace z11 := cell_of_row _ _ 11 _ _ _ d7; replace z12 := cell_of_row _ _ 12 _ _ _ d7; replace z13 := cell_of_row _ _ 13 _ _ _ d7; replace z14 := cell_of_row _ _ 14 _ _ _ d7; have h7 := h6.trans g7)
            | (go_at_call 21; refine (hkb.out _ h7).mono ?_; rintro r w8 ⟨rfl, g8⟩))
          exact ⟨⟨i + 1, by omega, by simp, by rw [htk.out]; show Value.string _ = _; simp only [addB, gdT, List.append_assoc, List.cons_append, List.nil_append, List.append_nil], hn.trans (n2.trans (g6.trans (g7.trans g8)))⟩, by simp [intOf] <;> omega⟩
      · obtain rfl : i = M := by omega
        have hfull : ((l.take i).map fun m => [32] ++ txA m).flatten = Z := by rw [hZm.out, ← hMh.out, List.take_length]
        rw [hfull]
        have hlz := hle.out
        have hnb : Nb W0 wr := h1.trans hn
        clear hfull mrow hM hgM mpat mguard mbody hle
        cases hlate : e.late with
        | false =>
          rw [hlate] at y7
          have hRr : R = [] := by rw [← hR.out, hlate]; rfl
          rw [hRr] at htx hlz
          simp only [List.length_nil] at hlz
          go_wp2_with fail
          go_ret
          exact ⟨by rw [htx.out]; show Ending.returned (.string _) = _; simp only [addB, List.append_assoc, List.cons_append, List.nil_append], n1.trans hn⟩
        | true =>
          rw [hlate] at y7
          have hp1 := hpl.out hlate
          obtain ⟨p, hpq⟩ : ∃ p, e.parts = [p] := by
            match hq : e.parts, hp1 with
            | [p], _ => exact ⟨p, rfl⟩
          obtain ⟨pb, po, hbo, hpc⟩ := RowS.at_ prow.out (i := 0) (r := p.cells) (by rw [hpq]; rfl)
          obtain rfl := hbo
          have hkp := hP.out p (by rw [hpq]; simp)
          obtain ⟨U, hU1⟩ : ∃ U, txB p = U := ⟨_, rfl⟩
          obtain ⟨N, hN⟩ : ∃ N, Lib.itoa e.after = N := ⟨_, rfl⟩
          have hkn := Lib.hid (number_any e.after (by omega) (by omega))
          have hRr : R = ([32, 97, 102, 116, 101, 114, 32] ++ (N ++ [32])) ++ U := by
            rw [← hR.out, hlate, hpq, ← hU1, ← hN]
            show _ ++ (txB p ++ []) = _
            rw [List.append_nil]
          rw [hU1] at hkp
          rw [hN] at hkn
          rw [hRr] at htx hlz
          simp only [List.length_append, List.length_cons, List.length_nil] at hlz
          replace hkp := Lib.hid (hkp (by omega))
          rw [hp1] at y5
          clear hU1 hN hR hRr hpq
          have p0 := hnb.cell (hpc 0 _ rfl)
          have p1 := hnb.cell (hpc 1 _ rfl)
          have p2 := hnb.cell (hpc 2 _ rfl)
          have p3 := hnb.cell (hpc 3 _ rfl)
          have p4 := hnb.cell (hpc 4 _ rfl)
          have p5 := hnb.cell (hpc 5 _ rfl)
          have p6 := hnb.cell (hpc 6 _ rfl)
          have p7 := hnb.cell (hpc 7 _ rfl)
          have p8 := hnb.cell (hpc 8 _ rfl)
          simp only [Nat.zero_mul, Nat.add_zero] at p0 p1 p2 p3 p4 p5 p6 p7 p8
          go_upto_region 18 with (fail)
          have hG : Nb wr wr.drew := drew1R (Nb.refl wr)
          refine wp_region_late [] (fun _ => True) (fun w' => Nb wr w') (by kernel_rfl) ⟨fun _ => trivial, hG⟩ (fun _ => ?_)
          change wpAnyL _ _ _ _ _ _ _ 14 (List.toArray [false, false, false, false, false, false, false, false, false, false, false, false, false, false]) _ _
          refine takeG_l (i := 0) (v := sV ([114, 101, 99, 101, 105, 118, 101, 32, 123] ++ Z)) rfl (by kernel_rfl) (by kernel_rfl) (by kernel_rfl) (by rfl) (fun _ _ _ h => h) (.inl ⟨by rfl, by intro w' hw; go_simp <;> omega⟩) ⟨fun _ => trivial, hG⟩ ?_
          simp only [Act.put, List.setIfInBounds_toArray, List.set_cons_zero, List.set_cons_succ]
          refine takeG_l (i := 1) (v := .string (((⟨([114, 101, 99, 101, 105, 118, 101, 32, 123] ++ Z).toArray⟩ : ByteArray)) ++ ⟨#[32, 97, 102, 116, 101, 114, 32]⟩)) rfl (by kernel_rfl) (by kernel_rfl) (by kernel_rfl) (by rfl) (fun _ _ _ h => h) (.inl ⟨by rfl, by intro w' hw; go_simp <;> omega⟩) ⟨fun _ => trivial, hG⟩ ?_
          simp only [Act.put, List.setIfInBounds_toArray, List.set_cons_zero, List.set_cons_succ]
          refine takeG_l (i := 2) (v := .pointer (some ⟨B, 8, none⟩)) rfl (by kernel_rfl) (by kernel_rfl) (by kernel_rfl) (by rfl) (fun _ _ _ h => h) (.inl ⟨by rfl, by intro w' hw; go_simp <;> omega⟩) ⟨fun _ => trivial, hG⟩ ?_
          simp only [Act.put, List.setIfInBounds_toArray, List.set_cons_zero, List.set_cons_succ]
          refine takeG_l (i := 3) (v := .int .i64 e.after) rfl (by kernel_rfl) (by kernel_rfl) (by kernel_rfl) (by rfl) (fun _ _ _ h => h) (.inl ⟨by rfl, by intro w' hw; have hc := hw.cell y8; go_simp <;> omega⟩) ⟨fun _ => trivial, hG⟩ ?_
          simp only [Act.put, List.setIfInBounds_toArray, List.set_cons_zero, List.set_cons_succ]
          refine takeG_l (i := 7) (v := .pointer (some ⟨B, 5, none⟩)) rfl (by kernel_rfl) (by kernel_rfl) (by kernel_rfl) (by rfl) (fun _ _ _ h => h) (.inl ⟨by rfl, by intro w' hw; go_simp <;> omega⟩) ⟨fun _ => trivial, hG⟩ ?_
          simp only [Act.put, List.setIfInBounds_toArray, List.set_cons_zero, List.set_cons_succ]
          refine takeG_l (i := 8) (v := .slice (some ⟨pb, po, none⟩) 1 cp2) rfl (by kernel_rfl) (by kernel_rfl) (by kernel_rfl) (by rfl) (fun _ _ _ h => h) (.inl ⟨by rfl, by intro w' hw; have hc := hw.cell y5; go_simp <;> omega⟩) ⟨fun _ => trivial, hG⟩ ?_
          simp only [Act.put, List.setIfInBounds_toArray, List.set_cons_zero, List.set_cons_succ]
          refine takeG_l (i := 9) (v := .pointer (some ⟨pb, po, none⟩)) rfl (by kernel_rfl) (by kernel_rfl) (by kernel_rfl) (by rfl) (fun _ _ _ h => h) (.inl ⟨by rfl, by intro w' hw; go_simp <;> omega⟩) ⟨fun _ => trivial, hG⟩ ?_
          simp only [Act.put, List.setIfInBounds_toArray, List.set_cons_zero, List.set_cons_succ]
          refine takeG_l (i := 10) (v := .agg #[p.sv, .int .i64 p.kind, .int .i64 p.at_, sV p.actor, p.av, p.pv, p.mv, .bool p.late, .int .i64 p.after]) rfl (by kernel_rfl) (by kernel_rfl) (by kernel_rfl) (by rfl) (fun _ _ _ h => h) (.inl ⟨by rfl, by intro w' hw; have r0 := hw.cell p0; have r1 := hw.cell p1; have r2 := hw.cell p2; have r3 := hw.cell p3; have r4 := hw.cell p4; have r5 := hw.cell p5; have r6 := hw.cell p6; have r7 := hw.cell p7; have r8 := hw.cell p8; go_simp <;> omega⟩) ⟨fun _ => trivial, hG⟩ ?_
          simp only [Act.put, List.setIfInBounds_toArray, List.set_cons_zero, List.set_cons_succ]
          generalize wr.drew = Wd at hG ⊢
          refine onlyL_l (i := 4) (by kernel_rfl) rfl (by rfl) (fun K hK => ?_)
          go_simp
          refine (hkn.out _).mono ?_
          rintro r w5 ⟨rfl, nc⟩
          replace hG := hG.trans nc
          refine hK.out _ _ ⟨fun _ => trivial, hG⟩ (fun _ => ?_)
          clear hK K nc
          simp only [Act.put, List.setIfInBounds_toArray, List.set_cons_zero, List.set_cons_succ]
          refine takeG_l (i := 5) (v := .string ((((⟨([114, 101, 99, 101, 105, 118, 101, 32, 123] ++ Z).toArray⟩ : ByteArray)) ++ ⟨#[32, 97, 102, 116, 101, 114, 32]⟩) ++ ⟨N.toArray⟩)) rfl (by kernel_rfl) (by kernel_rfl) (by kernel_rfl) (by rfl) (fun _ _ _ h => h) (.inl ⟨by rfl, by intro w' hw; go_simp <;> omega⟩) ⟨fun _ => trivial, hG⟩ ?_
          simp only [Act.put, List.setIfInBounds_toArray, List.set_cons_zero, List.set_cons_succ]
          refine takeG_l (i := 6) (v := .string (((((⟨([114, 101, 99, 101, 105, 118, 101, 32, 123] ++ Z).toArray⟩ : ByteArray)) ++ ⟨#[32, 97, 102, 116, 101, 114, 32]⟩) ++ ⟨N.toArray⟩) ++ ⟨#[32]⟩)) rfl (by kernel_rfl) (by kernel_rfl) (by kernel_rfl) (by rfl) (fun _ _ _ h => h) (.inl ⟨by rfl, by intro w' hw; go_simp <;> omega⟩) ⟨fun _ => trivial, hG⟩ ?_
          simp only [Act.put, List.setIfInBounds_toArray, List.set_cons_zero, List.set_cons_succ]
          refine onlyL_l (i := 11) (by kernel_rfl) rfl (by rfl) (fun K hK => ?_)
          go_simp
          refine (hkp.out _ (hnb.trans hG)).mono ?_
          rintro r w5 ⟨rfl, nc⟩
          replace hG := hG.trans nc
          refine hK.out _ _ ⟨fun _ => trivial, hG⟩ (fun _ => ?_)
          clear hK K nc
          simp only [Act.put, List.setIfInBounds_toArray, List.set_cons_zero, List.set_cons_succ]
          refine takeG_l (i := 12) (v := .string ((((((⟨([114, 101, 99, 101, 105, 118, 101, 32, 123] ++ Z).toArray⟩ : ByteArray)) ++ ⟨#[32, 97, 102, 116, 101, 114, 32]⟩) ++ ⟨N.toArray⟩) ++ ⟨#[32]⟩) ++ ⟨U.toArray⟩)) rfl (by kernel_rfl) (by kernel_rfl) (by kernel_rfl) (by rfl) (fun _ _ _ h => h) (.inl ⟨by rfl, by intro w' hw; go_simp <;> omega⟩) ⟨fun _ => trivial, hG⟩ ?_
          simp only [Act.put, List.setIfInBounds_toArray, List.set_cons_zero, List.set_cons_succ]
          refine takeG_l (i := 13) (v := .string ((((((⟨([114, 101, 99, 101, 105, 118, 101, 32, 123] ++ Z).toArray⟩ : ByteArray)) ++ ⟨#[32, 97, 102, 116, 101, 114, 32]⟩) ++ ⟨N.toArray⟩) ++ ⟨#[32]⟩) ++ ⟨U.toArray⟩)) rfl (by kernel_rfl) (by kernel_rfl) (by kernel_rfl) (by rfl) (fun _ _ _ h => h) (.inl ⟨by rfl, by intro w' hw; go_simp <;> omega⟩) ⟨fun _ => trivial, hG⟩ ?_
          simp only [Act.put, List.setIfInBounds_toArray, List.set_cons_zero, List.set_cons_succ]
          refine doneL (by kernel_rfl) ?_ _
          go_wp2_with fail
          go_ret
          exact ⟨by rw [htx.out]; show Ending.returned (.string _) = _; simp only [addB, List.append_assoc, List.cons_append, List.nil_append], n1.trans (hn.trans hG)⟩
  simp only [k1, k2, k3, k4, if_false] at hg
  exact absurd hg (by decide)
end Go.Proofs.YtebcjocpmnapeaaGreatDoor
