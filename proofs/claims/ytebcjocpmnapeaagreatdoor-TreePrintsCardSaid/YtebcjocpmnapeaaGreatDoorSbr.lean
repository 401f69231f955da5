/-
  Proved here: of the reference: the text of a body. Conditions: the memory holds it. ¦ of the reference: whether a body may be. Conditions: the memory holds it.
-/
import Derived.Test.YtebcjocpmnapeaaGreatDoorSbq
import Derived.Test.YtebcjocpmnapeaaGreatDoorSbp
section
namespace Go.Proofs.YtebcjocpmnapeaaGreatDoor
open Go.RowKit
set_option linter.unusedVariables false
set_option linter.unusedSimpArgs false
set_option maxRecDepth 100000
set_option maxHeartbeats 4000000
theorem rtxB_any (W0 : World) : ∀ e : Bd, e.Has W0 → gB e = true → (txB e).length ≤ 1000000 → ∀ w, Nb W0 w → Calls Tryz.prog 21 #[.agg e.cells.toArray] w fun r w' => r = .returned (sV (txB e)) ∧ Nb w w' := by
  intro e
  induction e using Bd.ind
  rename_i e ihp iha
  intro he hg hlen w hw
  have hgq := hg
  rw [rfB_eq] at hg
  unfold rfB at hg
  simp only [Bool.and_eq_true] at hg
  obtain ⟨⟨hgS, hgP⟩, hgM, -⟩ := hg
  have htx := txB_eq e
  rw [txSs_map] at htx
  obtain ⟨T, hT⟩ : ∃ T, txB e = T := ⟨_, rfl⟩
  rw [hT] at htx hlen ⊢
  clear hT
  rw [htx] at hlen
  simp only [List.length_append, List.length_cons, List.length_nil] at hlen
  have hend := Lib.hid (rendT_any W0 e he hgq (by omega) (fun x hx hl w hw => ihp x hx (he.prow.2 x hx) (List.all_eq_true.1 hgP x hx) hl w hw) (fun m hm hl w hw => iha m hm (he.mrow.2 m hm).2.2 (by
    have := List.all_eq_true.1 hgM m hm
    rw [gA_rf] at this
    simp only [Bool.and_eq_true] at this
    exact this.2.2) hl w hw))
  have hst := Lib.hid (fun s (hs : s ∈ e.stmts) => rtxS_any W0 s (he.srow.2 s hs) (List.all_eq_true.1 hgS s hs))
  have srow := he.srow.1
  obtain ⟨A0, cp0, hv0, hcap0, hlq0, -⟩ := srow.head
  obtain ⟨A1, cp1, hv1, -, -, -⟩ := he.exs.row.head
  obtain ⟨A2, cp2, hv2, -, -, -⟩ := he.prow.1.head
  obtain ⟨A3, cp3, hv3, -, -, -⟩ := he.mrow.1.head
  rw [List.length_map] at hv0 hlq0 hcap0 hv1 hv2 hv3
  have hc : e.cells = [.slice A0 e.stmts.length cp0, .int .i64 e.kind, .int .i64 e.at_, sV e.actor, .slice A1 e.args.length cp1, .slice A2 e.parts.length cp2, .slice A3 e.arms.length cp3, .bool e.late, .int .i64 e.after] := by
    rw [← hv0, ← hv1, ← hv2, ← hv3]; rfl
  rw [hv0] at srow
  rw [hc] at hend
  rw [hc]
  clear hc hv0 hv1 hv2 hv3 ihp iha he hgS hgP hgM hgq
  obtain ⟨l, hl⟩ : ∃ l, e.stmts = l := ⟨_, rfl⟩
  rw [hl] at srow hlq0 hcap0 hst htx hend hlen ⊢
  clear hl
  obtain ⟨M, hMl⟩ : ∃ M, l.length = M := ⟨_, rfl⟩
  have hMh := Lib.hid hMl
  rw [hMl] at srow hlq0 hcap0 hend ⊢
  clear hMl
  replace srow := Lib.hid srow
  obtain ⟨Z, hZ⟩ : ∃ Z, (l.map fun s => txS s ++ [32]).flatten = Z := ⟨_, rfl⟩
  rw [hZ] at htx hlen
  have hZm := Lib.hid hZ.symm
  clear hZ
  obtain ⟨N, hN⟩ : ∃ N, endT e = N := ⟨_, rfl⟩
  rw [hN] at htx hlen hend
  clear hN
  replace htx := Lib.hid htx
  have hle := Lib.hid hlen
  go_enter Tryz.func21, Tryz.ntmps21
  go_upto_region 1 with (fail)
  obtain ⟨W1, hW1⟩ : ∃ W1, w.alloc (.cells #[.slice A0 M cp0, .int .i64 e.kind, .int .i64 e.at_, sV e.actor, .slice A1 e.args.length cp1, .slice A2 e.parts.length cp2, .slice A3 e.arms.length cp3, .bool e.late, .int .i64 e.after] 39) = W1 := ⟨_, rfl⟩
  have b1 : W1.heap[w.heap.size]? = some (.cells #[.slice A0 M cp0, .int .i64 e.kind, .int .i64 e.at_, sV e.actor, .slice A1 e.args.length cp1, .slice A2 e.parts.length cp2, .slice A3 e.arms.length cp3, .bool e.late, .int .i64 e.after] 39 (0, 0)) := by rw [← hW1]; exact new_blk _ _ rfl
  have n1 : Nb w W1 := by rw [← hW1]; exact alloc_nb _ _
  rw [hW1]
  clear hW1
  have h1 : Nb W0 W1 := hw.trans n1
  obtain ⟨B, hB⟩ : ∃ B, w.heap.size = B := ⟨_, rfl⟩
  rw [hB] at b1 ⊢
  clear hB
  go_wp2_with fail
  go_loopw [3, 4] (fun s si wr => ∃ i : Nat, i ≤ M ∧ si = .int .i64 i ∧ s = sV ([123, 32] ++ ((l.take i).map fun s => txS s ++ [32]).flatten) ∧ Nb W1 wr) (fun _ si _ => M - (intOf si).toNat)
  case atStart => exact ⟨0, Nat.zero_le _, rfl, rfl, Nb.refl _⟩
  case round =>
    obtain ⟨i, hi2, rfl, rfl, hn⟩ := hrel
    have b2 := hn.block b1
    have y0 := cell_of_row _ _ 0 _ _ _ b2
    have y1 := cell_of_row _ _ 1 _ _ _ b2
    have y2 := cell_of_row _ _ 2 _ _ _ b2
    have y3 := cell_of_row _ _ 3 _ _ _ b2
    have y4 := cell_of_row _ _ 4 _ _ _ b2
    have y5 := cell_of_row _ _ 5 _ _ _ b2
    have y6 := cell_of_row _ _ 6 _ _ _ b2
    have y7 := cell_of_row _ _ 7 _ _ _ b2
    have y8 := cell_of_row _ _ 8 _ _ _ b2
    have hnb : Nb W0 wr := h1.trans hn
    by_cases hlt2 : i < M
    · have hlt3 : (i : Int) < (M : Int) := by omega
      obtain ⟨x, hx⟩ : ∃ x, l[i]? = some x := ⟨_, List.getElem?_eq_getElem (by rw [hMh.out]; exact hlt2)⟩
      obtain ⟨b, o, hbo, hxc⟩ := RowS.at_ srow.out (i := i) (r := x.cells) (by rw [List.getElem?_map, hx]; rfl)
      obtain rfl := hbo
      have x0 := hnb.cell (hxc 0 _ rfl)
      have x1 := hnb.cell (hxc 1 _ rfl)
      have x2 := hnb.cell (hxc 2 _ rfl)
      have x3 := hnb.cell (hxc 3 _ rfl)
      have x4 := hnb.cell (hxc 4 _ rfl)
      rw [Nat.add_zero] at x0
      have hmem := List.mem_of_getElem? hx
      have htk := flat_take (fun s => txS s ++ [32]) l i x hx
      have hl1 := flat_le (fun s => txS s ++ [32]) l (i + 1)
      rw [← hZm.out] at hl1
      rw [htk, List.length_append] at hl1
      have hkx := hst.out x hmem
      obtain ⟨Y, hY1⟩ : ∃ Y, ((l.take i).map fun s => txS s ++ [32]).flatten = Y := ⟨_, rfl⟩
      rw [hY1] at htk hl1 ⊢
      obtain ⟨X, hX1⟩ : ∃ X, txS x = X := ⟨_, rfl⟩
      rw [hX1] at htk hl1 hkx
      clear hY1 hX1 hx hxc
      simp only [List.length_append, List.length_cons, List.length_nil] at hl1
      have hlz := hle.out
      replace hkx := Lib.hid (hkx (by omega))
      replace htk := Lib.hid htk
      go_wp2_with (go_at_call 64; refine (hkx.out _ hnb).mono ?_; rintro r w6 ⟨rfl, g6⟩)
      exact ⟨⟨i + 1, by omega, by simp, by rw [htk.out]; show Value.string _ = _; simp only [addB, List.append_assoc, List.cons_append, List.nil_append], hn.trans g6⟩, by simp [intOf] <;> omega⟩
    · obtain rfl : i = M := by omega
      have hfull : ((l.take i).map fun s => txS s ++ [32]).flatten = Z := by rw [hZm.out, ← hMh.out, List.take_length]
      rw [hfull]
      have hlz := hle.out
      clear hfull
      go_wp2_with (go_at_call 65; refine (hend.out _ hnb).mono ?_; rintro r w6 ⟨rfl, g6⟩)
      go_ret
      exact ⟨by rw [htx.out]; show Ending.returned (.string _) = _; simp only [addB, List.append_assoc, List.cons_append, List.nil_append], n1.trans (hn.trans g6)⟩
end Go.Proofs.YtebcjocpmnapeaaGreatDoor
end
section
namespace Go.Proofs.YtebcjocpmnapeaaGreatDoor
open Go.RowKit
set_option linter.unusedVariables false
set_option linter.unusedSimpArgs false
set_option maxRecDepth 100000
set_option maxHeartbeats 4000000
theorem rgoodB_any (W0 : World) : ∀ e : Bd, e.Has W0 → ∀ w, Nb W0 w → Calls Tryz.prog 18 #[.agg e.cells.toArray] w fun r w' => r = .returned (.bool (gB e)) ∧ Nb w w' := by
  intro e
  induction e using Bd.ind
  rename_i e ihp iha
  intro he w hw
  cases he with
  | mk srow skids args prow pkids mrow mpat mguard mbody ac af =>
  have hpn := Lib.hid (fun x (hx : x ∈ e.parts) => ihp x hx (pkids x hx))
  have hsn := Lib.hid (fun x (hx : x ∈ e.stmts) => rgoodS_any W0 x (skids x hx))
  have hat := Lib.hid (ratom_any e.actor ac)
  have hes := fun a b w (h : Nb W0 w) => rgoodEs_any W0 e.args e.av args a b w h
  have has := Lib.hid (fun w (h : Nb W0 w) => rgoodAs_any W0 e.arms e.mv mrow mpat mguard (fun m hm => iha m hm (mbody m hm)) w h)
  obtain ⟨A0, cp0, hv0, hcap0, hlq0, -⟩ := srow.head
  obtain ⟨A1, cp1, hv1, hcap1, hlq1, -⟩ := args.row.head
  obtain ⟨A2, cp2, hv2, hcap2, hlq2, -⟩ := prow.head
  obtain ⟨A3, cp3, hv3, hcap3, hlq3, -⟩ := mrow.head
  rw [List.length_map] at hv0 hlq0 hcap0 hv1 hlq1 hcap1 hv2 hlq2 hcap2 hv3 hlq3 hcap3
  have hc : e.cells = [.slice A0 e.stmts.length cp0, .int .i64 e.kind, .int .i64 e.at_, sV e.actor, .slice A1 e.args.length cp1, .slice A2 e.parts.length cp2, .slice A3 e.arms.length cp3, .bool e.late, .int .i64 e.after] := by
    rw [← hv0, ← hv1, ← hv2, ← hv3]; rfl
  rw [hv0] at srow
  rw [hv2] at prow
  rw [hv3] at has
  rw [hv1] at hes
  rw [hc]
  have hg := rfB_eq e
  obtain ⟨G, hG⟩ : ∃ G, gB e = G := ⟨_, rfl⟩
  rw [hG] at hg ⊢
  unfold rfB at hg
  replace srow := Lib.hid srow
  replace prow := Lib.hid prow
  clear hG hc hv0 hv1 hv2 hv3 ihp iha skids pkids mrow mpat mguard mbody args ac
  obtain ⟨P, hP⟩ : ∃ P, e.arms.all gA = P := ⟨_, rfl⟩
  rw [hP] at hg has
  clear hP
  obtain ⟨M, hM⟩ : ∃ M, e.stmts.length = M := ⟨_, rfl⟩
  have hMh := Lib.hid hM
  rw [hM] at srow hlq0 hcap0 ⊢
  clear hM
  obtain ⟨N, hN⟩ : ∃ N, e.parts.length = N := ⟨_, rfl⟩
  have hNh := Lib.hid hN
  unfold rfX at hg
  rw [hN] at prow hlq2 hcap2 hg ⊢
  clear hN
  replace hes : ∀ a b w, Nb W0 w → Calls Tryz.prog 17 #[.slice A1 e.args.length cp1, .int .i64 a, .int .i64 b] w fun r w' => r = .returned (.bool (lenS e.args a b)) ∧ Nb w w' := hes
  obtain ⟨Q3, hQ3⟩ : ∃ Q, e.arms.length = Q := ⟨_, rfl⟩
  rw [hQ3] at hg has hlq3 hcap3 ⊢
  clear hQ3
  obtain ⟨Q1, hQ1⟩ : ∃ Q, e.args.length = Q := ⟨_, rfl⟩
  rw [hQ1] at hg hes hlq1 hcap1 ⊢
  clear hQ1
  replace hg := Lib.hid hg
  replace hes := Lib.hid hes
  go_enter Tryz.func18, Tryz.ntmps18
  go_upto_region 1 with (fail)
  obtain ⟨W1, hW1⟩ : ∃ W1, w.alloc (.cells #[.slice A0 M cp0, .int .i64 e.kind, .int .i64 e.at_, sV e.actor, .slice A1 Q1 cp1, .slice A2 N cp2, .slice A3 Q3 cp3, .bool e.late, .int .i64 e.after] 39) = W1 := ⟨_, rfl⟩
  have b1 : W1.heap[w.heap.size]? = some (.cells #[.slice A0 M cp0, .int .i64 e.kind, .int .i64 e.at_, sV e.actor, .slice A1 Q1 cp1, .slice A2 N cp2, .slice A3 Q3 cp3, .bool e.late, .int .i64 e.after] 39 (0, 0)) := by rw [← hW1]; exact new_blk _ _ rfl
  have n1 : Nb w W1 := by rw [← hW1]; exact alloc_nb _ _
  rw [hW1]
  clear hW1
  obtain ⟨B, hB⟩ : ∃ B, w.heap.size = B := ⟨_, rfl⟩
  rw [hB] at b1 ⊢
  clear hB
  go_wp2_with fail
  go_loopw [3] (fun si wr => ∃ i : Nat, i ≤ M ∧ si = .int .i64 i ∧ (e.stmts.take i).all gSt = true ∧ Nb W1 wr) (fun si _ => M - (intOf si).toNat)
  case atStart => exact ⟨0, Nat.zero_le _, rfl, by simp, Nb.refl _⟩
  case round =>
    obtain ⟨i, hi2, rfl, hall, hn⟩ := hrel
    have b2 := hn.block b1
    have y0 := cell_of_row _ _ 0 _ _ _ b2
    have y1 := cell_of_row _ _ 1 _ _ _ b2
    have y2 := cell_of_row _ _ 2 _ _ _ b2
    have y3 := cell_of_row _ _ 3 _ _ _ b2
    have y4 := cell_of_row _ _ 4 _ _ _ b2
    have y5 := cell_of_row _ _ 5 _ _ _ b2
    have y6 := cell_of_row _ _ 6 _ _ _ b2
    have y7 := cell_of_row _ _ 7 _ _ _ b2
    have y8 := cell_of_row _ _ 8 _ _ _ b2
    have hnW : Nb w wr := n1.trans hn
    by_cases hlt2 : i < M
    · have hlt3 : (i : Int) < (M : Int) := by omega
      obtain ⟨x, hx⟩ : ∃ x, e.stmts[i]? = some x := ⟨_, List.getElem?_eq_getElem (by rw [hMh.out]; exact hlt2)⟩
      obtain ⟨b, o, hbo, hxc⟩ := RowS.at_ srow.out (i := i) (r := x.cells) (by rw [List.getElem?_map, hx]; rfl)
      obtain rfl := hbo
      have hnb : Nb W0 wr := hw.trans hnW
      have x0 := hnb.cell (hxc 0 _ rfl)
      have x1 := hnb.cell (hxc 1 _ rfl)
      have x2 := hnb.cell (hxc 2 _ rfl)
      have x3 := hnb.cell (hxc 3 _ rfl)
      have x4 := hnb.cell (hxc 4 _ rfl)
      rw [Nat.add_zero] at x0
      have hmem := List.mem_of_getElem? hx
      have hcall := Lib.hid (hsn.out x hmem wr hnb)
      have htk : (e.stmts.take (i + 1)).all gSt = gSt x := by rw [List.take_add_one, hx, List.all_append, hall]; simp
      cases hgx : gSt x with
      | false =>
        have hgf : G = false := by
          rw [hg.out]
          have : e.stmts.all gSt = false := by
            rw [← Bool.not_eq_true, List.all_eq_true]
            intro h
            rw [h x hmem] at hgx
            cases hgx
          rw [this, Bool.false_and, Bool.false_and]
        rw [hgx] at hcall
        clear hx hxc
        go_wp2_with (go_at_call 59; refine (hcall.out).mono ?_; rintro r w6 ⟨rfl, g6⟩)
        go_ret
        exact ⟨by rw [hgf]; rfl, hnW.trans g6⟩
      | true =>
        rw [hgx] at hcall htk
        replace htk := Lib.hid htk
        clear hx hxc
        go_wp2_with (go_at_call 59; refine (hcall.out).mono ?_; rintro r w6 ⟨rfl, g6⟩)
        exact ⟨⟨i + 1, by omega, by simp, htk.out, hn.trans g6⟩, by simp [intOf] <;> omega⟩
    · obtain rfl : i = M := by omega
      have hfull : e.stmts.all gSt = true := by rw [← hall, ← hMh.out, List.take_length]
      replace hg := hg.out
      rw [hfull, Bool.true_and] at hg
      replace hg := Lib.hid hg
      clear hall hMh hfull srow hsn
      go_wp2_with fail
      go_loopw [4] (fun si wr2 => ∃ i : Nat, i ≤ N ∧ si = .int .i64 i ∧ (e.parts.take i).all gB = true ∧ Nb W1 wr2) (fun si _ => N - (intOf si).toNat)
      case atStart => exact ⟨0, Nat.zero_le _, rfl, by simp, hn⟩
      case round =>
        clear y0 y1 y2 y3 y4 y5 y6 y7 y8 b2 hnW hn
        obtain ⟨j, hj2, rfl, hall, hn⟩ := hrel
        have b2 := hn.block b1
        have y0 := cell_of_row _ _ 0 _ _ _ b2
        have y1 := cell_of_row _ _ 1 _ _ _ b2
        have y2 := cell_of_row _ _ 2 _ _ _ b2
        have y3 := cell_of_row _ _ 3 _ _ _ b2
        have y4 := cell_of_row _ _ 4 _ _ _ b2
        have y5 := cell_of_row _ _ 5 _ _ _ b2
        have y6 := cell_of_row _ _ 6 _ _ _ b2
        have y7 := cell_of_row _ _ 7 _ _ _ b2
        have y8 := cell_of_row _ _ 8 _ _ _ b2
        have hnW : Nb w wr := n1.trans hn
        have hnb : Nb W0 wr := hw.trans hnW
        by_cases hlt4 : j < N
        · have hlt3 : (j : Int) < (N : Int) := by omega
          obtain ⟨x, hx⟩ : ∃ x, e.parts[j]? = some x := ⟨_, List.getElem?_eq_getElem (by rw [hNh.out]; exact hlt4)⟩
          obtain ⟨b, o, hbo, hxc⟩ := RowS.at_ prow.out (i := j) (r := x.cells) (by rw [List.getElem?_map, hx]; rfl)
          obtain rfl := hbo
          have x0 := hnb.cell (hxc 0 _ rfl)
          have x1 := hnb.cell (hxc 1 _ rfl)
          have x2 := hnb.cell (hxc 2 _ rfl)
          have x3 := hnb.cell (hxc 3 _ rfl)
          have x4 := hnb.cell (hxc 4 _ rfl)
          have x5 := hnb.cell (hxc 5 _ rfl)
          have x6 := hnb.cell (hxc 6 _ rfl)
          have x7 := hnb.cell (hxc 7 _ rfl)
          have x8 := hnb.cell (hxc 8 _ rfl)
          rw [Nat.add_zero] at x0
          have hmem := List.mem_of_getElem? hx
          have hcall := Lib.hid (hpn.out x hmem wr hnb)
          have htk : (e.parts.take (j + 1)).all gB = gB x := by rw [List.take_add_one, hx, List.all_append, hall]; simp
          cases hgx : gB x with
          | false =>
            have hgf : G = false := by
              rw [hg.out]
              have : e.parts.all gB = false := by
                rw [← Bool.not_eq_true, List.all_eq_true]
                intro h
                rw [h x hmem] at hgx
                cases hgx
              rw [this, Bool.false_and]
            rw [hgx] at hcall
            clear hx hxc
            go_wp2_with (go_at_call 18; refine (hcall.out).mono ?_; rintro r w6 ⟨rfl, g6⟩)
            go_ret
            exact ⟨by rw [hgf]; rfl, hnW.trans g6⟩
          | true =>
            rw [hgx] at hcall htk
            replace htk := Lib.hid htk
            clear hx hxc
            go_wp2_with (go_at_call 18; refine (hcall.out).mono ?_; rintro r w6 ⟨rfl, g6⟩)
            exact ⟨⟨j + 1, by omega, by simp, htk.out, hn.trans g6⟩, by simp [intOf] <;> omega⟩
        · obtain rfl : j = N := by omega
          have hfull : e.parts.all gB = true := by rw [← hall, ← hNh.out, List.take_length]
          replace hg := hg.out
          rw [hfull, Bool.true_and] at hg
          clear hall hNh hfull prow hpn
          have hA0 : (0 : Int) ≤ (Q3 : Int) := Int.natCast_nonneg _
          cases P with
          | false =>
            have hgf : G = false := by rw [hg]; rfl
            clear hg
            go_wp2_with (first
              | (go_at_call 60; refine (has.out _ hnb).mono ?_; rintro r w6 ⟨rfl, g6⟩; replace hnb := hnb.trans g6; replace hnW := hnW.trans g6; replace y0 := g6.cell y0; replace y1 := g6.cell y1; replace y2 := g6.cell y2; replace y3 := g6.cell y3; replace y4 := g6.cell y4; replace y5 := g6.cell y5; replace y6 := g6.cell y6; replace y7 := g6.cell y7; replace y8 := g6.cell y8; clear g6)
              | (go_at_call 16; refine (hat.out _).mono ?_; rintro r w6 ⟨rfl, g6⟩; replace hnb := hnb.trans g6; replace hnW := hnW.trans g6; replace y0 := g6.cell y0; replace y1 := g6.cell y1; replace y2 := g6.cell y2; replace y3 := g6.cell y3; replace y4 := g6.cell y4; replace y5 := g6.cell y5; replace y6 := g6.cell y6; replace y7 := g6.cell y7; replace y8 := g6.cell y8; clear g6)
              | (go_at_call 17; refine (hes.out _ _ _ hnb).mono ?_; rintro r w6 ⟨rfl, g6⟩; replace hnb := hnb.trans g6; replace hnW := hnW.trans g6; replace y0 := g6.cell y0; replace y1 := g6.cell y1; replace y2 := g6.cell y2; replace y3 := g6.cell y3; replace y4 := g6.cell y4; replace y5 := g6.cell y5; replace y6 := g6.cell y6; replace y7 := g6.cell y7; replace y8 := g6.cell y8; clear g6))
            go_ret
            exact ⟨by rw [hgf]; rfl, hnW⟩
          | true =>
            rw [Bool.true_and] at hg
            by_cases k1 : e.kind = 1
            · simp only [k1, if_true, if_false, Int.reduceEq] at hg y1
              obtain ⟨L, hL⟩ : ∃ L, lenS e.args 0 8 = L := ⟨_, rfl⟩
              rw [hL] at hg
              have hes1 := Lib.hid (fun w h => hes.out 0 8 w h)
              rw [hL] at hes1
              cases hna : nameS e.actor
              all_goals cases L
              all_goals cases hlate : e.late
              all_goals
                rw [hna, hlate] at hg
                rw [hna] at hat
                rw [hlate] at y7
                replace hg := Lib.hid hg
                go_wp2_with (first
                | (go_at_call 60; refine (has.out _ hnb).mono ?_; rintro r w6 ⟨rfl, g6⟩; replace hnb := hnb.trans g6; replace hnW := hnW.trans g6; replace y0 := g6.cell y0; replace y1 := g6.cell y1; replace y2 := g6.cell y2; replace y3 := g6.cell y3; replace y4 := g6.cell y4; replace y5 := g6.cell y5; replace y6 := g6.cell y6; replace y7 := g6.cell y7; replace y8 := g6.cell y8; clear g6)
                | (go_at_call 16; refine (hat.out _).mono ?_; rintro r w6 ⟨rfl, g6⟩; replace hnb := hnb.trans g6; replace hnW := hnW.trans g6; replace y0 := g6.cell y0; replace y1 := g6.cell y1; replace y2 := g6.cell y2; replace y3 := g6.cell y3; replace y4 := g6.cell y4; replace y5 := g6.cell y5; replace y6 := g6.cell y6; replace y7 := g6.cell y7; replace y8 := g6.cell y8; clear g6)
                | (go_at_call 17; refine (hes1.out _ hnb).mono ?_; rintro r w6 ⟨rfl, g6⟩; replace hnb := hnb.trans g6; replace hnW := hnW.trans g6; replace y0 := g6.cell y0; replace y1 := g6.cell y1; replace y2 := g6.cell y2; replace y3 := g6.cell y3; replace y4 := g6.cell y4; replace y5 := g6.cell y5; replace y6 := g6.cell y6; replace y7 := g6.cell y7; replace y8 := g6.cell y8; clear g6))
                all_goals
                  go_ret
                  refine ⟨congrArg (fun b => Ending.returned (Value.bool b)) (?_ : _ = G), hnW⟩
                  rw [hg.out]
                  (first | rfl | (simp_all; done) | (rw [Bool.eq_iff_iff]; simp_all; done) | (simp_all; omega) | (rw [Bool.eq_iff_iff]; simp_all; omega))
            by_cases k2 : e.kind = 2
            · simp only [k2, if_true, if_false, Int.reduceEq] at hg y1
              cases hlate : e.late
              all_goals
                rw [hlate] at hg y7
                replace hg := Lib.hid hg
                go_wp2_with (first
                | (go_at_call 60; refine (has.out _ hnb).mono ?_; rintro r w6 ⟨rfl, g6⟩; replace hnb := hnb.trans g6; replace hnW := hnW.trans g6; replace y0 := g6.cell y0; replace y1 := g6.cell y1; replace y2 := g6.cell y2; replace y3 := g6.cell y3; replace y4 := g6.cell y4; replace y5 := g6.cell y5; replace y6 := g6.cell y6; replace y7 := g6.cell y7; replace y8 := g6.cell y8; clear g6)
                | (go_at_call 16; refine (hat.out _).mono ?_; rintro r w6 ⟨rfl, g6⟩; replace hnb := hnb.trans g6; replace hnW := hnW.trans g6; replace y0 := g6.cell y0; replace y1 := g6.cell y1; replace y2 := g6.cell y2; replace y3 := g6.cell y3; replace y4 := g6.cell y4; replace y5 := g6.cell y5; replace y6 := g6.cell y6; replace y7 := g6.cell y7; replace y8 := g6.cell y8; clear g6)
                | (go_at_call 17; refine (hes.out _ _ _ hnb).mono ?_; rintro r w6 ⟨rfl, g6⟩; replace hnb := hnb.trans g6; replace hnW := hnW.trans g6; replace y0 := g6.cell y0; replace y1 := g6.cell y1; replace y2 := g6.cell y2; replace y3 := g6.cell y3; replace y4 := g6.cell y4; replace y5 := g6.cell y5; replace y6 := g6.cell y6; replace y7 := g6.cell y7; replace y8 := g6.cell y8; clear g6))
                all_goals
                  go_ret
                  refine ⟨congrArg (fun b => Ending.returned (Value.bool b)) (?_ : _ = G), hnW⟩
                  rw [hg.out]
                  (first | rfl | (simp_all; done) | (rw [Bool.eq_iff_iff]; simp_all; done) | (simp_all; omega) | (rw [Bool.eq_iff_iff]; simp_all; omega))
            by_cases k3 : e.kind = 3
            · simp only [k3, if_true, if_false, Int.reduceEq] at hg y1
              obtain ⟨L, hL⟩ : ∃ L, lenS e.args 1 1 = L := ⟨_, rfl⟩
              rw [hL] at hg
              have hes1 := Lib.hid (fun w h => hes.out 1 1 w h)
              rw [hL] at hes1
              cases L
              all_goals cases hlate : e.late
              all_goals
                rw [hlate] at hg y7
                replace hg := Lib.hid hg
                go_wp2_with (first
                | (go_at_call 60; refine (has.out _ hnb).mono ?_; rintro r w6 ⟨rfl, g6⟩; replace hnb := hnb.trans g6; replace hnW := hnW.trans g6; replace y0 := g6.cell y0; replace y1 := g6.cell y1; replace y2 := g6.cell y2; replace y3 := g6.cell y3; replace y4 := g6.cell y4; replace y5 := g6.cell y5; replace y6 := g6.cell y6; replace y7 := g6.cell y7; replace y8 := g6.cell y8; clear g6)
                | (go_at_call 16; refine (hat.out _).mono ?_; rintro r w6 ⟨rfl, g6⟩; replace hnb := hnb.trans g6; replace hnW := hnW.trans g6; replace y0 := g6.cell y0; replace y1 := g6.cell y1; replace y2 := g6.cell y2; replace y3 := g6.cell y3; replace y4 := g6.cell y4; replace y5 := g6.cell y5; replace y6 := g6.cell y6; replace y7 := g6.cell y7; replace y8 := g6.cell y8; clear g6)
                | (go_at_call 17; refine (hes1.out _ hnb).mono ?_; rintro r w6 ⟨rfl, g6⟩; replace hnb := hnb.trans g6; replace hnW := hnW.trans g6; replace y0 := g6.cell y0; replace y1 := g6.cell y1; replace y2 := g6.cell y2; replace y3 := g6.cell y3; replace y4 := g6.cell y4; replace y5 := g6.cell y5; replace y6 := g6.cell y6; replace y7 := g6.cell y7; replace y8 := g6.cell y8; clear g6))
                all_goals
                  go_ret
                  refine ⟨congrArg (fun b => Ending.returned (Value.bool b)) (?_ : _ = G), hnW⟩
                  rw [hg.out]
                  (first | rfl | (simp_all; done) | (rw [Bool.eq_iff_iff]; simp_all; done) | (simp_all; omega) | (rw [Bool.eq_iff_iff]; simp_all; omega))
            by_cases k4 : e.kind = 4
            · simp only [k4, if_true, if_false, Int.reduceEq] at hg y1
              cases hlate : e.late
              all_goals
                rw [hlate] at hg y7
                replace hg := Lib.hid hg
                go_wp2_with (first
                | (go_at_call 60; refine (has.out _ hnb).mono ?_; rintro r w6 ⟨rfl, g6⟩; replace hnb := hnb.trans g6; replace hnW := hnW.trans g6; replace y0 := g6.cell y0; replace y1 := g6.cell y1; replace y2 := g6.cell y2; replace y3 := g6.cell y3; replace y4 := g6.cell y4; replace y5 := g6.cell y5; replace y6 := g6.cell y6; replace y7 := g6.cell y7; replace y8 := g6.cell y8; clear g6)
                | (go_at_call 16; refine (hat.out _).mono ?_; rintro r w6 ⟨rfl, g6⟩; replace hnb := hnb.trans g6; replace hnW := hnW.trans g6; replace y0 := g6.cell y0; replace y1 := g6.cell y1; replace y2 := g6.cell y2; replace y3 := g6.cell y3; replace y4 := g6.cell y4; replace y5 := g6.cell y5; replace y6 := g6.cell y6; replace y7 := g6.cell y7; replace y8 := g6.cell y8; clear g6)
                | (go_at_call 17; refine (hes.out _ _ _ hnb).mono ?_; rintro r w6 ⟨rfl, g6⟩; replace hnb := hnb.trans g6; replace hnW := hnW.trans g6; replace y0 := g6.cell y0; replace y1 := g6.cell y1; replace y2 := g6.cell y2; replace y3 := g6.cell y3; replace y4 := g6.cell y4; replace y5 := g6.cell y5; replace y6 := g6.cell y6; replace y7 := g6.cell y7; replace y8 := g6.cell y8; clear g6))
                all_goals
                  go_ret
                  refine ⟨congrArg (fun b => Ending.returned (Value.bool b)) (?_ : _ = G), hnW⟩
                  rw [hg.out]
                  (first | rfl | (simp_all; done) | (rw [Bool.eq_iff_iff]; simp_all; done) | (simp_all; omega) | (rw [Bool.eq_iff_iff]; simp_all; omega))
            simp only [k1, k2, k3, k4, if_false] at hg
            have c4 : (e.kind != 4) = true := bne_iff_ne.2 k4
            have c4' : (e.kind == 4) = false := beq_false_of_ne k4
            have c1 : (e.kind == 1) = false := beq_false_of_ne k1
            have c2 : (e.kind == 2) = false := beq_false_of_ne k2
            have c3 : (e.kind == 3) = false := beq_false_of_ne k3
            replace hg := Lib.hid hg
            cases hlate : e.late
            all_goals
              rw [hlate] at y7
              go_wp2_with (first
              | (go_at_call 60; refine (has.out _ hnb).mono ?_; rintro r w6 ⟨rfl, g6⟩; replace hnb := hnb.trans g6; replace hnW := hnW.trans g6; replace y0 := g6.cell y0; replace y1 := g6.cell y1; replace y2 := g6.cell y2; replace y3 := g6.cell y3; replace y4 := g6.cell y4; replace y5 := g6.cell y5; replace y6 := g6.cell y6; replace y7 := g6.cell y7; replace y8 := g6.cell y8; clear g6)
              | (go_at_call 16; refine (hat.out _).mono ?_; rintro r w6 ⟨rfl, g6⟩; replace hnb := hnb.trans g6; replace hnW := hnW.trans g6; replace y0 := g6.cell y0; replace y1 := g6.cell y1; replace y2 := g6.cell y2; replace y3 := g6.cell y3; replace y4 := g6.cell y4; replace y5 := g6.cell y5; replace y6 := g6.cell y6; replace y7 := g6.cell y7; replace y8 := g6.cell y8; clear g6)
              | (go_at_call 17; refine (hes.out _ _ _ hnb).mono ?_; rintro r w6 ⟨rfl, g6⟩; replace hnb := hnb.trans g6; replace hnW := hnW.trans g6; replace y0 := g6.cell y0; replace y1 := g6.cell y1; replace y2 := g6.cell y2; replace y3 := g6.cell y3; replace y4 := g6.cell y4; replace y5 := g6.cell y5; replace y6 := g6.cell y6; replace y7 := g6.cell y7; replace y8 := g6.cell y8; clear g6))
              all_goals
                go_ret
                exact ⟨by rw [hg.out]; rfl, hnW⟩
end Go.Proofs.YtebcjocpmnapeaaGreatDoor
end
