/-
  Proved here: of the reference: a program's text. Conditions: the memory holds it; its size and depth.
-/
import Derived.Test.YtebcjocpmnapeaaGreatDoorSbr
import Derived.Test.YtebcjocpmnapeaaGreatDoorSbs
namespace Go.Proofs.YtebcjocpmnapeaaGreatDoor
open Go.RowKit
set_option linter.unusedVariables false
set_option linter.unusedSimpArgs false
set_option maxRecDepth 100000
set_option maxHeartbeats 4000000
theorem rprint_any (W0 : World) (e : Pg) (he : e.Has W0) (hs : szP e ≤ 4096) (hd : dpP e ≤ 64) (w : World) (hw : Nb W0 w) : Calls Tryz.prog 9 #[.agg e.cells.toArray] w fun r w' => r = .returned (sV (if gP e = true then txP e else [])) ∧ Nb w w' := by
  have hgood := rgoodP_any W0 e he hs hd
  have hlen := fun hg => len_P e hs (by omega) hg
  have hX := he.drow
  obtain ⟨A0, cp0, hv0, hcap, hlenr, -⟩ := hX.head
  obtain ⟨A1, cp1, hv1, hcap1, hlenr1, -⟩ := he.args.row.head
  rw [List.length_map] at hv0 hcap hlenr hv1
  have hEs := rtxL_any W0 e.args e.av he.args
  have hc : e.cells = [.slice A0 e.defs.length cp0, .int .i64 e.at_, sV e.main, .slice A1 e.args.length cp1] := by
    rw [← hv0, ← hv1]; rfl
  rw [hv0] at hX
  rw [hv1] at hEs
  rw [hc] at hgood ⊢
  have hbd := fun d (hd : d ∈ e.defs) => rtxB_any W0 d.body (he.body d hd)
  have hbh := Lib.hid he.body
  have hpr := Lib.hid he.prow
  clear hc hv0 hv1 he
  have hgr := gP_rf e
  obtain ⟨T, hT⟩ : ∃ T, txP e = T := ⟨_, rfl⟩
  rw [hT] at hlen ⊢
  have htx : T = txDs e.defs ++ ([109, 97, 105, 110, 32] ++ (acT e.main e.args ++ [10])) := hT.symm
  rw [txDs_map] at htx
  unfold acT at htx
  clear hT
  replace hX := Lib.hid hX
  cases hG : gP e with
  | false =>
    rw [hG] at hgood
    replace hgood := Lib.hid hgood
    clear hlen htx hEs hbd hgr
    go_enter Tryz.func9, Tryz.ntmps9
    go_upto_region 1 with (fail)
    obtain ⟨W1, hW1⟩ : ∃ W1, w.alloc (.cells #[.slice A0 e.defs.length cp0, .int .i64 e.at_, sV e.main, .slice A1 e.args.length cp1] 25) = W1 := ⟨_, rfl⟩
    have b1 : W1.heap[w.heap.size]? = some (.cells #[.slice A0 e.defs.length cp0, .int .i64 e.at_, sV e.main, .slice A1 e.args.length cp1] 25 (0, 0)) := by rw [← hW1]; exact new_blk _ _ rfl
    have n1 : Nb w W1 := by rw [← hW1]; exact alloc_nb _ _
    rw [hW1]
    clear hW1
    have y0 := cell_of_row _ _ 0 _ _ _ b1
    have y1 := cell_of_row _ _ 1 _ _ _ b1
    have y2 := cell_of_row _ _ 2 _ _ _ b1
    have y3 := cell_of_row _ _ 3 _ _ _ b1
    go_wp2_with (go_at_call 7; refine (hgood.out _ (hw.trans n1)).mono ?_; rintro r w6 ⟨rfl, g6⟩)
    go_ret
    exact ⟨rfl, n1.trans g6⟩
  | true =>
  rw [hG] at hgood
  replace hgood := Lib.hid hgood
  replace hlen := hlen hG
  rw [hG] at hgr
  replace hgr := hgr.symm
  simp only [Bool.and_eq_true] at hgr
  obtain ⟨⟨-, -, hga⟩, hgd⟩ := hgr
  unfold lenS at hga
  simp only [Bool.and_eq_true] at hga
  replace hEs := hEs hga.1
  have hbd2 : ∀ d ∈ e.defs, (txB d.body).length ≤ 1000000 → ∀ w, Nb W0 w → Calls Tryz.prog 21 #[.agg d.body.cells.toArray] w fun r w' => r = .returned (sV (txB d.body)) ∧ Nb w w' := fun d hd hl w hw => hbd d hd (by
    have := List.all_eq_true.1 hgd d hd
    unfold gD at this
    simp only [Bool.and_eq_true] at this
    exact this.2.2) hl w hw
  replace hbd2 := Lib.hid hbd2
  rw [if_pos rfl]
  clear hbd hgd hga hG
  obtain ⟨AX, hAX⟩ : ∃ AX, jnT (txEs e.args) = AX := ⟨_, rfl⟩
  rw [hAX] at hEs htx
  clear hAX
  obtain ⟨l, hl⟩ : ∃ l, e.defs = l := ⟨_, rfl⟩
  rw [hl] at hX hbd2 hbh hpr hcap hlenr hgood htx ⊢
  clear hl
  obtain ⟨M, hM⟩ : ∃ M, l.length = M := ⟨_, rfl⟩
  have hMh := Lib.hid hM
  rw [hM] at hX hcap hlenr hgood ⊢
  clear hM
  obtain ⟨Z, hZ⟩ : ∃ Z, (l.map txD).flatten = Z := ⟨_, rfl⟩
  rw [hZ] at htx
  have hZm := Lib.hid hZ.symm
  rw [htx] at hlen
  simp only [List.length_append, List.length_cons, List.length_nil] at hlen
  replace hEs := Lib.hid (hEs (by omega))
  have hle := Lib.hid hlen
  replace htx := Lib.hid htx
  clear hZ hlen
  go_enter Tryz.func9, Tryz.ntmps9
  go_upto_region 1 with (fail)
  obtain ⟨W1, hW1⟩ : ∃ W1, w.alloc (.cells #[.slice A0 M cp0, .int .i64 e.at_, sV e.main, .slice A1 e.args.length cp1] 25) = W1 := ⟨_, rfl⟩
  have b1 : W1.heap[w.heap.size]? = some (.cells #[.slice A0 M cp0, .int .i64 e.at_, sV e.main, .slice A1 e.args.length cp1] 25 (0, 0)) := by rw [← hW1]; exact new_blk _ _ rfl
  have n1 : Nb w W1 := by rw [← hW1]; exact alloc_nb _ _
  rw [hW1]
  clear hW1
  obtain ⟨B, hB⟩ : ∃ B, w.heap.size = B := ⟨_, rfl⟩
  rw [hB] at b1 ⊢
  clear hB
  have y0 := cell_of_row _ _ 0 _ _ _ b1
  have y1 := cell_of_row _ _ 1 _ _ _ b1
  have y2 := cell_of_row _ _ 2 _ _ _ b1
  have y3 := cell_of_row _ _ 3 _ _ _ b1
  go_wp2_with (go_at_call 7; refine (hgood.out _ (hw.trans n1)).mono ?_; rintro r w6 ⟨rfl, g6⟩)
  clear y0 y1 y2 y3
  go_loopw [3, 4, 5, 6, 7] (fun s si sb sp sj wr => ∃ i : Nat, i ≤ M ∧ si = .int .i64 i ∧ s = sV ((l.take i).map txD).flatten ∧ Nb W1 wr) (fun _ si _ _ _ _ => M - (intOf si).toNat)
  case atStart => exact ⟨0, Nat.zero_le _, rfl, rfl, g6⟩
  case round =>
    obtain ⟨i, hi2, rfl, rfl, hn⟩ := hrel
    have b2 := hn.block b1
    have y0 := cell_of_row _ _ 0 _ _ _ b2
    have y1 := cell_of_row _ _ 1 _ _ _ b2
    have y2 := cell_of_row _ _ 2 _ _ _ b2
    have y3 := cell_of_row _ _ 3 _ _ _ b2
    have hnb : Nb W0 wr := hw.trans (n1.trans hn)
    by_cases hlt2 : i < M
    · have hlt3 : (i : Int) < (M : Int) := by omega
      obtain ⟨x, hx⟩ : ∃ x, l[i]? = some x := ⟨_, List.getElem?_eq_getElem (by rw [hMh.out]; exact hlt2)⟩
      obtain ⟨b, o, hbo, hxc⟩ := RowS.at_ hX.out (i := i) (r := x.cells) (by rw [List.getElem?_map, hx]; rfl)
      obtain rfl := hbo
      have x0 := hnb.cell (hxc 0 _ rfl)
      have x1 := hnb.cell (hxc 1 _ rfl)
      have x2 := hnb.cell (hxc 2 _ rfl)
      have x3 := hnb.cell (hxc 3 _ rfl)
      have x4 := hnb.cell (hxc 4 _ rfl)
      have x5 := hnb.cell (hxc 5 _ rfl)
      have x6 := hnb.cell (hxc 6 _ rfl)
      have x7 := hnb.cell (hxc 7 _ rfl)
      have x8 := hnb.cell (hxc 8 _ rfl)
      have x9 := hnb.cell (hxc 9 _ rfl)
      have x10 := hnb.cell (hxc 10 _ rfl)
      have x11 := hnb.cell (hxc 11 _ rfl)
      rw [Nat.add_zero] at x0
      have hmem := List.mem_of_getElem? hx
      have htk := flat_take txD l i x hx
      have hl1 := flat_le txD l (i + 1)
      rw [← hZm.out] at hl1
      rw [htk, List.length_append] at hl1
      have hkb := hbd2.out x hmem
      have hPr := hpr.out x hmem
      obtain ⟨Ap, cpp, hpv, hcapp, hlenp, -⟩ := hPr.head
      obtain ⟨S0, sc0, hs0, -, -, -⟩ := (hbh.out x hmem).srow.1.head
      obtain ⟨S1, sc1, hs1, -, -, -⟩ := (hbh.out x hmem).exs.row.head
      obtain ⟨S2, sc2, hs2, -, -, -⟩ := (hbh.out x hmem).prow.1.head
      obtain ⟨S3, sc3, hs3, -, -, -⟩ := (hbh.out x hmem).mrow.1.head
      rw [List.length_map] at hs0 hs1 hs2 hs3 hpv hcapp hlenp
      rw [hpv] at x2 hPr
      rw [hs0] at x3
      rw [hs1] at x7
      rw [hs2] at x8
      rw [hs3] at x9
      rw [show x.body.cells = [x.body.sv, .int .i64 x.body.kind, .int .i64 x.body.at_, sV x.body.actor, x.body.av, x.body.pv, x.body.mv, .bool x.body.late, .int .i64 x.body.after] from rfl, hs0, hs1, hs2, hs3] at hkb
      obtain ⟨Y, hY1⟩ : ∃ Y, ((l.take i).map txD).flatten = Y := ⟨_, rfl⟩
      rw [hY1] at htk hl1 ⊢
      have hxd : txD x = ([97, 99, 116, 111, 114, 32] ++ (x.name ++ [40])) ++ (jnT x.params ++ ([41, 32] ++ (txB x.body ++ [10]))) := rfl
      rw [hxd] at htk hl1
      obtain ⟨V, hV1⟩ : ∃ V, txB x.body = V := ⟨_, rfl⟩
      rw [hV1] at hkb htk hl1
      obtain ⟨pl, hpl⟩ : ∃ pl, x.params = pl := ⟨_, rfl⟩
      rw [hpl] at hPr x2 hcapp hlenp htk hl1
      obtain ⟨N, hN⟩ : ∃ N, pl.length = N := ⟨_, rfl⟩
      have hNh := Lib.hid hN
      rw [hN] at hPr x2 hcapp hlenp
      replace hPr := Lib.hid hPr
      obtain ⟨J, hJ⟩ : ∃ J, jnT pl = J := ⟨_, rfl⟩
      rw [hJ] at htk hl1
      have hJm := Lib.hid hJ
      simp only [List.length_append, List.length_cons, List.length_nil] at hl1
      have hlz := hle.out
      replace hkb := Lib.hid (hkb (by omega))
      have hl2 := Lib.hid hl1
      replace htk := Lib.hid htk
      clear hx hxc hpl hN hpv hs0 hs1 hs2 hs3 hY1 hV1 hxd hJ
      go_upto_region 8 with (fail)
      obtain ⟨W2, hW2⟩ : ∃ W2, wr.alloc (.cells #[.int .i64 x.at_, sV x.name, .slice Ap N cpp, .slice S0 x.body.stmts.length sc0, .int .i64 x.body.kind, .int .i64 x.body.at_, sV x.body.actor, .slice S1 x.body.args.length sc1, .slice S2 x.body.parts.length sc2, .slice S3 x.body.arms.length sc3, .bool x.body.late, .int .i64 x.body.after] 41) = W2 := ⟨_, rfl⟩
      have c1 : W2.heap[wr.heap.size]? = some (.cells #[.int .i64 x.at_, sV x.name, .slice Ap N cpp, .slice S0 x.body.stmts.length sc0, .int .i64 x.body.kind, .int .i64 x.body.at_, sV x.body.actor, .slice S1 x.body.args.length sc1, .slice S2 x.body.parts.length sc2, .slice S3 x.body.arms.length sc3, .bool x.body.late, .int .i64 x.body.after] 41 (0, 0)) := by rw [← hW2]; exact new_blk _ _ rfl
      have n2 : Nb wr W2 := by rw [← hW2]; exact alloc_nb _ _
      rw [hW2]
      clear hW2 b2
      obtain ⟨B2, hB2⟩ : ∃ B2, wr.heap.size = B2 := ⟨_, rfl⟩
      rw [hB2] at c1 ⊢
      clear hB2 x0 x1 x2 x3 x4 x5 x6 x7 x8 x9 x10 x11 y0 y1 y2 y3
      have hnb3 : Nb W0 W2 := hnb.trans n2
      go_wp2_with fail
      go_loopw [6, 7] (fun s sj wr2 => ∃ j : Nat, j ≤ N ∧ sj = .int .i64 j ∧ s = sV (jnT (pl.take j)) ∧ Nb W2 wr2) (fun _ sj _ => N - (intOf sj).toNat)
      case atStart => exact ⟨0, Nat.zero_le _, rfl, rfl, Nb.refl _⟩
      case round =>
        obtain ⟨j, hj2, rfl, rfl, hn3⟩ := hrel
        have c2 := hn3.block c1
        have z0 := cell_of_row _ _ 0 _ _ _ c2
        have z1 := cell_of_row _ _ 1 _ _ _ c2
        have z2 := cell_of_row _ _ 2 _ _ _ c2
        have z3 := cell_of_row _ _ 3 _ _ _ c2
        have z4 := cell_of_row _ _ 4 _ _ _ c2
        have z5 := cell_of_row _ _ 5 _ _ _ c2
        have z6 := cell_of_row _ _ 6 _ _ _ c2
        have z7 := cell_of_row _ _ 7 _ _ _ c2
        have z8 := cell_of_row _ _ 8 _ _ _ c2
        have z9 := cell_of_row _ _ 9 _ _ _ c2
        have z10 := cell_of_row _ _ 10 _ _ _ c2
        have z11 := cell_of_row _ _ 11 _ _ _ c2
        have hnb4 : Nb W0 wr := hnb3.trans hn3
        by_cases hlt4 : j < N
        · have hlt5 : (j : Int) < (N : Int) := by omega
          obtain ⟨s, hsx⟩ : ∃ s, pl[j]? = some s := ⟨_, List.getElem?_eq_getElem (by rw [hNh.out]; exact hlt4)⟩
          obtain ⟨sb, so, hbo, hsc⟩ := RowS.at_ hPr.out (i := j) (r := [sV s]) (by rw [List.getElem?_map, hsx]; rfl)
          obtain rfl := hbo
          have s0 := hnb4.cell (hsc 0 _ rfl)
          rw [Nat.add_zero, Nat.mul_one] at s0
          have htk2 := jnT_take pl j s hsx
          have hl3 : (jnT (pl.take (j + 1))).length ≤ 1000000 := Nat.le_trans (jnT_le _ _) (by rw [hJm.out]; omega)
          rw [htk2] at hl3
          obtain ⟨K2, hK2⟩ : ∃ K2, jnT (pl.take j) = K2 := ⟨_, rfl⟩
          rw [hK2] at htk2 hl3 ⊢
          clear hsx hsc hK2
          by_cases h0 : j = 0
          · have h5 : ¬ (0 : Int) < (j : Int) := by omega
            rw [show sepT j s = s from by rw [sepT, if_pos h0]; rfl] at htk2 hl3
            rw [List.length_append] at hl3
            replace htk2 := Lib.hid htk2
            obtain rfl := h0
            simp only [Nat.add_zero] at s0
            go_wp2_with fail
            exact ⟨⟨0 + 1, by omega, by simp, by rw [htk2.out, addB], hn3⟩, by simp [intOf] <;> omega⟩
          · have h5 : (0 : Int) < (j : Int) := by omega
            rw [show sepT j s = [44, 32] ++ s from by rw [sepT, if_neg h0]] at htk2 hl3
            rw [List.length_append, List.length_append] at hl3
            replace htk2 := Lib.hid htk2
            go_wp2_with fail
            exact ⟨⟨j + 1, by omega, by simp, by rw [htk2.out]; show Value.string _ = _; simp only [addB, List.append_assoc], hn3⟩, by simp [intOf] <;> omega⟩
        · obtain rfl : j = N := by omega
          have hfull : jnT (pl.take j) = J := by rw [← hJm.out, ← hNh.out, List.take_length]
          rw [hfull]
          clear hfull
          go_upto_region 15 with (fail)
          have hG : Nb wr wr.drew := drew1R (Nb.refl wr)
          refine wp_region_late [] (fun _ => True) (fun w' => Nb wr w') (by kernel_rfl) ⟨fun _ => trivial, hG⟩ (fun _ => ?_)
          change wpAnyL _ _ _ _ _ _ _ 15 (List.toArray [false, false, false, false, false, false, false, false, false, false, false, false, false, false, false]) _ _
          refine takeG_l (i := 0) (v := sV Y) rfl (by kernel_rfl) (by kernel_rfl) (by kernel_rfl) (by rfl) (fun _ _ _ h => h) (.inl ⟨by rfl, by intro w' hw; go_simp <;> omega⟩) ⟨fun _ => trivial, hG⟩ ?_
          simp only [Act.put, List.setIfInBounds_toArray, List.set_cons_zero, List.set_cons_succ]
          refine takeG_l (i := 1) (v := .string (((⟨Y.toArray⟩ : ByteArray)) ++ ⟨#[97, 99, 116, 111, 114, 32]⟩)) rfl (by kernel_rfl) (by kernel_rfl) (by kernel_rfl) (by rfl) (fun _ _ _ h => h) (.inl ⟨by rfl, by intro w' hw; go_simp <;> omega⟩) ⟨fun _ => trivial, hG⟩ ?_
          simp only [Act.put, List.setIfInBounds_toArray, List.set_cons_zero, List.set_cons_succ]
          refine takeG_l (i := 2) (v := .pointer (some ⟨B2, 1, none⟩)) rfl (by kernel_rfl) (by kernel_rfl) (by kernel_rfl) (by rfl) (fun _ _ _ h => h) (.inl ⟨by rfl, by intro w' hw; go_simp <;> omega⟩) ⟨fun _ => trivial, hG⟩ ?_
          simp only [Act.put, List.setIfInBounds_toArray, List.set_cons_zero, List.set_cons_succ]
          refine takeG_l (i := 3) (v := sV x.name) rfl (by kernel_rfl) (by kernel_rfl) (by kernel_rfl) (by rfl) (fun _ _ _ h => h) (.inl ⟨by rfl, by intro w' hw; have hc := hw.cell z1; go_simp <;> omega⟩) ⟨fun _ => trivial, hG⟩ ?_
          simp only [Act.put, List.setIfInBounds_toArray, List.set_cons_zero, List.set_cons_succ]
          refine takeG_l (i := 4) (v := .string ((((⟨Y.toArray⟩ : ByteArray)) ++ ⟨#[97, 99, 116, 111, 114, 32]⟩) ++ ⟨x.name.toArray⟩)) rfl (by kernel_rfl) (by kernel_rfl) (by kernel_rfl) (by rfl) (fun _ _ _ h => h) (.inl ⟨by rfl, by intro w' hw; go_simp <;> omega⟩) ⟨fun _ => trivial, hG⟩ ?_
          simp only [Act.put, List.setIfInBounds_toArray, List.set_cons_zero, List.set_cons_succ]
          refine takeG_l (i := 5) (v := .string (((((⟨Y.toArray⟩ : ByteArray)) ++ ⟨#[97, 99, 116, 111, 114, 32]⟩) ++ ⟨x.name.toArray⟩) ++ ⟨#[40]⟩)) rfl (by kernel_rfl) (by kernel_rfl) (by kernel_rfl) (by rfl) (fun _ _ _ h => h) (.inl ⟨by rfl, by intro w' hw; go_simp <;> omega⟩) ⟨fun _ => trivial, hG⟩ ?_
          simp only [Act.put, List.setIfInBounds_toArray, List.set_cons_zero, List.set_cons_succ]
          refine takeG_l (i := 6) (v := sV J) rfl (by kernel_rfl) (by kernel_rfl) (by kernel_rfl) (by rfl) (fun _ _ _ h => h) (.inl ⟨by rfl, by intro w' hw; go_simp <;> omega⟩) ⟨fun _ => trivial, hG⟩ ?_
          simp only [Act.put, List.setIfInBounds_toArray, List.set_cons_zero, List.set_cons_succ]
          refine takeG_l (i := 7) (v := .string ((((((⟨Y.toArray⟩ : ByteArray)) ++ ⟨#[97, 99, 116, 111, 114, 32]⟩) ++ ⟨x.name.toArray⟩) ++ ⟨#[40]⟩) ++ ⟨J.toArray⟩)) rfl (by kernel_rfl) (by kernel_rfl) (by kernel_rfl) (by rfl) (fun _ _ _ h => h) (.inl ⟨by rfl, by intro w' hw; go_simp <;> omega⟩) ⟨fun _ => trivial, hG⟩ ?_
          simp only [Act.put, List.setIfInBounds_toArray, List.set_cons_zero, List.set_cons_succ]
          refine takeG_l (i := 8) (v := .string (((((((⟨Y.toArray⟩ : ByteArray)) ++ ⟨#[97, 99, 116, 111, 114, 32]⟩) ++ ⟨x.name.toArray⟩) ++ ⟨#[40]⟩) ++ ⟨J.toArray⟩) ++ ⟨#[41, 32]⟩)) rfl (by kernel_rfl) (by kernel_rfl) (by kernel_rfl) (by rfl) (fun _ _ _ h => h) (.inl ⟨by rfl, by intro w' hw; go_simp <;> omega⟩) ⟨fun _ => trivial, hG⟩ ?_
          simp only [Act.put, List.setIfInBounds_toArray, List.set_cons_zero, List.set_cons_succ]
          refine takeG_l (i := 9) (v := .pointer (some ⟨B2, 3, none⟩)) rfl (by kernel_rfl) (by kernel_rfl) (by kernel_rfl) (by rfl) (fun _ _ _ h => h) (.inl ⟨by rfl, by intro w' hw; go_simp <;> omega⟩) ⟨fun _ => trivial, hG⟩ ?_
          simp only [Act.put, List.setIfInBounds_toArray, List.set_cons_zero, List.set_cons_succ]
          refine takeG_l (i := 10) (v := .agg #[.slice S0 x.body.stmts.length sc0, .int .i64 x.body.kind, .int .i64 x.body.at_, sV x.body.actor, .slice S1 x.body.args.length sc1, .slice S2 x.body.parts.length sc2, .slice S3 x.body.arms.length sc3, .bool x.body.late, .int .i64 x.body.after]) rfl (by kernel_rfl) (by kernel_rfl) (by kernel_rfl) (by rfl) (fun _ _ _ h => h) (.inl ⟨by rfl, by intro w' hw; have r3 := hw.cell z3; have r4 := hw.cell z4; have r5 := hw.cell z5; have r6 := hw.cell z6; have r7 := hw.cell z7; have r8 := hw.cell z8; have r9 := hw.cell z9; have r10 := hw.cell z10; have r11 := hw.cell z11; go_simp <;> omega⟩) ⟨fun _ => trivial, hG⟩ ?_
          simp only [Act.put, List.setIfInBounds_toArray, List.set_cons_zero, List.set_cons_succ]
          generalize wr.drew = Wd at hG ⊢
          refine onlyL_l (i := 11) (by kernel_rfl) rfl (by rfl) (fun K hK => ?_)
          go_simp
          refine (hkb.out _ (hnb4.trans hG)).mono ?_
          rintro r w5 ⟨rfl, nc⟩
          replace hG := hG.trans nc
          refine hK.out _ _ ⟨fun _ => trivial, hG⟩ (fun _ => ?_)
          clear hK K nc
          simp only [Act.put, List.setIfInBounds_toArray, List.set_cons_zero, List.set_cons_succ]
          refine takeG_l (i := 12) (v := .string ((((((((⟨Y.toArray⟩ : ByteArray)) ++ ⟨#[97, 99, 116, 111, 114, 32]⟩) ++ ⟨x.name.toArray⟩) ++ ⟨#[40]⟩) ++ ⟨J.toArray⟩) ++ ⟨#[41, 32]⟩) ++ ⟨V.toArray⟩)) rfl (by kernel_rfl) (by kernel_rfl) (by kernel_rfl) (by rfl) (fun _ _ _ h => h) (.inl ⟨by rfl, by intro w' hw; go_simp <;> omega⟩) ⟨fun _ => trivial, hG⟩ ?_
          simp only [Act.put, List.setIfInBounds_toArray, List.set_cons_zero, List.set_cons_succ]
          refine takeG_l (i := 13) (v := .string (((((((((⟨Y.toArray⟩ : ByteArray)) ++ ⟨#[97, 99, 116, 111, 114, 32]⟩) ++ ⟨x.name.toArray⟩) ++ ⟨#[40]⟩) ++ ⟨J.toArray⟩) ++ ⟨#[41, 32]⟩) ++ ⟨V.toArray⟩) ++ ⟨#[10]⟩)) rfl (by kernel_rfl) (by kernel_rfl) (by kernel_rfl) (by rfl) (fun _ _ _ h => h) (.inl ⟨by rfl, by intro w' hw; go_simp <;> omega⟩) ⟨fun _ => trivial, hG⟩ ?_
          simp only [Act.put, List.setIfInBounds_toArray, List.set_cons_zero, List.set_cons_succ]
          refine takeG_l (i := 14) (v := .string (((((((((⟨Y.toArray⟩ : ByteArray)) ++ ⟨#[97, 99, 116, 111, 114, 32]⟩) ++ ⟨x.name.toArray⟩) ++ ⟨#[40]⟩) ++ ⟨J.toArray⟩) ++ ⟨#[41, 32]⟩) ++ ⟨V.toArray⟩) ++ ⟨#[10]⟩)) rfl (by kernel_rfl) (by kernel_rfl) (by kernel_rfl) (by rfl) (fun _ _ _ h => h) (.inl ⟨by rfl, by intro w' hw; go_simp <;> omega⟩) ⟨fun _ => trivial, hG⟩ ?_
          simp only [Act.put, List.setIfInBounds_toArray, List.set_cons_zero, List.set_cons_succ]
          refine doneL (by kernel_rfl) ?_ _
          go_wp2_with fail
          exact ⟨⟨i + 1, by omega, by simp, by rw [htk.out]; show Value.string _ = _; simp only [addB, List.append_assoc, List.cons_append, List.nil_append], hn.trans (n2.trans (hn3.trans hG))⟩, by simp [intOf] <;> omega⟩
    · obtain rfl : i = M := by omega
      have hfull : ((l.take i).map txD).flatten = Z := by rw [hZm.out, ← hMh.out, List.take_length]
      rw [hfull]
      have hlz := hle.out
      clear hfull
      go_upto_region 16 with (fail)
      have hG : Nb wr wr.drew := drew1R (Nb.refl wr)
      refine wp_region_late [] (fun _ => True) (fun w' => Nb wr w') (by kernel_rfl) ⟨fun _ => trivial, hG⟩ (fun _ => ?_)
      change wpAnyL _ _ _ _ _ _ _ 12 (List.toArray [false, false, false, false, false, false, false, false, false, false, false, false]) _ _
      refine takeG_l (i := 0) (v := sV Z) rfl (by kernel_rfl) (by kernel_rfl) (by kernel_rfl) (by rfl) (fun _ _ _ h => h) (.inl ⟨by rfl, by intro w' hw; go_simp <;> omega⟩) ⟨fun _ => trivial, hG⟩ ?_
      simp only [Act.put, List.setIfInBounds_toArray, List.set_cons_zero, List.set_cons_succ]
      refine takeG_l (i := 1) (v := .string (((⟨Z.toArray⟩ : ByteArray)) ++ ⟨#[109, 97, 105, 110, 32]⟩)) rfl (by kernel_rfl) (by kernel_rfl) (by kernel_rfl) (by rfl) (fun _ _ _ h => h) (.inl ⟨by rfl, by intro w' hw; go_simp <;> omega⟩) ⟨fun _ => trivial, hG⟩ ?_
      simp only [Act.put, List.setIfInBounds_toArray, List.set_cons_zero, List.set_cons_succ]
      refine takeG_l (i := 2) (v := .pointer (some ⟨B, 2, none⟩)) rfl (by kernel_rfl) (by kernel_rfl) (by kernel_rfl) (by rfl) (fun _ _ _ h => h) (.inl ⟨by rfl, by intro w' hw; go_simp <;> omega⟩) ⟨fun _ => trivial, hG⟩ ?_
      simp only [Act.put, List.setIfInBounds_toArray, List.set_cons_zero, List.set_cons_succ]
      refine takeG_l (i := 3) (v := sV e.main) rfl (by kernel_rfl) (by kernel_rfl) (by kernel_rfl) (by rfl) (fun _ _ _ h => h) (.inl ⟨by rfl, by intro w' hw; have hc := hw.cell y2; go_simp <;> omega⟩) ⟨fun _ => trivial, hG⟩ ?_
      simp only [Act.put, List.setIfInBounds_toArray, List.set_cons_zero, List.set_cons_succ]
      refine takeG_l (i := 4) (v := .string ((((⟨Z.toArray⟩ : ByteArray)) ++ ⟨#[109, 97, 105, 110, 32]⟩) ++ ⟨e.main.toArray⟩)) rfl (by kernel_rfl) (by kernel_rfl) (by kernel_rfl) (by rfl) (fun _ _ _ h => h) (.inl ⟨by rfl, by intro w' hw; go_simp <;> omega⟩) ⟨fun _ => trivial, hG⟩ ?_
      simp only [Act.put, List.setIfInBounds_toArray, List.set_cons_zero, List.set_cons_succ]
      refine takeG_l (i := 5) (v := .string (((((⟨Z.toArray⟩ : ByteArray)) ++ ⟨#[109, 97, 105, 110, 32]⟩) ++ ⟨e.main.toArray⟩) ++ ⟨#[40]⟩)) rfl (by kernel_rfl) (by kernel_rfl) (by kernel_rfl) (by rfl) (fun _ _ _ h => h) (.inl ⟨by rfl, by intro w' hw; go_simp <;> omega⟩) ⟨fun _ => trivial, hG⟩ ?_
      simp only [Act.put, List.setIfInBounds_toArray, List.set_cons_zero, List.set_cons_succ]
      refine takeG_l (i := 6) (v := .pointer (some ⟨B, 3, none⟩)) rfl (by kernel_rfl) (by kernel_rfl) (by kernel_rfl) (by rfl) (fun _ _ _ h => h) (.inl ⟨by rfl, by intro w' hw; go_simp <;> omega⟩) ⟨fun _ => trivial, hG⟩ ?_
      simp only [Act.put, List.setIfInBounds_toArray, List.set_cons_zero, List.set_cons_succ]
      refine takeG_l (i := 7) (v := .slice A1 e.args.length cp1) rfl (by kernel_rfl) (by kernel_rfl) (by kernel_rfl) (by rfl) (fun _ _ _ h => h) (.inl ⟨by rfl, by intro w' hw; have hc := hw.cell y3; go_simp <;> omega⟩) ⟨fun _ => trivial, hG⟩ ?_
      simp only [Act.put, List.setIfInBounds_toArray, List.set_cons_zero, List.set_cons_succ]
      generalize wr.drew = Wd at hG ⊢
      refine onlyL_l (i := 8) (by kernel_rfl) rfl (by rfl) (fun K hK => ?_)
      go_simp
      refine (hEs.out _ (hnb.trans hG)).mono ?_
      rintro r w5 ⟨rfl, nc⟩
      replace hG := hG.trans nc
      refine hK.out _ _ ⟨fun _ => trivial, hG⟩ (fun _ => ?_)
      clear hK K nc
      simp only [Act.put, List.setIfInBounds_toArray, List.set_cons_zero, List.set_cons_succ]
      refine takeG_l (i := 9) (v := .string ((((((⟨Z.toArray⟩ : ByteArray)) ++ ⟨#[109, 97, 105, 110, 32]⟩) ++ ⟨e.main.toArray⟩) ++ ⟨#[40]⟩) ++ ⟨AX.toArray⟩)) rfl (by kernel_rfl) (by kernel_rfl) (by kernel_rfl) (by rfl) (fun _ _ _ h => h) (.inl ⟨by rfl, by intro w' hw; go_simp <;> omega⟩) ⟨fun _ => trivial, hG⟩ ?_
      simp only [Act.put, List.setIfInBounds_toArray, List.set_cons_zero, List.set_cons_succ]
      refine takeG_l (i := 10) (v := .string (((((((⟨Z.toArray⟩ : ByteArray)) ++ ⟨#[109, 97, 105, 110, 32]⟩) ++ ⟨e.main.toArray⟩) ++ ⟨#[40]⟩) ++ ⟨AX.toArray⟩) ++ ⟨#[41, 10]⟩)) rfl (by kernel_rfl) (by kernel_rfl) (by kernel_rfl) (by rfl) (fun _ _ _ h => h) (.inl ⟨by rfl, by intro w' hw; go_simp <;> omega⟩) ⟨fun _ => trivial, hG⟩ ?_
      simp only [Act.put, List.setIfInBounds_toArray, List.set_cons_zero, List.set_cons_succ]
      refine takeG_l (i := 11) (v := .string (((((((⟨Z.toArray⟩ : ByteArray)) ++ ⟨#[109, 97, 105, 110, 32]⟩) ++ ⟨e.main.toArray⟩) ++ ⟨#[40]⟩) ++ ⟨AX.toArray⟩) ++ ⟨#[41, 10]⟩)) rfl (by kernel_rfl) (by kernel_rfl) (by kernel_rfl) (by rfl) (fun _ _ _ h => h) (.inl ⟨by rfl, by intro w' hw; go_simp <;> omega⟩) ⟨fun _ => trivial, hG⟩ ?_
      simp only [Act.put, List.setIfInBounds_toArray, List.set_cons_zero, List.set_cons_succ]
      refine doneL (by kernel_rfl) ?_ _
      go_wp2_with fail
      go_ret
      exact ⟨by rw [htx.out]; show Ending.returned (.string _) = _; simp only [addB, List.append_assoc, List.cons_append, List.nil_append], n1.trans (hn.trans hG)⟩
end Go.Proofs.YtebcjocpmnapeaaGreatDoor
