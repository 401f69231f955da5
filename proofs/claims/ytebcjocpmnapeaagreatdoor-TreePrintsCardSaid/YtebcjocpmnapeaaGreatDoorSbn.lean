/-
  Proved here: of the reference: the text of a pattern. Conditions: the memory holds it. ¦ of the reference: whether a statement may be. Conditions: the memory holds it.
-/
import Derived.Test.YtebcjocpmnapeaaGreatDoorSbl
import Derived.Test.YtebcjocpmnapeaaGreatDoorSbm
section
namespace Go.Proofs.YtebcjocpmnapeaaGreatDoor
open Go.RowKit
set_option linter.unusedVariables false
set_option linter.unusedSimpArgs false
set_option maxRecDepth 100000
set_option maxHeartbeats 4000000
theorem rtxT_any (W0 : World) : ∀ e : Ex, e.Has W0 → gT e = true → (txT e).length ≤ 1000000 → ∀ w, Nb W0 w → Calls Tryz.prog 83 #[.agg e.cells.toArray] w fun r w' => r = .returned (sV (txT e)) ∧ Nb w w' := by
  intro e
  induction e using Ex.ind
  rename_i e ih
  intro he hg hlen w hw
  rw [gT_eq, Bool.and_eq_true] at hg
  obtain ⟨hg, hgs⟩ := hg
  rw [gTs_all, List.all_eq_true] at hgs
  have hnum := he.num
  have hX := he.exs.row
  obtain ⟨A0, cap0, hv0, hcap, hlenr, hz⟩ := hX.head
  rw [List.length_map] at hv0 hcap hlenr
  have hkids : ∀ x ∈ e.args, (txT x).length ≤ 1000000 → ∀ w, Nb W0 w → Calls Tryz.prog 83 #[.agg x.cells.toArray] w fun r w' => r = .returned (sV (txT x)) ∧ Nb w w' := fun x hx hl w hw => ih x hx (he.exs.kids x hx) (hgs x hx) hl w hw
  have hc : e.cells = [.int .i64 e.kind, .int .i64 e.at_, .int .i64 e.n, sV e.name, .slice A0 e.args.length cap0] := by
    rw [← hv0]; rfl
  rw [hv0] at hX
  rw [hc]
  have htx := txT_eq e
  obtain ⟨T, hT⟩ : ∃ T, txT e = T := ⟨_, rfl⟩
  rw [hT] at htx hlen ⊢
  rw [rfT_eq] at hg
  unfold rfT at hg
  obtain ⟨kd, hkd⟩ : ∃ kd, e.kind = kd := ⟨_, rfl⟩
  rw [hkd] at htx hg ⊢
  clear hT ih hgs hc hv0 hkd
  replace hkids := Lib.hid hkids
  replace hX := Lib.hid hX
  by_cases k1 : kd = 1
  · subst k1
    simp only [if_true, if_false, Int.reduceEq, true_or, or_true, or_self] at hg htx
    replace htx := Lib.hid htx
    go_enter Tryz.func83, Tryz.ntmps83
    go_upto_region 1 with (fail)
    obtain ⟨W1, hW1⟩ : ∃ W1, w.alloc (.cells #[.int .i64 1, .int .i64 e.at_, .int .i64 e.n, sV e.name, .slice A0 e.args.length cap0] 73) = W1 := ⟨_, rfl⟩
    have b1 : W1.heap[w.heap.size]? = some (.cells #[.int .i64 1, .int .i64 e.at_, .int .i64 e.n, sV e.name, .slice A0 e.args.length cap0] 73 (0, 0)) := by rw [← hW1]; exact new_blk _ _ rfl
    have n1 : Nb w W1 := by rw [← hW1]; exact alloc_nb _ _
    rw [hW1]
    clear hW1
    have h1 : Nb W0 W1 := hw.trans n1
    obtain ⟨B, hB⟩ : ∃ B, w.heap.size = B := ⟨_, rfl⟩
    rw [hB] at b1 ⊢
    clear hB
    have y0 := cell_of_row _ _ 0 _ _ _ b1
    have y2 := cell_of_row _ _ 2 _ _ _ b1
    have y3 := cell_of_row _ _ 3 _ _ _ b1
    have y4 := cell_of_row _ _ 4 _ _ _ b1
    go_wp2_with (fail)
    go_ret
    exact ⟨by rw [htx.out]; first | rfl | (show Ending.returned (.string _) = _; simp only [addB, List.append_assoc]), n1⟩
  by_cases k2 : kd = 2
  · subst k2
    simp only [if_true, if_false, Int.reduceEq, true_or, or_true, or_self] at hg htx
    replace htx := Lib.hid htx
    go_enter Tryz.func83, Tryz.ntmps83
    go_upto_region 1 with (fail)
    obtain ⟨W1, hW1⟩ : ∃ W1, w.alloc (.cells #[.int .i64 2, .int .i64 e.at_, .int .i64 e.n, sV e.name, .slice A0 e.args.length cap0] 73) = W1 := ⟨_, rfl⟩
    have b1 : W1.heap[w.heap.size]? = some (.cells #[.int .i64 2, .int .i64 e.at_, .int .i64 e.n, sV e.name, .slice A0 e.args.length cap0] 73 (0, 0)) := by rw [← hW1]; exact new_blk _ _ rfl
    have n1 : Nb w W1 := by rw [← hW1]; exact alloc_nb _ _
    rw [hW1]
    clear hW1
    have h1 : Nb W0 W1 := hw.trans n1
    obtain ⟨B, hB⟩ : ∃ B, w.heap.size = B := ⟨_, rfl⟩
    rw [hB] at b1 ⊢
    clear hB
    have y0 := cell_of_row _ _ 0 _ _ _ b1
    have y2 := cell_of_row _ _ 2 _ _ _ b1
    have y3 := cell_of_row _ _ 3 _ _ _ b1
    have y4 := cell_of_row _ _ 4 _ _ _ b1
    go_wp2_with (go_at_call 84; refine (number_any e.n hnum.1 (by omega) _).mono ?_; rintro r w6 ⟨rfl, g6⟩)
    go_ret
    exact ⟨by rw [htx.out]; first | rfl | (show Ending.returned (.string _) = _; simp only [addB, List.append_assoc]), n1.trans g6⟩
  by_cases k3 : kd = 3
  · subst k3
    simp only [if_true, if_false, Int.reduceEq, true_or, or_true, or_self] at hg htx
    rw [htx, List.length_append] at hlen
    replace htx := Lib.hid htx
    go_enter Tryz.func83, Tryz.ntmps83
    go_upto_region 1 with (fail)
    obtain ⟨W1, hW1⟩ : ∃ W1, w.alloc (.cells #[.int .i64 3, .int .i64 e.at_, .int .i64 e.n, sV e.name, .slice A0 e.args.length cap0] 73) = W1 := ⟨_, rfl⟩
    have b1 : W1.heap[w.heap.size]? = some (.cells #[.int .i64 3, .int .i64 e.at_, .int .i64 e.n, sV e.name, .slice A0 e.args.length cap0] 73 (0, 0)) := by rw [← hW1]; exact new_blk _ _ rfl
    have n1 : Nb w W1 := by rw [← hW1]; exact alloc_nb _ _
    rw [hW1]
    clear hW1
    have h1 : Nb W0 W1 := hw.trans n1
    obtain ⟨B, hB⟩ : ∃ B, w.heap.size = B := ⟨_, rfl⟩
    rw [hB] at b1 ⊢
    clear hB
    have y0 := cell_of_row _ _ 0 _ _ _ b1
    have y2 := cell_of_row _ _ 2 _ _ _ b1
    have y3 := cell_of_row _ _ 3 _ _ _ b1
    have y4 := cell_of_row _ _ 4 _ _ _ b1
    go_wp2_with (fail)
    go_ret
    exact ⟨by rw [htx.out]; first | rfl | (show Ending.returned (.string _) = _; simp only [addB, List.append_assoc]), n1⟩
  by_cases k4 : kd = 4
  · subst k4
    simp only [if_true, if_false, Int.reduceEq, true_or, or_true, or_self] at hg htx
    replace htx := Lib.hid htx
    go_enter Tryz.func83, Tryz.ntmps83
    go_upto_region 1 with (fail)
    obtain ⟨W1, hW1⟩ : ∃ W1, w.alloc (.cells #[.int .i64 4, .int .i64 e.at_, .int .i64 e.n, sV e.name, .slice A0 e.args.length cap0] 73) = W1 := ⟨_, rfl⟩
    have b1 : W1.heap[w.heap.size]? = some (.cells #[.int .i64 4, .int .i64 e.at_, .int .i64 e.n, sV e.name, .slice A0 e.args.length cap0] 73 (0, 0)) := by rw [← hW1]; exact new_blk _ _ rfl
    have n1 : Nb w W1 := by rw [← hW1]; exact alloc_nb _ _
    rw [hW1]
    clear hW1
    have h1 : Nb W0 W1 := hw.trans n1
    obtain ⟨B, hB⟩ : ∃ B, w.heap.size = B := ⟨_, rfl⟩
    rw [hB] at b1 ⊢
    clear hB
    have y0 := cell_of_row _ _ 0 _ _ _ b1
    have y2 := cell_of_row _ _ 2 _ _ _ b1
    have y3 := cell_of_row _ _ 3 _ _ _ b1
    have y4 := cell_of_row _ _ 4 _ _ _ b1
    go_wp2_with (fail)
    go_ret
    exact ⟨by rw [htx.out]; first | rfl | (show Ending.returned (.string _) = _; simp only [addB, List.append_assoc]), n1⟩
  by_cases k5 : kd = 5
  · subst k5
    simp only [if_true, if_false, Int.reduceEq, true_or, or_true, or_self] at hg htx
    rw [htx, List.length_append, List.length_append] at hlen
    simp only [List.length_cons, List.length_nil] at hlen
    replace htx := Lib.hid htx
    obtain ⟨l, hl⟩ : ∃ l, e.args = l := ⟨_, rfl⟩
    rw [hl] at hkids htx hX hlen hcap hlenr ⊢
    clear hl hg
    obtain ⟨M, hM⟩ : ∃ M, l.length = M := ⟨_, rfl⟩
    have hMh := Lib.hid hM
    rw [hM] at hX hcap hlenr ⊢
    clear hM
    have hfin : (txTs l).take M = txTs l := by
      rw [List.take_of_length_le]
      rw [txTs_map, List.length_map, hMh.out]
      exact Nat.le_refl _
    replace hfin := Lib.hid hfin
    have hle := Lib.hid hlen
    go_enter Tryz.func83, Tryz.ntmps83
    go_upto_region 1 with (fail)
    obtain ⟨W1, hW1⟩ : ∃ W1, w.alloc (.cells #[.int .i64 5, .int .i64 e.at_, .int .i64 e.n, sV e.name, .slice A0 M cap0] 73) = W1 := ⟨_, rfl⟩
    have b1 : W1.heap[w.heap.size]? = some (.cells #[.int .i64 5, .int .i64 e.at_, .int .i64 e.n, sV e.name, .slice A0 M cap0] 73 (0, 0)) := by rw [← hW1]; exact new_blk _ _ rfl
    have n1 : Nb w W1 := by rw [← hW1]; exact alloc_nb _ _
    rw [hW1]
    clear hW1
    have h1 : Nb W0 W1 := hw.trans n1
    obtain ⟨B, hB⟩ : ∃ B, w.heap.size = B := ⟨_, rfl⟩
    rw [hB] at b1 ⊢
    clear hB
    have y0 := cell_of_row _ _ 0 _ _ _ b1
    have y2 := cell_of_row _ _ 2 _ _ _ b1
    have y3 := cell_of_row _ _ 3 _ _ _ b1
    have y4 := cell_of_row _ _ 4 _ _ _ b1
    go_wp2_with fail
    go_loopw [3, 4] (fun s si wr => ∃ i : Nat, i ≤ M ∧ si = .int .i64 i ∧ s = sV (jnT ((txTs l).take i)) ∧ Nb W1 wr) (fun _ si _ => M - (intOf si).toNat)
    case atStart => exact ⟨0, Nat.zero_le _, rfl, rfl, Nb.refl _⟩
    case round =>
      clear y0 y2 y3 y4
      obtain ⟨i, hi2, rfl, rfl, hn⟩ := hrel
      have b2 := hn.block b1
      have y0 := cell_of_row _ _ 0 _ _ _ b2
      have y4 := cell_of_row _ _ 4 _ _ _ b2
      by_cases hlt2 : i < M
      · have hlt3 : (i : Int) < (M : Int) := by omega
        obtain ⟨x, hx⟩ : ∃ x, l[i]? = some x := ⟨_, List.getElem?_eq_getElem (by rw [hMh.out]; exact hlt2)⟩
        obtain ⟨b, o, hbo, hxc⟩ := RowS.at_ hX.out (i := i) (r := x.cells) (by rw [List.getElem?_map, hx]; rfl)
        obtain rfl := hbo
        have hnb : Nb W0 wr := h1.trans hn
        have x0 := hnb.cell (hxc 0 _ rfl)
        have x1 := hnb.cell (hxc 1 _ rfl)
        have x2 := hnb.cell (hxc 2 _ rfl)
        have x3 := hnb.cell (hxc 3 _ rfl)
        have x4 := hnb.cell (hxc 4 _ rfl)
        rw [Nat.add_zero] at x0
        have hmem := List.mem_of_getElem? hx
        have hxt : (txTs l)[i]? = some (txT x) := by rw [txTs_map, List.getElem?_map, hx]; rfl
        have htk := jnT_take _ i _ hxt
        have hl1 : (jnT ((txTs l).take (i + 1))).length ≤ 1000000 := Nat.le_trans (jnT_le _ _) (by have := hle.out; omega)
        have hl2 := jnT_lt hxt
        have hcall := Lib.hid (hkids.out x hmem (by have := hle.out; omega) wr hnb)
        rw [htk] at hl1
        obtain ⟨X, hX1⟩ : ∃ X, txT x = X := ⟨_, rfl⟩
        obtain ⟨Y, hY1⟩ : ∃ Y, jnT ((txTs l).take i) = Y := ⟨_, rfl⟩
        rw [hX1, hY1] at htk hl1
        rw [hY1]
        rw [hX1] at hcall
        replace htk := Lib.hid htk
        clear hx hxc hxt hX1 hY1 hl2
        by_cases h0 : i = 0
        · have h5 : ¬ (0 : Int) < (i : Int) := by omega
          rw [show sepT i X = X from by rw [sepT, if_pos h0]; rfl] at htk hl1
          rw [List.length_append] at hl1
          obtain rfl := h0
          simp only [Nat.zero_mul, Nat.add_zero] at x0 x1 x2 x3 x4
          go_wp2_with (go_at_call 83; refine (hcall.out).mono ?_; rintro r w6 ⟨rfl, g6⟩)
          exact ⟨⟨0 + 1, by omega, by simp, by rw [htk.out, addB], hn.trans g6⟩, by simp [intOf] <;> omega⟩
        · have h5 : (0 : Int) < (i : Int) := by omega
          rw [show sepT i X = [44, 32] ++ X from by rw [sepT, if_neg h0]] at htk hl1
          rw [List.length_append, List.length_append] at hl1
          go_wp2_with (go_at_call 83; refine (hcall.out).mono ?_; rintro r w6 ⟨rfl, g6⟩)
          exact ⟨⟨i + 1, by omega, by simp, by rw [htk.out]; simp only [addB, List.append_assoc], hn.trans g6⟩, by simp [intOf] <;> omega⟩
      · obtain rfl : i = M := by omega
        rw [hfin.out]
        have hle2 : (jnT (txTs l)).length ≤ 1000000 := by have := hle.out; omega
        go_wp2_with fail
        go_ret
        exact ⟨by rw [htx.out]; show Ending.returned (.string _) = _; simp only [addB, List.append_assoc], n1.trans hn⟩
  simp only [k1, k2, k3, k4, k5, if_false, or_self] at hg
  exact absurd hg (by decide)
end Go.Proofs.YtebcjocpmnapeaaGreatDoor
end
section
namespace Go.Proofs.YtebcjocpmnapeaaGreatDoor
open Go.RowKit
set_option linter.unusedVariables false
set_option linter.unusedSimpArgs false
set_option maxRecDepth 100000
set_option maxHeartbeats 4000000
def lenS (l : List Ex) (a b : Int) : Bool := l.all gE && (decide (a ≤ (l.length : Int)) && decide ((l.length : Int) ≤ b))
def rfS (s : St) : Bool :=
  if s.kind = 1 then (nameS s.name && (s.actor == [])) && lenS s.args 1 1
  else if s.kind = 2 then (nameS s.name && nameS s.actor) && lenS s.args 0 8
  else if s.kind = 3 then ((s.name == []) && (s.actor == [])) && lenS s.args 2 2
  else if s.kind = 4 then ((s.name == []) && (s.actor == [])) && lenS s.args 1 1
  else false
theorem rfS_eq (s : St) : gSt s = rfS s := by
  obtain ⟨k, a, n, c, v, l⟩ := s
  unfold gSt stateS rfS lenS callS
  simp only [hdS, eqH]
  rw [gEs_all]
  have h1 : (l.length == 1) = (decide ((1 : Int) ≤ (l.length : Int)) && decide ((l.length : Int) ≤ 1)) := by
    rw [Bool.eq_iff_iff, Bool.and_eq_true, beq_iff_eq, decide_eq_true_eq, decide_eq_true_eq]
    omega
  have h2 : (l.length == 2) = (decide ((2 : Int) ≤ (l.length : Int)) && decide ((l.length : Int) ≤ 2)) := by
    rw [Bool.eq_iff_iff, Bool.and_eq_true, beq_iff_eq, decide_eq_true_eq, decide_eq_true_eq]
    omega
  have h0 : decide ((0 : Int) ≤ (l.length : Int)) = true := decide_eq_true (Int.natCast_nonneg _)
  by_cases k1 : k = 1
  · subst k1
    simp only [if_true, if_false, Int.reduceEq, beq_self_eq_true, Bool.true_and, Bool.and_true, h0, h1, h2]
    simp only [Bool.and_assoc, Bool.and_comm, Bool.and_left_comm]
    try rfl
  by_cases k2 : k = 2
  · subst k2
    simp only [if_true, if_false, Int.reduceEq, beq_self_eq_true, Bool.true_and, Bool.and_true, h0, h1, h2]
    simp only [Bool.and_assoc, Bool.and_comm, Bool.and_left_comm]
    try rfl
  by_cases k3 : k = 3
  · subst k3
    simp only [if_true, if_false, Int.reduceEq, beq_self_eq_true, Bool.true_and, Bool.and_true, h0, h1, h2]
    simp only [Bool.and_assoc, Bool.and_comm, Bool.and_left_comm]
    try rfl
  by_cases k4 : k = 4
  · subst k4
    simp only [if_true, if_false, Int.reduceEq, beq_self_eq_true, Bool.true_and, Bool.and_true, h0, h1, h2]
    simp only [Bool.and_assoc, Bool.and_comm, Bool.and_left_comm]
    try rfl
  simp only [k1, k2, k3, k4, if_false, Bool.false_and]
theorem rgoodS_any (W0 : World) (e : St) (he : e.Has W0) (w : World) (hw : Nb W0 w) : Calls Tryz.prog 59 #[.agg e.cells.toArray] w fun r w' => r = .returned (.bool (gSt e)) ∧ Nb w w' := by
  have hat1 := Lib.hid (ratom_any e.name he.nm)
  have hat2 := Lib.hid (ratom_any e.actor he.ac)
  have hes := fun a b w (h : Nb W0 w) => rgoodEs_any W0 e.args e.av he.args a b w h
  have hc : e.cells = [.int .i64 e.kind, .int .i64 e.at_, sV e.name, sV e.actor, e.av] := rfl
  rw [rfS_eq]
  obtain ⟨G, hG⟩ : ∃ G, rfS e = G := ⟨_, rfl⟩
  rw [hG]
  have hg := hG.symm
  clear hG
  unfold rfS at hg
  rw [hc]
  clear hc
  by_cases k1 : e.kind = 1
  · simp only [k1, if_true, if_false, Int.reduceEq] at hg ⊢
    have hes1 := fun w h => hes 1 1 w h
    obtain ⟨L, hL⟩ : ∃ L, lenS e.args 1 1 = L := ⟨_, rfl⟩
    rw [hL] at hg
    replace hes1 : Hid (∀ w, Nb W0 w → Calls Tryz.prog 17 #[e.av, .int .i64 1, .int .i64 1] w fun r w' => r = .returned (.bool L) ∧ Nb w w') := Lib.hid (by rw [← hL]; exact hes1)
    clear hes hL
    replace hg := Lib.hid hg
    cases hn1 : nameS e.name
    all_goals
      rw [hn1] at hg hat1
      go_enter Tryz.func59, Tryz.ntmps59
      go_wp2_with (first | (go_at_call 16; refine (hat1.out _).mono ?_; rintro r w3 ⟨rfl, g3⟩; have c3 := (Nb.trans (alloc_nb w _) g3); have b3 := g3.block (new_blk w _ rfl); have y3 := cell_of_row _ _ 3 _ _ _ b3; have y4 := cell_of_row _ _ 4 _ _ _ b3) | (go_at_call 17; refine (hes1.out _ (hw.trans c3)).mono ?_; rintro r w5 ⟨rfl, g5⟩; replace c3 := c3.trans g5))
      all_goals
        go_ret
        refine ⟨congrArg (fun b => Ending.returned (Value.bool b)) (?_ : _ = G), c3⟩
        rw [hg.out]
        (first | rfl | (simp_all; done) | (rw [Bool.eq_iff_iff]; simp_all; done))
  by_cases k2 : e.kind = 2
  · simp only [k2, if_true, if_false, Int.reduceEq] at hg ⊢
    have hes1 := fun w h => hes 0 8 w h
    obtain ⟨L, hL⟩ : ∃ L, lenS e.args 0 8 = L := ⟨_, rfl⟩
    rw [hL] at hg
    replace hes1 : Hid (∀ w, Nb W0 w → Calls Tryz.prog 17 #[e.av, .int .i64 0, .int .i64 8] w fun r w' => r = .returned (.bool L) ∧ Nb w w') := Lib.hid (by rw [← hL]; exact hes1)
    clear hes hL
    replace hg := Lib.hid hg
    cases hn1 : nameS e.name
    all_goals cases hn2 : nameS e.actor
    all_goals
      rw [hn1] at hg hat1
      rw [hn2] at hg hat2
      go_enter Tryz.func59, Tryz.ntmps59
      go_wp2_with (first | (go_at_call 16; first | (refine (hat1.out (w.alloc _)).mono ?_; rintro r w3 ⟨rfl, g3⟩; have c3 := (Nb.trans (alloc_nb w _) g3); have b3 := g3.block (new_blk w _ rfl); have y3 := cell_of_row _ _ 3 _ _ _ b3) | (refine (hat2.out w3).mono ?_; rintro r w4 ⟨rfl, g4⟩; replace c3 := c3.trans g4; have b4 := g4.block b3; have z4 := cell_of_row _ _ 4 _ _ _ b4)) | (go_at_call 17; refine (hes1.out _ (hw.trans c3)).mono ?_; rintro r w5 ⟨rfl, g5⟩; replace c3 := c3.trans g5))
      all_goals
        go_ret
        refine ⟨congrArg (fun b => Ending.returned (Value.bool b)) (?_ : _ = G), c3⟩
        rw [hg.out]
        (first | rfl | (simp_all; done) | (rw [Bool.eq_iff_iff]; simp_all; done))
  by_cases k3 : e.kind = 3
  · simp only [k3, if_true, if_false, Int.reduceEq] at hg ⊢
    have hes1 := fun w h => hes 2 2 w h
    obtain ⟨L, hL⟩ : ∃ L, lenS e.args 2 2 = L := ⟨_, rfl⟩
    rw [hL] at hg
    replace hes1 : Hid (∀ w, Nb W0 w → Calls Tryz.prog 17 #[e.av, .int .i64 2, .int .i64 2] w fun r w' => r = .returned (.bool L) ∧ Nb w w') := Lib.hid (by rw [← hL]; exact hes1)
    clear hes hL
    replace hg := Lib.hid hg
    have c3 := alloc_nb w (.cells #[.int .i64 3, .int .i64 e.at_, sV e.name, sV e.actor, e.av] 34)
    by_cases hs1 : e.name = []
    · by_cases hs2 : e.actor = []
      · rw [hs1, hs2] at hg ⊢
        go_enter Tryz.func59, Tryz.ntmps59
        go_wp2_with (go_at_call 17; refine (hes1.out _ (hw.trans (alloc_nb w _))).mono ?_; rintro r w5 ⟨rfl, g5⟩)
        go_ret
        refine ⟨congrArg (fun b => Ending.returned (Value.bool b)) (?_ : _ = G), Nb.trans (alloc_nb w _) g5⟩
        rw [hg.out]
        (first | rfl | (simp_all; done) | (rw [Bool.eq_iff_iff]; simp_all; done))
      · have hs3 : (e.actor == []) = false := beq_eq_false_iff_ne.2 hs2
        rw [hs1] at hg ⊢
        go_enter Tryz.func59, Tryz.ntmps59
        go_wp2_with fail
        go_ret
        refine ⟨congrArg (fun b => Ending.returned (Value.bool b)) (?_ : _ = G), alloc_nb w _⟩
        rw [hg.out]
        (first | rfl | (simp_all; done) | (rw [Bool.eq_iff_iff]; simp_all; done))
    · have hs3 : (e.name == []) = false := beq_eq_false_iff_ne.2 hs1
      go_enter Tryz.func59, Tryz.ntmps59
      go_wp2_with fail
      go_ret
      refine ⟨congrArg (fun b => Ending.returned (Value.bool b)) (?_ : _ = G), alloc_nb w _⟩
      rw [hg.out]
      (first | rfl | (simp_all; done) | (rw [Bool.eq_iff_iff]; simp_all; done))
  by_cases k4 : e.kind = 4
  · simp only [k4, if_true, if_false, Int.reduceEq] at hg ⊢
    have hes1 := fun w h => hes 1 1 w h
    obtain ⟨L, hL⟩ : ∃ L, lenS e.args 1 1 = L := ⟨_, rfl⟩
    rw [hL] at hg
    replace hes1 : Hid (∀ w, Nb W0 w → Calls Tryz.prog 17 #[e.av, .int .i64 1, .int .i64 1] w fun r w' => r = .returned (.bool L) ∧ Nb w w') := Lib.hid (by rw [← hL]; exact hes1)
    clear hes hL
    replace hg := Lib.hid hg
    have c3 := alloc_nb w (.cells #[.int .i64 4, .int .i64 e.at_, sV e.name, sV e.actor, e.av] 34)
    by_cases hs1 : e.name = []
    · by_cases hs2 : e.actor = []
      · rw [hs1, hs2] at hg ⊢
        go_enter Tryz.func59, Tryz.ntmps59
        go_wp2_with (go_at_call 17; refine (hes1.out _ (hw.trans (alloc_nb w _))).mono ?_; rintro r w5 ⟨rfl, g5⟩)
        go_ret
        refine ⟨congrArg (fun b => Ending.returned (Value.bool b)) (?_ : _ = G), Nb.trans (alloc_nb w _) g5⟩
        rw [hg.out]
        (first | rfl | (simp_all; done) | (rw [Bool.eq_iff_iff]; simp_all; done))
      · have hs3 : (e.actor == []) = false := beq_eq_false_iff_ne.2 hs2
        rw [hs1] at hg ⊢
        go_enter Tryz.func59, Tryz.ntmps59
        go_wp2_with fail
        go_ret
        refine ⟨congrArg (fun b => Ending.returned (Value.bool b)) (?_ : _ = G), alloc_nb w _⟩
        rw [hg.out]
        (first | rfl | (simp_all; done) | (rw [Bool.eq_iff_iff]; simp_all; done))
    · have hs3 : (e.name == []) = false := beq_eq_false_iff_ne.2 hs1
      go_enter Tryz.func59, Tryz.ntmps59
      go_wp2_with fail
      go_ret
      refine ⟨congrArg (fun b => Ending.returned (Value.bool b)) (?_ : _ = G), alloc_nb w _⟩
      rw [hg.out]
      (first | rfl | (simp_all; done) | (rw [Bool.eq_iff_iff]; simp_all; done))
  simp only [k1, k2, k3, k4, if_false] at hg
  subst hg
  go_enter Tryz.func59, Tryz.ntmps59
  go_wp2_with fail
  go_ret
  exact ⟨rfl, alloc_nb w _⟩
end Go.Proofs.YtebcjocpmnapeaaGreatDoor
end
