/-
  Proved here: of the reference: whether a pattern may be, and a list of expressions. Conditions: the memory holds them.
-/
import Derived.Test.YtebcjocpmnapeaaGreatDoorSbk
namespace Go.Proofs.YtebcjocpmnapeaaGreatDoor
open Go.RowKit
set_option linter.unusedVariables false
set_option linter.unusedSimpArgs false
set_option maxRecDepth 100000
set_option maxHeartbeats 4000000
def rfT (e : Ex) : Bool :=
  if e.kind = 1 then (decide (e.n = 0) && (e.name == [])) && decide ((e.args.length : Int) = 0)
  else if e.kind = 2 then ((decide (-2305843009213693951 ≤ e.n) && decide (e.n ≤ 2305843009213693951)) && (e.name == [])) && decide ((e.args.length : Int) = 0)
  else if e.kind = 3 ∨ e.kind = 4 then (decide (e.n = 0) && nameS e.name) && decide ((e.args.length : Int) = 0)
  else if e.kind = 5 then ((decide (e.n = 0) && (e.name == [])) && decide (1 ≤ (e.args.length : Int))) && decide ((e.args.length : Int) ≤ 4)
  else false
theorem rfT_eq (e : Ex) : matchS (hdT e) = rfT e := by
  obtain ⟨k, a, n, s, v, l⟩ := e
  unfold matchS rfT
  simp only [hdT, Ex.kind, Ex.name, Ex.n, Ex.args, inI, eqH]
  have hl : ∀ c : Nat, (l.length == c) = decide ((l.length : Int) = (c : Int)) := fun c => by
    rw [Bool.eq_iff_iff, beq_iff_eq, decide_eq_true_eq]
    omega
  have hn : (n == 0) = decide (n = 0) := rfl
  by_cases k1 : k = 1
  · subst k1
    simp only [if_true, if_false, Int.reduceEq, true_or, or_true, or_self, beq_self_eq_true, Bool.true_and, Bool.and_true, hl, hn, Int.ofNat_eq_natCast, Int.natCast_zero]
    simp only [Bool.and_assoc, Bool.and_comm, Bool.and_left_comm]
    try rfl
  by_cases k2 : k = 2
  · subst k2
    simp only [if_true, if_false, Int.reduceEq, true_or, or_true, or_self, beq_self_eq_true, Bool.true_and, Bool.and_true, hl, hn, Int.ofNat_eq_natCast, Int.natCast_zero]
    simp only [Bool.and_assoc, Bool.and_comm, Bool.and_left_comm]
    try rfl
  by_cases k3 : k = 3
  · subst k3
    simp only [if_true, if_false, Int.reduceEq, true_or, or_true, or_self, beq_self_eq_true, Bool.true_and, Bool.and_true, hl, hn, Int.ofNat_eq_natCast, Int.natCast_zero]
    simp only [Bool.and_assoc, Bool.and_comm, Bool.and_left_comm]
    try rfl
  by_cases k4 : k = 4
  · subst k4
    simp only [if_true, if_false, Int.reduceEq, true_or, or_true, or_self, beq_self_eq_true, Bool.true_and, Bool.and_true, hl, hn, Int.ofNat_eq_natCast, Int.natCast_zero]
    simp only [Bool.and_assoc, Bool.and_comm, Bool.and_left_comm]
    try rfl
  by_cases k5 : k = 5
  · subst k5
    simp only [if_true, if_false, Int.reduceEq, true_or, or_true, or_self, beq_self_eq_true, Bool.true_and, Bool.and_true, hl, hn, Int.ofNat_eq_natCast, Int.natCast_zero]
    simp only [Bool.and_assoc, Bool.and_comm, Bool.and_left_comm]
    try rfl
  simp only [k1, k2, k3, k4, k5, if_false, or_self]
theorem gT_rf (e : Ex) : gT e = (rfT e && e.args.all gT) := by rw [gT_eq, rfT_eq, gTs_all]
theorem rgoodT_any (W0 : World) : ∀ e : Ex, e.Has W0 → ∀ w, Nb W0 w → Calls Tryz.prog 76 #[.agg e.cells.toArray] w fun r w' => r = .returned (.bool (gT e)) ∧ Nb w w' := by
  intro e
  induction e using Ex.ind
  rename_i e ih
  intro he w hw
  have hatom := Lib.hid (ratom_any e.name he.nm)
  have hX := he.exs.row
  obtain ⟨A0, cap0, hv0, hcap, hlenr, hz⟩ := hX.head
  rw [List.length_map] at hv0 hcap hlenr
  have hg := gT_rf e
  obtain ⟨G, hG⟩ : ∃ G, gT e = G := ⟨_, rfl⟩
  rw [hG] at hg ⊢
  clear hG
  have hc : e.cells = [.int .i64 e.kind, .int .i64 e.at_, .int .i64 e.n, sV e.name, .slice A0 e.args.length cap0] := by
    rw [← hv0]; rfl
  rw [hv0] at hX
  rw [hc]
  clear hc hv0
  replace hX := Lib.hid hX
  unfold rfT at hg
  obtain ⟨M, hM⟩ : ∃ M, e.args.length = M := ⟨_, rfl⟩
  have hMh := Lib.hid hM
  rw [hM] at hg hX hcap hlenr ⊢
  clear hM
  replace hg := Lib.hid hg
  replace ih := Lib.hid ih
  go_enter Tryz.func76, Tryz.ntmps76
  go_upto_region 1 with (fail)
  obtain ⟨W1, hW1⟩ : ∃ W1, w.alloc (.cells #[.int .i64 e.kind, .int .i64 e.at_, .int .i64 e.n, sV e.name, .slice A0 M cap0] 73) = W1 := ⟨_, rfl⟩
  have b1 : W1.heap[w.heap.size]? = some (.cells #[.int .i64 e.kind, .int .i64 e.at_, .int .i64 e.n, sV e.name, .slice A0 M cap0] 73 (0, 0)) := by rw [← hW1]; exact new_blk _ _ rfl
  have n1 : Nb w W1 := by rw [← hW1]; exact alloc_nb _ _
  rw [hW1]
  clear hW1
  obtain ⟨B, hB⟩ : ∃ B, w.heap.size = B := ⟨_, rfl⟩
  rw [hB] at b1 ⊢
  clear hB
  go_wp2_with fail
  go_loopw [3] (fun si wr => ∃ i : Nat, i ≤ M ∧ si = .int .i64 i ∧ (e.args.take i).all gT = true ∧ Nb W1 wr) (fun si _ => M - (intOf si).toNat)
  case atStart => exact ⟨0, Nat.zero_le _, rfl, by simp, Nb.refl _⟩
  case round =>
    obtain ⟨i, hi2, rfl, hall, hn⟩ := hrel
    have b2 := hn.block b1
    have y0 := cell_of_row _ _ 0 _ _ _ b2
    have y2 := cell_of_row _ _ 2 _ _ _ b2
    have y3 := cell_of_row _ _ 3 _ _ _ b2
    have y4 := cell_of_row _ _ 4 _ _ _ b2
    have hnW : Nb w wr := n1.trans hn
    by_cases hlt2 : i < M
    · have hlt3 : (i : Int) < (M : Int) := by omega
      obtain ⟨x, hx⟩ : ∃ x, e.args[i]? = some x := ⟨_, List.getElem?_eq_getElem (by rw [hMh.out]; exact hlt2)⟩
      obtain ⟨b, o, hbo, hxc⟩ := RowS.at_ hX.out (i := i) (r := x.cells) (by rw [List.getElem?_map, hx]; rfl)
      obtain rfl := hbo
      have hnb : Nb W0 wr := hw.trans hnW
      have x0 := hnb.cell (hxc 0 _ rfl)
      have x1 := hnb.cell (hxc 1 _ rfl)
      have x2 := hnb.cell (hxc 2 _ rfl)
      have x3 := hnb.cell (hxc 3 _ rfl)
      have x4 := hnb.cell (hxc 4 _ rfl)
      rw [Nat.add_zero] at x0
      have hmem := List.mem_of_getElem? hx
      have hcall := Lib.hid (ih.out x hmem (he.exs.kids x hmem) wr hnb)
      have htk : (e.args.take (i + 1)).all gT = gT x := by rw [List.take_add_one, hx, List.all_append, hall]; simp
      cases hgx : gT x with
      | false =>
        have hgf : G = false := by
          rw [hg.out]
          have : e.args.all gT = false := by
            rw [← Bool.not_eq_true, List.all_eq_true]
            intro h
            rw [h x hmem] at hgx
            cases hgx
          rw [this, Bool.and_false]
        rw [hgx] at hcall
        clear hx hxc
        go_wp2_with (go_at_call 76; refine (hcall.out).mono ?_; rintro r w6 ⟨rfl, g6⟩)
        go_ret
        exact ⟨by rw [hgf]; rfl, hnW.trans g6⟩
      | true =>
        rw [hgx] at hcall htk
        replace htk := Lib.hid htk
        clear hx hxc
        go_wp2_with (go_at_call 76; refine (hcall.out).mono ?_; rintro r w6 ⟨rfl, g6⟩)
        exact ⟨⟨i + 1, by omega, by simp, htk.out, hn.trans g6⟩, by simp [intOf] <;> omega⟩
    · obtain rfl : i = M := by omega
      have hfull : e.args.all gT = true := by rw [← hall, ← hMh.out, List.take_length]
      replace hg := hg.out
      rw [hfull, Bool.and_true] at hg
      clear hX ih hall hMh hfull hcap hlenr hz
      by_cases k1 : e.kind = 1
      · simp only [k1, if_true, if_false, Int.reduceEq, true_or, or_true, or_self] at hg y0
        replace hg := Lib.hid hg
        go_wp2_with fail
        all_goals
          go_ret
          refine ⟨congrArg (fun b => Ending.returned (Value.bool b)) (?_ : _ = G), hnW⟩
          rw [hg.out]
          (first | rfl | (simp_all [recS]; done) | (rw [Bool.eq_iff_iff]; simp_all [recS]; omega) | (simp_all [recS]; omega) | (simp_all [recS]; intros; omega) | (rw [Bool.eq_iff_iff]; simp_all [recS]; done))
      by_cases k2 : e.kind = 2
      · simp only [k2, if_true, if_false, Int.reduceEq, true_or, or_true, or_self] at hg y0
        replace hg := Lib.hid hg
        go_wp2_with fail
        all_goals
          go_ret
          refine ⟨congrArg (fun b => Ending.returned (Value.bool b)) (?_ : _ = G), hnW⟩
          rw [hg.out]
          (first | rfl | (simp_all [recS]; done) | (rw [Bool.eq_iff_iff]; simp_all [recS]; omega) | (simp_all [recS]; omega) | (simp_all [recS]; intros; omega) | (rw [Bool.eq_iff_iff]; simp_all [recS]; done))
      by_cases k3 : e.kind = 3
      · simp only [k3, if_true, if_false, Int.reduceEq, true_or, or_true, or_self] at hg y0
        replace hg := Lib.hid hg
        cases hna : nameS e.name
        all_goals
          rw [hna] at hg hatom
          by_cases hn0 : e.n = 0
          · go_wp2_with (go_at_call 16; refine (hatom.out _).mono ?_; rintro r w6 ⟨rfl, g6⟩; have c6 := g6.block b2; have y4 := cell_of_row _ _ 4 _ _ _ c6)
            go_ret
            refine ⟨congrArg (fun b => Ending.returned (Value.bool b)) (?_ : _ = G), hnW.trans g6⟩
            rw [hg.out]
            (first | rfl | (simp_all [recS]; done) | (rw [Bool.eq_iff_iff]; simp_all [recS]; omega) | (simp_all [recS]; omega) | (simp_all [recS]; intros; omega) | (rw [Bool.eq_iff_iff]; simp_all [recS]; done))
          · go_wp2_with fail
            go_ret
            refine ⟨congrArg (fun b => Ending.returned (Value.bool b)) (?_ : _ = G), hnW⟩
            rw [hg.out]
            (first | rfl | (simp_all [recS]; done) | (rw [Bool.eq_iff_iff]; simp_all [recS]; omega) | (simp_all [recS]; omega) | (simp_all [recS]; intros; omega) | (rw [Bool.eq_iff_iff]; simp_all [recS]; done))
      by_cases k4 : e.kind = 4
      · simp only [k4, if_true, if_false, Int.reduceEq, true_or, or_true, or_self] at hg y0
        replace hg := Lib.hid hg
        cases hna : nameS e.name
        all_goals
          rw [hna] at hg hatom
          by_cases hn0 : e.n = 0
          · go_wp2_with (go_at_call 16; refine (hatom.out _).mono ?_; rintro r w6 ⟨rfl, g6⟩; have c6 := g6.block b2; have y4 := cell_of_row _ _ 4 _ _ _ c6)
            go_ret
            refine ⟨congrArg (fun b => Ending.returned (Value.bool b)) (?_ : _ = G), hnW.trans g6⟩
            rw [hg.out]
            (first | rfl | (simp_all [recS]; done) | (rw [Bool.eq_iff_iff]; simp_all [recS]; omega) | (simp_all [recS]; omega) | (simp_all [recS]; intros; omega) | (rw [Bool.eq_iff_iff]; simp_all [recS]; done))
          · go_wp2_with fail
            go_ret
            refine ⟨congrArg (fun b => Ending.returned (Value.bool b)) (?_ : _ = G), hnW⟩
            rw [hg.out]
            (first | rfl | (simp_all [recS]; done) | (rw [Bool.eq_iff_iff]; simp_all [recS]; omega) | (simp_all [recS]; omega) | (simp_all [recS]; intros; omega) | (rw [Bool.eq_iff_iff]; simp_all [recS]; done))
      by_cases k5 : e.kind = 5
      · simp only [k5, if_true, if_false, Int.reduceEq, true_or, or_true, or_self] at hg y0
        replace hg := Lib.hid hg
        go_wp2_with fail
        all_goals
          go_ret
          refine ⟨congrArg (fun b => Ending.returned (Value.bool b)) (?_ : _ = G), hnW⟩
          rw [hg.out]
          (first | rfl | (simp_all [recS]; done) | (rw [Bool.eq_iff_iff]; simp_all [recS]; omega) | (simp_all [recS]; omega) | (simp_all [recS]; intros; omega) | (rw [Bool.eq_iff_iff]; simp_all [recS]; done))
      simp only [k1, k2, k3, k4, k5, if_false, or_self] at hg
      subst hg
      go_wp2_with fail
      go_ret
      exact ⟨rfl, hnW⟩
theorem rgoodEs_any (W0 : World) (l : List Ex) (v : Value) (hl : ExsHas W0 v l) (a b : Int) (w : World) (hw : Nb W0 w) : Calls Tryz.prog 17 #[v, .int .i64 a, .int .i64 b] w fun r w' => r = .returned (.bool (l.all gE && (decide (a ≤ (l.length : Int)) && decide ((l.length : Int) ≤ b)))) ∧ Nb w w' := by
  have hX := hl.row
  obtain ⟨A0, cap0, rfl, hcap, hlenr, hz⟩ := hX.head
  rw [List.length_map] at hcap hlenr hX ⊢
  replace hX := Lib.hid hX
  obtain ⟨G, hG⟩ : ∃ G, (l.all gE && (decide (a ≤ (l.length : Int)) && decide ((l.length : Int) ≤ b))) = G := ⟨_, rfl⟩
  rw [hG]
  have hg := hG.symm
  clear hG
  obtain ⟨M, hM⟩ : ∃ M, l.length = M := ⟨_, rfl⟩
  have hMh := Lib.hid hM
  rw [hM] at hg hX hcap hlenr ⊢
  clear hM
  replace hg := Lib.hid hg
  have hone := Lib.hid (fun x (hx : x ∈ l) => rgoodE_any W0 x (hl.kids x hx))
  go_enter Tryz.func17, Tryz.ntmps17
  go_wp2_with fail
  go_loopw [7] (fun si wr => ∃ i : Nat, i ≤ M ∧ si = .int .i64 i ∧ (l.take i).all gE = true ∧ Nb w wr) (fun si _ => M - (intOf si).toNat)
  case atStart => exact ⟨0, Nat.zero_le _, rfl, by simp, Nb.refl _⟩
  case round =>
    obtain ⟨i, hi2, rfl, hall, hn⟩ := hrel
    by_cases hlt2 : i < M
    · have hlt3 : (i : Int) < (M : Int) := by omega
      obtain ⟨x, hx⟩ : ∃ x, l[i]? = some x := ⟨_, List.getElem?_eq_getElem (by rw [hMh.out]; exact hlt2)⟩
      obtain ⟨b', o, hbo, hxc⟩ := RowS.at_ hX.out (i := i) (r := x.cells) (by rw [List.getElem?_map, hx]; rfl)
      obtain rfl := hbo
      have hnb : Nb W0 wr := hw.trans hn
      have x0 := hnb.cell (hxc 0 _ rfl)
      have x1 := hnb.cell (hxc 1 _ rfl)
      have x2 := hnb.cell (hxc 2 _ rfl)
      have x3 := hnb.cell (hxc 3 _ rfl)
      have x4 := hnb.cell (hxc 4 _ rfl)
      rw [Nat.add_zero] at x0
      have hmem := List.mem_of_getElem? hx
      have hcall := Lib.hid (hone.out x hmem wr hnb)
      have htk : (l.take (i + 1)).all gE = gE x := by rw [List.take_add_one, hx, List.all_append, hall]; simp
      cases hgx : gE x with
      | false =>
        have hgf : G = false := by
          rw [hg.out]
          have : l.all gE = false := by
            rw [← Bool.not_eq_true, List.all_eq_true]
            intro h
            rw [h x hmem] at hgx
            cases hgx
          rw [this, Bool.false_and]
        rw [hgx] at hcall
        clear hx hxc
        go_wp2_with (go_at_call 58; refine (hcall.out).mono ?_; rintro r w6 ⟨rfl, g6⟩)
        go_ret
        exact ⟨by rw [hgf]; rfl, hn.trans g6⟩
      | true =>
        rw [hgx] at hcall htk
        replace htk := Lib.hid htk
        clear hx hxc
        go_wp2_with (go_at_call 58; refine (hcall.out).mono ?_; rintro r w6 ⟨rfl, g6⟩)
        exact ⟨⟨i + 1, by omega, by simp, htk.out, hn.trans g6⟩, by simp [intOf] <;> omega⟩
    · obtain rfl : i = M := by omega
      have hfull : l.all gE = true := by rw [← hall, ← hMh.out, List.take_length]
      replace hg := hg.out
      rw [hfull, Bool.true_and] at hg
      replace hg := Lib.hid hg
      clear hX hall hMh hfull hcap hlenr hz
      go_wp2_with fail
      all_goals
        go_ret
        refine ⟨congrArg (fun b => Ending.returned (Value.bool b)) (?_ : _ = G), hn⟩
        rw [hg.out]
        first | rfl | (simp_all; done) | (rw [Bool.eq_iff_iff]; simp_all; omega) | (simp_all; omega)
end Go.Proofs.YtebcjocpmnapeaaGreatDoor
