/-
  Proved here: of the reference: whether a body may be. Conditions: the memory holds it. ¦ of the reference: whether arms may be. Conditions: the memory holds them.
-/
import Derived.Test.YtebcjocpmnapeaaGreatDoorSbn
section
namespace Go.Proofs.YtebcjocpmnapeaaGreatDoor
open Go.RowKit
set_option linter.unusedVariables false
set_option linter.unusedSimpArgs false
set_option maxRecDepth 100000
set_option maxHeartbeats 4000000
/-- What the reference asks of a body's end. -/
def rfX (b : Bd) : Bool :=
  if b.kind = 1 then ((decide ((b.arms.length : Int) = 0) && (!b.late)) && decide (b.after = 0)) && ((nameS b.actor && lenS b.args 0 8) && decide ((b.parts.length : Int) = 0))
  else if b.kind = 2 then (((decide ((b.arms.length : Int) = 0) && (!b.late)) && decide (b.after = 0)) && (b.actor == [])) && (decide ((b.args.length : Int) = 0) && decide ((b.parts.length : Int) = 0))
  else if b.kind = 3 then (((decide ((b.arms.length : Int) = 0) && (!b.late)) && decide (b.after = 0)) && (b.actor == [])) && (lenS b.args 1 1 && decide ((b.parts.length : Int) = 2))
  else if b.kind = 4 then (b.actor == []) && (if b.late = true then ((decide ((b.args.length : Int) = 0) && decide ((b.parts.length : Int) = 1)) && decide (0 ≤ b.after)) && decide (b.after ≤ 2305843009213693951)
    else ((decide ((b.args.length : Int) = 0) && decide ((b.parts.length : Int) = 0)) && decide (b.after = 0)) && decide ((0 : Int) < (b.arms.length : Int)))
  else false
def rfB (b : Bd) : Bool := (b.stmts.all gSt && b.parts.all gB) && (b.arms.all gA && rfX b)
theorem rfB_eq (b : Bd) : gB b = rfB b := by
  rw [gB_eq, gSts_all, gBs_all, gAs_all]
  unfold rfB
  have key : (endS (hdB b) && gEs b.args) = rfX b := by
    obtain ⟨sv, ss, k, a, ac, av, es, pv, ps, mv, ms, lt, af⟩ := b
    unfold endS rfX lenS callS
    simp only [hdB, eqH, Bd.kind, Bd.stmts, Bd.args, Bd.parts, Bd.arms, Bd.late, Bd.after, Bd.actor, inI]
    have hl : ∀ (n c : Nat), (n == c) = decide ((n : Int) = (c : Int)) := fun n c => by
      rw [Bool.eq_iff_iff, beq_iff_eq, decide_eq_true_eq]
      omega
    have he : ∀ c : Nat, (es.length == c) = decide ((es.length : Int) = (c : Int)) := fun c => hl _ c
    have h1 : decide ((es.length : Int) = 1) = (decide ((1 : Int) ≤ (es.length : Int)) && decide ((es.length : Int) ≤ 1)) := by
      rw [Bool.eq_iff_iff, Bool.and_eq_true, decide_eq_true_eq, decide_eq_true_eq, decide_eq_true_eq]
      omega
    have h0 : decide ((0 : Int) ≤ (es.length : Int)) = true := decide_eq_true (Int.natCast_nonneg _)
    have hn : (af == 0) = decide (af = 0) := rfl
    have hlt : (lt == false) = !lt := by cases lt <;> rfl
    have hlt1 : (lt == true) = lt := by cases lt <;> rfl
    have c1 : ((1 : Nat) : Int) = 1 := rfl
    have c2 : ((2 : Nat) : Int) = 2 := rfl
    have cE : gEs [] = true := rfl
    have hga : gEs es = es.all gE := gEs_all es
    by_cases k1 : k = 1
    · subst k1
      simp only [if_true, if_false, Int.reduceEq, beq_self_eq_true, Bool.true_and, Bool.and_true, hl, hn, hlt, hlt1, hga, h0, h1, Int.ofNat_eq_natCast, Int.natCast_zero, c1, c2, cE]
      simp only [Bool.and_assoc, Bool.and_comm, Bool.and_left_comm]
      try rfl
    by_cases k2 : k = 2
    · subst k2
      cases es with
      | nil =>
        simp only [if_true, if_false, Int.reduceEq, beq_self_eq_true, Bool.true_and, Bool.and_true, hl, hn, hlt, hlt1, h0, Int.ofNat_eq_natCast, Int.natCast_zero, c1, c2, cE]
        simp only [List.length_nil, List.all_nil, Int.natCast_zero, decide_true, Bool.true_and, Bool.and_true]
        simp only [Bool.and_assoc, Bool.and_comm, Bool.and_left_comm]
        try rfl
      | cons x l =>
        have hf : decide (((x :: l).length : Int) = 0) = false := decide_eq_false (by rw [List.length_cons]; omega)
        simp only [if_true, if_false, Int.reduceEq, beq_self_eq_true, Bool.true_and, Bool.and_true, hl, hn, hlt, hlt1, h0, Int.ofNat_eq_natCast, Int.natCast_zero, c1, c2, cE]
        have hf2 : ¬ (((x :: l).length : Int) = 0) := by rw [List.length_cons]; omega
        simp only [hf, hf2, decide_false, Bool.false_and, Bool.and_false]
    by_cases k3 : k = 3
    · subst k3
      simp only [if_true, if_false, Int.reduceEq, beq_self_eq_true, Bool.true_and, Bool.and_true, hl, hn, hlt, hlt1, hga, h0, h1, Int.ofNat_eq_natCast, Int.natCast_zero, c1, c2, cE]
      simp only [Bool.and_assoc, Bool.and_comm, Bool.and_left_comm]
      try rfl
    by_cases k4 : k = 4
    · subst k4
      cases lt
      · simp only [Bool.false_eq_true, if_false, if_true, Int.reduceEq]
        cases es with
        | nil =>
          simp only [if_true, if_false, Int.reduceEq, beq_self_eq_true, Bool.true_and, Bool.and_true, hl, hn, hlt, hlt1, h0, Int.ofNat_eq_natCast, Int.natCast_zero, c1, c2, cE]
          simp only [List.length_nil, List.all_nil, Int.natCast_zero, decide_true, Bool.true_and, Bool.and_true]
          simp only [Bool.and_assoc, Bool.and_comm, Bool.and_left_comm]
          try rfl
        | cons x l =>
          have hf : decide (((x :: l).length : Int) = 0) = false := decide_eq_false (by rw [List.length_cons]; omega)
          simp only [if_true, if_false, Int.reduceEq, beq_self_eq_true, Bool.true_and, Bool.and_true, hl, hn, hlt, hlt1, h0, Int.ofNat_eq_natCast, Int.natCast_zero, c1, c2, cE]
          have hf2 : ¬ (((x :: l).length : Int) = 0) := by rw [List.length_cons]; omega
          simp only [hf, hf2, decide_false, Bool.false_and, Bool.and_false]
      · simp only [if_true, if_false, Int.reduceEq]
        cases es with
        | nil =>
          simp only [if_true, if_false, Int.reduceEq, beq_self_eq_true, Bool.true_and, Bool.and_true, hl, hn, hlt, hlt1, h0, Int.ofNat_eq_natCast, Int.natCast_zero, c1, c2, cE]
          simp only [List.length_nil, List.all_nil, Int.natCast_zero, decide_true, Bool.true_and, Bool.and_true]
          simp only [Bool.and_assoc, Bool.and_comm, Bool.and_left_comm]
          try rfl
        | cons x l =>
          have hf : decide (((x :: l).length : Int) = 0) = false := decide_eq_false (by rw [List.length_cons]; omega)
          simp only [if_true, if_false, Int.reduceEq, beq_self_eq_true, Bool.true_and, Bool.and_true, hl, hn, hlt, hlt1, h0, Int.ofNat_eq_natCast, Int.natCast_zero, c1, c2, cE]
          have hf2 : ¬ (((x :: l).length : Int) = 0) := by rw [List.length_cons]; omega
          simp only [hf, hf2, decide_false, Bool.false_and, Bool.and_false]
    simp only [k1, k2, k3, k4, if_false, Bool.false_and]
  rw [← key]
  simp only [Bool.and_assoc, Bool.and_comm, Bool.and_left_comm]
end Go.Proofs.YtebcjocpmnapeaaGreatDoor
end
section
namespace Go.Proofs.YtebcjocpmnapeaaGreatDoor
open Go.RowKit
set_option linter.unusedVariables false
set_option linter.unusedSimpArgs false
set_option maxRecDepth 100000
set_option maxHeartbeats 4000000
theorem gA_rf (m : Am) : gA m = (gT m.pat && (lenS m.guard 0 1 && gB m.body)) := by
  rw [gA_eq, gEs_all]
  unfold lenS
  have h0 : decide ((0 : Int) ≤ (m.guard.length : Int)) = true := decide_eq_true (Int.natCast_nonneg _)
  rw [h0]
  simp only [Bool.true_and, Bool.and_assoc, Bool.and_comm, Bool.and_left_comm]
theorem rgoodAs_any (W0 : World) (l : List Am) (v : Value) (hrow : RowS W0 15 v (l.map Am.cells)) (hp : ∀ m ∈ l, m.pat.Has W0) (hgd : ∀ m ∈ l, ExsHas W0 m.gv m.guard)
    (hB : ∀ m ∈ l, ∀ w, Nb W0 w → Calls Tryz.prog 18 #[.agg m.body.cells.toArray] w fun r w' => r = .returned (.bool (gB m.body)) ∧ Nb w w') (w : World) (hw : Nb W0 w) :
    Calls Tryz.prog 60 #[v] w fun r w' => r = .returned (.bool (l.all gA)) ∧ Nb w w' := by
  obtain ⟨A0, cap0, rfl, hcap, hlenr, hz⟩ := hrow.head
  rw [List.length_map] at hcap hlenr hrow ⊢
  have hX := Lib.hid hrow
  obtain ⟨G, hG⟩ : ∃ G, l.all gA = G := ⟨_, rfl⟩
  rw [hG]
  have hg := Lib.hid hG.symm
  clear hG hrow
  obtain ⟨M, hM⟩ : ∃ M, l.length = M := ⟨_, rfl⟩
  have hMh := Lib.hid hM
  rw [hM] at hX hcap hlenr ⊢
  clear hM
  replace hB := Lib.hid hB
  have hpt := Lib.hid (fun m (hm : m ∈ l) => rgoodT_any W0 m.pat (hp m hm))
  have hge := Lib.hid (fun m (hm : m ∈ l) w (h : Nb W0 w) => rgoodEs_any W0 m.guard m.gv (hgd m hm) 0 1 w h)
  clear hp hgd
  go_enter Tryz.func60, Tryz.ntmps60
  go_wp2_with fail
  go_loopw [3] (fun si wr => ∃ i : Nat, i ≤ M ∧ si = .int .i64 i ∧ (l.take i).all gA = true ∧ Nb w wr) (fun si _ => M - (intOf si).toNat)
  case atStart => exact ⟨0, Nat.zero_le _, rfl, by simp, Nb.refl _⟩
  case round =>
    obtain ⟨i, hi2, rfl, hall, hn⟩ := hrel
    by_cases hlt2 : i < M
    · have hlt3 : (i : Int) < (M : Int) := by omega
      obtain ⟨x, hx⟩ : ∃ x, l[i]? = some x := ⟨_, List.getElem?_eq_getElem (by rw [hMh.out]; exact hlt2)⟩
      obtain ⟨b', o, hbo, hxc⟩ := RowS.at_ hX.out (i := i) (r := x.cells) (by rw [List.getElem?_map, hx]; rfl)
      obtain rfl := hbo
      have hnb : Nb W0 wr := hw.trans hn
      have x0 := hnb.cell (hxc 0 _ rfl)
      have x1 := hnb.cell (hxc 1 _ rfl)
      have x2 := hnb.cell (hxc 2 _ rfl)
      have x3 := hnb.cell (hxc 3 _ rfl)
      have x4 := hnb.cell (hxc 4 _ rfl)
      have x5 := hnb.cell (hxc 5 _ rfl)
      have x6 := hnb.cell (hxc 6 _ rfl)
      have x7 := hnb.cell (hxc 7 _ rfl)
      have x8 := hnb.cell (hxc 8 _ rfl)
      have x9 := hnb.cell (hxc 9 _ rfl)
      have x10 := hnb.cell (hxc 10 _ rfl)
      have x11 := hnb.cell (hxc 11 _ rfl)
      have x12 := hnb.cell (hxc 12 _ rfl)
      have x13 := hnb.cell (hxc 13 _ rfl)
      have x14 := hnb.cell (hxc 14 _ rfl)
      rw [Nat.add_zero] at x0
      have hmem := List.mem_of_getElem? hx
      have hc1 := Lib.hid (hpt.out x hmem)
      have hc2 := Lib.hid (hge.out x hmem)
      have hc3 := Lib.hid (hB.out x hmem)
      have hgx := gA_rf x
      have htk : (l.take (i + 1)).all gA = gA x := by rw [List.take_add_one, hx, List.all_append, hall]; simp
      have hfl : gA x = false → G = false := fun h => by
        rw [hg.out, ← Bool.not_eq_true, List.all_eq_true]
        intro h2
        rw [h2 x hmem] at h
        cases h
      obtain ⟨L, hL⟩ : ∃ L, lenS x.guard 0 1 = L := ⟨_, rfl⟩
      rw [hL] at hgx
      replace hc2 : Hid (∀ w, Nb W0 w → Calls Tryz.prog 17 #[x.gv, .int .i64 0, .int .i64 1] w fun r w' => r = .returned (.bool L) ∧ Nb w w') := Lib.hid (by rw [← hL]; exact hc2.out)
      clear hx hxc hL
      cases hP : gT x.pat with
      | false =>
        rw [hP] at hc1 hgx
        replace hfl := Lib.hid (hfl (by rw [hgx]; rfl))
        clear htk hgx
        go_wp2_with (first
          | (go_at_call 76; refine (hc1.out _ hnb).mono ?_; rintro r w6 ⟨rfl, g6⟩; replace hnb := hnb.trans g6; replace hn := hn.trans g6; replace x5 := g6.cell x5; replace x6 := g6.cell x6; replace x7 := g6.cell x7; replace x8 := g6.cell x8; replace x9 := g6.cell x9; replace x10 := g6.cell x10; replace x11 := g6.cell x11; replace x12 := g6.cell x12; replace x13 := g6.cell x13; replace x14 := g6.cell x14; clear g6)
          | (go_at_call 17; refine (hc2.out _ hnb).mono ?_; rintro r w6 ⟨rfl, g6⟩; replace hnb := hnb.trans g6; replace hn := hn.trans g6; replace x5 := g6.cell x5; replace x6 := g6.cell x6; replace x7 := g6.cell x7; replace x8 := g6.cell x8; replace x9 := g6.cell x9; replace x10 := g6.cell x10; replace x11 := g6.cell x11; replace x12 := g6.cell x12; replace x13 := g6.cell x13; replace x14 := g6.cell x14; clear g6)
          | (go_at_call 18; refine (hc3.out _ hnb).mono ?_; rintro r w6 ⟨rfl, g6⟩; replace hnb := hnb.trans g6; replace hn := hn.trans g6; clear g6))
        go_ret
        exact ⟨by rw [hfl.out]; rfl, hn⟩
      | true =>
        rw [hP] at hc1 hgx
        cases L with
        | false =>
          replace hfl := Lib.hid (hfl (by rw [hgx]; rfl))
          clear htk hgx
          go_wp2_with (first
            | (go_at_call 76; refine (hc1.out _ hnb).mono ?_; rintro r w6 ⟨rfl, g6⟩; replace hnb := hnb.trans g6; replace hn := hn.trans g6; replace x5 := g6.cell x5; replace x6 := g6.cell x6; replace x7 := g6.cell x7; replace x8 := g6.cell x8; replace x9 := g6.cell x9; replace x10 := g6.cell x10; replace x11 := g6.cell x11; replace x12 := g6.cell x12; replace x13 := g6.cell x13; replace x14 := g6.cell x14; clear g6)
            | (go_at_call 17; refine (hc2.out _ hnb).mono ?_; rintro r w6 ⟨rfl, g6⟩; replace hnb := hnb.trans g6; replace hn := hn.trans g6; replace x5 := g6.cell x5; replace x6 := g6.cell x6; replace x7 := g6.cell x7; replace x8 := g6.cell x8; replace x9 := g6.cell x9; replace x10 := g6.cell x10; replace x11 := g6.cell x11; replace x12 := g6.cell x12; replace x13 := g6.cell x13; replace x14 := g6.cell x14; clear g6)
            | (go_at_call 18; refine (hc3.out _ hnb).mono ?_; rintro r w6 ⟨rfl, g6⟩; replace hnb := hnb.trans g6; replace hn := hn.trans g6; clear g6))
          go_ret
          exact ⟨by rw [hfl.out]; rfl, hn⟩
        | true =>
          cases hR : gB x.body with
          | false =>
            rw [hR] at hc3 hgx
            replace hfl := Lib.hid (hfl (by rw [hgx]; rfl))
            clear htk hgx
            go_wp2_with (first
              | (go_at_call 76; refine (hc1.out _ hnb).mono ?_; rintro r w6 ⟨rfl, g6⟩; replace hnb := hnb.trans g6; replace hn := hn.trans g6; replace x5 := g6.cell x5; replace x6 := g6.cell x6; replace x7 := g6.cell x7; replace x8 := g6.cell x8; replace x9 := g6.cell x9; replace x10 := g6.cell x10; replace x11 := g6.cell x11; replace x12 := g6.cell x12; replace x13 := g6.cell x13; replace x14 := g6.cell x14; clear g6)
              | (go_at_call 17; refine (hc2.out _ hnb).mono ?_; rintro r w6 ⟨rfl, g6⟩; replace hnb := hnb.trans g6; replace hn := hn.trans g6; replace x5 := g6.cell x5; replace x6 := g6.cell x6; replace x7 := g6.cell x7; replace x8 := g6.cell x8; replace x9 := g6.cell x9; replace x10 := g6.cell x10; replace x11 := g6.cell x11; replace x12 := g6.cell x12; replace x13 := g6.cell x13; replace x14 := g6.cell x14; clear g6)
              | (go_at_call 18; refine (hc3.out _ hnb).mono ?_; rintro r w6 ⟨rfl, g6⟩; replace hnb := hnb.trans g6; replace hn := hn.trans g6; clear g6))
            go_ret
            exact ⟨by rw [hfl.out]; rfl, hn⟩
          | true =>
            rw [hR] at hc3 hgx
            rw [hgx] at htk
            replace htk := Lib.hid htk
            clear hgx hfl
            go_wp2_with (first
              | (go_at_call 76; refine (hc1.out _ hnb).mono ?_; rintro r w6 ⟨rfl, g6⟩; replace hnb := hnb.trans g6; replace hn := hn.trans g6; replace x5 := g6.cell x5; replace x6 := g6.cell x6; replace x7 := g6.cell x7; replace x8 := g6.cell x8; replace x9 := g6.cell x9; replace x10 := g6.cell x10; replace x11 := g6.cell x11; replace x12 := g6.cell x12; replace x13 := g6.cell x13; replace x14 := g6.cell x14; clear g6)
              | (go_at_call 17; refine (hc2.out _ hnb).mono ?_; rintro r w6 ⟨rfl, g6⟩; replace hnb := hnb.trans g6; replace hn := hn.trans g6; replace x5 := g6.cell x5; replace x6 := g6.cell x6; replace x7 := g6.cell x7; replace x8 := g6.cell x8; replace x9 := g6.cell x9; replace x10 := g6.cell x10; replace x11 := g6.cell x11; replace x12 := g6.cell x12; replace x13 := g6.cell x13; replace x14 := g6.cell x14; clear g6)
              | (go_at_call 18; refine (hc3.out _ hnb).mono ?_; rintro r w6 ⟨rfl, g6⟩; replace hnb := hnb.trans g6; replace hn := hn.trans g6; clear g6))
            exact ⟨⟨i + 1, by omega, by simp, htk.out, hn⟩, by simp [intOf] <;> omega⟩
    · obtain rfl : i = M := by omega
      have hfull : G = true := by rw [hg.out, ← hall, ← hMh.out, List.take_length]
      go_wp2_with fail
      go_ret
      exact ⟨by rw [hfull]; rfl, hn⟩
end Go.Proofs.YtebcjocpmnapeaaGreatDoor
end
