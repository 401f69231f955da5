/-
  Proved here: what the closure of rule answers of each number from 1 to 13. Conditions: the pointers point at operations; there are at most a million between.
-/
import Derived.Test.YticifolljhplmaaYl
namespace Go.Proofs.Yticifolljhplmaa
open Go.RowKit Go.Sort Go.Shelf
set_option linter.unusedVariables false
set_option linter.unusedSimpArgs false
set_option maxRecDepth 100000
set_option maxHeartbeats 4000000
/-- What the closure of rule has captured, and what that points at. -/
structure RuleW (w : World) (ga gb gp ab ao bb bo : Nat) (v : Value) (a b : OpD) (l : List OpD) : Prop where
  pa : w.heap[ga]? = some (.cells #[.pointer (some ⟨ab, ao, none⟩)] 56 (0, 0))
  pb : w.heap[gb]? = some (.cells #[.pointer (some ⟨bb, bo, none⟩)] 56 (0, 0))
  pp : w.heap[gp]? = some (.cells #[.pointer (some ⟨ab, ao, none⟩), .pointer (some ⟨bb, bo, none⟩), v] 67 (0, 0))
  ha : OpAt w ab ao a
  hb : OpAt w bb bo b
  hl : OpsR w v l
  hn : l.length ≤ 1000000
  hs : ∀ m ∈ l, m.addrs.length ≤ 4611686018427387904 ∧ m.datas.length ≤ 4611686018427387904
  h1 : b.addrs.length ≤ 4611686018427387904
  h2 : b.datas.length ≤ 4611686018427387904
  h3 : b.ctrls.length ≤ 4611686018427387904
theorem RuleW.nb {w w' : World} {ga gb gp ab ao bb bo : Nat} {v : Value} {a b : OpD} {l : List OpD} (h : RuleW w ga gb gp ab ao bb bo v a b l) (k : Nb w w') : RuleW w' ga gb gp ab ao bb bo v a b l :=
  ⟨k.block h.pa, k.block h.pb, k.block h.pp, h.ha.nb k, h.hb.nb k, h.hl.nb k, h.hn, h.hs, h.h1, h.h2, h.h3⟩
/-- Does a rule hold of two operations, and those between them? -/
def ruleB (a b : OpD) (l : List OpD) (n : Nat) : Bool :=
  match n with
  | 1 => b.store && !emptyS (comS (spanS a) (spanS b))
  | 2 => apartS a b l
  | 3 => (a.load || a.pair != -1) && a.store && b.load && hasI (idsS b) a.id
  | 4 => l.any (fenceB a b)
  | 5 => a.aq
  | 6 => b.rl
  | 7 => (a.aq || a.rl) && (b.aq || b.rl)
  | 8 => b.pair == a.id
  | 9 => hasI b.addrs a.id
  | 10 => hasI b.datas a.id
  | 11 => b.store && hasI b.ctrls a.id
  | 12 => b.load && passedB a b l
  | 13 => b.store && l.any (placedB a)
  | _ => false
theorem OpsR.slice {w : World} {v : Value} {l : List OpD} (h : OpsR w v l) : ∃ p n c, v = .slice p n c := by
  obtain ⟨p, c, h, -⟩ := h.cases
  exact ⟨p, _, c, h⟩
theorem rule1_2 (ga gb gp ab ao bb bo : Nat) (v : Value) (a b : OpD) (l : List OpD) (w : World) (h : RuleW w ga gb gp ab ao bb bo v a b l) :
    Calls Try.prog 50 #[.int .i64 2, .pointer (some ⟨gb, 0, none⟩), .pointer (some ⟨ga, 0, none⟩), .pointer (some ⟨gp, 0, none⟩)] w fun e w' => e = .returned (.bool (ruleB a b l 2)) ∧ Nb w w' := by
  obtain ⟨p, nn, cc, hv⟩ := h.hl.slice
  have qa : w.cell? ⟨ga, 0, none⟩ = some (.pointer (some ⟨ab, ao, none⟩)) := cell_of_row _ _ 0 _ _ _ h.pa
  have qb : w.cell? ⟨gb, 0, none⟩ = some (.pointer (some ⟨bb, bo, none⟩)) := cell_of_row _ _ 0 _ _ _ h.pb
  have p0 : w.cell? ⟨gp, 0, none⟩ = some (.pointer (some ⟨ab, ao, none⟩)) := cell_of_row _ _ 0 _ _ _ h.pp
  have p1 : w.cell? ⟨gp, 1, none⟩ = some (.pointer (some ⟨bb, bo, none⟩)) := cell_of_row _ _ 1 _ _ _ h.pp
  have p2 : w.cell? ⟨gp, 2, none⟩ = some v := cell_of_row _ _ 2 _ _ _ h.pp
  subst hv
  have hh := Lib.hid h
  obtain ⟨-, a0, a1, a2, -, -, -, a6, a7, -, -, -, -, -, a13, -⟩ := h.ha
  obtain ⟨-, b0, b1, b2, -, -, -, b6, b7, -, -, -, -, -, b13, b14, b15, b16, -⟩ := h.hb
  obtain ⟨R, hR⟩ : ∃ R, ruleB a b l 2 = R := ⟨_, rfl⟩
  rw [hR]
  unfold ruleB at hR
  simp only at hR
  clear h
  have hC := apart_any ab ao bb bo _ a b l w hh.out.ha hh.out.hb hh.out.hl hh.out.hn
  unfold pairV at hC
  rw [hR] at hC
  clear a0 a1 a2 a6 a7 a13 b0 b1 b2 b6 b7 b13 b14 b15 b16 hR
  go_enter Try.func50, Try.ntmps50
  go_wp2_with (go_at_call 52; refine hC.mono ?_; rintro e w' ⟨rfl, k⟩)
  go_ret
  exact ⟨rfl, k⟩
theorem rule1_4 (ga gb gp ab ao bb bo : Nat) (v : Value) (a b : OpD) (l : List OpD) (w : World) (h : RuleW w ga gb gp ab ao bb bo v a b l) :
    Calls Try.prog 50 #[.int .i64 4, .pointer (some ⟨gb, 0, none⟩), .pointer (some ⟨ga, 0, none⟩), .pointer (some ⟨gp, 0, none⟩)] w fun e w' => e = .returned (.bool (ruleB a b l 4)) ∧ Nb w w' := by
  obtain ⟨p, nn, cc, hv⟩ := h.hl.slice
  have qa : w.cell? ⟨ga, 0, none⟩ = some (.pointer (some ⟨ab, ao, none⟩)) := cell_of_row _ _ 0 _ _ _ h.pa
  have qb : w.cell? ⟨gb, 0, none⟩ = some (.pointer (some ⟨bb, bo, none⟩)) := cell_of_row _ _ 0 _ _ _ h.pb
  have p0 : w.cell? ⟨gp, 0, none⟩ = some (.pointer (some ⟨ab, ao, none⟩)) := cell_of_row _ _ 0 _ _ _ h.pp
  have p1 : w.cell? ⟨gp, 1, none⟩ = some (.pointer (some ⟨bb, bo, none⟩)) := cell_of_row _ _ 1 _ _ _ h.pp
  have p2 : w.cell? ⟨gp, 2, none⟩ = some v := cell_of_row _ _ 2 _ _ _ h.pp
  subst hv
  have hh := Lib.hid h
  obtain ⟨-, a0, a1, a2, -, -, -, a6, a7, -, -, -, -, -, a13, -⟩ := h.ha
  obtain ⟨-, b0, b1, b2, -, -, -, b6, b7, -, -, -, -, -, b13, b14, b15, b16, -⟩ := h.hb
  obtain ⟨R, hR⟩ : ∃ R, ruleB a b l 4 = R := ⟨_, rfl⟩
  rw [hR]
  unfold ruleB at hR
  simp only at hR
  clear h
  have hC := fenced_any ab ao bb bo _ a b l w hh.out.ha hh.out.hb hh.out.hl (Nat.le_trans hh.out.hn (by decide))
  unfold pairV at hC
  rw [hR] at hC
  clear a0 a1 a2 a6 a7 a13 b0 b1 b2 b6 b7 b13 b14 b15 b16 hR
  go_enter Try.func50, Try.ntmps50
  go_wp2_with (go_at_call 54; refine hC.mono ?_; rintro e w' ⟨rfl, k⟩)
  go_ret
  exact ⟨rfl, k⟩
theorem rule1_5 (ga gb gp ab ao bb bo : Nat) (v : Value) (a b : OpD) (l : List OpD) (w : World) (h : RuleW w ga gb gp ab ao bb bo v a b l) :
    Calls Try.prog 50 #[.int .i64 5, .pointer (some ⟨gb, 0, none⟩), .pointer (some ⟨ga, 0, none⟩), .pointer (some ⟨gp, 0, none⟩)] w fun e w' => e = .returned (.bool (ruleB a b l 5)) ∧ Nb w w' := by
  obtain ⟨p, nn, cc, hv⟩ := h.hl.slice
  have qa : w.cell? ⟨ga, 0, none⟩ = some (.pointer (some ⟨ab, ao, none⟩)) := cell_of_row _ _ 0 _ _ _ h.pa
  have qb : w.cell? ⟨gb, 0, none⟩ = some (.pointer (some ⟨bb, bo, none⟩)) := cell_of_row _ _ 0 _ _ _ h.pb
  have p0 : w.cell? ⟨gp, 0, none⟩ = some (.pointer (some ⟨ab, ao, none⟩)) := cell_of_row _ _ 0 _ _ _ h.pp
  have p1 : w.cell? ⟨gp, 1, none⟩ = some (.pointer (some ⟨bb, bo, none⟩)) := cell_of_row _ _ 1 _ _ _ h.pp
  have p2 : w.cell? ⟨gp, 2, none⟩ = some v := cell_of_row _ _ 2 _ _ _ h.pp
  subst hv
  have hh := Lib.hid h
  obtain ⟨-, a0, a1, a2, -, -, -, a6, a7, -, -, -, -, -, a13, -⟩ := h.ha
  obtain ⟨-, b0, b1, b2, -, -, -, b6, b7, -, -, -, -, -, b13, b14, b15, b16, -⟩ := h.hb
  obtain ⟨R, hR⟩ : ∃ R, ruleB a b l 5 = R := ⟨_, rfl⟩
  rw [hR]
  unfold ruleB at hR
  simp only at hR
  clear h
  clear a0 a1 a2 a7 a13 b0 b1 b2 b6 b7 b13 b14 b15 b16
  rw [hR] at a6
  clear hR
  go_enter Try.func50, Try.ntmps50
  go_wp2
  go_ret
  exact ⟨rfl, Nb.refl _⟩
theorem rule1_6 (ga gb gp ab ao bb bo : Nat) (v : Value) (a b : OpD) (l : List OpD) (w : World) (h : RuleW w ga gb gp ab ao bb bo v a b l) :
    Calls Try.prog 50 #[.int .i64 6, .pointer (some ⟨gb, 0, none⟩), .pointer (some ⟨ga, 0, none⟩), .pointer (some ⟨gp, 0, none⟩)] w fun e w' => e = .returned (.bool (ruleB a b l 6)) ∧ Nb w w' := by
  obtain ⟨p, nn, cc, hv⟩ := h.hl.slice
  have qa : w.cell? ⟨ga, 0, none⟩ = some (.pointer (some ⟨ab, ao, none⟩)) := cell_of_row _ _ 0 _ _ _ h.pa
  have qb : w.cell? ⟨gb, 0, none⟩ = some (.pointer (some ⟨bb, bo, none⟩)) := cell_of_row _ _ 0 _ _ _ h.pb
  have p0 : w.cell? ⟨gp, 0, none⟩ = some (.pointer (some ⟨ab, ao, none⟩)) := cell_of_row _ _ 0 _ _ _ h.pp
  have p1 : w.cell? ⟨gp, 1, none⟩ = some (.pointer (some ⟨bb, bo, none⟩)) := cell_of_row _ _ 1 _ _ _ h.pp
  have p2 : w.cell? ⟨gp, 2, none⟩ = some v := cell_of_row _ _ 2 _ _ _ h.pp
  subst hv
  have hh := Lib.hid h
  obtain ⟨-, a0, a1, a2, -, -, -, a6, a7, -, -, -, -, -, a13, -⟩ := h.ha
  obtain ⟨-, b0, b1, b2, -, -, -, b6, b7, -, -, -, -, -, b13, b14, b15, b16, -⟩ := h.hb
  obtain ⟨R, hR⟩ : ∃ R, ruleB a b l 6 = R := ⟨_, rfl⟩
  rw [hR]
  unfold ruleB at hR
  simp only at hR
  clear h
  clear a0 a1 a2 a6 a7 a13 b0 b1 b2 b6 b13 b14 b15 b16
  rw [hR] at b7
  clear hR
  go_enter Try.func50, Try.ntmps50
  go_wp2
  go_ret
  exact ⟨rfl, Nb.refl _⟩
theorem rule1_7 (ga gb gp ab ao bb bo : Nat) (v : Value) (a b : OpD) (l : List OpD) (w : World) (h : RuleW w ga gb gp ab ao bb bo v a b l) :
    Calls Try.prog 50 #[.int .i64 7, .pointer (some ⟨gb, 0, none⟩), .pointer (some ⟨ga, 0, none⟩), .pointer (some ⟨gp, 0, none⟩)] w fun e w' => e = .returned (.bool (ruleB a b l 7)) ∧ Nb w w' := by
  obtain ⟨p, nn, cc, hv⟩ := h.hl.slice
  have qa : w.cell? ⟨ga, 0, none⟩ = some (.pointer (some ⟨ab, ao, none⟩)) := cell_of_row _ _ 0 _ _ _ h.pa
  have qb : w.cell? ⟨gb, 0, none⟩ = some (.pointer (some ⟨bb, bo, none⟩)) := cell_of_row _ _ 0 _ _ _ h.pb
  have p0 : w.cell? ⟨gp, 0, none⟩ = some (.pointer (some ⟨ab, ao, none⟩)) := cell_of_row _ _ 0 _ _ _ h.pp
  have p1 : w.cell? ⟨gp, 1, none⟩ = some (.pointer (some ⟨bb, bo, none⟩)) := cell_of_row _ _ 1 _ _ _ h.pp
  have p2 : w.cell? ⟨gp, 2, none⟩ = some v := cell_of_row _ _ 2 _ _ _ h.pp
  subst hv
  have hh := Lib.hid h
  obtain ⟨-, a0, a1, a2, -, -, -, a6, a7, -, -, -, -, -, a13, -⟩ := h.ha
  obtain ⟨-, b0, b1, b2, -, -, -, b6, b7, -, -, -, -, -, b13, b14, b15, b16, -⟩ := h.hb
  obtain ⟨R, hR⟩ : ∃ R, ruleB a b l 7 = R := ⟨_, rfl⟩
  rw [hR]
  unfold ruleB at hR
  simp only at hR
  clear h
  clear a0 a1 a2 a13 b0 b1 b2 b13 b14 b15 b16
  generalize a.aq = x1 at *
  generalize a.rl = x2 at *
  generalize b.aq = x3 at *
  generalize b.rl = x4 at *
  go_enter Try.func50, Try.ntmps50
  cases x1 <;> cases x2 <;> cases x3 <;> cases x4 <;> simp only [Bool.or_self, Bool.or_true, Bool.or_false, Bool.true_or, Bool.false_or, Bool.and_self, Bool.and_true, Bool.and_false, Bool.true_and, Bool.false_and] at hR <;> subst hR <;> go_wp2 <;> go_ret <;> exact ⟨rfl, Nb.refl _⟩
theorem rule1_8 (ga gb gp ab ao bb bo : Nat) (v : Value) (a b : OpD) (l : List OpD) (w : World) (h : RuleW w ga gb gp ab ao bb bo v a b l) :
    Calls Try.prog 50 #[.int .i64 8, .pointer (some ⟨gb, 0, none⟩), .pointer (some ⟨ga, 0, none⟩), .pointer (some ⟨gp, 0, none⟩)] w fun e w' => e = .returned (.bool (ruleB a b l 8)) ∧ Nb w w' := by
  obtain ⟨p, nn, cc, hv⟩ := h.hl.slice
  have qa : w.cell? ⟨ga, 0, none⟩ = some (.pointer (some ⟨ab, ao, none⟩)) := cell_of_row _ _ 0 _ _ _ h.pa
  have qb : w.cell? ⟨gb, 0, none⟩ = some (.pointer (some ⟨bb, bo, none⟩)) := cell_of_row _ _ 0 _ _ _ h.pb
  have p0 : w.cell? ⟨gp, 0, none⟩ = some (.pointer (some ⟨ab, ao, none⟩)) := cell_of_row _ _ 0 _ _ _ h.pp
  have p1 : w.cell? ⟨gp, 1, none⟩ = some (.pointer (some ⟨bb, bo, none⟩)) := cell_of_row _ _ 1 _ _ _ h.pp
  have p2 : w.cell? ⟨gp, 2, none⟩ = some v := cell_of_row _ _ 2 _ _ _ h.pp
  subst hv
  have hh := Lib.hid h
  obtain ⟨-, a0, a1, a2, -, -, -, a6, a7, -, -, -, -, -, a13, -⟩ := h.ha
  obtain ⟨-, b0, b1, b2, -, -, -, b6, b7, -, -, -, -, -, b13, b14, b15, b16, -⟩ := h.hb
  obtain ⟨R, hR⟩ : ∃ R, ruleB a b l 8 = R := ⟨_, rfl⟩
  rw [hR]
  unfold ruleB at hR
  simp only at hR
  clear h
  clear a1 a2 a6 a7 a13 b0 b1 b2 b6 b7 b14 b15 b16
  generalize a.id = x1 at *
  generalize b.pair = x2 at *
  go_enter Try.func50, Try.ntmps50
  go_upto_region 17 with (fail)
  go_quiet (fail)
  go_wp2_with fail
  go_ret
  exact ⟨rfl, (Nb.refl _).drewN nq⟩
theorem rule1_9 (ga gb gp ab ao bb bo : Nat) (v : Value) (a b : OpD) (l : List OpD) (w : World) (h : RuleW w ga gb gp ab ao bb bo v a b l) :
    Calls Try.prog 50 #[.int .i64 9, .pointer (some ⟨gb, 0, none⟩), .pointer (some ⟨ga, 0, none⟩), .pointer (some ⟨gp, 0, none⟩)] w fun e w' => e = .returned (.bool (ruleB a b l 9)) ∧ Nb w w' := by
  obtain ⟨p, nn, cc, hv⟩ := h.hl.slice
  have qa : w.cell? ⟨ga, 0, none⟩ = some (.pointer (some ⟨ab, ao, none⟩)) := cell_of_row _ _ 0 _ _ _ h.pa
  have qb : w.cell? ⟨gb, 0, none⟩ = some (.pointer (some ⟨bb, bo, none⟩)) := cell_of_row _ _ 0 _ _ _ h.pb
  have p0 : w.cell? ⟨gp, 0, none⟩ = some (.pointer (some ⟨ab, ao, none⟩)) := cell_of_row _ _ 0 _ _ _ h.pp
  have p1 : w.cell? ⟨gp, 1, none⟩ = some (.pointer (some ⟨bb, bo, none⟩)) := cell_of_row _ _ 1 _ _ _ h.pp
  have p2 : w.cell? ⟨gp, 2, none⟩ = some v := cell_of_row _ _ 2 _ _ _ h.pp
  subst hv
  have hh := Lib.hid h
  obtain ⟨-, a0, a1, a2, -, -, -, a6, a7, -, -, -, -, -, a13, -⟩ := h.ha
  obtain ⟨-, b0, b1, b2, -, -, -, b6, b7, -, -, -, -, -, b13, b14, b15, b16, -⟩ := h.hb
  obtain ⟨R, hR⟩ : ∃ R, ruleB a b l 9 = R := ⟨_, rfl⟩
  rw [hR]
  unfold ruleB at hR
  simp only at hR
  clear h
  have hC := Lib.hid (fun (d : Nat) (os : Array Obj) => onA_any ab ao bb bo (.slice p nn cc) a b.av b.addrs (grow (redrawn w d) os) (hh.out.ha.nb (below_regrown w d os)) (hh.out.hb.ra.nb (below_regrown w d os)) hh.out.h1 rfl)
  unfold pairV at hC
  generalize b.av = u at *
  generalize hasI b.addrs a.id = r at *
  subst hR
  clear a0 a1 a2 a6 a7 a13 b0 b1 b2 b6 b7 b13 b15 b16
  go_enter Try.func50, Try.ntmps50
  go_upto_region 19 with (fail)
  have d0 := cell_regrown p0
  have d1 := cell_regrown p1
  have d2 := cell_regrown p2
  have d3 := cell_regrown qb
  have d4 := cell_regrown b14
  refine wp_region_quiet_below (by kernel_rfl) (by kernel_rfl) ?_
  repeat (quiet_step ((go_at_call 55; exact regrown_nb (hC.out _ _))))
  refine wpQuiet_nil ?_
  intro x4 hw'
  obtain ⟨⟨dq, osq⟩, hw''⟩ := hw'
  have hg : Nb w x4 := by rw [hw'']; exact below_regrown w dq osq
  clear hw'' d0 d1 d2 d3 d4 hC
  go_wp2_with fail
  go_ret
  exact ⟨rfl, hg⟩
theorem rule1_10 (ga gb gp ab ao bb bo : Nat) (v : Value) (a b : OpD) (l : List OpD) (w : World) (h : RuleW w ga gb gp ab ao bb bo v a b l) :
    Calls Try.prog 50 #[.int .i64 10, .pointer (some ⟨gb, 0, none⟩), .pointer (some ⟨ga, 0, none⟩), .pointer (some ⟨gp, 0, none⟩)] w fun e w' => e = .returned (.bool (ruleB a b l 10)) ∧ Nb w w' := by
  obtain ⟨p, nn, cc, hv⟩ := h.hl.slice
  have qa : w.cell? ⟨ga, 0, none⟩ = some (.pointer (some ⟨ab, ao, none⟩)) := cell_of_row _ _ 0 _ _ _ h.pa
  have qb : w.cell? ⟨gb, 0, none⟩ = some (.pointer (some ⟨bb, bo, none⟩)) := cell_of_row _ _ 0 _ _ _ h.pb
  have p0 : w.cell? ⟨gp, 0, none⟩ = some (.pointer (some ⟨ab, ao, none⟩)) := cell_of_row _ _ 0 _ _ _ h.pp
  have p1 : w.cell? ⟨gp, 1, none⟩ = some (.pointer (some ⟨bb, bo, none⟩)) := cell_of_row _ _ 1 _ _ _ h.pp
  have p2 : w.cell? ⟨gp, 2, none⟩ = some v := cell_of_row _ _ 2 _ _ _ h.pp
  subst hv
  have hh := Lib.hid h
  obtain ⟨-, a0, a1, a2, -, -, -, a6, a7, -, -, -, -, -, a13, -⟩ := h.ha
  obtain ⟨-, b0, b1, b2, -, -, -, b6, b7, -, -, -, -, -, b13, b14, b15, b16, -⟩ := h.hb
  obtain ⟨R, hR⟩ : ∃ R, ruleB a b l 10 = R := ⟨_, rfl⟩
  rw [hR]
  unfold ruleB at hR
  simp only at hR
  clear h
  have hC := Lib.hid (fun (d : Nat) (os : Array Obj) => onA_any ab ao bb bo (.slice p nn cc) a b.dv b.datas (grow (redrawn w d) os) (hh.out.ha.nb (below_regrown w d os)) (hh.out.hb.rd.nb (below_regrown w d os)) hh.out.h2 rfl)
  unfold pairV at hC
  generalize b.dv = u at *
  generalize hasI b.datas a.id = r at *
  subst hR
  clear a0 a1 a2 a6 a7 a13 b0 b1 b2 b6 b7 b13 b14 b16
  go_enter Try.func50, Try.ntmps50
  go_upto_region 21 with (fail)
  have d0 := cell_regrown p0
  have d1 := cell_regrown p1
  have d2 := cell_regrown p2
  have d3 := cell_regrown qb
  have d4 := cell_regrown b15
  refine wp_region_quiet_below (by kernel_rfl) (by kernel_rfl) ?_
  repeat (quiet_step ((go_at_call 55; exact regrown_nb (hC.out _ _))))
  refine wpQuiet_nil ?_
  intro x4 hw'
  obtain ⟨⟨dq, osq⟩, hw''⟩ := hw'
  have hg : Nb w x4 := by rw [hw'']; exact below_regrown w dq osq
  clear hw'' d0 d1 d2 d3 d4 hC
  go_wp2_with fail
  go_ret
  exact ⟨rfl, hg⟩
theorem rule1_11 (ga gb gp ab ao bb bo : Nat) (v : Value) (a b : OpD) (l : List OpD) (w : World) (h : RuleW w ga gb gp ab ao bb bo v a b l) :
    Calls Try.prog 50 #[.int .i64 11, .pointer (some ⟨gb, 0, none⟩), .pointer (some ⟨ga, 0, none⟩), .pointer (some ⟨gp, 0, none⟩)] w fun e w' => e = .returned (.bool (ruleB a b l 11)) ∧ Nb w w' := by
  obtain ⟨p, nn, cc, hv⟩ := h.hl.slice
  have qa : w.cell? ⟨ga, 0, none⟩ = some (.pointer (some ⟨ab, ao, none⟩)) := cell_of_row _ _ 0 _ _ _ h.pa
  have qb : w.cell? ⟨gb, 0, none⟩ = some (.pointer (some ⟨bb, bo, none⟩)) := cell_of_row _ _ 0 _ _ _ h.pb
  have p0 : w.cell? ⟨gp, 0, none⟩ = some (.pointer (some ⟨ab, ao, none⟩)) := cell_of_row _ _ 0 _ _ _ h.pp
  have p1 : w.cell? ⟨gp, 1, none⟩ = some (.pointer (some ⟨bb, bo, none⟩)) := cell_of_row _ _ 1 _ _ _ h.pp
  have p2 : w.cell? ⟨gp, 2, none⟩ = some v := cell_of_row _ _ 2 _ _ _ h.pp
  subst hv
  have hh := Lib.hid h
  obtain ⟨-, a0, a1, a2, -, -, -, a6, a7, -, -, -, -, -, a13, -⟩ := h.ha
  obtain ⟨-, b0, b1, b2, -, -, -, b6, b7, -, -, -, -, -, b13, b14, b15, b16, -⟩ := h.hb
  obtain ⟨R, hR⟩ : ∃ R, ruleB a b l 11 = R := ⟨_, rfl⟩
  rw [hR]
  unfold ruleB at hR
  simp only at hR
  clear h
  have hC := Lib.hid (fun (d : Nat) (os : Array Obj) => onA_any ab ao bb bo (.slice p nn cc) a b.cv b.ctrls (grow (redrawn w d) os) (hh.out.ha.nb (below_regrown w d os)) (hh.out.hb.rc.nb (below_regrown w d os)) hh.out.h3 rfl)
  unfold pairV at hC
  generalize b.cv = u at *
  generalize hasI b.ctrls a.id = r at *
  clear a0 a1 a2 a6 a7 a13 b0 b1 b6 b7 b13 b14 b15
  generalize b.store = st at *
  go_enter Try.func50, Try.ntmps50
  cases st with
  | false =>
    simp only [Bool.false_and] at hR
    subst hR
    go_upto_region 23 with (fail)
    go_quiet (fail)
    go_wp2_with fail
    go_ret
    exact ⟨rfl, (Nb.refl _).drewN nq⟩
  | true =>
    simp only [Bool.true_and] at hR
    subst hR
    go_upto_region 23 with (fail)
    have d0 := cell_regrown p0
    have d1 := cell_regrown p1
    have d2 := cell_regrown p2
    have d3 := cell_regrown qb
    have d4 := cell_regrown b16
    have d5 := cell_regrown b2
    refine wp_region_quiet_below (by kernel_rfl) (by kernel_rfl) ?_
    repeat (quiet_step ((go_at_call 55; exact regrown_nb (hC.out _ _))))
    refine wpQuiet_nil ?_
    intro x4 hw'
    obtain ⟨⟨dq, osq⟩, hw''⟩ := hw'
    have hg : Nb w x4 := by rw [hw'']; exact below_regrown w dq osq
    clear hw'' d0 d1 d2 d3 d4 d5 hC
    go_wp2_with fail
    go_ret
    exact ⟨rfl, hg⟩
theorem rule1_12 (ga gb gp ab ao bb bo : Nat) (v : Value) (a b : OpD) (l : List OpD) (w : World) (h : RuleW w ga gb gp ab ao bb bo v a b l) :
    Calls Try.prog 50 #[.int .i64 12, .pointer (some ⟨gb, 0, none⟩), .pointer (some ⟨ga, 0, none⟩), .pointer (some ⟨gp, 0, none⟩)] w fun e w' => e = .returned (.bool (ruleB a b l 12)) ∧ Nb w w' := by
  obtain ⟨p, nn, cc, hv⟩ := h.hl.slice
  have qa : w.cell? ⟨ga, 0, none⟩ = some (.pointer (some ⟨ab, ao, none⟩)) := cell_of_row _ _ 0 _ _ _ h.pa
  have qb : w.cell? ⟨gb, 0, none⟩ = some (.pointer (some ⟨bb, bo, none⟩)) := cell_of_row _ _ 0 _ _ _ h.pb
  have p0 : w.cell? ⟨gp, 0, none⟩ = some (.pointer (some ⟨ab, ao, none⟩)) := cell_of_row _ _ 0 _ _ _ h.pp
  have p1 : w.cell? ⟨gp, 1, none⟩ = some (.pointer (some ⟨bb, bo, none⟩)) := cell_of_row _ _ 1 _ _ _ h.pp
  have p2 : w.cell? ⟨gp, 2, none⟩ = some v := cell_of_row _ _ 2 _ _ _ h.pp
  subst hv
  have hh := Lib.hid h
  obtain ⟨-, a0, a1, a2, -, -, -, a6, a7, -, -, -, -, -, a13, -⟩ := h.ha
  obtain ⟨-, b0, b1, b2, -, -, -, b6, b7, -, -, -, -, -, b13, b14, b15, b16, -⟩ := h.hb
  obtain ⟨R, hR⟩ : ∃ R, ruleB a b l 12 = R := ⟨_, rfl⟩
  rw [hR]
  unfold ruleB at hR
  simp only at hR
  clear h
  have hC := passedOn_any ab ao bb bo _ a b l w hh.out.ha hh.out.hb hh.out.hl hh.out.hn hh.out.hs
  unfold pairV at hC
  generalize passedB a b l = r at *
  generalize b.load = st at *
  clear a0 a1 a2 a6 a7 a13 b0 b2 b6 b7 b13 b14 b15 b16
  go_enter Try.func50, Try.ntmps50
  cases st with
  | false =>
    simp only [Bool.false_and] at hR
    subst hR
    go_wp2_with fail
    go_ret
    exact ⟨rfl, Nb.refl _⟩
  | true =>
    simp only [Bool.true_and] at hR
    subst hR
    go_wp2_with (go_at_call 56; refine hC.mono ?_; rintro e w' ⟨rfl, k⟩)
    go_ret
    exact ⟨rfl, k⟩
theorem rule1_13 (ga gb gp ab ao bb bo : Nat) (v : Value) (a b : OpD) (l : List OpD) (w : World) (h : RuleW w ga gb gp ab ao bb bo v a b l) :
    Calls Try.prog 50 #[.int .i64 13, .pointer (some ⟨gb, 0, none⟩), .pointer (some ⟨ga, 0, none⟩), .pointer (some ⟨gp, 0, none⟩)] w fun e w' => e = .returned (.bool (ruleB a b l 13)) ∧ Nb w w' := by
  obtain ⟨p, nn, cc, hv⟩ := h.hl.slice
  have qa : w.cell? ⟨ga, 0, none⟩ = some (.pointer (some ⟨ab, ao, none⟩)) := cell_of_row _ _ 0 _ _ _ h.pa
  have qb : w.cell? ⟨gb, 0, none⟩ = some (.pointer (some ⟨bb, bo, none⟩)) := cell_of_row _ _ 0 _ _ _ h.pb
  have p0 : w.cell? ⟨gp, 0, none⟩ = some (.pointer (some ⟨ab, ao, none⟩)) := cell_of_row _ _ 0 _ _ _ h.pp
  have p1 : w.cell? ⟨gp, 1, none⟩ = some (.pointer (some ⟨bb, bo, none⟩)) := cell_of_row _ _ 1 _ _ _ h.pp
  have p2 : w.cell? ⟨gp, 2, none⟩ = some v := cell_of_row _ _ 2 _ _ _ h.pp
  subst hv
  have hh := Lib.hid h
  obtain ⟨-, a0, a1, a2, -, -, -, a6, a7, -, -, -, -, -, a13, -⟩ := h.ha
  obtain ⟨-, b0, b1, b2, -, -, -, b6, b7, -, -, -, -, -, b13, b14, b15, b16, -⟩ := h.hb
  obtain ⟨R, hR⟩ : ∃ R, ruleB a b l 13 = R := ⟨_, rfl⟩
  rw [hR]
  unfold ruleB at hR
  simp only at hR
  clear h
  have hC := placed_any ab ao bb bo _ a b l w hh.out.ha hh.out.hb hh.out.hl (Nat.le_trans hh.out.hn (by decide)) (fun m hm => (hh.out.hs m hm).1)
  unfold pairV at hC
  generalize l.any (placedB a) = r at *
  generalize b.store = st at *
  clear a0 a1 a2 a6 a7 a13 b0 b1 b6 b7 b13 b14 b15 b16
  go_enter Try.func50, Try.ntmps50
  cases st with
  | false =>
    simp only [Bool.false_and] at hR
    subst hR
    go_wp2_with fail
    go_ret
    exact ⟨rfl, Nb.refl _⟩
  | true =>
    simp only [Bool.true_and] at hR
    subst hR
    go_wp2_with (go_at_call 57; refine hC.mono ?_; rintro e w' ⟨rfl, k⟩)
    go_ret
    exact ⟨rfl, k⟩
theorem rule1_3 (ga gb gp ab ao bb bo : Nat) (v : Value) (a b : OpD) (l : List OpD) (w : World) (h : RuleW w ga gb gp ab ao bb bo v a b l) :
    Calls Try.prog 50 #[.int .i64 3, .pointer (some ⟨gb, 0, none⟩), .pointer (some ⟨ga, 0, none⟩), .pointer (some ⟨gp, 0, none⟩)] w fun e w' => e = .returned (.bool (ruleB a b l 3)) ∧ Nb w w' := by
  obtain ⟨p, nn, cc, hv⟩ := h.hl.slice
  have qa : w.cell? ⟨ga, 0, none⟩ = some (.pointer (some ⟨ab, ao, none⟩)) := cell_of_row _ _ 0 _ _ _ h.pa
  have qb : w.cell? ⟨gb, 0, none⟩ = some (.pointer (some ⟨bb, bo, none⟩)) := cell_of_row _ _ 0 _ _ _ h.pb
  have p0 : w.cell? ⟨gp, 0, none⟩ = some (.pointer (some ⟨ab, ao, none⟩)) := cell_of_row _ _ 0 _ _ _ h.pp
  have p1 : w.cell? ⟨gp, 1, none⟩ = some (.pointer (some ⟨bb, bo, none⟩)) := cell_of_row _ _ 1 _ _ _ h.pp
  have p2 : w.cell? ⟨gp, 2, none⟩ = some v := cell_of_row _ _ 2 _ _ _ h.pp
  subst hv
  have hh := Lib.hid h
  obtain ⟨-, a0, a1, a2, -, -, -, a6, a7, -, -, -, -, -, a13, -⟩ := h.ha
  obtain ⟨-, b0, b1, b2, -, -, -, b6, b7, -, -, -, -, -, b13, b14, b15, b16, -⟩ := h.hb
  obtain ⟨R, hR⟩ : ∃ R, ruleB a b l 3 = R := ⟨_, rfl⟩
  rw [hR]
  unfold ruleB at hR
  simp only at hR
  clear h
  have hC := returnsFromA_any ab ao bb bo (.slice p nn cc) a b w hh.out.ha hh.out.hb rfl ⟨_, _, _, rfl⟩
  unfold pairV at hC
  generalize hasI (idsS b) a.id = r at *
  clear a0 a6 a7 b0 b2 b6 b7 b13 b14 b15 b16
  generalize a.load = x1 at *
  generalize a.store = x2 at *
  generalize b.load = x3 at *
  generalize a.pair = x4 at *
  go_enter Try.func50, Try.ntmps50
  have hC' := Lib.hid hC
  clear hC
  cases hx4 : (x4 != -1) <;> rw [hx4] at hR <;> cases x1 <;> cases x2 <;> cases x3
  all_goals simp only [Bool.or_self, Bool.or_true, Bool.or_false, Bool.true_or, Bool.false_or, Bool.and_self, Bool.and_true, Bool.and_false, Bool.true_and, Bool.false_and] at hR
  all_goals subst hR
  all_goals (go_wp2_with (go_at_call 53; refine hC'.out.mono ?_; rintro e w' ⟨rfl, k⟩))
  all_goals go_ret
  all_goals first | exact ⟨rfl, k⟩ | exact ⟨rfl, Nb.refl _⟩
theorem rule1_1 (ga gb gp ab ao bb bo : Nat) (v : Value) (a b : OpD) (l : List OpD) (w : World) (h : RuleW w ga gb gp ab ao bb bo v a b l) :
    Calls Try.prog 50 #[.int .i64 1, .pointer (some ⟨gb, 0, none⟩), .pointer (some ⟨ga, 0, none⟩), .pointer (some ⟨gp, 0, none⟩)] w fun e w' => e = .returned (.bool (ruleB a b l 1)) ∧ Nb w w' := by
  obtain ⟨p, nn, cc, hv⟩ := h.hl.slice
  have qa : w.cell? ⟨ga, 0, none⟩ = some (.pointer (some ⟨ab, ao, none⟩)) := cell_of_row _ _ 0 _ _ _ h.pa
  have qb : w.cell? ⟨gb, 0, none⟩ = some (.pointer (some ⟨bb, bo, none⟩)) := cell_of_row _ _ 0 _ _ _ h.pb
  have p0 : w.cell? ⟨gp, 0, none⟩ = some (.pointer (some ⟨ab, ao, none⟩)) := cell_of_row _ _ 0 _ _ _ h.pp
  have p1 : w.cell? ⟨gp, 1, none⟩ = some (.pointer (some ⟨bb, bo, none⟩)) := cell_of_row _ _ 1 _ _ _ h.pp
  have p2 : w.cell? ⟨gp, 2, none⟩ = some v := cell_of_row _ _ 2 _ _ _ h.pp
  subst hv
  have hh := Lib.hid h
  obtain ⟨-, a0, a1, a2, -, -, -, a6, a7, -, -, -, -, -, a13, -⟩ := h.ha
  obtain ⟨-, b0, b1, b2, -, -, -, b6, b7, -, -, -, -, -, b13, b14, b15, b16, -⟩ := h.hb
  obtain ⟨R, hR⟩ : ∃ R, ruleB a b l 1 = R := ⟨_, rfl⟩
  rw [hR]
  unfold ruleB at hR
  simp only at hR
  clear h
  have hA : ∀ A : Addr, A = ⟨ab, ao, none⟩ → ∀ (d : Nat) (os : Array Obj), Calls Try.prog 40 #[.pointer (some A)] (grow (redrawn w d) os) fun e w' => e = .returned (.agg #[.int .u64 (spanS a).1, .int .u64 (spanS a).2]) ∧ Nb (grow (redrawn w d) os) w' := by
    intro A e d os
    subst e
    exact bytesOf_any ab ao a _ (hh.out.ha.nb (below_regrown w d os))
  have hB : ∀ A : Addr, A = ⟨bb, bo, none⟩ → ∀ (d : Nat) (os : Array Obj), Calls Try.prog 40 #[.pointer (some A)] (grow (redrawn w d) os) fun e w' => e = .returned (.agg #[.int .u64 (spanS b).1, .int .u64 (spanS b).2]) ∧ Nb (grow (redrawn w d) os) w' := by
    intro A e d os
    subst e
    exact bytesOf_any bb bo b _ (hh.out.hb.nb (below_regrown w d os))
  have hCo := fun (d : Nat) (os : Array Obj) => common_any (spanS a).1 (spanS a).2 (spanS b).1 (spanS b).2 (grow (redrawn w d) os)
  have hEm := fun (d : Nat) (os : Array Obj) => empty_any (comS (spanS a) (spanS b)).1 (comS (spanS a) (spanS b)).2 (grow (redrawn w d) os)
  rw [show ((comS (spanS a) (spanS b)).1, (comS (spanS a) (spanS b)).2) = comS (spanS a) (spanS b) from rfl] at hEm
  rw [show (comS ((spanS a).1, (spanS a).2) ((spanS b).1, (spanS b).2)) = comS (spanS a) (spanS b) from rfl] at hCo
  generalize emptyS (comS (spanS a) (spanS b)) = r at *
  generalize (comS (spanS a) (spanS b)).1 = c1 at *
  generalize (comS (spanS a) (spanS b)).2 = c2 at *
  generalize (spanS a).1 = u1 at *
  generalize (spanS a).2 = u2 at *
  generalize (spanS b).1 = x1 at *
  generalize (spanS b).2 = x2 at *
  have hA' := Lib.hid hA
  have hB' := Lib.hid hB
  have hCo' := Lib.hid hCo
  have hEm' := Lib.hid hEm
  clear hA hB hCo hEm a0 a1 a2 a6 a7 a13 b0 b1 b6 b7 b13 b14 b15 b16
  generalize b.store = st at *
  go_enter Try.func50, Try.ntmps50
  cases st with
  | false =>
    simp only [Bool.false_and] at hR
    subst hR
    go_upto_region 3 with (fail)
    go_quiet (fail)
    go_wp2_with fail
    go_ret
    exact ⟨rfl, (Nb.refl _).drewN nq⟩
  | true =>
    simp only [Bool.true_and] at hR
    subst hR
    go_upto_region 3 with (fail)
    have d3 := cell_regrown qb
    have d4 := cell_regrown qa
    have d5 := cell_regrown b2
    refine wp_region_quiet_below (by kernel_rfl) (by kernel_rfl) ?_
    repeat (quiet_step ((first
      | (go_at_call 40; first | (refine regrown_nb (hA'.out _ ?_ _ _); exact rfl) | (refine regrown_nb (hB'.out _ ?_ _ _); exact rfl))
      | (go_at_call 51; exact regrown_nb (hCo'.out _ _))
      | (go_at_call 41; exact regrown_nb (hEm'.out _ _)))))
    refine wpQuiet_nil ?_
    intro x4 hw'
    obtain ⟨⟨dq, osq⟩, hw''⟩ := hw'
    have hg : Nb w x4 := by rw [hw'']; exact below_regrown w dq osq
    clear hw'' d3 d4 d5
    go_wp2_with fail
    go_ret
    exact ⟨rfl, hg⟩
end Go.Proofs.Yticifolljhplmaa
