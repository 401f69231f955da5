/-
  Proved here: of the reference: how many parts a tree's expressions have. Conditions: the memory holds them.
-/
import Derived.Test.YtojogolmcclpoaaDoorSaa
import Derived.Laws.AppendOwn
import Derived.Deep.AppendLies
namespace Go.Proofs.YtojogolmcclpoaaDoor
open Go.RowKit
set_option linter.unusedVariables false
set_option linter.unusedSimpArgs false
set_option maxRecDepth 100000
set_option maxHeartbeats 2000000
def Gb (cb : Nat) (w w' : World) : Prop := w.grownBy w' (some cb)
theorem Gb.refl (cb : Nat) (w : World) : Gb cb w w := ⟨rfl, rfl, rfl, Nat.le_refl _, fun _ _ _ => rfl⟩
theorem Gb.trans {cb : Nat} {a b c : World} (h : Gb cb a b) (k : Gb cb b c) : Gb cb a c :=
  ⟨k.os.trans h.os, k.tape.trans h.tape, k.output.trans h.output, Nat.le_trans h.size k.size, fun i hi hne => (k.block i (Nat.lt_of_lt_of_le hi h.size) hne).trans (h.block i hi hne)⟩
theorem Gb.alloc {cb : Nat} {a b : World} (h : Gb cb a b) (o : Obj) : Gb cb a (b.alloc o) :=
  h.trans ⟨rfl, rfl, rfl, by simp, fun i hi _ => Below.heap_alloc b o i hi⟩
theorem Gb.set {cb : Nat} {a b : World} (h : Gb cb a b) (j : Nat) (v : Value) : Gb cb a (b.setCell ⟨cb, j, none⟩ v) :=
  h.trans ⟨rfl, rfl, rfl, by simp, fun i hi hne => Below.heap_setCell b _ _ i (fun e => hne (by rw [e]))⟩
theorem Gb.nb {cb : Nat} {W0 w w' : World} (h : Gb cb w w') (hn : Nb W0 w) (hcb : W0.heap.size ≤ cb) : Nb W0 w' :=
  Below.grown (row := some cb) hn h hn.size (fun k e => by cases e; exact hcb)
theorem Gb.block {cb : Nat} {w w' : World} (h : Gb cb w w') {i : Nat} {o : Obj} (hi : w.heap[i]? = some o) (hne : i ≠ cb) : w'.heap[i]? = some o :=
  (World.grownBy.block h i (lt_blk hi) (fun e => hne (Option.some.inj e))).trans hi
def CntAt (w : World) (cb n : Nat) : Prop := w.heap[cb]? = some (.cells #[.int .i64 (n : Int)] 59 (0, 0))
def CPost (cb : Nat) (w : World) (m k : Nat) (r : Ending) (w' : World) : Prop := ∃ d : Nat, d ≤ k ∧ r = .returned (.int .i64 (d : Int)) ∧ Gb cb w w' ∧ CntAt w' cb m
theorem cadd_any (cb n : Nat) (w : World) (hn : n ≤ 4097) (hc : CntAt w cb n) :
    Calls Tryd.prog 57 #[.pointer (some ⟨cb, 0, none⟩)] w fun r w' => r = .returned (.bool (decide (n < 4096))) ∧ Gb cb w w' ∧ CntAt w' cb (min (n + 1) 4097) := by
  have c0 : w.cell? ⟨cb, 0, none⟩ = some (.int .i64 (n : Int)) := cell_of_row _ _ 0 _ _ _ hc
  have f0 := frozen_blk hc 0
  by_cases h1 : (n : Int) ≤ 4096
  · have hset := set_blk hc 0 (.int .i64 ((n : Int) + 1))
    go_enter Tryd.func57, Tryd.ntmps57
    go_wp2_with fail
    go_ret
    refine ⟨?_, (Gb.refl cb w).set 0 _, ?_⟩
    · show Ending.returned (.bool (decide ((n : Int) + 1 ≤ 4096))) = _
      rw [show decide ((n : Int) + 1 ≤ 4096) = decide (n < 4096) by rw [decide_eq_decide]; omega]
    · unfold CntAt
      rw [hset, show min (n + 1) 4097 = n + 1 by omega]
      rfl
  · obtain rfl : n = 4097 := by omega
    go_enter Tryd.func57, Tryd.ntmps57
    go_wp2_with fail
    go_ret
    exact ⟨rfl, Gb.refl _ _, hc⟩
theorem drop_some {α : Type} {l : List α} {i : Nat} {x : α} (h : l[i]? = some x) : l.drop i = x :: l.drop (i + 1) := by
  have hi := (List.getElem?_eq_some_iff.1 h).1
  rw [List.drop_eq_getElem_cons hi]
  rw [List.getElem?_eq_getElem hi] at h
  rw [Option.some.inj h]
theorem cexpr_any (W0 : World) (cb : Nat) (hcb : W0.heap.size ≤ cb) : ∀ k : Nat, k ≤ 65 → ∀ (e : Ex), e.Has W0 → ∀ (n : Nat) (w : World), n ≤ 4097 → Nb W0 w → CntAt w cb n →
    Calls Tryd.prog 71 #[.pointer (some ⟨cb, 0, none⟩), .agg e.cells.toArray, .int .i64 (k : Int)] w (CPost cb w (min (n + szE k e) 4097) k) := by
  intro k
  induction k with
  | zero =>
    intro _ e he n w hn hw hc
    go_enter Tryd.func71, Tryd.ntmps71
    go_upto_region 1 with (fail)
    obtain ⟨W1, hW⟩ : ∃ W1, w.alloc (Obj.cells e.cells.toArray 36) = W1 := ⟨_, rfl⟩
    have g1 : Gb cb w W1 := by rw [← hW]; exact (Gb.refl cb w).alloc _
    have c1 : CntAt W1 cb n := by rw [← hW]; exact old_blk hc _
    rw [hW]
    clear hW
    go_wp2_with fail
    go_ret
    exact ⟨0, Nat.le_refl _, rfl, g1, by rw [show min (n + szE 0 e) 4097 = n by show min (n + 0) 4097 = n; omega]; exact c1⟩
  | succ k ih =>
    intro hk e he n w hn hw hc
    rw [show ((k + 1 : Nat) : Int) = (k : Int) + 1 by omega]
    have hsz : szE (k + 1) e = 1 + sumL (e.args.map (szE k)) := rfl
    obtain ⟨T, hT⟩ : ∃ T, min (n + szE (k + 1) e) 4097 = T := ⟨_, rfl⟩
    rw [hT]
    rw [hsz] at hT
    clear hsz
    have hk0 : ¬ (k : Int) + 1 = 0 := by omega
    have hlt := lt_blk hc
    go_enter Tryd.func71, Tryd.ntmps71
    go_upto_region 1 with (fail)
    obtain ⟨W1, hW⟩ : ∃ W1, w.alloc (Obj.cells e.cells.toArray 36) = W1 := ⟨_, rfl⟩
    have g1 : Gb cb w W1 := by rw [← hW]; exact (Gb.refl cb w).alloc _
    have c1 : CntAt W1 cb n := by rw [← hW]; exact old_blk hc _
    have b1 : W1.heap[w.heap.size]? = some (.cells e.cells.toArray 36 (0, 0)) := by rw [← hW]; exact new_blk w _ rfl
    rw [hW]
    clear hW
    have hadd := Lib.hid (cadd_any cb n W1 hn c1)
    have hT := Lib.hid hT
    by_cases h4 : n < 4096
    · rw [decide_eq_true h4] at hadd
      go_upto_region 3 with (go_at_call 57; refine (hadd.out).mono ?_; rintro r w2 ⟨rfl, g2, c2⟩)
      obtain ⟨A, cap, hav, hcap, hlen, hz⟩ := he.exs.head
      have hX := Lib.hid (show ExsHas W0 (.slice A e.args.length cap) e.args by rw [← hav]; exact he.exs)
      have hbc : w.heap.size ≠ cb := by omega
      have b2 := g2.block b1 hbc
      have hT0 := Lib.hid (show min (min (n + 1) 4097 + sumL ((e.args.map (szE k)).drop 0)) 4097 = T by rw [List.drop_zero, ← hT.out]; omega)
      have g2w := g1.trans g2
      have hav := Lib.hid hav
      clear hadd hT b1 c1 g1 g2 hk0
      obtain ⟨N, hN⟩ : ∃ N, e.args.length = N := ⟨_, rfl⟩
      have hNh := Lib.hid hN
      rw [hN] at hcap hlen hX hav
      clear hN
      go_wp2_with fail
      go_loopw [7, 8] (fun sd si wr => ∃ i d m : Nat, i ≤ N ∧ d ≤ k ∧ sd = .int .i64 d ∧ si = .int .i64 i ∧ m ≤ 4097 ∧ Hid (min (m + sumL ((e.args.map (szE k)).drop i)) 4097 = T) ∧ CntAt wr cb m ∧ Gb cb w2 wr) (fun _ si _ => N - (intOf si).toNat)
      case atStart => exact ⟨0, 0, min (n + 1) 4097, Nat.zero_le _, Nat.zero_le _, rfl, rfl, by omega, hT0, c2, Gb.refl _ _⟩
      case round =>
        obtain ⟨i, d, m, hi, hd, rfl, rfl, hm, hR, hc3, hg3⟩ := hrel
        have b3 := hg3.block b2 hbc
        have q4 : wr.cell? ⟨w.heap.size, 4, none⟩ = some (.slice A N cap) := (cell_of_row _ _ 4 _ _ _ b3).trans (congrArg some hav.out)
        by_cases hlt2 : i < N
        · have hlt3 : (i : Int) < (N : Int) := by omega
          obtain ⟨x, hx⟩ : ∃ x, e.args[i]? = some x := ⟨_, List.getElem?_eq_getElem (by rw [hNh.out]; exact hlt2)⟩
          obtain ⟨b, o, rfl, ⟨x0, x1, x2, x3, x4⟩, hxh⟩ := hX.out.at_ hx
          have hnb : Nb W0 wr := (g2w.trans hg3).nb hw hcb
          replace x0 := hnb.cell x0
          replace x1 := hnb.cell x1
          replace x2 := hnb.cell x2
          replace x3 := hnb.cell x3
          replace x4 := hnb.cell x4
          have hih := Lib.hid (ih (by omega) x hxh m wr hm hnb hc3)
          have hR2 : min (min (m + szE k x) 4097 + sumL ((e.args.map (szE k)).drop (i + 1))) 4097 = T := by
            rw [← hR.out, drop_some (show (e.args.map (szE k))[i]? = some (szE k x) by rw [List.getElem?_map, hx]; rfl)]
            show _ = min (m + (szE k x + _)) 4097
            omega
          have hR2 := Lib.hid hR2
          clear hx hxh hR b3
          go_wp2_with (go_at_call 71; refine (hih.out).mono ?_; rintro r w4 ⟨d2, hd2, rfl, g4, c4⟩)
          all_goals first
            | exact ⟨⟨i + 1, by omega, d, hd, rfl, by simp, _, by omega, hR2, c4, hg3.trans g4⟩, by simp [intOf] <;> omega⟩
            | exact ⟨⟨i + 1, by omega, d2, hd2, rfl, by simp, _, by omega, hR2, c4, hg3.trans g4⟩, by simp [intOf] <;> omega⟩
        · obtain rfl : i = N := by omega
          have hm2 : m = T := by
            have := hR.out
            rw [List.drop_eq_nil_of_le (by rw [List.length_map, hNh.out]; exact Nat.le_refl _)] at this
            show m = T
            rw [← this]
            show m = min (m + 0) 4097
            omega
          subst hm2
          clear hR
          go_wp2_with fail
          go_ret
          exact ⟨d + 1, by omega, by first | rfl | (congr 2) , g2w.trans hg3, hc3⟩
    · rw [decide_eq_false h4] at hadd
      go_wp2_with (go_at_call 57; refine (hadd.out).mono ?_; rintro r w2 ⟨rfl, g2, c2⟩)
      go_ret
      exact ⟨0, Nat.zero_le _, rfl, g1.trans g2, by rw [← hT.out, show min (n + (1 + sumL (e.args.map (szE k)))) 4097 = min (n + 1) 4097 by omega]; exact c2⟩
theorem cpattern_any (W0 : World) (cb : Nat) (hcb : W0.heap.size ≤ cb) : ∀ k : Nat, k ≤ 65 → ∀ (e : Ex), e.Has W0 → ∀ (n : Nat) (w : World), n ≤ 4097 → Nb W0 w → CntAt w cb n →
    Calls Tryd.prog 70 #[.pointer (some ⟨cb, 0, none⟩), .agg e.cells.toArray, .int .i64 (k : Int)] w (CPost cb w (min (n + szE k e) 4097) k) := by
  intro k
  induction k with
  | zero =>
    intro _ e he n w hn hw hc
    go_enter Tryd.func70, Tryd.ntmps70
    go_upto_region 1 with (fail)
    obtain ⟨W1, hW⟩ : ∃ W1, w.alloc (Obj.cells e.cells.toArray 71) = W1 := ⟨_, rfl⟩
    have g1 : Gb cb w W1 := by rw [← hW]; exact (Gb.refl cb w).alloc _
    have c1 : CntAt W1 cb n := by rw [← hW]; exact old_blk hc _
    rw [hW]
    clear hW
    go_wp2_with fail
    go_ret
    exact ⟨0, Nat.le_refl _, rfl, g1, by rw [show min (n + szE 0 e) 4097 = n by show min (n + 0) 4097 = n; omega]; exact c1⟩
  | succ k ih =>
    intro hk e he n w hn hw hc
    rw [show ((k + 1 : Nat) : Int) = (k : Int) + 1 by omega]
    have hsz : szE (k + 1) e = 1 + sumL (e.args.map (szE k)) := rfl
    obtain ⟨T, hT⟩ : ∃ T, min (n + szE (k + 1) e) 4097 = T := ⟨_, rfl⟩
    rw [hT]
    rw [hsz] at hT
    clear hsz
    have hk0 : ¬ (k : Int) + 1 = 0 := by omega
    have hlt := lt_blk hc
    go_enter Tryd.func70, Tryd.ntmps70
    go_upto_region 1 with (fail)
    obtain ⟨W1, hW⟩ : ∃ W1, w.alloc (Obj.cells e.cells.toArray 71) = W1 := ⟨_, rfl⟩
    have g1 : Gb cb w W1 := by rw [← hW]; exact (Gb.refl cb w).alloc _
    have c1 : CntAt W1 cb n := by rw [← hW]; exact old_blk hc _
    have b1 : W1.heap[w.heap.size]? = some (.cells e.cells.toArray 71 (0, 0)) := by rw [← hW]; exact new_blk w _ rfl
    rw [hW]
    clear hW
    have hadd := Lib.hid (cadd_any cb n W1 hn c1)
    have hT := Lib.hid hT
    by_cases h4 : n < 4096
    · rw [decide_eq_true h4] at hadd
      go_upto_region 3 with (go_at_call 57; refine (hadd.out).mono ?_; rintro r w2 ⟨rfl, g2, c2⟩)
      obtain ⟨A, cap, hav, hcap, hlen, hz⟩ := he.exs.head
      have hX := Lib.hid (show ExsHas W0 (.slice A e.args.length cap) e.args by rw [← hav]; exact he.exs)
      have hbc : w.heap.size ≠ cb := by omega
      have b2 := g2.block b1 hbc
      have hT0 := Lib.hid (show min (min (n + 1) 4097 + sumL ((e.args.map (szE k)).drop 0)) 4097 = T by rw [List.drop_zero, ← hT.out]; omega)
      have g2w := g1.trans g2
      have hav := Lib.hid hav
      clear hadd hT b1 c1 g1 g2 hk0
      obtain ⟨N, hN⟩ : ∃ N, e.args.length = N := ⟨_, rfl⟩
      have hNh := Lib.hid hN
      rw [hN] at hcap hlen hX hav
      clear hN
      go_wp2_with fail
      go_loopw [7, 8] (fun sd si wr => ∃ i d m : Nat, i ≤ N ∧ d ≤ k ∧ sd = .int .i64 d ∧ si = .int .i64 i ∧ m ≤ 4097 ∧ Hid (min (m + sumL ((e.args.map (szE k)).drop i)) 4097 = T) ∧ CntAt wr cb m ∧ Gb cb w2 wr) (fun _ si _ => N - (intOf si).toNat)
      case atStart => exact ⟨0, 0, min (n + 1) 4097, Nat.zero_le _, Nat.zero_le _, rfl, rfl, by omega, hT0, c2, Gb.refl _ _⟩
      case round =>
        obtain ⟨i, d, m, hi, hd, rfl, rfl, hm, hR, hc3, hg3⟩ := hrel
        have b3 := hg3.block b2 hbc
        have q4 : wr.cell? ⟨w.heap.size, 4, none⟩ = some (.slice A N cap) := (cell_of_row _ _ 4 _ _ _ b3).trans (congrArg some hav.out)
        by_cases hlt2 : i < N
        · have hlt3 : (i : Int) < (N : Int) := by omega
          obtain ⟨x, hx⟩ : ∃ x, e.args[i]? = some x := ⟨_, List.getElem?_eq_getElem (by rw [hNh.out]; exact hlt2)⟩
          obtain ⟨b, o, rfl, ⟨x0, x1, x2, x3, x4⟩, hxh⟩ := hX.out.at_ hx
          have hnb : Nb W0 wr := (g2w.trans hg3).nb hw hcb
          replace x0 := hnb.cell x0
          replace x1 := hnb.cell x1
          replace x2 := hnb.cell x2
          replace x3 := hnb.cell x3
          replace x4 := hnb.cell x4
          have hih := Lib.hid (ih (by omega) x hxh m wr hm hnb hc3)
          have hR2 : min (min (m + szE k x) 4097 + sumL ((e.args.map (szE k)).drop (i + 1))) 4097 = T := by
            rw [← hR.out, drop_some (show (e.args.map (szE k))[i]? = some (szE k x) by rw [List.getElem?_map, hx]; rfl)]
            show _ = min (m + (szE k x + _)) 4097
            omega
          have hR2 := Lib.hid hR2
          clear hx hxh hR b3
          go_wp2_with (go_at_call 70; refine (hih.out).mono ?_; rintro r w4 ⟨d2, hd2, rfl, g4, c4⟩)
          all_goals first
            | exact ⟨⟨i + 1, by omega, d, hd, rfl, by simp, _, by omega, hR2, c4, hg3.trans g4⟩, by simp [intOf] <;> omega⟩
            | exact ⟨⟨i + 1, by omega, d2, hd2, rfl, by simp, _, by omega, hR2, c4, hg3.trans g4⟩, by simp [intOf] <;> omega⟩
        · obtain rfl : i = N := by omega
          have hm2 : m = T := by
            have := hR.out
            rw [List.drop_eq_nil_of_le (by rw [List.length_map, hNh.out]; exact Nat.le_refl _)] at this
            show m = T
            rw [← this]
            show m = min (m + 0) 4097
            omega
          subst hm2
          clear hR
          go_wp2_with fail
          go_ret
          exact ⟨d + 1, by omega, by first | rfl | (congr 2) , g2w.trans hg3, hc3⟩
    · rw [decide_eq_false h4] at hadd
      go_wp2_with (go_at_call 57; refine (hadd.out).mono ?_; rintro r w2 ⟨rfl, g2, c2⟩)
      go_ret
      exact ⟨0, Nat.zero_le _, rfl, g1.trans g2, by rw [← hT.out, show min (n + (1 + sumL (e.args.map (szE k)))) 4097 = min (n + 1) 4097 by omega]; exact c2⟩
theorem cexprs_any (W0 : World) (cb : Nat) (hcb : W0.heap.size ≤ cb) (k : Nat) (hk : k ≤ 65) (v : Value) (l : List Ex) (hl : ExsHas W0 v l) (n : Nat) (w : World) (hn : n ≤ 4097) (hw : Nb W0 w) (hc : CntAt w cb n) :
    Calls Tryd.prog 59 #[.pointer (some ⟨cb, 0, none⟩), v, .int .i64 (k : Int)] w (CPost cb w (min (n + szEs k l) 4097) k) := by
  obtain ⟨T, hT⟩ : ∃ T, min (n + szEs k l) 4097 = T := ⟨_, rfl⟩
  rw [hT]
  have hT0 := Lib.hid (show min (n + sumL ((l.map (szE k)).drop 0)) 4097 = T from hT)
  clear hT
  obtain ⟨A, cap, rfl, hcap, hlen, hz⟩ := hl.head
  have hX := Lib.hid hl
  have hlt := lt_blk hc
  obtain ⟨N, hN⟩ : ∃ N, l.length = N := ⟨_, rfl⟩
  have hNh := Lib.hid hN
  rw [hN] at hcap hlen hX ⊢
  clear hN hl
  go_enter Tryd.func59, Tryd.ntmps59
  go_wp2_with fail
  go_loopw [7, 8] (fun sd si wr => ∃ i d m : Nat, i ≤ N ∧ d ≤ k ∧ sd = .int .i64 d ∧ si = .int .i64 i ∧ m ≤ 4097 ∧ Hid (min (m + sumL ((l.map (szE k)).drop i)) 4097 = T) ∧ CntAt wr cb m ∧ Gb cb w wr) (fun _ si _ => N - (intOf si).toNat)
  case atStart => exact ⟨0, 0, n, Nat.zero_le _, Nat.zero_le _, rfl, rfl, by omega, hT0, hc, Gb.refl _ _⟩
  case round =>
    obtain ⟨i, d, m, hi, hd, rfl, rfl, hm, hR, hc3, hg3⟩ := hrel
    by_cases hlt2 : i < N
    · have hlt3 : (i : Int) < (N : Int) := by omega
      obtain ⟨x, hx⟩ : ∃ x, l[i]? = some x := ⟨_, List.getElem?_eq_getElem (by rw [hNh.out]; exact hlt2)⟩
      obtain ⟨b, o, rfl, ⟨x0, x1, x2, x3, x4⟩, hxh⟩ := hX.out.at_ hx
      have hnb : Nb W0 wr := hg3.nb hw hcb
      replace x0 := hnb.cell x0
      replace x1 := hnb.cell x1
      replace x2 := hnb.cell x2
      replace x3 := hnb.cell x3
      replace x4 := hnb.cell x4
      have hih := Lib.hid (cexpr_any W0 cb hcb k hk x hxh m wr hm hnb hc3)
      have hR2 : min (min (m + szE k x) 4097 + sumL ((l.map (szE k)).drop (i + 1))) 4097 = T := by
        rw [← hR.out, drop_some (show (l.map (szE k))[i]? = some (szE k x) by rw [List.getElem?_map, hx]; rfl)]
        show _ = min (m + (szE k x + _)) 4097
        omega
      have hR2 := Lib.hid hR2
      clear hx hxh hR
      go_wp2_with (go_at_call 71; refine (hih.out).mono ?_; rintro r w4 ⟨d2, hd2, rfl, g4, c4⟩)
      exact ⟨⟨i + 1, max d d2, min (m + szE k x) 4097, by omega, by omega, by first | rfl | (congr 1; omega), by simp, by omega, hR2, c4, hg3.trans g4⟩, by simp [intOf] <;> omega⟩
    · obtain rfl : i = N := by omega
      have hm2 : m = T := by
        have := hR.out
        rw [List.drop_eq_nil_of_le (by rw [List.length_map, hNh.out]; exact Nat.le_refl _)] at this
        show m = T
        rw [← this]
        show m = min (m + 0) 4097
        omega
      subst hm2
      clear hR
      go_wp2_with fail
      go_ret
      exact ⟨d, by omega, rfl, hg3, hc3⟩
end Go.Proofs.YtojogolmcclpoaaDoor
