/-
  Proved here: of the reference: how many parts a tree's bodies have, and the tree. Conditions: the memory holds them.
-/
import Derived.Test.YtojogolmcclpoaaDoorSai
namespace Go.Proofs.YtojogolmcclpoaaDoor
open Go.RowKit
set_option linter.unusedVariables false
set_option linter.unusedSimpArgs false
set_option maxRecDepth 100000
set_option maxHeartbeats 4000000
theorem Bd.Has.srow {w : World} {b : Bd} (h : b.Has w) : RowS w 5 b.sv (b.stmts.map St.cells) ∧ ∀ s ∈ b.stmts, s.Has w := by cases h with | mk s1 s2 => exact ⟨s1, s2⟩
theorem Bd.Has.exs {w : World} {b : Bd} (h : b.Has w) : ExsHas w b.av b.args := by cases h with | mk _ _ a => exact a
theorem Bd.Has.prow {w : World} {b : Bd} (h : b.Has w) : RowS w 9 b.pv (b.parts.map Bd.cells) ∧ ∀ x ∈ b.parts, x.Has w := by cases h with | mk _ _ _ p1 p2 => exact ⟨p1, p2⟩
theorem Bd.Has.mrow {w : World} {b : Bd} (h : b.Has w) : RowS w 15 b.mv (b.arms.map Am.cells) ∧ ∀ m ∈ b.arms, m.pat.Has w ∧ ExsHas w m.gv m.guard ∧ m.body.Has w := by cases h with | mk _ _ _ _ _ m1 m2 m3 m4 => exact ⟨m1, fun m hm => ⟨m2 m hm, m3 m hm, m4 m hm⟩⟩
theorem sum_drop {l : List Nat} {i x : Nat} (h : l[i]? = some x) : sumL (l.drop i) = x + sumL (l.drop (i + 1)) := by rw [drop_some h]; rfl
theorem if_max (a b : Nat) : (if a < b then (b : Int) else (a : Int)) = ((max a b : Nat) : Int) := by split <;> omega
theorem cbody_any (W0 : World) (cb : Nat) (hcb : W0.heap.size ≤ cb) : ∀ k : Nat, k ≤ 65 → ∀ (e : Bd), e.Has W0 → ∀ (n : Nat) (w : World), n ≤ 4097 → Nb W0 w → CntAt w cb n →
    Calls Tryd.prog 58 #[.pointer (some ⟨cb, 0, none⟩), .agg e.cells.toArray, .int .i64 (k : Int)] w (CPost cb w (min (n + szB k e) 4097) k) := by
  intro k
  induction k with
  | zero =>
    intro _ e he n w hn hw hc
    go_enter Tryd.func58, Tryd.ntmps58
    go_upto_region 1 with (fail)
    obtain ⟨W1, hW⟩ : ∃ W1, w.alloc (Obj.cells e.cells.toArray 44) = W1 := ⟨_, rfl⟩
    have g1 : Gb cb w W1 := by rw [← hW]; exact (Gb.refl cb w).alloc _
    have c1 : CntAt W1 cb n := by rw [← hW]; exact old_blk hc _
    rw [hW]
    clear hW
    go_wp2_with fail
    go_ret
    exact ⟨0, Nat.le_refl _, rfl, g1, by rw [show min (n + szB 0 e) 4097 = n by show min (n + 0) 4097 = n; omega]; exact c1⟩
  | succ k ih =>
    intro hk e he n w hn hw hc
    rw [show ((k + 1 : Nat) : Int) = (k : Int) + 1 by omega]
    obtain ⟨S0, hS0⟩ : ∃ S, szEs k e.args = S := ⟨_, rfl⟩
    obtain ⟨L1, hL1⟩ : ∃ L, e.stmts.map (szS k) = L := ⟨_, rfl⟩
    obtain ⟨L2, hL2⟩ : ∃ L, e.parts.map (szB k) = L := ⟨_, rfl⟩
    obtain ⟨L3, hL3⟩ : ∃ L, (e.arms.map fun m => szE k m.pat + szEs k m.guard + szB k m.body) = L := ⟨_, rfl⟩
    have hsz : szB (k + 1) e = 1 + S0 + sumL L1 + sumL L2 + sumL L3 := by rw [← hS0, ← hL1, ← hL2, ← hL3]; rfl
    obtain ⟨T, hT⟩ : ∃ T, min (n + szB (k + 1) e) 4097 = T := ⟨_, rfl⟩
    rw [hT]
    rw [hsz] at hT
    clear hsz
    have hL1 := Lib.hid hL1
    have hL2 := Lib.hid hL2
    have hL3 := Lib.hid hL3
    have hk0 : ¬ (k : Int) + 1 = 0 := by omega
    have hlt := lt_blk hc
    go_enter Tryd.func58, Tryd.ntmps58
    go_upto_region 1 with (fail)
    obtain ⟨W1, hW⟩ : ∃ W1, w.alloc (Obj.cells e.cells.toArray 44) = W1 := ⟨_, rfl⟩
    have g1 : Gb cb w W1 := by rw [← hW]; exact (Gb.refl cb w).alloc _
    have c1 : CntAt W1 cb n := by rw [← hW]; exact old_blk hc _
    have b1 : W1.heap[w.heap.size]? = some (.cells e.cells.toArray 44 (0, 0)) := by rw [← hW]; exact new_blk w _ rfl
    rw [hW]
    clear hW
    have hadd := Lib.hid (cadd_any cb n W1 hn c1)
    have hT := Lib.hid hT
    by_cases h4 : n < 4096
    · rw [decide_eq_true h4] at hadd
      go_upto_region 3 with (go_at_call 57; refine (hadd.out).mono ?_; rintro r w2 ⟨rfl, g2, c2⟩)
      have hbc : w.heap.size ≠ cb := by omega
      have b2 := g2.block b1 hbc
      have g2w := g1.trans g2
      have hargs := Lib.hid (cexprs_any W0 cb hcb k (by omega) e.av e.args he.exs (min (n + 1) 4097) w2 (by omega) (g2w.nb hw hcb) c2)
      rw [hS0] at hargs
      have q4 : w2.cell? ⟨w.heap.size, 4, none⟩ = some e.av := cell_of_row _ _ 4 _ _ _ b2
      have ifm := if_max
      clear hadd b1 c1 g1 g2 hk0 hS0
      go_upto_region 4 with (go_at_call 59; refine (hargs.out).mono ?_; rintro r w3 ⟨d0, hd0, rfl, g3, c3⟩)
      have b3 := g3.block b2 hbc
      have g3w := g2w.trans g3
      have hT1 := Lib.hid (show min (min (min (n + 1) 4097 + S0) 4097 + sumL (L1.drop 0) + (sumL L2 + sumL L3)) 4097 = T by rw [List.drop_zero, ← hT.out]; omega)
      clear hT hargs b2 q4 g3 c2
      obtain ⟨A1, cap1, hav1, hcap1, hlen1, hz1⟩ := he.srow.1.head
      have hX1 := Lib.hid (show RowS W0 5 (.slice A1 (e.stmts.map St.cells).length cap1) (e.stmts.map St.cells) by rw [← hav1]; exact he.srow.1)
      have hK1 := Lib.hid he.srow.2
      rw [List.length_map] at hav1 hcap1 hlen1 hX1
      obtain ⟨M1, hM1⟩ : ∃ N, e.stmts.length = N := ⟨_, rfl⟩
      have hMh1 := Lib.hid hM1
      rw [hM1] at hav1 hcap1 hlen1 hX1
      have hav1 := Lib.hid hav1
      clear hM1
      go_wp2_with fail
      go_loopw [7, 8] (fun sd si wr => ∃ i d m : Nat, i ≤ M1 ∧ d ≤ k ∧ sd = .int .i64 d ∧ si = .int .i64 i ∧ m ≤ 4097 ∧ Hid (min (m + sumL (L1.drop i) + (sumL L2 + sumL L3)) 4097 = T) ∧ CntAt wr cb m ∧ Gb cb w3 wr) (fun _ si _ => M1 - (intOf si).toNat)
      case atStart => exact ⟨0, d0, _, Nat.zero_le _, hd0, rfl, rfl, by omega, hT1, c3, Gb.refl _ _⟩
      case round =>
        obtain ⟨i, d, m, hi, hd, rfl, rfl, hm, hR, hc3, hg3⟩ := hrel
        have b4 := hg3.block b3 hbc
        have q4 : wr.cell? ⟨w.heap.size, 0, none⟩ = some (.slice A1 M1 cap1) := (cell_of_row _ _ 0 _ _ _ b4).trans (congrArg some hav1.out)
        by_cases hlt2 : i < M1
        · have hlt3 : (i : Int) < (M1 : Int) := by omega
          obtain ⟨x, hx⟩ : ∃ x, e.stmts[i]? = some x := ⟨_, List.getElem?_eq_getElem (by rw [hMh1.out]; exact hlt2)⟩
          obtain ⟨b, o, rfl, hxc⟩ := hX1.out.at_ (i := i) (r := x.cells) (by rw [List.getElem?_map, hx]; rfl)
          have hnb : Nb W0 wr := (g3w.trans hg3).nb hw hcb
          have hxs : sumL (L1.drop i) = szS k x + sumL (L1.drop (i + 1)) := sum_drop (by rw [← hL1.out, List.getElem?_map, hx]; rfl)
          have hxh := (hK1.out x (List.mem_of_getElem? hx)).args
          have hadd := Lib.hid (cadd_any cb m wr hm hc3)
          have hih := Lib.hid (fun w5 (hn5 : Nb W0 w5) (c5 : CntAt w5 cb (min (m + 1) 4097)) => cexprs_any W0 cb hcb k (by omega) x.av x.args hxh (min (m + 1) 4097) w5 (by omega) hn5 c5)
          have hR2 : min (min (min (m + 1) 4097 + szEs k x.args) 4097 + sumL (L1.drop (i + 1)) + (sumL L2 + sumL L3)) 4097 = T := by
            rw [← hR.out, hxs]
            show _ = min (m + (1 + szEs k x.args + _) + _) 4097
            omega
          have hR2 := Lib.hid hR2
          have x4 := hxc 4 _ rfl
          clear hx hxc hxh hR hxs
          go_upto_region 8 with (go_at_call 57; refine (hadd.out).mono ?_; rintro r w5 ⟨rfl, g5, c5⟩)
          have b5 := g5.block b4 hbc
          have q5 : w5.cell? ⟨w.heap.size, 0, none⟩ = some (.slice (some ⟨b, o, none⟩) M1 cap1) := (cell_of_row _ _ 0 _ _ _ b5).trans (congrArg some hav1.out)
          have hnb5 := g5.nb hnb hcb
          replace x4 := hnb5.cell x4
          clear q4 hadd
          go_wp2_with (go_at_call 59; refine (hih.out _ hnb5 c5).mono ?_; rintro r w6 ⟨d2, hd2, rfl, g6, c6⟩)
          exact ⟨⟨i + 1, max d d2, min (min (m + 1) 4097 + szEs k x.args) 4097, by omega, by omega, by first | rfl | (congr 1; omega), by simp, by omega, hR2, c6, hg3.trans (g5.trans g6)⟩, by simp [intOf] <;> omega⟩
        · obtain rfl : i = M1 := by omega
          have hT2 := Lib.hid (show min (m + sumL (L2.drop 0) + sumL L3) 4097 = T by
            have := hR.out
            rw [List.drop_eq_nil_of_le (by rw [← hL1.out, List.length_map, hMh1.out]; exact Nat.le_refl _)] at this
            rw [List.drop_zero, ← this]
            show _ = min (m + 0 + _) 4097
            omega)
          have g4w := g3w.trans hg3
          obtain ⟨A2, cap2, hav2, hcap2, hlen2, hz2⟩ := he.prow.1.head
          have hX2 := Lib.hid (show RowS W0 9 (.slice A2 (e.parts.map Bd.cells).length cap2) (e.parts.map Bd.cells) by rw [← hav2]; exact he.prow.1)
          have hK2 := Lib.hid he.prow.2
          rw [List.length_map] at hav2 hcap2 hlen2 hX2
          obtain ⟨M2, hM2⟩ : ∃ N, e.parts.length = N := ⟨_, rfl⟩
          have hMh2 := Lib.hid hM2
          rw [hM2] at hav2 hcap2 hlen2 hX2
          have hav2 := Lib.hid hav2
          have b3' := b4
          obtain ⟨Wa, rfl⟩ : ∃ Wa : World, Wa = wr := ⟨_, rfl⟩
          clear hM2 hR hX1 hK1 hz1 hz2 hcap1 hlen1 g3w
          go_wp2_with fail
          go_loopw [7, 9] (fun sd si wv => ∃ i d m : Nat, i ≤ M2 ∧ d ≤ k ∧ sd = .int .i64 d ∧ si = .int .i64 i ∧ m ≤ 4097 ∧ Hid (min (m + sumL (L2.drop i) + sumL L3) 4097 = T) ∧ CntAt wv cb m ∧ Gb cb Wa wv) (fun _ si _ => M2 - (intOf si).toNat)
          case atStart => exact ⟨0, d, _, Nat.zero_le _, hd, rfl, rfl, hm, hT2, hc3, Gb.refl _ _⟩
          case round =>
            obtain ⟨i2, d2, m2, hi2, hd2, rfl, rfl, hm2, hR2, hc5, hg5⟩ := hrel
            have b5 := hg5.block b3' hbc
            have q5 : wr.cell? ⟨w.heap.size, 5, none⟩ = some (.slice A2 M2 cap2) := (cell_of_row _ _ 5 _ _ _ b5).trans (congrArg some hav2.out)
            by_cases hlt4 : i2 < M2
            · have hlt5 : (i2 : Int) < (M2 : Int) := by omega
              obtain ⟨x, hx⟩ : ∃ x, e.parts[i2]? = some x := ⟨_, List.getElem?_eq_getElem (by rw [hMh2.out]; exact hlt4)⟩
              obtain ⟨b, o, rfl, hxc⟩ := hX2.out.at_ (i := i2) (r := x.cells) (by rw [List.getElem?_map, hx]; rfl)
              have hnb : Nb W0 wr := (g4w.trans hg5).nb hw hcb
              have hxs : sumL (L2.drop i2) = szB k x + sumL (L2.drop (i2 + 1)) := sum_drop (by rw [← hL2.out, List.getElem?_map, hx]; rfl)
              have hxh := hK2.out x (List.mem_of_getElem? hx)
              have hih := Lib.hid (ih (by omega) x hxh m2 wr hm2 hnb hc5)
              have hR3 : min (min (m2 + szB k x) 4097 + sumL (L2.drop (i2 + 1)) + sumL L3) 4097 = T := by
                rw [← hR2.out, hxs]
                omega
              have hR3 := Lib.hid hR3
              have y0 := hnb.cell (hxc 0 _ rfl)
              have y1 := hnb.cell (hxc 1 _ rfl)
              have y2 := hnb.cell (hxc 2 _ rfl)
              have y3 := hnb.cell (hxc 3 _ rfl)
              have y4 := hnb.cell (hxc 4 _ rfl)
              have y5 := hnb.cell (hxc 5 _ rfl)
              have y6 := hnb.cell (hxc 6 _ rfl)
              have y7 := hnb.cell (hxc 7 _ rfl)
              have y8 := hnb.cell (hxc 8 _ rfl)
              simp only [Nat.add_zero] at y0
              clear hx hxc hxh hR2 hxs
              go_wp2_with (go_at_call 58; refine (hih.out).mono ?_; rintro r w6 ⟨d3, hd3, rfl, g6, c6⟩)
              exact ⟨⟨i2 + 1, max d2 d3, min (m2 + szB k x) 4097, by omega, by omega, by first | rfl | (congr 1; omega), by simp, by omega, hR3, c6, hg5.trans g6⟩, by simp [intOf] <;> omega⟩
            · obtain rfl : i2 = M2 := by omega
              have hT3 := Lib.hid (show min (m2 + sumL (L3.drop 0)) 4097 = T by
                have := hR2.out
                rw [List.drop_eq_nil_of_le (by rw [← hL2.out, List.length_map, hMh2.out]; exact Nat.le_refl _)] at this
                rw [List.drop_zero, ← this]
                show _ = min (m2 + 0 + _) 4097
                omega)
              have g5w := g4w.trans hg5
              obtain ⟨A3, cap3, hav3, hcap3, hlen3, hz3⟩ := he.mrow.1.head
              have hX3 := Lib.hid (show RowS W0 15 (.slice A3 (e.arms.map Am.cells).length cap3) (e.arms.map Am.cells) by rw [← hav3]; exact he.mrow.1)
              have hK3 := Lib.hid he.mrow.2
              rw [List.length_map] at hav3 hcap3 hlen3 hX3
              obtain ⟨M3, hM3⟩ : ∃ N, e.arms.length = N := ⟨_, rfl⟩
              have hMh3 := Lib.hid hM3
              rw [hM3] at hav3 hcap3 hlen3 hX3
              have hav3 := Lib.hid hav3
              have b5' := b5
              obtain ⟨Wb, rfl⟩ : ∃ Wb : World, Wb = wr := ⟨_, rfl⟩
              clear hM3 hR2 hX2 hK2 hz3 hcap2 hlen2 g4w b5
              go_wp2_with fail
              go_loopw [7, 10] (fun sd si wv => ∃ i d m : Nat, i ≤ M3 ∧ d ≤ k ∧ sd = .int .i64 d ∧ si = .int .i64 i ∧ m ≤ 4097 ∧ Hid (min (m + sumL (L3.drop i)) 4097 = T) ∧ CntAt wv cb m ∧ Gb cb Wb wv) (fun _ si _ => M3 - (intOf si).toNat)
              case atStart => exact ⟨0, d2, _, Nat.zero_le _, hd2, rfl, rfl, hm2, hT3, hc5, Gb.refl _ _⟩
              case round =>
                obtain ⟨i3, d4, m3, hi3, hd4, rfl, rfl, hm3, hR3, hc6, hg6⟩ := hrel
                have b6 := hg6.block b5' hbc
                have q6 : wr.cell? ⟨w.heap.size, 6, none⟩ = some (.slice A3 M3 cap3) := (cell_of_row _ _ 6 _ _ _ b6).trans (congrArg some hav3.out)
                by_cases hlt6 : i3 < M3
                · have hlt7 : (i3 : Int) < (M3 : Int) := by omega
                  obtain ⟨x, hx⟩ : ∃ x, e.arms[i3]? = some x := ⟨_, List.getElem?_eq_getElem (by rw [hMh3.out]; exact hlt6)⟩
                  obtain ⟨b, o, rfl, hxc⟩ := hX3.out.at_ (i := i3) (r := x.cells) (by rw [List.getElem?_map, hx]; rfl)
                  have hnb : Nb W0 wr := (g5w.trans hg6).nb hw hcb
                  have hxs : sumL (L3.drop i3) = (szE k x.pat + szEs k x.guard + szB k x.body) + sumL (L3.drop (i3 + 1)) := sum_drop (by rw [← hL3.out, List.getElem?_map, hx]; rfl)
                  obtain ⟨hp, hg, hb⟩ := hK3.out x (List.mem_of_getElem? hx)
                  have hih1 := Lib.hid (cpattern_any W0 cb hcb k (by omega) x.pat hp m3 wr hm3 hnb hc6)
                  have hih2 := Lib.hid (fun w5 (hn5 : Nb W0 w5) (c5 : CntAt w5 cb (min (m3 + szE k x.pat) 4097)) => cexprs_any W0 cb hcb k (by omega) x.gv x.guard hg _ w5 (by omega) hn5 c5)
                  have hih3 := Lib.hid (fun w5 (hn5 : Nb W0 w5) (c5 : CntAt w5 cb (min (min (m3 + szE k x.pat) 4097 + szEs k x.guard) 4097)) => ih (by omega) x.body hb _ w5 (by omega) hn5 c5)
                  have hR4 : min (min (min (min (m3 + szE k x.pat) 4097 + szEs k x.guard) 4097 + szB k x.body) 4097 + sumL (L3.drop (i3 + 1))) 4097 = T := by
                    rw [← hR3.out, hxs]
                    omega
                  have hR4 := Lib.hid hR4
                  have hxc := Lib.hid hxc
                  have y0 := hnb.cell (hxc.out 0 _ rfl)
                  have y1 := hnb.cell (hxc.out 1 _ rfl)
                  have y2 := hnb.cell (hxc.out 2 _ rfl)
                  have y3 := hnb.cell (hxc.out 3 _ rfl)
                  have y4 := hnb.cell (hxc.out 4 _ rfl)
                  simp only [Nat.add_zero] at y0
                  clear hx hp hg hb hR3 hxs
                  go_upto_region 17 with (go_at_call 70; refine (hih1.out).mono ?_; rintro r w6 ⟨d5, hd5, rfl, g6, c6⟩)
                  have b7 := g6.block b6 hbc
                  have q7 : w6.cell? ⟨w.heap.size, 6, none⟩ = some (.slice (some ⟨b, o, none⟩) M3 cap3) := (cell_of_row _ _ 6 _ _ _ b7).trans (congrArg some hav3.out)
                  have hnb6 := g6.nb hnb hcb
                  have y5 := hnb6.cell (hxc.out 5 _ rfl)
                  clear y0 y1 y2 y3 y4 q6 hih1
                  go_upto_region 18 with (go_at_call 59; refine (hih2.out _ hnb6 c6).mono ?_; rintro r w7 ⟨d6, hd6, rfl, g7, c7⟩)
                  have b8 := g7.block b7 hbc
                  have q8 : w7.cell? ⟨w.heap.size, 6, none⟩ = some (.slice (some ⟨b, o, none⟩) M3 cap3) := (cell_of_row _ _ 6 _ _ _ b8).trans (congrArg some hav3.out)
                  have hnb7 := g7.nb hnb6 hcb
                  have y6 := hnb7.cell (hxc.out 6 _ rfl)
                  have y7 := hnb7.cell (hxc.out 7 _ rfl)
                  have y8 := hnb7.cell (hxc.out 8 _ rfl)
                  have y9 := hnb7.cell (hxc.out 9 _ rfl)
                  have y10 := hnb7.cell (hxc.out 10 _ rfl)
                  have y11 := hnb7.cell (hxc.out 11 _ rfl)
                  have y12 := hnb7.cell (hxc.out 12 _ rfl)
                  have y13 := hnb7.cell (hxc.out 13 _ rfl)
                  have y14 := hnb7.cell (hxc.out 14 _ rfl)
                  clear y5 q7 hih2
                  go_wp2_with (go_at_call 58; refine (hih3.out _ hnb7 c7).mono ?_; rintro r w8 ⟨d7, hd7, rfl, g8, c8⟩)
                  exact ⟨⟨i3 + 1, max (max (max d4 d5) d6) d7, min (min (min (m3 + szE k x.pat) 4097 + szEs k x.guard) 4097 + szB k x.body) 4097, by omega, by omega, by first | rfl | (congr 1; omega), by simp, by omega, hR4, c8, hg6.trans (g6.trans (g7.trans g8))⟩, by simp [intOf] <;> omega⟩
                · obtain rfl : i3 = M3 := by omega
                  have hm4 : m3 = T := by
                    have := hR3.out
                    rw [List.drop_eq_nil_of_le (by rw [← hL3.out, List.length_map, hMh3.out]; exact Nat.le_refl _)] at this
                    rw [← this]
                    show m3 = min (m3 + 0) 4097
                    omega
                  subst hm4
                  clear hR3
                  go_wp2_with fail
                  go_ret
                  exact ⟨d4 + 1, by omega, by first | rfl | (congr 2), g5w.trans hg6, hc6⟩
    · rw [decide_eq_false h4] at hadd
      go_wp2_with (go_at_call 57; refine (hadd.out).mono ?_; rintro r w2 ⟨rfl, g2, c2⟩)
      go_ret
      exact ⟨0, Nat.zero_le _, rfl, g1.trans g2, by rw [← hT.out, show min (n + (1 + S0 + sumL L1 + sumL L2 + sumL L3)) 4097 = min (n + 1) 4097 by omega]; exact c2⟩
theorem cprogram_any (W0 : World) (cb : Nat) (hcb : W0.heap.size ≤ cb) (e : Pg) (he : e.Has W0) (n : Nat) (w : World) (hn : n ≤ 4097) (hw : Nb W0 w) (hc : CntAt w cb n) :
    Calls Tryd.prog 19 #[.pointer (some ⟨cb, 0, none⟩), .agg e.cells.toArray] w (CPost cb w (min (n + szP e) 4097) 65) := by
  obtain ⟨S0, hS0⟩ : ∃ S, szEs 65 e.args = S := ⟨_, rfl⟩
  obtain ⟨L1, hL1⟩ : ∃ L, (e.defs.map fun d => 1 + d.params.length + szB 65 d.body) = L := ⟨_, rfl⟩
  have hsz : szP e = sumL L1 + S0 := by rw [← hS0, ← hL1]; rfl
  obtain ⟨T, hT⟩ : ∃ T, min (n + szP e) 4097 = T := ⟨_, rfl⟩
  rw [hT]
  rw [hsz] at hT
  clear hsz
  have hL1 := Lib.hid hL1
  have hS0 := Lib.hid hS0
  have hlt := lt_blk hc
  go_enter Tryd.func19, Tryd.ntmps19
  go_upto_region 1 with (fail)
  obtain ⟨W1, hW⟩ : ∃ W1, w.alloc (Obj.cells e.cells.toArray 25) = W1 := ⟨_, rfl⟩
  have g1 : Gb cb w W1 := by rw [← hW]; exact (Gb.refl cb w).alloc _
  have c1 : CntAt W1 cb n := by rw [← hW]; exact old_blk hc _
  have b1 : W1.heap[w.heap.size]? = some (.cells e.cells.toArray 25 (0, 0)) := by rw [← hW]; exact new_blk w _ rfl
  rw [hW]
  clear hW
  have hbc : w.heap.size ≠ cb := by omega
  have ifm := if_max
  have hT1 := Lib.hid (show min (n + sumL (L1.drop 0) + S0) 4097 = T by rw [List.drop_zero, ← hT]; omega)
  clear hT
  obtain ⟨A1, cap1, hav1, hcap1, hlen1, hz1⟩ := he.drow.head
  have hX1 := Lib.hid (show RowS W0 12 (.slice A1 (e.defs.map Df.cells).length cap1) (e.defs.map Df.cells) by rw [← hav1]; exact he.drow)
  rw [List.length_map] at hav1 hcap1 hlen1 hX1
  obtain ⟨M1, hM1⟩ : ∃ N, e.defs.length = N := ⟨_, rfl⟩
  have hMh1 := Lib.hid hM1
  rw [hM1] at hav1 hcap1 hlen1 hX1
  have hav1 := Lib.hid hav1
  clear hM1
  go_wp2_with fail
  go_loopw [5, 6] (fun sd si wr => ∃ i d m : Nat, i ≤ M1 ∧ d ≤ 65 ∧ sd = .int .i64 d ∧ si = .int .i64 i ∧ m ≤ 4097 ∧ Hid (min (m + sumL (L1.drop i) + S0) 4097 = T) ∧ CntAt wr cb m ∧ Gb cb W1 wr) (fun _ si _ => M1 - (intOf si).toNat)
  case atStart => exact ⟨0, 0, n, Nat.zero_le _, by omega, rfl, rfl, by omega, hT1, c1, Gb.refl _ _⟩
  case round =>
    obtain ⟨i, d, m, hi, hd, rfl, rfl, hm, hR, hc3, hg3⟩ := hrel
    have b4 := hg3.block b1 hbc
    have q4 : wr.cell? ⟨w.heap.size, 0, none⟩ = some (.slice A1 M1 cap1) := (cell_of_row _ _ 0 _ _ _ b4).trans (congrArg some hav1.out)
    by_cases hlt2 : i < M1
    · have hlt3 : (i : Int) < (M1 : Int) := by omega
      obtain ⟨x, hx⟩ : ∃ x, e.defs[i]? = some x := ⟨_, List.getElem?_eq_getElem (by rw [hMh1.out]; exact hlt2)⟩
      obtain ⟨b, o, rfl, hxc⟩ := hX1.out.at_ (i := i) (r := x.cells) (by rw [List.getElem?_map, hx]; rfl)
      have hnb : Nb W0 wr := (g1.trans hg3).nb hw hcb
      have hxs : sumL (L1.drop i) = (1 + x.params.length + szB 65 x.body) + sumL (L1.drop (i + 1)) := sum_drop (by rw [← hL1.out, List.getElem?_map, hx]; rfl)
      have hxb := he.body x (List.mem_of_getElem? hx)
      obtain ⟨A2, cap2, hav2, hcap2, hlen2, hz2⟩ := (he.prow x (List.mem_of_getElem? hx)).head
      rw [List.length_map] at hav2 hcap2 hlen2
      obtain ⟨M2, hM2⟩ : ∃ N, x.params.length = N := ⟨_, rfl⟩
      rw [hM2] at hav2 hcap2 hlen2 hxs
      have hav2 := Lib.hid hav2
      have hxc := Lib.hid hxc
      have hadd := Lib.hid (cadd_any cb m wr hm hc3)
      have hR2 := Lib.hid (show min (min (m + 1) 4097 + (M2 + (szB 65 x.body + (sumL (L1.drop (i + 1)) + S0)))) 4097 = T by rw [← hR.out, hxs]; omega)
      clear hx hR hxs hM2
      go_upto_region 6 with (go_at_call 57; refine (hadd.out).mono ?_; rintro r w5 ⟨rfl, g5, c5⟩)
      have b5 := g5.block b4 hbc
      have hnb5 := g5.nb hnb hcb
      have g5w := (g1.trans hg3).trans g5
      obtain ⟨Wa, rfl⟩ : ∃ Wa : World, Wa = wr := ⟨_, rfl⟩
      clear q4 hadd b4
      go_wp2_with fail
      go_loopw [7] (fun si wr => ∃ j m2 : Nat, j ≤ M2 ∧ si = .int .i64 j ∧ m2 ≤ 4097 ∧ Hid (min (m2 + ((M2 - j) + (szB 65 x.body + (sumL (L1.drop (i + 1)) + S0)))) 4097 = T) ∧ CntAt wr cb m2 ∧ Gb cb w5 wr) (fun si _ => M2 - (intOf si).toNat)
      case atStart => exact ⟨0, _, Nat.zero_le _, rfl, by omega, hR2, c5, Gb.refl _ _⟩
      case round =>
        obtain ⟨j, m2, hj, rfl, hm2, hR3, hc6, hg6⟩ := hrel
        have b6 := hg6.block b5 hbc
        have hnb6 := hg6.nb hnb5 hcb
        have q6 : wr.cell? ⟨w.heap.size, 0, none⟩ = some (.slice (some ⟨b, o, none⟩) M1 cap1) := (cell_of_row _ _ 0 _ _ _ b6).trans (congrArg some hav1.out)
        have y2 : wr.cell? ⟨b, o + i * 12 + 2, none⟩ = some (.slice A2 M2 cap2) := (hnb6.cell (hxc.out 2 _ rfl)).trans (congrArg some hav2.out)
        by_cases hlt4 : j < M2
        · have hlt5 : (j : Int) < (M2 : Int) := by omega
          have hadd := Lib.hid (cadd_any cb m2 wr hm2 hc6)
          have hR4 := Lib.hid (show min (min (m2 + 1) 4097 + ((M2 - (j + 1)) + (szB 65 x.body + (sumL (L1.drop (i + 1)) + S0)))) 4097 = T by rw [← hR3.out]; omega)
          clear hR3
          go_wp2_with (go_at_call 57; refine (hadd.out).mono ?_; rintro r w7 ⟨rfl, g7, c7⟩)
          exact ⟨⟨j + 1, min (m2 + 1) 4097, by omega, by simp, by omega, hR4, c7, hg6.trans g7⟩, by simp [intOf] <;> omega⟩
        · obtain rfl : j = M2 := by omega
          have hbody := Lib.hid (cbody_any W0 cb hcb 65 (by omega) x.body hxb m2 wr hm2 hnb6 hc6)
          have hR4 := Lib.hid (show min (min (m2 + szB 65 x.body) 4097 + sumL (L1.drop (i + 1)) + S0) 4097 = T by rw [← hR3.out]; omega)
          have y3 := hnb6.cell (hxc.out 3 _ rfl)
          have y4 := hnb6.cell (hxc.out 4 _ rfl)
          have y5 := hnb6.cell (hxc.out 5 _ rfl)
          have y6 := hnb6.cell (hxc.out 6 _ rfl)
          have y7 := hnb6.cell (hxc.out 7 _ rfl)
          have y8 := hnb6.cell (hxc.out 8 _ rfl)
          have y9 := hnb6.cell (hxc.out 9 _ rfl)
          have y10 := hnb6.cell (hxc.out 10 _ rfl)
          have y11 := hnb6.cell (hxc.out 11 _ rfl)
          clear hR3
          go_wp2_with (go_at_call 58; refine (hbody.out).mono ?_; rintro r w8 ⟨d2, hd2, rfl, g8, c8⟩)
          exact ⟨⟨i + 1, max d d2, min (m2 + szB 65 x.body) 4097, by omega, by omega, by first | rfl | (congr 1; omega), by simp, by omega, hR4, c8, (hg3.trans g5).trans (hg6.trans g8)⟩, by simp [intOf] <;> omega⟩
    · obtain rfl : i = M1 := by omega
      have hT2 : min (m + S0) 4097 = T := by
        have := hR.out
        rw [List.drop_eq_nil_of_le (by rw [← hL1.out, List.length_map, hMh1.out]; exact Nat.le_refl _)] at this
        rw [← this]
        show _ = min (m + 0 + _) 4097
        omega
      have q3 : wr.cell? ⟨w.heap.size, 3, none⟩ = some e.av := cell_of_row _ _ 3 _ _ _ b4
      have hargs := Lib.hid (cexprs_any W0 cb hcb 65 (by omega) e.av e.args he.args m wr hm ((g1.trans hg3).nb hw hcb) hc3)
      rw [hS0.out, hT2] at hargs
      clear hR hT2
      go_wp2_with (go_at_call 59; refine (hargs.out).mono ?_; rintro r w8 ⟨d2, hd2, rfl, g8, c8⟩)
      go_ret
      exact ⟨max d d2, by omega, by first | rfl | (congr 2; omega) | skip, (g1.trans hg3).trans g8, c8⟩
theorem rsize_any (W0 : World) (e : Pg) (he : e.Has W0) (w : World) (hw : Nb W0 w) :
    Calls Tryd.prog 9 #[.agg e.cells.toArray] w fun r w' => r = .returned (.int .i64 ((min (szP e) 4097 : Nat) : Int)) ∧ Nb w w' := by
  obtain ⟨T, hT⟩ : ∃ T, min (szP e) 4097 = T := ⟨_, rfl⟩
  rw [hT]
  have hT := Lib.hid hT
  go_enter Tryd.func9, Tryd.ntmps9
  go_upto_region 2 with (fail)
  obtain ⟨W1, hW⟩ : ∃ W1, (w.alloc (Obj.cells e.cells.toArray 25)).alloc (Obj.cells #[.int .i64 0] 59) = W1 := ⟨_, rfl⟩
  have n1 : Nb w W1 := by rw [← hW]; exact ((Nb.refl w).alloc _).alloc _
  have b1 : W1.heap[w.heap.size]? = some (.cells e.cells.toArray 25 (0, 0)) := by rw [← hW]; exact old_blk (new_blk w _ rfl) _
  have c1 : CntAt W1 (w.heap.size + 1) 0 := by rw [← hW]; exact new_blk _ _ (by rw [World.size_alloc])
  rw [hW]
  clear hW
  have hprog := Lib.hid (cprogram_any W0 (w.heap.size + 1) (by have := hw.size; omega) e he 0 W1 (by omega) (hw.trans n1) c1)
  rw [Nat.zero_add, hT.out] at hprog
  have q0 : W1.cell? ⟨w.heap.size, 0, none⟩ = some e.dv := cell_of_row _ _ 0 _ _ _ b1
  have q1 : W1.cell? ⟨w.heap.size, 1, none⟩ = some (.int .i64 e.at_) := cell_of_row _ _ 1 _ _ _ b1
  have q2 : W1.cell? ⟨w.heap.size, 2, none⟩ = some (sV e.main) := cell_of_row _ _ 2 _ _ _ b1
  have q3 : W1.cell? ⟨w.heap.size, 3, none⟩ = some e.av := cell_of_row _ _ 3 _ _ _ b1
  clear b1 c1
  go_upto_region 3 with (go_at_call 19; refine (hprog.out).mono ?_; rintro r w2 ⟨d, hd, rfl, g2, c2⟩)
  have q5 : w2.cell? ⟨w.heap.size + 1, 0, none⟩ = some (.int .i64 (T : Int)) := cell_of_row _ _ 0 _ _ _ c2
  clear q0 q1 q2 q3 hprog
  go_wp2_with fail
  go_ret
  exact ⟨rfl, g2.nb n1 (Nat.le_succ _)⟩
end Go.Proofs.YtojogolmcclpoaaDoor
