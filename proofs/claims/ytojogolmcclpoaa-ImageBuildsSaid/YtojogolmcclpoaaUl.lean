/-
  Proved here: what the reference of image builds. Conditions: the memory holds the words.
-/
import Derived.Test.YtojogolmcclpoaaUk
namespace Go.Proofs.Ytojogolmcclpoaa
open Go.RowKit
set_option linter.unusedVariables false
set_option linter.unusedSimpArgs false
set_option maxRecDepth 100000
set_option maxHeartbeats 4000000
theorem rbuild_ok (C S A B W : Nat) (x0 x4 : Int) (v : Value) (xs : List Int) (hlen : xs.length = C) (hok : okL ⟨x0, A, B, W, x4⟩ C S = true) (w : World) (hx : U32R w v xs) :
    Calls Try.prog 15 #[(Cf.mk x0 A B W x4).v, (layN C S A B W).v, v] w (BuiltM 49 (bldN C S A B W xs) w) := by
  obtain ⟨Av, cap, rfl, hcap, hcx⟩ := hx
  have hlay := fun w => rlay_any ⟨x0, A, B, W, x4⟩ C S w
  rw [show layE ⟨x0, A, B, W, x4⟩ C S = 0 by unfold layE; rw [hok]; rfl, show layA ⟨x0, A, B, W, x4⟩ C S = layN C S A B W by unfold layA; rw [hok]; rfl] at hlay
  obtain ⟨C', S', A', B', W', y0, y4, e0, e1, e2, -, hC, hS, hA, hB, hW⟩ := okL_nat hok
  simp only [Cf.mk.injEq, Int.natCast_inj] at e0 e1 e2
  obtain ⟨-, rfl, rfl, rfl, -⟩ := e0
  subst e1 e2
  have hprod : 8 * (12 + S + 2 * W) * A ≤ 18528 * 64 := Nat.mul_le_mul (by omega) hA.2
  unfold bldN
  obtain ⟨az, has⟩ : ∃ n, 8 * (12 + S + 2 * W) = n := ⟨_, rfl⟩
  obtain ⟨g, hgl⟩ : ∃ n, (4 * C + 63) / 64 * 64 = n := ⟨_, rfl⟩
  rw [has] at hprod
  have hly0 : (layN C S A B W).v = .agg #[.int .u64 0, .int .u64 (g : Int), .int .u64 ((g : Int) + 64), .int .u64 (az : Int), .int .u64 ((g + 64 + az * A : Nat) : Int), .int .u64 256, .int .u64 ((g + 64 + az * A + 256 * B : Nat) : Int), .int .i64 (S : Int)] := by
    unfold layN
    rw [has, hgl]
    simp [Ly.v, Ly.cells]
  have haz : az % 8 = 0 := by omega
  have haa8 : (az * A) % 8 = 0 := by rw [Nat.mul_mod, haz, Nat.zero_mul]
  rw [has, hgl]
  obtain ⟨bb, hbb⟩ : ∃ n, g + 64 + az * A = n := ⟨_, rfl⟩
  rw [hbb] at hly0 ⊢
  have hg1 : 4 * C ≤ g := by omega
  have hg2 : g ≤ 300000 := by omega
  have hg3 : g % 64 = 0 := by omega
  have hb8 : bb % 8 = 0 := by omega
  have hb1 : g + 64 ≤ bb := by omega
  have hb2 : bb ≤ 2000000 := by omega
  clear hgl hbb haa8 hprod haz has
  obtain ⟨st, hst⟩ : ∃ n, bb + 256 * B = n := ⟨_, rfl⟩
  rw [hst] at hly0 ⊢
  have hs2 : st ≤ 16777216 := by omega
  rw [hly0] at hlay ⊢
  have hblk := fun (n : Nat) (hn : n < 256) w => block_any ⟨0, g, (g : Int) + 64, az, bb, 256, st, S⟩ n w
  replace hblk : ∀ n : Nat, n < 256 → ∀ w, Calls Try.prog 12 #[.agg #[.int .u64 0, .int .u64 (g : Int), .int .u64 ((g : Int) + 64), .int .u64 (az : Int), .int .u64 (bb : Int), .int .u64 256, .int .u64 (st : Int), .int .i64 (S : Int)], .int .i64 (n : Int)] w fun e w' => e = .returned (.int .u64 ((bb : Int) + 256 * (n : Int))) ∧ Nb w w' := fun n hn w => by
    have h := hblk n hn w
    rw [show wU (Ly.blocks ⟨0, g, (g : Int) + 64, az, bb, 256, st, S⟩ + wU (wU (n : Int) * Ly.bsize ⟨0, g, (g : Int) + 64, az, bb, 256, st, S⟩)) = (bb : Int) + 256 * (n : Int) by
      show wU ((bb : Int) + wU (wU (n : Int) * 256)) = _
      have e1 : wU (n : Int) = n := by unfold wU; rw [IntKind.wrap_u64]; omega
      rw [e1]; unfold wU; rw [IntKind.wrap_u64, IntKind.wrap_u64]; omega] at h
    exact h
  have hnew := fun w => rnew_any st hs2 w
  change ∀ w, Calls Try.prog 8 #[.agg #[.int .i64 x0, .int .i64 (A : Int), .int .i64 (B : Int), .int .i64 (W : Int), .int .i64 x4], .int .i64 (C : Int), .int .i64 (S : Int)] w fun e w' => e = .returned (.tuple #[.agg #[.int .u64 0, .int .u64 (g : Int), .int .u64 ((g : Int) + 64), .int .u64 (az : Int), .int .u64 (bb : Int), .int .u64 256, .int .u64 (st : Int), .int .i64 (S : Int)], .int .i64 0]) ∧ Nb w w' at hlay
  replace hlay := Lib.hid hlay
  replace hblk := Lib.hid hblk
  replace hnew := Lib.hid hnew
  replace hcx := Lib.hid hcx
  rw [hlen] at hcap ⊢
  have hlenh := Lib.hid hlen
  clear hlen hok hly0
  show Calls Try.prog 15 #[.agg #[.int .i64 x0, .int .i64 (A : Int), .int .i64 (B : Int), .int .i64 (W : Int), .int .i64 x4], .agg #[.int .u64 0, .int .u64 (g : Int), .int .u64 ((g : Int) + 64), .int .u64 (az : Int), .int .u64 (bb : Int), .int .u64 256, .int .u64 (st : Int), .int .i64 (S : Int)], .slice Av C cap] w _
  go_enter Try.func15, Try.ntmps15
  go_upto_region 1 with (fail)
  obtain ⟨W1, hW1⟩ : ∃ W1, (w.alloc (.cells #[.int .i64 x0, .int .i64 (A : Int), .int .i64 (B : Int), .int .i64 (W : Int), .int .i64 x4] 23)).alloc (.cells #[.int .u64 0, .int .u64 (g : Int), .int .u64 ((g : Int) + 64), .int .u64 (az : Int), .int .u64 (bb : Int), .int .u64 256, .int .u64 (st : Int), .int .i64 (S : Int)] 26) = W1 := ⟨_, rfl⟩
  have n1 : Nb w W1 := by rw [← hW1]; exact (alloc_nb _ _).trans (alloc_nb _ _)
  have b0 : W1.heap[w.heap.size]? = some (.cells #[.int .i64 x0, .int .i64 (A : Int), .int .i64 (B : Int), .int .i64 (W : Int), .int .i64 x4] 23 (0, 0)) := by rw [← hW1]; exact (alloc_nb _ _).block (new_blk _ _ rfl)
  have b1 : W1.heap[w.heap.size + 1]? = some (.cells #[.int .u64 0, .int .u64 (g : Int), .int .u64 ((g : Int) + 64), .int .u64 (az : Int), .int .u64 (bb : Int), .int .u64 256, .int .u64 (st : Int), .int .i64 (S : Int)] 26 (0, 0)) := by rw [← hW1]; exact new_blk _ _ (size_alloc1 _ _)
  rw [hW1]
  clear hW1
  obtain ⟨H, hH⟩ : ∃ H, w.heap.size = H := ⟨_, rfl⟩
  rw [hH] at b0 b1 ⊢
  clear hH
  obtain ⟨H1, hH1⟩ : ∃ H1, H + 1 = H1 := ⟨_, rfl⟩
  rw [hH1] at b1 ⊢
  clear hH1
  have c0 := cell_of_row _ _ 0 _ _ _ b0
  have c1 := cell_of_row _ _ 1 _ _ _ b0
  have c2 := cell_of_row _ _ 2 _ _ _ b0
  have c3 := cell_of_row _ _ 3 _ _ _ b0
  have c4 := cell_of_row _ _ 4 _ _ _ b0
  have z0 := cell_of_row _ _ 0 _ _ _ b1
  have z1 := cell_of_row _ _ 1 _ _ _ b1
  have z2 := cell_of_row _ _ 2 _ _ _ b1
  have z3 := cell_of_row _ _ 3 _ _ _ b1
  have z4 := cell_of_row _ _ 4 _ _ _ b1
  have z5 := cell_of_row _ _ 5 _ _ _ b1
  have z6 := cell_of_row _ _ 6 _ _ _ b1
  have z7 := cell_of_row _ _ 7 _ _ _ b1
  go_upto_region 2 with (go_at_call 8; refine (hlay.out _).mono ?_; rintro r w1 ⟨rfl, g1⟩)
  obtain ⟨W2, hW2⟩ : ∃ W2, w1.alloc (.cells #[.int .u64 0, .int .u64 (g : Int), .int .u64 ((g : Int) + 64), .int .u64 (az : Int), .int .u64 (bb : Int), .int .u64 256, .int .u64 (st : Int), .int .i64 (S : Int)] 26) = W2 := ⟨_, rfl⟩
  have n2 : Nb W1 W2 := by rw [← hW2]; exact g1.trans (alloc_nb _ _)
  have b2 : W2.heap[w1.heap.size]? = some (.cells #[.int .u64 0, .int .u64 (g : Int), .int .u64 ((g : Int) + 64), .int .u64 (az : Int), .int .u64 (bb : Int), .int .u64 256, .int .u64 (st : Int), .int .i64 (S : Int)] 26 (0, 0)) := by rw [← hW2]; exact new_blk _ _ rfl
  rw [hW2]
  clear hW2
  obtain ⟨H2, hH2⟩ : ∃ H, w1.heap.size = H := ⟨_, rfl⟩
  rw [hH2] at b2 ⊢
  clear hH2 c0 c1 c2 c3 c4 z0 z1 z2 z3 z4 z5 z6 z7
  replace b0 := n2.block b0
  replace b1 := n2.block b1
  replace n1 := n1.trans n2
  clear n2 g1
  have z0 := cell_of_row _ _ 0 _ _ _ b1
  have y0 := cell_of_row _ _ 0 _ _ _ b2
  have z1 := cell_of_row _ _ 1 _ _ _ b1
  have y1 := cell_of_row _ _ 1 _ _ _ b2
  have z2 := cell_of_row _ _ 2 _ _ _ b1
  have y2 := cell_of_row _ _ 2 _ _ _ b2
  have z3 := cell_of_row _ _ 3 _ _ _ b1
  have y3 := cell_of_row _ _ 3 _ _ _ b2
  have z4 := cell_of_row _ _ 4 _ _ _ b1
  have y4 := cell_of_row _ _ 4 _ _ _ b2
  have z5 := cell_of_row _ _ 5 _ _ _ b1
  have y5 := cell_of_row _ _ 5 _ _ _ b2
  have z6 := cell_of_row _ _ 6 _ _ _ b1
  have y6 := cell_of_row _ _ 6 _ _ _ b2
  have z7 := cell_of_row _ _ 7 _ _ _ b1
  have y7 := cell_of_row _ _ 7 _ _ _ b2
  clear b2 
  go_upto_region 5 with (go_at_call 24; refine (hnew.out _).mono ?_; rintro r w3 ⟨rfl, hM, hb3, hz3⟩)
  obtain ⟨Q3, hQ3⟩ : ∃ Q, W2.heap.size = Q := ⟨_, rfl⟩
  rw [hQ3] at hM hb3 ⊢
  obtain ⟨P3, hP3⟩ : ∃ P, Q3 + 1 = P := ⟨_, rfl⟩
  rw [hP3] at hM ⊢
  have hbh := Lib.hid b0
  have hbh1 := Lib.hid b1
  have hn3 : Nb W2 w3 := by unfold Nb; rw [hQ3]; exact hb3
  clear hz3 hb3 b0 b1
  go_wp2_with fail
  go_loopw [11] (fun sk wr => ∃ i : Nat, i ≤ C ∧ sk = .int .i64 i ∧ Mem 49 wr P3 Q3 (bW (List.replicate st 0) xs i) ∧ Nb W2 wr) (fun sk _ => C - (intOf sk).toNat)
  case atStart => exact ⟨0, Nat.zero_le _, rfl, hM, hn3⟩
  case round =>
    obtain ⟨i, hi2, rfl, hMr, hnr⟩ := hrel
    have hbl : (bW (List.replicate st 0) xs i).length = st := by rw [bW_len _ _ _ (by rw [List.length_replicate]; omega), List.length_replicate]
    have b0 := hnr.block hbh.out
    have b1 := hnr.block hbh1.out
    have z0 := cell_of_row _ _ 0 _ _ _ b1
    have z1 := cell_of_row _ _ 1 _ _ _ b1
    have z4 := cell_of_row _ _ 4 _ _ _ b1
    have z5 := cell_of_row _ _ 5 _ _ _ b1
    have z6 := cell_of_row _ _ 6 _ _ _ b1
    have z7 := cell_of_row _ _ 7 _ _ _ b1
    have c2 := cell_of_row _ _ 2 _ _ _ b0
    by_cases hlt : i < C
    · have hlt2 : (i : Int) < (C : Int) := by omega
      obtain ⟨x, hx⟩ : ∃ x, xs[i]? = some x := ⟨_, List.getElem?_eq_getElem (by rw [hlenh.out]; exact hlt)⟩
      obtain ⟨wb, wo, hA0, hcw, hx0, hx1⟩ := hcx.out i x hx
      subst hA0
      have hcell := (n1.trans hnr).cell hcw
      obtain ⟨X, rfl⟩ : ∃ X : Nat, x = X := ⟨x.toNat, by omega⟩
      have hstep : bW (List.replicate st 0) xs (i + 1) = lay (bW (List.replicate st 0) xs i) (4 * i) (leB 4 X) := by
        rw [bW, List.getD_eq_getElem?_getD, hx]
        simp
      have hsto := rstore_ok P3 Q3 (bW (List.replicate st 0) xs i) (4 * i) 4 X (by omega) (by omega) (by rw [hbl]; omega) (by omega) (by rw [hbl]; omega) wr hMr
      rw [← hstep, show ((4 * i : Nat) : Int) = 4 * (i : Int) by omega] at hsto
      change Calls Try.prog 25 #[.pointer (some ⟨P3, 0, none⟩), .int .u64 (4 * (i : Int)), .int .i64 4, .int .u64 (X : Int)] wr _ at hsto
      replace hsto := Lib.hid hsto
      clear hx hcw hMr b0 b1 hstep
      go_wp2_with (go_at_call 25; refine hsto.out.mono ?_; rintro r w4 ⟨rfl, hM4, hg4⟩)
      exact ⟨⟨i + 1, by omega, by simp, hM4, below_grown hnr hg4 hnr.size (by omega)⟩, by simp [intOf] <;> omega⟩
    · obtain rfl : i = C := by omega
      have hlt2 : ¬ (i : Int) < (i : Int) := by omega
      have hfin : bld st g bb B xs = bB (lay (lay (bW (List.replicate st 0) xs i) g (leB 8 1)) (g + 16) (leB 8 1)) bb (B - 1) := by unfold bld; rw [hlenh.out]
      obtain ⟨D, hD⟩ : ∃ D, bW (List.replicate st 0) xs i = D := ⟨_, rfl⟩
      rw [hD] at hMr hbl hfin
      clear hD
      obtain ⟨D2, hD2⟩ : ∃ D2, lay D g (leB 8 1) = D2 := ⟨_, rfl⟩
      have hbl2 : D2.length = st := by rw [← hD2, lay_len _ _ _ (by rw [leB_len]; omega), hbl]
      have hsto := rstore_ok P3 Q3 D g 8 1 (by omega) (by omega) (by rw [hbl]; omega) (by omega) (by rw [hbl]; omega) wr hMr
      rw [hD2] at hsto hfin
      obtain ⟨D3, hD3⟩ : ∃ D3, lay D2 (g + 16) (leB 8 1) = D3 := ⟨_, rfl⟩
      have hbl3 : D3.length = st := by rw [← hD3, lay_len _ _ _ (by rw [leB_len]; omega), hbl2]
      rw [hD3] at hfin
      replace hfin := Lib.hid hfin
      change Calls Try.prog 25 #[.pointer (some ⟨P3, 0, none⟩), .int .u64 (g : Int), .int .i64 8, .int .u64 1] wr _ at hsto
      replace hsto := Lib.hid hsto
      clear hMr b0 b1 hD2
      go_upto_region 10 with (go_at_call 25; refine hsto.out.mono ?_; rintro r w4 ⟨rfl, hM4, hg4⟩)
      have hnr4 := below_grown hnr hg4 hnr.size (by omega)
      have b1 := Nb.block hnr4 hbh1.out
      clear hsto hg4 z0 z1 z4 z5 z6 z7 c2
      have z0 := cell_of_row _ _ 0 _ _ _ b1
      have z1 := cell_of_row _ _ 1 _ _ _ b1
      have z4 := cell_of_row _ _ 4 _ _ _ b1
      have z5 := cell_of_row _ _ 5 _ _ _ b1
      have z6 := cell_of_row _ _ 6 _ _ _ b1
      have z7 := cell_of_row _ _ 7 _ _ _ b1
      have hsto := rstore_ok P3 Q3 D2 (g + 16) 8 1 (by omega) (by omega) (by rw [hbl2]; omega) (by omega) (by rw [hbl2]; omega) w4 hM4
      rw [hD3, show ((g + 16 : Nat) : Int) = (g : Int) + 16 by omega] at hsto
      change Calls Try.prog 25 #[.pointer (some ⟨P3, 0, none⟩), .int .u64 ((g : Int) + 16), .int .i64 8, .int .u64 1] w4 _ at hsto
      replace hsto := Lib.hid hsto
      clear hM4 b1 hD3
      go_upto_region 11 with (go_at_call 25; refine hsto.out.mono ?_; rintro r w5 ⟨rfl, hM5, hg5⟩)
      have hnr5 := below_grown hnr4 hg5 (Nb.size hnr4) (by omega)
      have b0 := Nb.block hnr5 hbh.out
      clear hsto hg5 z0 z1 z4 z5 z6 z7
      have c2 := cell_of_row _ _ 2 _ _ _ b0
      obtain ⟨E, hE⟩ : ∃ E, B = E + 1 := ⟨B - 1, by omega⟩
      have hEi : (B : Int) - 1 = (E : Int) := by omega
      replace hfin : Hid (bld st g bb B xs = bB D3 bb E) := Lib.hid (by rw [hfin.out, show B - 1 = E by omega])
      clear hE
      go_wp2_with fail
      go_loopw [12] (fun sk wt => ∃ n : Nat, n ≤ E ∧ sk = .int .i64 n ∧ Mem 49 wt P3 Q3 (bB D3 bb n) ∧ Nb W2 wt) (fun sk _ => E - (intOf sk).toNat)
      case atStart => exact ⟨0, Nat.zero_le _, rfl, hM5, hnr5⟩
      case round =>
        clear c2 b0
        obtain ⟨n, hn2, rfl, hMt, hnt⟩ := hrel
        have hbl4 : (bB D3 bb n).length = st := by rw [bB_len _ _ _ (by rw [hbl3]; omega), hbl3]
        have b0 := hnt.block hbh.out
        have b1 := hnt.block hbh1.out
        have z0 := cell_of_row _ _ 0 _ _ _ b1
        have z1 := cell_of_row _ _ 1 _ _ _ b1
        have z2 := cell_of_row _ _ 2 _ _ _ b1
        have z3 := cell_of_row _ _ 3 _ _ _ b1
        have z4 := cell_of_row _ _ 4 _ _ _ b1
        have z5 := cell_of_row _ _ 5 _ _ _ b1
        have z6 := cell_of_row _ _ 6 _ _ _ b1
        have z7 := cell_of_row _ _ 7 _ _ _ b1
        have c2 := cell_of_row _ _ 2 _ _ _ b0
        by_cases hlt3 : n < E
        · have hlt4 : (n : Int) < (E : Int) := by omega
          have hsto := fun w h => rstore_ok P3 Q3 (bB D3 bb n) (bb + 256 * n) 8 (n + 2) (by omega) (by omega) (by rw [hbl4]; omega) (by omega) (by rw [hbl4]; omega) w h
          rw [show ((bb + 256 * n : Nat) : Int) = (bb : Int) + (n : Int) * 256 by omega, show ((n + 2 : Nat) : Int) = (n : Int) + 2 by omega] at hsto
          replace hsto : ∀ w, Mem 49 w P3 Q3 (bB D3 bb n) → Calls Try.prog 25 #[.pointer (some ⟨P3, 0, none⟩), .int .u64 ((bb : Int) + (n : Int) * 256), .int .i64 8, .int .u64 ((n : Int) + 2)] w fun e w' => e = .returned (.int .i64 0) ∧ Mem 49 w' P3 Q3 (bB D3 bb (n + 1)) ∧ w.grownBy w' (some Q3) := hsto
          replace hsto := Lib.hid hsto
          have hbk := Lib.hid (hblk.out n (by omega))
          have hMth := Lib.hid hMt
          clear hMt b0 b1
          go_wp2_with (go_at_call 25; refine (hsto.out _ hMth.out).mono ?_; rintro r w7 ⟨rfl, hM6, hg6⟩)
          exact ⟨⟨n + 1, by omega, by simp, hM6, below_grown hnt hg6 hnt.size (by omega)⟩, by simp [intOf] <;> omega⟩
        · obtain rfl : n = E := by omega
          have hlt4 : ¬ (n : Int) < (n : Int) := by omega
          go_wp2_with fail
          go_ret2
          exact ⟨P3, Q3, rfl, by rw [hfin.out]; exact hMt, n1.trans hnt⟩
end Go.Proofs.Ytojogolmcclpoaa
