/-
  Proved here: what Run of the code answers. Conditions: the hart's numbers are words; the memory is one that a call made, of at most 2^24 bytes; the table of codes holds what its text lays.
-/
import Derived.Test.YtmggichckhoomaaGreatDoorQbr
namespace Go.Proofs.YtmggichckhoomaaGreatDoor
open Go.RowKit
set_option linter.unusedVariables false
set_option linter.unusedSimpArgs false
def RunAns (n : Nat) (h : HV) (bs : By) (p q : Nat) (w : World) (e : Ending) (w' : World) : Prop :=
  e = .returned (.tuple #[hA (runS n 0 h bs).1, .int .i64 ((runS n 0 h bs).2.1 : Int), .int .i64 (runS n 0 h bs).2.2.1]) ∧ Mem 92 w' p q (runS n 0 h bs).2.2.2 ∧ w.grownBy w' (some q)
theorem run_end {h : HV} {w W1 : World} {p q g : Nat} {bs : By} {old : Array Value} (hg : w.grownBy W1 (some q)) (hM : Mem 92 W1 p q bs) (k0 : W1.heap[g]? = some (.cells old 25 (0, 0))) (hlen : (hC h).toArray.size = 36) (hgw : w.heap.size ≤ g)
    (tmps : Array Value) (v E : Int) (hp : tmps.getD 6 undef = .pointer (some ⟨g, 0, none⟩)) (h7 : tmps.getD 7 undef = .int .i64 v) (h8 : tmps.getD 8 undef = .int .i64 E) :
    bodyPost Tryz.prog Tryz.f16 (fun e w' => e = .returned (.tuple #[.agg (hC h).toArray, .int .i64 v, .int .i64 E]) ∧ Mem 92 w' p q bs ∧ w.grownBy w' (some q)) Exit.ret { tmps := tmps, defers := [] } (W1.setRow g (hC h).toArray) := by
  have k2 := setRow_heap W1 g _ (hC h).toArray 25 _ k0
  have hpg : p ≠ g := by
    rintro rfl
    have := hM.1.symm.trans k0
    simp at this
  have hqg : q ≠ g := by
    rintro rfl
    have := hM.2.symm.trans k0
    simp at this
  refine bodyPost_ret (res_ctt rfl _ _ g _ hp (ld36 g _ _ _ _ k2 hlen)) rfl ⟨by rw [h7, h8], ⟨(setRow_other W1 g p _ hpg).trans hM.1, (setRow_other W1 g q _ hqg).trans hM.2⟩, ?_⟩
  exact ⟨hg.os, hg.tape, hg.output, Nat.le_trans hg.size (by simp [World.setRow]), fun k hk hr => (setRow_other W1 g k _ (by omega)).trans (hg.block k hk hr)⟩
theorem grown_tr {w a c : World} {q : Nat} (g : w.grownBy a (some q)) (k : a.grownBy c (some q)) : w.grownBy c (some q) :=
  ⟨k.os.trans g.os, k.tape.trans g.tape, k.output.trans g.output, Nat.le_trans g.size k.size, fun i hi hr => (k.block i (Nat.lt_of_lt_of_le hi g.size) hr).trans (g.block i hi hr)⟩
attribute [-go_sem] run_eql_struct
set_option maxRecDepth 100000 in
set_option maxHeartbeats 4000000 in
theorem run_any (h : HV) (p q : Nat) (bs : By) (n : Nat) (hn : n < 4611686018427387904) (hh : HOk h) (hl : bs.length ≤ 16777216) (w : World) (hC0 : Cod w) (hM : Mem 92 w p q bs) :
    Calls Tryz.prog 16 #[hA h, .pointer (some ⟨p, 0, none⟩), .int .i64 (n : Int)] w (RunAns n h bs p q w) := by
  have hMlt := hM.lt
  have hok0 := Lib.hid hh
  obtain ⟨R, hR⟩ : ∃ R, runS n 0 h bs = R := ⟨_, rfl⟩
  have hR' := Lib.hid hR
  unfold RunAns
  rw [hR]
  clear hR hh
  unfold hA
  go_enter Tryz.func16, Tryz.ntmps16
  go_upto_region 1 with (fail)
  obtain ⟨W1, w1e⟩ : ∃ W1, (w.alloc (Obj.cells (hC h).toArray 25)).alloc (Obj.cells zerosH 25) = W1 := ⟨_, rfl⟩
  have n1 : Nb w W1 := by rw [← w1e]; exact ((Nb.refl _).alloc _).alloc _
  have kH : W1.heap[w.heap.size]? = some (.cells (hC h).toArray 25 (0, 0)) := by rw [← w1e]; exact old_blk (new_blk _ _ rfl) _
  have kZ : W1.heap[w.heap.size + 1]? = some (.cells zerosH 25 (0, 0)) := by rw [← w1e]; exact new_blk _ _ (by simp)
  change Code.wp _ _ _ _ ((w.alloc (Obj.cells (hC h).toArray 25)).alloc (Obj.cells zerosH 25))
  rw [w1e]
  clear w1e
  go_wp2_with fail
  go_loopw [13] (fun i wr => ∃ (k : Nat) (h1 : HV) (b1 : By), k ≤ n ∧ i = .int .i64 k ∧ Hid (HOk h1) ∧ Hid (b1.length = bs.length) ∧ Hid (runS (n - k) k h1 b1 = R) ∧ Hid (wr.heap[w.heap.size]? = some (.cells (hC h1).toArray 25 (0, 0))) ∧ Hid (wr.heap[w.heap.size + 1]? = some (.cells zerosH 25 (0, 0))) ∧ Mem 92 wr p q b1 ∧ Cod wr ∧ w.grownBy wr (some q)) (fun i _ => n - (intOf i).toNat)
  case atStart => exact ⟨0, h, bs, Nat.zero_le _, rfl, hok0, Lib.hid rfl, hR', Lib.hid kH, Lib.hid kZ, hM.nb n1, hC0.of_nb n1, n1.grown_none⟩
  case round =>
    obtain ⟨k, h1, b1, hk, rfl, hok, hbl, hrun, kH1, kZ1, hMr, hCr, gr⟩ := hrel
    clear kH kZ n1 hR' hok0
    have hlen1 := Lib.hid (show (hC h1).toArray.size = 36 by rw [List.size_toArray]; exact hC_len (by exact hok.out.len))
    have hone1 := Lib.hid (one_all (hC_one h1))
    by_cases hlt : k < n
    · have hlt2 : (k : Int) < (n : Int) := by omega
      have HS := Lib.hid (step_any h1 p q b1 hok.out (by rw [hbl.out]; exact hl) wr hCr hMr)
      unfold StpAns at HS
      go_wp2_with (first | refine wpList_load_row rfl 25 (.tmp 3) rfl w.heap.size rfl 25 (hC h1).toArray (0, 0) _ kH1.out Tryz.underlying25 rfl (by rw [size36, hlen1.out]) ?_)
      refine (HS.out).mono ?_
      rintro e w2 ⟨rfl, hM2, g2⟩
      have kH2 := (g2.block _ (lt_blk kH1.out) (by intro e; injection e with e; omega)).trans kH1.out
      have kZ2 := (g2.block _ (lt_blk kZ1.out) (by intro e; injection e with e; omega)).trans kZ1.out
      have gg := grown_tr gr g2
      have cod2 := hCr.grown hMr g2
      have hok2 := Lib.hid (step_ok h1 b1 hok.out)
      have hlen2 := Lib.hid (show (hC (stepS h1 b1).1).toArray.size = 36 by rw [List.size_toArray]; exact hC_len (by exact hok2.out.len))
      have hone2 := Lib.hid (one_all (hC_one (stepS h1 b1).1))
      clear HS
      go_upto_region 5 with (first
        | refine wpList_store_row rfl 25 (.tmp 10) (.tmp 20) rfl w2.heap.size (hC (stepS h1 b1).1).toArray rfl rfl 25 zerosH (heap_alloc_new w2 _) (by rw [size36, hlen2.out]) (by rw [hlen2.out]; rfl) hone2.out ?_)
      obtain ⟨W3, w3e⟩ : ∃ W3, (w2.alloc (Obj.cells zerosH 25)).setRow w2.heap.size (hC (stepS h1 b1).1).toArray = W3 := ⟨_, rfl⟩
      have n3 : Nb w2 W3 := by rw [← w3e]; exact ((Nb.refl _).alloc _).setRow (Nat.le_refl _) _
      have kX : W3.heap[w2.heap.size]? = some (.cells (hC (stepS h1 b1).1).toArray 25 (0, 0)) := by rw [← w3e]; exact setRow_heap _ _ _ _ _ _ (heap_alloc_new w2 _)
      change Code.wp _ _ _ _ ((w2.alloc (Obj.cells zerosH 25)).setRow w2.heap.size (hC (stepS h1 b1).1).toArray)
      rw [w3e]
      clear w3e
      have kH3 := n3.block kH2
      have kZ3 := n3.block kZ2
      have hM3 := hM2.nb n3
      have g3 := grown_nb gg n3
      have cod3 := cod2.of_nb n3
      have hz2 := Nat.lt_of_lt_of_le (lt_blk kZ1.out) g2.size
      clear kH2 kZ2 hM2 cod2 gg
      have hm : n - k = (n - (k + 1)) + 1 := by omega
      rw [hm] at hrun
      by_cases he : (stepS h1 b1).2.1 = 0
      · have he' : ((stepS h1 b1).2.1 != 0) = false := by rw [he]; rfl
        obtain ⟨r, hr, hiff⟩ := eq_hart (stepS h1 b1).1 h1 hok2.out.len hok.out.len W3
        have hgd : Tryz.prog.eqGuardType Tryz.prog.depth 25 = false := by kernel_rfl
        cases r with
        | true =>
          have hst := hiff.1 rfl
          have hsb := still_bytes h1 b1 hok.out he hst
          have hRe := run_still h1 b1 he hst hsb (n - (k + 1) + 1) k
          rw [show k + (n - (k + 1) + 1) = n by omega] at hRe
          have hRe2 := hrun.out.symm.trans hRe
          subst hRe2
          rw [hsb] at hM3
          clear hrun hiff hst hsb hRe hm he
          go_wp2_with (first
            | refine wpList_load_row rfl 25 (.tmp 10) rfl w2.heap.size rfl 25 (hC (stepS h1 b1).1).toArray (0, 0) _ kX Tryz.underlying25 rfl (by rw [size36, hlen2.out]) ?_
            | refine wpList_load_row rfl 25 (.tmp 3) rfl w.heap.size rfl 25 (hC h1).toArray (0, 0) _ kH3 Tryz.underlying25 rfl (by rw [size36, hlen1.out]) ?_
            | refine wpList_store_row rfl 25 (.tmp 6) (.tmp 32) rfl (w.heap.size + 1) (hC h1).toArray rfl rfl 25 _ kZ3 (by rw [size36, hlen1.out]) (by rw [hlen1.out]; rfl) hone1.out ?_)
          exact run_end g3 hM3 kZ3 hlen1.out (by omega) _ _ _ rfl rfl rfl
        | false =>
          have hrun2 : runS (n - (k + 1)) (k + 1) (stepS h1 b1).1 (stepS h1 b1).2.2 = R := by
            have := hrun.out
            unfold runS at this
            rwa [if_pos he] at this
          have hrun3 := Lib.hid hrun2
          clear hrun hiff hm he hrun2
          go_upto_region 9 with (first
            | refine wpList_load_row rfl 25 (.tmp 10) rfl w2.heap.size rfl 25 (hC (stepS h1 b1).1).toArray (0, 0) _ kX Tryz.underlying25 rfl (by rw [size36, hlen2.out]) ?_
            | refine wpList_load_row rfl 25 (.tmp 3) rfl w.heap.size rfl 25 (hC h1).toArray (0, 0) _ kH3 Tryz.underlying25 rfl (by rw [size36, hlen1.out]) ?_
            | refine wpList_store_row rfl 25 (.tmp 3) (.tmp 30) rfl w.heap.size (hC (stepS h1 b1).1).toArray rfl rfl 25 _ kH3 (by rw [size36, hlen2.out]) (by rw [hlen1.out, hlen2.out]) hone2.out ?_)
          obtain ⟨W4, w4e⟩ : ∃ W4, W3.setRow w.heap.size (hC (stepS h1 b1).1).toArray = W4 := ⟨_, rfl⟩
          have kH4 : W4.heap[w.heap.size]? = some (.cells (hC (stepS h1 b1).1).toArray 25 (0, 0)) := by rw [← w4e]; exact setRow_heap _ _ _ _ _ _ kH3
          have oth : ∀ j, j ≠ w.heap.size → W4.heap[j]? = W3.heap[j]? := fun j hj => by rw [← w4e]; exact setRow_other W3 _ j _ hj
          have kZ4 := (oth _ (by omega)).trans kZ3
          have hM4 : Mem 92 W4 p q (stepS h1 b1).2.2 := ⟨(oth _ (by omega)).trans hM3.1, (oth _ (by omega)).trans hM3.2⟩
          have g4 : w.grownBy W4 (some q) := by
            rw [← w4e]
            exact ⟨g3.os, g3.tape, g3.output, Nat.le_trans g3.size (by simp [World.setRow]), fun j hj hr => (setRow_other W3 _ j _ (by omega)).trans (g3.block j hj hr)⟩
          have cod4 := hC0.grown hM g4
          have hbl2 := Lib.hid ((step_len h1 b1 hok.out).trans hbl.out)
          rw [w4e]
          clear w4e oth kH3 kZ3 hM3 g3 kX hr cod3
          go_wp2_with fail
          exact ⟨⟨k + 1, (stepS h1 b1).1, (stepS h1 b1).2.2, by omega, rfl, hok2, hbl2, hrun3, Lib.hid kH4, Lib.hid kZ4, hM4, cod4, g4⟩, by simp [intOf]; omega⟩
      · have he' : ((stepS h1 b1).2.1 != 0) = true := by simp [bne, he]
        have hRe : R = (h1, k, (stepS h1 b1).2.1, (stepS h1 b1).2.2) := by
          have := hrun.out.symm
          unfold runS at this
          rwa [if_neg he] at this
        subst hRe
        clear hrun he hm
        go_wp2_with (first
          | refine wpList_load_row rfl 25 (.tmp 3) rfl w.heap.size rfl 25 (hC h1).toArray (0, 0) _ kH3 Tryz.underlying25 rfl (by rw [size36, hlen1.out]) ?_
          | refine wpList_store_row rfl 25 (.tmp 6) (.tmp 24) rfl (w.heap.size + 1) (hC h1).toArray rfl rfl 25 _ kZ3 (by rw [size36, hlen1.out]) (by rw [hlen1.out]; rfl) hone1.out ?_)
        exact run_end g3 hM3 kZ3 hlen1.out (by omega) _ _ _ rfl rfl rfl
    · obtain rfl : k = n := by omega
      have hRe : R = (h1, k, 0, b1) := by
        have := hrun.out.symm
        rwa [Nat.sub_self] at this
      subst hRe
      clear hrun
      go_wp2_with (first
        | refine wpList_load_row rfl 25 (.tmp 3) rfl w.heap.size rfl 25 (hC h1).toArray (0, 0) _ kH1.out Tryz.underlying25 rfl (by rw [size36, hlen1.out]) ?_
        | refine wpList_store_row rfl 25 (.tmp 6) (.tmp 32) rfl (w.heap.size + 1) (hC h1).toArray rfl rfl 25 _ kZ1.out (by rw [size36, hlen1.out]) (by rw [hlen1.out]; rfl) hone1.out ?_)
      exact run_end gr hMr kZ1.out hlen1.out (by omega) _ _ _ rfl rfl rfl
end Go.Proofs.YtmggichckhoomaaGreatDoor
