/-
  Proved here: an sc stores just if the hart holds that very place, in that size, and behind it nothing is held, by the code of hart. No condition.
-/
import Derived.Test.YtmggichckhoomaaGreatDoorQbt
import Derived.Test.YtmggichckhoomaaGreatDoorHae
import Derived.Test.YtmggichckhoomaaGreatDoorHaa
import Derived.Test.YtmggichckhoomaaGreatDoorHab
import Derived.Test.YtmggichckhoomaaGreatDoorHac
import Derived.Test.YtmggichckhoomaaGreatDoorHad
import Derived.Deep.QuietTactic
import Derived.Test.YtmggichckhoomaaGreatDoorCards
import Derived.Test.YtmggichckhoomaaGreatDoorTie
import Derived.SevenTiedAt
namespace Go.Proofs.YtmggichckhoomaaGreatDoor.hartHolds
open Go.ChangeShapes Go.WideShapes Go.ChangeAt Go.RowKit
set_option linter.unusedVariables false
set_option linter.unusedSimpArgs false
theorem laid_sc (op : Int) (B : Nat) (W : World) (hC : Cod W) (k : W.heap[B]? = some (.cells #[.int .i64 op, .int .i64 3, .int .i64 1, .int .i64 2, .int .i64 0, .bool false, .bool false] 56 (0, 0))) :
    Calls Tryz.prog 10 #[.int .i64 1000, .slice (some ⟨B, 0, none⟩) 1 1] W fun e w' => e = .returned (.tuple #[.pointer (some ⟨W.heap.size + 1, 0, none⟩), .pointer (some ⟨W.heap.size + 3, 0, none⟩)]) ∧ Mem 92 w' (W.heap.size + 1) W.heap.size (scB op) ∧ Mem 72 w' (W.heap.size + 3) (W.heap.size + 2) (scB op) ∧ Nb W w' := by
  have hI : Ins W B 0 [scI op] := by
    intro j hj
    obtain rfl : j = 0 := by have : [scI op].length = 1 := rfl; omega
    have hc : ∀ m v, (#[.int .i64 op, .int .i64 3, .int .i64 1, .int .i64 2, .int .i64 0, .bool false, .bool false] : Array Value)[m]? = some v → W.cell? ⟨B, m, none⟩ = some v := fun m v hv => (cell_of_row _ _ m _ _ _ k).trans hv
    exact ⟨_, rfl, hc 0 _ rfl, hc 1 _ rfl, hc 2 _ rfl, hc 3 _ rfl, hc 4 _ rfl, hc 5 _ rfl, hc 6 _ rfl⟩
  have hR : ∀ i ∈ [scI op], InR i.2.2.2.2.1 := by
    intro i hi
    simp at hi
    subst hi
    show -9223372036854775808 ≤ (0 : Int) ∧ (0 : Int) < 9223372036854775808
    decide
  have h := laid_any 1000 ⟨by decide, by decide⟩ [scI op] (by simp) hR (some ⟨B, 0, none⟩) B 0 1 (fun _ => rfl) W hC (Lib.hid hI)
  have hs : sizeN 1000 = 1064 := by decide
  unfold LaidAns at h
  rw [hs] at h
  exact h
theorem place (a : Int) (h0 : 0 ≤ a) : ∃ A : Int, 64 + 8 * (a % 50) = A ∧ 64 ≤ A ∧ A ≤ 456 ∧ A % 8 = 0 := ⟨_, rfl, by omega, by omega, by omega⟩
theorem sc_row1 (held : Bool) (B z A v : Int) : (((hC ⟨0, List.replicate 32 0, held, B, z⟩).toArray.setIfInBounds 2 (.int .u64 A)).setIfInBounds 3 (.int .u64 v)) = (hC (scH A v held B z)).toArray := rfl
theorem sc_row0 (held : Bool) (B z y : Int) : (hC ⟨0, List.replicate 32 0, held, B, z⟩).toArray.setIfInBounds 35 (.int .i64 y) = (hC ⟨0, List.replicate 32 0, held, B, y⟩).toArray := rfl
theorem sc_ok (A v : Int) (held : Bool) (B z : Int) (hA0 : 0 ≤ A) (hA : A < 18446744073709551616) (hv : InU v) (hB0 : 0 ≤ B) (hB : B < 18446744073709551616) (hz : -9223372036854775808 ≤ z ∧ z < 9223372036854775808) : HOk (scH A v held B z) := by
  refine ⟨rfl, zero_in, fun y hy => ?_, ⟨hB0, hB⟩, hz⟩
  rcases List.mem_cons.1 hy with rfl | hy
  · exact zero_in
  rcases List.mem_cons.1 hy with rfl | hy
  · exact ⟨hA0, hA⟩
  rcases List.mem_cons.1 hy with rfl | hy
  · exact hv
  · rw [List.eq_of_mem_replicate hy]; exact zero_in
theorem ho4 : (67 : Int) = 67 ∧ (4 : Int) = 4 ∨ (67 : Int) = 78 ∧ (4 : Int) = 8 := by decide
theorem ho8 : (78 : Int) = 67 ∧ (8 : Int) = 4 ∨ (78 : Int) = 78 ∧ (8 : Int) = 8 := by decide
theorem sc_fld4 (v : Int) (hv : InU v) : Fld v 0 (8 * 4) = v % 4294967296 := by
  unfold Fld
  rw [show wid 0 (8 * 4) = 32 from by decide +kernel]
  unfold fld
  rw [show (2 : Nat) ^ Int.toNat 0 = 1 from rfl, Nat.div_one]
  have := hv.1
  omega
theorem sc_fld8 (v : Int) (hv : InU v) : Fld v 0 (8 * 8) = v := by
  unfold Fld
  rw [show wid 0 (8 * 8) = 64 from by decide +kernel]
  unfold fld
  rw [show (2 : Nat) ^ Int.toNat 0 = 1 from rfl, Nat.div_one]
  have := hv.1
  have := hv.2
  omega
theorem sc_and4 (v : Int) (hv : InU v) : bits .and .u64 v 4294967295 = v % 4294967296 := and_lo v hv.1 hv.2
theorem sc_mask8 (v : Int) (hv : InU v) : bits .and .u64 v (IntKind.u64.wrap (IntKind.u64.wrap 18446744073709551616 - 1)) = v := by
  rw [show IntKind.u64.wrap (IntKind.u64.wrap 18446744073709551616 - 1) = 18446744073709551615 from by decide +kernel]
  rw [u64_and v _ hv.1 hv.2 (by decide) (by decide), show (18446744073709551615 : Int).toNat = 2 ^ 64 - 1 from by decide +kernel, Nat.and_two_pow_sub_one_eq_mod]
  have := hv.1
  have := hv.2
  omega
theorem sc_and8 (v : Int) (hv : InU v) : bits .and .u64 v 18446744073709551615 = v := by
  rw [u64_and v _ hv.1 hv.2 (by decide) (by decide), show (18446744073709551615 : Int).toNat = 2 ^ 64 - 1 from by decide +kernel, Nat.and_two_pow_sub_one_eq_mod]
  have := hv.1
  have := hv.2
  omega
set_option maxRecDepth 100000 in
set_option maxHeartbeats 8000000 in
theorem walk (a b : Int) (wide other : Bool) (v : Int) (held : Bool) (ha : InU a) (hb : InU b) (hv : InU v) (w : World) (hC0 : Cod w) :
    Calls Tryz.prog 8 #[.int .u64 a, .int .u64 b, .bool wide, .bool other, .int .u64 v, .bool held] w fun e w' => e = .returned (.bool true) ∧ Below w.heap.size w w' := by
  obtain ⟨A, hA0, a0, a1, a8⟩ := place a ha.1
  obtain ⟨B, hB0, b0, b1, b8⟩ := place b hb.1
  have hPA := Lib.hid hA0
  have hPB := Lib.hid hB0
  clear hA0 hB0
  unfold InU at ha hb hv
  cases wide
  · go_enter Tryz.func8, Tryz.ntmps8
    go_wp2_with fail
    obtain ⟨W1, w1e⟩ : ∃ W1, w.alloc (Obj.cells #[.int .i64 67, .int .i64 3, .int .i64 1, .int .i64 2, .int .i64 0, .bool false, .bool false] 56) = W1 := ⟨_, rfl⟩
    have n1 : Nb w W1 := by rw [← w1e]; exact (Nb.refl _).alloc _
    have kI : W1.heap[w.heap.size]? = some (.cells #[.int .i64 67, .int .i64 3, .int .i64 1, .int .i64 2, .int .i64 0, .bool false, .bool false] 56 (0, 0)) := by rw [← w1e]; exact new_blk _ _ rfl
    rw [w1e]
    clear w1e
    have HL := Lib.hid (laid_sc 67 w.heap.size W1 (hC0.of_nb n1) kI)
    clear kI
    refine (HL.out).mono ?_
    rintro e w2 ⟨rfl, hM, -, n2⟩
    have nn := n1.trans n2
    have hz1 := Nb.size n1
    have hlm := hM.lt
    clear HL n1 n2
    go_upto_region 6 with (fail)
    rw [hPA.out]
    have hlen := Lib.hid (show (hC ⟨0, List.replicate 32 0, held, 64 + 8 * (b % 50), 4⟩).toArray.size = 36 from rfl)
    have hone := Lib.hid (one_all (hC_one ⟨0, List.replicate 32 0, held, 64 + 8 * (b % 50), 4⟩))
    go_upto_region 7 with (first
      | refine wpList_store_row rfl 25 (.tmp 18) (.tmp 43) rfl w2.heap.size (hC ⟨0, List.replicate 32 0, held, 64 + 8 * (b % 50), 4⟩).toArray rfl rfl 25 zerosH (heap_alloc_new w2 _) (by rw [size36, hlen.out]) (by rw [hlen.out]; rfl) hone.out ?_)
    obtain ⟨W3, w3e⟩ : ∃ W3, (w2.alloc (Obj.cells zerosH 25)).setRow w2.heap.size (hC ⟨0, List.replicate 32 0, held, 64 + 8 * (b % 50), 4⟩).toArray = W3 := ⟨_, rfl⟩
    have n3 : Nb w2 W3 := by rw [← w3e]; exact ((Nb.refl _).alloc _).setRow (Nat.le_refl _) _
    have kH : W3.heap[w2.heap.size]? = some (.cells (hC ⟨0, List.replicate 32 0, held, 64 + 8 * (b % 50), 4⟩).toArray 25 (0, 0)) := by rw [← w3e]; exact setRow_heap _ _ _ _ _ _ (heap_alloc_new w2 _)
    change Code.wp _ _ _ _ ((w2.alloc (Obj.cells zerosH 25)).setRow w2.heap.size (hC ⟨0, List.replicate 32 0, held, 64 + 8 * (b % 50), 4⟩).toArray)
    rw [w3e, hPB.out]
    rw [hPB.out] at kH
    clear w3e hlen hone
    have hM3 := hM.nb n3
    have hz2 := Nb.size nn
    have nn3 := nn.trans n3
    clear hM n3 nn
    cases other
    · go_upto_region 9 with (fail)
      obtain ⟨x1, q1⟩ : ∃ x, W3.cell? ⟨w2.heap.size, 2, none⟩ = some x := ⟨_, cell_of_row _ _ 2 _ _ _ kH⟩
      have f1 := frozen_blk kH 2
      have f2 := frozen_blk kH 3
      obtain ⟨x2, q2⟩ : ∃ x, W3.cell? ⟨w2.heap.size, 3, none⟩ = some x := ⟨_, cell_of_row _ _ 3 _ _ _ kH⟩
      go_upto_region 10 with (fail)
      obtain ⟨W5, w5e⟩ : ∃ W5, (W3.setCell ⟨w2.heap.size, 2, none⟩ (.int .u64 A)).setCell ⟨w2.heap.size, 3, none⟩ (.int .u64 v) = W5 := ⟨_, rfl⟩
      have kH5 : W5.heap[w2.heap.size]? = some (.cells (hC (scH A v held B 4)).toArray 25 (0, 0)) := by rw [← w5e, set_blk (set_blk kH 2 _) 3 _, sc_row1]
      have oth5 : ∀ k, k ≠ w2.heap.size → W5.heap[k]? = W3.heap[k]? := fun k hk => by rw [← w5e, Below.heap_setCell _ _ _ _ hk, Below.heap_setCell _ _ _ _ hk]
      have n5 : Nb w W5 := by rw [← w5e]; exact (Below.setCell nn3 (p := ⟨w2.heap.size, 2, none⟩) hz2 _).setCell (p := ⟨w2.heap.size, 3, none⟩) hz2 _
      rw [w5e]
      clear w5e q1 q2 f1 f2
      have hM5 : Mem 92 W5 (W1.heap.size + 1) W1.heap.size (scB 67) := ⟨(oth5 _ (by omega)).trans hM3.1, (oth5 _ (by omega)).trans hM3.2⟩
      have HS := step_any (scH A v held B 4) (W1.heap.size + 1) W1.heap.size (scB 67) (sc_ok A v held B 4 (by omega) (by omega) hv (by omega) (by omega) (by decide)) (by rw [sc_len]; decide) W5 (hC0.of_nb n5) hM5
      obtain ⟨pc, x3, bs2, hst, hbl, hcase⟩ := sc_step 67 4 A v ho4 a0 a1 a8 held B 4
      unfold StpAns at HS
      rw [hst] at HS
      dsimp only at HS
      obtain ⟨x, hx⟩ : ∃ x : HV, (⟨pc, 0 :: A :: v :: x3 :: List.replicate 28 0, false, 0, 0⟩ : HV) = x := ⟨_, rfl⟩
      have hx3 : x.x[3]? = some x3 := by rw [← hx]; rfl
      have hxl : x.x.length = 32 := by rw [← hx]; rfl
      have hxh : x.held = false := by rw [← hx]
      have hxa : x.addr = 0 := by rw [← hx]
      have hxs : x.size = 0 := by rw [← hx]
      rw [hx] at HS
      replace HS := Lib.hid HS
      have hlenS := Lib.hid (show (hC (scH A v held B 4)).toArray.size = 36 from rfl)
      have hlenx := Lib.hid (show (hC x).toArray.size = 36 by rw [List.size_toArray]; exact hC_len hxl)
      have honex := Lib.hid (one_all (hC_one x))
      have hcase' := Lib.hid hcase
      clear hst hx hM3 kH oth5 hcase
      go_wp2_with (first | refine wpList_load_row rfl 25 (.tmp 18) rfl w2.heap.size rfl 25 (hC (scH A v held B 4)).toArray (0, 0) _ kH5 Tryz.underlying25 rfl (by rw [size36, hlenS.out]) ?_)
      refine (HS.out).mono ?_
      rintro e w6 ⟨rfl, hM6, g6⟩
      have kH6 := (g6.block _ (lt_blk kH5) (by intro e; injection e with e; omega)).trans kH5
      have n6 : Nb w w6 := below_grown n5 g6 n5.size hz1
      clear HS g6 kH5 hM5 n5
      go_upto_region 11 with (first
        | refine wpList_store_row rfl 25 (.tmp 19) (.tmp 58) rfl w6.heap.size (hC x).toArray rfl rfl 25 zerosH (heap_alloc_new w6 _) (by rw [size36, hlenx.out]) (by rw [hlenx.out]; rfl) honex.out ?_)
      obtain ⟨W7, w7e⟩ : ∃ W7, (w6.alloc (Obj.cells zerosH 25)).setRow w6.heap.size (hC x).toArray = W7 := ⟨_, rfl⟩
      have m7 : Nb w6 W7 := by rw [← w7e]; exact ((Nb.refl _).alloc _).setRow (Nat.le_refl _) _
      have kX : W7.heap[w6.heap.size]? = some (.cells (hC x).toArray 25 (0, 0)) := by rw [← w7e]; exact setRow_heap _ _ _ _ _ _ (heap_alloc_new w6 _)
      change Code.wp _ _ _ _ ((w6.alloc (Obj.cells zerosH 25)).setRow w6.heap.size (hC x).toArray)
      rw [w7e]
      clear w7e
      have kH7 := m7.block kH6
      have n7 := n6.trans m7
      have hM7 := hM6.nb m7
      have cod7 := hC0.of_nb n7
      clear kH6 n6 hM6 m7
      have cA : W7.cell? ⟨w2.heap.size, 34, none⟩ = some (.int .u64 B) := (cell36 kH7 rfl).2.2.1
      obtain ⟨-, c33, c34, c35⟩ := cell36 kX hxl
      rw [hxh] at c33
      rw [hxa] at c34
      rw [hxs] at c35
      have c4 : W7.cell? ⟨w6.heap.size, 4, none⟩ = some (.int .u64 x3) := cellX kX 3 x3 hx3
      have HLd := load_any (W1.heap.size + 1) W1.heap.size bs2 A 4 (by omega) (by omega) (by rw [hbl]; decide) W7 hM7
      have hfl := sc_flt 67 4 A ho4 a0 a1 a8
      rw [sc_len] at hfl
      rw [hbl, hfl] at HLd
      clear kX kH7 hM7 hx3 hxl hxh hxa hxs hbl hfl
      cases held
      · obtain ⟨rfl, rfl⟩ : x3 = 1 ∧ bs2 = scB 67 := by
          have hq := hcase'.out
          simpa using hq
        rw [sc_zero 67 4 A ho4 a0 a1 a8] at HLd
        replace HLd := Lib.hid HLd
        clear hcase'
        go_wp2_with fail
        refine (HLd.out).mono ?_
        rintro e w' ⟨rfl, rfl⟩
        go_wp2_with fail
        refine (hlives_any _ cod7).mono ?_
        rintro e w9 ⟨rfl, n9⟩
        go_wp2_with fail
        go_ret
        exact ⟨rfl, n7.trans n9⟩
      · by_cases hBA : B = A
        · obtain ⟨rfl, rfl⟩ : x3 = 0 ∧ bs2 = stB (scB 67) A 4 (Fld v 0 (8 * 4)) := by
            have hq := hcase'.out
            simpa [hBA] using hq
          rw [sc_load 67 4 A v ho4 a0 a1 a8 hv, sc_fld4 v hv] at HLd
          replace HLd := Lib.hid HLd
          have hnd := sc_and4 v hv
          have hbe : (B == A) = true := beq_iff_eq.2 hBA
          clear hcase'
          go_wp2_with fail
          refine (HLd.out).mono ?_
          rintro e w' ⟨rfl, rfl⟩
          go_wp2_with fail
          refine (hlives_any _ cod7).mono ?_
          rintro e w9 ⟨rfl, n9⟩
          go_wp2_with fail
          go_ret
          exact ⟨rfl, n7.trans n9⟩
        · obtain ⟨rfl, rfl⟩ : x3 = 1 ∧ bs2 = scB 67 := by
            have hq := hcase'.out
            simpa [hBA] using hq
          rw [sc_zero 67 4 A ho4 a0 a1 a8] at HLd
          replace HLd := Lib.hid HLd
          have hbe : (B == A) = false := beq_eq_false_iff_ne.2 hBA
          clear hcase'
          go_wp2_with fail
          refine (HLd.out).mono ?_
          rintro e w' ⟨rfl, rfl⟩
          go_wp2_with fail
          refine (hlives_any _ cod7).mono ?_
          rintro e w9 ⟨rfl, n9⟩
          go_wp2_with fail
          go_ret
          exact ⟨rfl, n7.trans n9⟩
    · obtain ⟨x1, q1⟩ : ∃ x, W3.cell? ⟨w2.heap.size, 35, none⟩ = some x := ⟨_, cell_of_row _ _ 35 _ _ _ kH⟩
      have f1 := frozen_blk kH 35
      go_upto_region 9 with (fail)
      obtain ⟨W4, w4e⟩ : ∃ W4, W3.setCell ⟨w2.heap.size, 35, none⟩ (.int .i64 8) = W4 := ⟨_, rfl⟩
      have kH4 : W4.heap[w2.heap.size]? = some (.cells (hC ⟨0, List.replicate 32 0, held, B, 8⟩).toArray 25 (0, 0)) := by rw [← w4e, set_blk kH 35 _, sc_row0]
      have oth4 : ∀ k, k ≠ w2.heap.size → W4.heap[k]? = W3.heap[k]? := fun k hk => by rw [← w4e, Below.heap_setCell _ _ _ _ hk]
      have n4 : Nb w W4 := by rw [← w4e]; exact Below.setCell nn3 (p := ⟨w2.heap.size, 35, none⟩) hz2 _
      rw [w4e]
      clear w4e q1 f1
      replace hM3 : Mem 92 W4 (W1.heap.size + 1) W1.heap.size (scB 67) := ⟨(oth4 _ (by omega)).trans hM3.1, (oth4 _ (by omega)).trans hM3.2⟩
      clear kH oth4 nn3
      obtain ⟨x1, q1⟩ : ∃ x, W4.cell? ⟨w2.heap.size, 2, none⟩ = some x := ⟨_, cell_of_row _ _ 2 _ _ _ kH4⟩
      have f1 := frozen_blk kH4 2
      have f2 := frozen_blk kH4 3
      obtain ⟨x2, q2⟩ : ∃ x, W4.cell? ⟨w2.heap.size, 3, none⟩ = some x := ⟨_, cell_of_row _ _ 3 _ _ _ kH4⟩
      go_upto_region 10 with (fail)
      obtain ⟨W5, w5e⟩ : ∃ W5, (W4.setCell ⟨w2.heap.size, 2, none⟩ (.int .u64 A)).setCell ⟨w2.heap.size, 3, none⟩ (.int .u64 v) = W5 := ⟨_, rfl⟩
      have kH5 : W5.heap[w2.heap.size]? = some (.cells (hC (scH A v held B 8)).toArray 25 (0, 0)) := by rw [← w5e, set_blk (set_blk kH4 2 _) 3 _, sc_row1]
      have oth5 : ∀ k, k ≠ w2.heap.size → W5.heap[k]? = W4.heap[k]? := fun k hk => by rw [← w5e, Below.heap_setCell _ _ _ _ hk, Below.heap_setCell _ _ _ _ hk]
      have n5 : Nb w W5 := by rw [← w5e]; exact (Below.setCell n4 (p := ⟨w2.heap.size, 2, none⟩) hz2 _).setCell (p := ⟨w2.heap.size, 3, none⟩) hz2 _
      rw [w5e]
      clear w5e q1 q2 f1 f2
      have hM5 : Mem 92 W5 (W1.heap.size + 1) W1.heap.size (scB 67) := ⟨(oth5 _ (by omega)).trans hM3.1, (oth5 _ (by omega)).trans hM3.2⟩
      have HS := step_any (scH A v held B 8) (W1.heap.size + 1) W1.heap.size (scB 67) (sc_ok A v held B 8 (by omega) (by omega) hv (by omega) (by omega) (by decide)) (by rw [sc_len]; decide) W5 (hC0.of_nb n5) hM5
      obtain ⟨pc, x3, bs2, hst, hbl, hcase⟩ := sc_step 67 4 A v ho4 a0 a1 a8 held B 8
      unfold StpAns at HS
      rw [hst] at HS
      dsimp only at HS
      obtain ⟨x, hx⟩ : ∃ x : HV, (⟨pc, 0 :: A :: v :: x3 :: List.replicate 28 0, false, 0, 0⟩ : HV) = x := ⟨_, rfl⟩
      have hx3 : x.x[3]? = some x3 := by rw [← hx]; rfl
      have hxl : x.x.length = 32 := by rw [← hx]; rfl
      have hxh : x.held = false := by rw [← hx]
      have hxa : x.addr = 0 := by rw [← hx]
      have hxs : x.size = 0 := by rw [← hx]
      rw [hx] at HS
      replace HS := Lib.hid HS
      have hlenS := Lib.hid (show (hC (scH A v held B 8)).toArray.size = 36 from rfl)
      have hlenx := Lib.hid (show (hC x).toArray.size = 36 by rw [List.size_toArray]; exact hC_len hxl)
      have honex := Lib.hid (one_all (hC_one x))
      have hcase' := Lib.hid hcase
      clear hst hx hM3 kH4 oth5 hcase
      go_wp2_with (first | refine wpList_load_row rfl 25 (.tmp 18) rfl w2.heap.size rfl 25 (hC (scH A v held B 8)).toArray (0, 0) _ kH5 Tryz.underlying25 rfl (by rw [size36, hlenS.out]) ?_)
      refine (HS.out).mono ?_
      rintro e w6 ⟨rfl, hM6, g6⟩
      have kH6 := (g6.block _ (lt_blk kH5) (by intro e; injection e with e; omega)).trans kH5
      have n6 : Nb w w6 := below_grown n5 g6 n5.size hz1
      clear HS g6 kH5 hM5 n5
      go_upto_region 11 with (first
        | refine wpList_store_row rfl 25 (.tmp 19) (.tmp 58) rfl w6.heap.size (hC x).toArray rfl rfl 25 zerosH (heap_alloc_new w6 _) (by rw [size36, hlenx.out]) (by rw [hlenx.out]; rfl) honex.out ?_)
      obtain ⟨W7, w7e⟩ : ∃ W7, (w6.alloc (Obj.cells zerosH 25)).setRow w6.heap.size (hC x).toArray = W7 := ⟨_, rfl⟩
      have m7 : Nb w6 W7 := by rw [← w7e]; exact ((Nb.refl _).alloc _).setRow (Nat.le_refl _) _
      have kX : W7.heap[w6.heap.size]? = some (.cells (hC x).toArray 25 (0, 0)) := by rw [← w7e]; exact setRow_heap _ _ _ _ _ _ (heap_alloc_new w6 _)
      change Code.wp _ _ _ _ ((w6.alloc (Obj.cells zerosH 25)).setRow w6.heap.size (hC x).toArray)
      rw [w7e]
      clear w7e
      have kH7 := m7.block kH6
      have n7 := n6.trans m7
      have hM7 := hM6.nb m7
      have cod7 := hC0.of_nb n7
      clear kH6 n6 hM6 m7
      have cA : W7.cell? ⟨w2.heap.size, 34, none⟩ = some (.int .u64 B) := (cell36 kH7 rfl).2.2.1
      obtain ⟨-, c33, c34, c35⟩ := cell36 kX hxl
      rw [hxh] at c33
      rw [hxa] at c34
      rw [hxs] at c35
      have c4 : W7.cell? ⟨w6.heap.size, 4, none⟩ = some (.int .u64 x3) := cellX kX 3 x3 hx3
      have HLd := load_any (W1.heap.size + 1) W1.heap.size bs2 A 4 (by omega) (by omega) (by rw [hbl]; decide) W7 hM7
      have hfl := sc_flt 67 4 A ho4 a0 a1 a8
      rw [sc_len] at hfl
      rw [hbl, hfl] at HLd
      clear kX kH7 hM7 hx3 hxl hxh hxa hxs hbl hfl
      cases held
      · obtain ⟨rfl, rfl⟩ : x3 = 1 ∧ bs2 = scB 67 := by
          have hq := hcase'.out
          simpa using hq
        rw [sc_zero 67 4 A ho4 a0 a1 a8] at HLd
        replace HLd := Lib.hid HLd
        clear hcase'
        go_wp2_with fail
        refine (HLd.out).mono ?_
        rintro e w' ⟨rfl, rfl⟩
        go_wp2_with fail
        refine (hlives_any _ cod7).mono ?_
        rintro e w9 ⟨rfl, n9⟩
        go_wp2_with fail
        go_ret
        exact ⟨rfl, n7.trans n9⟩
      · by_cases hBA : B = A
        · obtain ⟨rfl, rfl⟩ : x3 = 1 ∧ bs2 = scB 67 := by
            have hq := hcase'.out
            simpa using hq
          rw [sc_zero 67 4 A ho4 a0 a1 a8] at HLd
          replace HLd := Lib.hid HLd
          have hbe : (B == A) = true := beq_iff_eq.2 hBA
          clear hcase'
          go_wp2_with fail
          refine (HLd.out).mono ?_
          rintro e w' ⟨rfl, rfl⟩
          go_wp2_with fail
          refine (hlives_any _ cod7).mono ?_
          rintro e w9 ⟨rfl, n9⟩
          go_wp2_with fail
          go_ret
          exact ⟨rfl, n7.trans n9⟩
        · obtain ⟨rfl, rfl⟩ : x3 = 1 ∧ bs2 = scB 67 := by
            have hq := hcase'.out
            simpa [hBA] using hq
          rw [sc_zero 67 4 A ho4 a0 a1 a8] at HLd
          replace HLd := Lib.hid HLd
          have hbe : (B == A) = false := beq_eq_false_iff_ne.2 hBA
          clear hcase'
          go_wp2_with fail
          refine (HLd.out).mono ?_
          rintro e w' ⟨rfl, rfl⟩
          go_wp2_with fail
          refine (hlives_any _ cod7).mono ?_
          rintro e w9 ⟨rfl, n9⟩
          go_wp2_with fail
          go_ret
          exact ⟨rfl, n7.trans n9⟩
  · go_enter Tryz.func8, Tryz.ntmps8
    go_wp2_with fail
    obtain ⟨W1, w1e⟩ : ∃ W1, w.alloc (Obj.cells #[.int .i64 78, .int .i64 3, .int .i64 1, .int .i64 2, .int .i64 0, .bool false, .bool false] 56) = W1 := ⟨_, rfl⟩
    have n1 : Nb w W1 := by rw [← w1e]; exact (Nb.refl _).alloc _
    have kI : W1.heap[w.heap.size]? = some (.cells #[.int .i64 78, .int .i64 3, .int .i64 1, .int .i64 2, .int .i64 0, .bool false, .bool false] 56 (0, 0)) := by rw [← w1e]; exact new_blk _ _ rfl
    rw [w1e]
    clear w1e
    have HL := Lib.hid (laid_sc 78 w.heap.size W1 (hC0.of_nb n1) kI)
    clear kI
    refine (HL.out).mono ?_
    rintro e w2 ⟨rfl, hM, -, n2⟩
    have nn := n1.trans n2
    have hz1 := Nb.size n1
    have hlm := hM.lt
    clear HL n1 n2
    go_upto_region 6 with (fail)
    rw [hPA.out]
    have hlen := Lib.hid (show (hC ⟨0, List.replicate 32 0, held, 64 + 8 * (b % 50), 8⟩).toArray.size = 36 from rfl)
    have hone := Lib.hid (one_all (hC_one ⟨0, List.replicate 32 0, held, 64 + 8 * (b % 50), 8⟩))
    go_upto_region 7 with (first
      | refine wpList_store_row rfl 25 (.tmp 18) (.tmp 43) rfl w2.heap.size (hC ⟨0, List.replicate 32 0, held, 64 + 8 * (b % 50), 8⟩).toArray rfl rfl 25 zerosH (heap_alloc_new w2 _) (by rw [size36, hlen.out]) (by rw [hlen.out]; rfl) hone.out ?_)
    obtain ⟨W3, w3e⟩ : ∃ W3, (w2.alloc (Obj.cells zerosH 25)).setRow w2.heap.size (hC ⟨0, List.replicate 32 0, held, 64 + 8 * (b % 50), 8⟩).toArray = W3 := ⟨_, rfl⟩
    have n3 : Nb w2 W3 := by rw [← w3e]; exact ((Nb.refl _).alloc _).setRow (Nat.le_refl _) _
    have kH : W3.heap[w2.heap.size]? = some (.cells (hC ⟨0, List.replicate 32 0, held, 64 + 8 * (b % 50), 8⟩).toArray 25 (0, 0)) := by rw [← w3e]; exact setRow_heap _ _ _ _ _ _ (heap_alloc_new w2 _)
    change Code.wp _ _ _ _ ((w2.alloc (Obj.cells zerosH 25)).setRow w2.heap.size (hC ⟨0, List.replicate 32 0, held, 64 + 8 * (b % 50), 8⟩).toArray)
    rw [w3e, hPB.out]
    rw [hPB.out] at kH
    clear w3e hlen hone
    have hM3 := hM.nb n3
    have hz2 := Nb.size nn
    have nn3 := nn.trans n3
    clear hM n3 nn
    cases other
    · go_upto_region 9 with (fail)
      obtain ⟨x1, q1⟩ : ∃ x, W3.cell? ⟨w2.heap.size, 2, none⟩ = some x := ⟨_, cell_of_row _ _ 2 _ _ _ kH⟩
      have f1 := frozen_blk kH 2
      have f2 := frozen_blk kH 3
      obtain ⟨x2, q2⟩ : ∃ x, W3.cell? ⟨w2.heap.size, 3, none⟩ = some x := ⟨_, cell_of_row _ _ 3 _ _ _ kH⟩
      go_upto_region 10 with (fail)
      obtain ⟨W5, w5e⟩ : ∃ W5, (W3.setCell ⟨w2.heap.size, 2, none⟩ (.int .u64 A)).setCell ⟨w2.heap.size, 3, none⟩ (.int .u64 v) = W5 := ⟨_, rfl⟩
      have kH5 : W5.heap[w2.heap.size]? = some (.cells (hC (scH A v held B 8)).toArray 25 (0, 0)) := by rw [← w5e, set_blk (set_blk kH 2 _) 3 _, sc_row1]
      have oth5 : ∀ k, k ≠ w2.heap.size → W5.heap[k]? = W3.heap[k]? := fun k hk => by rw [← w5e, Below.heap_setCell _ _ _ _ hk, Below.heap_setCell _ _ _ _ hk]
      have n5 : Nb w W5 := by rw [← w5e]; exact (Below.setCell nn3 (p := ⟨w2.heap.size, 2, none⟩) hz2 _).setCell (p := ⟨w2.heap.size, 3, none⟩) hz2 _
      rw [w5e]
      clear w5e q1 q2 f1 f2
      have hM5 : Mem 92 W5 (W1.heap.size + 1) W1.heap.size (scB 78) := ⟨(oth5 _ (by omega)).trans hM3.1, (oth5 _ (by omega)).trans hM3.2⟩
      have HS := step_any (scH A v held B 8) (W1.heap.size + 1) W1.heap.size (scB 78) (sc_ok A v held B 8 (by omega) (by omega) hv (by omega) (by omega) (by decide)) (by rw [sc_len]; decide) W5 (hC0.of_nb n5) hM5
      obtain ⟨pc, x3, bs2, hst, hbl, hcase⟩ := sc_step 78 8 A v ho8 a0 a1 a8 held B 8
      unfold StpAns at HS
      rw [hst] at HS
      dsimp only at HS
      obtain ⟨x, hx⟩ : ∃ x : HV, (⟨pc, 0 :: A :: v :: x3 :: List.replicate 28 0, false, 0, 0⟩ : HV) = x := ⟨_, rfl⟩
      have hx3 : x.x[3]? = some x3 := by rw [← hx]; rfl
      have hxl : x.x.length = 32 := by rw [← hx]; rfl
      have hxh : x.held = false := by rw [← hx]
      have hxa : x.addr = 0 := by rw [← hx]
      have hxs : x.size = 0 := by rw [← hx]
      rw [hx] at HS
      replace HS := Lib.hid HS
      have hlenS := Lib.hid (show (hC (scH A v held B 8)).toArray.size = 36 from rfl)
      have hlenx := Lib.hid (show (hC x).toArray.size = 36 by rw [List.size_toArray]; exact hC_len hxl)
      have honex := Lib.hid (one_all (hC_one x))
      have hcase' := Lib.hid hcase
      clear hst hx hM3 kH oth5 hcase
      go_wp2_with (first | refine wpList_load_row rfl 25 (.tmp 18) rfl w2.heap.size rfl 25 (hC (scH A v held B 8)).toArray (0, 0) _ kH5 Tryz.underlying25 rfl (by rw [size36, hlenS.out]) ?_)
      refine (HS.out).mono ?_
      rintro e w6 ⟨rfl, hM6, g6⟩
      have kH6 := (g6.block _ (lt_blk kH5) (by intro e; injection e with e; omega)).trans kH5
      have n6 : Nb w w6 := below_grown n5 g6 n5.size hz1
      clear HS g6 kH5 hM5 n5
      go_upto_region 11 with (first
        | refine wpList_store_row rfl 25 (.tmp 19) (.tmp 58) rfl w6.heap.size (hC x).toArray rfl rfl 25 zerosH (heap_alloc_new w6 _) (by rw [size36, hlenx.out]) (by rw [hlenx.out]; rfl) honex.out ?_)
      obtain ⟨W7, w7e⟩ : ∃ W7, (w6.alloc (Obj.cells zerosH 25)).setRow w6.heap.size (hC x).toArray = W7 := ⟨_, rfl⟩
      have m7 : Nb w6 W7 := by rw [← w7e]; exact ((Nb.refl _).alloc _).setRow (Nat.le_refl _) _
      have kX : W7.heap[w6.heap.size]? = some (.cells (hC x).toArray 25 (0, 0)) := by rw [← w7e]; exact setRow_heap _ _ _ _ _ _ (heap_alloc_new w6 _)
      change Code.wp _ _ _ _ ((w6.alloc (Obj.cells zerosH 25)).setRow w6.heap.size (hC x).toArray)
      rw [w7e]
      clear w7e
      have kH7 := m7.block kH6
      have n7 := n6.trans m7
      have hM7 := hM6.nb m7
      have cod7 := hC0.of_nb n7
      clear kH6 n6 hM6 m7
      have cA : W7.cell? ⟨w2.heap.size, 34, none⟩ = some (.int .u64 B) := (cell36 kH7 rfl).2.2.1
      obtain ⟨-, c33, c34, c35⟩ := cell36 kX hxl
      rw [hxh] at c33
      rw [hxa] at c34
      rw [hxs] at c35
      have c4 : W7.cell? ⟨w6.heap.size, 4, none⟩ = some (.int .u64 x3) := cellX kX 3 x3 hx3
      have HLd := load_any (W1.heap.size + 1) W1.heap.size bs2 A 8 (by omega) (by omega) (by rw [hbl]; decide) W7 hM7
      have hfl := sc_flt 78 8 A ho8 a0 a1 a8
      rw [sc_len] at hfl
      rw [hbl, hfl] at HLd
      clear kX kH7 hM7 hx3 hxl hxh hxa hxs hbl hfl
      cases held
      · obtain ⟨rfl, rfl⟩ : x3 = 1 ∧ bs2 = scB 78 := by
          have hq := hcase'.out
          simpa using hq
        rw [sc_zero 78 8 A ho8 a0 a1 a8] at HLd
        replace HLd := Lib.hid HLd
        clear hcase'
        go_wp2_with fail
        refine (HLd.out).mono ?_
        rintro e w' ⟨rfl, rfl⟩
        go_wp2_with fail
        refine (hlives_any _ cod7).mono ?_
        rintro e w9 ⟨rfl, n9⟩
        go_wp2_with fail
        go_ret
        exact ⟨rfl, n7.trans n9⟩
      · by_cases hBA : B = A
        · obtain ⟨rfl, rfl⟩ : x3 = 0 ∧ bs2 = stB (scB 78) A 8 (Fld v 0 (8 * 8)) := by
            have hq := hcase'.out
            simpa [hBA] using hq
          rw [sc_load 78 8 A v ho8 a0 a1 a8 hv, sc_fld8 v hv] at HLd
          replace HLd := Lib.hid HLd
          have hbe : (B == A) = true := beq_iff_eq.2 hBA
          clear hcase'
          go_wp2_with fail
          refine (HLd.out).mono ?_
          rintro e w' ⟨rfl, rfl⟩
          go_upto_region 15 with (fail)
          go_upto_region 16 with (fail)
          rw [sc_mask8 v hv]
          go_wp2_with fail
          refine (hlives_any _ cod7).mono ?_
          rintro e w9 ⟨rfl, n9⟩
          go_wp2_with fail
          go_ret
          exact ⟨rfl, n7.trans n9⟩
        · obtain ⟨rfl, rfl⟩ : x3 = 1 ∧ bs2 = scB 78 := by
            have hq := hcase'.out
            simpa [hBA] using hq
          rw [sc_zero 78 8 A ho8 a0 a1 a8] at HLd
          replace HLd := Lib.hid HLd
          have hbe : (B == A) = false := beq_eq_false_iff_ne.2 hBA
          clear hcase'
          go_wp2_with fail
          refine (HLd.out).mono ?_
          rintro e w' ⟨rfl, rfl⟩
          go_wp2_with fail
          refine (hlives_any _ cod7).mono ?_
          rintro e w9 ⟨rfl, n9⟩
          go_wp2_with fail
          go_ret
          exact ⟨rfl, n7.trans n9⟩
    · obtain ⟨x1, q1⟩ : ∃ x, W3.cell? ⟨w2.heap.size, 35, none⟩ = some x := ⟨_, cell_of_row _ _ 35 _ _ _ kH⟩
      have f1 := frozen_blk kH 35
      go_upto_region 9 with (fail)
      obtain ⟨W4, w4e⟩ : ∃ W4, W3.setCell ⟨w2.heap.size, 35, none⟩ (.int .i64 4) = W4 := ⟨_, rfl⟩
      have kH4 : W4.heap[w2.heap.size]? = some (.cells (hC ⟨0, List.replicate 32 0, held, B, 4⟩).toArray 25 (0, 0)) := by rw [← w4e, set_blk kH 35 _, sc_row0]
      have oth4 : ∀ k, k ≠ w2.heap.size → W4.heap[k]? = W3.heap[k]? := fun k hk => by rw [← w4e, Below.heap_setCell _ _ _ _ hk]
      have n4 : Nb w W4 := by rw [← w4e]; exact Below.setCell nn3 (p := ⟨w2.heap.size, 35, none⟩) hz2 _
      rw [w4e]
      clear w4e q1 f1
      replace hM3 : Mem 92 W4 (W1.heap.size + 1) W1.heap.size (scB 78) := ⟨(oth4 _ (by omega)).trans hM3.1, (oth4 _ (by omega)).trans hM3.2⟩
      clear kH oth4 nn3
      obtain ⟨x1, q1⟩ : ∃ x, W4.cell? ⟨w2.heap.size, 2, none⟩ = some x := ⟨_, cell_of_row _ _ 2 _ _ _ kH4⟩
      have f1 := frozen_blk kH4 2
      have f2 := frozen_blk kH4 3
      obtain ⟨x2, q2⟩ : ∃ x, W4.cell? ⟨w2.heap.size, 3, none⟩ = some x := ⟨_, cell_of_row _ _ 3 _ _ _ kH4⟩
      go_upto_region 10 with (fail)
      obtain ⟨W5, w5e⟩ : ∃ W5, (W4.setCell ⟨w2.heap.size, 2, none⟩ (.int .u64 A)).setCell ⟨w2.heap.size, 3, none⟩ (.int .u64 v) = W5 := ⟨_, rfl⟩
      have kH5 : W5.heap[w2.heap.size]? = some (.cells (hC (scH A v held B 4)).toArray 25 (0, 0)) := by rw [← w5e, set_blk (set_blk kH4 2 _) 3 _, sc_row1]
      have oth5 : ∀ k, k ≠ w2.heap.size → W5.heap[k]? = W4.heap[k]? := fun k hk => by rw [← w5e, Below.heap_setCell _ _ _ _ hk, Below.heap_setCell _ _ _ _ hk]
      have n5 : Nb w W5 := by rw [← w5e]; exact (Below.setCell n4 (p := ⟨w2.heap.size, 2, none⟩) hz2 _).setCell (p := ⟨w2.heap.size, 3, none⟩) hz2 _
      rw [w5e]
      clear w5e q1 q2 f1 f2
      have hM5 : Mem 92 W5 (W1.heap.size + 1) W1.heap.size (scB 78) := ⟨(oth5 _ (by omega)).trans hM3.1, (oth5 _ (by omega)).trans hM3.2⟩
      have HS := step_any (scH A v held B 4) (W1.heap.size + 1) W1.heap.size (scB 78) (sc_ok A v held B 4 (by omega) (by omega) hv (by omega) (by omega) (by decide)) (by rw [sc_len]; decide) W5 (hC0.of_nb n5) hM5
      obtain ⟨pc, x3, bs2, hst, hbl, hcase⟩ := sc_step 78 8 A v ho8 a0 a1 a8 held B 4
      unfold StpAns at HS
      rw [hst] at HS
      dsimp only at HS
      obtain ⟨x, hx⟩ : ∃ x : HV, (⟨pc, 0 :: A :: v :: x3 :: List.replicate 28 0, false, 0, 0⟩ : HV) = x := ⟨_, rfl⟩
      have hx3 : x.x[3]? = some x3 := by rw [← hx]; rfl
      have hxl : x.x.length = 32 := by rw [← hx]; rfl
      have hxh : x.held = false := by rw [← hx]
      have hxa : x.addr = 0 := by rw [← hx]
      have hxs : x.size = 0 := by rw [← hx]
      rw [hx] at HS
      replace HS := Lib.hid HS
      have hlenS := Lib.hid (show (hC (scH A v held B 4)).toArray.size = 36 from rfl)
      have hlenx := Lib.hid (show (hC x).toArray.size = 36 by rw [List.size_toArray]; exact hC_len hxl)
      have honex := Lib.hid (one_all (hC_one x))
      have hcase' := Lib.hid hcase
      clear hst hx hM3 kH4 oth5 hcase
      go_wp2_with (first | refine wpList_load_row rfl 25 (.tmp 18) rfl w2.heap.size rfl 25 (hC (scH A v held B 4)).toArray (0, 0) _ kH5 Tryz.underlying25 rfl (by rw [size36, hlenS.out]) ?_)
      refine (HS.out).mono ?_
      rintro e w6 ⟨rfl, hM6, g6⟩
      have kH6 := (g6.block _ (lt_blk kH5) (by intro e; injection e with e; omega)).trans kH5
      have n6 : Nb w w6 := below_grown n5 g6 n5.size hz1
      clear HS g6 kH5 hM5 n5
      go_upto_region 11 with (first
        | refine wpList_store_row rfl 25 (.tmp 19) (.tmp 58) rfl w6.heap.size (hC x).toArray rfl rfl 25 zerosH (heap_alloc_new w6 _) (by rw [size36, hlenx.out]) (by rw [hlenx.out]; rfl) honex.out ?_)
      obtain ⟨W7, w7e⟩ : ∃ W7, (w6.alloc (Obj.cells zerosH 25)).setRow w6.heap.size (hC x).toArray = W7 := ⟨_, rfl⟩
      have m7 : Nb w6 W7 := by rw [← w7e]; exact ((Nb.refl _).alloc _).setRow (Nat.le_refl _) _
      have kX : W7.heap[w6.heap.size]? = some (.cells (hC x).toArray 25 (0, 0)) := by rw [← w7e]; exact setRow_heap _ _ _ _ _ _ (heap_alloc_new w6 _)
      change Code.wp _ _ _ _ ((w6.alloc (Obj.cells zerosH 25)).setRow w6.heap.size (hC x).toArray)
      rw [w7e]
      clear w7e
      have kH7 := m7.block kH6
      have n7 := n6.trans m7
      have hM7 := hM6.nb m7
      have cod7 := hC0.of_nb n7
      clear kH6 n6 hM6 m7
      have cA : W7.cell? ⟨w2.heap.size, 34, none⟩ = some (.int .u64 B) := (cell36 kH7 rfl).2.2.1
      obtain ⟨-, c33, c34, c35⟩ := cell36 kX hxl
      rw [hxh] at c33
      rw [hxa] at c34
      rw [hxs] at c35
      have c4 : W7.cell? ⟨w6.heap.size, 4, none⟩ = some (.int .u64 x3) := cellX kX 3 x3 hx3
      have HLd := load_any (W1.heap.size + 1) W1.heap.size bs2 A 8 (by omega) (by omega) (by rw [hbl]; decide) W7 hM7
      have hfl := sc_flt 78 8 A ho8 a0 a1 a8
      rw [sc_len] at hfl
      rw [hbl, hfl] at HLd
      clear kX kH7 hM7 hx3 hxl hxh hxa hxs hbl hfl
      cases held
      · obtain ⟨rfl, rfl⟩ : x3 = 1 ∧ bs2 = scB 78 := by
          have hq := hcase'.out
          simpa using hq
        rw [sc_zero 78 8 A ho8 a0 a1 a8] at HLd
        replace HLd := Lib.hid HLd
        clear hcase'
        go_wp2_with fail
        refine (HLd.out).mono ?_
        rintro e w' ⟨rfl, rfl⟩
        go_wp2_with fail
        refine (hlives_any _ cod7).mono ?_
        rintro e w9 ⟨rfl, n9⟩
        go_wp2_with fail
        go_ret
        exact ⟨rfl, n7.trans n9⟩
      · by_cases hBA : B = A
        · obtain ⟨rfl, rfl⟩ : x3 = 1 ∧ bs2 = scB 78 := by
            have hq := hcase'.out
            simpa using hq
          rw [sc_zero 78 8 A ho8 a0 a1 a8] at HLd
          replace HLd := Lib.hid HLd
          have hbe : (B == A) = true := beq_iff_eq.2 hBA
          clear hcase'
          go_wp2_with fail
          refine (HLd.out).mono ?_
          rintro e w' ⟨rfl, rfl⟩
          go_wp2_with fail
          refine (hlives_any _ cod7).mono ?_
          rintro e w9 ⟨rfl, n9⟩
          go_wp2_with fail
          go_ret
          exact ⟨rfl, n7.trans n9⟩
        · obtain ⟨rfl, rfl⟩ : x3 = 1 ∧ bs2 = scB 78 := by
            have hq := hcase'.out
            simpa [hBA] using hq
          rw [sc_zero 78 8 A ho8 a0 a1 a8] at HLd
          replace HLd := Lib.hid HLd
          have hbe : (B == A) = false := beq_eq_false_iff_ne.2 hBA
          clear hcase'
          go_wp2_with fail
          refine (HLd.out).mono ?_
          rintro e w' ⟨rfl, rfl⟩
          go_wp2_with fail
          refine (hlives_any _ cod7).mono ?_
          rintro e w9 ⟨rfl, n9⟩
          go_wp2_with fail
          go_ret
          exact ⟨rfl, n7.trans n9⟩
/-! The row's step. -/
set_option maxRecDepth 100000 in
set_option maxHeartbeats 1000000 in
theorem lifted (os : Os) (started : os.Started) (H : Type) (enc : TypeId × Value → H) :
    ReturnsInHanded {} Tryz.checked os 8 .any (fun w args => (Rows.hartHoldsSpec.pre enc Tryz.prog Tryz.f8 [] false w args ∧ laidMetH Tryz.prog laidL w) ∧ sizedMet enc Tryz.prog Tryz.f8 (OpenSpec.ofChange Rows.hartHoldsSpec) false w args)
      (Rows.hartHoldsSpec.post enc Tryz.prog Tryz.f8 false true false false) := by
  refine returnsInHanded_of_change_and (C := Tryz.checked) (X := fun w _ => laidMetH Tryz.prog laidL w) (fun _ _ _ hh h => h.of_heap hh) own started (by kernel_rfl) Tryz.func8
    (ChangeSpec.witness_shaped (enc := enc) (C := Tryz.checked) (os := os) (X := fun w _ => laidMetH Tryz.prog laidL w) false (World.doorLaid Tryz.prog 400 os) #[.int .u64 0, .int .u64 0, .bool false, .bool false, .int .u64 0, .bool false] 8 rfl (World.shaped_of_RefB (by kernel_rfl) (by kernel_rfl)) (by kernel_rfl) (by kernel_rfl) (by kernel_rfl) (door_met os _)) ?_
  intro W base args ds gs before hval0 hW _ _ hL _
  have hval : ∀ (j : Nat) t v, Tryz.f8.params[j]? = some t → args[j]? = some v → Value.okWide Tryz.prog W .any base t v := hval0
  have hW' := hW
  obtain ⟨p, q, hA0, hV, rfl, hfz, hnd⟩ := hW
  have hA1 : DataW.TrodAll enc Tryz.prog W 0 (fun _ => true) true Tryz.f8.params.toList args.toList ds p := hA0
  have hA := hA1
  rw [Tryz.params8] at hA hval
  obtain ⟨v0, vs0, d0, ds0, p0, q0, hargs0, rfl, -, h0, r0⟩ := trodAll_cons hA
  obtain ⟨v1, vs1, d1, ds1, p1, q1, hargs1, rfl, -, h1, r1⟩ := trodAll_cons r0
  obtain ⟨v2, vs2, d2, ds2, p2, q2, hargs2, rfl, -, h2, r2⟩ := trodAll_cons r1
  obtain ⟨v3, vs3, d3, ds3, p3, q3, hargs3, rfl, -, h3, r3⟩ := trodAll_cons r2
  obtain ⟨v4, vs4, d4, ds4, p4, q4, hargs4, rfl, -, h4, r4⟩ := trodAll_cons r3
  obtain ⟨v5, vs5, d5, ds5, p5, q5, hargs5, rfl, -, h5, r5⟩ := trodAll_cons r4
  obtain ⟨rfl, rfl, -⟩ := trodAll_nil r5
  obtain rfl : args = #[v0, v1, v2, v3, v4, v5] := by cases args; simp_all
  obtain ⟨rfl, rfl⟩ := trodVars_none hV
  obtain ⟨n0, rfl, -, -, w0⟩ := open_int Tryz.underlying22 (hval 0 22 v0 rfl rfl) h0
  obtain ⟨n1, rfl, -, -, w1⟩ := open_int Tryz.underlying22 (hval 1 22 v1 rfl rfl) h1
  obtain ⟨n2, rfl, -, -⟩ := open_bool Tryz.underlying4 (hval 2 4 v2 rfl rfl) h2
  obtain ⟨n3, rfl, -, -⟩ := open_bool Tryz.underlying4 (hval 3 4 v3 rfl rfl) h3
  obtain ⟨n4, rfl, -, -, w4⟩ := open_int Tryz.underlying22 (hval 4 22 v4 rfl rfl) h4
  obtain ⟨n5, rfl, -, -⟩ := open_bool Tryz.underlying4 (hval 5 4 v5 rfl rfl) h5
  clear hval0
  simp only [List.append_nil] at hW'
  refine (walk n0 n1 n2 n3 n4 n5 (in_of w0) (in_of w1) (in_of w4) W (cod_of_laid hL) ).mono fun e W' ⟨he, hg⟩ => ?_
  subst he
  exact ⟨_, rfl, post_of_nb (pa := p) (pv := []) hW' (fun _ _ _ => (trodAll_cons_mk (shut_bool Tryz.underlying4 _) trodAll_mk0))
    (fun sp hsp => args_stay (by kernel_rfl) hg hA1 (fun t ht => by
      have h0 : (Tryz.f8.params.toList.all fun t => Tryz.prog.readableRec t && decide (t < Tryz.prog.types.size)) = true := by kernel_rfl
      have h1 := List.all_eq_true.1 h0 t ht
      rw [Bool.and_eq_true, decide_eq_true_eq] at h1
      exact h1) (fun x hx => hW'.lt x hx) hsp)
    (fun _ _ => rfl) (by simp) hg (ok_one (by kernel_rfl) rfl (okWide_bool_mk Tryz.underlying4 _))⟩
theorem over : Rows.HartHoldsSaid :=
  OpenClaim.holds_of_wide 8 Tryz.f8 rfl rfl rfl rfl rfl rfl rfl ⟨rfl, rfl, rfl, rfl, rfl⟩ rfl rfl rfl rfl rfl (by kernel_rfl) Tryz.func8 (by kernel_rfl)
    (of_decide_eq_true (by kernel_rfl)) (by unfold Func.isWrapper; first | (rw [if_pos (by decide +kernel)]; kernel_rfl) | (rw [if_neg (by decide +kernel)]; exact ⟨rfl, rfl⟩))
    (fun os started H enc _ => lifted os started H enc)
/-- The statement: the tied card. -/
theorem proved : Rows.HartHoldsCardSaid :=
  Claim7.holds_tied_plain_at .later [] [.data] true (true, "96ff5ee96118ca46eb58a0554124d8fafab9a05f0cb863e031356b72c81cf327") false
    over (fun _ h => by cases h) (by kernel_rfl) (fun _ h => by cases h) hartHolds_row_tie rfl ⟨rfl, rfl⟩ (by kernel_rfl) rfl
    (fun f fn hf hfn => by
      obtain rfl : f = 8 := Option.some.inj ((show Tryz.prog.funcNamed "postbag/postbaglaw06.HartHolds" = some 8 by kernel_rfl).symm.trans hf) |>.symm
      obtain rfl : fn = Tryz.f8 := (Option.some.inj (Tryz.func8.symm.trans hfn)).symm
      exact ⟨by kernel_rfl, fun j t ht => by
        rw [Tryz.params8] at ht
        have hm : t ∈ [22, 22, 4, 4, 22, 4] := by simpa using Array.mem_of_getElem? ht
        have hall : ([22, 22, 4, 4, 22, 4].all fun u => !Tryz.prog.wantsStandIn u) = true := by kernel_rfl
        exact (show Tryz.prog.wantsStandIn t = false by simpa using List.all_eq_true.1 hall t hm)⟩)
    (by kernel_rfl)
#print axioms proved
end Go.Proofs.YtmggichckhoomaaGreatDoor.hartHolds
