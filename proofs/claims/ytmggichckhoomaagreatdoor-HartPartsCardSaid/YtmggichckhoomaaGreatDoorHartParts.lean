/-
  Proved here: some steps, and more behind, are both together, by the code of hart: hart, count, error and bytes. No condition.
-/
import Derived.Test.YtmggichckhoomaaGreatDoorQbt
import Derived.Test.YtmggichckhoomaaGreatDoorPab
import Derived.Test.YtmggichckhoomaaGreatDoorPac
import Derived.Deep.QuietTactic
import Derived.Test.YtmggichckhoomaaGreatDoorCards
import Derived.Test.YtmggichckhoomaaGreatDoorTie
import Derived.SevenTiedAt
namespace Go.Proofs.YtmggichckhoomaaGreatDoor.hartParts
open Go.ChangeShapes Go.WideShapes Go.ChangeAt Go.RowKit
set_option linter.unusedVariables false
set_option linter.unusedSimpArgs false
attribute [-go_sem] run_eql_struct
theorem str_own {w : World} {g n cap : Nat} {bs : By} (h : w.heap[g]? = some (.cells (Lib.byteCells bs).toArray 5 (0, 0))) (hn : bs.length = n) :
    (convert 27 9 (.slice (some ⟨g, 0, none⟩) n cap)).run Tryz.prog w = .ok (.string ⟨bs.toArray⟩) w := by
  subst hn
  refine run_convert_bytes_back w _ _ 5 _ cap bs Tryz.underlying27 Tryz.underlying5 Tryz.underlying9 fun j hj => ?_
  rw [addr_add, cell_of_row _ _ _ _ _ _ h]
  simp [Lib.byteCells, hj]
theorem mod_60 (a : Int) : ∃ n : Nat, wrap64 ((IntKind.u64.wrap a).tmod 60) = (n : Int) ∧ n < 60 := by
  have h0 : 0 ≤ IntKind.u64.wrap a := by rw [IntKind.wrap_u64]; omega
  rw [Int.tmod_eq_emod_of_nonneg h0]
  refine ⟨(IntKind.u64.wrap a % 60).toNat, ?_, by omega⟩
  unfold wrap64
  omega
theorem run_le (k n : Nat) (h : HV) (bs : By) : (runS k n h bs).2.1 ≤ n + k := by
  induction k generalizing n h bs with
  | zero => exact Nat.le_refl _
  | succ k ih =>
    unfold runS
    split
    · have := ih (n + 1) (stepS h bs).1 (stepS h bs).2.2
      omega
    · dsimp only; omega
set_option maxRecDepth 100000 in
set_option maxHeartbeats 8000000 in
theorem walk (h : HV) (size : Int) (A : Option Addr) (b off cap : Nat) (is : List In7) (na nb : Int) (hh : HOk h) (hs : InR size) (hl : is.length ≤ 9223372036854775807) (hI : ∀ i ∈ is, InR i.2.2.2.2.1) (hAd : 0 < is.length → A = some ⟨b, off, none⟩) (ha : InR na) (hb : InR nb) (w : World) (hC0 : Cod w) (hC2 : Hid (Ins w b off is)) :
    Calls Tryz.prog 5 #[hA h, .int .i64 size, .slice A is.length cap, .int .i64 na, .int .i64 nb] w fun e w' => e = .returned (.bool true) ∧ Below w.heap.size w w' := by
  have hlen := Lib.hid (show (hC h).toArray.size = 36 by rw [List.size_toArray]; exact hC_len (by exact hh.len))
  obtain ⟨n, hn0, hn60⟩ := mod_60 na
  obtain ⟨k, hk0, hk60⟩ := mod_60 nb
  have hn := Lib.hid hn0
  have hk := Lib.hid hk0
  clear hn0 hk0
  unfold InR at ha hb
  unfold hA
  by_cases h2 : (200 : Int) < (is.length : Int)
  · go_enter Tryz.func5, Tryz.ntmps5
    go_upto_region 1 with (fail)
    obtain ⟨W1, w1e⟩ : ∃ W1, w.alloc (Obj.cells (hC h).toArray 25) = W1 := ⟨_, rfl⟩
    have n1 : Nb w W1 := by rw [← w1e]; exact (Nb.refl _).alloc _
    rw [w1e]
    clear w1e
    go_wp2_with fail
    refine (hlives_any _ (hC0.of_nb n1)).mono ?_
    rintro e w2 ⟨rfl, n2⟩
    go_wp2_with fail
    go_ret
    exact ⟨rfl, n1.trans n2⟩
  have hl2 : is.length ≤ 200 := by omega
  go_enter Tryz.func5, Tryz.ntmps5
  go_upto_region 1 with (fail)
  obtain ⟨W1, w1e⟩ : ∃ W1, w.alloc (Obj.cells (hC h).toArray 25) = W1 := ⟨_, rfl⟩
  have n1 : Nb w W1 := by rw [← w1e]; exact (Nb.refl _).alloc _
  have kH : W1.heap[w.heap.size]? = some (.cells (hC h).toArray 25 (0, 0)) := by rw [← w1e]; exact new_blk _ _ rfl
  rw [w1e]
  clear w1e
  have HL := Lib.hid (laid_any size hs is (by omega) hI A b off cap hAd W1 (hC0.of_nb n1) (Lib.hid (hC2.out.nb n1)))
  have hbl := laidB_len (sizeN size) is
  have hsl := sizeN_le size
  unfold LaidAns at HL
  generalize laidB (sizeN size) is = bs at *
  generalize sizeN size = sz at *
  have hbh : bs.length ≤ 16777216 := by omega
  have hsz2 := Lib.hid (show sz ≤ 2063 by omega)
  clear hI hAd hC2 hsl
  go_wp2_with fail
  rw [hn.out, hk.out]
  refine (HL.out).mono ?_
  rintro e w2 ⟨rfl, hM, -, n2⟩
  have nn := n1.trans n2
  have kH2 := n2.block kH
  have hz := lt_blk kH
  have HCl := Lib.hid (clone_any (W1.heap.size + 1) W1.heap.size bs hbh w2 hM)
  unfold CloneM at HCl
  clear HL kH n1 n2
  go_wp2_with fail
  refine (HCl.out).mono ?_
  rintro e w3 ⟨rfl, hO3, b3, hz3⟩
  have hM3 := hM.nb b3
  have n3 : Nb w w3 := nn.trans b3
  have kH3 := Nb.block (b3 : Nb w2 w3) kH2
  have hlm := hM.lt
  clear HCl kH2 nn hM b3
  -- the first run
  have HR := Lib.hid (run_any h (W1.heap.size + 1) W1.heap.size bs n (by omega) hh hbh w3 (hC0.of_nb n3) hM3)
  unfold RunAns at HR
  have hadd := run_add n k 0 h bs
  have hok1 := run_ok n 0 h bs hh
  have hle1 := run_le n 0 h bs
  generalize hR1 : runS n 0 h bs = R1 at *
  clear hR1
  obtain ⟨x, i, E, bs1⟩ := R1
  dsimp only at HR hadd hok1 hle1
  obtain ⟨hokx, hbl1⟩ := hok1
  have hlenx := Lib.hid (show (hC x).toArray.size = 36 by rw [List.size_toArray]; exact hC_len (by exact hokx.len))
  have honex := Lib.hid (one_all (hC_one x))
  go_wp2_with (first | refine wpList_load_row rfl 25 (.tmp 5) rfl w.heap.size rfl 25 (hC h).toArray (0, 0) _ kH3 Tryz.underlying25 rfl (by rw [size36, hlen.out]) ?_)
  refine (HR.out).mono ?_
  rintro e w4 ⟨rfl, hM4, g4⟩
  have kH4 := (g4.block _ (lt_blk kH3) (by intro e; injection e with e; omega)).trans kH3
  have n4 : Nb w w4 := below_grown n3 g4 n3.size (by omega)
  have hO4 := hO3.grown g4 (by intro e; injection e with e; omega) (by intro e; injection e with e; omega)
  have hz4 := g4.size
  clear HR kH3 hM3 n3 hO3 g4
  go_upto_region 9 with (first
    | refine wpList_store_row rfl 25 (.tmp 16) (.tmp 60) rfl w4.heap.size (hC x).toArray rfl rfl 25 zerosH (heap_alloc_new w4 _) (by rw [size36, hlenx.out]) (by rw [hlenx.out]; rfl) honex.out ?_)
  obtain ⟨W5, w5e⟩ : ∃ W5, (w4.alloc (Obj.cells zerosH 25)).setRow w4.heap.size (hC x).toArray = W5 := ⟨_, rfl⟩
  have m5 : Nb w4 W5 := by rw [← w5e]; exact ((Nb.refl _).alloc _).setRow (Nat.le_refl _) _
  have kX : W5.heap[w4.heap.size]? = some (.cells (hC x).toArray 25 (0, 0)) := by rw [← w5e]; exact setRow_heap _ _ _ _ _ _ (heap_alloc_new w4 _)
  change Code.wp _ _ _ _ ((w4.alloc (Obj.cells zerosH 25)).setRow w4.heap.size (hC x).toArray)
  rw [w5e]
  clear w5e
  have kH5 := m5.block kH4
  have n5 := n4.trans m5
  have hM5 := hM4.nb m5
  have hO5 := hO4.nb m5
  have hz5 := m5.size
  clear kH4 n4 m5 hM4 hO4
  -- the second run
  have HR := Lib.hid (run_any x (W1.heap.size + 1) W1.heap.size bs1 k (by omega) hokx (by rw [hbl1]; exact hbh) W5 (hC0.of_nb n5) hM5)
  unfold RunAns at HR
  have hfrom := run_from k 0 i x bs1
  have hok2 := run_ok k 0 x bs1 hokx
  have hle2 := run_le k 0 x bs1
  rw [Nat.zero_add] at hfrom
  generalize hR2 : runS k 0 x bs1 = R2 at *
  clear hR2
  obtain ⟨y, j, F, bs2⟩ := R2
  dsimp only at HR hfrom hok2 hle2
  obtain ⟨hoky, hbl2⟩ := hok2
  have hleny := Lib.hid (show (hC y).toArray.size = 36 by rw [List.size_toArray]; exact hC_len (by exact hoky.len))
  have honey := Lib.hid (one_all (hC_one y))
  rw [hfrom] at hadd
  clear hfrom
  go_wp2_with (first | refine wpList_load_row rfl 25 (.tmp 16) rfl w4.heap.size rfl 25 (hC x).toArray (0, 0) _ kX Tryz.underlying25 rfl (by rw [size36, hlenx.out]) ?_)
  refine (HR.out).mono ?_
  rintro e w6 ⟨rfl, hM6, g6⟩
  have kH6 := (g6.block _ (lt_blk kH5) (by intro e; injection e with e; omega)).trans kH5
  have kX6 := (g6.block _ (lt_blk kX) (by intro e; injection e with e; omega)).trans kX
  have n6 : Nb w w6 := below_grown n5 g6 n5.size (by omega)
  have hO6 := hO5.grown g6 (by intro e; injection e with e; omega) (by intro e; injection e with e; omega)
  have hz6 := g6.size
  clear HR kH5 kX hM5 n5 hO5 g6
  go_upto_region 10 with (first
    | refine wpList_store_row rfl 25 (.tmp 19) (.tmp 68) rfl w6.heap.size (hC y).toArray rfl rfl 25 zerosH (heap_alloc_new w6 _) (by rw [size36, hleny.out]) (by rw [hleny.out]; rfl) honey.out ?_)
  obtain ⟨W7, w7e⟩ : ∃ W7, (w6.alloc (Obj.cells zerosH 25)).setRow w6.heap.size (hC y).toArray = W7 := ⟨_, rfl⟩
  have m7 : Nb w6 W7 := by rw [← w7e]; exact ((Nb.refl _).alloc _).setRow (Nat.le_refl _) _
  have kY : W7.heap[w6.heap.size]? = some (.cells (hC y).toArray 25 (0, 0)) := by rw [← w7e]; exact setRow_heap _ _ _ _ _ _ (heap_alloc_new w6 _)
  change Code.wp _ _ _ _ ((w6.alloc (Obj.cells zerosH 25)).setRow w6.heap.size (hC y).toArray)
  rw [w7e]
  clear w7e
  have kH7 := m7.block kH6
  have kX7 := m7.block kX6
  have n7 := n6.trans m7
  have hM7 := hM6.nb m7
  have hO7 := hO6.nb m7
  have hz7 := m7.size
  clear kH6 kX6 n6 m7 hM6 hO6
  -- the third run
  have HR := Lib.hid (run_any h (w2.heap.size + 1) w2.heap.size bs (n + k) (by omega) hh hbh W7 (hC0.of_nb n7) hO7)
  unfold RunAns at HR
  have hokz := (run_ok (n + k) 0 h bs hh).1
  have hblz := (run_ok (n + k) 0 h bs hh).2
  rw [hadd] at HR hokz hblz
  clear hadd
  obtain ⟨R3, hR3⟩ : ∃ R3, (if E = 0 then (y, j + i, F, bs2) else (x, i, E, bs1)) = R3 := ⟨_, rfl⟩
  rw [hR3] at HR hokz hblz
  obtain ⟨z, al, G, bs3⟩ := R3
  dsimp only at HR hokz hblz
  have hlenz := Lib.hid (show (hC z).toArray.size = 36 by rw [List.size_toArray]; exact hC_len (by exact hokz.len))
  have honez := Lib.hid (one_all (hC_one z))
  have enk : ((n + k : Nat) : Int) = (n : Int) + (k : Int) := by omega
  rw [enk] at HR
  have hR3' := Lib.hid hR3
  clear hR3 enk
  go_wp2_with (first | refine wpList_load_row rfl 25 (.tmp 5) rfl w.heap.size rfl 25 (hC h).toArray (0, 0) _ kH7 Tryz.underlying25 rfl (by rw [size36, hlen.out]) ?_)
  refine (HR.out).mono ?_
  rintro e w8 ⟨rfl, hO8, g8⟩
  have kX8 := (g8.block _ (lt_blk kX7) (by intro e; injection e with e; omega)).trans kX7
  have kY8 := (g8.block _ (lt_blk kY) (by intro e; injection e with e; omega)).trans kY
  have n8 : Nb w w8 := below_grown n7 g8 n7.size (by omega)
  have hM8 := hM7.grown g8 (by intro e; injection e with e; omega) (by intro e; injection e with e; omega)
  have hz8 := g8.size
  clear HR kH7 kX7 kY hM7 n7 hO7 g8
  go_upto_region 11 with (first
    | refine wpList_store_row rfl 25 (.tmp 22) (.tmp 78) rfl w8.heap.size (hC z).toArray rfl rfl 25 zerosH (heap_alloc_new w8 _) (by rw [size36, hlenz.out]) (by rw [hlenz.out]; rfl) honez.out ?_)
  obtain ⟨W9, w9e⟩ : ∃ W9, (w8.alloc (Obj.cells zerosH 25)).setRow w8.heap.size (hC z).toArray = W9 := ⟨_, rfl⟩
  have m9 : Nb w8 W9 := by rw [← w9e]; exact ((Nb.refl _).alloc _).setRow (Nat.le_refl _) _
  have kZ : W9.heap[w8.heap.size]? = some (.cells (hC z).toArray 25 (0, 0)) := by rw [← w9e]; exact setRow_heap _ _ _ _ _ _ (heap_alloc_new w8 _)
  change Code.wp _ _ _ _ ((w8.alloc (Obj.cells zerosH 25)).setRow w8.heap.size (hC z).toArray)
  rw [w9e]
  clear w9e
  have kX9 := m9.block kX8
  have kY9 := m9.block kY8
  have n9 := n8.trans m9
  have hM9 := hM8.nb m9
  have hO9 := hO8.nb m9
  have hz9 := m9.size
  clear kX8 kY8 n8 m9 hM8 hO8
  have e2 : bs2.length = sz := (hbl2.trans hbl1).trans hbl
  have e3 : bs3.length = sz := hblz.trans hbl
  have LM := len_any (W1.heap.size + 1) W1.heap.size bs2 W9 hM9
  rw [e2] at LM
  replace LM := Lib.hid LM
  have BM := Lib.hid (bytes_ok (W1.heap.size + 1) W1.heap.size bs2 0 sz (by omega) (by omega) W9 hM9)
  have hO9' := Lib.hid hO9
  have kX9' := Lib.hid kX9
  have kY9' := Lib.hid kY9
  have kZ9' := Lib.hid kZ
  have n9' := Lib.hid n9
  have e2' := Lib.hid e2
  have e3' := Lib.hid e3
  unfold BytesOk at BM
  rw [show (bs2.drop 0).take sz = bs2 from by rw [List.drop_zero, ← e2]; exact List.take_length] at BM
  clear hbl2 hbl1 hblz e2 e3 hbl hlm hbh
  clear hM9 hO9 kX9 kY9 kZ n9
  go_wp2_with fail
  refine (LM.out).mono ?_
  rintro e w' ⟨rfl, rfl⟩
  go_wp2_with fail
  refine (BM.out).mono ?_
  rintro e wa ⟨rfl, ka, ba⟩
  have hOa := hO9'.out.nb ba
  have e3 := e3'.out
  have LO := len_any (w2.heap.size + 1) w2.heap.size bs3 wa hOa
  rw [e3] at LO
  replace LO := Lib.hid LO
  have BO := Lib.hid (bytes_ok (w2.heap.size + 1) w2.heap.size bs3 0 sz (by omega) (by have := hsz2.out; omega) wa hOa)
  unfold BytesOk at BO
  rw [show (bs3.drop 0).take sz = bs3 from by rw [List.drop_zero, ← e3]; exact List.take_length] at BO
  clear e3
  have ka' := Lib.hid ka
  have ba' : Hid (Nb W9 wa) := Lib.hid ba
  clear LM BM hO9' hOa ka ba
  go_wp2_with fail
  refine (LO.out).mono ?_
  rintro e w' ⟨rfl, rfl⟩
  go_wp2_with fail
  refine (BO.out).mono ?_
  rintro e wb ⟨rfl, kb, bb⟩
  have nab : Nb W9 wb := ba'.out.trans bb
  have kXb := nab.block kX9'.out
  have kYb := nab.block kY9'.out
  have kZb := nab.block kZ9'.out
  have nb9 := n9'.out.trans nab
  have codb := hC0.of_nb nb9
  have kab := Nb.block (bb : Nb wa wb) ka'.out
  clear LO BO kX9' kY9' kZ9' n9' ba' bb ka' nab
  have hgd : Tryz.prog.eqGuardType Tryz.prog.depth 25 = false := by kernel_rfl
  by_cases hE : E = 0
  · have hR3 := hR3'.out
    rw [if_pos hE] at hR3
    subst hE
    simp only [Prod.mk.injEq] at hR3
    obtain ⟨rfl, hal, rfl, rfl⟩ := hR3
    obtain ⟨r, hr, hiff⟩ := eq_hart y y hoky.len hoky.len wb
    obtain rfl : r = true := hiff.2 rfl
    have e1 := str_own (n := sz) (cap := sz) kab e2'.out
    have e2 := str_own (n := sz) (cap := sz) kb e2'.out
    have hal' : (i : Int) + (j : Int) = (al : Int) := by omega
    clear hiff hR3' hal kab kb
    go_wp2_with (first
      | refine wpList_load_row rfl 25 (.tmp 19) rfl w6.heap.size rfl 25 (hC y).toArray (0, 0) _ kYb Tryz.underlying25 rfl (by rw [size36, hleny.out]) ?_
      | refine wpList_load_row rfl 25 (.tmp 22) rfl w8.heap.size rfl 25 (hC y).toArray (0, 0) _ kZb Tryz.underlying25 rfl (by rw [size36, hleny.out]) ?_)
    refine (hlives_any _ codb).mono ?_
    rintro e wc ⟨rfl, nc⟩
    go_wp2_with fail
    go_ret
    exact ⟨rfl, nb9.trans nc⟩
  · have hE' : (E != 0) = true := by simp [bne, hE]
    have hR3 := hR3'.out
    rw [if_neg hE] at hR3
    simp only [Prod.mk.injEq] at hR3
    obtain ⟨rfl, rfl, rfl, rfl⟩ := hR3
    obtain ⟨r, hr, hiff⟩ := eq_hart x x hokx.len hokx.len wb
    obtain rfl : r = true := hiff.2 rfl
    clear hiff hR3' hE kab kb
    go_wp2_with (first
      | refine wpList_load_row rfl 25 (.tmp 16) rfl w4.heap.size rfl 25 (hC x).toArray (0, 0) _ kXb Tryz.underlying25 rfl (by rw [size36, hlenx.out]) ?_
      | refine wpList_load_row rfl 25 (.tmp 22) rfl w8.heap.size rfl 25 (hC x).toArray (0, 0) _ kZb Tryz.underlying25 rfl (by rw [size36, hlenx.out]) ?_)
    refine (hlives_any _ codb).mono ?_
    rintro e wc ⟨rfl, nc⟩
    go_wp2_with fail
    go_ret
    exact ⟨rfl, nb9.trans nc⟩
/-! The row's step. -/
set_option maxRecDepth 100000 in
set_option maxHeartbeats 1000000 in
theorem lifted (os : Os) (started : os.Started) (H : Type) (enc : TypeId × Value → H) :
    ReturnsInHanded {} Tryz.checked os 5 .any (fun w args => (Rows.hartPartsSpec.pre enc Tryz.prog Tryz.f5 [] false w args ∧ laidMetH Tryz.prog laidL w) ∧ sizedMet enc Tryz.prog Tryz.f5 (OpenSpec.ofChange Rows.hartPartsSpec) false w args)
      (Rows.hartPartsSpec.post enc Tryz.prog Tryz.f5 false true false false) := by
  refine returnsInHanded_of_change_and (C := Tryz.checked) (X := fun w _ => laidMetH Tryz.prog laidL w) (fun _ _ _ hh h => h.of_heap hh) own started (by kernel_rfl) Tryz.func5
    (ChangeSpec.witness_shaped (enc := enc) (C := Tryz.checked) (os := os) (X := fun w _ => laidMetH Tryz.prog laidL w) false (World.doorLaid Tryz.prog 400 os) #[.agg #[.int .u64 0, .int .u64 0, .int .u64 0, .int .u64 0, .int .u64 0, .int .u64 0, .int .u64 0, .int .u64 0, .int .u64 0, .int .u64 0, .int .u64 0, .int .u64 0, .int .u64 0, .int .u64 0, .int .u64 0, .int .u64 0, .int .u64 0, .int .u64 0, .int .u64 0, .int .u64 0, .int .u64 0, .int .u64 0, .int .u64 0, .int .u64 0, .int .u64 0, .int .u64 0, .int .u64 0, .int .u64 0, .int .u64 0, .int .u64 0, .int .u64 0, .int .u64 0, .int .u64 0, .bool false, .int .u64 0, .int .i64 0], .int .i64 0, .slice none 0 0, .int .i64 0, .int .i64 0] 8 rfl (World.shaped_of_RefB (by kernel_rfl) (by kernel_rfl)) (by kernel_rfl) (by kernel_rfl) (by kernel_rfl) (door_met os _)) ?_
  intro W base args ds gs before hval0 hW _ _ hL _
  have hval : ∀ (j : Nat) t v, Tryz.f5.params[j]? = some t → args[j]? = some v → Value.okWide Tryz.prog W .any base t v := hval0
  have hW' := hW
  obtain ⟨p, q, hA0, hV, rfl, hfz, hnd⟩ := hW
  have hA1 : DataW.TrodAll enc Tryz.prog W 0 (fun _ => true) true Tryz.f5.params.toList args.toList ds p := hA0
  have hA := hA1
  rw [Tryz.params5] at hA hval
  obtain ⟨v0, vs0, d0, ds0, p0, q0, hargs0, rfl, -, h0, r0⟩ := trodAll_cons hA
  obtain ⟨v1, vs1, d1, ds1, p1, q1, hargs1, rfl, -, h1, r1⟩ := trodAll_cons r0
  obtain ⟨v2, vs2, d2, ds2, p2, q2, hargs2, rfl, -, h2, r2⟩ := trodAll_cons r1
  obtain ⟨v3, vs3, d3, ds3, p3, q3, hargs3, rfl, -, h3, r3⟩ := trodAll_cons r2
  obtain ⟨v4, vs4, d4, ds4, p4, q4, hargs4, rfl, -, h4, r4⟩ := trodAll_cons r3
  obtain ⟨rfl, rfl, -⟩ := trodAll_nil r4
  obtain rfl : args = #[v0, v1, v2, v3, v4] := by cases args; simp_all
  obtain ⟨rfl, rfl⟩ := trodVars_none hV
  obtain ⟨hh0, rfl, hr0⟩ := open_hart (hval 0 25 v0 rfl rfl) h0
  obtain ⟨n1, rfl, -, -, w1⟩ := open_int Tryz.underlying3 (hval 1 3 v1 rfl rfl) h1
  obtain ⟨A2, b2, off2, cap2, is2, rfl, hAd2, hI2, hR2, hl2⟩ := open_insts (hval 2 26 v2 rfl rfl) h2
  obtain ⟨n3, rfl, -, -, w3⟩ := open_int Tryz.underlying3 (hval 3 3 v3 rfl rfl) h3
  obtain ⟨n4, rfl, -, -, w4⟩ := open_int Tryz.underlying3 (hval 4 3 v4 rfl rfl) h4
  clear hval0
  simp only [List.append_nil] at hW'
  refine (walk hh0 n1 A2 b2 off2 cap2 is2 n3 n4 hr0 (i64_of w1) hl2 hR2 hAd2 (i64_of w3) (i64_of w4) W (cod_of_laid hL) (Lib.hid hI2)).mono fun e W' ⟨he, hg⟩ => ?_
  subst he
  exact ⟨_, rfl, post_of_nb (pa := p) (pv := []) hW' (fun _ _ _ => (trodAll_cons_mk (shut_bool Tryz.underlying4 _) trodAll_mk0))
    (fun sp hsp => args_stay (by kernel_rfl) hg hA1 (fun t ht => by
      have h0 : (Tryz.f5.params.toList.all fun t => Tryz.prog.readableRec t && decide (t < Tryz.prog.types.size)) = true := by kernel_rfl
      have h1 := List.all_eq_true.1 h0 t ht
      rw [Bool.and_eq_true, decide_eq_true_eq] at h1
      exact h1) (fun x hx => hW'.lt x hx) hsp)
    (fun _ _ => rfl) (by simp) hg (ok_one (by kernel_rfl) rfl (okWide_bool_mk Tryz.underlying4 _))⟩
theorem over : Rows.HartPartsSaid :=
  OpenClaim.holds_of_wide 5 Tryz.f5 rfl rfl rfl rfl rfl rfl rfl ⟨rfl, rfl, rfl, rfl, rfl⟩ rfl rfl rfl rfl rfl (by kernel_rfl) Tryz.func5 (by kernel_rfl)
    (of_decide_eq_true (by kernel_rfl)) (by unfold Func.isWrapper; first | (rw [if_pos (by decide +kernel)]; kernel_rfl) | (rw [if_neg (by decide +kernel)]; exact ⟨rfl, rfl⟩))
    (fun os started H enc _ => lifted os started H enc)
/-- The statement: the tied card. -/
theorem proved : Rows.HartPartsCardSaid :=
  Claim7.holds_tied_plain_at .later [] [.data] true (true, "96ff5ee96118ca46eb58a0554124d8fafab9a05f0cb863e031356b72c81cf327") false
    over (fun _ h => by cases h) (by kernel_rfl) (fun _ h => by cases h) hartParts_row_tie rfl ⟨rfl, rfl⟩ (by kernel_rfl) rfl
    (fun f fn hf hfn => by
      obtain rfl : f = 5 := Option.some.inj ((show Tryz.prog.funcNamed "postbag/postbaglaw06.HartParts" = some 5 by kernel_rfl).symm.trans hf) |>.symm
      obtain rfl : fn = Tryz.f5 := (Option.some.inj (Tryz.func5.symm.trans hfn)).symm
      exact ⟨by kernel_rfl, fun j t ht => by
        rw [Tryz.params5] at ht
        have hm : t ∈ [25, 3, 26, 3, 3] := by simpa using Array.mem_of_getElem? ht
        have hall : ([25, 3, 26, 3, 3].all fun u => !Tryz.prog.wantsStandIn u) = true := by kernel_rfl
        exact (show Tryz.prog.wantsStandIn t = false by simpa using List.all_eq_true.1 hall t hm)⟩)
    (by kernel_rfl)
#print axioms proved
end Go.Proofs.YtmggichckhoomaaGreatDoor.hartParts
