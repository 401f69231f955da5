/-
  Proved here: what fetched and following of the code answer. Conditions: the memory is one that a call made, of at most 2^24 bytes; the table of codes holds what its text lays.
-/
import Derived.Test.YtmggichckhoomaaGreatDoorQbh
namespace Go.Proofs.YtmggichckhoomaaGreatDoor
open Go.RowKit
set_option linter.unusedVariables false
set_option linter.unusedSimpArgs false
theorem res_ct {fn : Func} {p u : Tmp} {ty : TypeId} {P : Program} (h : fn.results = #[.cell p ty, .tmp u]) (tmps : Array Value) (w : World) (g : Nat) (cs : Array Value)
    (hp : tmps.getD p undef = .pointer (some ⟨g, 0, none⟩)) (hl : (loadVar ty ⟨g, 0, none⟩).run P w = .ok (.agg cs) w) :
    (results fn tmps).run P w = .ok (.tuple #[.agg cs, tmps.getD u undef]) w := by
  rw [results_cell_tmp h, hp]
  have e : (asAddr (.pointer (some ⟨g, 0, none⟩))).run P w = .ok ⟨g, 0, none⟩ w := rfl
  rw [e]
  simp only [Result.andThen_ok, hl]
theorem size7 : (Tryz.prog.info? 56).map (·.size) = some 7 := by kernel_rfl
theorem fet_end {w W1 : World} {old : Array Value} (hb : Nb w W1) (k0 : W1.heap[w.heap.size]? = some (.cells old 56 (0, 0))) (tmps : Array Value) (i : In7) (E : Int) (hp : tmps.getD 4 undef = .pointer (some ⟨w.heap.size, 0, none⟩)) (h5 : tmps.getD 5 undef = .int .i64 E) :
    bodyPost Tryz.prog Tryz.f32 (fun e w' => e = .returned (.tuple #[i7A i, .int .i64 E]) ∧ Nb w w') Exit.ret { tmps := tmps, defers := [] } (W1.setRow w.heap.size #[.int .i64 i.1, .int .i64 i.2.1, .int .i64 i.2.2.1, .int .i64 i.2.2.2.1, .int .i64 i.2.2.2.2.1, .bool i.2.2.2.2.2.1, .bool i.2.2.2.2.2.2]) := by
  have k2 := setRow_heap W1 w.heap.size _ #[.int .i64 i.1, .int .i64 i.2.1, .int .i64 i.2.2.1, .int .i64 i.2.2.2.1, .int .i64 i.2.2.2.2.1, .bool i.2.2.2.2.2.1, .bool i.2.2.2.2.2.2] 56 _ k0
  refine bodyPost_ret (res_ct rfl _ _ w.heap.size _ hp (run_loadVar_row _ _ _ _ _ (0, 0) _ k2 Tryz.underlying56 rfl (by rw [size7]; rfl))) rfl ⟨by rw [h5]; rfl, below_setRow hb (Nat.le_refl _) _⟩
set_option maxRecDepth 100000 in
set_option maxHeartbeats 2000000 in
theorem fetched_any (pc : Int) (p q : Nat) (bs : By) (hp : InU pc) (hl : bs.length ≤ 16777216) (w : World) (hC : Cod w) (hM : Mem 92 w p q bs) :
    Calls Tryz.prog 32 #[.int .u64 pc, .pointer (some ⟨p, 0, none⟩)] w fun e w' => e = .returned (.tuple #[i7A (fetS bs pc).1, .int .i64 (fetS bs pc).2]) ∧ Nb w w' := by
  have HL := Lib.hid fun w1 h => load_any p q bs pc 4 hp.1 hp.2 hl w1 h
  have hld := ldV_in bs pc 4
  have hlt := hM.lt
  by_cases hf : flt bs.length pc 4 = 0
  · have HD := Lib.hid fun w1 h => dec_any (IntKind.u32.wrap (ldV bs pc 4)) (by rw [IntKind.wrap_u32]; omega) (by rw [IntKind.wrap_u32]; omega) w1 h
    rw [hf] at HL
    cases hq0 : decP (IntKind.u32.wrap (ldV bs pc 4)) with
    | none =>
      have e0 := Lib.hid (show fetS bs pc = (z7, 21) by unfold fetS; rw [if_pos hf, hq0])
      have hq := hq0
      rw [e0.out]
      clear hf
      go_enter Tryz.func32, Tryz.ntmps32
      go_upto_region 1 with (fail)
      obtain ⟨W1, h1⟩ : ∃ W1, w.alloc (Obj.cells #[.int .i64 0, .int .i64 0, .int .i64 0, .int .i64 0, .int .i64 0, .bool false, .bool false] 56) = W1 := ⟨_, rfl⟩
      have n1 : Nb w W1 := by rw [← h1]; exact (Nb.refl _).alloc _
      have k0 : W1.heap[w.heap.size]? = some (.cells #[.int .i64 0, .int .i64 0, .int .i64 0, .int .i64 0, .int .i64 0, .bool false, .bool false] 56 (0, 0)) := by rw [← h1]; exact new_blk _ _ rfl
      rw [h1]
      clear h1
      go_wp2_with fail
      refine (HL.out W1 (hM.nb n1)).mono ?_
      rintro e w' ⟨rfl, rfl⟩
      go_wp2_with fail
      refine (HD.out W1 (hC.of_nb n1)).mono ?_
      rintro e w2 ⟨ha, n2⟩
      obtain rfl := dec_is ha
      clear ha
      rw [hq]
      simp only [i7A, Option.getD_none, Option.isSome_none, z7]
      go_upto_region 5 with (fail)
      obtain ⟨W3, h3⟩ : ∃ W3, w2.alloc (Obj.cells #[.int .i64 0, .int .i64 0, .int .i64 0, .int .i64 0, .int .i64 0, .bool false, .bool false] 56) = W3 := ⟨_, rfl⟩
      have n3 : Nb w2 W3 := by rw [← h3]; exact (Nb.refl _).alloc _
      have k3 : W3.heap[w2.heap.size]? = some (.cells #[.int .i64 0, .int .i64 0, .int .i64 0, .int .i64 0, .int .i64 0, .bool false, .bool false] 56 (0, 0)) := by rw [← h3]; exact new_blk _ _ rfl
      rw [h3]
      clear h3
      have k4 := n3.block (n2.block k0)
      have nn := (n1.trans n2).trans n3
      clear k3 n3
      go_wp2_with (refine wpList_store_row rfl 56 (.tmp 4) (.tmp 27) rfl w.heap.size #[.int .i64 0, .int .i64 0, .int .i64 0, .int .i64 0, .int .i64 0, .bool false, .bool false] rfl rfl 56 _ k4 (by kernel_rfl) rfl (by kernel_rfl) ?_)
      exact fet_end nn k4 _ z7 21 rfl rfl
    | some i =>
      have hq := hq0
      by_cases c51 : i.1 = 51
      · have e0 := Lib.hid (show fetS bs pc = (z7, 60) by unfold fetS; rw [if_pos hf, hq0]; exact if_pos (.inl c51))
        have d51 : (i.1 == 51) = true := beq_iff_eq.2 c51
        rw [e0.out]
        clear hf c51
        go_enter Tryz.func32, Tryz.ntmps32
        go_upto_region 1 with (fail)
        obtain ⟨W1, h1⟩ : ∃ W1, w.alloc (Obj.cells #[.int .i64 0, .int .i64 0, .int .i64 0, .int .i64 0, .int .i64 0, .bool false, .bool false] 56) = W1 := ⟨_, rfl⟩
        have n1 : Nb w W1 := by rw [← h1]; exact (Nb.refl _).alloc _
        have k0 : W1.heap[w.heap.size]? = some (.cells #[.int .i64 0, .int .i64 0, .int .i64 0, .int .i64 0, .int .i64 0, .bool false, .bool false] 56 (0, 0)) := by rw [← h1]; exact new_blk _ _ rfl
        rw [h1]
        clear h1
        go_wp2_with fail
        refine (HL.out W1 (hM.nb n1)).mono ?_
        rintro e w' ⟨rfl, rfl⟩
        go_wp2_with fail
        refine (HD.out W1 (hC.of_nb n1)).mono ?_
        rintro e w2 ⟨ha, n2⟩
        obtain rfl := dec_is ha
        clear ha
        rw [hq]
        simp only [i7A, Option.getD_some, Option.isSome_some, if_true]
        go_upto_region 5 with (fail)
        obtain ⟨W3, h3⟩ : ∃ W3, w2.alloc (Obj.cells #[.int .i64 i.1, .int .i64 i.2.1, .int .i64 i.2.2.1, .int .i64 i.2.2.2.1, .int .i64 i.2.2.2.2.1, .bool i.2.2.2.2.2.1, .bool i.2.2.2.2.2.2] 56) = W3 := ⟨_, rfl⟩
        have n3 : Nb w2 W3 := by rw [← h3]; exact (Nb.refl _).alloc _
        have k3 : W3.heap[w2.heap.size]? = some (.cells #[.int .i64 i.1, .int .i64 i.2.1, .int .i64 i.2.2.1, .int .i64 i.2.2.2.1, .int .i64 i.2.2.2.2.1, .bool i.2.2.2.2.2.1, .bool i.2.2.2.2.2.2] 56 (0, 0)) := by rw [← h3]; exact new_blk _ _ rfl
        rw [h3]
        clear h3
        have k4 := n3.block (n2.block k0)
        have nn := (n1.trans n2).trans n3
        obtain ⟨zz, c0, c1, c2, c3, c4, c5, c6⟩ := cells7 k3
        clear k3 n3
        go_wp2_with (refine wpList_store_row rfl 56 (.tmp 4) (.tmp 37) rfl w.heap.size #[.int .i64 0, .int .i64 0, .int .i64 0, .int .i64 0, .int .i64 0, .bool false, .bool false] rfl rfl 56 _ k4 (by kernel_rfl) rfl (by kernel_rfl) ?_)
        exact fet_end nn k4 _ z7 60 rfl rfl
      by_cases c52 : i.1 = 52
      · have e0 := Lib.hid (show fetS bs pc = (z7, 60) by unfold fetS; rw [if_pos hf, hq0]; exact if_pos (.inr c52))
        have d51 : (i.1 == 51) = false := beq_eq_false_iff_ne.2 c51
        have d52 : (i.1 == 52) = true := beq_iff_eq.2 c52
        rw [e0.out]
        clear hf c51 c52
        go_enter Tryz.func32, Tryz.ntmps32
        go_upto_region 1 with (fail)
        obtain ⟨W1, h1⟩ : ∃ W1, w.alloc (Obj.cells #[.int .i64 0, .int .i64 0, .int .i64 0, .int .i64 0, .int .i64 0, .bool false, .bool false] 56) = W1 := ⟨_, rfl⟩
        have n1 : Nb w W1 := by rw [← h1]; exact (Nb.refl _).alloc _
        have k0 : W1.heap[w.heap.size]? = some (.cells #[.int .i64 0, .int .i64 0, .int .i64 0, .int .i64 0, .int .i64 0, .bool false, .bool false] 56 (0, 0)) := by rw [← h1]; exact new_blk _ _ rfl
        rw [h1]
        clear h1
        go_wp2_with fail
        refine (HL.out W1 (hM.nb n1)).mono ?_
        rintro e w' ⟨rfl, rfl⟩
        go_wp2_with fail
        refine (HD.out W1 (hC.of_nb n1)).mono ?_
        rintro e w2 ⟨ha, n2⟩
        obtain rfl := dec_is ha
        clear ha
        rw [hq]
        simp only [i7A, Option.getD_some, Option.isSome_some, if_true]
        go_upto_region 5 with (fail)
        obtain ⟨W3, h3⟩ : ∃ W3, w2.alloc (Obj.cells #[.int .i64 i.1, .int .i64 i.2.1, .int .i64 i.2.2.1, .int .i64 i.2.2.2.1, .int .i64 i.2.2.2.2.1, .bool i.2.2.2.2.2.1, .bool i.2.2.2.2.2.2] 56) = W3 := ⟨_, rfl⟩
        have n3 : Nb w2 W3 := by rw [← h3]; exact (Nb.refl _).alloc _
        have k3 : W3.heap[w2.heap.size]? = some (.cells #[.int .i64 i.1, .int .i64 i.2.1, .int .i64 i.2.2.1, .int .i64 i.2.2.2.1, .int .i64 i.2.2.2.2.1, .bool i.2.2.2.2.2.1, .bool i.2.2.2.2.2.2] 56 (0, 0)) := by rw [← h3]; exact new_blk _ _ rfl
        rw [h3]
        clear h3
        have k4 := n3.block (n2.block k0)
        have nn := (n1.trans n2).trans n3
        obtain ⟨zz, c0, c1, c2, c3, c4, c5, c6⟩ := cells7 k3
        clear k3 n3
        go_wp2_with (refine wpList_store_row rfl 56 (.tmp 4) (.tmp 37) rfl w.heap.size #[.int .i64 0, .int .i64 0, .int .i64 0, .int .i64 0, .int .i64 0, .bool false, .bool false] rfl rfl 56 _ k4 (by kernel_rfl) rfl (by kernel_rfl) ?_)
        exact fet_end nn k4 _ z7 60 rfl rfl
      · have e0 := Lib.hid (show fetS bs pc = (i, 0) by unfold fetS; rw [if_pos hf, hq0]; exact if_neg (by omega))
        have d51 : (i.1 == 51) = false := beq_eq_false_iff_ne.2 c51
        have d52 : (i.1 == 52) = false := beq_eq_false_iff_ne.2 c52
        rw [e0.out]
        clear hf c51 c52
        go_enter Tryz.func32, Tryz.ntmps32
        go_upto_region 1 with (fail)
        obtain ⟨W1, h1⟩ : ∃ W1, w.alloc (Obj.cells #[.int .i64 0, .int .i64 0, .int .i64 0, .int .i64 0, .int .i64 0, .bool false, .bool false] 56) = W1 := ⟨_, rfl⟩
        have n1 : Nb w W1 := by rw [← h1]; exact (Nb.refl _).alloc _
        have k0 : W1.heap[w.heap.size]? = some (.cells #[.int .i64 0, .int .i64 0, .int .i64 0, .int .i64 0, .int .i64 0, .bool false, .bool false] 56 (0, 0)) := by rw [← h1]; exact new_blk _ _ rfl
        rw [h1]
        clear h1
        go_wp2_with fail
        refine (HL.out W1 (hM.nb n1)).mono ?_
        rintro e w' ⟨rfl, rfl⟩
        go_wp2_with fail
        refine (HD.out W1 (hC.of_nb n1)).mono ?_
        rintro e w2 ⟨ha, n2⟩
        obtain rfl := dec_is ha
        clear ha
        rw [hq]
        simp only [i7A, Option.getD_some, Option.isSome_some, if_true]
        go_upto_region 5 with (fail)
        obtain ⟨W3, h3⟩ : ∃ W3, w2.alloc (Obj.cells #[.int .i64 i.1, .int .i64 i.2.1, .int .i64 i.2.2.1, .int .i64 i.2.2.2.1, .int .i64 i.2.2.2.2.1, .bool i.2.2.2.2.2.1, .bool i.2.2.2.2.2.2] 56) = W3 := ⟨_, rfl⟩
        have n3 : Nb w2 W3 := by rw [← h3]; exact (Nb.refl _).alloc _
        have k3 : W3.heap[w2.heap.size]? = some (.cells #[.int .i64 i.1, .int .i64 i.2.1, .int .i64 i.2.2.1, .int .i64 i.2.2.2.1, .int .i64 i.2.2.2.2.1, .bool i.2.2.2.2.2.1, .bool i.2.2.2.2.2.2] 56 (0, 0)) := by rw [← h3]; exact new_blk _ _ rfl
        rw [h3]
        clear h3
        have k4 := n3.block (n2.block k0)
        have nn := (n1.trans n2).trans n3
        obtain ⟨zz, c0, c1, c2, c3, c4, c5, c6⟩ := cells7 k3
        go_wp2_with (refine wpList_store_row rfl 56 (.tmp 4) (.tmp 38) rfl w.heap.size #[.int .i64 i.1, .int .i64 i.2.1, .int .i64 i.2.2.1, .int .i64 i.2.2.2.1, .int .i64 i.2.2.2.2.1, .bool i.2.2.2.2.2.1, .bool i.2.2.2.2.2.2] rfl rfl 56 _ k4 (by kernel_rfl) rfl (by kernel_rfl) ?_)
        exact fet_end nn k4 _ i 0 rfl rfl
  · have e0 := Lib.hid (show fetS bs pc = (z7, flt bs.length pc 4) by unfold fetS; rw [if_neg hf])
    have hf2 : (flt bs.length pc 4 == 0) = false := beq_eq_false_iff_ne.2 hf
    rw [e0.out]
    generalize flt bs.length pc 4 = E at *
    generalize ldV bs pc 4 = u at *
    clear hf
    go_enter Tryz.func32, Tryz.ntmps32
    go_upto_region 1 with (fail)
    obtain ⟨W1, h1⟩ : ∃ W1, w.alloc (Obj.cells #[.int .i64 0, .int .i64 0, .int .i64 0, .int .i64 0, .int .i64 0, .bool false, .bool false] 56) = W1 := ⟨_, rfl⟩
    have n1 : Nb w W1 := by rw [← h1]; exact (Nb.refl _).alloc _
    have k0 : W1.heap[w.heap.size]? = some (.cells #[.int .i64 0, .int .i64 0, .int .i64 0, .int .i64 0, .int .i64 0, .bool false, .bool false] 56 (0, 0)) := by rw [← h1]; exact new_blk _ _ rfl
    rw [h1]
    clear h1
    go_wp2_with fail
    refine (HL.out W1 (hM.nb n1)).mono ?_
    rintro e w' ⟨rfl, rfl⟩
    go_wp2_with (refine wpList_store_row rfl 56 (.tmp 4) (.tmp 17) rfl w.heap.size #[.int .i64 0, .int .i64 0, .int .i64 0, .int .i64 0, .int .i64 0, .bool false, .bool false] rfl rfl 56 _ k0 (by kernel_rfl) rfl (by kernel_rfl) ?_)
    exact fet_end n1 k0 _ z7 E rfl rfl
set_option maxRecDepth 100000 in
set_option maxHeartbeats 2000000 in
theorem following_any (i : In7) (pc a b : Int) (hi : -9223372036854775808 ≤ i.2.2.2.2.1 ∧ i.2.2.2.2.1 < 9223372036854775808) (hp : InU pc) (qa : InU a) (qb : InU b) (w : World) (hC : Cod w) :
    Calls Tryz.prog 35 #[i7A i, .int .u64 pc, .int .u64 a, .int .u64 b] w fun e w' => e = .returned (.int .u64 (nextS i pc a b)) ∧ Nb w w' := by
  have HB := Lib.hid (branch_any i.1)
  have HT := Lib.hid fun w1 h => tk_any i.1 i.2.1 i.2.2.1 i.2.2.2.1 i.2.2.2.2.1 a b i.2.2.2.2.2.1 i.2.2.2.2.2.2 qa qb hi.1 hi.2 w1 h
  have HG := Lib.hid (tgt_any i.1 i.2.1 i.2.2.1 i.2.2.2.1 i.2.2.2.2.1 pc a i.2.2.2.2.2.1 i.2.2.2.2.2.2)
  unfold i7A
  cases hb : BrB i.1 with
  | false =>
    have e0 := Lib.hid (show nextS i pc a b = TgB i.1 i.2.2.2.2.1 pc a from if_neg (by rw [hb]; simp))
    rw [hb] at HB
    rw [e0.out]
    clear hb
    generalize TgB i.1 i.2.2.2.2.1 pc a = t at *
    go_enter Tryz.func35, Tryz.ntmps35
    go_upto_region 1 with (fail)
    obtain ⟨W1, h1⟩ : ∃ W1, w.alloc (Obj.cells #[.int .i64 i.1, .int .i64 i.2.1, .int .i64 i.2.2.1, .int .i64 i.2.2.2.1, .int .i64 i.2.2.2.2.1, .bool i.2.2.2.2.2.1, .bool i.2.2.2.2.2.2] 56) = W1 := ⟨_, rfl⟩
    have n1 : Nb w W1 := by rw [← h1]; exact (Nb.refl _).alloc _
    have k0 : W1.heap[w.heap.size]? = some (.cells #[.int .i64 i.1, .int .i64 i.2.1, .int .i64 i.2.2.1, .int .i64 i.2.2.2.1, .int .i64 i.2.2.2.2.1, .bool i.2.2.2.2.2.1, .bool i.2.2.2.2.2.2] 56 (0, 0)) := by rw [← h1]; exact new_blk _ _ rfl
    rw [h1]
    clear h1
    obtain ⟨z, c0, c1, c2, c3, c4, c5, c6⟩ := cells7 k0
    go_wp2_with fail
    refine (HB.out _).mono ?_
    rintro e w' ⟨rfl, rfl⟩
    go_wp2_with fail
    refine (HG.out _).mono ?_
    rintro e w2 ⟨rfl, hn⟩
    go_wp2_with fail
    go_ret
    exact ⟨rfl, n1.trans hn⟩
  | true =>
    cases ht : TkB i.1 i.2.1 i.2.2.1 i.2.2.2.1 i.2.2.2.2.1 i.2.2.2.2.2.1 i.2.2.2.2.2.2 a b with
    | true =>
      have e0 := Lib.hid (show nextS i pc a b = TgB i.1 i.2.2.2.2.1 pc a from if_neg (by rw [ht]; simp))
      rw [hb] at HB
      rw [ht] at HT
      rw [e0.out]
      clear hb ht
      generalize TgB i.1 i.2.2.2.2.1 pc a = t at *
      go_enter Tryz.func35, Tryz.ntmps35
      go_upto_region 1 with (fail)
      obtain ⟨W1, h1⟩ : ∃ W1, w.alloc (Obj.cells #[.int .i64 i.1, .int .i64 i.2.1, .int .i64 i.2.2.1, .int .i64 i.2.2.2.1, .int .i64 i.2.2.2.2.1, .bool i.2.2.2.2.2.1, .bool i.2.2.2.2.2.2] 56) = W1 := ⟨_, rfl⟩
      have n1 : Nb w W1 := by rw [← h1]; exact (Nb.refl _).alloc _
      have k0 : W1.heap[w.heap.size]? = some (.cells #[.int .i64 i.1, .int .i64 i.2.1, .int .i64 i.2.2.1, .int .i64 i.2.2.2.1, .int .i64 i.2.2.2.2.1, .bool i.2.2.2.2.2.1, .bool i.2.2.2.2.2.2] 56 (0, 0)) := by rw [← h1]; exact new_blk _ _ rfl
      rw [h1]
      clear h1
      obtain ⟨z, c0, c1, c2, c3, c4, c5, c6⟩ := cells7 k0
      go_wp2_with fail
      refine (HB.out _).mono ?_
      rintro e w' ⟨rfl, rfl⟩
      go_wp2_with fail
      refine (HT.out _ (hC.of_nb n1)).mono ?_
      rintro e w2 ⟨rfl, n2⟩
      obtain ⟨z, c0, c1, c2, c3, c4, c5, c6⟩ := cells7 (n2.block k0)
      go_wp2_with fail
      refine (HG.out _).mono ?_
      rintro e w3 ⟨rfl, n3⟩
      go_wp2_with fail
      go_ret
      exact ⟨rfl, (n1.trans n2).trans n3⟩
    | false =>
      have e0 := Lib.hid (show nextS i pc a b = IntKind.u64.wrap (pc + 4) from if_pos ⟨hb, ht⟩)
      rw [hb] at HB
      rw [ht] at HT
      rw [e0.out]
      clear hb ht
      go_enter Tryz.func35, Tryz.ntmps35
      go_upto_region 1 with (fail)
      obtain ⟨W1, h1⟩ : ∃ W1, w.alloc (Obj.cells #[.int .i64 i.1, .int .i64 i.2.1, .int .i64 i.2.2.1, .int .i64 i.2.2.2.1, .int .i64 i.2.2.2.2.1, .bool i.2.2.2.2.2.1, .bool i.2.2.2.2.2.2] 56) = W1 := ⟨_, rfl⟩
      have n1 : Nb w W1 := by rw [← h1]; exact (Nb.refl _).alloc _
      have k0 : W1.heap[w.heap.size]? = some (.cells #[.int .i64 i.1, .int .i64 i.2.1, .int .i64 i.2.2.1, .int .i64 i.2.2.2.1, .int .i64 i.2.2.2.2.1, .bool i.2.2.2.2.2.1, .bool i.2.2.2.2.2.2] 56 (0, 0)) := by rw [← h1]; exact new_blk _ _ rfl
      rw [h1]
      clear h1
      obtain ⟨z, c0, c1, c2, c3, c4, c5, c6⟩ := cells7 k0
      go_wp2_with fail
      refine (HB.out _).mono ?_
      rintro e w' ⟨rfl, rfl⟩
      go_wp2_with fail
      refine (HT.out _ (hC.of_nb n1)).mono ?_
      rintro e w2 ⟨rfl, n2⟩
      go_wp2_with fail
      go_ret
      exact ⟨rfl, n1.trans n2⟩
end Go.Proofs.YtmggichckhoomaaGreatDoor
