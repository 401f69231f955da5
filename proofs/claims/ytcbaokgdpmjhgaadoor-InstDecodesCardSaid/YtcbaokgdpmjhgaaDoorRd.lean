/-
  Proved here: what Decode of the reference answers for every word: the same as the code's Decode. Conditions: the word is a word.
-/
import Derived.Test.YtcbaokgdpmjhgaaDoorRz
import Derived.Test.YtcbaokgdpmjhgaaDoorRf
namespace Go.Proofs.YtcbaokgdpmjhgaaDoor
open Go.RowKit Go.Sort Go.Great
set_option linter.unusedVariables false
theorem enck_range (k u : Int) : 0 ≤ EncK k u ∧ EncK k u < 4294967296 := by unfold EncK EncW; rw [IntKind.wrap_u32]; omega
/-- A word that is that of the instruction that may be, read by an operation, is the operation's. -/
theorem match_of (k : Nat) (u : Int) (hg : GoodK k u = true) (he : (EncK k u == u) = true) : MatchB k u = true := by
  obtain ⟨U, hU, hE, hM, -⟩ := back_all k _ _ _ _ _ _ hg
  have h1 : EncK k u = (U : Int) := hE
  rw [beq_iff_eq] at he
  rw [← he, h1]; exact hM
theorem renc_k (k u : Int) (h : GoodK k u = true) (w : World) :
    Calls Tryd.prog 11 #[.agg #[.int .i64 k, .int .i64 (Ird k u), .int .i64 (Irs1 k u), .int .i64 (Irs2 k u), .int .i64 (Iim k u), .bool (Iaq k u), .bool (Irl k u)]] w fun e w' => e = .returned (.tuple #[.int .u32 (EncK k u), .int .i64 0]) ∧ Nb w w' :=
  renc_yes _ _ _ _ _ _ _ (iim_range k u).1 (iim_range k u).2 h w
theorem renc_k' (k u : Int) (h : GoodK k u = false) (w : World) :
    Calls Tryd.prog 11 #[.agg #[.int .i64 k, .int .i64 (Ird k u), .int .i64 (Irs1 k u), .int .i64 (Irs2 k u), .int .i64 (Iim k u), .bool (Iaq k u), .bool (Irl k u)]] w fun e w' => e = .returned (.tuple #[.int .u32 0, .int .i64 20]) ∧ Nb w w' :=
  renc_no _ _ _ _ _ _ _ (iim_range k u).1 (iim_range k u).2 h w

set_option maxRecDepth 100000 in
set_option maxHeartbeats 8000000 in
theorem rdec_any (u : Int) (u0 : 0 ≤ u) (u1 : u < 4294967296) (w : World) :
    Calls Tryd.prog 16 #[.int .u32 u] w fun e w' => DecAns u e ∧ Nb w w' := by
  go_enter Tryd.func16, Tryd.ntmps16
  go_wp2_with fail
  obtain ⟨W1, hW⟩ : ∃ W1, w.alloc (.cells #[.int .i64 0, .int .i64 0, .int .i64 0, .int .i64 0, .int .i64 0, .bool false, .bool false] 23) = W1 := ⟨_, rfl⟩
  have hb := blk_made w _ hW rfl
  have hN : Nb w W1 := by rw [← hW]; exact (Nb.refl _).alloc _
  rw [hW]
  clear hW
  have HB := Lib.hid hb
  clear hb
  go_loopw [4] (fun i wr => (∃ k : Nat, (1 : Int) ≤ k ∧ (k : Int) ≤ 88 ∧ i = .int .i64 k ∧ Hid (∀ j : Nat, 1 ≤ j → j < k → MatchB j u = false)) ∧ Nb w wr ∧ Hid (wr.heap[w.heap.size]? = some (.cells #[.int .i64 0, .int .i64 0, .int .i64 0, .int .i64 0, .int .i64 0, .bool false, .bool false] 23 (0, 0)))) (fun i _ => (88 - intOf i).toNat)
  case atStart => exact ⟨⟨1, by decide, by decide, rfl, fun j h1 h2 => absurd h2 (by omega)⟩, hN, HB⟩
  case round =>
    obtain ⟨⟨k, k1, k2, rfl, hM⟩, hNr, HBr⟩ := hrel
    clear hN HB
    by_cases hlt : (k : Int) ≤ 87
    · clear k2
      go_wp2_with fail
      refine (as_any k u u0 u1 _).mono ?_
      rintro e w5 ⟨rfl, hn5⟩
      have hN5 := hNr.trans hn5
      have HB5 := Lib.hid (hn5.block HBr.out)
      clear hNr HBr hn5
      go_wp2_with fail
      obtain ⟨W6, hW6⟩ : ∃ W6, w5.alloc (.cells #[.int .i64 k, .int .i64 (Ird k u), .int .i64 (Irs1 k u), .int .i64 (Irs2 k u), .int .i64 (Iim k u), .bool (Iaq k u), .bool (Irl k u)] 23) = W6 := ⟨_, rfl⟩
      have hb6 := blk_made w5 _ hW6 rfl
      have h6 : Nb w5 W6 := by rw [← hW6]; exact (Nb.refl _).alloc _
      rw [hW6]
      clear hW6
      have hN6 := hN5.trans h6
      have HB6 := Lib.hid (h6.block HB5.out)
      clear hN5 HB5 h6
      go_wp2_with fail
      cases b3 : GoodK k u
      · refine (renc_k' k u b3 _).mono ?_
        rintro e w7 ⟨rfl, hn7⟩
        have hN7 := hN6.trans hn7
        have HB7 := Lib.hid (hn7.block HB6.out)
        clear hN6 HB6 hn7 hb6
        go_wp2_with fail
        go_roundw
        case rel => exact ⟨⟨k + 1, by omega, by omega, by go_num, next_no hM (good_no k u b3)⟩, hN7, HB7⟩
        case measure => simp [intOf]; omega
      · refine (renc_k k u b3 _).mono ?_
        rintro e w7 ⟨rfl, hn7⟩
        have hN7 := hN6.trans hn7
        have HB7 := Lib.hid (hn7.block HB6.out)
        have HI7 := Lib.hid (hn7.block hb6)
        clear hN6 HB6 hn7 hb6
        have B3 := Lib.hid b3
        clear b3
        cases b4 : (EncK k u == u)
        · have HNo := Lib.hid (word_no k u b4)
          go_wp2_with fail
          go_roundw
          case rel => exact ⟨⟨k + 1, by omega, by omega, by go_num, next_no hM (HNo.out)⟩, hN7, HB7⟩
          case measure => simp [intOf]; omega
        · have HYes := Lib.hid (match_of k u B3.out b4)
          go_upto_region 7 with (fail)
          have HR := Lib.hid (setRow_heap _ w.heap.size _ #[.int .i64 k, .int .i64 (Ird k u), .int .i64 (Irs1 k u), .int .i64 (Irs2 k u), .int .i64 (Iim k u), .bool (Iaq k u), .bool (Irl k u)] _ _ HB7.out)
          have HN := hN7.setRow (Nat.le_refl _) #[.int .i64 k, .int .i64 (Ird k u), .int .i64 (Irs1 k u), .int .i64 (Irs2 k u), .int .i64 (Iim k u), .bool (Iaq k u), .bool (Irl k u)]
          clear hN7
          apply wp_region_list
          refine wpList_load_row rfl 23 _ rfl w5.heap.size rfl 23 #[.int .i64 k, .int .i64 (Ird k u), .int .i64 (Irs1 k u), .int .i64 (Irs2 k u), .int .i64 (Iim k u), .bool (Iaq k u), .bool (Irl k u)] (0, 0) _ HI7.out Tryd.underlying23 rfl (by kernel_rfl) ?_
          refine wpList_store_row rfl 23 _ _ rfl w.heap.size #[.int .i64 k, .int .i64 (Ird k u), .int .i64 (Irs1 k u), .int .i64 (Irs2 k u), .int .i64 (Iim k u), .bool (Iaq k u), .bool (Irl k u)] rfl rfl 23 _ HB7.out (by kernel_rfl) rfl (by kernel_rfl) ?_
          go_wp2_with fail
          refine bodyPost_ret (v := .tuple #[.agg #[.int .i64 k, .int .i64 (Ird k u), .int .i64 (Irs1 k u), .int .i64 (Irs2 k u), .int .i64 (Iim k u), .bool (Iaq k u), .bool (Irl k u)], .int .i64 0]) ?_ rfl ⟨?_, ?_⟩
          · rw [results_cell_tmp rfl]
            show ((loadVar 23 ⟨w.heap.size, 0, none⟩).run Tryd.prog _).andThen _ = _
            rw [run_loadVar_row _ w.heap.size 23 23 #[.int .i64 k, .int .i64 (Ird k u), .int .i64 (Irs1 k u), .int .i64 (Irs2 k u), .int .i64 (Iim k u), .bool (Iaq k u), .bool (Irl k u)] (0, 0) _ HR.out Tryd.underlying23 rfl (by kernel_rfl)]
            rfl
          · exact Or.inl ⟨k, by omega, by omega, HYes.out, hM.out, rfl⟩
          · exact HN
    · have HK : Hid (k = 88) := Lib.hid (by omega)
      go_upto_region 8 with (fail)
      have HR := Lib.hid (setRow_heap _ w.heap.size _ #[.int .i64 0, .int .i64 0, .int .i64 0, .int .i64 0, .int .i64 0, .bool false, .bool false] _ _ HBr.out)
      have HN := hNr.setRow (Nat.le_refl _) #[.int .i64 0, .int .i64 0, .int .i64 0, .int .i64 0, .int .i64 0, .bool false, .bool false]
      clear hNr
      apply wp_region_list
      refine wpList_buildTo rfl 23 _ rfl (some 28) rfl #[.int .i64 0, .int .i64 0, .int .i64 0, .int .i64 0, .int .i64 0, .bool false, .bool false] (by kernel_rfl) ?_
      refine wpList_store_row rfl 23 _ _ rfl w.heap.size #[.int .i64 0, .int .i64 0, .int .i64 0, .int .i64 0, .int .i64 0, .bool false, .bool false] rfl rfl 23 _ HBr.out (by kernel_rfl) rfl (by kernel_rfl) ?_
      go_wp2_with fail
      refine bodyPost_ret (v := .tuple #[.agg #[.int .i64 0, .int .i64 0, .int .i64 0, .int .i64 0, .int .i64 0, .bool false, .bool false], .int .i64 21]) ?_ rfl ⟨?_, ?_⟩
      · rw [results_cell_tmp rfl]
        show ((loadVar 23 ⟨w.heap.size, 0, none⟩).run Tryd.prog _).andThen _ = _
        rw [run_loadVar_row _ w.heap.size 23 23 #[.int .i64 0, .int .i64 0, .int .i64 0, .int .i64 0, .int .i64 0, .bool false, .bool false] (0, 0) _ HR.out Tryd.underlying23 rfl (by kernel_rfl)]
        rfl
      · exact Or.inr ⟨fun j h1 h2 => hM.out j h1 (by rw [HK.out]; exact h2), rfl⟩
      · exact HN
end Go.Proofs.YtcbaokgdpmjhgaaDoor
