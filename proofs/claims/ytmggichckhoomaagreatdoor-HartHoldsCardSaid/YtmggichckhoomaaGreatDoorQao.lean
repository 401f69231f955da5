/-
  Proved here: what Decode of the code answers for every word. Condition: the table of codes holds what its text lays.
-/
import Derived.Test.YtmggichckhoomaaGreatDoorQan
import Derived.Great.Walk
import Derived.Laws.ResultCell
namespace Go.Proofs.YtmggichckhoomaaGreatDoor
open Go.RowKit Go.Sort Go.Great
set_option linter.unusedVariables false
def EqH (f o a b f' o' a' b' : Int) : Bool := (f == f') && ((o == o') && ((a == a') && (b == b')))
set_option maxHeartbeats 1000000 in
theorem neq4 (f o a b f' o' a' b' : Int) (W : World) :
    (binOp .neq 95 (.agg #[.int .u32 f, .int .u64 o, .int .u64 a, .int .u64 b]) (.agg #[.int .u32 f', .int .u64 o', .int .u64 a', .int .u64 b'])).run Tryz.prog W = .ok (.bool (!EqH f o a b f' o' a' b')) W := by
  rw [run_neq_struct, run_equalIn_agg W 9999 95 _ _ (by kernel_rfl) (by kernel_rfl)]
  simp [go_sem, Tryz.underlying95, Tryz.underlying65, Tryz.underlying22]
  unfold EqH
  repeat' split
  all_goals simp_all
attribute [local go_sem ↓] neq4
/-- The fields of a word, by an operation's form. -/
def Ird (k u : Int) : Int := oi (rdT (refRow k).1) (Fld u 7 5)
def Irs1 (k u : Int) : Int := oi (rs1T (refRow k).1) (Fld u 15 5)
def Irs2 (k u : Int) : Int := oi (rs2T (refRow k).1) (Fld u 20 5)
def Iim (k u : Int) : Int := oi (immT (refRow k).1) (II (refRow k).1 u)
def Iaq (k u : Int) : Bool := ob (ordT (refRow k).1) (Fld u 26 1 == 1)
def Irl (k u : Int) : Bool := ob (ordT (refRow k).1) (Fld u 25 1 == 1)
def HeadB (k u : Int) : Bool := EqH (1048576 * (refRow k).1) (refRow k).2.1 (refRow k).2.2.1 (refRow k).2.2.2 (1048576 * (refRow k).1) (Fld u 0 7) (Get (f3T (refRow k).1) 0 u) (Get (f7T (refRow k).1) 0 u)
def GoodK (k u : Int) : Bool := GoodB k (Ird k u) (Irs1 k u) (Irs2 k u) (Iim k u) (Iaq k u) (Irl k u)
def EncK (k u : Int) : Int := EncW k (Ird k u) (Irs1 k u) (Irs2 k u) (Iim k u) (Iaq k u) (Irl k u)
/-- Is a word that of an operation? -/
def MatchB (k u : Int) : Bool := ((refRow k).2.1 == Fld u 0 7) && (HeadB k u && (GoodK k u && (EncK k u == u)))
theorem iim_range (k u : Int) : -9223372036854775808 ≤ Iim k u ∧ Iim k u < 9223372036854775808 := by
  unfold Iim oi II
  split
  · generalize Sgn _ _ = x; unfold wrap64; omega
  · omega

theorem ins_k (k u : Int) (u0 : 0 ≤ u) (u1 : u < 18446744073709551616) (f : Int) (hf : (refRow k).1 = f) (w : World) :
    Calls Tryz.prog 90 #[.int .i64 k, .int .u32 (1048576 * f), .int .u64 u] w fun e w' => e = .returned (.agg #[.int .i64 k, .int .i64 (Ird k u), .int .i64 (Irs1 k u), .int .i64 (Irs2 k u), .int .i64 (Iim k u), .bool (Iaq k u), .bool (Irl k u)]) ∧ Nb w w' := by
  subst hf
  have h := row_ok k
  exact ins_any k (refRow k).1 u h.1 h.2.1 u0 u1 w
theorem enc_k (k u : Int) (h : GoodK k u = true) (w : World) (hC : Cod w) :
    Calls Tryz.prog 27 #[.agg #[.int .i64 k, .int .i64 (Ird k u), .int .i64 (Irs1 k u), .int .i64 (Irs2 k u), .int .i64 (Iim k u), .bool (Iaq k u), .bool (Irl k u)]] w fun e w' => e = .returned (.tuple #[.int .u32 (EncK k u), .int .i64 0]) ∧ Nb w w' :=
  enc_yes _ _ _ _ _ _ _ (iim_range k u).1 (iim_range k u).2 h w hC
theorem enc_k' (k u : Int) (h : GoodK k u = false) (w : World) (hC : Cod w) :
    Calls Tryz.prog 27 #[.agg #[.int .i64 k, .int .i64 (Ird k u), .int .i64 (Irs1 k u), .int .i64 (Irs2 k u), .int .i64 (Iim k u), .bool (Iaq k u), .bool (Irl k u)]] w fun e w' => e = .returned (.tuple #[.int .u32 0, .int .i64 20]) ∧ Nb w w' :=
  enc_no _ _ _ _ _ _ _ (iim_range k u).1 (iim_range k u).2 h w hC
theorem head_no (k u : Int) (h : ((refRow k).2.1 == Fld u 0 7) = false) : MatchB k u = false := by unfold MatchB; rw [h]; rfl
theorem head_no' (k u : Int) (h : HeadB k u = false) : MatchB k u = false := by unfold MatchB; rw [h]; simp
theorem good_no (k u : Int) (h : GoodK k u = false) : MatchB k u = false := by unfold MatchB; rw [h]; simp
theorem word_no (k u : Int) (h : (EncK k u == u) = false) : MatchB k u = false := by unfold MatchB; rw [h]; simp
theorem match_yes (k u : Int) (h1 : ((refRow k).2.1 == Fld u 0 7) = true) (h2 : HeadB k u = true) (h3 : GoodK k u = true) (h4 : (EncK k u == u) = true) : MatchB k u = true := by unfold MatchB; rw [h1, h2, h3, h4]; rfl
theorem next_no {k : Nat} {u : Int} (hM : Hid (∀ j : Nat, 1 ≤ j → j < k → MatchB j u = false)) (h : MatchB k u = false) : Hid (∀ j : Nat, 1 ≤ j → j < k + 1 → MatchB j u = false) := by
  intro j h1 h2
  by_cases e : j = k
  · rw [e]; exact h
  · exact hM.out j h1 (by omega)
/-- What Decode answers: the first operation whose word it is, or none. -/
def DecAns (u : Int) (e : Ending) : Prop :=
  (∃ k : Nat, 1 ≤ k ∧ k < 88 ∧ MatchB k u = true ∧ (∀ j : Nat, 1 ≤ j → j < k → MatchB j u = false) ∧ e = .returned (.tuple #[.agg #[.int .i64 (k : Int), .int .i64 (Ird k u), .int .i64 (Irs1 k u), .int .i64 (Irs2 k u), .int .i64 (Iim k u), .bool (Iaq k u), .bool (Irl k u)], .int .i64 0])) ∨
  ((∀ j : Nat, 1 ≤ j → j < 88 → MatchB j u = false) ∧ e = .returned (.tuple #[.agg #[.int .i64 0, .int .i64 0, .int .i64 0, .int .i64 0, .int .i64 0, .bool false, .bool false], .int .i64 21]))

set_option maxRecDepth 100000 in
set_option maxHeartbeats 8000000 in
theorem dec_any (u : Int) (u0 : 0 ≤ u) (u1 : u < 4294967296) (w : World) (hC : Cod w) :
    Calls Tryz.prog 54 #[.int .u32 u] w fun e w' => DecAns u e ∧ Nb w w' := by
  go_enter Tryz.func54, Tryz.ntmps54
  go_wp2_with fail
  obtain ⟨W1, hW⟩ : ∃ W1, w.alloc (.cells #[.int .i64 0, .int .i64 0, .int .i64 0, .int .i64 0, .int .i64 0, .bool false, .bool false] 56) = W1 := ⟨_, rfl⟩
  have hb := blk_made w _ hW rfl
  have hN : Nb w W1 := by rw [← hW]; exact (Nb.refl _).alloc _
  rw [hW]
  clear hW
  have hC1 := hC.of_nb hN
  refine (field_any _ _ _ u0 (by omega) _).mono ?_
  rintro e w' ⟨rfl, rfl⟩
  have HB := Lib.hid hb
  clear hb
  go_wp2_with fail
  go_loopw [6] (fun i wr => (∃ k : Nat, (1 : Int) ≤ k ∧ (k : Int) ≤ 88 ∧ i = .int .i64 k ∧ Hid (∀ j : Nat, 1 ≤ j → j < k → MatchB j u = false)) ∧ Nb w wr ∧ Cod wr ∧ Hid (wr.heap[w.heap.size]? = some (.cells #[.int .i64 0, .int .i64 0, .int .i64 0, .int .i64 0, .int .i64 0, .bool false, .bool false] 56 (0, 0)))) (fun i _ => (88 - intOf i).toNat)
  case atStart => exact ⟨⟨1, by decide, by decide, rfl, fun j h1 h2 => absurd h2 (by omega)⟩, hN, hC1, HB⟩
  case round =>
    obtain ⟨⟨k, k1, k2, rfl, hM⟩, hNr, hCr, HBr⟩ := hrel
    clear hN hC1 HB hC
    by_cases hlt : (k : Int) < 88
    · clear k2
      obtain ⟨s0, s1, t0, t1, x0, x1, y0, y1⟩ := row_ok k
      go_wp2_with fail
      refine (head_any k wr hCr).mono ?_
      rintro e w2 ⟨rfl, hn2⟩
      have NA := head_no k u
      have NB := head_no' k u
      have hHd : HeadB k u = EqH (1048576 * (refRow k).1) (refRow k).2.1 (refRow k).2.2.1 (refRow k).2.2.2 (1048576 * (refRow k).1) (Fld u 0 7) (Get (f3T (refRow k).1) 0 u) (Get (f7T (refRow k).1) 0 u) := rfl
      have MY := match_yes k u
      have IK := fun f hf W => ins_k k u u0 (by omega) f hf W
      generalize hF : (refRow (k : Int)).1 = f at *
      generalize hO : (refRow (k : Int)).2.1 = o at *
      generalize hA : (refRow (k : Int)).2.2.1 = a3 at *
      generalize hBb : (refRow (k : Int)).2.2.2 = a7 at *
      have IKf := Lib.hid (IK f rfl)
      clear IK hF hO hA hBb
      have HHd := Lib.hid hHd
      have HNA := Lib.hid NA
      have HNB := Lib.hid NB
      have HMY := Lib.hid MY
      clear hHd NA NB MY
      cases b1 : (o == Fld u 0 7)
      · have b1' : (o != Fld u 0 7) = true := by rw [bne_iff_ne]; exact beq_eq_false_iff_ne.1 b1
        have HNo := Lib.hid (HNA.out b1)
        clear b1
        go_wp2_with fail
        obtain ⟨W3, hW3⟩ : ∃ W3, w2.alloc (.cells #[.int .u32 (1048576 * f), .int .u64 o, .int .u64 a3, .int .u64 a7] 95) = W3 := ⟨_, rfl⟩
        have hH := made4 w2 _ _ _ _ 95 hW3 rfl
        rw [hW3]
        clear hW3
        obtain ⟨h0, h1, e0, e1, e2, e3⟩ := hH
        have hN3 := (hNr.trans hn2.b).trans h0.b
        have hC3 := (hCr.of_nw hn2).of_nw h0
        have hB3 := h0.b.block (hn2.b.block HBr.out)
        have d7 := cell_regrown e0
        have d8 := cell_regrown e1
        have d9 := cell_regrown e2
        have da := cell_regrown e3
        have E0 := Lib.hid e0
        clear e0 e1 e2 e3 h1 hn2 h0 hNr hCr HBr
        have HB3 := Lib.hid hB3
        clear hB3
        refine wp_region_quiet_below (by kernel_rfl) (by kernel_rfl) ?_
        repeat (quiet_step ((first | (go_at_call 89; exact regrown_nw (hi_any f u s0 s1 u0 (by omega) _)))))
        refine wpQuiet_nil ?_
        intro x4 hw'
        obtain ⟨⟨dq, osq⟩, hw''⟩ := hw'
        have hg : Nb W3 (grow (redrawn W3 dq) osq) := below_regrown W3 dq osq
        rw [← hw''] at hg
        clear hw'' d7 d8 d9 da
        have e0 := hg.cell E0.out
        have hN4 := hN3.trans hg
        have hC4 := hC3.of_nb hg
        have HB4 := Lib.hid (hg.block HB3.out)
        clear hg hN3 hC3 HB3 E0
        go_wp2_with fail
        go_roundw
        case rel => exact ⟨⟨k + 1, by omega, by omega, by go_num, next_no hM (HNo.out)⟩, hN4, hC4, HB4⟩
        case measure => simp [intOf]; omega
      · have b1' : (o != Fld u 0 7) = false := by rw [bne_eq_false_iff_eq]; exact beq_iff_eq.1 b1
        have B1 := Lib.hid b1
        clear b1
        cases b2 : HeadB k u
        · have HE : EqH (1048576 * f) o a3 a7 (1048576 * f) (Fld u 0 7) (Get (f3T f) 0 u) (Get (f7T f) 0 u) = false := HHd.out.symm.trans b2
          have HNo := Lib.hid (HNB.out b2)
          clear b2
          go_wp2_with fail
          obtain ⟨W3, hW3⟩ : ∃ W3, w2.alloc (.cells #[.int .u32 (1048576 * f), .int .u64 o, .int .u64 a3, .int .u64 a7] 95) = W3 := ⟨_, rfl⟩
          have hH := made4 w2 _ _ _ _ 95 hW3 rfl
          rw [hW3]
          clear hW3
          obtain ⟨h0, h1, e0, e1, e2, e3⟩ := hH
          have hN3 := (hNr.trans hn2.b).trans h0.b
          have hC3 := (hCr.of_nw hn2).of_nw h0
          have hB3 := h0.b.block (hn2.b.block HBr.out)
          have d7 := cell_regrown e0
          have d8 := cell_regrown e1
          have d9 := cell_regrown e2
          have da := cell_regrown e3
          have E0 := Lib.hid e0
          clear e0 e1 e2 e3 h1 hn2 h0 hNr hCr HBr
          have HB3 := Lib.hid hB3
          clear hB3
          refine wp_region_quiet_below (by kernel_rfl) (by kernel_rfl) ?_
          repeat (quiet_step ((first | (go_at_call 89; exact regrown_nw (hi_any f u s0 s1 u0 (by omega) _)))))
          refine wpQuiet_nil ?_
          intro x4 hw'
          obtain ⟨⟨dq, osq⟩, hw''⟩ := hw'
          have hg : Nb W3 (grow (redrawn W3 dq) osq) := below_regrown W3 dq osq
          rw [← hw''] at hg
          clear hw'' d7 d8 d9 da
          have e0 := hg.cell E0.out
          have hN4 := hN3.trans hg
          have hC4 := hC3.of_nb hg
          have HB4 := Lib.hid (hg.block HB3.out)
          clear hg hN3 hC3 HB3 E0
          go_wp2_with fail
          go_roundw
          case rel => exact ⟨⟨k + 1, by omega, by omega, by go_num, next_no hM (HNo.out)⟩, hN4, hC4, HB4⟩
          case measure => simp [intOf]; omega
        · have HE : EqH (1048576 * f) o a3 a7 (1048576 * f) (Fld u 0 7) (Get (f3T f) 0 u) (Get (f7T f) 0 u) = true := HHd.out.symm.trans b2
          have B2 := Lib.hid b2
          clear b2
          go_wp2_with fail
          obtain ⟨W3, hW3⟩ : ∃ W3, w2.alloc (.cells #[.int .u32 (1048576 * f), .int .u64 o, .int .u64 a3, .int .u64 a7] 95) = W3 := ⟨_, rfl⟩
          have hH := made4 w2 _ _ _ _ 95 hW3 rfl
          rw [hW3]
          clear hW3
          obtain ⟨h0, h1, e0, e1, e2, e3⟩ := hH
          have hN3 := (hNr.trans hn2.b).trans h0.b
          have hC3 := (hCr.of_nw hn2).of_nw h0
          have hB3 := h0.b.block (hn2.b.block HBr.out)
          have d7 := cell_regrown e0
          have d8 := cell_regrown e1
          have d9 := cell_regrown e2
          have da := cell_regrown e3
          have E0 := Lib.hid e0
          clear e0 e1 e2 e3 h1 hn2 h0 hNr hCr HBr
          have HB3 := Lib.hid hB3
          clear hB3
          refine wp_region_quiet_below (by kernel_rfl) (by kernel_rfl) ?_
          repeat (quiet_step ((first | (go_at_call 89; exact regrown_nw (hi_any f u s0 s1 u0 (by omega) _)))))
          refine wpQuiet_nil ?_
          intro x4 hw'
          obtain ⟨⟨dq, osq⟩, hw''⟩ := hw'
          have hg : Nb W3 (grow (redrawn W3 dq) osq) := below_regrown W3 dq osq
          rw [← hw''] at hg
          clear hw'' d7 d8 d9 da
          have e0 := hg.cell E0.out
          have hN4 := hN3.trans hg
          have hC4 := hC3.of_nb hg
          have HB4 := Lib.hid (hg.block HB3.out)
          clear hg hN3 hC3 HB3 E0
          go_wp2_with fail
          refine (IKf.out _).mono ?_
          rintro e w5 ⟨rfl, hn5⟩
          have hN5 := hN4.trans hn5
          have hC5 := hC4.of_nb hn5
          have HB5 := Lib.hid (hn5.block HB4.out)
          clear hN4 hC4 HB4 hn5 e0
          go_wp2_with fail
          obtain ⟨W6, hW6⟩ : ∃ W6, w5.alloc (.cells #[.int .i64 k, .int .i64 (Ird k u), .int .i64 (Irs1 k u), .int .i64 (Irs2 k u), .int .i64 (Iim k u), .bool (Iaq k u), .bool (Irl k u)] 56) = W6 := ⟨_, rfl⟩
          have hb6 := blk_made w5 _ hW6 rfl
          have h6 : Nb w5 W6 := by rw [← hW6]; exact (Nb.refl _).alloc _
          rw [hW6]
          clear hW6
          have hN6 := hN5.trans h6
          have hC6 := hC5.of_nb h6
          have HB6 := Lib.hid (h6.block HB5.out)
          clear hN5 hC5 HB5 h6
          go_wp2_with fail
          cases b3 : GoodK k u
          · refine (enc_k' k u b3 _ hC6).mono ?_
            rintro e w7 ⟨rfl, hn7⟩
            have hN7 := hN6.trans hn7
            have hC7 := hC6.of_nb hn7
            have HB7 := Lib.hid (hn7.block HB6.out)
            clear hN6 hC6 HB6 hn7 hb6
            go_wp2_with fail
            go_roundw
            case rel => exact ⟨⟨k + 1, by omega, by omega, by go_num, next_no hM (good_no k u b3)⟩, hN7, hC7, HB7⟩
            case measure => simp [intOf]; omega
          · refine (enc_k k u b3 _ hC6).mono ?_
            rintro e w7 ⟨rfl, hn7⟩
            have hN7 := hN6.trans hn7
            have hC7 := hC6.of_nb hn7
            have HB7 := Lib.hid (hn7.block HB6.out)
            have HI7 := Lib.hid (hn7.block hb6)
            clear hN6 hC6 HB6 hn7 hb6
            have B3 := Lib.hid b3
            clear b3
            cases b4 : (EncK k u == u)
            · have HNo := Lib.hid (word_no k u b4)
              go_wp2_with fail
              go_roundw
              case rel => exact ⟨⟨k + 1, by omega, by omega, by go_num, next_no hM (HNo.out)⟩, hN7, hC7, HB7⟩
              case measure => simp [intOf]; omega
            · have HYes := Lib.hid (HMY.out B1.out B2.out B3.out b4)
              go_upto_region 11 with (fail)
              have HR := Lib.hid (setRow_heap _ w.heap.size _ #[.int .i64 k, .int .i64 (Ird k u), .int .i64 (Irs1 k u), .int .i64 (Irs2 k u), .int .i64 (Iim k u), .bool (Iaq k u), .bool (Irl k u)] _ _ HB7.out)
              have HN := hN7.setRow (Nat.le_refl _) #[.int .i64 k, .int .i64 (Ird k u), .int .i64 (Irs1 k u), .int .i64 (Irs2 k u), .int .i64 (Iim k u), .bool (Iaq k u), .bool (Irl k u)]
              clear hN7 hC7
              apply wp_region_list
              refine wpList_load_row rfl 56 _ rfl w5.heap.size rfl 56 #[.int .i64 k, .int .i64 (Ird k u), .int .i64 (Irs1 k u), .int .i64 (Irs2 k u), .int .i64 (Iim k u), .bool (Iaq k u), .bool (Irl k u)] (0, 0) _ HI7.out Tryz.underlying56 rfl (by kernel_rfl) ?_
              refine wpList_store_row rfl 56 _ _ rfl w.heap.size #[.int .i64 k, .int .i64 (Ird k u), .int .i64 (Irs1 k u), .int .i64 (Irs2 k u), .int .i64 (Iim k u), .bool (Iaq k u), .bool (Irl k u)] rfl rfl 56 _ HB7.out (by kernel_rfl) rfl (by kernel_rfl) ?_
              go_wp2_with fail
              refine bodyPost_ret (v := .tuple #[.agg #[.int .i64 k, .int .i64 (Ird k u), .int .i64 (Irs1 k u), .int .i64 (Irs2 k u), .int .i64 (Iim k u), .bool (Iaq k u), .bool (Irl k u)], .int .i64 0]) ?_ rfl ⟨?_, ?_⟩
              · rw [results_cell_tmp rfl]
                show ((loadVar 56 ⟨w.heap.size, 0, none⟩).run Tryz.prog _).andThen _ = _
                rw [run_loadVar_row _ w.heap.size 56 56 #[.int .i64 k, .int .i64 (Ird k u), .int .i64 (Irs1 k u), .int .i64 (Irs2 k u), .int .i64 (Iim k u), .bool (Iaq k u), .bool (Irl k u)] (0, 0) _ HR.out Tryz.underlying56 rfl (by kernel_rfl)]
                rfl
              · exact Or.inl ⟨k, by omega, by omega, HYes.out, hM.out, rfl⟩
              · exact HN
    · have HK : Hid (k = 88) := Lib.hid (by omega)
      go_upto_region 12 with (fail)
      have HR := Lib.hid (setRow_heap _ w.heap.size _ #[.int .i64 0, .int .i64 0, .int .i64 0, .int .i64 0, .int .i64 0, .bool false, .bool false] _ _ HBr.out)
      have HN := hNr.setRow (Nat.le_refl _) #[.int .i64 0, .int .i64 0, .int .i64 0, .int .i64 0, .int .i64 0, .bool false, .bool false]
      clear hNr hCr
      apply wp_region_list
      refine wpList_buildTo rfl 56 _ rfl (some 51) rfl #[.int .i64 0, .int .i64 0, .int .i64 0, .int .i64 0, .int .i64 0, .bool false, .bool false] (by kernel_rfl) ?_
      refine wpList_store_row rfl 56 _ _ rfl w.heap.size #[.int .i64 0, .int .i64 0, .int .i64 0, .int .i64 0, .int .i64 0, .bool false, .bool false] rfl rfl 56 _ HBr.out (by kernel_rfl) rfl (by kernel_rfl) ?_
      go_wp2_with fail
      refine bodyPost_ret (v := .tuple #[.agg #[.int .i64 0, .int .i64 0, .int .i64 0, .int .i64 0, .int .i64 0, .bool false, .bool false], .int .i64 21]) ?_ rfl ⟨?_, ?_⟩
      · rw [results_cell_tmp rfl]
        show ((loadVar 56 ⟨w.heap.size, 0, none⟩).run Tryz.prog _).andThen _ = _
        rw [run_loadVar_row _ w.heap.size 56 56 #[.int .i64 0, .int .i64 0, .int .i64 0, .int .i64 0, .int .i64 0, .bool false, .bool false] (0, 0) _ HR.out Tryz.underlying56 rfl (by kernel_rfl)]
        rfl
      · exact Or.inr ⟨fun j h1 h2 => hM.out j h1 (by rw [HK.out]; exact h2), rfl⟩
      · exact HN
end Go.Proofs.YtmggichckhoomaaGreatDoor
