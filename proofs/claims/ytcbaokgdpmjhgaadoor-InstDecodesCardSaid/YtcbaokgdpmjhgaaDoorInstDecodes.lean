/-
  Proved here: for every word, Decode of the code answers as the document's own function does. Condition: the table of codes holds what its text lays (the card ties it to the text).
-/
import Derived.Test.YtcbaokgdpmjhgaaDoorSa
import Derived.Test.YtcbaokgdpmjhgaaDoorCards
import Derived.Test.YtcbaokgdpmjhgaaDoorTie
import Derived.SevenTiedAt
import Derived.Test.YtcbaokgdpmjhgaaDoorRd
namespace Go.Proofs.YtcbaokgdpmjhgaaDoor.instDecodes
open Go.ChangeShapes Go.WideShapes Go.ChangeAt Go.RowKit
set_option linter.unusedVariables false
attribute [local go_sem ↓] eq7

theorem dec_same {u : Int} {k : Nat} (k1 : 1 ≤ k) (k2 : k < 88) (hm : MatchB k u = true) (hno : ∀ j : Nat, 1 ≤ j → j < k → MatchB j u = false) {e : Ending} (h : DecAns u e) :
    e = .returned (.tuple #[.agg #[.int .i64 (k : Int), .int .i64 (Ird k u), .int .i64 (Irs1 k u), .int .i64 (Irs2 k u), .int .i64 (Iim k u), .bool (Iaq k u), .bool (Irl k u)], .int .i64 0]) := by
  rcases h with ⟨j, j1, j2, jm, jno, rfl⟩ | ⟨jno, rfl⟩
  · have : j = k := by
      rcases Nat.lt_trichotomy j k with h | h | h
      · rw [hno j j1 h] at jm; cases jm
      · exact h
      · rw [jno k k1 h] at hm; cases hm
    rw [this]
  · rw [jno k k1 k2] at hm; cases hm
theorem dec_none {u : Int} (hno : ∀ j : Nat, 1 ≤ j → j < 88 → MatchB j u = false) {e : Ending} (h : DecAns u e) :
    e = .returned (.tuple #[.agg #[.int .i64 0, .int .i64 0, .int .i64 0, .int .i64 0, .int .i64 0, .bool false, .bool false], .int .i64 21]) := by
  rcases h with ⟨j, j1, j2, jm, jno, rfl⟩ | ⟨jno, rfl⟩
  · rw [hno j j1 j2] at jm; cases jm
  · rfl
theorem eqi_self (op rd rs1 rs2 im : Int) (aq rl : Bool) : EqI op rd rs1 rs2 im aq rl op rd rs1 rs2 im aq rl = true := by simp [EqI]
set_option maxRecDepth 100000 in
set_option maxHeartbeats 4000000 in
theorem walk (a0 : Int) (w0 : (Lit.int .u32 a0).wf = true) (w : World) (hC : Cod w) :
    Calls Tryd.prog 4 #[.int .u32 a0] w fun e w' => e = .returned (.bool true) ∧ Nb w w' := by
  obtain ⟨u0, u1⟩ := u32_of w0
  clear w0
  go_enter Tryd.func4, Tryd.ntmps4
  go_wp2_with fail
  refine (dec_any a0 u0 u1 _ hC).mono ?_
  rintro e w1 ⟨hd, hn1⟩
  have hC1 := hC.of_nb hn1
  rcases hd with ⟨k, k1, k2, hm, hno, rfl⟩ | ⟨hno, rfl⟩
  · have HS := Lib.hid (fun e h => dec_same k1 k2 hm hno (e := e) h)
    clear hm hno
    generalize Ird k a0 = x1 at *
    generalize Irs1 k a0 = x2 at *
    generalize Irs2 k a0 = x3 at *
    generalize Iim k a0 = x4 at *
    generalize Iaq k a0 = x5 at *
    generalize Irl k a0 = x6 at *
    go_wp2_with fail
    obtain ⟨W2, hW⟩ : ∃ W2, w1.alloc (.cells #[.int .i64 k, .int .i64 x1, .int .i64 x2, .int .i64 x3, .int .i64 x4, .bool x5, .bool x6] 23) = W2 := ⟨_, rfl⟩
    have hb := blk_made w1 _ hW rfl
    have h2 : Nb w1 W2 := by rw [← hW]; exact (Nb.refl _).alloc _
    rw [hW]
    clear hW
    have hN2 := hn1.trans h2
    have hC2 := hC1.of_nb h2
    clear h2 hn1 hC1
    refine (rdec_any a0 u0 u1 _).mono ?_
    rintro e w3 ⟨hd, hn3⟩
    obtain rfl := HS.out _ hd
    clear hd HS
    have hN3 := hN2.trans hn3
    have hC3 := hC2.of_nb hn3
    have hb3 := hn3.block hb
    clear hb hn3 hN2 hC2 hC
    go_upto_region 3 with (fail)
    obtain ⟨W4, hW⟩ : ∃ W4, w3.alloc (.cells #[.int .i64 k, .int .i64 x1, .int .i64 x2, .int .i64 x3, .int .i64 x4, .bool x5, .bool x6] 23) = W4 := ⟨_, rfl⟩
    have hb4 := blk_made w3 _ hW rfl
    have h4 : Nb w3 W4 := by rw [← hW]; exact (Nb.refl _).alloc _
    rw [hW]
    clear hW
    have hN4 := hN3.trans h4
    have hC4 := hC3.of_nb h4
    have hb3' := h4.block hb3
    obtain ⟨n3, c0, c1, c2, c3, c4, c5, c6⟩ := cells7 hb3'
    obtain ⟨n4, d0, d1, d2, d3, d4, d5, d6⟩ := cells7 hb4
    have hs := eqi_self k x1 x2 x3 x4 x5 x6
    clear hb3 hb3' hb4 h4 hN3 hC3
    go_wp2_with fail
    refine (ilives_any _ hC4).mono ?_
    rintro e w5 ⟨rfl, hn5⟩
    have hN := hN4.trans hn5
    clear hN4 hn5 hC4 c0 c1 c2 c3 c4 c5 c6 d0 d1 d2 d3 d4 d5 d6
    go_wp2_with fail
    go_ret
    exact ⟨rfl, hN⟩
  · have HS := Lib.hid (fun e h => dec_none hno (e := e) h)
    clear hno
    go_wp2_with fail
    obtain ⟨W2, hW⟩ : ∃ W2, w1.alloc (.cells #[.int .i64 0, .int .i64 0, .int .i64 0, .int .i64 0, .int .i64 0, .bool false, .bool false] 23) = W2 := ⟨_, rfl⟩
    have hb := blk_made w1 _ hW rfl
    have h2 : Nb w1 W2 := by rw [← hW]; exact (Nb.refl _).alloc _
    rw [hW]
    clear hW
    have hN2 := hn1.trans h2
    have hC2 := hC1.of_nb h2
    clear h2 hn1 hC1
    refine (rdec_any a0 u0 u1 _).mono ?_
    rintro e w3 ⟨hd, hn3⟩
    obtain rfl := HS.out _ hd
    clear hd HS
    have hN3 := hN2.trans hn3
    have hC3 := hC2.of_nb hn3
    have hb3 := hn3.block hb
    clear hb hn3 hN2 hC2 hC
    go_upto_region 3 with (fail)
    obtain ⟨W4, hW⟩ : ∃ W4, w3.alloc (.cells #[.int .i64 0, .int .i64 0, .int .i64 0, .int .i64 0, .int .i64 0, .bool false, .bool false] 23) = W4 := ⟨_, rfl⟩
    have hb4 := blk_made w3 _ hW rfl
    have h4 : Nb w3 W4 := by rw [← hW]; exact (Nb.refl _).alloc _
    rw [hW]
    clear hW
    have hN4 := hN3.trans h4
    have hC4 := hC3.of_nb h4
    have hb3' := h4.block hb3
    obtain ⟨n3, c0, c1, c2, c3, c4, c5, c6⟩ := cells7 hb3'
    obtain ⟨n4, d0, d1, d2, d3, d4, d5, d6⟩ := cells7 hb4
    have hs := eqi_self 0 0 0 0 0 false false
    clear hb3 hb3' hb4 h4 hN3 hC3
    go_wp2_with fail
    refine (ilives_any _ hC4).mono ?_
    rintro e w5 ⟨rfl, hn5⟩
    have hN := hN4.trans hn5
    clear hN4 hn5 hC4 c0 c1 c2 c3 c4 c5 c6 d0 d1 d2 d3 d4 d5 d6
    go_wp2_with fail
    go_ret
    exact ⟨rfl, hN⟩
/-! The row's step. -/
set_option maxRecDepth 100000 in
theorem lifted (os : Os) (started : os.Started) (H : Type) (enc : TypeId × Value → H) :
    ReturnsInHanded {} Tryd.checked os 4 .any (fun w args => (Rows.instDecodesSpec.pre enc Tryd.prog Tryd.f4 [] false w args ∧ laidMetH Tryd.prog laidL w) ∧ sizedMet enc Tryd.prog Tryd.f4 (OpenSpec.ofChange Rows.instDecodesSpec) false w args)
      (Rows.instDecodesSpec.post enc Tryd.prog Tryd.f4 false true false false) := by
  refine returnsInHanded_of_change_and (C := Tryd.checked) (X := fun w _ => laidMetH Tryd.prog laidL w) (fun _ _ _ hh h => h.of_heap hh) own started (by kernel_rfl) Tryd.func4
    (ChangeSpec.witness_shaped (enc := enc) (C := Tryd.checked) (os := os) (X := fun w _ => laidMetH Tryd.prog laidL w) false (World.doorLaid Tryd.prog 400 os) #[.int .u32 0] 8 rfl (World.shaped_of_RefB (by kernel_rfl) (by kernel_rfl)) (by kernel_rfl) (by kernel_rfl) (by kernel_rfl) (door_met os _)) ?_
  intro W base args ds gs before hval0 hW _ _ hL _
  have hval : ∀ (j : Nat) t v, Tryd.f4.params[j]? = some t → args[j]? = some v → Value.okWide Tryd.prog W .any base t v := hval0
  have hW' := hW
  obtain ⟨p, q, hA0, hV, rfl, hfz, hnd⟩ := hW
  have hA : DataW.TrodAll enc Tryd.prog W 0 (fun _ => true) true Tryd.f4.params.toList args.toList ds p := hA0
  rw [Tryd.params4] at hA hval
  obtain ⟨v0, vs0, d0, ds0, p0, q0, hargs0, rfl, rfl, h0, r0⟩ := trodAll_cons hA
  obtain ⟨rfl, rfl, rfl⟩ := trodAll_nil r0
  obtain rfl : args = #[v0] := by cases args; simp_all
  obtain ⟨rfl, rfl⟩ := trodVars_none hV
  obtain ⟨n0, rfl, rfl, rfl, w0⟩ := open_int Tryd.underlying24 (hval 0 24 v0 rfl rfl) h0
  clear hA0 hval0
  simp only [List.append_nil] at hW'
  refine (walk n0 w0 W (cod_of_laid hL)).mono fun e W' ⟨he, hg⟩ => ?_
  subst he
  exact ⟨_, rfl, post_of_nb (pa := []) (pv := []) hW' (fun _ _ _ => (trodAll_cons_mk (shut_bool Tryd.underlying4 _) trodAll_mk0)) (fun sp _ => (trodAll_cons_mk (shut_int Tryd.underlying24 w0) trodAll_mk0)) (fun _ _ => rfl) rfl
    hg (ok_one (by kernel_rfl) rfl (okWide_bool_mk Tryd.underlying4 _))⟩
theorem over : Rows.InstDecodesSaid :=
  OpenClaim.holds_of_wide 4 Tryd.f4 rfl rfl rfl rfl rfl rfl rfl ⟨rfl, rfl, rfl, rfl, rfl⟩ rfl rfl rfl rfl rfl (by kernel_rfl) Tryd.func4 (by kernel_rfl)
    (of_decide_eq_true (by kernel_rfl)) (by unfold Func.isWrapper; first | (rw [if_pos (by decide +kernel)]; kernel_rfl) | (rw [if_neg (by decide +kernel)]; exact ⟨rfl, rfl⟩))
    (fun os started H enc _ => lifted os started H enc)
/-- The statement: the tied card. -/
theorem proved : Rows.InstDecodesCardSaid :=
  Claim7.holds_tied_plain_at .later [] [.data] true (true, "59583f0381c974019f2f58a01e615cf0562425f09e5f2187988eb4de7ae9e5c0") false
    over (fun _ h => by cases h) (by kernel_rfl) (fun _ h => by cases h) instDecodes_row_tie rfl ⟨rfl, rfl⟩ (by kernel_rfl) rfl
    (fun f fn hf hfn => by
      obtain rfl : f = 4 := Option.some.inj ((show Tryd.prog.funcNamed "postbag/postbaglaw02.InstDecodes" = some 4 by kernel_rfl).symm.trans hf) |>.symm
      obtain rfl : fn = Tryd.f4 := (Option.some.inj (Tryd.func4.symm.trans hfn)).symm
      exact ⟨by kernel_rfl, fun j t ht => by
        rw [Tryd.params4] at ht
        have hm : t ∈ [24] := by simpa using Array.mem_of_getElem? ht
        have hall : ([24].all fun u => !Tryd.prog.wantsStandIn u) = true := by kernel_rfl
        exact (show Tryd.prog.wantsStandIn t = false by simpa using List.all_eq_true.1 hall t hm)⟩)
    (by kernel_rfl)
#print axioms proved
end Go.Proofs.YtcbaokgdpmjhgaaDoor.instDecodes
