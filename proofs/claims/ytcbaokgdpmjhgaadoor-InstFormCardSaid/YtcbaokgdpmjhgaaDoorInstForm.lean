/-
  Proved here: for every word, what Decode of the code answers as an instruction has that word again, and it may be; what is none is the zero instruction. Condition: the table of codes holds what its text lays (the card ties it to the text).
-/
import Derived.Test.YtcbaokgdpmjhgaaDoorLc
import Derived.Test.YtcbaokgdpmjhgaaDoorCards
import Derived.Test.YtcbaokgdpmjhgaaDoorTie
import Derived.SevenTiedAt
namespace Go.Proofs.YtcbaokgdpmjhgaaDoor.instForm
open Go.ChangeShapes Go.WideShapes Go.ChangeAt Go.RowKit
set_option linter.unusedVariables false
attribute [local go_sem ↓] eq7

theorem parts_of (k u : Int) (h : MatchB k u = true) : GoodK k u = true ∧ (EncK k u == u) = true := by
  unfold MatchB at h
  simp only [Bool.and_eq_true] at h
  exact ⟨h.2.2.1, h.2.2.2⟩
theorem good_k (k u : Int) (h : GoodK k u = true) (w : World) (hC : Cod w) :
    Calls Tryd.prog 12 #[.agg #[.int .i64 k, .int .i64 (Ird k u), .int .i64 (Irs1 k u), .int .i64 (Irs2 k u), .int .i64 (Iim k u), .bool (Iaq k u), .bool (Irl k u)]] w fun e w' => e = .returned (.bool true) ∧ Nb w w' := by
  have hg := good_any k (Ird k u) (Irs1 k u) (Irs2 k u) (Iim k u) (Iaq k u) (Irl k u) (iim_range k u).1 (iim_range k u).2 w hC
  rw [show GoodB k (Ird k u) (Irs1 k u) (Irs2 k u) (Iim k u) (Iaq k u) (Irl k u) = true from h] at hg
  exact hg
set_option maxRecDepth 100000 in
set_option maxHeartbeats 4000000 in
theorem walk (a0 : Int) (w0 : (Lit.int .u32 a0).wf = true) (w : World) (hC : Cod w) :
    Calls Tryd.prog 7 #[.int .u32 a0] w fun e w' => e = .returned (.bool true) ∧ Nb w w' := by
  obtain ⟨u0, u1⟩ := u32_of w0
  clear w0
  go_enter Tryd.func7, Tryd.ntmps7
  go_wp2_with fail
  refine (dec_any a0 u0 u1 _ hC).mono ?_
  rintro e w1 ⟨hd, hn1⟩
  have hC1 := hC.of_nb hn1
  rcases hd with ⟨k, k1, k2, hm, hno, rfl⟩ | ⟨hno, rfl⟩
  · obtain ⟨hg, he⟩ := parts_of k a0 hm
    have HG := Lib.hid hg
    clear hm hno hg
    go_wp2_with fail
    obtain ⟨W2, hW⟩ : ∃ W2, w1.alloc (.cells #[.int .i64 k, .int .i64 (Ird k a0), .int .i64 (Irs1 k a0), .int .i64 (Irs2 k a0), .int .i64 (Iim k a0), .bool (Iaq k a0), .bool (Irl k a0)] 23) = W2 := ⟨_, rfl⟩
    have hb := blk_made w1 _ hW rfl
    have h2 : Nb w1 W2 := by rw [← hW]; exact (Nb.refl _).alloc _
    rw [hW]
    clear hW
    have hN2 := hn1.trans h2
    have hC2 := hC1.of_nb h2
    refine (enc_k k a0 HG.out _ hC2).mono ?_
    rintro e w3 ⟨rfl, hn3⟩
    have hN3 := hN2.trans hn3
    have hC3 := hC2.of_nb hn3
    obtain ⟨n3, c0, c1, c2, c3, c4, c5, c6⟩ := cells7 (hn3.block hb)
    clear hb h2 hn1 hC1 hC2 hN2 hn3 hC
    go_wp2_with fail
    refine (good_k k a0 HG.out _ hC3).mono ?_
    rintro e w4 ⟨rfl, hn4⟩
    clear c0 c1 c2 c3 c4 c5 c6 n3
    go_wp2_with fail
    refine (ilives_any _ (hC3.of_nb hn4)).mono ?_
    rintro e w5 ⟨rfl, hn5⟩
    have hN := (hN3.trans hn4).trans hn5
    clear hN3 hn4 hn5 hC3
    go_wp2_with fail
    go_ret
    exact ⟨rfl, hN⟩
  · go_wp2_with fail
    refine (ilives_any _ (hC1.of_nb ((Nb.refl _).alloc _))).mono ?_
    rintro e w5 ⟨rfl, hn5⟩
    have hN := (hn1.alloc _).trans hn5
    clear hn1 hn5 hC1
    go_wp2_with fail
    go_ret
    exact ⟨rfl, hN⟩

/-! The row's step. -/
set_option maxRecDepth 100000 in
theorem lifted (os : Os) (started : os.Started) (H : Type) (enc : TypeId × Value → H) :
    ReturnsInHanded {} Tryd.checked os 7 .any (fun w args => (Rows.instFormSpec.pre enc Tryd.prog Tryd.f7 [] false w args ∧ laidMetH Tryd.prog laidL w) ∧ sizedMet enc Tryd.prog Tryd.f7 (OpenSpec.ofChange Rows.instFormSpec) false w args)
      (Rows.instFormSpec.post enc Tryd.prog Tryd.f7 false true false false) := by
  refine returnsInHanded_of_change_and (C := Tryd.checked) (X := fun w _ => laidMetH Tryd.prog laidL w) (fun _ _ _ hh h => h.of_heap hh) own started (by kernel_rfl) Tryd.func7
    (ChangeSpec.witness_shaped (enc := enc) (C := Tryd.checked) (os := os) (X := fun w _ => laidMetH Tryd.prog laidL w) false (World.doorLaid Tryd.prog 400 os) #[.int .u32 0] 8 rfl (World.shaped_of_RefB (by kernel_rfl) (by kernel_rfl)) (by kernel_rfl) (by kernel_rfl) (by kernel_rfl) (door_met os _)) ?_
  intro W base args ds gs before hval0 hW _ _ hL _
  have hval : ∀ (j : Nat) t v, Tryd.f7.params[j]? = some t → args[j]? = some v → Value.okWide Tryd.prog W .any base t v := hval0
  have hW' := hW
  obtain ⟨p, q, hA0, hV, rfl, hfz, hnd⟩ := hW
  have hA : DataW.TrodAll enc Tryd.prog W 0 (fun _ => true) true Tryd.f7.params.toList args.toList ds p := hA0
  rw [Tryd.params7] at hA hval
  obtain ⟨v0, vs0, d0, ds0, p0, q0, hargs, rfl, rfl, h0, r0⟩ := trodAll_cons hA
  obtain ⟨rfl, rfl, rfl⟩ := trodAll_nil r0
  obtain rfl : args = #[v0] := by cases args; simp_all
  obtain ⟨rfl, rfl⟩ := trodVars_none hV
  obtain ⟨a0, rfl, rfl, rfl, w0⟩ := open_int Tryd.underlying24 (hval 0 24 v0 rfl rfl) h0
  clear hA0 hval0
  simp only [List.append_nil] at hW'
  refine (walk a0 w0 W (cod_of_laid hL)).mono fun e W' ⟨he, hg⟩ => ?_
  subst he
  exact ⟨_, rfl, post_of_nb (pa := []) (pv := []) hW' (fun _ _ _ => (trodAll_cons_mk (shut_bool Tryd.underlying4 _) trodAll_mk0)) (fun sp _ => (trodAll_cons_mk (shut_int Tryd.underlying24 w0) trodAll_mk0)) (fun _ _ => rfl) rfl
    hg (ok_one (by kernel_rfl) rfl (okWide_bool_mk Tryd.underlying4 _))⟩
theorem over : Rows.InstFormSaid :=
  OpenClaim.holds_of_wide 7 Tryd.f7 rfl rfl rfl rfl rfl rfl rfl ⟨rfl, rfl, rfl, rfl, rfl⟩ rfl rfl rfl rfl rfl (by kernel_rfl) Tryd.func7 (by kernel_rfl)
    (of_decide_eq_true (by kernel_rfl)) (by unfold Func.isWrapper; first | (rw [if_pos (by decide +kernel)]; kernel_rfl) | (rw [if_neg (by decide +kernel)]; exact ⟨rfl, rfl⟩))
    (fun os started H enc _ => lifted os started H enc)
/-- The statement: the tied card. -/
theorem proved : Rows.InstFormCardSaid :=
  Claim7.holds_tied_plain_at .later [] [.data] true (true, "59583f0381c974019f2f58a01e615cf0562425f09e5f2187988eb4de7ae9e5c0") false
    over (fun _ h => by cases h) (by kernel_rfl) (fun _ h => by cases h) instForm_row_tie rfl ⟨rfl, rfl⟩ (by kernel_rfl) rfl
    (fun f fn hf hfn => by
      obtain rfl : f = 7 := Option.some.inj ((show Tryd.prog.funcNamed "postbag/postbaglaw02.InstForm" = some 7 by kernel_rfl).symm.trans hf) |>.symm
      obtain rfl : fn = Tryd.f7 := (Option.some.inj (Tryd.func7.symm.trans hfn)).symm
      exact ⟨by kernel_rfl, fun j t ht => by
        rw [Tryd.params7] at ht
        have hm : t ∈ [24] := by simpa using Array.mem_of_getElem? ht
        have hall : ([24].all fun u => !Tryd.prog.wantsStandIn u) = true := by kernel_rfl
        exact (show Tryd.prog.wantsStandIn t = false by simpa using List.all_eq_true.1 hall t hm)⟩)
    (by kernel_rfl)
#print axioms proved
end Go.Proofs.YtcbaokgdpmjhgaaDoor.instForm
