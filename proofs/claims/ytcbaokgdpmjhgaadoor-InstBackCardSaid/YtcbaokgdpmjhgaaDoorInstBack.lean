/-
  Proved here: for every instruction, what Encode of the code has a word for comes back from that word by Decode, and what has none may not be. Condition: the table of codes holds what its text lays (the card ties it to the text).
-/
import Derived.Test.YtcbaokgdpmjhgaaDoorSa
import Derived.Test.YtcbaokgdpmjhgaaDoorCards
import Derived.Test.YtcbaokgdpmjhgaaDoorTie
import Derived.SevenTiedAt
namespace Go.Proofs.YtcbaokgdpmjhgaaDoor.instBack
open Go.ChangeShapes Go.WideShapes Go.ChangeAt Go.RowKit
set_option linter.unusedVariables false
attribute [local go_sem ↓] eq7

/-- What Decode answers for the word of an instruction that may be: that instruction. -/
theorem dec_back (op rd rs1 rs2 im : Int) (aq rl : Bool) (hg : GoodB op rd rs1 rs2 im aq rl = true) (w : World) (hC : Cod w) :
    Calls Tryd.prog 15 #[.int .u32 (EncW op rd rs1 rs2 im aq rl)] w fun e w' => e = .returned (.tuple #[instV op rd rs1 rs2 im aq rl, .int .i64 0]) ∧ Nb w w' := by
  have gn := good_row hg
  obtain ⟨n, rfl⟩ := Int.eq_ofNat_of_zero_le (show 0 ≤ op by omega)
  obtain ⟨U, hU, hE, hM, a1, a2, a3, a4, a5, a6⟩ := back_all n rd rs1 rs2 im aq rl hg
  rw [hE]
  refine (dec_any (U : Int) (by omega) (by omega) w hC).mono ?_
  rintro e w' ⟨hd, hn⟩
  refine ⟨?_, hn⟩
  rcases hd with ⟨k, k1, k2, hm, hno, rfl⟩ | ⟨hno, rfl⟩
  · obtain rfl := back_one n k U (by omega) (by omega) k1 k2 hM hm
    rw [a1, a2, a3, a4, a5, a6]
    rfl
  · exact absurd (hno n (by omega) (by omega)) (by rw [hM]; decide)
set_option maxRecDepth 100000 in
set_option maxHeartbeats 4000000 in
theorem walk (op rd rs1 rs2 im : Int) (aq rl : Bool) (w4 : InI im) (w : World) (hC : Cod w) :
    Calls Tryd.prog 6 #[instV op rd rs1 rs2 im aq rl] w fun e w' => e = .returned (.bool true) ∧ Nb w w' := by
  have EY := fun hg => enc_yes op rd rs1 rs2 im aq rl w4.1 w4.2 hg
  have EN := fun hg => enc_no op rd rs1 rs2 im aq rl w4.1 w4.2 hg
  have GA := good_any op rd rs1 rs2 im aq rl w4.1 w4.2
  have DB := dec_back op rd rs1 rs2 im aq rl
  have WR : 0 ≤ EncW op rd rs1 rs2 im aq rl ∧ EncW op rd rs1 rs2 im aq rl < 4294967296 := by unfold EncW; rw [IntKind.wrap_u32]; omega
  generalize GoodB op rd rs1 rs2 im aq rl = g at *
  generalize EncW op rd rs1 rs2 im aq rl = x at *
  clear w4
  have HEY := Lib.hid EY
  have HEN := Lib.hid EN
  have HGA := Lib.hid GA
  have HDB := Lib.hid DB
  clear EY EN GA DB
  unfold instV at *
  go_enter Tryd.func6, Tryd.ntmps6
  go_wp2_with fail
  obtain ⟨W1, hW1⟩ : ∃ W1, w.alloc (.cells #[.int .i64 op, .int .i64 rd, .int .i64 rs1, .int .i64 rs2, .int .i64 im, .bool aq, .bool rl] 23) = W1 := ⟨_, rfl⟩
  have hb1 := blk_made w _ hW1 rfl
  have hN1 : Nb w W1 := by rw [← hW1]; exact (Nb.refl _).alloc _
  rw [hW1]
  clear hW1
  have hC1 := hC.of_nb hN1
  clear hC
  cases g
  · refine (HEN.out rfl _ hC1).mono ?_
    rintro e w3 ⟨rfl, hn3⟩
    have hN3 := hN1.trans hn3
    have hC3 := hC1.of_nb hn3
    obtain ⟨n3, c0, c1, c2, c3, c4, c5, c6⟩ := cells7 (hn3.block hb1)
    clear hb1 hN1 hn3 hC1
    go_wp2_with fail
    refine (HGA.out _ hC3).mono ?_
    rintro e w4 ⟨rfl, hn4⟩
    clear c0 c1 c2 c3 c4 c5 c6 n3
    go_wp2_with fail
    refine (ilives_any _ (hC3.of_nb hn4)).mono ?_
    rintro e w5 ⟨rfl, hn5⟩
    have hN := (hN3.trans hn4).trans hn5
    clear hN3 hn4 hn5 hC3
    go_wp2_with fail
    go_ret
    exact ⟨rfl, hN⟩
  · refine (HEY.out rfl _ hC1).mono ?_
    rintro e w3 ⟨rfl, hn3⟩
    have hN3 := hN1.trans hn3
    have hC3 := hC1.of_nb hn3
    have hb3 := hn3.block hb1
    clear hb1 hN1 hn3 hC1
    go_wp2_with fail
    refine (HDB.out (by simp) _ hC3).mono ?_
    rintro e w4 ⟨rfl, hn4⟩
    have hN4 := hN3.trans hn4
    have hC4 := hC3.of_nb hn4
    have hb4 := hn4.block hb3
    clear hN3 hn4 hC3 hb3
    obtain ⟨n4, c0, c1, c2, c3, c4, c5, c6⟩ := cells7 hb4
    have hs : EqI op rd rs1 rs2 im aq rl op rd rs1 rs2 im aq rl = true := by simp [EqI]
    clear hb4
    go_wp2_with fail
    refine (ilives_any _ (hC4.of_nb ((Nb.refl _).alloc _))).mono ?_
    rintro e w5 ⟨rfl, hn5⟩
    have hN := (hN4.alloc _).trans hn5
    clear hN4 hn5 hC4 c0 c1 c2 c3 c4 c5 c6
    go_wp2_with fail
    go_ret
    exact ⟨rfl, hN⟩
/-! The row's step. -/
set_option maxRecDepth 100000 in
theorem lifted (os : Os) (started : os.Started) (H : Type) (enc : TypeId × Value → H) :
    ReturnsInHanded {} Tryd.checked os 6 .any (fun w args => (Rows.instBackSpec.pre enc Tryd.prog Tryd.f6 [] false w args ∧ laidMetH Tryd.prog laidL w) ∧ sizedMet enc Tryd.prog Tryd.f6 (OpenSpec.ofChange Rows.instBackSpec) false w args)
      (Rows.instBackSpec.post enc Tryd.prog Tryd.f6 false true false false) := by
  refine returnsInHanded_of_change_and (C := Tryd.checked) (X := fun w _ => laidMetH Tryd.prog laidL w) (fun _ _ _ hh h => h.of_heap hh) own started (by kernel_rfl) Tryd.func6
    (ChangeSpec.witness_shaped (enc := enc) (C := Tryd.checked) (os := os) (X := fun w _ => laidMetH Tryd.prog laidL w) false (World.doorLaid Tryd.prog 400 os) #[.agg #[.int .i64 0, .int .i64 0, .int .i64 0, .int .i64 0, .int .i64 0, .bool false, .bool false]] 8 rfl (World.shaped_of_RefB (by kernel_rfl) (by kernel_rfl)) (by kernel_rfl) (by kernel_rfl) (by kernel_rfl) (door_met os _)) ?_
  intro W base args ds gs before hval0 hW _ _ hL _
  have hval : ∀ (j : Nat) t v, Tryd.f6.params[j]? = some t → args[j]? = some v → Value.okWide Tryd.prog W .any base t v := hval0
  have hW' := hW
  obtain ⟨p, q, hA0, hV, rfl, hfz, hnd⟩ := hW
  have hA : DataW.TrodAll enc Tryd.prog W 0 (fun _ => true) true Tryd.f6.params.toList args.toList ds p := hA0
  rw [Tryd.params6] at hA hval
  obtain ⟨v0, vs0, d0, ds0, p0, q0, hargs0, rfl, rfl, h0, r0⟩ := trodAll_cons hA
  obtain ⟨rfl, rfl, rfl⟩ := trodAll_nil r0
  obtain rfl : args = #[v0] := by cases args; simp_all
  obtain ⟨rfl, rfl⟩ := trodVars_none hV
  obtain ⟨op0, rd0, rsa0, rsb0, im0, aq0, rl0, rfl, rfl, rfl, wo0, wr0, wa0, wb0, wi0⟩ := open_inst (hval 0 23 v0 rfl rfl) h0
  clear hA0 hval0
  simp only [List.append_nil] at hW'
  refine (walk op0 rd0 rsa0 rsb0 im0 aq0 rl0 (i64_of wi0) W (cod_of_laid hL)).mono fun e W' ⟨he, hg⟩ => ?_
  subst he
  exact ⟨_, rfl, post_of_nb (pa := []) (pv := []) hW' (fun _ _ _ => (trodAll_cons_mk (shut_bool Tryd.underlying4 _) trodAll_mk0)) (fun sp _ => (trodAll_cons_mk (shut_inst wo0 wr0 wa0 wb0 wi0) trodAll_mk0)) (fun _ _ => rfl) rfl
    hg (ok_one (by kernel_rfl) rfl (okWide_bool_mk Tryd.underlying4 _))⟩
theorem over : Rows.InstBackSaid :=
  OpenClaim.holds_of_wide 6 Tryd.f6 rfl rfl rfl rfl rfl rfl rfl ⟨rfl, rfl, rfl, rfl, rfl⟩ rfl rfl rfl rfl rfl (by kernel_rfl) Tryd.func6 (by kernel_rfl)
    (of_decide_eq_true (by kernel_rfl)) (by unfold Func.isWrapper; first | (rw [if_pos (by decide +kernel)]; kernel_rfl) | (rw [if_neg (by decide +kernel)]; exact ⟨rfl, rfl⟩))
    (fun os started H enc _ => lifted os started H enc)
/-- The statement: the tied card. -/
theorem proved : Rows.InstBackCardSaid :=
  Claim7.holds_tied_plain_at .later [] [.data] true (true, "59583f0381c974019f2f58a01e615cf0562425f09e5f2187988eb4de7ae9e5c0") false
    over (fun _ h => by cases h) (by kernel_rfl) (fun _ h => by cases h) instBack_row_tie rfl ⟨rfl, rfl⟩ (by kernel_rfl) rfl
    (fun f fn hf hfn => by
      obtain rfl : f = 6 := Option.some.inj ((show Tryd.prog.funcNamed "postbag/postbaglaw02.InstBack" = some 6 by kernel_rfl).symm.trans hf) |>.symm
      obtain rfl : fn = Tryd.f6 := (Option.some.inj (Tryd.func6.symm.trans hfn)).symm
      exact ⟨by kernel_rfl, fun j t ht => by
        rw [Tryd.params6] at ht
        have hm : t ∈ [23] := by simpa using Array.mem_of_getElem? ht
        have hall : ([23].all fun u => !Tryd.prog.wantsStandIn u) = true := by kernel_rfl
        exact (show Tryd.prog.wantsStandIn t = false by simpa using List.all_eq_true.1 hall t hm)⟩)
    (by kernel_rfl)
#print axioms proved
end Go.Proofs.YtcbaokgdpmjhgaaDoor.instBack
