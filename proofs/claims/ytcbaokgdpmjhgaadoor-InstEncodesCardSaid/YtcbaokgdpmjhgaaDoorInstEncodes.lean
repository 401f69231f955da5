/-
  Proved here: for every instruction, Encode and Good of the code answer as the document's own functions do. Condition: the table of codes holds what its text lays (the card ties it to the text).
-/
import Derived.Test.YtcbaokgdpmjhgaaDoorSa
import Derived.Test.YtcbaokgdpmjhgaaDoorCards
import Derived.Test.YtcbaokgdpmjhgaaDoorTie
import Derived.SevenTiedAt
import Derived.Test.YtcbaokgdpmjhgaaDoorRf
namespace Go.Proofs.YtcbaokgdpmjhgaaDoor.instEncodes
open Go.ChangeShapes Go.WideShapes Go.ChangeAt Go.RowKit Go.Sort
set_option linter.unusedVariables false

theorem cod_regrown {w : World} (h : Cod w) (d : Nat) (os : Array Obj) : Cod (Go.Sort.grow (redrawn w d) os) := h.of_nb (below_regrown w d os)
def Xw (g : Bool) (x : Int) : Int := if g = true then x else 0
def Xe (g : Bool) : Int := if g = true then 0 else 20
theorem enc_both (op rd rs1 rs2 im : Int) (aq rl : Bool) (v0 : -9223372036854775808 ≤ im) (v1 : im < 9223372036854775808) (w : World) (hC : Cod w) :
    Calls Tryd.prog 10 #[.agg #[.int .i64 op, .int .i64 rd, .int .i64 rs1, .int .i64 rs2, .int .i64 im, .bool aq, .bool rl]] w fun e w' => e = .returned (.tuple #[.int .u32 (Xw (GoodB op rd rs1 rs2 im aq rl) (EncW op rd rs1 rs2 im aq rl)), .int .i64 (Xe (GoodB op rd rs1 rs2 im aq rl))]) ∧ Nb w w' := by
  by_cases g : GoodB op rd rs1 rs2 im aq rl = true
  · rw [g]; exact enc_yes op rd rs1 rs2 im aq rl v0 v1 g w hC
  · have g' : GoodB op rd rs1 rs2 im aq rl = false := by simpa using g
    rw [g']; exact enc_no op rd rs1 rs2 im aq rl v0 v1 g' w hC
theorem renc_both (op rd rs1 rs2 im : Int) (aq rl : Bool) (v0 : -9223372036854775808 ≤ im) (v1 : im < 9223372036854775808) (w : World) :
    Calls Tryd.prog 11 #[.agg #[.int .i64 op, .int .i64 rd, .int .i64 rs1, .int .i64 rs2, .int .i64 im, .bool aq, .bool rl]] w fun e w' => e = .returned (.tuple #[.int .u32 (Xw (GoodB op rd rs1 rs2 im aq rl) (EncW op rd rs1 rs2 im aq rl)), .int .i64 (Xe (GoodB op rd rs1 rs2 im aq rl))]) ∧ Nb w w' := by
  by_cases g : GoodB op rd rs1 rs2 im aq rl = true
  · rw [g]; exact renc_yes op rd rs1 rs2 im aq rl v0 v1 g w
  · have g' : GoodB op rd rs1 rs2 im aq rl = false := by simpa using g
    rw [g']; exact renc_no op rd rs1 rs2 im aq rl v0 v1 g' w
set_option maxRecDepth 100000 in
set_option maxHeartbeats 4000000 in
theorem walk (op rd rs1 rs2 im : Int) (aq rl : Bool) (w4 : InI im) (w : World) (hC : Cod w) :
    Calls Tryd.prog 3 #[instV op rd rs1 rs2 im aq rl] w fun e w' => e = .returned (.bool true) ∧ Nb w w' := by
  have E := enc_both op rd rs1 rs2 im aq rl w4.1 w4.2
  have R := renc_both op rd rs1 rs2 im aq rl w4.1 w4.2
  have GA := good_any op rd rs1 rs2 im aq rl w4.1 w4.2
  have RG := rgoods op rd rs1 rs2 im aq rl w4.1 w4.2
  generalize GoodB op rd rs1 rs2 im aq rl = g at *
  generalize Xw g (EncW op rd rs1 rs2 im aq rl) = x at *
  generalize Xe g = y at *
  clear w4
  have HE := Lib.hid E
  have HR := Lib.hid R
  have HGA := Lib.hid GA
  have HRG := Lib.hid RG
  clear E R GA RG
  unfold instV
  go_enter Tryd.func3, Tryd.ntmps3
  go_wp2_with fail
  obtain ⟨W1, hW1⟩ : ∃ W1, w.alloc (.cells #[.int .i64 op, .int .i64 rd, .int .i64 rs1, .int .i64 rs2, .int .i64 im, .bool aq, .bool rl] 23) = W1 := ⟨_, rfl⟩
  have hb1 := blk_made w _ hW1 rfl
  have hN1 : Nb w W1 := by rw [← hW1]; exact (Nb.refl _).alloc _
  rw [hW1]
  clear hW1
  have hC1 := hC.of_nb hN1
  clear hC
  refine (HE.out _ hC1).mono ?_
  rintro e w3 ⟨rfl, hn3⟩
  have hN3 := hN1.trans hn3
  have hC3 := hC1.of_nb hn3
  have hb3 := hn3.block hb1
  clear hb1 hN1 hn3 hC1
  obtain ⟨n3, c0, c1, c2, c3, c4, c5, c6⟩ := cells7 hb3
  go_wp2_with fail
  refine (HR.out _).mono ?_
  rintro e w4 ⟨rfl, hn4⟩
  have hN4 := hN3.trans hn4
  have hC4 := hC3.of_nb hn4
  have hb4 := hn4.block hb3
  clear hb3 hN3 hn4 hC3 n3 c0 c1 c2 c3 c4 c5 c6
  obtain ⟨n3, c0, c1, c2, c3, c4, c5, c6⟩ := cells7 hb4
  clear hb4
  have hx : (x == x) = true := by simp
  have hy : (y == y) = true := by simp
  have hgg : (g == g) = true := by simp
  go_wp2_with fail
  have d0 := cell_regrown c0
  have d1 := cell_regrown c1
  have d2 := cell_regrown c2
  have d3 := cell_regrown c3
  have d4 := cell_regrown c4
  have d5 := cell_regrown c5
  have d6 := cell_regrown c6
  have HC := Lib.hid (fun d os => cod_regrown hC4 d os)
  clear c0 c1 c2 c3 c4 c5 c6 hC4
  refine wp_region_quiet_below (by kernel_rfl) (by kernel_rfl) ?_
  repeat (quiet_step ((first | (go_at_call 12; exact regrown_nb (HGA.out _ (HC.out _ _))) | (go_at_call 13; exact regrown_nb (HRG.out _)) | (go_at_call 14; exact regrown_nb (ilives_any _ (HC.out _ _))))))
  refine wpQuiet_nil ?_
  intro _ hw'
  obtain ⟨⟨dq, osq⟩, hw''⟩ := hw'
  subst hw''
  go_wp2_with fail
  go_ret
  exact ⟨rfl, hN4.trans (below_regrown w4 dq osq)⟩
/-! The row's step. -/
set_option maxRecDepth 100000 in
theorem lifted (os : Os) (started : os.Started) (H : Type) (enc : TypeId × Value → H) :
    ReturnsInHanded {} Tryd.checked os 3 .any (fun w args => (Rows.instEncodesSpec.pre enc Tryd.prog Tryd.f3 [] false w args ∧ laidMetH Tryd.prog laidL w) ∧ sizedMet enc Tryd.prog Tryd.f3 (OpenSpec.ofChange Rows.instEncodesSpec) false w args)
      (Rows.instEncodesSpec.post enc Tryd.prog Tryd.f3 false true false false) := by
  refine returnsInHanded_of_change_and (C := Tryd.checked) (X := fun w _ => laidMetH Tryd.prog laidL w) (fun _ _ _ hh h => h.of_heap hh) own started (by kernel_rfl) Tryd.func3
    (ChangeSpec.witness_shaped (enc := enc) (C := Tryd.checked) (os := os) (X := fun w _ => laidMetH Tryd.prog laidL w) false (World.doorLaid Tryd.prog 400 os) #[.agg #[.int .i64 0, .int .i64 0, .int .i64 0, .int .i64 0, .int .i64 0, .bool false, .bool false]] 8 rfl (World.shaped_of_RefB (by kernel_rfl) (by kernel_rfl)) (by kernel_rfl) (by kernel_rfl) (by kernel_rfl) (door_met os _)) ?_
  intro W base args ds gs before hval0 hW _ _ hL _
  have hval : ∀ (j : Nat) t v, Tryd.f3.params[j]? = some t → args[j]? = some v → Value.okWide Tryd.prog W .any base t v := hval0
  have hW' := hW
  obtain ⟨p, q, hA0, hV, rfl, hfz, hnd⟩ := hW
  have hA : DataW.TrodAll enc Tryd.prog W 0 (fun _ => true) true Tryd.f3.params.toList args.toList ds p := hA0
  rw [Tryd.params3] at hA hval
  obtain ⟨v0, vs0, d0, ds0, p0, q0, hargs0, rfl, rfl, h0, r0⟩ := trodAll_cons hA
  obtain ⟨rfl, rfl, rfl⟩ := trodAll_nil r0
  obtain rfl : args = #[v0] := by cases args; simp_all
  obtain ⟨rfl, rfl⟩ := trodVars_none hV
  obtain ⟨op0, rd0, rsa0, rsb0, im0, aq0, rl0, rfl, rfl, rfl, wo0, wr0, wa0, wb0, wi0⟩ := open_inst (hval 0 23 v0 rfl rfl) h0
  clear hA0 hval0
  simp only [List.append_nil] at hW'
  refine (walk op0 rd0 rsa0 rsb0 im0 aq0 rl0 (i64_of wi0) W (cod_of_laid hL)).mono fun e W' ⟨he, hg⟩ => ?_
  subst he
  exact ⟨_, rfl, post_of_nb (pa := []) (pv := []) hW' (fun _ _ _ => (trodAll_cons_mk (shut_bool Tryd.underlying4 _) trodAll_mk0)) (fun sp _ => (trodAll_cons_mk (shut_inst wo0 wr0 wa0 wb0 wi0) trodAll_mk0)) (fun _ _ => rfl) rfl
    hg (ok_one (by kernel_rfl) rfl (okWide_bool_mk Tryd.underlying4 _))⟩
theorem over : Rows.InstEncodesSaid :=
  OpenClaim.holds_of_wide 3 Tryd.f3 rfl rfl rfl rfl rfl rfl rfl ⟨rfl, rfl, rfl, rfl, rfl⟩ rfl rfl rfl rfl rfl (by kernel_rfl) Tryd.func3 (by kernel_rfl)
    (of_decide_eq_true (by kernel_rfl)) (by unfold Func.isWrapper; first | (rw [if_pos (by decide +kernel)]; kernel_rfl) | (rw [if_neg (by decide +kernel)]; exact ⟨rfl, rfl⟩))
    (fun os started H enc _ => lifted os started H enc)
/-- The statement: the tied card. -/
theorem proved : Rows.InstEncodesCardSaid :=
  Claim7.holds_tied_plain_at .later [] [.data] true (true, "59583f0381c974019f2f58a01e615cf0562425f09e5f2187988eb4de7ae9e5c0") false
    over (fun _ h => by cases h) (by kernel_rfl) (fun _ h => by cases h) instEncodes_row_tie rfl ⟨rfl, rfl⟩ (by kernel_rfl) rfl
    (fun f fn hf hfn => by
      obtain rfl : f = 3 := Option.some.inj ((show Tryd.prog.funcNamed "postbag/postbaglaw02.InstEncodes" = some 3 by kernel_rfl).symm.trans hf) |>.symm
      obtain rfl : fn = Tryd.f3 := (Option.some.inj (Tryd.func3.symm.trans hfn)).symm
      exact ⟨by kernel_rfl, fun j t ht => by
        rw [Tryd.params3] at ht
        have hm : t ∈ [23] := by simpa using Array.mem_of_getElem? ht
        have hall : ([23].all fun u => !Tryd.prog.wantsStandIn u) = true := by kernel_rfl
        exact (show Tryd.prog.wantsStandIn t = false by simpa using List.all_eq_true.1 hall t hm)⟩)
    (by kernel_rfl)
#print axioms proved
end Go.Proofs.YtcbaokgdpmjhgaaDoor.instEncodes
