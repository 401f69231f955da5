/-
  Proved here: for every two instructions that may be, their words are alike just if they are alike. Condition: the table of codes holds what its text lays (the card ties it to the text).
-/
import Derived.Test.YtcbaokgdpmjhgaaDoorSa
import Derived.Test.YtcbaokgdpmjhgaaDoorCards
import Derived.Test.YtcbaokgdpmjhgaaDoorTie
import Derived.SevenTiedAt
namespace Go.Proofs.YtcbaokgdpmjhgaaDoor.instApart
open Go.ChangeShapes Go.WideShapes Go.ChangeAt Go.RowKit
set_option linter.unusedVariables false
attribute [local go_sem ↓] eq7

/-- What Encode answers. -/
def EncE (g : Bool) (x : Int) : Value := if g = true then .tuple #[.int .u32 x, .int .i64 0] else .tuple #[.int .u32 0, .int .i64 20]
theorem apart (n m : Nat) (rd rs1 rs2 im : Int) (aq rl : Bool) (rd' rs1' rs2' im' : Int) (aq' rl' : Bool) (hg : GoodB n rd rs1 rs2 im aq rl = true) (hg' : GoodB m rd' rs1' rs2' im' aq' rl' = true) :
    (EncW n rd rs1 rs2 im aq rl == EncW m rd' rs1' rs2' im' aq' rl') = EqI n rd rs1 rs2 im aq rl m rd' rs1' rs2' im' aq' rl' := by
  obtain ⟨U, hU, hE, hM, a1, a2, a3, a4, a5, a6⟩ := back_all n rd rs1 rs2 im aq rl hg
  obtain ⟨V, hV, hF, hN, b1, b2, b3, b4, b5, b6⟩ := back_all m rd' rs1' rs2' im' aq' rl' hg'
  have gn := good_row hg
  have gm := good_row hg'
  rw [hE, hF]
  by_cases c : (U : Int) = (V : Int)
  · rw [← c] at hN b1 b2 b3 b4 b5 b6
    obtain rfl := back_one n m U (by omega) (by omega) (by omega) (by omega) hM hN
    rw [beq_iff_eq.2 c]
    unfold EqI
    rw [← a1, ← a2, ← a3, ← a4, ← a5, ← a6, ← b1, ← b2, ← b3, ← b4, ← b5, ← b6]
    simp
  · rw [beq_eq_false_iff_ne.2 c]
    by_cases e : EqI n rd rs1 rs2 im aq rl m rd' rs1' rs2' im' aq' rl' = true
    · obtain ⟨e0, e1, e2, e3, e4, e5, e6⟩ := eqi e
      obtain rfl : n = m := by omega
      subst e1 e2 e3 e4 e5 e6
      exact absurd (hE.symm.trans hF) c
    · simpa using e
theorem apart' (op rd rs1 rs2 im : Int) (aq rl : Bool) (op' rd' rs1' rs2' im' : Int) (aq' rl' : Bool) (hg : GoodB op rd rs1 rs2 im aq rl = true) (hg' : GoodB op' rd' rs1' rs2' im' aq' rl' = true) :
    (EncW op rd rs1 rs2 im aq rl == EncW op' rd' rs1' rs2' im' aq' rl') = EqI op rd rs1 rs2 im aq rl op' rd' rs1' rs2' im' aq' rl' := by
  have gn := good_row hg
  have gm := good_row hg'
  obtain ⟨n, rfl⟩ := Int.eq_ofNat_of_zero_le (show 0 ≤ op by omega)
  obtain ⟨m, rfl⟩ := Int.eq_ofNat_of_zero_le (show 0 ≤ op' by omega)
  exact apart n m rd rs1 rs2 im aq rl rd' rs1' rs2' im' aq' rl' hg hg'
set_option maxRecDepth 100000 in
set_option maxHeartbeats 4000000 in
theorem walk (op rd rs1 rs2 im : Int) (aq rl : Bool) (op' rd' rs1' rs2' im' : Int) (aq' rl' : Bool) (w4 : InI im) (x4 : InI im') (w : World) (hC : Cod w) :
    Calls Tryd.prog 8 #[instV op rd rs1 rs2 im aq rl, instV op' rd' rs1' rs2' im' aq' rl'] w fun e w' => e = .returned (.bool true) ∧ Nb w w' := by
  have EY := fun hg => enc_yes op rd rs1 rs2 im aq rl w4.1 w4.2 hg
  have EN := fun hg => enc_no op rd rs1 rs2 im aq rl w4.1 w4.2 hg
  have FY := fun hg => enc_yes op' rd' rs1' rs2' im' aq' rl' x4.1 x4.2 hg
  have FN := fun hg => enc_no op' rd' rs1' rs2' im' aq' rl' x4.1 x4.2 hg
  have AP := apart' op rd rs1 rs2 im aq rl op' rd' rs1' rs2' im' aq' rl'
  generalize GoodB op rd rs1 rs2 im aq rl = g at *
  generalize GoodB op' rd' rs1' rs2' im' aq' rl' = g' at *
  generalize EncW op rd rs1 rs2 im aq rl = x at *
  generalize EncW op' rd' rs1' rs2' im' aq' rl' = x' at *
  clear w4 x4
  have HEY := Lib.hid EY
  have HEN := Lib.hid EN
  have HFY := Lib.hid FY
  have HFN := Lib.hid FN
  have HAP := Lib.hid AP
  clear EY EN FY FN AP
  unfold instV
  go_enter Tryd.func8, Tryd.ntmps8
  go_wp2_with fail
  obtain ⟨W1, hW1⟩ : ∃ W1, w.alloc (.cells #[.int .i64 op, .int .i64 rd, .int .i64 rs1, .int .i64 rs2, .int .i64 im, .bool aq, .bool rl] 23) = W1 := ⟨_, rfl⟩
  have hb1 := blk_made w _ hW1 rfl
  have hn1 : Nb w W1 := by rw [← hW1]; exact (Nb.refl _).alloc _
  have hz1 : W1.heap.size = w.heap.size + 1 := by rw [← hW1]; simp
  rw [hW1]
  clear hW1
  obtain ⟨W2, hW2⟩ : ∃ W2, W1.alloc (.cells #[.int .i64 op', .int .i64 rd', .int .i64 rs1', .int .i64 rs2', .int .i64 im', .bool aq', .bool rl'] 23) = W2 := ⟨_, rfl⟩
  have hb2 := blk_made W1 _ hW2 rfl
  have hn2 : Nb W1 W2 := by rw [← hW2]; exact (Nb.refl _).alloc _
  rw [hW2]
  clear hW2
  rw [hz1] at hb2
  have hb1' := hn2.block hb1
  have hN2 := hn1.trans hn2
  have hC2 := hC.of_nb hN2
  clear hb1 hn1 hn2 hz1 hC
  cases g
  · refine (HEN.out rfl _ hC2).mono ?_
    rintro e w3 ⟨rfl, hn3⟩
    have hN3 := hN2.trans hn3
    have hC3 := hC2.of_nb hn3
    obtain ⟨n3, c0, c1, c2, c3, c4, c5, c6⟩ := cells7 (hn3.block hb2)
    clear hb1' hb2 hN2 hn3 hC2
    go_wp2_with fail
    cases g'
    · refine (HFN.out rfl _ hC3).mono ?_
      rintro e w4 ⟨rfl, hn4⟩
      clear c0 c1 c2 c3 c4 c5 c6 n3
      go_wp2_with fail
      refine (ilives_any _ (hC3.of_nb hn4)).mono ?_
      rintro e w5 ⟨rfl, hn5⟩
      have hN := (hN3.trans hn4).trans hn5
      clear hN3 hn4 hn5 hC3
      go_wp2_with fail
      go_ret
      exact ⟨rfl, hN⟩
    · refine (HFY.out rfl _ hC3).mono ?_
      rintro e w4 ⟨rfl, hn4⟩
      clear c0 c1 c2 c3 c4 c5 c6 n3
      go_wp2_with fail
      refine (ilives_any _ (hC3.of_nb hn4)).mono ?_
      rintro e w5 ⟨rfl, hn5⟩
      have hN := (hN3.trans hn4).trans hn5
      clear hN3 hn4 hn5 hC3
      go_wp2_with fail
      go_ret
      exact ⟨rfl, hN⟩
  · refine (HEY.out rfl _ hC2).mono ?_
    rintro e w3 ⟨rfl, hn3⟩
    have hN3 := hN2.trans hn3
    have hC3 := hC2.of_nb hn3
    have hq1 := hn3.block hb1'
    have hq2 := hn3.block hb2
    obtain ⟨n3, c0, c1, c2, c3, c4, c5, c6⟩ := cells7 hq2
    clear hb1' hb2 hN2 hn3 hC2
    go_wp2_with fail
    cases g'
    · refine (HFN.out rfl _ hC3).mono ?_
      rintro e w4 ⟨rfl, hn4⟩
      clear c0 c1 c2 c3 c4 c5 c6 n3
      go_wp2_with fail
      refine (ilives_any _ (hC3.of_nb hn4)).mono ?_
      rintro e w5 ⟨rfl, hn5⟩
      have hN := (hN3.trans hn4).trans hn5
      clear hN3 hn4 hn5 hC3
      go_wp2_with fail
      go_ret
      exact ⟨rfl, hN⟩
    · have hx := HAP.out (by simp) (by simp)
      refine (HFY.out rfl _ hC3).mono ?_
      rintro e w4 ⟨rfl, hn4⟩
      clear c0 c1 c2 c3 c4 c5 c6 n3
      obtain ⟨n4, c0, c1, c2, c3, c4, c5, c6⟩ := cells7 (hn4.block hq1)
      obtain ⟨n5, d0, d1, d2, d3, d4, d5, d6⟩ := cells7 (hn4.block hq2)
      have hxx : ((x == x') == EqI op rd rs1 rs2 im aq rl op' rd' rs1' rs2' im' aq' rl') = true := by rw [hx]; simp
      clear hx hq1 hq2
      go_wp2_with fail
      refine (ilives_any _ (hC3.of_nb hn4)).mono ?_
      rintro e w5 ⟨rfl, hn5⟩
      have hN := (hN3.trans hn4).trans hn5
      clear hN3 hn4 hn5 hC3
      go_wp2_with fail
      go_ret
      exact ⟨rfl, hN⟩
/-! The row's step. -/
set_option maxRecDepth 100000 in
theorem lifted (os : Os) (started : os.Started) (H : Type) (enc : TypeId × Value → H) :
    ReturnsInHanded {} Tryd.checked os 8 .any (fun w args => (Rows.instApartSpec.pre enc Tryd.prog Tryd.f8 [] false w args ∧ laidMetH Tryd.prog laidL w) ∧ sizedMet enc Tryd.prog Tryd.f8 (OpenSpec.ofChange Rows.instApartSpec) false w args)
      (Rows.instApartSpec.post enc Tryd.prog Tryd.f8 false true false false) := by
  refine returnsInHanded_of_change_and (C := Tryd.checked) (X := fun w _ => laidMetH Tryd.prog laidL w) (fun _ _ _ hh h => h.of_heap hh) own started (by kernel_rfl) Tryd.func8
    (ChangeSpec.witness_shaped (enc := enc) (C := Tryd.checked) (os := os) (X := fun w _ => laidMetH Tryd.prog laidL w) false (World.doorLaid Tryd.prog 400 os) #[.agg #[.int .i64 0, .int .i64 0, .int .i64 0, .int .i64 0, .int .i64 0, .bool false, .bool false], .agg #[.int .i64 0, .int .i64 0, .int .i64 0, .int .i64 0, .int .i64 0, .bool false, .bool false]] 8 rfl (World.shaped_of_RefB (by kernel_rfl) (by kernel_rfl)) (by kernel_rfl) (by kernel_rfl) (by kernel_rfl) (door_met os _)) ?_
  intro W base args ds gs before hval0 hW _ _ hL _
  have hval : ∀ (j : Nat) t v, Tryd.f8.params[j]? = some t → args[j]? = some v → Value.okWide Tryd.prog W .any base t v := hval0
  have hW' := hW
  obtain ⟨p, q, hA0, hV, rfl, hfz, hnd⟩ := hW
  have hA : DataW.TrodAll enc Tryd.prog W 0 (fun _ => true) true Tryd.f8.params.toList args.toList ds p := hA0
  rw [Tryd.params8] at hA hval
  obtain ⟨v0, vs0, d0, ds0, p0, q0, hargs0, rfl, rfl, h0, r0⟩ := trodAll_cons hA
  obtain ⟨v1, vs1, d1, ds1, p1, q1, hargs1, rfl, rfl, h1, r1⟩ := trodAll_cons r0
  obtain ⟨rfl, rfl, rfl⟩ := trodAll_nil r1
  obtain rfl : args = #[v0, v1] := by cases args; simp_all
  obtain ⟨rfl, rfl⟩ := trodVars_none hV
  obtain ⟨op0, rd0, rsa0, rsb0, im0, aq0, rl0, rfl, rfl, rfl, wo0, wr0, wa0, wb0, wi0⟩ := open_inst (hval 0 23 v0 rfl rfl) h0
  obtain ⟨op1, rd1, rsa1, rsb1, im1, aq1, rl1, rfl, rfl, rfl, wo1, wr1, wa1, wb1, wi1⟩ := open_inst (hval 1 23 v1 rfl rfl) h1
  clear hA0 hval0
  simp only [List.append_nil] at hW'
  refine (walk op0 rd0 rsa0 rsb0 im0 aq0 rl0 op1 rd1 rsa1 rsb1 im1 aq1 rl1 (i64_of wi0) (i64_of wi1) W (cod_of_laid hL)).mono fun e W' ⟨he, hg⟩ => ?_
  subst he
  exact ⟨_, rfl, post_of_nb (pa := []) (pv := []) hW' (fun _ _ _ => (trodAll_cons_mk (shut_bool Tryd.underlying4 _) trodAll_mk0)) (fun sp _ => (trodAll_cons_mk (shut_inst wo0 wr0 wa0 wb0 wi0) (trodAll_cons_mk (shut_inst wo1 wr1 wa1 wb1 wi1) trodAll_mk0))) (fun _ _ => rfl) rfl
    hg (ok_one (by kernel_rfl) rfl (okWide_bool_mk Tryd.underlying4 _))⟩
theorem over : Rows.InstApartSaid :=
  OpenClaim.holds_of_wide 8 Tryd.f8 rfl rfl rfl rfl rfl rfl rfl ⟨rfl, rfl, rfl, rfl, rfl⟩ rfl rfl rfl rfl rfl (by kernel_rfl) Tryd.func8 (by kernel_rfl)
    (of_decide_eq_true (by kernel_rfl)) (by unfold Func.isWrapper; first | (rw [if_pos (by decide +kernel)]; kernel_rfl) | (rw [if_neg (by decide +kernel)]; exact ⟨rfl, rfl⟩))
    (fun os started H enc _ => lifted os started H enc)
/-- The statement: the tied card. -/
theorem proved : Rows.InstApartCardSaid :=
  Claim7.holds_tied_plain_at .later [] [.data] true (true, "59583f0381c974019f2f58a01e615cf0562425f09e5f2187988eb4de7ae9e5c0") false
    over (fun _ h => by cases h) (by kernel_rfl) (fun _ h => by cases h) instApart_row_tie rfl ⟨rfl, rfl⟩ (by kernel_rfl) rfl
    (fun f fn hf hfn => by
      obtain rfl : f = 8 := Option.some.inj ((show Tryd.prog.funcNamed "postbag/postbaglaw02.InstApart" = some 8 by kernel_rfl).symm.trans hf) |>.symm
      obtain rfl : fn = Tryd.f8 := (Option.some.inj (Tryd.func8.symm.trans hfn)).symm
      exact ⟨by kernel_rfl, fun j t ht => by
        rw [Tryd.params8] at ht
        have hm : t ∈ [23, 23] := by simpa using Array.mem_of_getElem? ht
        have hall : ([23, 23].all fun u => !Tryd.prog.wantsStandIn u) = true := by kernel_rfl
        exact (show Tryd.prog.wantsStandIn t = false by simpa using List.all_eq_true.1 hall t hm)⟩)
    (by kernel_rfl)
#print axioms proved
end Go.Proofs.YtcbaokgdpmjhgaaDoor.instApart
