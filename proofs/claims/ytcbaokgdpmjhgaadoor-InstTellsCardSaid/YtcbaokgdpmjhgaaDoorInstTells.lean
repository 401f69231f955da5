/-
  Proved here: for every operation and every instruction, what the code says of loads, stores, sizes and registers is what the document's own functions say. Condition: the table of codes holds what its text lays (the card ties it to the text).
-/
import Derived.Test.YtcbaokgdpmjhgaaDoorSa
import Derived.Test.YtcbaokgdpmjhgaaDoorCards
import Derived.Test.YtcbaokgdpmjhgaaDoorTie
import Derived.SevenTiedAt
import Derived.Test.YtcbaokgdpmjhgaaDoorTc
import Derived.Deep.RegionHeld3
namespace Go.Proofs.YtcbaokgdpmjhgaaDoor.instTells
open Go.ChangeShapes Go.WideShapes Go.ChangeAt Go.RowKit Go.Sort
set_option linter.unusedVariables false
theorem keepS {w W : World} {n : Nat} {v0 v1 v2 v3 v4 v5 v6 : Value} (h : Nb w W) {W2 : World}
    (hS : Nb W2 w ∧ n < w.heap.size ∧ w.cell? ⟨n, 0, none⟩ = some v0 ∧ w.cell? ⟨n, 1, none⟩ = some v1 ∧ w.cell? ⟨n, 2, none⟩ = some v2 ∧ w.cell? ⟨n, 3, none⟩ = some v3 ∧ w.cell? ⟨n, 4, none⟩ = some v4 ∧ w.cell? ⟨n, 5, none⟩ = some v5 ∧ w.cell? ⟨n, 6, none⟩ = some v6) :
    Nb W2 W ∧ n < W.heap.size ∧ W.cell? ⟨n, 0, none⟩ = some v0 ∧ W.cell? ⟨n, 1, none⟩ = some v1 ∧ W.cell? ⟨n, 2, none⟩ = some v2 ∧ W.cell? ⟨n, 3, none⟩ = some v3 ∧ W.cell? ⟨n, 4, none⟩ = some v4 ∧ W.cell? ⟨n, 5, none⟩ = some v5 ∧ W.cell? ⟨n, 6, none⟩ = some v6 := by
  obtain ⟨h0, h1, c0, c1, c2, c3, c4, c5, c6⟩ := hS
  exact ⟨h0.trans h, Nat.lt_of_lt_of_le h1 h.size, h.cell c0, h.cell c1, h.cell c2, h.cell c3, h.cell c4, h.cell c5, h.cell c6⟩
theorem codS {w W2 : World} (hC : Cod W2) {R : Prop} (hS : Nb W2 w ∧ R) : Cod w := hC.of_nb hS.1
set_option maxRecDepth 100000 in
set_option maxHeartbeats 8000000 in
theorem walk (op0 op rd rs1 rs2 im : Int) (aq rl : Bool) (w0 : InI op0) (w4 : InI im) (w : World) (hC : Cod w) :
    Calls Tryd.prog 5 #[.int .i64 op0, instV op rd rs1 rs2 im aq rl] w fun e w' => e = .returned (.bool true) ∧ Nb w w' := by
  have UA := fun w hC => uses_any op rd rs1 rs2 im aq rl w4.1 w4.2 w hC
  have RU := fun w => ruses_any op rd rs1 rs2 im aq rl w4.1 w4.2 w
  have SA := fun w hC => sets_any op rd rs1 rs2 im aq rl w4.1 w4.2 w hC
  have RS := fun w => rsets_any op rd rs1 rs2 im aq rl w4.1 w4.2 w
  have hl := uses_len (GoodB op rd rs1 rs2 im aq rl) rs1 rs2
  generalize UsesL (GoodB op rd rs1 rs2 im aq rl) rs1 rs2 = zs at *
  generalize (if GoodB op rd rs1 rs2 im aq rl = true then rd else 0) = st at *
  have HUA := Lib.hid UA
  have HRU := Lib.hid RU
  have HSA := Lib.hid SA
  have HRS := Lib.hid RS
  have HL := Lib.hid hl
  have b1 : (LoadB op0 == LoadB op0) = true := by simp
  have b2 : (StoreB op0 == StoreB op0) = true := by simp
  have b3 : (AtomB op0 == AtomB op0) = true := by simp
  have b4 : (SizeI op0 == SizeI op0) = true := by simp
  have b5 : (st == st) = true := by simp
  have HLo := Lib.hid (fun w => loads_any op0 w)
  have HRLo := Lib.hid (fun w => rloads_any op0 w)
  have HSt := Lib.hid (fun w => stores_any op0 w)
  have HRSt := Lib.hid (fun w => rstores_any op0 w)
  have HAt := Lib.hid (fun w => atom_any op0 w)
  have HRAt := Lib.hid (fun w => ratom_any op0 w)
  have HSz := Lib.hid (fun w => size_any op0 w)
  have HRSz := Lib.hid (fun w => rsize_any op0 w)
  generalize LoadB op0 = x1 at *
  generalize StoreB op0 = x2 at *
  generalize AtomB op0 = x3 at *
  generalize SizeI op0 = x4 at *
  clear UA RU SA RS hl w4 w0
  unfold instV
  go_enter Tryd.func5, Tryd.ntmps5
  go_wp2_with fail
  obtain ⟨W1, hW1⟩ : ∃ W1, w.alloc (.cells #[.int .i64 op, .int .i64 rd, .int .i64 rs1, .int .i64 rs2, .int .i64 im, .bool aq, .bool rl] 23) = W1 := ⟨_, rfl⟩
  have hb1 := blk_made w _ hW1 rfl
  have hN1 : Nb w W1 := by rw [← hW1]; exact (Nb.refl _).alloc _
  rw [hW1]
  clear hW1
  have hC1 := hC.of_nb hN1
  clear hC
  obtain ⟨n1, c0, c1, c2, c3, c4, c5, c6⟩ := cells7 hb1
  clear hb1
  go_region_held3 (fun w' => Nb W1 w' ∧ w.heap.size < w'.heap.size ∧ w'.cell? ⟨w.heap.size, 0, none⟩ = some (.int .i64 op) ∧ w'.cell? ⟨w.heap.size, 1, none⟩ = some (.int .i64 rd) ∧ w'.cell? ⟨w.heap.size, 2, none⟩ = some (.int .i64 rs1) ∧ w'.cell? ⟨w.heap.size, 3, none⟩ = some (.int .i64 rs2) ∧ w'.cell? ⟨w.heap.size, 4, none⟩ = some (.int .i64 im) ∧ w'.cell? ⟨w.heap.size, 5, none⟩ = some (.bool aq) ∧ w'.cell? ⟨w.heap.size, 6, none⟩ = some (.bool rl))
    (first | assumption | (exact keepS (by assumption) (by assumption)) | (exact ⟨(Nb.refl _).drewN 1, n1, c0, c1, c2, c3, c4, c5, c6⟩))
    (first
      | (go_at_call 17; refine (HLo.out _).mono ?_; rintro e w' ⟨rfl, rfl⟩)
      | (go_at_call 18; refine (HRLo.out _).mono ?_; rintro e w' ⟨rfl, rfl⟩)
      | (go_at_call 19; refine (HSt.out _).mono ?_; rintro e w' ⟨rfl, rfl⟩)
      | (go_at_call 20; refine (HRSt.out _).mono ?_; rintro e w' ⟨rfl, rfl⟩)
      | (go_at_call 21; refine (HAt.out _).mono ?_; rintro e w' ⟨rfl, rfl⟩)
      | (go_at_call 22; refine (HRAt.out _).mono ?_; rintro e w' ⟨rfl, rfl⟩)
      | (go_at_call 23; refine (HSz.out _).mono ?_; rintro e w' ⟨rfl, rfl⟩)
      | (go_at_call 24; refine (HRSz.out _).mono ?_; rintro e w' ⟨rfl, rfl⟩)
      | (go_at_call 26; refine (HUA.out _ (codS hC1 (by assumption))).mono ?_; rintro e w26 ⟨v1, rfl, ho1, hn26⟩)
      | (go_at_call 27; refine (HRU.out _).mono ?_; rintro e w27 ⟨v2, rfl, ho2, hn27⟩)
      | (go_at_call 25; refine (ints_same zs _ _ _ _ _ (own_nb ho1 hn27) ho2 HL.out).mono ?_; rintro e w25 ⟨rfl, hn25⟩)
      | (go_at_call 28; refine (HSA.out _ (codS hC1 (by assumption))).mono ?_; rintro e w28 ⟨rfl, hn28⟩)
      | (go_at_call 29; refine (HRS.out _).mono ?_; rintro e w29 ⟨rfl, hn29⟩)
      | (go_at_call 14; refine (ilives_any _ (codS hC1 (by assumption))).mono ?_; rintro e w14 ⟨rfl, hn14⟩))
  rename_i hH
  have hN := hN1.trans hH.1
  clear hH n1 c0 c1 c2 c3 c4 c5 c6 hn26 hn27 hn25 hn28 hn29 hn14 ho1 ho2 hC1 hN1
  go_wp2_with fail
  go_ret
  exact ⟨rfl, hN⟩
/-! The row's step. -/
set_option maxRecDepth 100000 in
theorem lifted (os : Os) (started : os.Started) (H : Type) (enc : TypeId × Value → H) :
    ReturnsInHanded {} Tryd.checked os 5 .any (fun w args => (Rows.instTellsSpec.pre enc Tryd.prog Tryd.f5 [] false w args ∧ laidMetH Tryd.prog laidL w) ∧ sizedMet enc Tryd.prog Tryd.f5 (OpenSpec.ofChange Rows.instTellsSpec) false w args)
      (Rows.instTellsSpec.post enc Tryd.prog Tryd.f5 false true false false) := by
  refine returnsInHanded_of_change_and (C := Tryd.checked) (X := fun w _ => laidMetH Tryd.prog laidL w) (fun _ _ _ hh h => h.of_heap hh) own started (by kernel_rfl) Tryd.func5
    (ChangeSpec.witness_shaped (enc := enc) (C := Tryd.checked) (os := os) (X := fun w _ => laidMetH Tryd.prog laidL w) false (World.doorLaid Tryd.prog 400 os) #[.int .i64 0, .agg #[.int .i64 0, .int .i64 0, .int .i64 0, .int .i64 0, .int .i64 0, .bool false, .bool false]] 8 rfl (World.shaped_of_RefB (by kernel_rfl) (by kernel_rfl)) (by kernel_rfl) (by kernel_rfl) (by kernel_rfl) (door_met os _)) ?_
  intro W base args ds gs before hval0 hW _ _ hL _
  have hval : ∀ (j : Nat) t v, Tryd.f5.params[j]? = some t → args[j]? = some v → Value.okWide Tryd.prog W .any base t v := hval0
  have hW' := hW
  obtain ⟨p, q, hA0, hV, rfl, hfz, hnd⟩ := hW
  have hA : DataW.TrodAll enc Tryd.prog W 0 (fun _ => true) true Tryd.f5.params.toList args.toList ds p := hA0
  rw [Tryd.params5] at hA hval
  obtain ⟨v0, vs0, d0, ds0, p0, q0, hargs0, rfl, rfl, h0, r0⟩ := trodAll_cons hA
  obtain ⟨v1, vs1, d1, ds1, p1, q1, hargs1, rfl, rfl, h1, r1⟩ := trodAll_cons r0
  obtain ⟨rfl, rfl, rfl⟩ := trodAll_nil r1
  obtain rfl : args = #[v0, v1] := by cases args; simp_all
  obtain ⟨rfl, rfl⟩ := trodVars_none hV
  obtain ⟨n0, rfl, rfl, rfl, w0⟩ := open_int Tryd.underlying3 (hval 0 3 v0 rfl rfl) h0
  obtain ⟨op1, rd1, rsa1, rsb1, im1, aq1, rl1, rfl, rfl, rfl, wo1, wr1, wa1, wb1, wi1⟩ := open_inst (hval 1 23 v1 rfl rfl) h1
  clear hA0 hval0
  simp only [List.append_nil] at hW'
  refine (walk n0 op1 rd1 rsa1 rsb1 im1 aq1 rl1 (i64_of w0) (i64_of wi1) W (cod_of_laid hL)).mono fun e W' ⟨he, hg⟩ => ?_
  subst he
  exact ⟨_, rfl, post_of_nb (pa := []) (pv := []) hW' (fun _ _ _ => (trodAll_cons_mk (shut_bool Tryd.underlying4 _) trodAll_mk0)) (fun sp _ => (trodAll_cons_mk (shut_int Tryd.underlying3 w0) (trodAll_cons_mk (shut_inst wo1 wr1 wa1 wb1 wi1) trodAll_mk0))) (fun _ _ => rfl) rfl
    hg (ok_one (by kernel_rfl) rfl (okWide_bool_mk Tryd.underlying4 _))⟩
theorem over : Rows.InstTellsSaid :=
  OpenClaim.holds_of_wide 5 Tryd.f5 rfl rfl rfl rfl rfl rfl rfl ⟨rfl, rfl, rfl, rfl, rfl⟩ rfl rfl rfl rfl rfl (by kernel_rfl) Tryd.func5 (by kernel_rfl)
    (of_decide_eq_true (by kernel_rfl)) (by unfold Func.isWrapper; first | (rw [if_pos (by decide +kernel)]; kernel_rfl) | (rw [if_neg (by decide +kernel)]; exact ⟨rfl, rfl⟩))
    (fun os started H enc _ => lifted os started H enc)
/-- The statement: the tied card. -/
theorem proved : Rows.InstTellsCardSaid :=
  Claim7.holds_tied_plain_at .later [] [.data] true (true, "59583f0381c974019f2f58a01e615cf0562425f09e5f2187988eb4de7ae9e5c0") false
    over (fun _ h => by cases h) (by kernel_rfl) (fun _ h => by cases h) instTells_row_tie rfl ⟨rfl, rfl⟩ (by kernel_rfl) rfl
    (fun f fn hf hfn => by
      obtain rfl : f = 5 := Option.some.inj ((show Tryd.prog.funcNamed "postbag/postbaglaw02.InstTells" = some 5 by kernel_rfl).symm.trans hf) |>.symm
      obtain rfl : fn = Tryd.f5 := (Option.some.inj (Tryd.func5.symm.trans hfn)).symm
      exact ⟨by kernel_rfl, fun j t ht => by
        rw [Tryd.params5] at ht
        have hm : t ∈ [3, 23] := by simpa using Array.mem_of_getElem? ht
        have hall : ([3, 23].all fun u => !Tryd.prog.wantsStandIn u) = true := by kernel_rfl
        exact (show Tryd.prog.wantsStandIn t = false by simpa using List.all_eq_true.1 hall t hm)⟩)
    (by kernel_rfl)
#print axioms proved
end Go.Proofs.YtcbaokgdpmjhgaaDoor.instTells
