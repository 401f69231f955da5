/-
  Proved here: for every instruction the code of listing.Text answers the line that the document says (the reference package), and the examples of the chapter stand. Conditions: the variables hold what their texts lay (the card ties them to the text).
-/
import Derived.Test.YtnifoghebnjonaaDoorLr
import Derived.Test.YtnifoghebnjonaaDoorLm
import Derived.Test.YtnifoghebnjonaaDoorCards
import Derived.Test.YtnifoghebnjonaaDoorTie
import Derived.SevenTiedAt
namespace Go.Proofs.YtnifoghebnjonaaDoor.listingTexts
open Go.ChangeShapes Go.WideShapes Go.ChangeAt Go.RowKit
set_option linter.unusedVariables false
theorem keepS {w W : World} {n : Nat} {v0 v1 v2 v3 v4 v5 v6 : Value} (h : Nb w W) {W2 : World}
    (hS : Nb W2 w ∧ n < w.heap.size ∧ w.cell? ⟨n, 0, none⟩ = some v0 ∧ w.cell? ⟨n, 1, none⟩ = some v1 ∧ w.cell? ⟨n, 2, none⟩ = some v2 ∧ w.cell? ⟨n, 3, none⟩ = some v3 ∧ w.cell? ⟨n, 4, none⟩ = some v4 ∧ w.cell? ⟨n, 5, none⟩ = some v5 ∧ w.cell? ⟨n, 6, none⟩ = some v6) :
    Nb W2 W ∧ n < W.heap.size ∧ W.cell? ⟨n, 0, none⟩ = some v0 ∧ W.cell? ⟨n, 1, none⟩ = some v1 ∧ W.cell? ⟨n, 2, none⟩ = some v2 ∧ W.cell? ⟨n, 3, none⟩ = some v3 ∧ W.cell? ⟨n, 4, none⟩ = some v4 ∧ W.cell? ⟨n, 5, none⟩ = some v5 ∧ W.cell? ⟨n, 6, none⟩ = some v6 := by
  obtain ⟨h0, h1, c0, c1, c2, c3, c4, c5, c6⟩ := hS
  exact ⟨h0.trans h, Nat.lt_of_lt_of_le h1 h.size, h.cell c0, h.cell c1, h.cell c2, h.cell c3, h.cell c4, h.cell c5, h.cell c6⟩
theorem lxS {w W2 : World} (hL : Lx W2) {R : Prop} (hS : Nb W2 w ∧ R) : Lx w := hL.of_nb hS.1
set_option maxRecDepth 100000 in
set_option maxHeartbeats 4000000 in
theorem walk (op rd rs1 rs2 im : Int) (aq rl : Bool) (wi : -9223372036854775808 ≤ im ∧ im < 9223372036854775808) (w : World) (hL : Lx w) :
    Calls Tryd.prog 3 #[instV op rd rs1 rs2 im aq rl] w fun e w' => e = .returned (.bool true) ∧ Nb w w' := by
  have H1 := Lib.hid (text_any op rd rs1 rs2 im aq rl wi.1 wi.2)
  have H2 := Lib.hid (rtext_any op rd rs1 rs2 im aq rl wi.1 wi.2)
  generalize TextV op rd rs1 rs2 im aq rl = x at *
  clear wi
  unfold instV
  go_enter Tryd.func3, Tryd.ntmps3
  go_wp2_with fail
  obtain ⟨W1, hW⟩ : ∃ W1, w.alloc (.cells #[.int .i64 op, .int .i64 rd, .int .i64 rs1, .int .i64 rs2, .int .i64 im, .bool aq, .bool rl] 23) = W1 := ⟨_, rfl⟩
  have hb := blk_made w _ hW rfl
  have hN : Nb w W1 := by rw [← hW]; exact (Nb.refl _).alloc _
  rw [hW]
  clear hW
  have hL1 := hL.of_nb hN
  clear hL
  obtain ⟨n1, c0, c1, c2, c3, c4, c5, c6⟩ := cells7 hb
  clear hb
  go_region_held3 (fun w' => Nb W1 w' ∧ w.heap.size < w'.heap.size ∧ w'.cell? ⟨w.heap.size, 0, none⟩ = some (.int .i64 op) ∧ w'.cell? ⟨w.heap.size, 1, none⟩ = some (.int .i64 rd) ∧ w'.cell? ⟨w.heap.size, 2, none⟩ = some (.int .i64 rs1) ∧ w'.cell? ⟨w.heap.size, 3, none⟩ = some (.int .i64 rs2) ∧ w'.cell? ⟨w.heap.size, 4, none⟩ = some (.int .i64 im) ∧ w'.cell? ⟨w.heap.size, 5, none⟩ = some (.bool aq) ∧ w'.cell? ⟨w.heap.size, 6, none⟩ = some (.bool rl))
    (first | assumption | (exact keepS (by assumption) (by assumption)) | (exact ⟨(Nb.refl _).trans (drewN_nb _ 1), n1, c0, c1, c2, c3, c4, c5, c6⟩))
    (first
      | (go_at_call 15; refine (H1.out _ (lxS hL1 (by assumption)).1).mono ?_; rintro e w1 ⟨rfl, hn1⟩)
      | (go_at_call 16; refine (H2.out _).mono ?_; rintro e w1 ⟨rfl, hn2⟩)
      | (go_at_call 17; refine (tlives_any _ (lxS hL1 (by assumption))).mono ?_; rintro e w1 ⟨rfl, hn7⟩))
  rename_i hH
  have hN2 := hN.trans hH.1
  clear hH n1 c0 c1 c2 c3 c4 c5 c6 hn1 hn2 hn7 hL1 hN
  go_wp2_with fail
  go_ret
  exact ⟨rfl, hN2⟩
/-! The row's step. -/
set_option maxRecDepth 100000 in
set_option maxHeartbeats 1000000 in
theorem lifted (os : Os) (started : os.Started) (H : Type) (enc : TypeId × Value → H) :
    ReturnsInHanded {} Tryd.checked os 3 .any (fun w args => (Rows.listingTextsSpec.pre enc Tryd.prog Tryd.f3 [] false w args ∧ laidMetH Tryd.prog laidT w) ∧ sizedMet enc Tryd.prog Tryd.f3 (OpenSpec.ofChange Rows.listingTextsSpec) false w args)
      (Rows.listingTextsSpec.post enc Tryd.prog Tryd.f3 false true false false) := by
  refine returnsT (C := Tryd.checked) (X := fun w _ => laidMetH Tryd.prog laidT w) (fun _ _ _ hh h => h.of_heap hh) own started (by kernel_rfl) Tryd.func3
    (ChangeSpec.witness_shaped (enc := enc) (C := Tryd.checked) (os := os) (X := fun w _ => laidMetH Tryd.prog laidT w) false (World.doorLaid Tryd.prog 400 os) #[.agg #[.int .i64 0, .int .i64 0, .int .i64 0, .int .i64 0, .int .i64 0, .bool false, .bool false]] 8 rfl (World.shaped_of_RefB (by kernel_rfl) (by kernel_rfl)) (by kernel_rfl) (by kernel_rfl) (by kernel_rfl) (door_metT os _)) ?_
  intro W base args ds gs before hval0 hW hsh hL
  have hval : ∀ (j : Nat) t v, Tryd.f3.params[j]? = some t → args[j]? = some v → Value.okWide Tryd.prog W .any base t v := hval0
  have hW' := hW
  obtain ⟨p, q, hA0, hV, rfl, hfz, hnd⟩ := hW
  have hA : DataW.TrodAll enc Tryd.prog W 0 (fun _ => true) true Tryd.f3.params.toList args.toList ds p := hA0
  rw [Tryd.params3] at hA hval
  obtain ⟨v0, vs0, d0, ds0, p0, q0, hargs0, rfl, rfl, h0, r0⟩ := trodAll_cons hA
  obtain ⟨rfl, rfl, rfl⟩ := trodAll_nil r0
  obtain rfl : args = #[v0] := by cases args; simp_all
  obtain ⟨rfl, rfl⟩ := trodVars_none hV
  obtain ⟨op0, rd0, rsa0, rsb0, im0, aq0, rl0, rfl, rfl, rfl, wo0, wr0, wa0, wb0, wi0⟩ := open_inst (hval 0 23 v0 rfl rfl) h0
  clear hA0 hval0
  simp only [List.append_nil] at hW'
  refine (walk op0 rd0 rsa0 rsb0 im0 aq0 rl0 (i64_of wi0) W (lx_of_laid hsh hL)).mono fun e W' ⟨he, hg⟩ => ?_
  subst he
  exact ⟨_, rfl, post_of_nb (pa := []) (pv := []) hW' (fun _ _ _ => (trodAll_cons_mk (shut_bool Tryd.underlying4 _) trodAll_mk0)) (fun sp _ => (trodAll_cons_mk (shut_inst wo0 wr0 wa0 wb0 wi0) trodAll_mk0)) (fun _ _ => rfl) rfl
    hg (ok_one (by kernel_rfl) rfl (okWide_bool_mk Tryd.underlying4 _))⟩
theorem over : Rows.ListingTextsSaid :=
  OpenClaim.holds_of_wide 3 Tryd.f3 rfl rfl rfl rfl rfl rfl rfl ⟨rfl, rfl, rfl, rfl, rfl⟩ rfl rfl rfl rfl rfl (by kernel_rfl) Tryd.func3 (by kernel_rfl)
    (of_decide_eq_true (by kernel_rfl)) (by unfold Func.isWrapper; first | (rw [if_pos (by decide +kernel)]; kernel_rfl) | (rw [if_neg (by decide +kernel)]; exact ⟨rfl, rfl⟩))
    (fun os started H enc _ => lifted os started H enc)
/-- The statement: the tied card. -/
theorem proved : Rows.ListingTextsCardSaid :=
  Claim7.holds_tied_plain_at .later [] [.data, .data, .data, .data, .sentinel, .sentinel, .data] true (true, "1b30c97159391c2948209299fea3c696635feb17c735c187f33a81c21148e5d9") true
    over (fun _ h => by cases h) (by kernel_rfl) (fun _ h => by cases h) listingTexts_row_tie rfl ⟨rfl, rfl⟩ (by kernel_rfl) rfl
    (fun f fn hf hfn => by
      obtain rfl : f = 3 := Option.some.inj ((show Tryd.prog.funcNamed "postbag/postbaglaw03.ListingTexts" = some 3 by kernel_rfl).symm.trans hf) |>.symm
      obtain rfl : fn = Tryd.f3 := (Option.some.inj (Tryd.func3.symm.trans hfn)).symm
      exact ⟨by kernel_rfl, fun j t ht => by
        rw [Tryd.params3] at ht
        have hm : t ∈ [23] := by simpa using Array.mem_of_getElem? ht
        have hall : ([23].all fun u => !Tryd.prog.wantsStandIn u) = true := by kernel_rfl
        exact (show Tryd.prog.wantsStandIn t = false by simpa using List.all_eq_true.1 hall t hm)⟩)
    (by kernel_rfl)
#print axioms proved
end Go.Proofs.YtnifoghebnjonaaDoor.listingTexts
