/-
  Proved here: for every text the code of listing.Parse answers the instruction that the document says, or that it is none (the reference package), and the examples of the chapter stand. Conditions: the variables hold what their texts lay (the card ties them to the text).
-/
import Derived.Test.YtnifoghebnjonaaDoorLr
import Derived.Test.YtnifoghebnjonaaDoorLy
import Derived.ShutString
import Derived.ChangeMaps5
import Derived.Test.YtnifoghebnjonaaDoorCards
import Derived.Test.YtnifoghebnjonaaDoorTie
import Derived.SevenTiedAt
namespace Go.Proofs.YtnifoghebnjonaaDoor.listingParses
open Go.ChangeShapes Go.WideShapes Go.ChangeAt Go.RowKit Go.ChangeMaps
set_option linter.unusedVariables false
set_option linter.unusedSimpArgs false
attribute [local go_sem ↓] eq7
theorem eqi_refl (op rd ra rb im : Int) (aq rl : Bool) : EqI op rd ra rb im aq rl op rd ra rb im aq rl = true := by unfold EqI; simp
theorem str_le {s : ByteArray} (h : s.size ≤ maxLen) : s.data.toList.length ≤ 9223372036854775807 := by
  rw [← Lib.size_eq]; unfold maxLen at h; omega
set_option maxRecDepth 100000 in
set_option maxHeartbeats 4000000 in
theorem walk (l : Bs) (hl : l.length ≤ 9223372036854775807) (w : World) (hL : Lx w) :
    Calls Tryd.prog 4 #[.string ⟨l.toArray⟩] w fun e w' => e = .returned (.bool true) ∧ Nb w w' := by
  by_cases h5 : (500 : Int) < (l.length : Int)
  · go_enter Tryd.func4, Tryd.ntmps4
    go_wp2_with fail
    refine (tlives_any _ hL).mono ?_
    rintro e w1 ⟨rfl, hn⟩
    go_wp2_with fail
    go_ret
    exact ⟨rfl, hn⟩
  · have HP := Lib.hid (parse_any l (by omega))
    have HR := Lib.hid (rparse_any l (by omega))
    unfold instA at HP HR
    have hE := eqi_refl (PV l).1 (PV l).2.1 (PV l).2.2.1 (PV l).2.2.2.1 (PV l).2.2.2.2.1 (PV l).2.2.2.2.2.1 (PV l).2.2.2.2.2.2
    generalize PE l = pe at *
    generalize (PV l).2.2.2.2.2.2 = v7 at *
    generalize (PV l).2.2.2.2.2.1 = v6 at *
    generalize (PV l).2.2.2.2.1 = v5 at *
    generalize (PV l).2.2.2.1 = v4 at *
    generalize (PV l).2.2.1 = v3 at *
    generalize (PV l).2.1 = v2 at *
    generalize (PV l).1 = v1 at *
    go_enter Tryd.func4, Tryd.ntmps4
    go_wp2_with fail
    refine (HP.out _ hL).mono ?_
    rintro e w1 ⟨rfl, n1⟩
    go_wp2_with fail
    obtain ⟨W2, h1⟩ : ∃ W2, w1.alloc (Obj.cells #[.int .i64 v1, .int .i64 v2, .int .i64 v3, .int .i64 v4, .int .i64 v5, .bool v6, .bool v7] 23) = W2 := ⟨_, rfl⟩
    have k2 := blk_made w1 _ h1 rfl
    have n2 : Nb w W2 := by rw [← h1]; exact n1.alloc _
    rw [h1]
    clear h1
    refine (HR.out _).mono ?_
    rintro e w3 ⟨rfl, hn⟩
    replace k2 := hn.block k2
    have n3 := n2.trans hn
    go_upto_region 5 with (fail)
    obtain ⟨W4, h1⟩ : ∃ W4, w3.alloc (Obj.cells #[.int .i64 v1, .int .i64 v2, .int .i64 v3, .int .i64 v4, .int .i64 v5, .bool v6, .bool v7] 23) = W4 := ⟨_, rfl⟩
    have k4 := blk_made w3 _ h1 rfl
    have h3 : Nb w3 W4 := by rw [← h1]; exact (Nb.refl _).alloc _
    replace k2 := h3.block k2
    have n4 := n3.trans h3
    rw [h1]
    clear h1 h3 n1 n2 n3 hn
    obtain ⟨z, c0, c1, c2, c3, c4, c5, c6⟩ := cells7 k2
    obtain ⟨y, d0, d1, d2, d3, d4, d5, d6⟩ := cells7 k4
    go_wp2_with fail
    refine (tlives_any _ (hL.of_nb n4)).mono ?_
    rintro e w9 ⟨rfl, hn⟩
    go_wp2_with fail
    go_ret
    exact ⟨rfl, n4.trans hn⟩
/-! The row's step. -/
set_option maxRecDepth 100000 in
set_option maxHeartbeats 1000000 in
theorem lifted (os : Os) (started : os.Started) (H : Type) (enc : TypeId × Value → H) :
    ReturnsInHanded {} Tryd.checked os 4 .any (fun w args => (Rows.listingParsesSpec.pre enc Tryd.prog Tryd.f4 [] false w args ∧ laidMetH Tryd.prog laidT w) ∧ sizedMet enc Tryd.prog Tryd.f4 (OpenSpec.ofChange Rows.listingParsesSpec) false w args)
      (Rows.listingParsesSpec.post enc Tryd.prog Tryd.f4 false true false false) := by
  refine returnsT (C := Tryd.checked) (X := fun w _ => laidMetH Tryd.prog laidT w) (fun _ _ _ hh h => h.of_heap hh) own started (by kernel_rfl) Tryd.func4
    (ChangeSpec.witness_shaped (enc := enc) (C := Tryd.checked) (os := os) (X := fun w _ => laidMetH Tryd.prog laidT w) false (World.doorLaid Tryd.prog 400 os) #[.string ⟨#[]⟩] 8 rfl (World.shaped_of_RefB (by kernel_rfl) (by kernel_rfl)) (by kernel_rfl) (by kernel_rfl) (by kernel_rfl) (door_metT os _)) ?_
  intro W base args ds gs before hval0 hW hsh hL
  have hval : ∀ (j : Nat) t v, Tryd.f4.params[j]? = some t → args[j]? = some v → Value.okWide Tryd.prog W .any base t v := hval0
  have hW' := hW
  obtain ⟨p, q, hA0, hV, rfl, hfz, hnd⟩ := hW
  have hA : DataW.TrodAll enc Tryd.prog W 0 (fun _ => true) true Tryd.f4.params.toList args.toList ds p := hA0
  rw [Tryd.params4] at hA hval
  obtain ⟨v0, vs0, d0, ds0, p0, q0, hargs0, rfl, rfl, h0, r0⟩ := trodAll_cons hA
  obtain ⟨rfl, rfl, rfl⟩ := trodAll_nil r0
  obtain rfl : args = #[v0] := by cases args; simp_all
  obtain ⟨rfl, rfl⟩ := trodVars_none hV
  obtain ⟨n0, rfl, rfl, rfl, w0⟩ := open_string Tryd.underlying9 (hval 0 9 v0 rfl rfl) h0
  clear hA0 hval0
  simp only [List.append_nil] at hW'
  refine (walk n0.data.toList (str_le w0) W (lx_of_laid hsh hL)).mono fun e W' ⟨he, hg⟩ => ?_
  subst he
  exact ⟨_, rfl, post_of_nb (pa := []) (pv := []) hW' (fun _ _ _ => (trodAll_cons_mk (shut_bool Tryd.underlying4 _) trodAll_mk0)) (fun sp _ => (trodAll_cons_mk (shut_string Tryd.underlying9 w0) trodAll_mk0)) (fun _ _ => rfl) rfl
    hg (ok_one (by kernel_rfl) rfl (okWide_bool_mk Tryd.underlying4 _))⟩
theorem over : Rows.ListingParsesSaid :=
  OpenClaim.holds_of_wide 4 Tryd.f4 rfl rfl rfl rfl rfl rfl rfl ⟨rfl, rfl, rfl, rfl, rfl⟩ rfl rfl rfl rfl rfl (by kernel_rfl) Tryd.func4 (by kernel_rfl)
    (of_decide_eq_true (by kernel_rfl)) (by unfold Func.isWrapper; first | (rw [if_pos (by decide +kernel)]; kernel_rfl) | (rw [if_neg (by decide +kernel)]; exact ⟨rfl, rfl⟩))
    (fun os started H enc _ => lifted os started H enc)
/-- The statement: the tied card. -/
theorem proved : Rows.ListingParsesCardSaid :=
  Claim7.holds_tied_plain_at .later [] [.data, .data, .data, .data, .sentinel, .sentinel, .data] true (true, "1b30c97159391c2948209299fea3c696635feb17c735c187f33a81c21148e5d9") true
    over (fun _ h => by cases h) (by kernel_rfl) (fun _ h => by cases h) listingParses_row_tie rfl ⟨rfl, rfl⟩ (by kernel_rfl) rfl
    (fun f fn hf hfn => by
      obtain rfl : f = 4 := Option.some.inj ((show Tryd.prog.funcNamed "postbag/postbaglaw03.ListingParses" = some 4 by kernel_rfl).symm.trans hf) |>.symm
      obtain rfl : fn = Tryd.f4 := (Option.some.inj (Tryd.func4.symm.trans hfn)).symm
      exact ⟨by kernel_rfl, fun j t ht => by
        rw [Tryd.params4] at ht
        have hm : t ∈ [9] := by simpa using Array.mem_of_getElem? ht
        have hall : ([9].all fun u => !Tryd.prog.wantsStandIn u) = true := by kernel_rfl
        exact (show Tryd.prog.wantsStandIn t = false by simpa using List.all_eq_true.1 hall t hm)⟩)
    (by kernel_rfl)
#print axioms proved
end Go.Proofs.YtnifoghebnjonaaDoor.listingParses
