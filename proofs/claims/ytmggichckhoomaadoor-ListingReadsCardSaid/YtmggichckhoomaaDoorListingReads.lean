/-
  Proved here: for all instructions and for every text the code of listing.Lines and listing.Read answers the lines, and the instructions or the first wrong line, that the document says (the reference package), and the examples of the chapter stand. Conditions: the variables hold what their texts lay (the card ties them to the text).
-/
import Derived.Test.YtmggichckhoomaaDoorMg
import Derived.Test.YtmggichckhoomaaDoorMj
import Derived.Test.YtmggichckhoomaaDoorLr
import Derived.ShutString
import Derived.ChangeMaps5
import Derived.Test.YtmggichckhoomaaDoorCards
import Derived.Test.YtmggichckhoomaaDoorTie
import Derived.SevenTiedAt
namespace Go.Proofs.YtmggichckhoomaaDoor.listingReads
open Go.ChangeShapes Go.WideShapes Go.ChangeAt Go.RowKit Go.ChangeMaps
set_option linter.unusedVariables false
set_option linter.unusedSimpArgs false
theorem str_le {s : ByteArray} (h : s.size ≤ maxLen) : s.data.toList.length ≤ 9223372036854775807 := by
  rw [← Lib.size_eq]; unfold maxLen at h; omega
set_option maxRecDepth 100000 in
set_option maxHeartbeats 4000000 in
theorem walk (A : Option Addr) (b off cap : Nat) (is : List I7) (l : Bs) (hn : is.length ≤ 9223372036854775807) (hI : ∀ i ∈ is, InR i.2.2.2.2.1) (hA : 0 < is.length → A = some ⟨b, off, none⟩) (hl : l.length ≤ 9223372036854775807) (w : World) (hL : Lx w) (hC : Hid (Ins w b off is)) :
    Calls Tryd.prog 3 #[.slice A is.length cap, .string ⟨l.toArray⟩] w fun e w' => e = .returned (.bool true) ∧ Nb w w' := by
  by_cases h6 : (60 : Int) < (is.length : Int)
  · go_enter Tryd.func3, Tryd.ntmps3
    go_wp2_with fail
    refine (tlives_any _ hL).mono ?_
    rintro e w1 ⟨rfl, hn⟩
    go_wp2_with fail
    go_ret
    exact ⟨rfl, hn⟩
  by_cases h5 : (2000 : Int) < (l.length : Int)
  · go_enter Tryd.func3, Tryd.ntmps3
    go_wp2_with fail
    refine (tlives_any _ hL).mono ?_
    rintro e w1 ⟨rfl, hn⟩
    go_wp2_with fail
    go_ret
    exact ⟨rfl, hn⟩
  have HR := Lib.hid (read_any l (by omega))
  have HS := Lib.hid (rread_any l (by omega))
  have HL := Lib.hid (lines_any is (by omega) hI A b off cap hA)
  have HM := Lib.hid (rlines_any is (by omega) hI A b off cap hA)
  have hA' := Lib.hid hA
  have hI' := Lib.hid hI
  clear hA hI
  unfold ReadAns at HR HS
  obtain ⟨js, hjs⟩ : ∃ js, (rdS l 0 []).1.getD [] = js := ⟨_, rfl⟩
  have hjl := Lib.hid (rd_len l js hjs)
  rw [hjs] at HR HS
  clear hjs
  generalize (if (rdS l 0 []).1.isSome = true then (0 : Int) else 30) = pe at *
  generalize ((rdS l 0 []).2 : Int) = pn at *
  go_enter Tryd.func3, Tryd.ntmps3
  go_wp2_with fail
  refine (HR.out w hL).mono ?_
  rintro e w1 ⟨v, rfl, n1, o1⟩
  obtain ⟨A1, g1, c1, rfl, a1, i1⟩ := own_ins (cap0 := 0) rfl o1
  replace a1 := Lib.hid a1
  replace i1 := Lib.hid i1
  clear o1
  go_wp2_with fail
  refine (HS.out w1).mono ?_
  rintro e w2 ⟨v, rfl, n2, o2⟩
  obtain ⟨A2, g2, c2, rfl, a2, i2⟩ := own_ins (cap0 := 0) rfl o2
  replace a2 := Lib.hid a2
  replace i2 := Lib.hid i2
  clear o2
  replace i1 := Lib.hid (i1.out.nb n2)
  have nn := n1.trans n2
  have hC2 := Lib.hid (hC.out.nb nn)
  clear n1 n2 hC
  go_wp2_with fail
  refine (HL.out w2 (hL.of_nb nn).1 hC2).mono ?_
  rintro e w3 ⟨rfl, n3⟩
  have hC3 := Lib.hid (hC2.out.nb n3)
  have j1 := Lib.hid (i1.out.nb n3)
  have j2 := Lib.hid (i2.out.nb n3)
  have nn3 := nn.trans n3
  clear i1 i2 hC2 nn n3
  go_wp2_with fail
  refine (HM.out w3 hC3).mono ?_
  rintro e w4 ⟨rfl, n4⟩
  have k1 := Lib.hid (j1.out.nb n4)
  have k2 := Lib.hid (j2.out.nb n4)
  have nn4 := nn3.trans n4
  clear j1 j2 nn3 n4 hC3
  go_wp2_with fail
  refine (same_any js (by have := hjl.out; omega) A1 A2 g1 0 c1 g2 0 c2 a1.out a2.out w4 k1 k2).mono ?_
  rintro e w5 ⟨rfl, n5⟩
  have nn5 := nn4.trans n5
  clear k1 k2 nn4 n5
  go_wp2_with fail
  refine (tlives_any _ (hL.of_nb nn5)).mono ?_
  rintro e w6 ⟨rfl, n6⟩
  go_wp2_with fail
  go_ret
  exact ⟨rfl, nn5.trans n6⟩
/-! The row's step. -/
set_option maxRecDepth 100000 in
set_option maxHeartbeats 1000000 in
theorem lifted (os : Os) (started : os.Started) (H : Type) (enc : TypeId × Value → H) :
    ReturnsInHanded {} Tryd.checked os 3 .any (fun w args => (Rows.listingReadsSpec.pre enc Tryd.prog Tryd.f3 [] false w args ∧ laidMetH Tryd.prog laidT w) ∧ sizedMet enc Tryd.prog Tryd.f3 (OpenSpec.ofChange Rows.listingReadsSpec) false w args)
      (Rows.listingReadsSpec.post enc Tryd.prog Tryd.f3 false true false false) := by
  refine returnsT (C := Tryd.checked) (X := fun w _ => laidMetH Tryd.prog laidT w) (fun _ _ _ hh h => h.of_heap hh) own started (by kernel_rfl) Tryd.func3
    (ChangeSpec.witness_shaped (enc := enc) (C := Tryd.checked) (os := os) (X := fun w _ => laidMetH Tryd.prog laidT w) false (World.doorLaid Tryd.prog 400 os) #[.slice none 0 0, .string ⟨#[]⟩] 8 rfl (World.shaped_of_RefB (by kernel_rfl) (by kernel_rfl)) (by kernel_rfl) (by kernel_rfl) (by kernel_rfl) (door_metT os _)) ?_
  intro W base args ds gs before hval0 hW hsh hL
  have hval : ∀ (j : Nat) t v, Tryd.f3.params[j]? = some t → args[j]? = some v → Value.okWide Tryd.prog W .any base t v := hval0
  have hW' := hW
  obtain ⟨p, q, hA0, hV, rfl, hfz, hnd⟩ := hW
  have hA1 : DataW.TrodAll enc Tryd.prog W 0 (fun _ => true) true Tryd.f3.params.toList args.toList ds p := hA0
  have hA := hA1
  rw [Tryd.params3] at hA hval
  obtain ⟨v0, vs0, d0, ds0, p0, q0, hargs0, rfl, -, h0, r0⟩ := trodAll_cons hA
  obtain ⟨v1, vs1, d1, ds1, p1, q1, hargs1, rfl, -, h1, r1⟩ := trodAll_cons r0
  obtain ⟨rfl, rfl, -⟩ := trodAll_nil r1
  obtain rfl : args = #[v0, v1] := by cases args; simp_all
  obtain ⟨rfl, rfl⟩ := trodVars_none hV
  obtain ⟨A0, b0, off0, cap0, is0, rfl, hAd0, hI0, hR0, hl0⟩ := open_insts (hval 0 22 v0 rfl rfl) h0
  obtain ⟨n1, rfl, -, -, w1⟩ := open_string Tryd.underlying9 (hval 1 9 v1 rfl rfl) h1
  clear hval0
  simp only [List.append_nil] at hW'
  refine (walk A0 b0 off0 cap0 is0 n1.data.toList hl0 hR0 hAd0 (str_le w1) W (lx_of_laid hsh hL) (Lib.hid hI0)).mono fun e W' ⟨he, hg⟩ => ?_
  subst he
  exact ⟨_, rfl, post_of_nb (pa := p) (pv := []) hW' (fun _ _ _ => (trodAll_cons_mk (shut_bool Tryd.underlying4 _) trodAll_mk0))
    (fun sp hsp => args_stay (by kernel_rfl) hg hA1 (fun t ht => by
      have h0 : (Tryd.f3.params.toList.all fun t => Tryd.prog.readableRec t && decide (t < Tryd.prog.types.size)) = true := by kernel_rfl
      have h1 := List.all_eq_true.1 h0 t ht
      rw [Bool.and_eq_true, decide_eq_true_eq] at h1
      exact h1) (fun x hx => hW'.lt x hx) hsp)
    (fun _ _ => rfl) (by simp) hg (ok_one (by kernel_rfl) rfl (okWide_bool_mk Tryd.underlying4 _))⟩
theorem over : Rows.ListingReadsSaid :=
  OpenClaim.holds_of_wide 3 Tryd.f3 rfl rfl rfl rfl rfl rfl rfl ⟨rfl, rfl, rfl, rfl, rfl⟩ rfl rfl rfl rfl rfl (by kernel_rfl) Tryd.func3 (by kernel_rfl)
    (of_decide_eq_true (by kernel_rfl)) (by unfold Func.isWrapper; first | (rw [if_pos (by decide +kernel)]; kernel_rfl) | (rw [if_neg (by decide +kernel)]; exact ⟨rfl, rfl⟩))
    (fun os started H enc _ => lifted os started H enc)
/-- The statement: the tied card. -/
theorem proved : Rows.ListingReadsCardSaid :=
  Claim7.holds_tied_plain_at .later [] [.data, .data, .data, .data, .sentinel, .sentinel, .data] true (true, "5478f776ff45384b260f91be8d835ebd814b84b68496b35baf4fbaa70b2be197") true
    over (fun _ h => by cases h) (by kernel_rfl) (fun _ h => by cases h) listingReads_row_tie rfl ⟨rfl, rfl⟩ (by kernel_rfl) rfl
    (fun f fn hf hfn => by
      obtain rfl : f = 3 := Option.some.inj ((show Tryd.prog.funcNamed "postbag/postbaglaw03.ListingReads" = some 3 by kernel_rfl).symm.trans hf) |>.symm
      obtain rfl : fn = Tryd.f3 := (Option.some.inj (Tryd.func3.symm.trans hfn)).symm
      exact ⟨by kernel_rfl, fun j t ht => by
        rw [Tryd.params3] at ht
        have hm : t ∈ [22, 9] := by simpa using Array.mem_of_getElem? ht
        have hall : ([22, 9].all fun u => !Tryd.prog.wantsStandIn u) = true := by kernel_rfl
        exact (show Tryd.prog.wantsStandIn t = false by simpa using List.all_eq_true.1 hall t hm)⟩)
    (by kernel_rfl)
#print axioms proved
end Go.Proofs.YtmggichckhoomaaDoor.listingReads
