/-
  Proved here: instructions that may be come back from their lines by the code of listing.Text, Parse, Lines and Read, one by one and all together; and just those that may be have an instruction's line; and the examples of the chapter stand. Conditions: the variables hold what their texts lay (the card ties them to the text).
-/
import Derived.Test.YtmggichckhoomaaDoorMg
import Derived.Test.YtmggichckhoomaaDoorMj
import Derived.Test.YtmggichckhoomaaDoorLr
import Derived.ShutString
import Derived.ChangeMaps5
import Derived.Test.YtmggichckhoomaaDoorCards
import Derived.Test.YtmggichckhoomaaDoorTie
import Derived.SevenTiedAt
namespace Go.Proofs.YtmggichckhoomaaDoor.listingBack
open Go.ChangeShapes Go.WideShapes Go.ChangeAt Go.RowKit Go.ChangeMaps
set_option linter.unusedVariables false
set_option linter.unusedSimpArgs false
set_option maxHeartbeats 1000000 in
theorem neq7 (op rd rs1 rs2 im : Int) (aq rl : Bool) (op' rd' rs1' rs2' im' : Int) (aq' rl' : Bool) (W : World) :
    (binOp .neq 33 (.agg #[.int .i64 op, .int .i64 rd, .int .i64 rs1, .int .i64 rs2, .int .i64 im, .bool aq, .bool rl]) (.agg #[.int .i64 op', .int .i64 rd', .int .i64 rs1', .int .i64 rs2', .int .i64 im', .bool aq', .bool rl'])).run Tryd.prog W = .ok (.bool (!EqI op rd rs1 rs2 im aq rl op' rd' rs1' rs2' im' aq' rl')) W := by
  rw [run_neq_struct, run_equalIn_agg W 9999 33 _ _ (by kernel_rfl) (by kernel_rfl)]
  simp [go_sem, Tryd.underlying33, Tryd.underlying3, Tryd.underlying4]
  unfold EqI
  repeat' split
  all_goals simp_all
attribute [local go_sem ↓] neq7
theorem eqi_refl (op rd rs1 rs2 im : Int) (aq rl : Bool) : EqI op rd rs1 rs2 im aq rl op rd rs1 rs2 im aq rl = true := by unfold EqI; simp
theorem pi_nil : PI [] = none := by
  cases h : PI [] with
  | none => rfl
  | some i =>
    obtain ⟨h1, h2⟩ := pi_of h
    have := (text_len h1).2
    rw [h2] at this
    simp at this
theorem read_back (is : List I7) (hg : ∀ i ∈ is, GoodI i = true) (n : Nat) (acc : List I7) : rdS (linesL is) n acc = (some (acc ++ is), 0) := by
  induction is generalizing n acc with
  | nil => simp [linesL, rd_end [] n acc (by simp)]
  | cons i r ih =>
    have h1 : linesL (i :: r) = textI i ++ 10 :: linesL r := by
      have : textV7 i = textI i := if_pos (hg i (List.mem_cons_self ..))
      unfold linesL
      rw [List.flatMap_cons, this]; simp
    rw [h1, rd_at _ _ _ _ (text_line (hg i (List.mem_cons_self ..))), pi_some (hg i (List.mem_cons_self ..))]
    have := ih (fun j hj => hg j (List.mem_cons_of_mem _ hj)) (n + 1) (acc ++ [i])
    simp only [this]
    simp
theorem all_next {is : List I7} {k : Nat} {i : I7} (h : ∀ j ∈ is.take k, GoodI j = true) (hk : is[k]? = some i) (hg : GoodI i = true) : ∀ j ∈ is.take (k + 1), GoodI j = true := by
  intro j hj
  rw [List.take_add_one, hk] at hj
  rcases List.mem_append.1 hj with hj | hj
  · exact h j hj
  · simp at hj; rw [hj]; exact hg
set_option maxRecDepth 100000 in
set_option maxHeartbeats 4000000 in
theorem walk (A : Option Addr) (b off cap : Nat) (is : List I7) (hn : is.length ≤ 9223372036854775807) (hI : ∀ i ∈ is, InR i.2.2.2.2.1) (hA : 0 < is.length → A = some ⟨b, off, none⟩) (w : World) (hL : Lx w) (hC : Hid (Ins w b off is)) :
    Calls Tryd.prog 4 #[.slice A is.length cap] w fun e w' => e = .returned (.bool true) ∧ Nb w w' := by
  by_cases h6 : (60 : Int) < (is.length : Int)
  · go_enter Tryd.func4, Tryd.ntmps4
    go_wp2_with fail
    refine (tlives_any _ hL).mono ?_
    rintro e w1 ⟨rfl, hn⟩
    go_wp2_with fail
    go_ret
    exact ⟨rfl, hn⟩
  have hA' := Lib.hid hA
  have hI' := Lib.hid hI
  clear hA hI
  go_enter Tryd.func4, Tryd.ntmps4
  go_wp2_with fail
  go_loopw [16] (fun i wr => ∃ k : Nat, k ≤ is.length ∧ i = .int .i64 k ∧ Hid (∀ j ∈ is.take k, GoodI j = true) ∧ Nb w wr) (fun i _ => is.length - (intOf i).toNat)
  case atStart => exact ⟨0, Nat.zero_le _, rfl, Lib.hid (by simp), Nb.refl _⟩
  case round =>
    obtain ⟨k, hk, rfl, hG, hN⟩ := hrel
    by_cases hlt : k < is.length
    · obtain rfl := hA'.out (by omega)
      obtain ⟨i, hi, c0, c1, c2, c3, c4, c5, c6⟩ := (hC.out.nb hN) k hlt
      have him := hI'.out i (List.mem_of_getElem? hi)
      have hT := Lib.hid (text_any i.1 i.2.1 i.2.2.1 i.2.2.2.1 i.2.2.2.2.1 i.2.2.2.2.2.1 i.2.2.2.2.2.2 him.1 him.2)
      have hB := Lib.hid (rgoodL i.1 i.2.1 i.2.2.1 i.2.2.2.1 i.2.2.2.2.1 i.2.2.2.2.2.1 i.2.2.2.2.2.2 him.1 him.2)
      have hE := eqi_refl i.1 i.2.1 i.2.2.1 i.2.2.2.1 i.2.2.2.2.1 i.2.2.2.2.2.1 i.2.2.2.2.2.2
      rw [show TextV i.1 i.2.1 i.2.2.1 i.2.2.2.1 i.2.2.2.2.1 i.2.2.2.2.2.1 i.2.2.2.2.2.2 = textV7 i from rfl] at hT
      rw [show GoodB i.1 i.2.1 i.2.2.1 i.2.2.2.1 i.2.2.2.2.1 i.2.2.2.2.2.1 i.2.2.2.2.2.2 = GoodI i from rfl] at hB
      have hP := Lib.hid (parse_any (textV7 i) (by have := textV7_len i; omega))
      have hnx := fun h => Lib.hid (all_next hG.out hi h)
      clear hk hi him
      cases hg : GoodI i with
      | true =>
        have hx := hnx hg
        have ht : textV7 i = textI i := if_pos hg
        have hPV : PV (textV7 i) = i := by unfold PV; rw [ht, pi_some hg]; rfl
        have hPE : PE (textV7 i) = 0 := by unfold PE; rw [ht, pi_some hg]; rfl
        rw [hPV, hPE] at hP
        rw [hg] at hB
        generalize textV7 i = T at *
        clear hg ht hPV hPE hnx
        unfold instA at hP
        go_upto_region 6 with (fail)
        obtain ⟨W4, h4⟩ : ∃ W4, wr.alloc (Obj.cells #[.int .i64 i.1, .int .i64 i.2.1, .int .i64 i.2.2.1, .int .i64 i.2.2.2.1, .int .i64 i.2.2.2.2.1, .bool i.2.2.2.2.2.1, .bool i.2.2.2.2.2.2] 33) = W4 := ⟨_, rfl⟩
        have k4 := blk_made wr _ h4 rfl
        have h5 : Nb wr W4 := by rw [← h4]; exact (Nb.refl _).alloc _
        rw [h4]
        clear h4 c0 c1 c2 c3 c4 c5 c6
        have hN1 := hN.trans h5
        clear hN h5
        obtain ⟨z, c0, c1, c2, c3, c4, c5, c6⟩ := cells7 k4
        go_wp2_with fail
        refine (hT.out _ (hL.of_nb hN1).1).mono ?_
        rintro e w5 ⟨rfl, hn⟩
        replace k4 := hn.block k4
        have hN2 := hN1.trans hn
        clear hN1 hn z c0 c1 c2 c3 c4 c5 c6
        go_wp2_with fail
        refine (hP.out _ (hL.of_nb hN2)).mono ?_
        rintro e w6 ⟨rfl, hn⟩
        replace k4 := hn.block k4
        have hN3 := hN2.trans hn
        clear hN2 hn
        go_upto_region 7 with (fail)
        obtain ⟨W7, h7⟩ : ∃ W7, w6.alloc (Obj.cells #[.int .i64 i.1, .int .i64 i.2.1, .int .i64 i.2.2.1, .int .i64 i.2.2.2.1, .int .i64 i.2.2.2.2.1, .bool i.2.2.2.2.2.1, .bool i.2.2.2.2.2.2] 33) = W7 := ⟨_, rfl⟩
        have k7 := blk_made w6 _ h7 rfl
        have h8 : Nb w6 W7 := by rw [← h7]; exact (Nb.refl _).alloc _
        rw [h7]
        clear h7
        replace k4 := h8.block k4
        have hN4 := hN3.trans h8
        clear hN3 h8
        obtain ⟨z, c0, c1, c2, c3, c4, c5, c6⟩ := cells7 k4
        go_wp2_with fail
        refine (hB.out _).mono ?_
        rintro e w8 ⟨rfl, hn⟩
        replace k4 := hn.block k4
        replace k7 := hn.block k7
        have hN5 := hN4.trans hn
        clear hN4 hn z c0 c1 c2 c3 c4 c5 c6
        obtain ⟨z, c0, c1, c2, c3, c4, c5, c6⟩ := cells7 k4
        obtain ⟨z', d0, d1, d2, d3, d4, d5, d6⟩ := cells7 k7
        clear k4 k7
        go_wp2_with fail
        exact ⟨⟨k + 1, hlt, rfl, hx, hN5⟩, by simp [intOf]; omega⟩
      | false =>
        have ht : textV7 i = [] := if_neg (by intro c; have c' : GoodI i = true := c; rw [hg] at c'; cases c')
        have hPV : PV (textV7 i) = zero7 := by unfold PV; rw [ht, pi_nil]; rfl
        have hPE : PE (textV7 i) = 30 := by unfold PE; rw [ht, pi_nil]; rfl
        rw [hPV, hPE] at hP
        rw [hg] at hB
        generalize textV7 i = T at *
        clear hg ht hPV hPE hnx
        unfold instA zero7 at hP
        go_upto_region 6 with (fail)
        obtain ⟨W4, h4⟩ : ∃ W4, wr.alloc (Obj.cells #[.int .i64 i.1, .int .i64 i.2.1, .int .i64 i.2.2.1, .int .i64 i.2.2.2.1, .int .i64 i.2.2.2.2.1, .bool i.2.2.2.2.2.1, .bool i.2.2.2.2.2.2] 33) = W4 := ⟨_, rfl⟩
        have k4 := blk_made wr _ h4 rfl
        have h5 : Nb wr W4 := by rw [← h4]; exact (Nb.refl _).alloc _
        rw [h4]
        clear h4 c0 c1 c2 c3 c4 c5 c6
        have hN1 := hN.trans h5
        clear hN h5
        obtain ⟨z, c0, c1, c2, c3, c4, c5, c6⟩ := cells7 k4
        go_wp2_with fail
        refine (hT.out _ (hL.of_nb hN1).1).mono ?_
        rintro e w5 ⟨rfl, hn⟩
        replace k4 := hn.block k4
        have hN2 := hN1.trans hn
        clear hN1 hn z c0 c1 c2 c3 c4 c5 c6
        go_wp2_with fail
        refine (hP.out _ (hL.of_nb hN2)).mono ?_
        rintro e w6 ⟨rfl, hn⟩
        replace k4 := hn.block k4
        have hN3 := hN2.trans hn
        clear hN2 hn
        go_upto_region 7 with (fail)
        obtain ⟨W7, h7⟩ : ∃ W7, w6.alloc (Obj.cells #[.int .i64 0, .int .i64 0, .int .i64 0, .int .i64 0, .int .i64 0, .bool false, .bool false] 33) = W7 := ⟨_, rfl⟩
        have k7 := blk_made w6 _ h7 rfl
        have h8 : Nb w6 W7 := by rw [← h7]; exact (Nb.refl _).alloc _
        rw [h7]
        clear h7
        replace k4 := h8.block k4
        have hN4 := hN3.trans h8
        clear hN3 h8
        obtain ⟨z, c0, c1, c2, c3, c4, c5, c6⟩ := cells7 k4
        go_wp2_with fail
        refine (hB.out _).mono ?_
        rintro e w8 ⟨rfl, hn⟩
        replace k4 := hn.block k4
        replace k7 := hn.block k7
        have hN5 := hN4.trans hn
        clear hN4 hn z c0 c1 c2 c3 c4 c5 c6
        obtain ⟨z, c0, c1, c2, c3, c4, c5, c6⟩ := cells7 k4
        obtain ⟨z', d0, d1, d2, d3, d4, d5, d6⟩ := cells7 k7
        clear k4 k7
        go_wp2_with fail
        refine (tlives_any _ (hL.of_nb hN5)).mono ?_
        rintro e w9 ⟨rfl, hn⟩
        go_wp2_with fail
        go_ret
        exact ⟨rfl, hN5.trans hn⟩
    · obtain rfl : k = is.length := by omega
      rw [List.take_length] at hG
      have hRB := Lib.hid (read_back is hG.out 0 [])
      have HR := Lib.hid (read_any (linesL is) (by have := lines_len is; omega))
      have HL := Lib.hid (lines_any is (by omega) hI'.out A b off cap hA'.out)
      unfold ReadAns at HR
      rw [hRB.out] at HR
      clear hk hlt hRB
      go_wp2_with fail
      refine (HL.out wr (hL.of_nb hN).1 (Lib.hid (hC.out.nb hN))).mono ?_
      rintro e w2 ⟨rfl, n2⟩
      have hN2 := hN.trans n2
      clear hN n2
      go_wp2_with fail
      refine (HR.out w2 (hL.of_nb hN2)).mono ?_
      rintro e w3 ⟨v, rfl, n3, o1⟩
      obtain ⟨A1, g1, c1, rfl, a1, i1⟩ := own_ins (cap0 := 0) rfl (show w3.ownsRow w2.heap.size 33 7 v is.length (is.flatMap insC) from o1)
      replace a1 := Lib.hid a1
      replace i1 := Lib.hid i1
      clear o1
      have hN3 := hN2.trans n3
      clear hN2 n3
      simp only [Option.isSome_some, if_true]
      go_wp2_with fail
      refine (same_any is (by omega) A1 A g1 0 c1 b off cap a1.out hA'.out w3 i1 (Lib.hid (hC.out.nb hN3))).mono ?_
      rintro e w4 ⟨rfl, n4⟩
      have hN4 := hN3.trans n4
      clear hN3 n4 i1
      go_wp2_with fail
      refine (tlives_any _ (hL.of_nb hN4)).mono ?_
      rintro e w9 ⟨rfl, hn⟩
      go_wp2_with fail
      go_ret
      exact ⟨rfl, hN4.trans hn⟩
/-! The row's step. -/
set_option maxRecDepth 100000 in
set_option maxHeartbeats 1000000 in
theorem lifted (os : Os) (started : os.Started) (H : Type) (enc : TypeId × Value → H) :
    ReturnsInHanded {} Tryd.checked os 4 .any (fun w args => (Rows.listingBackSpec.pre enc Tryd.prog Tryd.f4 [] false w args ∧ laidMetH Tryd.prog laidT w) ∧ sizedMet enc Tryd.prog Tryd.f4 (OpenSpec.ofChange Rows.listingBackSpec) false w args)
      (Rows.listingBackSpec.post enc Tryd.prog Tryd.f4 false true false false) := by
  refine returnsT (C := Tryd.checked) (X := fun w _ => laidMetH Tryd.prog laidT w) (fun _ _ _ hh h => h.of_heap hh) own started (by kernel_rfl) Tryd.func4
    (ChangeSpec.witness_shaped (enc := enc) (C := Tryd.checked) (os := os) (X := fun w _ => laidMetH Tryd.prog laidT w) false (World.doorLaid Tryd.prog 400 os) #[.slice none 0 0] 8 rfl (World.shaped_of_RefB (by kernel_rfl) (by kernel_rfl)) (by kernel_rfl) (by kernel_rfl) (by kernel_rfl) (door_metT os _)) ?_
  intro W base args ds gs before hval0 hW hsh hL
  have hval : ∀ (j : Nat) t v, Tryd.f4.params[j]? = some t → args[j]? = some v → Value.okWide Tryd.prog W .any base t v := hval0
  have hW' := hW
  obtain ⟨p, q, hA0, hV, rfl, hfz, hnd⟩ := hW
  have hA1 : DataW.TrodAll enc Tryd.prog W 0 (fun _ => true) true Tryd.f4.params.toList args.toList ds p := hA0
  have hA := hA1
  rw [Tryd.params4] at hA hval
  obtain ⟨v0, vs0, d0, ds0, p0, q0, hargs0, rfl, -, h0, r0⟩ := trodAll_cons hA
  obtain ⟨rfl, rfl, -⟩ := trodAll_nil r0
  obtain rfl : args = #[v0] := by cases args; simp_all
  obtain ⟨rfl, rfl⟩ := trodVars_none hV
  obtain ⟨A0, b0, off0, cap0, is0, rfl, hAd0, hI0, hR0, hl0⟩ := open_insts (hval 0 22 v0 rfl rfl) h0
  clear hval0
  simp only [List.append_nil] at hW'
  refine (walk A0 b0 off0 cap0 is0 hl0 hR0 hAd0 W (lx_of_laid hsh hL) (Lib.hid hI0)).mono fun e W' ⟨he, hg⟩ => ?_
  subst he
  exact ⟨_, rfl, post_of_nb (pa := p) (pv := []) hW' (fun _ _ _ => (trodAll_cons_mk (shut_bool Tryd.underlying4 _) trodAll_mk0))
    (fun sp hsp => args_stay (by kernel_rfl) hg hA1 (fun t ht => by
      have h0 : (Tryd.f4.params.toList.all fun t => Tryd.prog.readableRec t && decide (t < Tryd.prog.types.size)) = true := by kernel_rfl
      have h1 := List.all_eq_true.1 h0 t ht
      rw [Bool.and_eq_true, decide_eq_true_eq] at h1
      exact h1) (fun x hx => hW'.lt x hx) hsp)
    (fun _ _ => rfl) (by simp) hg (ok_one (by kernel_rfl) rfl (okWide_bool_mk Tryd.underlying4 _))⟩
theorem over : Rows.ListingBackSaid :=
  OpenClaim.holds_of_wide 4 Tryd.f4 rfl rfl rfl rfl rfl rfl rfl ⟨rfl, rfl, rfl, rfl, rfl⟩ rfl rfl rfl rfl rfl (by kernel_rfl) Tryd.func4 (by kernel_rfl)
    (of_decide_eq_true (by kernel_rfl)) (by unfold Func.isWrapper; first | (rw [if_pos (by decide +kernel)]; kernel_rfl) | (rw [if_neg (by decide +kernel)]; exact ⟨rfl, rfl⟩))
    (fun os started H enc _ => lifted os started H enc)
/-- The statement: the tied card. -/
theorem proved : Rows.ListingBackCardSaid :=
  Claim7.holds_tied_plain_at .later [] [.data, .data, .data, .data, .sentinel, .sentinel, .data] true (true, "5478f776ff45384b260f91be8d835ebd814b84b68496b35baf4fbaa70b2be197") true
    over (fun _ h => by cases h) (by kernel_rfl) (fun _ h => by cases h) listingBack_row_tie rfl ⟨rfl, rfl⟩ (by kernel_rfl) rfl
    (fun f fn hf hfn => by
      obtain rfl : f = 4 := Option.some.inj ((show Tryd.prog.funcNamed "postbag/postbaglaw03.ListingBack" = some 4 by kernel_rfl).symm.trans hf) |>.symm
      obtain rfl : fn = Tryd.f4 := (Option.some.inj (Tryd.func4.symm.trans hfn)).symm
      exact ⟨by kernel_rfl, fun j t ht => by
        rw [Tryd.params4] at ht
        have hm : t ∈ [22] := by simpa using Array.mem_of_getElem? ht
        have hall : ([22].all fun u => !Tryd.prog.wantsStandIn u) = true := by kernel_rfl
        exact (show Tryd.prog.wantsStandIn t = false by simpa using List.all_eq_true.1 hall t hm)⟩)
    (by kernel_rfl)
#print axioms proved
end Go.Proofs.YtmggichckhoomaaDoor.listingBack
