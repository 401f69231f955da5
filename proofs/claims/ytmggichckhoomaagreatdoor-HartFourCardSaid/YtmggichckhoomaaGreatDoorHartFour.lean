/-
  Proved here: behind a step without an error register 0 is 0, and the place is a multiple of 4, if it was and the target is one; with an error the hart is as it was; by the code of hart. No condition.
-/
import Derived.Test.YtmggichckhoomaaGreatDoorQbt
import Derived.Test.YtmggichckhoomaaGreatDoorQbn
import Derived.Deep.QuietTactic
import Derived.Test.YtmggichckhoomaaGreatDoorCards
import Derived.Test.YtmggichckhoomaaGreatDoorTie
import Derived.SevenTiedAt
namespace Go.Proofs.YtmggichckhoomaaGreatDoor.hartFour
open Go.ChangeShapes Go.WideShapes Go.ChangeAt Go.RowKit
set_option linter.unusedVariables false
set_option linter.unusedSimpArgs false
attribute [-go_sem] run_eql_struct
set_option maxRecDepth 100000 in
set_option maxHeartbeats 4000000 in
theorem walk (h : HV) (size : Int) (A : Option Addr) (b off cap : Nat) (is : List In7) (hh : HOk h) (hs : InR size) (hl : is.length ≤ 9223372036854775807) (hI : ∀ i ∈ is, InR i.2.2.2.2.1) (hAd : 0 < is.length → A = some ⟨b, off, none⟩) (w : World) (hC0 : Cod w) (hC2 : Hid (Ins w b off is)) :
    Calls Tryz.prog 6 #[hA h, .int .i64 size, .slice A is.length cap] w fun e w' => e = .returned (.bool true) ∧ Below w.heap.size w w' := by
  have hlen := Lib.hid (show (hC h).toArray.size = 36 by rw [List.size_toArray]; exact hC_len (by exact hh.len))
  have hone := Lib.hid (one_all (hC_one h))
  unfold hA
  by_cases h2 : (200 : Int) < (is.length : Int)
  · go_enter Tryz.func6, Tryz.ntmps6
    go_upto_region 1 with (fail)
    obtain ⟨W1, w1e⟩ : ∃ W1, w.alloc (Obj.cells (hC h).toArray 25) = W1 := ⟨_, rfl⟩
    have n1 : Nb w W1 := by rw [← w1e]; exact (Nb.refl _).alloc _
    rw [w1e]
    clear w1e
    go_wp2_with fail
    refine (hlives_any _ (hC0.of_nb n1)).mono ?_
    rintro e w2 ⟨rfl, n2⟩
    go_wp2_with fail
    go_ret
    exact ⟨rfl, n1.trans n2⟩
  have hl2 : is.length ≤ 200 := by omega
  go_enter Tryz.func6, Tryz.ntmps6
  go_upto_region 1 with (fail)
  obtain ⟨W1, w1e⟩ : ∃ W1, w.alloc (Obj.cells (hC h).toArray 25) = W1 := ⟨_, rfl⟩
  have n1 : Nb w W1 := by rw [← w1e]; exact (Nb.refl _).alloc _
  have kH : W1.heap[w.heap.size]? = some (.cells (hC h).toArray 25 (0, 0)) := by rw [← w1e]; exact new_blk _ _ rfl
  rw [w1e]
  clear w1e
  have HL := Lib.hid (laid_any size hs is (by omega) hI A b off cap hAd W1 (hC0.of_nb n1) (Lib.hid (hC2.out.nb n1)))
  have hbl := laidB_len (sizeN size) is
  have hsl := sizeN_le size
  unfold LaidAns at HL
  generalize laidB (sizeN size) is = bs at *
  generalize sizeN size = n at *
  clear hI hAd hC2
  go_wp2_with fail
  refine (HL.out).mono ?_
  rintro e w2 ⟨rfl, hM, -, n2⟩
  have nn := n1.trans n2
  have kH2 := n2.block kH
  have hz := lt_blk kH
  clear HL kH n1 n2
  have HS := Lib.hid (step_any h (W1.heap.size + 1) W1.heap.size bs hh (by rw [hbl]; omega) w2 (hC0.of_nb nn) hM)
  have hf4 := Lib.hid (fun he => step_four h bs he hh.len)
  have hse := Lib.hid (fun he => step_err h bs he)
  have hok2 := Lib.hid (step_ok h bs hh)
  unfold StpAns at HS
  generalize (stepS h bs).1 = x at *
  generalize (stepS h bs).2.1 = E at *
  generalize (stepS h bs).2.2 = bs2 at *
  have hlen2 := Lib.hid (show (hC x).toArray.size = 36 by rw [List.size_toArray]; exact hC_len (by exact hok2.out.len))
  have hone2 := Lib.hid (one_all (hC_one x))
  go_wp2_with (first | refine wpList_load_row rfl 25 (.tmp 3) rfl w.heap.size rfl 25 (hC h).toArray (0, 0) _ kH2 Tryz.underlying25 rfl (by rw [size36, hlen.out]) ?_)
  refine (HS.out).mono ?_
  rintro e w3 ⟨rfl, hM3, g3⟩
  have kH3 := (g3.block _ (lt_blk kH2) (by intro e; injection e with e; omega)).trans kH2
  have n3 : Nb w w3 := below_grown nn g3 nn.size (by omega)
  clear HS kH2 hM nn
  go_upto_region 5 with (first
    | refine wpList_store_row rfl 25 (.tmp 9) (.tmp 25) rfl w3.heap.size (hC x).toArray rfl rfl 25 zerosH (heap_alloc_new w3 _) (by rw [size36, hlen2.out]) (by rw [hlen2.out]; rfl) hone2.out ?_)
  obtain ⟨W4, w4e⟩ : ∃ W4, (w3.alloc (Obj.cells zerosH 25)).setRow w3.heap.size (hC x).toArray = W4 := ⟨_, rfl⟩
  have n4 : Nb w3 W4 := by rw [← w4e]; exact ((Nb.refl _).alloc _).setRow (Nat.le_refl _) _
  have kX : W4.heap[w3.heap.size]? = some (.cells (hC x).toArray 25 (0, 0)) := by rw [← w4e]; exact setRow_heap _ _ _ _ _ _ (heap_alloc_new w3 _)
  change Code.wp _ _ _ _ ((w3.alloc (Obj.cells zerosH 25)).setRow w3.heap.size (hC x).toArray)
  rw [w4e]
  clear w4e
  have kH4 := n4.block kH3
  have n5 := n3.trans n4
  have cod4 := hC0.of_nb n5
  clear kH3 n3 n4
  by_cases he : E = 0
  · subst he
    obtain ⟨f1, f2, f3⟩ := hf4.out rfl
    obtain ⟨cX, -⟩ := cell36 kX (by exact hok2.out.len)
    obtain ⟨cH, -⟩ := cell36 kH4 (by exact hh.len)
    have c1 : W4.cell? ⟨w3.heap.size, 1, none⟩ = some (.int .u64 0) := cellX kX 0 0 f1
    have q1 := hok2.out.pc
    have q2 := hh.pc
    unfold InU at q1 q2
    generalize h.pc = hp at *
    generalize x.pc = xp at *
    by_cases h4 : xp % 4 = 0
    · go_wp2_with fail
      refine (hlives_any _ cod4).mono ?_
      rintro e w6 ⟨rfl, n6⟩
      go_wp2_with fail
      go_ret
      exact ⟨rfl, n5.trans n6⟩
    · go_wp2_with fail
      refine (hlives_any _ cod4).mono ?_
      rintro e w6 ⟨rfl, n6⟩
      go_wp2_with fail
      go_ret
      exact ⟨rfl, n5.trans n6⟩
  · have he' : (E != 0) = true := by simp [bne, he]
    have hxe := hse.out he
    subst hxe
    obtain ⟨r, hr, hiff⟩ := eq_hart x x hok2.out.len hok2.out.len W4
    have hgd : Tryz.prog.eqGuardType Tryz.prog.depth 25 = false := by kernel_rfl
    obtain rfl : r = true := hiff.2 rfl
    clear hiff
    go_wp2_with (first
      | refine wpList_load_row rfl 25 (.tmp 9) rfl w3.heap.size rfl 25 (hC x).toArray (0, 0) _ kX Tryz.underlying25 rfl (by rw [size36, hlen2.out]) ?_
      | refine wpList_load_row rfl 25 (.tmp 3) rfl w.heap.size rfl 25 (hC x).toArray (0, 0) _ kH4 Tryz.underlying25 rfl (by rw [size36, hlen.out]) ?_)
    refine (hlives_any _ cod4).mono ?_
    rintro e w6 ⟨rfl, n6⟩
    go_wp2_with fail
    go_ret
    exact ⟨rfl, n5.trans n6⟩
/-! The row's step. -/
set_option maxRecDepth 100000 in
set_option maxHeartbeats 1000000 in
theorem lifted (os : Os) (started : os.Started) (H : Type) (enc : TypeId × Value → H) :
    ReturnsInHanded {} Tryz.checked os 6 .any (fun w args => (Rows.hartFourSpec.pre enc Tryz.prog Tryz.f6 [] false w args ∧ laidMetH Tryz.prog laidL w) ∧ sizedMet enc Tryz.prog Tryz.f6 (OpenSpec.ofChange Rows.hartFourSpec) false w args)
      (Rows.hartFourSpec.post enc Tryz.prog Tryz.f6 false true false false) := by
  refine returnsInHanded_of_change_and (C := Tryz.checked) (X := fun w _ => laidMetH Tryz.prog laidL w) (fun _ _ _ hh h => h.of_heap hh) own started (by kernel_rfl) Tryz.func6
    (ChangeSpec.witness_shaped (enc := enc) (C := Tryz.checked) (os := os) (X := fun w _ => laidMetH Tryz.prog laidL w) false (World.doorLaid Tryz.prog 400 os) #[.agg #[.int .u64 0, .int .u64 0, .int .u64 0, .int .u64 0, .int .u64 0, .int .u64 0, .int .u64 0, .int .u64 0, .int .u64 0, .int .u64 0, .int .u64 0, .int .u64 0, .int .u64 0, .int .u64 0, .int .u64 0, .int .u64 0, .int .u64 0, .int .u64 0, .int .u64 0, .int .u64 0, .int .u64 0, .int .u64 0, .int .u64 0, .int .u64 0, .int .u64 0, .int .u64 0, .int .u64 0, .int .u64 0, .int .u64 0, .int .u64 0, .int .u64 0, .int .u64 0, .int .u64 0, .bool false, .int .u64 0, .int .i64 0], .int .i64 0, .slice none 0 0] 8 rfl (World.shaped_of_RefB (by kernel_rfl) (by kernel_rfl)) (by kernel_rfl) (by kernel_rfl) (by kernel_rfl) (door_met os _)) ?_
  intro W base args ds gs before hval0 hW _ _ hL _
  have hval : ∀ (j : Nat) t v, Tryz.f6.params[j]? = some t → args[j]? = some v → Value.okWide Tryz.prog W .any base t v := hval0
  have hW' := hW
  obtain ⟨p, q, hA0, hV, rfl, hfz, hnd⟩ := hW
  have hA1 : DataW.TrodAll enc Tryz.prog W 0 (fun _ => true) true Tryz.f6.params.toList args.toList ds p := hA0
  have hA := hA1
  rw [Tryz.params6] at hA hval
  obtain ⟨v0, vs0, d0, ds0, p0, q0, hargs0, rfl, -, h0, r0⟩ := trodAll_cons hA
  obtain ⟨v1, vs1, d1, ds1, p1, q1, hargs1, rfl, -, h1, r1⟩ := trodAll_cons r0
  obtain ⟨v2, vs2, d2, ds2, p2, q2, hargs2, rfl, -, h2, r2⟩ := trodAll_cons r1
  obtain ⟨rfl, rfl, -⟩ := trodAll_nil r2
  obtain rfl : args = #[v0, v1, v2] := by cases args; simp_all
  obtain ⟨rfl, rfl⟩ := trodVars_none hV
  obtain ⟨hh0, rfl, hr0⟩ := open_hart (hval 0 25 v0 rfl rfl) h0
  obtain ⟨n1, rfl, -, -, w1⟩ := open_int Tryz.underlying3 (hval 1 3 v1 rfl rfl) h1
  obtain ⟨A2, b2, off2, cap2, is2, rfl, hAd2, hI2, hR2, hl2⟩ := open_insts (hval 2 26 v2 rfl rfl) h2
  clear hval0
  simp only [List.append_nil] at hW'
  refine (walk hh0 n1 A2 b2 off2 cap2 is2 hr0 (i64_of w1) hl2 hR2 hAd2 W (cod_of_laid hL) (Lib.hid hI2)).mono fun e W' ⟨he, hg⟩ => ?_
  subst he
  exact ⟨_, rfl, post_of_nb (pa := p) (pv := []) hW' (fun _ _ _ => (trodAll_cons_mk (shut_bool Tryz.underlying4 _) trodAll_mk0))
    (fun sp hsp => args_stay (by kernel_rfl) hg hA1 (fun t ht => by
      have h0 : (Tryz.f6.params.toList.all fun t => Tryz.prog.readableRec t && decide (t < Tryz.prog.types.size)) = true := by kernel_rfl
      have h1 := List.all_eq_true.1 h0 t ht
      rw [Bool.and_eq_true, decide_eq_true_eq] at h1
      exact h1) (fun x hx => hW'.lt x hx) hsp)
    (fun _ _ => rfl) (by simp) hg (ok_one (by kernel_rfl) rfl (okWide_bool_mk Tryz.underlying4 _))⟩
theorem over : Rows.HartFourSaid :=
  OpenClaim.holds_of_wide 6 Tryz.f6 rfl rfl rfl rfl rfl rfl rfl ⟨rfl, rfl, rfl, rfl, rfl⟩ rfl rfl rfl rfl rfl (by kernel_rfl) Tryz.func6 (by kernel_rfl)
    (of_decide_eq_true (by kernel_rfl)) (by unfold Func.isWrapper; first | (rw [if_pos (by decide +kernel)]; kernel_rfl) | (rw [if_neg (by decide +kernel)]; exact ⟨rfl, rfl⟩))
    (fun os started H enc _ => lifted os started H enc)
/-- The statement: the tied card. -/
theorem proved : Rows.HartFourCardSaid :=
  Claim7.holds_tied_plain_at .later [] [.data] true (true, "96ff5ee96118ca46eb58a0554124d8fafab9a05f0cb863e031356b72c81cf327") false
    over (fun _ h => by cases h) (by kernel_rfl) (fun _ h => by cases h) hartFour_row_tie rfl ⟨rfl, rfl⟩ (by kernel_rfl) rfl
    (fun f fn hf hfn => by
      obtain rfl : f = 6 := Option.some.inj ((show Tryz.prog.funcNamed "postbag/postbaglaw06.HartFour" = some 6 by kernel_rfl).symm.trans hf) |>.symm
      obtain rfl : fn = Tryz.f6 := (Option.some.inj (Tryz.func6.symm.trans hfn)).symm
      exact ⟨by kernel_rfl, fun j t ht => by
        rw [Tryz.params6] at ht
        have hm : t ∈ [25, 3, 26] := by simpa using Array.mem_of_getElem? ht
        have hall : ([25, 3, 26].all fun u => !Tryz.prog.wantsStandIn u) = true := by kernel_rfl
        exact (show Tryz.prog.wantsStandIn t = false by simpa using List.all_eq_true.1 hall t hm)⟩)
    (by kernel_rfl)
#print axioms proved
end Go.Proofs.YtmggichckhoomaaGreatDoor.hartFour
