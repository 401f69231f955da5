/-
  Proved here: what atomic operations store does not hang on which of two came first.
-/
import Derived.Test.YtnifoghebnjonaaDoorDd
import Derived.Test.YtnifoghebnjonaaDoorCards
import Derived.Test.YtnifoghebnjonaaDoorTie
import Derived.SevenTiedAt
namespace Go.Proofs.YtnifoghebnjonaaDoor.aluAtomic
open Go.ChangeShapes Go.WideShapes Go.ChangeAt Go.RowKit
set_option linter.unusedVariables false
theorem in_of {x : Int} (h : (Lit.int .u64 x).wf = true) : InU x := by
  simp [Lit.wf, IntKind.min, IntKind.max, IntKind.signed, IntKind.bits] at h
  unfold InU; omega
theorem k_low (op : Int) : ∃ r, wrap64 (69 + wrap64 ((IntKind.u64.wrap op).tmod 8)) = 69 + r ∧ 0 ≤ r ∧ r < 8 := by
  have h := in_wrap op
  refine ⟨(IntKind.u64.wrap op) % 8, ?_, by omega, by omega⟩
  rw [Int.tmod_eq_emod_of_nonneg h.1]
  unfold wrap64; omega
theorem k_low' (op : Int) : ∃ r, wrap64 (wrap64 (69 + wrap64 ((IntKind.u64.wrap op).tmod 8)) + 11) = 80 + r ∧ 0 ≤ r ∧ r < 8 := by
  obtain ⟨r, e, r0, r1⟩ := k_low op
  refine ⟨r, ?_, r0, r1⟩
  rw [e]; unfold wrap64; omega
set_option maxRecDepth 100000 in
set_option maxHeartbeats 4000000 in
theorem walk (op old a b : Int) (wo : -9223372036854775808 ≤ op ∧ op < 9223372036854775808) (qo : InU old) (qa : InU a) (qb : InU b) (w : World) (hC : Cod w) :
    Calls Tryd.prog 14 #[.int .i64 op, .int .u64 old, .int .u64 a, .int .u64 b] w fun e w' => e = .returned (.bool true) ∧ Nb w w' := by
  have hk1 : wrap64 (69 + wrap64 ((IntKind.u64.wrap op).tmod 8)) = 69 ∨ wrap64 (69 + wrap64 ((IntKind.u64.wrap op).tmod 8)) = 70 ∨ wrap64 (69 + wrap64 ((IntKind.u64.wrap op).tmod 8)) = 71 ∨ wrap64 (69 + wrap64 ((IntKind.u64.wrap op).tmod 8)) = 72 ∨ wrap64 (69 + wrap64 ((IntKind.u64.wrap op).tmod 8)) = 73 ∨ wrap64 (69 + wrap64 ((IntKind.u64.wrap op).tmod 8)) = 74 ∨ wrap64 (69 + wrap64 ((IntKind.u64.wrap op).tmod 8)) = 75 ∨ wrap64 (69 + wrap64 ((IntKind.u64.wrap op).tmod 8)) = 76 := by
    obtain ⟨r, e, r0, r1⟩ := k_low op
    rw [e]; omega
  have hk2 : wrap64 (wrap64 (69 + wrap64 ((IntKind.u64.wrap op).tmod 8)) + 11) = 80 ∨ wrap64 (wrap64 (69 + wrap64 ((IntKind.u64.wrap op).tmod 8)) + 11) = 81 ∨ wrap64 (wrap64 (69 + wrap64 ((IntKind.u64.wrap op).tmod 8)) + 11) = 82 ∨ wrap64 (wrap64 (69 + wrap64 ((IntKind.u64.wrap op).tmod 8)) + 11) = 83 ∨ wrap64 (wrap64 (69 + wrap64 ((IntKind.u64.wrap op).tmod 8)) + 11) = 84 ∨ wrap64 (wrap64 (69 + wrap64 ((IntKind.u64.wrap op).tmod 8)) + 11) = 85 ∨ wrap64 (wrap64 (69 + wrap64 ((IntKind.u64.wrap op).tmod 8)) + 11) = 86 ∨ wrap64 (wrap64 (69 + wrap64 ((IntKind.u64.wrap op).tmod 8)) + 11) = 87 := by
    obtain ⟨r, e, r0, r1⟩ := k_low' op
    rw [e]; omega
  have hk := Lib.hid (And.intro hk1 hk2)
  clear hk1 hk2
  go_enter Tryd.func14, Tryd.ntmps14
  go_wp2_with fail
  · have hk := hk.out.2
    generalize wrap64 (wrap64 (69 + wrap64 ((IntKind.u64.wrap op).tmod 8)) + 11) = k at *
    obtain ⟨e, i1, i2⟩ := at_any k old a b (by omega) qo qa qb
    have S1 := Lib.hid (st_any k old a qo qa)
    have S2 := Lib.hid (st_any k (StB k old a) b i1 qb)
    have S3 := Lib.hid (st_any k old b qo qb)
    have S4 := Lib.hid (st_any k (StB k old b) a i2 qa)
    rw [← e] at S4
    generalize StB k (StB k old a) b = z at *
    generalize StB k old a = x at *
    generalize StB k old b = y at *
    clear e i1 i2 hk wo qo qa qb
    refine (S1.out _).mono ?_
    rintro e w1 ⟨rfl, n1⟩
    go_wp2_with fail
    refine (S2.out _).mono ?_
    rintro e w2 ⟨rfl, n2⟩
    go_wp2_with fail
    refine (S3.out _).mono ?_
    rintro e w3 ⟨rfl, n3⟩
    go_wp2_with fail
    refine (S4.out _).mono ?_
    rintro e w4 ⟨rfl, n4⟩
    go_wp2_with fail
    have n5 := ((n1.trans n2).trans n3).trans n4
    refine (alives_any _ (hC.of_nb n5)).mono ?_
    rintro e w5 ⟨rfl, hm⟩
    go_wp2_with fail
    go_ret
    exact ⟨rfl, n5.trans hm⟩
  · have hk := hk.out.1
    generalize wrap64 (69 + wrap64 ((IntKind.u64.wrap op).tmod 8)) = k at *
    obtain ⟨e, i1, i2⟩ := at_any k old a b (by omega) qo qa qb
    have S1 := Lib.hid (st_any k old a qo qa)
    have S2 := Lib.hid (st_any k (StB k old a) b i1 qb)
    have S3 := Lib.hid (st_any k old b qo qb)
    have S4 := Lib.hid (st_any k (StB k old b) a i2 qa)
    rw [← e] at S4
    generalize StB k (StB k old a) b = z at *
    generalize StB k old a = x at *
    generalize StB k old b = y at *
    clear e i1 i2 hk wo qo qa qb
    refine (S1.out _).mono ?_
    rintro e w1 ⟨rfl, n1⟩
    go_wp2_with fail
    refine (S2.out _).mono ?_
    rintro e w2 ⟨rfl, n2⟩
    go_wp2_with fail
    refine (S3.out _).mono ?_
    rintro e w3 ⟨rfl, n3⟩
    go_wp2_with fail
    refine (S4.out _).mono ?_
    rintro e w4 ⟨rfl, n4⟩
    go_wp2_with fail
    have n5 := ((n1.trans n2).trans n3).trans n4
    refine (alives_any _ (hC.of_nb n5)).mono ?_
    rintro e w5 ⟨rfl, hm⟩
    go_wp2_with fail
    go_ret
    exact ⟨rfl, n5.trans hm⟩
/-! The row's step. -/
set_option maxRecDepth 100000 in
set_option maxHeartbeats 1000000 in
theorem lifted (os : Os) (started : os.Started) (H : Type) (enc : TypeId × Value → H) :
    ReturnsInHanded {} Tryd.checked os 14 .any (fun w args => (Rows.aluAtomicSpec.pre enc Tryd.prog Tryd.f14 [] false w args ∧ laidMetH Tryd.prog laidL w) ∧ sizedMet enc Tryd.prog Tryd.f14 (OpenSpec.ofChange Rows.aluAtomicSpec) false w args)
      (Rows.aluAtomicSpec.post enc Tryd.prog Tryd.f14 false true false false) := by
  refine returnsInHanded_of_change_and (C := Tryd.checked) (X := fun w _ => laidMetH Tryd.prog laidL w) (fun _ _ _ hh h => h.of_heap hh) own started (by kernel_rfl) Tryd.func14
    (ChangeSpec.witness_shaped (enc := enc) (C := Tryd.checked) (os := os) (X := fun w _ => laidMetH Tryd.prog laidL w) false (World.doorLaid Tryd.prog 400 os) #[.int .i64 0, .int .u64 0, .int .u64 0, .int .u64 0] 8 rfl (World.shaped_of_RefB (by kernel_rfl) (by kernel_rfl)) (by kernel_rfl) (by kernel_rfl) (by kernel_rfl) (door_met os _)) ?_
  intro W base args ds gs before hval0 hW _ _ hL _
  have hval : ∀ (j : Nat) t v, Tryd.f14.params[j]? = some t → args[j]? = some v → Value.okWide Tryd.prog W .any base t v := hval0
  have hW' := hW
  obtain ⟨p, q, hA0, hV, rfl, hfz, hnd⟩ := hW
  have hA : DataW.TrodAll enc Tryd.prog W 0 (fun _ => true) true Tryd.f14.params.toList args.toList ds p := hA0
  rw [Tryd.params14] at hA hval
  obtain ⟨v0, vs0, d0, ds0, p0, q0, hargs0, rfl, rfl, h0, r0⟩ := trodAll_cons hA
  obtain ⟨v1, vs1, d1, ds1, p1, q1, hargs1, rfl, rfl, h1, r1⟩ := trodAll_cons r0
  obtain ⟨v2, vs2, d2, ds2, p2, q2, hargs2, rfl, rfl, h2, r2⟩ := trodAll_cons r1
  obtain ⟨v3, vs3, d3, ds3, p3, q3, hargs3, rfl, rfl, h3, r3⟩ := trodAll_cons r2
  obtain ⟨rfl, rfl, rfl⟩ := trodAll_nil r3
  obtain rfl : args = #[v0, v1, v2, v3] := by cases args; simp_all
  obtain ⟨rfl, rfl⟩ := trodVars_none hV
  obtain ⟨n0, rfl, rfl, rfl, w0⟩ := open_int Tryd.underlying3 (hval 0 3 v0 rfl rfl) h0
  obtain ⟨n1, rfl, rfl, rfl, w1⟩ := open_int Tryd.underlying43 (hval 1 43 v1 rfl rfl) h1
  obtain ⟨n2, rfl, rfl, rfl, w2⟩ := open_int Tryd.underlying43 (hval 2 43 v2 rfl rfl) h2
  obtain ⟨n3, rfl, rfl, rfl, w3⟩ := open_int Tryd.underlying43 (hval 3 43 v3 rfl rfl) h3
  clear hA0 hval0
  simp only [List.append_nil] at hW'
  refine (walk n0 n1 n2 n3 (i64_of w0) (in_of w1) (in_of w2) (in_of w3) W (cod_of_laid hL)).mono fun e W' ⟨he, hg⟩ => ?_
  subst he
  exact ⟨_, rfl, post_of_nb (pa := []) (pv := []) hW' (fun _ _ _ => (trodAll_cons_mk (shut_bool Tryd.underlying4 _) trodAll_mk0)) (fun sp _ => (trodAll_cons_mk (shut_int Tryd.underlying3 w0) (trodAll_cons_mk (shut_int Tryd.underlying43 w1) (trodAll_cons_mk (shut_int Tryd.underlying43 w2) (trodAll_cons_mk (shut_int Tryd.underlying43 w3) trodAll_mk0))))) (fun _ _ => rfl) rfl
    hg (ok_one (by kernel_rfl) rfl (okWide_bool_mk Tryd.underlying4 _))⟩
theorem over : Rows.AluAtomicSaid :=
  OpenClaim.holds_of_wide 14 Tryd.f14 rfl rfl rfl rfl rfl rfl rfl ⟨rfl, rfl, rfl, rfl, rfl⟩ rfl rfl rfl rfl rfl (by kernel_rfl) Tryd.func14 (by kernel_rfl)
    (of_decide_eq_true (by kernel_rfl)) (by unfold Func.isWrapper; first | (rw [if_pos (by decide +kernel)]; kernel_rfl) | (rw [if_neg (by decide +kernel)]; exact ⟨rfl, rfl⟩))
    (fun os started H enc _ => lifted os started H enc)
/-- The statement: the tied card. -/
theorem proved : Rows.AluAtomicCardSaid :=
  Claim7.holds_tied_plain_at .later [] [.data] true (true, "1b30c97159391c2948209299fea3c696635feb17c735c187f33a81c21148e5d9") true
    over (fun _ h => by cases h) (by kernel_rfl) (fun _ h => by cases h) aluAtomic_row_tie rfl ⟨rfl, rfl⟩ (by kernel_rfl) rfl
    (fun f fn hf hfn => by
      obtain rfl : f = 14 := Option.some.inj ((show Tryd.prog.funcNamed "postbag/postbaglaw04.AluAtomic" = some 14 by kernel_rfl).symm.trans hf) |>.symm
      obtain rfl : fn = Tryd.f14 := (Option.some.inj (Tryd.func14.symm.trans hfn)).symm
      exact ⟨by kernel_rfl, fun j t ht => by
        rw [Tryd.params14] at ht
        have hm : t ∈ [3, 43, 43, 43] := by simpa using Array.mem_of_getElem? ht
        have hall : ([3, 43, 43, 43].all fun u => !Tryd.prog.wantsStandIn u) = true := by kernel_rfl
        exact (show Tryd.prog.wantsStandIn t = false by simpa using List.all_eq_true.1 hall t hm)⟩)
    (by kernel_rfl)
#print axioms proved
end Go.Proofs.YtnifoghebnjonaaDoor.aluAtomic
