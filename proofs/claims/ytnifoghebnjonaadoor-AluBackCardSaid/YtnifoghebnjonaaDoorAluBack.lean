/-
  Proved here: for every two numbers and every shift what was added is taken away, what was turned is turned back, a shift to the left and back keeps what it had room for, and quotient times divisor and remainder are the number. Condition: the table of codes holds what its text lays (the card ties it to the text).
-/
import Derived.Test.YtnifoghebnjonaaDoorCy
import Derived.Test.YtnifoghebnjonaaDoorCards
import Derived.Test.YtnifoghebnjonaaDoorTie
import Derived.SevenTiedAt
namespace Go.Proofs.YtnifoghebnjonaaDoor.aluBack
open Go.ChangeShapes Go.WideShapes Go.ChangeAt Go.RowKit
set_option linter.unusedVariables false
theorem in_of {x : Int} (h : (Lit.int .u64 x).wf = true) : InU x := by
  simp [Lit.wf, IntKind.min, IntKind.max, IntKind.signed, IntKind.bits] at h
  unfold InU; omega
theorem back_add (a b : Int) (qa : InU a) (qb : InU b) : IntKind.u64.wrap (IntKind.u64.wrap (a + b) - b) = a := by
  have := qa.1; have := qa.2
  rw [wU, wU]; omega
theorem back_xor (a b : Int) (qa : InU a) (qb : InU b) : bits .xor .u64 (bits .xor .u64 a b) b = a := by
  have q := in_xor a b qa qb
  have h1 := u64_xor a b qa.1 qa.2 qb.1 qb.2
  rw [u64_xor _ b q.1 q.2 qb.1 qb.2, h1, Int.toNat_natCast, Nat.xor_assoc, Nat.xor_self, Nat.xor_zero]
  have := qa.1; omega
theorem back_shift (a k : Int) (qa : InU a) (k0 : 0 ≤ k) (k1 : k ≤ 63) : IntKind.u64.wrap (a * 2 ^ (k % 64).toNat) / 2 ^ (k % 64).toNat = Fld a 0 (64 - k) := by
  obtain ⟨n, rfl⟩ := Int.eq_ofNat_of_zero_le k0
  obtain ⟨m, rfl⟩ := Int.eq_ofNat_of_zero_le qa.1
  rw [fld0 _ _ (by omega) (by omega) (by omega), wU]
  have e1 : (((n : Int) % 64).toNat) = n := by omega
  have e2 : ((64 : Int) - (n : Int)).toNat = 64 - n := by omega
  rw [e1, e2]
  have h : m * 2 ^ n % 18446744073709551616 / 2 ^ n = m % 2 ^ (64 - n) := by
    have e : 18446744073709551616 = 2 ^ (64 - n) * 2 ^ n := by rw [← Nat.pow_add, show 64 - n + n = 64 by omega]
    rw [e, Nat.mul_mod_mul_right, Nat.mul_div_cancel _ (Nat.two_pow_pos n)]
  have h2 : ((m * 2 ^ n % 18446744073709551616 / 2 ^ n : Nat) : Int) = ((m % 2 ^ (64 - n) : Nat) : Int) := by rw [h]
  rw [Int.natCast_ediv, Int.natCast_emod, Int.natCast_mul, Int.natCast_pow, Int.natCast_emod] at h2
  exact h2
theorem back_div (a b : Int) (qa : InU a) (qb : InU b) : IntKind.u64.wrap (IntKind.u64.wrap (_root_.Go.Proofs.YtnifoghebnjonaaDoor.Quo a b false * b) + _root_.Go.Proofs.YtnifoghebnjonaaDoor.Rem a b false) = a := by
  have := qa.1; have := qa.2
  unfold _root_.Go.Proofs.YtnifoghebnjonaaDoor.Rem
  generalize IntKind.u64.wrap (_root_.Go.Proofs.YtnifoghebnjonaaDoor.Quo a b false * b) = z
  rw [wU, wU]; omega
set_option maxRecDepth 100000 in
theorem do_31 (x y : Int) (qx : InU x) (qy : InU y) (w : World) (hC : Cod w) : Calls Tryd.prog 41 #[.int .i64 31, .int .u64 x, .int .u64 y] w fun e w' => e = .returned (.int .u64 (IntKind.u64.wrap (x + y))) ∧ Nb w w' := by
  have H := val_any 31 1 1 2 0 0 x y false false qx qy (by decide) (by decide) w hC
  rw [show EX 31 1 1 2 0 false false = 0 from by decide +kernel, show VX 31 1 1 2 0 false false 0 x y = IntKind.u64.wrap (x + y) from by unfold VX; rw [show GoodB 31 1 1 2 0 false false = true from by decide +kernel]; rfl] at H
  have HH := Lib.hid H
  clear H
  go_enter Tryd.func41, Tryd.ntmps41
  go_wp2_with fail
  refine HH.out.mono ?_
  rintro e w1 ⟨rfl, hn⟩
  go_wp2_with fail
  go_ret
  exact ⟨rfl, hn⟩
set_option maxRecDepth 100000 in
theorem do_32 (x y : Int) (qx : InU x) (qy : InU y) (w : World) (hC : Cod w) : Calls Tryd.prog 41 #[.int .i64 32, .int .u64 x, .int .u64 y] w fun e w' => e = .returned (.int .u64 (IntKind.u64.wrap (x - y))) ∧ Nb w w' := by
  have H := val_any 32 1 1 2 0 0 x y false false qx qy (by decide) (by decide) w hC
  rw [show EX 32 1 1 2 0 false false = 0 from by decide +kernel, show VX 32 1 1 2 0 false false 0 x y = IntKind.u64.wrap (x - y) from by unfold VX; rw [show GoodB 32 1 1 2 0 false false = true from by decide +kernel]; rfl] at H
  have HH := Lib.hid H
  clear H
  go_enter Tryd.func41, Tryd.ntmps41
  go_wp2_with fail
  refine HH.out.mono ?_
  rintro e w1 ⟨rfl, hn⟩
  go_wp2_with fail
  go_ret
  exact ⟨rfl, hn⟩
set_option maxRecDepth 100000 in
theorem do_36 (x y : Int) (qx : InU x) (qy : InU y) (w : World) (hC : Cod w) : Calls Tryd.prog 41 #[.int .i64 36, .int .u64 x, .int .u64 y] w fun e w' => e = .returned (.int .u64 (bits .xor .u64 x y)) ∧ Nb w w' := by
  have H := val_any 36 1 1 2 0 0 x y false false qx qy (by decide) (by decide) w hC
  rw [show EX 36 1 1 2 0 false false = 0 from by decide +kernel, show VX 36 1 1 2 0 false false 0 x y = bits .xor .u64 x y from by unfold VX; rw [show GoodB 36 1 1 2 0 false false = true from by decide +kernel]; rfl] at H
  have HH := Lib.hid H
  clear H
  go_enter Tryd.func41, Tryd.ntmps41
  go_wp2_with fail
  refine HH.out.mono ?_
  rintro e w1 ⟨rfl, hn⟩
  go_wp2_with fail
  go_ret
  exact ⟨rfl, hn⟩
set_option maxRecDepth 100000 in
theorem do_33 (x y : Int) (qx : InU x) (qy : InU y) (w : World) (hC : Cod w) : Calls Tryd.prog 41 #[.int .i64 33, .int .u64 x, .int .u64 y] w fun e w' => e = .returned (.int .u64 (IntKind.u64.wrap (x * 2 ^ (y % 64).toNat))) ∧ Nb w w' := by
  have H := val_any 33 1 1 2 0 0 x y false false qx qy (by decide) (by decide) w hC
  rw [show EX 33 1 1 2 0 false false = 0 from by decide +kernel, show VX 33 1 1 2 0 false false 0 x y = IntKind.u64.wrap (x * 2 ^ (y % 64).toNat) from by unfold VX; rw [show GoodB 33 1 1 2 0 false false = true from by decide +kernel]; rfl] at H
  have HH := Lib.hid H
  clear H
  go_enter Tryd.func41, Tryd.ntmps41
  go_wp2_with fail
  refine HH.out.mono ?_
  rintro e w1 ⟨rfl, hn⟩
  go_wp2_with fail
  go_ret
  exact ⟨rfl, hn⟩
set_option maxRecDepth 100000 in
theorem do_37 (x y : Int) (qx : InU x) (qy : InU y) (w : World) (hC : Cod w) : Calls Tryd.prog 41 #[.int .i64 37, .int .u64 x, .int .u64 y] w fun e w' => e = .returned (.int .u64 (x / 2 ^ (y % 64).toNat)) ∧ Nb w w' := by
  have H := val_any 37 1 1 2 0 0 x y false false qx qy (by decide) (by decide) w hC
  rw [show EX 37 1 1 2 0 false false = 0 from by decide +kernel, show VX 37 1 1 2 0 false false 0 x y = x / 2 ^ (y % 64).toNat from by unfold VX; rw [show GoodB 37 1 1 2 0 false false = true from by decide +kernel]; rfl] at H
  have HH := Lib.hid H
  clear H
  go_enter Tryd.func41, Tryd.ntmps41
  go_wp2_with fail
  refine HH.out.mono ?_
  rintro e w1 ⟨rfl, hn⟩
  go_wp2_with fail
  go_ret
  exact ⟨rfl, hn⟩
set_option maxRecDepth 100000 in
theorem do_58 (x y : Int) (qx : InU x) (qy : InU y) (w : World) (hC : Cod w) : Calls Tryd.prog 41 #[.int .i64 58, .int .u64 x, .int .u64 y] w fun e w' => e = .returned (.int .u64 (_root_.Go.Proofs.YtnifoghebnjonaaDoor.Quo x y false)) ∧ Nb w w' := by
  have H := val_any 58 1 1 2 0 0 x y false false qx qy (by decide) (by decide) w hC
  rw [show EX 58 1 1 2 0 false false = 0 from by decide +kernel, show VX 58 1 1 2 0 false false 0 x y = _root_.Go.Proofs.YtnifoghebnjonaaDoor.Quo x y false from by unfold VX; rw [show GoodB 58 1 1 2 0 false false = true from by decide +kernel]; rfl] at H
  have HH := Lib.hid H
  clear H
  go_enter Tryd.func41, Tryd.ntmps41
  go_wp2_with fail
  refine HH.out.mono ?_
  rintro e w1 ⟨rfl, hn⟩
  go_wp2_with fail
  go_ret
  exact ⟨rfl, hn⟩
set_option maxRecDepth 100000 in
theorem do_53 (x y : Int) (qx : InU x) (qy : InU y) (w : World) (hC : Cod w) : Calls Tryd.prog 41 #[.int .i64 53, .int .u64 x, .int .u64 y] w fun e w' => e = .returned (.int .u64 (IntKind.u64.wrap (x * y))) ∧ Nb w w' := by
  have H := val_any 53 1 1 2 0 0 x y false false qx qy (by decide) (by decide) w hC
  rw [show EX 53 1 1 2 0 false false = 0 from by decide +kernel, show VX 53 1 1 2 0 false false 0 x y = IntKind.u64.wrap (x * y) from by unfold VX; rw [show GoodB 53 1 1 2 0 false false = true from by decide +kernel]; rfl] at H
  have HH := Lib.hid H
  clear H
  go_enter Tryd.func41, Tryd.ntmps41
  go_wp2_with fail
  refine HH.out.mono ?_
  rintro e w1 ⟨rfl, hn⟩
  go_wp2_with fail
  go_ret
  exact ⟨rfl, hn⟩
set_option maxRecDepth 100000 in
theorem do_60 (x y : Int) (qx : InU x) (qy : InU y) (w : World) (hC : Cod w) : Calls Tryd.prog 41 #[.int .i64 60, .int .u64 x, .int .u64 y] w fun e w' => e = .returned (.int .u64 (_root_.Go.Proofs.YtnifoghebnjonaaDoor.Rem x y false)) ∧ Nb w w' := by
  have H := val_any 60 1 1 2 0 0 x y false false qx qy (by decide) (by decide) w hC
  rw [show EX 60 1 1 2 0 false false = 0 from by decide +kernel, show VX 60 1 1 2 0 false false 0 x y = _root_.Go.Proofs.YtnifoghebnjonaaDoor.Rem x y false from by unfold VX; rw [show GoodB 60 1 1 2 0 false false = true from by decide +kernel]; rfl] at H
  have HH := Lib.hid H
  clear H
  go_enter Tryd.func41, Tryd.ntmps41
  go_wp2_with fail
  refine HH.out.mono ?_
  rintro e w1 ⟨rfl, hn⟩
  go_wp2_with fail
  go_ret
  exact ⟨rfl, hn⟩
set_option maxRecDepth 100000 in
set_option maxHeartbeats 4000000 in
theorem walk (a b n : Int) (qa : InU a) (qb : InU b) (wn : -9223372036854775808 ≤ n ∧ n < 9223372036854775808) (w : World) (hC : Cod w) :
    Calls Tryd.prog 13 #[.int .u64 a, .int .u64 b, .int .i64 n] w fun e w' => e = .returned (.bool true) ∧ Nb w w' := by
  obtain ⟨k, hk, k0, k1⟩ : ∃ k, (IntKind.u64.wrap n).tmod 64 = k ∧ 0 ≤ k ∧ k ≤ 63 := by
    obtain ⟨p, q⟩ := in_wrap n
    refine ⟨_, rfl, ?_⟩
    rw [Int.tmod_eq_emod_of_nonneg p]; omega
  have qk : InU k := ⟨k0, by omega⟩
  have hN0 := Nb.refl w
  have hC0 := hC
  have F1 := Lib.hid (back_add a b qa qb)
  have F2 := Lib.hid (back_xor a b qa qb)
  have F3 := Lib.hid (back_shift a k qa k0 k1)
  have F4 := Lib.hid (back_div a b qa qb)
  have q1 := in_wrap (a + b)
  have q2 := in_xor a b qa qb
  have q3 := in_wrap (a * 2 ^ (k % 64).toNat)
  have q4 := res_quo a b qa qb
  have q5 := in_wrap (_root_.Go.Proofs.YtnifoghebnjonaaDoor.Quo a b false * b)
  have q6 := res_rem a b qa qb
  have hmf : ∀ (fn : Fn) (first cap : Array Value) (w : World), (Instr.makeFunc fn first cap).run Tryd.prog w = .ok (.func fn first cap) w := fun _ _ _ _ => rfl
  go_enter Tryd.func13, Tryd.ntmps13
  go_wp2_with fail
  refine (do_31 _ _ qa qb _ (hC0)).mono ?_
  rintro e w1 ⟨rfl, hn⟩
  have hN1 := hN0.trans hn
  have hC1 := hC0.of_nb hn
  clear hn hN0 hC0
  go_wp2_with fail
  refine (do_32 _ _ q1 qb _ (hC1)).mono ?_
  rintro e w2 ⟨rfl, hn⟩
  have hN2 := hN1.trans hn
  have hC2 := hC1.of_nb hn
  clear hn hN1 hC1
  rw [F1.out]
  go_wp2_with fail
  refine (do_36 _ _ qa qb _ (hC2)).mono ?_
  rintro e w3 ⟨rfl, hn⟩
  have hN3 := hN2.trans hn
  have hC3 := hC2.of_nb hn
  clear hn hN2 hC2
  go_wp2_with fail
  refine (do_36 _ _ q2 qb _ (hC3)).mono ?_
  rintro e w4 ⟨rfl, hn⟩
  have hN4 := hN3.trans hn
  have hC4 := hC3.of_nb hn
  clear hn hN3 hC3
  rw [F2.out]
  go_wp2_with fail
  refine (do_33 _ _ qa qk _ (hC4)).mono ?_
  rintro e w5 ⟨rfl, hn⟩
  have hN5 := hN4.trans hn
  have hC5 := hC4.of_nb hn
  clear hn hN4 hC4
  go_wp2_with fail
  refine (do_37 _ _ q3 qk _ (hC5)).mono ?_
  rintro e w6 ⟨rfl, hn⟩
  have hN6 := hN5.trans hn
  have hC6 := hC5.of_nb hn
  clear hn hN5 hC5
  rw [F3.out]
  go_wp2_with fail
  refine (field_any _ _ _ qa.1 qa.2 _).mono ?_
  rintro e w' ⟨rfl, rfl⟩
  go_wp2_with fail
  refine (do_58 _ _ qa qb _ (hC6)).mono ?_
  rintro e w7 ⟨rfl, hn⟩
  have hN7 := hN6.trans hn
  have hC7 := hC6.of_nb hn
  clear hn hN6 hC6
  go_wp2_with fail
  refine (do_53 _ _ q4 qb _ (hC7)).mono ?_
  rintro e w8 ⟨rfl, hn⟩
  have hN8 := hN7.trans hn
  have hC8 := hC7.of_nb hn
  clear hn hN7 hC7
  go_wp2_with fail
  refine (do_60 _ _ qa qb _ (hC8)).mono ?_
  rintro e w9 ⟨rfl, hn⟩
  have hN9 := hN8.trans hn
  have hC9 := hC8.of_nb hn
  clear hn hN8 hC8
  go_wp2_with fail
  refine (do_31 _ _ q5 q6 _ (hC9)).mono ?_
  rintro e w10 ⟨rfl, hn⟩
  have hN10 := hN9.trans hn
  have hC10 := hC9.of_nb hn
  clear hn hN9 hC9
  rw [F4.out]
  go_wp2_with fail
  refine (alives_any _ (hC10)).mono ?_
  rintro e w11 ⟨rfl, hn⟩
  have hN11 := hN10.trans hn
  have hC11 := hC10.of_nb hn
  clear hn hN10 hC10
  go_wp2_with fail
  go_ret
  exact ⟨rfl, hN11⟩
/-! The row's step. -/
set_option maxRecDepth 100000 in
set_option maxHeartbeats 1000000 in
theorem lifted (os : Os) (started : os.Started) (H : Type) (enc : TypeId × Value → H) :
    ReturnsInHanded {} Tryd.checked os 13 .any (fun w args => (Rows.aluBackSpec.pre enc Tryd.prog Tryd.f13 [] false w args ∧ laidMetH Tryd.prog laidL w) ∧ sizedMet enc Tryd.prog Tryd.f13 (OpenSpec.ofChange Rows.aluBackSpec) false w args)
      (Rows.aluBackSpec.post enc Tryd.prog Tryd.f13 false true false false) := by
  refine returnsInHanded_of_change_and (C := Tryd.checked) (X := fun w _ => laidMetH Tryd.prog laidL w) (fun _ _ _ hh h => h.of_heap hh) own started (by kernel_rfl) Tryd.func13
    (ChangeSpec.witness_shaped (enc := enc) (C := Tryd.checked) (os := os) (X := fun w _ => laidMetH Tryd.prog laidL w) false (World.doorLaid Tryd.prog 400 os) #[.int .u64 0, .int .u64 0, .int .i64 0] 8 rfl (World.shaped_of_RefB (by kernel_rfl) (by kernel_rfl)) (by kernel_rfl) (by kernel_rfl) (by kernel_rfl) (door_met os _)) ?_
  intro W base args ds gs before hval0 hW _ _ hL _
  have hval : ∀ (j : Nat) t v, Tryd.f13.params[j]? = some t → args[j]? = some v → Value.okWide Tryd.prog W .any base t v := hval0
  have hW' := hW
  obtain ⟨p, q, hA0, hV, rfl, hfz, hnd⟩ := hW
  have hA : DataW.TrodAll enc Tryd.prog W 0 (fun _ => true) true Tryd.f13.params.toList args.toList ds p := hA0
  rw [Tryd.params13] at hA hval
  obtain ⟨v0, vs0, d0, ds0, p0, q0, hargs0, rfl, rfl, h0, r0⟩ := trodAll_cons hA
  obtain ⟨v1, vs1, d1, ds1, p1, q1, hargs1, rfl, rfl, h1, r1⟩ := trodAll_cons r0
  obtain ⟨v2, vs2, d2, ds2, p2, q2, hargs2, rfl, rfl, h2, r2⟩ := trodAll_cons r1
  obtain ⟨rfl, rfl, rfl⟩ := trodAll_nil r2
  obtain rfl : args = #[v0, v1, v2] := by cases args; simp_all
  obtain ⟨rfl, rfl⟩ := trodVars_none hV
  obtain ⟨n0, rfl, rfl, rfl, w0⟩ := open_int Tryd.underlying43 (hval 0 43 v0 rfl rfl) h0
  obtain ⟨n1, rfl, rfl, rfl, w1⟩ := open_int Tryd.underlying43 (hval 1 43 v1 rfl rfl) h1
  obtain ⟨n2, rfl, rfl, rfl, w2⟩ := open_int Tryd.underlying3 (hval 2 3 v2 rfl rfl) h2
  clear hA0 hval0
  simp only [List.append_nil] at hW'
  refine (walk n0 n1 n2 (in_of w0) (in_of w1) (i64_of w2) W (cod_of_laid hL)).mono fun e W' ⟨he, hg⟩ => ?_
  subst he
  exact ⟨_, rfl, post_of_nb (pa := []) (pv := []) hW' (fun _ _ _ => (trodAll_cons_mk (shut_bool Tryd.underlying4 _) trodAll_mk0)) (fun sp _ => (trodAll_cons_mk (shut_int Tryd.underlying43 w0) (trodAll_cons_mk (shut_int Tryd.underlying43 w1) (trodAll_cons_mk (shut_int Tryd.underlying3 w2) trodAll_mk0)))) (fun _ _ => rfl) rfl
    hg (ok_one (by kernel_rfl) rfl (okWide_bool_mk Tryd.underlying4 _))⟩
theorem over : Rows.AluBackSaid :=
  OpenClaim.holds_of_wide 13 Tryd.f13 rfl rfl rfl rfl rfl rfl rfl ⟨rfl, rfl, rfl, rfl, rfl⟩ rfl rfl rfl rfl rfl (by kernel_rfl) Tryd.func13 (by kernel_rfl)
    (of_decide_eq_true (by kernel_rfl)) (by unfold Func.isWrapper; first | (rw [if_pos (by decide +kernel)]; kernel_rfl) | (rw [if_neg (by decide +kernel)]; exact ⟨rfl, rfl⟩))
    (fun os started H enc _ => lifted os started H enc)
/-- The statement: the tied card. -/
theorem proved : Rows.AluBackCardSaid :=
  Claim7.holds_tied_plain_at .later [] [.data] true (true, "1b30c97159391c2948209299fea3c696635feb17c735c187f33a81c21148e5d9") true
    over (fun _ h => by cases h) (by kernel_rfl) (fun _ h => by cases h) aluBack_row_tie rfl ⟨rfl, rfl⟩ (by kernel_rfl) rfl
    (fun f fn hf hfn => by
      obtain rfl : f = 13 := Option.some.inj ((show Tryd.prog.funcNamed "postbag/postbaglaw04.AluBack" = some 13 by kernel_rfl).symm.trans hf) |>.symm
      obtain rfl : fn = Tryd.f13 := (Option.some.inj (Tryd.func13.symm.trans hfn)).symm
      exact ⟨by kernel_rfl, fun j t ht => by
        rw [Tryd.params13] at ht
        have hm : t ∈ [43, 43, 3] := by simpa using Array.mem_of_getElem? ht
        have hall : ([43, 43, 3].all fun u => !Tryd.prog.wantsStandIn u) = true := by kernel_rfl
        exact (show Tryd.prog.wantsStandIn t = false by simpa using List.all_eq_true.1 hall t hm)⟩)
    (by kernel_rfl)
#print axioms proved
end Go.Proofs.YtnifoghebnjonaaDoor.aluBack
