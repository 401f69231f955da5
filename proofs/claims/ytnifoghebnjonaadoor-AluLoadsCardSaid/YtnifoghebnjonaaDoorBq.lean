/-
  Proved here: What Quo and Rem of the code and of the reference answer. Conditions: the arguments are words.
-/
import Derived.Test.YtnifoghebnjonaaDoorBy
import Derived.Test.YtnifoghebnjonaaDoorQa
namespace Go.Proofs.YtnifoghebnjonaaDoor
open Go.RowKit
set_option linter.unusedVariables false

theorem neg_any (x : Int) (h0 : 0 ≤ x) (h1 : x < 18446744073709551616) (w : World) :
    Calls Tryd.prog 179 #[.int .u64 x] w fun e w' => e = .returned (.bool (NegB x)) ∧ w = w' := by
  go_enter Tryd.func179, Tryd.ntmps179
  go_wp2
  go_ret
  exact ⟨rfl, rfl⟩
theorem mag_any (x : Int) (h0 : 0 ≤ x) (h1 : x < 18446744073709551616) (w : World) :
    Calls Tryd.prog 180 #[.int .u64 x] w fun e w' => e = .returned (.int .u64 (Mag x)) ∧ w = w' := by
  cases hn : NegB x
  · have H := Lib.hid (mag_pos x hn)
    go_enter Tryd.func180, Tryd.ntmps180
    go_wp2_with (go_at_call 179; refine (neg_any x h0 h1 _).mono ?_; rintro e w' ⟨rfl, rfl⟩)
    go_ret
    exact ⟨ret_int H.out.symm, rfl⟩
  · have H : Hid (IntKind.u64.wrap (-x) = Mag x) := by unfold Mag; rw [if_pos hn]; rfl
    go_enter Tryd.func180, Tryd.ntmps180
    go_wp2_with (go_at_call 179; refine (neg_any x h0 h1 _).mono ?_; rintro e w' ⟨rfl, rfl⟩)
    go_ret
    exact ⟨ret_int H.out, rfl⟩

theorem quo_any (a b : Int) (s : Bool) (h0 : 0 ≤ a) (h1 : a < 18446744073709551616) (g0 : 0 ≤ b) (g1 : b < 18446744073709551616) (w : World) :
    Calls Tryd.prog 166 #[.int .u64 a, .int .u64 b, .bool s] w fun e w' => e = .returned (.int .u64 (_root_.Go.Proofs.YtnifoghebnjonaaDoor.Quo a b s)) ∧ w = w' := by
  by_cases hb : b = 0
  · subst hb
    have H := Lib.hid (quo_0 a s)
    go_enter Tryd.func166, Tryd.ntmps166
    go_wp2_with fail
    go_ret
    exact ⟨ret_int H.out.symm, rfl⟩
  have b1 : 1 ≤ b := by omega
  have hb0 : (b == 0) = false := by rw [beq_eq_false_iff_ne]; exact hb
  clear hb
  cases s
  · have H := Lib.hid (quo_u a b b1)
    go_enter Tryd.func166, Tryd.ntmps166
    go_wp2_with fail
    go_ret
    exact ⟨ret_int H.out.symm, rfl⟩
  · obtain ⟨a0, a1⟩ := mag_range a h0 h1
    have m1 := mag_one b b1 g1
    have m2 := (mag_range b g0 g1).2
    by_cases hs : NegB a = NegB b
    · have H := Lib.hid (quo_same a b b1 hs)
      have hb' : (NegB a == NegB b) = true := by rw [hs]; simp
      clear hs
      go_enter Tryd.func166, Tryd.ntmps166
      go_wp2_with fail
      refine (mag_any a h0 h1 _).mono ?_
      rintro e w' ⟨rfl, rfl⟩
      go_wp2_with fail
      refine (mag_any b g0 g1 _).mono ?_
      rintro e w' ⟨rfl, rfl⟩
      go_wp2_with fail
      refine (neg_any a h0 h1 _).mono ?_
      rintro e w' ⟨rfl, rfl⟩
      go_wp2_with fail
      refine (neg_any b g0 g1 _).mono ?_
      rintro e w' ⟨rfl, rfl⟩
      go_wp2_with fail
      go_ret
      exact ⟨ret_int H.out.symm, rfl⟩
    · have H := Lib.hid (quo_other a b b1 hs)
      have hb' : (NegB a == NegB b) = false := by simpa using hs
      clear hs
      go_enter Tryd.func166, Tryd.ntmps166
      go_wp2_with fail
      refine (mag_any a h0 h1 _).mono ?_
      rintro e w' ⟨rfl, rfl⟩
      go_wp2_with fail
      refine (mag_any b g0 g1 _).mono ?_
      rintro e w' ⟨rfl, rfl⟩
      go_wp2_with fail
      refine (neg_any a h0 h1 _).mono ?_
      rintro e w' ⟨rfl, rfl⟩
      go_wp2_with fail
      refine (neg_any b g0 g1 _).mono ?_
      rintro e w' ⟨rfl, rfl⟩
      go_wp2_with fail
      go_ret
      exact ⟨ret_int H.out.symm, rfl⟩
theorem rem_any (a b : Int) (s : Bool) (h0 : 0 ≤ a) (h1 : a < 18446744073709551616) (g0 : 0 ≤ b) (g1 : b < 18446744073709551616) (w : World) :
    Calls Tryd.prog 167 #[.int .u64 a, .int .u64 b, .bool s] w fun e w' => e = .returned (.int .u64 (_root_.Go.Proofs.YtnifoghebnjonaaDoor.Rem a b s)) ∧ w = w' := by
  go_enter Tryd.func167, Tryd.ntmps167
  go_wp2_with fail
  refine (quo_any a b s h0 h1 g0 g1 _).mono ?_
  rintro e w' ⟨rfl, rfl⟩
  go_wp2_with fail
  go_ret
  exact ⟨rfl, rfl⟩

theorem rquo_any (a b : Int) (s : Bool) (h0 : 0 ≤ a) (h1 : a < 18446744073709551616) (g0 : 0 ≤ b) (g1 : b < 18446744073709551616) (w : World) :
    Calls Tryd.prog 108 #[.int .u64 a, .int .u64 b, .bool s] w fun e w' => e = .returned (.int .u64 (_root_.Go.Proofs.YtnifoghebnjonaaDoor.Quo a b s)) ∧ w = w' := by
  by_cases hb : b = 0
  · subst hb
    have H := Lib.hid (quo_0 a s)
    go_enter Tryd.func108, Tryd.ntmps108
    go_wp2_with fail
    go_ret
    exact ⟨ret_int H.out.symm, rfl⟩
  have b1 : 1 ≤ b := by omega
  have hb0 : (b == 0) = false := by rw [beq_eq_false_iff_ne]; exact hb
  clear hb
  cases s
  · have H := Lib.hid (quo_u a b b1)
    go_enter Tryd.func108, Tryd.ntmps108
    go_wp2_with fail
    go_ret
    exact ⟨ret_int H.out.symm, rfl⟩
  · obtain ⟨a0, a1⟩ := mag_range a h0 h1
    have m1 := mag_one b b1 g1
    have m2 := (mag_range b g0 g1).2
    have ha := bt63 a h0 h1
    have hb := bt63 b g0 g1
    cases na : NegB a
    · cases nb : NegB b
      · have H := Lib.hid (quo_same a b b1 (na.trans nb.symm))
        have MA := Lib.hid (mag_pos a na)
        have MB := Lib.hid (mag_pos b nb)
        have e1 : (Bt a 63 == 1) = false := by rw [ha, na]; rfl
        have e2 : (Bt b 63 == 1) = false := by rw [hb, nb]; rfl
        have e3 : (Bt a 63 == Bt b 63) = true := by rw [ha, hb, na, nb]; rfl
        rw [MA.out] at a0 a1
        rw [MB.out] at m1 m2
        clear ha hb na nb
        go_enter Tryd.func108, Tryd.ntmps108
        go_wp2_with (go_at_call 104; refine (rbit_any _ _ (by omega) (by omega) (by omega) (by omega) _).mono ?_; rintro e w' ⟨rfl, rfl⟩)
        go_ret
        exact ⟨ret_int (by rw [H.out, MA.out, MB.out]), rfl⟩
      · have H := Lib.hid (quo_other a b b1 (by rw [na, nb]; decide))
        have MA := Lib.hid (mag_pos a na)
        have MB := Lib.hid (mag_negw b nb)
        have e1 : (Bt a 63 == 1) = false := by rw [ha, na]; rfl
        have e2 : (Bt b 63 == 1) = true := by rw [hb, nb]; rfl
        have e3 : (Bt a 63 == Bt b 63) = false := by rw [ha, hb, na, nb]; rfl
        rw [MA.out] at a0 a1
        rw [MB.out] at m1 m2
        clear ha hb na nb
        go_enter Tryd.func108, Tryd.ntmps108
        go_wp2_with (go_at_call 104; refine (rbit_any _ _ (by omega) (by omega) (by omega) (by omega) _).mono ?_; rintro e w' ⟨rfl, rfl⟩)
        go_ret
        exact ⟨ret_int (by rw [H.out, MA.out, MB.out]), rfl⟩
    · cases nb : NegB b
      · have H := Lib.hid (quo_other a b b1 (by rw [na, nb]; decide))
        have MA := Lib.hid (mag_negw a na)
        have MB := Lib.hid (mag_pos b nb)
        have e1 : (Bt a 63 == 1) = true := by rw [ha, na]; rfl
        have e2 : (Bt b 63 == 1) = false := by rw [hb, nb]; rfl
        have e3 : (Bt a 63 == Bt b 63) = false := by rw [ha, hb, na, nb]; rfl
        rw [MA.out] at a0 a1
        rw [MB.out] at m1 m2
        clear ha hb na nb
        go_enter Tryd.func108, Tryd.ntmps108
        go_wp2_with (go_at_call 104; refine (rbit_any _ _ (by omega) (by omega) (by omega) (by omega) _).mono ?_; rintro e w' ⟨rfl, rfl⟩)
        go_ret
        exact ⟨ret_int (by rw [H.out, MA.out, MB.out]), rfl⟩
      · have H := Lib.hid (quo_same a b b1 (na.trans nb.symm))
        have MA := Lib.hid (mag_negw a na)
        have MB := Lib.hid (mag_negw b nb)
        have e1 : (Bt a 63 == 1) = true := by rw [ha, na]; rfl
        have e2 : (Bt b 63 == 1) = true := by rw [hb, nb]; rfl
        have e3 : (Bt a 63 == Bt b 63) = true := by rw [ha, hb, na, nb]; rfl
        rw [MA.out] at a0 a1
        rw [MB.out] at m1 m2
        clear ha hb na nb
        go_enter Tryd.func108, Tryd.ntmps108
        go_wp2_with (go_at_call 104; refine (rbit_any _ _ (by omega) (by omega) (by omega) (by omega) _).mono ?_; rintro e w' ⟨rfl, rfl⟩)
        go_ret
        exact ⟨ret_int (by rw [H.out, MA.out, MB.out]), rfl⟩
theorem rrem_any (a b : Int) (s : Bool) (h0 : 0 ≤ a) (h1 : a < 18446744073709551616) (g0 : 0 ≤ b) (g1 : b < 18446744073709551616) (w : World) :
    Calls Tryd.prog 109 #[.int .u64 a, .int .u64 b, .bool s] w fun e w' => e = .returned (.int .u64 (_root_.Go.Proofs.YtnifoghebnjonaaDoor.Rem a b s)) ∧ w = w' := by
  by_cases hb : b = 0
  · subst hb
    have H := Lib.hid (rem_0 a s h0 h1)
    go_enter Tryd.func109, Tryd.ntmps109
    go_wp2_with fail
    go_ret
    exact ⟨ret_int H.out.symm, rfl⟩
  have hb0 : (b == 0) = false := by rw [beq_eq_false_iff_ne]; exact hb
  clear hb
  go_enter Tryd.func109, Tryd.ntmps109
  go_wp2_with fail
  refine (rquo_any a b s h0 h1 g0 g1 _).mono ?_
  rintro e w' ⟨rfl, rfl⟩
  go_wp2_with fail
  go_ret
  exact ⟨rfl, rfl⟩
end Go.Proofs.YtnifoghebnjonaaDoor
