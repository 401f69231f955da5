/-
  Proved here: What High of the code and of the reference answers. Conditions: the arguments are words.
-/
import Derived.Test.YtnifoghebnjonaaDoorBq
import Derived.Test.YtnifoghebnjonaaDoorHa
namespace Go.Proofs.YtnifoghebnjonaaDoor
open Go.RowKit
set_option linter.unusedVariables false
theorem prods_any (a b : Int) (h0 : 0 ≤ a) (h1 : a < 18446744073709551616) (g0 : 0 ≤ b) (g1 : b < 18446744073709551616) (w : World) :
    Calls Tryd.prog 185 #[.int .u64 a, .int .u64 b] w fun e w' => e = .returned (.agg #[.int .u64 (P0 a b), .int .u64 (P1 a b), .int .u64 (P2 a b), .int .u64 (PH3 a b)]) ∧ w' = w.alloc (.cells #[.int .u64 (P0 a b), .int .u64 (P1 a b), .int .u64 (P2 a b), .int .u64 (PH3 a b)] 166) := by
  obtain ⟨a0, a1⟩ := lo_range a; obtain ⟨a2, a3⟩ := hi_range a h0 h1
  obtain ⟨b0, b1⟩ := lo_range b; obtain ⟨b2, b3⟩ := hi_range b g0 g1
  have e0 := Lib.hid (wrap_mul _ _ a0 a1 b0 b1)
  have e1 := Lib.hid (wrap_mul _ _ a0 a1 b2 b3)
  have e2 := Lib.hid (wrap_mul _ _ a2 a3 b0 b1)
  have e3 := Lib.hid (wrap_mul _ _ a2 a3 b2 b3)
  clear a0 a1 a2 a3 b0 b1 b2 b3
  have f0 := Lib.hid (and_lo a h0 h1)
  have f1 := Lib.hid (and_lo b g0 g1)
  go_enter Tryd.func185, Tryd.ntmps185
  go_wp2
  rw [f0.out, f1.out]
  rw [show a / 4294967296 = Hi a from rfl, show b / 4294967296 = Hi b from rfl, e0.out, e1.out, e2.out, e3.out]
  exact bodyPost_ret (v := .agg #[.int .u64 (P0 a b), .int .u64 (P1 a b), .int .u64 (P2 a b), .int .u64 (PH3 a b)]) (by simp [results, Tryd.results185, go_sem]; exact ⟨rfl, rfl, rfl, rfl⟩) rfl ⟨rfl, rfl⟩
theorem highU_any (a b : Int) (h0 : 0 ≤ a) (h1 : a < 18446744073709551616) (g0 : 0 ≤ b) (g1 : b < 18446744073709551616) (w : World) :
    Calls Tryd.prog 178 #[.int .u64 a, .int .u64 b] w fun e w' => e = .returned (.int .u64 (Hu a b)) ∧ Grown w w' := by
  go_enter Tryd.func178, Tryd.ntmps178
  go_wp2_with (go_at_call 185; refine (prods_any a b h0 h1 g0 g1 _).mono ?_; rintro e w' ⟨rfl, rfl⟩)
  rw [hu_spell a b h0 h1 g0 g1]
  go_ret
  exact ⟨rfl, ((Grown.refl _).alloc _ _).alloc _ _⟩
theorem rhigh_any (a b : Int) (h0 : 0 ≤ a) (h1 : a < 18446744073709551616) (g0 : 0 ≤ b) (g1 : b < 18446744073709551616) (w : World) :
    Calls Tryd.prog 149 #[.int .u64 a, .int .u64 b] w fun e w' => e = .returned (.int .u64 (Hu a b)) ∧ w = w' := by
  go_enter Tryd.func149, Tryd.ntmps149
  go_wp2
  go_loop [5, 6, 7] (fun h l i => ∃ k : Nat, (k : Int) ≤ 64 ∧ h = .int .u64 (HH a b k) ∧ l = .int .u64 (LL a b k) ∧ i = .int .i64 ((k : Int) - 1)) (fun _ _ i => (intOf i + 1).toNat)
  case atStart => exact ⟨64, by decide, val_int (hh_top a b g0 g1).symm, val_int (ll_top a b g0 g1).symm, rfl⟩
  case round =>
    obtain ⟨k, hk, rfl, rfl, rfl⟩ := hrel
    obtain ⟨l0, l1⟩ := ll_word a b k
    cases k with
    | zero =>
      go_wp2
      go_ret
      exact ⟨ret_int (hh_end a b g0), rfl⟩
    | succ k =>
      rcases bt_01 b (k : Int) with ⟨t0, t1⟩
      by_cases hb : Bt b (k : Int) = 0
      · have HB := Lib.hid (up_zero a b k h0 h1 g0 g1 hb)
        have e1 : (Bt b (k : Int) == 1) = false := by rw [hb]; rfl
        clear hb t0 t1
        go_wp2_with (go_at_call 104; refine (rbit_any _ _ (by omega) (by omega) (by omega) (by omega) _).mono ?_; rintro e w' ⟨rfl, rfl⟩)
        go_round
        case rel => exact ⟨k, by omega, val_int HB.out.1, val_int HB.out.2, rfl⟩
        case measure => simp [intOf]
      · have hb1 : Bt b (k : Int) = 1 := by omega
        have e1 : (Bt b (k : Int) == 1) = true := by rw [hb1]; rfl
        by_cases hc : IntKind.u64.wrap (IntKind.u64.wrap (2 * LL a b (k + 1)) + a) < IntKind.u64.wrap (2 * LL a b (k + 1))
        · have HB := Lib.hid (up_carry a b k h0 h1 g0 g1 hb1 hc)
          clear hb hb1 t0 t1
          go_wp2_with (go_at_call 104; refine (rbit_any _ _ (by omega) (by omega) (by omega) (by omega) _).mono ?_; rintro e w' ⟨rfl, rfl⟩)
          go_round
          case rel => exact ⟨k, by omega, val_int HB.out.1, val_int HB.out.2, rfl⟩
          case measure => simp [intOf]
        · have HB := Lib.hid (up_one a b k h0 h1 g0 g1 hb1 hc)
          clear hb hb1 t0 t1
          go_wp2_with (go_at_call 104; refine (rbit_any _ _ (by omega) (by omega) (by omega) (by omega) _).mono ?_; rintro e w' ⟨rfl, rfl⟩)
          go_round
          case rel => exact ⟨k, by omega, val_int HB.out.1, val_int HB.out.2, rfl⟩
          case measure => simp [intOf]

theorem high_any (a b : Int) (sa sb : Bool) (h0 : 0 ≤ a) (h1 : a < 18446744073709551616) (g0 : 0 ≤ b) (g1 : b < 18446744073709551616) (w : World) :
    Calls Tryd.prog 165 #[.int .u64 a, .int .u64 b, .bool sa, .bool sb] w fun e w' => e = .returned (.int .u64 (Hgh a b sa sb)) ∧ Grown w w' := by
  have H : Hid (Hgh a b sa sb = Less (sb && NegB b) (Less (sa && NegB a) (Hu a b) b) a) := Lib.hid rfl
  cases sa <;> cases sb <;> cases na : NegB a <;> cases nb : NegB b <;> rw [na, nb] at H
  all_goals
    go_enter Tryd.func165, Tryd.ntmps165
    go_wp2_with fail
    refine (highU_any a b h0 h1 g0 g1 _).mono ?_
    rintro e w1 ⟨rfl, hg⟩
    go_wp2_with (go_at_call 179; refine (neg_any _ (by omega) (by omega) _).mono ?_; rintro e w' ⟨rfl, rfl⟩)
    go_ret
    exact ⟨ret_int H.out.symm, hg⟩
theorem rHigh_any (a b : Int) (sa sb : Bool) (h0 : 0 ≤ a) (h1 : a < 18446744073709551616) (g0 : 0 ≤ b) (g1 : b < 18446744073709551616) (w : World) :
    Calls Tryd.prog 110 #[.int .u64 a, .int .u64 b, .bool sa, .bool sb] w fun e w' => e = .returned (.int .u64 (Hgh a b sa sb)) ∧ w = w' := by
  have H : Hid (Hgh a b sa sb = Less (sb && NegB b) (Less (sa && NegB a) (Hu a b) b) a) := Lib.hid rfl
  have ha := bt63 a h0 h1
  have hb := bt63 b g0 g1
  have e1 : (Bt a 63 == 1) = NegB a := by rw [ha]; cases NegB a <;> rfl
  have e2 : (Bt b 63 == 1) = NegB b := by rw [hb]; cases NegB b <;> rfl
  clear ha hb
  cases sa <;> cases sb <;> cases na : NegB a <;> cases nb : NegB b <;> rw [na, nb] at H <;> rw [na] at e1 <;> rw [nb] at e2
  all_goals
    clear na nb
    go_enter Tryd.func110, Tryd.ntmps110
    go_wp2_with fail
    refine (rhigh_any a b h0 h1 g0 g1 _).mono ?_
    rintro e w1 ⟨rfl, rfl⟩
    go_wp2_with (go_at_call 104; refine (rbit_any _ _ (by omega) (by omega) (by omega) (by omega) _).mono ?_; rintro e w' ⟨rfl, rfl⟩)
    go_ret
    exact ⟨ret_int H.out.symm, rfl⟩
end Go.Proofs.YtnifoghebnjonaaDoor