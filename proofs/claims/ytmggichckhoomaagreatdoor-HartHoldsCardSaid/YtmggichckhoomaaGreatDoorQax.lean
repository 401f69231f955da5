/-
  Proved here: what alu.Value of the code gives, operation by operation. Conditions: the numbers are words; the table of codes holds what its text lays.
-/
import Derived.Test.YtmggichckhoomaaGreatDoorQaw
namespace Go.Proofs.YtmggichckhoomaaGreatDoor
open Go.RowKit
set_option linter.unusedVariables false
theorem sgn64 (x : Int) : Sgn x 64 = x := sgn_no x 64 (by decide)
theorem imm_any (op : Int) (w : World) : Calls Tryz.prog 91 #[.int .i64 op] w fun e w' => e = .returned (.bool (ImmB op)) ∧ w = w' := by
  by_cases a1 : 22 ≤ op
  · by_cases a2 : op ≤ 30
    · have H : Hid (ImmB op = true) := Lib.hid (by unfold ImmB; simp; omega)
      go_enter Tryz.func91, Tryz.ntmps91
      go_wp2
      go_ret
      exact ⟨bret H.out.symm, rfl⟩
    · by_cases a3 : 41 ≤ op
      · by_cases a4 : op ≤ 44
        · have H : Hid (ImmB op = true) := Lib.hid (by unfold ImmB; simp; omega)
          go_enter Tryz.func91, Tryz.ntmps91
          go_wp2
          go_ret
          exact ⟨bret H.out.symm, rfl⟩
        · have H : Hid (ImmB op = false) := Lib.hid (by unfold ImmB; simp; omega)
          go_enter Tryz.func91, Tryz.ntmps91
          go_wp2
          go_ret
          exact ⟨bret H.out.symm, rfl⟩
      · have H : Hid (ImmB op = false) := Lib.hid (by unfold ImmB; simp; omega)
        go_enter Tryz.func91, Tryz.ntmps91
        go_wp2
        go_ret
        exact ⟨bret H.out.symm, rfl⟩
  · have H : Hid (ImmB op = false) := Lib.hid (by unfold ImmB; simp; omega)
    have a3 : ¬ 41 ≤ op := by omega
    go_enter Tryz.func91, Tryz.ntmps91
    go_wp2
    go_ret
    exact ⟨bret H.out.symm, rfl⟩
theorem in_wrap (x : Int) : InU (IntKind.u64.wrap x) := by unfold InU; rw [IntKind.wrap_u64]; omega
theorem res_sum (x y : Int) (q0 : InU x) (q1 : InU y) : InU (IntKind.u64.wrap (x + y)) := in_wrap _
theorem res_difference (x y : Int) (q0 : InU x) (q1 : InU y) : InU (IntKind.u64.wrap (x - y)) := in_wrap _
theorem res_product (x y : Int) (q0 : InU x) (q1 : InU y) : InU (IntKind.u64.wrap (x * y)) := in_wrap _
theorem lessBitI (a b n : Int) (w : World) : Calls Tryz.prog 137 #[pairV a b n] w fun e w' => e = .returned (.int .u64 (BitI (LtS a b))) ∧ Nb w w' := lessBit_any a b n w
theorem belowBitI (a b n : Int) (w : World) : Calls Tryz.prog 138 #[pairV a b n] w fun e w' => e = .returned (.int .u64 (BitI (LtU a b))) ∧ Nb w w' := belowBit_any a b n w
theorem sarI64 (a b : Int) (B : Nat) (h0 : 0 ≤ a) (h1 : a < 18446744073709551616) (g0 : 0 ≤ b) (g1 : b < 18446744073709551616) (w : World) (hb : w.heap[B]? = some (.cells #[.int .u64 a, .int .u64 b, .int .i64 64] 131 (0, 0))) :
    Calls Tryz.prog 136 #[.pointer (some ⟨B, 0, none⟩)] w fun e w' => e = .returned (.int .u64 (Sar a b 64)) ∧ Nb w w' := sar64 a b B h0 h1 g0 g1 w hb
theorem sarI32 (a b : Int) (B : Nat) (h0 : 0 ≤ a) (h1 : a < 18446744073709551616) (g0 : 0 ≤ b) (g1 : b < 18446744073709551616) (w : World) (hb : w.heap[B]? = some (.cells #[.int .u64 a, .int .u64 b, .int .i64 32] 131 (0, 0))) :
    Calls Tryz.prog 136 #[.pointer (some ⟨B, 0, none⟩)] w fun e w' => e = .returned (.int .u64 (Sar a b 32)) ∧ Nb w w' := sar32 a b B h0 h1 g0 g1 w hb
theorem in_and (x y : Int) (q0 : InU x) (q1 : InU y) : InU (bits .and .u64 x y) := by
  obtain ⟨a, b⟩ := q0; obtain ⟨c, d⟩ := q1
  rw [u64_and x y a b c d]
  exact ⟨by omega, by have := Nat.and_lt_two_pow (n := 64) x.toNat (y := y.toNat) (by omega); omega⟩
theorem in_or (x y : Int) (q0 : InU x) (q1 : InU y) : InU (bits .or .u64 x y) := by
  obtain ⟨a, b⟩ := q0; obtain ⟨c, d⟩ := q1
  rw [u64_or x y a b c d]
  exact ⟨by omega, by have := Nat.or_lt_two_pow (n := 64) (x := x.toNat) (y := y.toNat) (by omega) (by omega); omega⟩
theorem in_xor (x y : Int) (q0 : InU x) (q1 : InU y) : InU (bits .xor .u64 x y) := by
  obtain ⟨a, b⟩ := q0; obtain ⟨c, d⟩ := q1
  rw [u64_xor x y a b c d]
  exact ⟨by omega, by have := Nat.xor_lt_two_pow (n := 64) (x := x.toNat) (y := y.toNat) (by omega) (by omega); omega⟩
theorem res_and (x y : Int) (q0 : InU x) (q1 : InU y) : InU (bits .and .u64 x y) := in_and x y q0 q1
theorem res_or (x y : Int) (q0 : InU x) (q1 : InU y) : InU (bits .or .u64 x y) := in_or x y q0 q1
theorem res_xor (x y : Int) (q0 : InU x) (q1 : InU y) : InU (bits .xor .u64 x y) := in_xor x y q0 q1
theorem in_bit (c : Bool) : InU (if c = true then 1 else 0) := by cases c <;> exact ⟨by decide, by decide⟩
theorem res_lessBit (x y : Int) (q0 : InU x) (q1 : InU y) : InU (BitI (LtS x y)) := in_bit _
theorem res_belowBit (x y : Int) (q0 : InU x) (q1 : InU y) : InU (BitI (LtU x y)) := in_bit _
theorem res_highSigned (x y : Int) (q0 : InU x) (q1 : InU y) : InU (Hgh x y true true) := hgh_word _ _ _ _ q0.1 q0.2 q1.1 q1.2
theorem res_highMixed (x y : Int) (q0 : InU x) (q1 : InU y) : InU (Hgh x y true false) := hgh_word _ _ _ _ q0.1 q0.2 q1.1 q1.2
theorem res_high (x y : Int) (q0 : InU x) (q1 : InU y) : InU (Hgh x y false false) := hgh_word _ _ _ _ q0.1 q0.2 q1.1 q1.2
theorem res_quoSigned (x y : Int) (q0 : InU x) (q1 : InU y) : InU (_root_.Go.Proofs.YtmggichckhoomaaGreatDoor.Quo x y true) := quo_word _ _ _ q0.1 q0.2 q1.1 q1.2
theorem res_quo (x y : Int) (q0 : InU x) (q1 : InU y) : InU (_root_.Go.Proofs.YtmggichckhoomaaGreatDoor.Quo x y false) := quo_word _ _ _ q0.1 q0.2 q1.1 q1.2
theorem res_remSigned (x y : Int) (q0 : InU x) (q1 : InU y) : InU (_root_.Go.Proofs.YtmggichckhoomaaGreatDoor.Rem x y true) := in_wrap _
theorem res_rem (x y : Int) (q0 : InU x) (q1 : InU y) : InU (_root_.Go.Proofs.YtmggichckhoomaaGreatDoor.Rem x y false) := in_wrap _
theorem res_shl (x y n : Int) (q0 : InU x) (q1 : InU y) : InU (IntKind.u64.wrap (x * 2 ^ (y % n).toNat)) := in_wrap _
theorem res_sar (x y n : Int) (q0 : InU x) (q1 : InU y) : InU (Sar x y n) := in_wrap _
theorem res_shr (x y n : Int) (q0 : InU x) (q1 : InU y) : InU (x / 2 ^ (y % n).toNat) := by
  obtain ⟨a, b⟩ := q0
  have h : (0 : Int) < 2 ^ (y % n).toNat := Int.pow_pos (by decide)
  exact ⟨Int.ediv_nonneg a (Int.le_of_lt h), Int.lt_of_le_of_lt (Int.ediv_le_self _ a) b⟩
end Go.Proofs.YtmggichckhoomaaGreatDoor
