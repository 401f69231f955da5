/-
  Proved here: What width, Field, Place of the code and Bit, power of the reference answer for every word. Conditions: the arguments are words.
-/
import Derived.Test.YtnooabgdcfegeaaDoorSaa
import Derived.Test.YtnooabgdcfegeaaDoorProg
import Derived.WalkKit
import Derived.WalkSpells
import Derived.WalkLawsBesides
import Derived.Deep.QuietTactic
import Derived.BigQuiet
import Derived.RowKit3
import Derived.Handy
import Derived.Lib.Hide
namespace Go.Proofs.YtnooabgdcfegeaaDoor
open Go.RowKit
set_option linter.unusedVariables false

def wid (low n : Int) : Nat := if low < 0 ∨ 63 < low ∨ n < 1 then 0 else (min n (64 - low)).toNat
theorem wid_no (low n : Int) (h : low < 0 ∨ 63 < low ∨ n < 1) : wid low n = 0 := if_pos h
theorem wid_yes (low n : Int) (h0 : 0 ≤ low) (h1 : low ≤ 63) (h2 : 1 ≤ n) : (wid low n : Int) = min n (64 - low) := by
  unfold wid; rw [if_neg (by omega)]; omega
/-- A number below the width: the field may be. -/
theorem wid_lt (low n : Int) (k : Nat) (h : k < wid low n) : 0 ≤ low ∧ low + k ≤ 63 ∧ (k : Int) < n := by
  unfold wid at h; split at h <;> omega
def Fld (x low n : Int) : Int := ((fld x.toNat low.toNat (wid low n) : Nat) : Int)
def Plc (x low n v : Int) : Int := ((plc x.toNat low.toNat (wid low n) v.toNat : Nat) : Int)
theorem ret_int {k : IntKind} {a b : Int} (h : a = b) : Ending.returned (.int k a) = .returned (.int k b) := by rw [h]
theorem val_int {k : IntKind} {a b : Int} (h : a = b) : Value.int k a = .int k b := by rw [h]

theorem width_any (low n : Int) (w : World) :
    Calls Tryd.prog 89 #[.int .i64 low, .int .i64 n] w fun e w' => e = .returned (.int .i64 (wid low n)) ∧ w = w' := by
  by_cases h : low < 0 ∨ 63 < low ∨ n < 1
  · have H := Lib.hid (wid_no low n h)
    rcases h with h | h | h
    · go_enter Tryd.func89, Tryd.ntmps89
      go_wp2
      go_ret
      exact ⟨ret_int (by rw [H.out]; rfl), rfl⟩
    · go_enter Tryd.func89, Tryd.ntmps89
      go_wp2
      go_ret
      exact ⟨ret_int (by rw [H.out]; rfl), rfl⟩
    · by_cases h1 : low < 0
      · go_enter Tryd.func89, Tryd.ntmps89
        go_wp2
        go_ret
        exact ⟨ret_int (by rw [H.out]; rfl), rfl⟩
      by_cases h2 : 63 < low
      · go_enter Tryd.func89, Tryd.ntmps89
        go_wp2
        go_ret
        exact ⟨ret_int (by rw [H.out]; rfl), rfl⟩
      go_enter Tryd.func89, Tryd.ntmps89
      go_wp2
      go_ret
      exact ⟨ret_int (by rw [H.out]; rfl), rfl⟩
  · have H := Lib.hid (wid_yes low n (by omega) (by omega) (by omega))
    have k1 : 0 ≤ low := by omega
    have k2 : low ≤ 63 := by omega
    have k3 : 1 ≤ n := by omega
    clear h
    go_enter Tryd.func89, Tryd.ntmps89
    go_wp2
    all_goals
      go_ret
      exact ⟨ret_int (by rw [H.out]; omega), rfl⟩

theorem field_any (x low n : Int) (h0 : 0 ≤ x) (h1 : x < 18446744073709551616) (w : World) :
    Calls Tryd.prog 90 #[.int .u64 x, .int .i64 low, .int .i64 n] w fun e w' => e = .returned (.int .u64 (Fld x low n)) ∧ w = w' := by
  go_enter Tryd.func90, Tryd.ntmps90
  go_wp2_with (go_at_call 89; refine (width_any _ _ _).mono ?_; rintro e w' ⟨rfl, rfl⟩)
  go_loop [7, 12] (fun f i => ∃ k : Nat, k ≤ wid low n ∧ f = .int .u64 ((fld x.toNat low.toNat k : Nat) : Int) ∧ i = .int .i64 k) (fun _ i => wid low n - (intOf i).toNat)
  case atStart => exact ⟨0, Nat.zero_le _, val_int (by rw [fld_zero]; rfl), rfl⟩
  case round =>
    obtain ⟨k, hk, rfl, rfl⟩ := hrel
    by_cases hlt : k < wid low n
    · obtain ⟨b1, b3, b4⟩ := wid_lt _ _ _ hlt
      have b2 : low ≤ 63 := by omega
      clear hk
      go_wp2
      go_round
      case rel => exact ⟨k + 1, hlt, val_int (field_step x low k h0 h1 b1 b3), by go_num⟩
      case measure => simp [intOf]; omega
    · have hkk : k = wid low n := by omega
      subst hkk
      go_wp2
      go_ret
      exact ⟨rfl, rfl⟩

theorem place_any (x low n v : Int) (h0 : 0 ≤ x) (h1 : x < 18446744073709551616) (v0 : 0 ≤ v) (v1 : v < 18446744073709551616) (w : World) :
    Calls Tryd.prog 80 #[.int .u64 x, .int .i64 low, .int .i64 n, .int .u64 v] w fun e w' => e = .returned (.int .u64 (Plc x low n v)) ∧ ∃ q, w' = w.drewN q := by
  go_enter Tryd.func80, Tryd.ntmps80
  go_wp2_with (go_at_call 89; refine (width_any _ _ _).mono ?_; rintro e w' ⟨rfl, rfl⟩)
  go_loopw [0, 14] (fun f i wr => (∃ k : Nat, k ≤ wid low n ∧ f = .int .u64 ((plc x.toNat low.toNat k v.toNat : Nat) : Int) ∧ i = .int .i64 k) ∧ ∃ q, wr = w.drewN q) (fun _ i _ => wid low n - (intOf i).toNat)
  case atStart => exact ⟨⟨0, Nat.zero_le _, val_int (by rw [plc_zero]; omega), rfl⟩, 0, rfl⟩
  case round =>
    obtain ⟨⟨k, hk, rfl, rfl⟩, q, rfl⟩ := hrel
    by_cases hlt : k < wid low n
    · obtain ⟨b1, b3, b4⟩ := wid_lt _ _ _ hlt
      have b2 : low ≤ 63 := by omega
      clear hk
      go_wp2
      go_quiet (fail)
      go_wp2
      go_roundw
      case rel => exact ⟨⟨k + 1, hlt, val_int (place_step x low v k h0 h1 v0 v1 b1 b3), by go_num⟩, _, rfl⟩
      case measure => simp [intOf]; omega
    · have hkk : k = wid low n := by omega
      subst hkk
      go_wp2
      go_ret
      exact ⟨rfl, _, rfl⟩

def hv (x k : Nat) : Nat := x / 2 ^ k
end Go.Proofs.YtnooabgdcfegeaaDoor
