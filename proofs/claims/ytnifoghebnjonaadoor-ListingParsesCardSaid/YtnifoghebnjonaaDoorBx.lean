/-
  Proved here: What Field and Place of the reference answer for every word. Conditions: the arguments are words.
-/
import Derived.Test.YtnifoghebnjonaaDoorBw
namespace Go.Proofs.YtnifoghebnjonaaDoor
open Go.RowKit
set_option linter.unusedVariables false

theorem rfield_any (x low n : Int) (h0 : 0 ≤ x) (h1 : x < 18446744073709551616) (w : World) :
    Calls Tryd.prog 79 #[.int .u64 x, .int .i64 low, .int .i64 n] w fun e w' => e = .returned (.int .u64 (Fld x low n)) ∧ w = w' := by
  by_cases h : low < 0 ∨ 63 < low ∨ n < 1
  · have H : Hid (0 = Fld x low n) := by unfold Fld; rw [wid_no low n h, fld_zero]; rfl
    by_cases c1 : low < 0
    · clear h
      go_enter Tryd.func79, Tryd.ntmps79
      go_wp2
      go_ret
      exact ⟨ret_int H.out, rfl⟩
    by_cases c2 : 63 < low
    · clear h
      go_enter Tryd.func79, Tryd.ntmps79
      go_wp2
      go_ret
      exact ⟨ret_int H.out, rfl⟩
    have c3 : n < 1 := by omega
    clear h
    go_enter Tryd.func79, Tryd.ntmps79
    go_wp2
    go_ret
    exact ⟨ret_int H.out, rfl⟩
  · have g0 : 0 ≤ low := by omega
    have g1 : low ≤ 63 := by omega
    have g2 : 1 ≤ n := by omega
    have H := Lib.hid (wid_yes low n g0 g1 g2)
    clear h
    go_enter Tryd.func79, Tryd.ntmps79
    go_wp2
    go_loop [7, 8] (fun f i => ∃ k : Nat, k ≤ wid low n ∧ f = .int .u64 ((fld x.toNat low.toNat k : Nat) : Int) ∧ i = .int .i64 k) (fun _ i => wid low n - (intOf i).toNat)
    case atStart => exact ⟨0, Nat.zero_le _, val_int (by rw [fld_zero]; rfl), rfl⟩
    case round =>
      obtain ⟨k, hk, rfl, rfl⟩ := hrel
      by_cases hlt : k < wid low n
      · obtain ⟨b1, b3, b4⟩ := wid_lt _ _ _ hlt
        clear hk
        have b5 : (k : Int) < 64 - low := by omega
        go_wp2_with (first | (go_at_call 104; refine (rbit_any _ _ (by omega) (by omega) (by omega) (by omega) _).mono ?_; rintro e w' ⟨rfl, rfl⟩) | (go_at_call 112; refine (rpow_any _ (by omega) (by omega) _).mono ?_; rintro e w' ⟨rfl, rfl⟩))
        go_round
        case rel => exact ⟨k + 1, hlt, val_int (rfield_step x low k h0 h1 b1 b3), by go_num⟩
        case measure => simp [intOf]; omega
      · have hkk : k = wid low n := by omega
        subst hkk
        have H2 := H.out
        by_cases c : ((wid low n : Nat) : Int) < n
        · have d : ¬ ((wid low n : Nat) : Int) < 64 - low := by omega
          clear H2
          go_wp2
          go_ret
          exact ⟨rfl, rfl⟩
        · clear H2
          go_wp2
          go_ret
          exact ⟨rfl, rfl⟩

theorem rplace_any (x low n v : Int) (h0 : 0 ≤ x) (h1 : x < 18446744073709551616) (v0 : 0 ≤ v) (v1 : v < 18446744073709551616) (w : World) :
    Calls Tryd.prog 71 #[.int .u64 x, .int .i64 low, .int .i64 n, .int .u64 v] w fun e w' => e = .returned (.int .u64 (Plc x low n v)) ∧ w = w' := by
  by_cases h : low < 0 ∨ 63 < low ∨ n < 1
  · have H : Hid (x = Plc x low n v) := by unfold Plc; rw [wid_no low n h, plc_zero]; show x = _; omega
    by_cases c1 : low < 0
    · clear h
      go_enter Tryd.func71, Tryd.ntmps71
      go_wp2
      go_ret
      exact ⟨ret_int H.out, rfl⟩
    by_cases c2 : 63 < low
    · clear h
      go_enter Tryd.func71, Tryd.ntmps71
      go_wp2
      go_ret
      exact ⟨ret_int H.out, rfl⟩
    have c3 : n < 1 := by omega
    clear h
    go_enter Tryd.func71, Tryd.ntmps71
    go_wp2
    go_ret
    exact ⟨ret_int H.out, rfl⟩
  · have g0 : 0 ≤ low := by omega
    have g1 : low ≤ 63 := by omega
    have g2 : 1 ≤ n := by omega
    have H := Lib.hid (wid_yes low n g0 g1 g2)
    clear h
    go_enter Tryd.func71, Tryd.ntmps71
    go_wp2
    go_loop [0, 9] (fun f i => ∃ k : Nat, k ≤ wid low n ∧ f = .int .u64 ((plc x.toNat low.toNat k v.toNat : Nat) : Int) ∧ i = .int .i64 k) (fun _ i => wid low n - (intOf i).toNat)
    case atStart => exact ⟨0, Nat.zero_le _, val_int (by rw [plc_zero]; omega), rfl⟩
    case round =>
      obtain ⟨k, hk, rfl, rfl⟩ := hrel
      have y1 : (k : Int) + low ≤ 64 := by have := H.out; omega
      have y2 := rplace_ty x low v k h0 h1 g0 (by omega)
      clear y1
      by_cases hlt : k < wid low n
      · obtain ⟨b1, b3, b4⟩ := wid_lt _ _ _ hlt
        clear hk
        have b5 : (k : Int) < 64 - low := by omega
        go_wp2_with (first | (go_at_call 104; refine (rbit_any _ _ (by omega) (by omega) (by omega) (by omega) _).mono ?_; rintro e w' ⟨rfl, rfl⟩) | (go_at_call 112; refine (rpow_any _ (by omega) (by omega) _).mono ?_; rintro e w' ⟨rfl, rfl⟩))
        go_round
        case rel => exact ⟨k + 1, hlt, val_int (rplace_step x low v k h0 h1 v0 v1 b1 b3), by go_num⟩
        case measure => simp [intOf]; omega
      · have hkk : k = wid low n := by omega
        subst hkk
        have H2 := H.out
        by_cases c : ((wid low n : Nat) : Int) < n
        · have d : ¬ ((wid low n : Nat) : Int) < 64 - low := by omega
          clear H2
          go_wp2
          go_ret
          exact ⟨rfl, rfl⟩
        · clear H2
          go_wp2
          go_ret
          exact ⟨rfl, rfl⟩
end Go.Proofs.YtnifoghebnjonaaDoor
