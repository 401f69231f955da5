/-
  Proved here: of the reference: run, skip, number, sign. Conditions: the slice holds the source.
-/
import Derived.Test.YticifolljhplmaaKi
namespace Go.Proofs.Yticifolljhplmaa
open Go.RowKit
set_option linter.unusedVariables false
set_option linter.unusedSimpArgs false
set_option maxRecDepth 100000
set_option maxHeartbeats 2000000
theorem run_nam (A : Option Addr) (cap : Nat) (xs : Bs) (at_ : Nat) (hx : xs.length ≤ 9223372036854775807) (ha : at_ ≤ xs.length) (w : World) (hS : SrcB w A xs) :
    Calls Try.prog 46 #[.slice A xs.length cap, .int .i64 at_, .bool false] w fun e w' => e = .returned (.int .i64 (nmN (xs.drop at_) false : Nat)) ∧ w = w' := by
  obtain ⟨N, hN⟩ : ∃ N, nmN (xs.drop at_) false = N := ⟨_, rfl⟩
  rw [hN]
  have hN' := Lib.hid (show 0 + nmN (xs.drop (at_ + 0)) false = N by rw [Nat.zero_add]; exact hN)
  have hS' := Lib.hid hS
  clear hN hS
  go_enter Try.func46, Try.ntmps46
  go_wp2_with fail
  go_loopw [7] (fun i wr => ∃ k : Nat, at_ + k ≤ xs.length ∧ i = .int .i64 k ∧ w = wr ∧ Hid (k + nmN (xs.drop (at_ + k)) false = N)) (fun i _ => xs.length - at_ - (intOf i).toNat)
  case atStart => exact ⟨0, ha, rfl, rfl, hN'⟩
  case round =>
    obtain ⟨k, hk, rfl, rfl, hq⟩ := hrel
    by_cases hlt : at_ + k < xs.length
    · obtain ⟨ad, hA, hc⟩ := hS'.out.cell (at_ + k) hlt
      subst hA
      have hd := hq.out
      rw [nmN_drop xs (at_ + k) hlt, nam_cases] at hd
      have hlt2 : (at_ : Int) + (k : Int) < (xs.length : Int) := by omega
      have hl1 := rletter_any (bI xs[at_ + k]) w
      have hd1 := rdigit_any (bI xs[at_ + k]) w
      generalize bI xs[at_ + k] = c at *
      cases h2 : digI c with
      | true =>
        rw [h2] at hd hd1
        have hN := Lib.hid (show (k + 1) + nmN (xs.drop (at_ + (k + 1))) false = N by simp at hd; rw [← Nat.add_assoc at_ k 1]; omega)
        have hd1 := Lib.hid hd1
        clear hd hl1 hq h2
        go_wp2_with (go_at_call 47; refine (hd1.out).mono ?_; rintro e w1 ⟨rfl, rfl⟩)
        exact ⟨⟨k + 1, by omega, (by first | rfl | trivial), (by first | rfl | trivial), hN⟩, by simp [intOf] <;> omega⟩
      | false =>
        rw [h2] at hd hd1
        cases h1 : ltrI c with
        | true =>
          rw [h1] at hd hl1
          have hN := Lib.hid (show (k + 1) + nmN (xs.drop (at_ + (k + 1))) false = N by simp at hd; rw [← Nat.add_assoc at_ k 1]; omega)
          have hd1 := Lib.hid hd1
          have hl1 := Lib.hid hl1
          clear hd hq h1 h2
          go_wp2_with (first | (go_at_call 45; refine (hl1.out).mono ?_; rintro e w1 ⟨rfl, rfl⟩) | (go_at_call 47; refine (hd1.out).mono ?_; rintro e w1 ⟨rfl, rfl⟩))
          exact ⟨⟨k + 1, by omega, (by first | rfl | trivial), (by first | rfl | trivial), hN⟩, by simp [intOf] <;> omega⟩
        | false =>
          rw [h1] at hd hl1
          have hN : N = k := by simp at hd; omega
          subst hN
          have hd1 := Lib.hid hd1
          have hl1 := Lib.hid hl1
          clear hd hq h1 h2
          go_wp2_with (first | (go_at_call 45; refine (hl1.out).mono ?_; rintro e w1 ⟨rfl, rfl⟩) | (go_at_call 47; refine (hd1.out).mono ?_; rintro e w1 ⟨rfl, rfl⟩))
          go_ret
          exact ⟨rfl, rfl⟩
    · have hN : N = k := by have := hq.out; rw [List.drop_eq_nil_of_le (by omega)] at this; simp [nmN] at this; omega
      have hlt2 : ¬ (at_ : Int) + (k : Int) < (xs.length : Int) := by omega
      subst hN
      clear hq
      go_wp2_with fail
      go_ret
      exact ⟨rfl, rfl⟩
theorem run_dig (A : Option Addr) (cap : Nat) (xs : Bs) (at_ : Nat) (hx : xs.length ≤ 9223372036854775807) (ha : at_ ≤ xs.length) (w : World) (hS : SrcB w A xs) :
    Calls Try.prog 46 #[.slice A xs.length cap, .int .i64 at_, .bool true] w fun e w' => e = .returned (.int .i64 (dgN (xs.drop at_) : Nat)) ∧ w = w' := by
  obtain ⟨N, hN⟩ : ∃ N, dgN (xs.drop at_) = N := ⟨_, rfl⟩
  rw [hN]
  have hN' := Lib.hid (show 0 + dgN (xs.drop (at_ + 0)) = N by rw [Nat.zero_add]; exact hN)
  have hS' := Lib.hid hS
  clear hN hS
  go_enter Try.func46, Try.ntmps46
  go_wp2_with fail
  go_loopw [7] (fun i wr => ∃ k : Nat, at_ + k ≤ xs.length ∧ i = .int .i64 k ∧ w = wr ∧ Hid (k + dgN (xs.drop (at_ + k)) = N)) (fun i _ => xs.length - at_ - (intOf i).toNat)
  case atStart => exact ⟨0, ha, rfl, rfl, hN'⟩
  case round =>
    obtain ⟨k, hk, rfl, rfl, hq⟩ := hrel
    by_cases hlt : at_ + k < xs.length
    · obtain ⟨ad, hA, hc⟩ := hS'.out.cell (at_ + k) hlt
      subst hA
      have hd := hq.out
      rw [dgN_drop xs (at_ + k) hlt] at hd
      have hlt2 : (at_ : Int) + (k : Int) < (xs.length : Int) := by omega
      have hd1 := rdigit_any (bI xs[at_ + k]) w
      generalize bI xs[at_ + k] = c at *
      cases h2 : digI c with
      | true =>
        rw [h2] at hd hd1
        have hN := Lib.hid (show (k + 1) + dgN (xs.drop (at_ + (k + 1))) = N by simp at hd; rw [← Nat.add_assoc at_ k 1]; omega)
        have hd1 := Lib.hid hd1
        clear hd hq h2
        go_wp2_with (go_at_call 47; refine (hd1.out).mono ?_; rintro e w1 ⟨rfl, rfl⟩)
        exact ⟨⟨k + 1, by omega, (by first | rfl | trivial), (by first | rfl | trivial), hN⟩, by simp [intOf] <;> omega⟩
      | false =>
        rw [h2] at hd hd1
        have hN : N = k := by simp at hd; omega
        subst hN
        have hd1 := Lib.hid hd1
        clear hd hq h2
        go_wp2_with (go_at_call 47; refine (hd1.out).mono ?_; rintro e w1 ⟨rfl, rfl⟩)
        go_ret
        exact ⟨rfl, rfl⟩
    · have hN : N = k := by have := hq.out; rw [List.drop_eq_nil_of_le (by omega)] at this; simp [dgN] at this; omega
      have hlt2 : ¬ (at_ : Int) + (k : Int) < (xs.length : Int) := by omega
      subst hN
      clear hq
      go_wp2_with fail
      go_ret
      exact ⟨rfl, rfl⟩
theorem skip_any (A : Option Addr) (cap : Nat) (xs : Bs) (at_ : Nat) (hx : xs.length ≤ 9223372036854775807) (ha : at_ ≤ xs.length) (w : World) (hS : SrcB w A xs) :
    Calls Try.prog 32 #[.slice A xs.length cap, .int .i64 at_] w fun e w' => e = .returned (.int .i64 ((at_ + btw (xs.drop at_) false : Nat) : Int)) ∧ w = w' := by
  obtain ⟨N, hN⟩ : ∃ N, at_ + btw (xs.drop at_) false = N := ⟨_, rfl⟩
  rw [hN]
  have hN' := Lib.hid hN
  have hS' := Lib.hid hS
  clear hN hS
  go_enter Try.func32, Try.ntmps32
  go_wp2_with fail
  go_loopw [1, 5, 6] (fun i r _ wr => ∃ (k : Nat) (rm : Bool), k ≤ xs.length ∧ i = .int .i64 k ∧ r = .bool rm ∧ w = wr ∧ Hid (k + btw (xs.drop k) rm = N)) (fun i _ _ _ => xs.length - (intOf i).toNat)
  case atStart => exact ⟨at_, false, ha, rfl, rfl, rfl, hN'⟩
  case round =>
    obtain ⟨k, rm, hk, rfl, rfl, rfl, hq⟩ := hrel
    by_cases hlt : k < xs.length
    · obtain ⟨ad, hA, hc⟩ := hS'.out.cell k hlt
      subst hA
      have hd := hq.out
      rw [btw_drop xs k hlt rm] at hd
      have hlt2 : (k : Int) < (xs.length : Int) := by omega
      generalize bI xs[k] = c at *
      have hcs : c = 10 ∨ c = 35 ∨ c = 32 ∨ c = 9 ∨ c = 13 ∨ (¬ c = 10 ∧ ¬ c = 35 ∧ ¬ c = 32 ∧ ¬ c = 9 ∧ ¬ c = 13) := by omega
      clear hq
      rcases hcs with rfl | rfl | rfl | rfl | rfl | ⟨c1, c2, c3, c4, c5⟩
      · have hN := Lib.hid (show k + 1 + btw (xs.drop (k + 1)) false = N by simp at hd; omega)
        clear hd
        go_wp2_with fail
        exact ⟨⟨k + 1, false, by omega, (by first | rfl | trivial), (by first | rfl | trivial), (by first | rfl | trivial), hN⟩, by simp [intOf] <;> omega⟩
      · have hN := Lib.hid (show k + 1 + btw (xs.drop (k + 1)) true = N by simp at hd; omega)
        clear hd
        go_wp2_with fail
        exact ⟨⟨k + 1, true, by omega, (by first | rfl | trivial), (by first | rfl | trivial), (by first | rfl | trivial), hN⟩, by simp [intOf] <;> omega⟩
      all_goals
        cases rm with
        | true =>
          have hN := Lib.hid (show k + 1 + btw (xs.drop (k + 1)) true = N by (first | simp [c1, c2] at hd | simp at hd); omega)
          clear hd
          go_wp2_with fail
          exact ⟨⟨k + 1, true, by omega, (by first | rfl | trivial), (by first | rfl | trivial), (by first | rfl | trivial), hN⟩, by simp [intOf] <;> omega⟩
        | false => ?_
      · have hN := Lib.hid (show k + 1 + btw (xs.drop (k + 1)) false = N by simp at hd; omega)
        clear hd
        go_wp2_with fail
        exact ⟨⟨k + 1, false, by omega, (by first | rfl | trivial), (by first | rfl | trivial), (by first | rfl | trivial), hN⟩, by simp [intOf] <;> omega⟩
      · have hN := Lib.hid (show k + 1 + btw (xs.drop (k + 1)) false = N by simp at hd; omega)
        clear hd
        go_wp2_with fail
        exact ⟨⟨k + 1, false, by omega, (by first | rfl | trivial), (by first | rfl | trivial), (by first | rfl | trivial), hN⟩, by simp [intOf] <;> omega⟩
      · have hN := Lib.hid (show k + 1 + btw (xs.drop (k + 1)) false = N by simp at hd; omega)
        clear hd
        go_wp2_with fail
        exact ⟨⟨k + 1, false, by omega, (by first | rfl | trivial), (by first | rfl | trivial), (by first | rfl | trivial), hN⟩, by simp [intOf] <;> omega⟩
      · have hN : N = k := by simp [c1, c2, c3, c4, c5] at hd; omega
        subst hN
        have d3 : (c != 32) = true := bne_iff_ne.2 c3
        have d4 : (c != 9) = true := bne_iff_ne.2 c4
        have d5 : (c != 13) = true := bne_iff_ne.2 c5
        clear hd
        go_wp2_with fail
        all_goals first | (go_ret; first | exact ⟨rfl, rfl⟩ | exact ⟨trivial, rfl⟩) | (exfalso; omega) | (exfalso; simp_all; done)
    · obtain rfl : k = xs.length := by omega
      have hN : N = xs.length := by have := hq.out; rw [List.drop_length] at this; simp [btw] at this; omega
      subst hN
      clear hq
      go_wp2_with fail
      go_ret
      first | exact ⟨rfl, rfl⟩ | exact ⟨trivial, rfl⟩
theorem numV_neg (l : Bs) : numV l (-1) = -1 := by
  induction l with
  | nil => rfl
  | cons c r ih => show numV r (stepN (-1) _) = -1; unfold stepN; rw [if_pos (.inl (by decide))]; exact ih
theorem rnumber_any (l : Bs) (hl : l.length ≤ 9223372036854775807) (hdg : ∀ c ∈ l, digI (bI c) = true) (w : World) :
    Calls Try.prog 48 #[.string ⟨l.toArray⟩] w fun e w' => e = .returned (.tuple #[.int .i64 (if numV l 0 < 0 then 0 else numV l 0), .bool (decide (0 ≤ numV l 0))]) ∧ w = w' := by
  have hA := Lib.hid hl
  have hD := Lib.hid hdg
  clear hdg
  obtain ⟨V, hV⟩ : ∃ V, numV l 0 = V := ⟨_, rfl⟩
  rw [hV]
  have hN' := Lib.hid (show numV (l.drop 0) 0 = V from hV)
  clear hV
  go_enter Try.func48, Try.ntmps48
  go_wp2_with fail
  go_loopw [4, 5, 6] (fun n i _ wr => ∃ (k : Nat) (m : Int), k ≤ l.length ∧ 0 ≤ m ∧ m ≤ 2305843009213693951 ∧ i = .int .i64 k ∧ n = .int .i64 m ∧ w = wr ∧ Hid (numV (l.drop k) m = V)) (fun _ i _ _ => l.length - (intOf i).toNat)
  case atStart => exact ⟨0, 0, Nat.zero_le _, by decide, by decide, rfl, rfl, rfl, hN'⟩
  case round =>
    obtain ⟨k, m, hk, m0, m1, rfl, rfl, rfl, hq⟩ := hrel
    by_cases hlt : k < l.length
    · obtain ⟨d, hcd, d0, d9⟩ : ∃ d : Int, bI l[k] = d + 48 ∧ 0 ≤ d ∧ d ≤ 9 := by
        have h9 := hD.out l[k] (List.getElem_mem hlt)
        unfold digI at h9
        simp at h9
        exact ⟨bI l[k] - 48, by omega, by omega, by omega⟩
      have hd := hq.out
      rw [List.drop_eq_getElem_cons hlt] at hd
      replace hd : numV (l.drop (k + 1)) (stepN m (bI l[k] - 48)) = V := hd
      rw [hcd, show d + 48 - 48 = d by omega] at hd
      have hx : ∀ p, (((⟨l.toArray⟩ : ByteArray)[k]'p).toNat : Int) = d + 48 := fun _ => hcd
      have hlt2 : (k : Int) < (l.length : Int) := by omega
      have e1 : IntKind.u8.wrap (d + 48 - 48) = d := by rw [IntKind.wrap_u8]; omega
      clear hcd hq
      by_cases h2 : 2305843009213693951 < 10 * m + d
      · have hN : V = -1 := by unfold stepN at hd; rw [if_pos (.inr h2), numV_neg] at hd; exact hd.symm
        subst hN
        clear hd
        go_wp2_with fail
        go_ret2
        first | exact ⟨rfl, rfl⟩ | exact ⟨trivial, rfl⟩
      · have hN := Lib.hid (show numV (l.drop (k + 1)) (10 * m + d) = V by unfold stepN at hd; rw [if_neg (by omega)] at hd; exact hd)
        clear hd
        go_wp2_with fail
        exact ⟨⟨k + 1, 10 * m + d, by omega, by omega, by omega, (by first | rfl | trivial), (by first | rfl | trivial), (by first | rfl | trivial), hN⟩, by simp [intOf] <;> omega⟩
    · obtain rfl : k = l.length := by omega
      have hN : V = m := by have := hq.out; rw [List.drop_length] at this; exact this.symm
      subst hN
      clear hq
      go_wp2_with fail
      go_ret2
      exact ⟨by simp [show ¬ V < 0 by omega, m0], rfl⟩
end Go.Proofs.Yticifolljhplmaa
