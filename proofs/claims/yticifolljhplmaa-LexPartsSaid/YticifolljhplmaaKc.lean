/-
  Proved here: of lex: Name, between, nameEnd, number. Conditions: the slice holds the source.
-/
import Derived.Test.YticifolljhplmaaKb
import Derived.Deep.Slices
import Derived.WalkMore
namespace Go.Proofs.Yticifolljhplmaa
open Go.RowKit
set_option linter.unusedVariables false
set_option linter.unusedSimpArgs false
set_option maxRecDepth 100000
set_option maxHeartbeats 2000000
theorem allN_drop (l : Bs) (k : Nat) (hk : k < l.length) (f : Bool) : allN (l.drop k) f = (namI (bI l[k]) f && allN (l.drop (k + 1)) false) := by
  rw [List.drop_eq_getElem_cons hk]; rfl
theorem name_any (l : Bs) (hl : l.length ≤ 9223372036854775807) (w : World) : Calls Try.prog 23 #[.string ⟨l.toArray⟩] w fun e w' => e = .returned (.bool (nameS l)) ∧ w = w' := by
  have hA := Lib.hid hl
  obtain ⟨N, hN⟩ : ∃ N, nameS l = N := ⟨_, rfl⟩
  rw [hN]
  unfold nameS at hN
  have hkw := Lib.hid (kw_any l)
  by_cases h1 : l.length < 1
  · have e : N = false := by rw [← hN]; simp; omega
    subst e
    clear hN hkw
    go_enter Try.func23, Try.ntmps23
    go_wp2_with fail
    go_ret
    first | exact ⟨rfl, rfl⟩ | exact ⟨trivial, rfl⟩
  · by_cases h2 : 32 < l.length
    · have e : N = false := by rw [← hN]; simp; omega
      subst e
      clear hN hkw
      go_enter Try.func23, Try.ntmps23
      go_wp2_with fail
      go_ret
      first | exact ⟨rfl, rfl⟩ | exact ⟨trivial, rfl⟩
    · cases h3 : kwS l with
      | true =>
        have e : N = false := by rw [← hN, h3]; simp
        subst e
        clear hN
        rw [h3] at hkw
        go_enter Try.func23, Try.ntmps23
        go_wp2_with (go_at_call 21; refine (hkw.out _).mono ?_; rintro e w1 ⟨rfl, rfl⟩)
        go_ret
        first | exact ⟨rfl, rfl⟩ | exact ⟨trivial, rfl⟩
      | false =>
        have e : allN l true = N := by
          rw [h3] at hN
          simp at hN
          rw [← hN]
          have : 1 ≤ l.length := by omega
          have : l.length ≤ 32 := by omega
          simp [*]
        clear hN
        rw [h3] at hkw
        have he := Lib.hid e
        clear e
        go_enter Try.func23, Try.ntmps23
        go_upto_region 3 with (go_at_call 21; refine (hkw.out _).mono ?_; rintro e w1 ⟨rfl, rfl⟩)
        go_wp2_with fail
        go_loopw [18] (fun i wr => ∃ k : Nat, k ≤ l.length ∧ i = .int .i64 k ∧ w = wr ∧ Hid (allN (l.drop k) ((k : Int) == 0) = N)) (fun i _ => l.length - (intOf i).toNat)
        case atStart => exact ⟨0, Nat.zero_le _, rfl, rfl, he⟩
        case round =>
          obtain ⟨k, hk, rfl, rfl, hq⟩ := hrel
          by_cases hlt : k < l.length
          · have hx : ∀ p, ((⟨l.toArray⟩ : ByteArray)[k]'p).toNat = (l[k]).toNat := fun _ => rfl
            have hd := hq.out
            rw [allN_drop l k hlt ((k : Int) == 0)] at hd
            have hlt2 : (k : Int) < (l.length : Int) := by omega
            have hnm := named_any (bI l[k]) ((k : Int) == 0) w
            cases hv : namI (bI l[k]) ((k : Int) == 0) with
            | false =>
              rw [hv] at hd hnm
              have hN : N = false := by rw [← hd]; rfl
              subst hN
              have hnm := Lib.hid hnm
              clear hd hv hq
              go_wp2_with (go_at_call 34; refine (hnm.out).mono ?_; rintro e w1 ⟨rfl, rfl⟩)
              go_ret
              first | exact ⟨rfl, rfl⟩ | exact ⟨trivial, rfl⟩
            | true =>
              rw [hv] at hd hnm
              have hz : (((k + 1 : Nat) : Int) == 0) = false := by simp; omega
              have hN := Lib.hid (show allN (l.drop (k + 1)) (((k + 1 : Nat) : Int) == 0) = N by rw [hz]; exact hd)
              have hnm := Lib.hid hnm
              clear hd hv hq hz
              go_wp2_with (go_at_call 34; refine (hnm.out).mono ?_; rintro e w1 ⟨rfl, rfl⟩)
              exact ⟨⟨k + 1, by omega, (by first | rfl | trivial), (by first | rfl | trivial), hN⟩, by simp [intOf] <;> omega⟩
          · obtain rfl : k = l.length := by omega
            have hN : N = true := by rw [← hq.out, List.drop_length]; rfl
            subst hN
            clear hq
            go_wp2_with fail
            go_ret
            first | exact ⟨rfl, rfl⟩ | exact ⟨trivial, rfl⟩
/-- A slice's bytes. -/
def SrcB (w : World) (A : Option Addr) (xs : Bs) : Prop := 0 < xs.length → ∃ ad : Addr, A = some ad ∧ ∀ (j : Nat) (c : UInt8), xs[j]? = some c → w.cell? (ad.add j) = some (.int .u8 (bI c))
theorem SrcB.cell {w : World} {A : Option Addr} {xs : Bs} (h : SrcB w A xs) (k : Nat) (hk : k < xs.length) : ∃ ad : Addr, A = some ad ∧ w.cell? (ad.add k) = some (.int .u8 (bI xs[k])) := by
  obtain ⟨ad, hA, hc⟩ := h (by omega)
  exact ⟨ad, hA, hc k _ (List.getElem?_eq_getElem hk)⟩
theorem SrcB.nb {w w' : World} {A : Option Addr} {xs : Bs} (h : SrcB w A xs) (k : Nb w w') : SrcB w' A xs := by
  intro h0
  obtain ⟨ad, hA, hc⟩ := h h0
  exact ⟨ad, hA, fun j c hj => k.cell (hc j c hj)⟩
theorem btw_drop (l : Bs) (k : Nat) (hk : k < l.length) (rm : Bool) : btw (l.drop k) rm = if bI l[k] = 10 then btw (l.drop (k + 1)) false + 1 else if bI l[k] = 35 then btw (l.drop (k + 1)) true + 1 else if rm = true ∨ bI l[k] = 32 ∨ bI l[k] = 9 ∨ bI l[k] = 13 then btw (l.drop (k + 1)) rm + 1 else 0 := by
  rw [List.drop_eq_getElem_cons hk]; rfl
theorem between_any (A : Option Addr) (cap : Nat) (xs : Bs) (at_ : Nat) (hx : xs.length ≤ 9223372036854775807) (ha : at_ ≤ xs.length) (w : World) (hS : SrcB w A xs) :
    Calls Try.prog 29 #[.slice A xs.length cap, .int .i64 at_] w fun e w' => e = .returned (.int .i64 ((at_ + btw (xs.drop at_) false : Nat) : Int)) ∧ w = w' := by
  obtain ⟨N, hN⟩ : ∃ N, at_ + btw (xs.drop at_) false = N := ⟨_, rfl⟩
  rw [hN]
  have hN' := Lib.hid hN
  have hS' := Lib.hid hS
  clear hN hS
  go_enter Try.func29, Try.ntmps29
  go_wp2_with fail
  go_step3
  go_wp2_with fail
  go_step3
  go_wp2_with fail
  go_loopw [1, 5] (fun i r wr => ∃ (k : Nat) (rm : Bool), k ≤ xs.length ∧ i = .int .i64 k ∧ r = .bool rm ∧ w = wr ∧ Hid (k + btw (xs.drop k) rm = N)) (fun i _ _ => xs.length - (intOf i).toNat)
  case atStart => exact ⟨at_, false, ha, rfl, rfl, rfl, hN'⟩
  case round =>
    obtain ⟨k, rm, hk, rfl, rfl, rfl, hq⟩ := hrel
    by_cases hlt : k < xs.length
    · obtain ⟨ad, hA, hc⟩ := hS'.out.cell k hlt
      subst hA
      have hd := hq.out
      rw [btw_drop xs k hlt rm] at hd
      have hlt2 : (k : Int) < (xs.length : Int) := by omega
      generalize bI xs[k] = c at *
      have hcs : c = 10 ∨ c = 35 ∨ c = 32 ∨ c = 9 ∨ c = 13 ∨ (¬ c = 10 ∧ ¬ c = 35 ∧ ¬ c = 32 ∧ ¬ c = 9 ∧ ¬ c = 13) := by omega
      clear hq
      rcases hcs with rfl | rfl | rfl | rfl | rfl | ⟨c1, c2, c3, c4, c5⟩
      · have hN := Lib.hid (show k + 1 + btw (xs.drop (k + 1)) false = N by simp at hd; omega)
        clear hd
        go_wp2_with fail
        exact ⟨⟨k + 1, false, by omega, (by first | rfl | trivial), (by first | rfl | trivial), (by first | rfl | trivial), hN⟩, by simp [intOf] <;> omega⟩
      · have hN := Lib.hid (show k + 1 + btw (xs.drop (k + 1)) true = N by simp at hd; omega)
        clear hd
        go_wp2_with fail
        exact ⟨⟨k + 1, true, by omega, (by first | rfl | trivial), (by first | rfl | trivial), (by first | rfl | trivial), hN⟩, by simp [intOf] <;> omega⟩
      · have hN := Lib.hid (show k + 1 + btw (xs.drop (k + 1)) rm = N by simp at hd; omega)
        clear hd
        go_wp2_with fail
        exact ⟨⟨k + 1, rm, by omega, (by first | rfl | trivial), (by first | rfl | trivial), (by first | rfl | trivial), hN⟩, by simp [intOf] <;> omega⟩
      · have hN := Lib.hid (show k + 1 + btw (xs.drop (k + 1)) rm = N by simp at hd; omega)
        clear hd
        go_wp2_with fail
        exact ⟨⟨k + 1, rm, by omega, (by first | rfl | trivial), (by first | rfl | trivial), (by first | rfl | trivial), hN⟩, by simp [intOf] <;> omega⟩
      · have hN := Lib.hid (show k + 1 + btw (xs.drop (k + 1)) rm = N by simp at hd; omega)
        clear hd
        go_wp2_with fail
        exact ⟨⟨k + 1, rm, by omega, (by first | rfl | trivial), (by first | rfl | trivial), (by first | rfl | trivial), hN⟩, by simp [intOf] <;> omega⟩
      · cases rm with
        | true =>
          have hN := Lib.hid (show k + 1 + btw (xs.drop (k + 1)) true = N by simp [c1, c2] at hd; omega)
          clear hd
          go_wp2_with fail
          exact ⟨⟨k + 1, true, by omega, (by first | rfl | trivial), (by first | rfl | trivial), (by first | rfl | trivial), hN⟩, by simp [intOf] <;> omega⟩
        | false =>
          have hN : N = k := by simp [c1, c2, c3, c4, c5] at hd; omega
          subst hN
          clear hd
          go_wp2_with fail
          first | go_ret | (simp only [Exit.noGoto]; go_ret)
          first | exact ⟨rfl, rfl⟩ | exact ⟨trivial, rfl⟩
    · obtain rfl : k = xs.length := by omega
      have hN : N = xs.length := by have := hq.out; rw [List.drop_length] at this; simp [btw] at this; omega
      subst hN
      clear hq
      go_wp2_with fail
      first | go_ret | (simp only [Exit.noGoto]; go_ret)
      first | exact ⟨rfl, rfl⟩ | exact ⟨trivial, rfl⟩
theorem nmN_drop (l : Bs) (k : Nat) (hk : k < l.length) (f : Bool) : nmN (l.drop k) f = if namI (bI l[k]) f = true then nmN (l.drop (k + 1)) false + 1 else 0 := by
  rw [List.drop_eq_getElem_cons hk]; rfl
theorem dgN_drop (l : Bs) (k : Nat) (hk : k < l.length) : dgN (l.drop k) = if digI (bI l[k]) = true then dgN (l.drop (k + 1)) + 1 else 0 := by
  rw [List.drop_eq_getElem_cons hk]; rfl
theorem nameEnd_any (A : Option Addr) (cap : Nat) (xs : Bs) (at_ : Nat) (hx : xs.length ≤ 9223372036854775807) (ha : at_ ≤ xs.length) (w : World) (hS : SrcB w A xs) :
    Calls Try.prog 42 #[.slice A xs.length cap, .int .i64 at_] w fun e w' => e = .returned (.int .i64 ((at_ + nmN (xs.drop at_) true : Nat) : Int)) ∧ w = w' := by
  obtain ⟨N, hN⟩ : ∃ N, at_ + nmN (xs.drop at_) true = N := ⟨_, rfl⟩
  rw [hN]
  have hN' := Lib.hid hN
  have hS' := Lib.hid hS
  clear hN hS
  go_enter Try.func42, Try.ntmps42
  go_wp2_with fail
  go_loopw [5] (fun i wr => ∃ k : Nat, at_ ≤ k ∧ k ≤ xs.length ∧ i = .int .i64 k ∧ w = wr ∧ Hid (k + nmN (xs.drop k) ((k : Int) == (at_ : Int)) = N)) (fun i _ => xs.length - (intOf i).toNat)
  case atStart => exact ⟨at_, Nat.le_refl _, ha, rfl, rfl, by rw [show (((at_ : Int)) == (at_ : Int)) = true by simp]; exact hN'⟩
  case round =>
    obtain ⟨k, hak, hk, rfl, rfl, hq⟩ := hrel
    by_cases hlt : k < xs.length
    · obtain ⟨ad, hA, hc⟩ := hS'.out.cell k hlt
      subst hA
      have hd := hq.out
      rw [nmN_drop xs k hlt] at hd
      have hlt2 : (k : Int) < (xs.length : Int) := by omega
      have hnm := named_any (bI xs[k]) ((k : Int) == (at_ : Int)) w
      generalize bI xs[k] = c at *
      cases hv : namI c ((k : Int) == (at_ : Int)) with
      | false =>
        rw [hv] at hd hnm
        have hN : N = k := by simp at hd; omega
        subst hN
        have hnm := Lib.hid hnm
        clear hd hv hq
        go_wp2_with (go_at_call 34; refine (hnm.out).mono ?_; rintro e w1 ⟨rfl, rfl⟩)
        first | go_ret | (simp only [Exit.noGoto]; go_ret)
        first | exact ⟨rfl, rfl⟩ | exact ⟨trivial, rfl⟩
      | true =>
        rw [hv] at hd hnm
        have hz : (((k + 1 : Nat) : Int) == (at_ : Int)) = false := by simp; omega
        have hN := Lib.hid (show k + 1 + nmN (xs.drop (k + 1)) (((k + 1 : Nat) : Int) == (at_ : Int)) = N by rw [hz]; simp at hd; omega)
        have hnm := Lib.hid hnm
        clear hd hv hq hz
        go_wp2_with (go_at_call 34; refine (hnm.out).mono ?_; rintro e w1 ⟨rfl, rfl⟩)
        exact ⟨⟨k + 1, by omega, by omega, (by first | rfl | trivial), (by first | rfl | trivial), hN⟩, by simp [intOf] <;> omega⟩
    · obtain rfl : k = xs.length := by omega
      have hN : N = xs.length := by have := hq.out; rw [List.drop_length] at this; simp [nmN] at this; omega
      subst hN
      clear hq
      go_wp2_with fail
      first | go_ret | (simp only [Exit.noGoto]; go_ret)
      first | exact ⟨rfl, rfl⟩ | exact ⟨trivial, rfl⟩
theorem number_any (A : Option Addr) (cap : Nat) (xs : Bs) (at_ : Nat) (hx : xs.length ≤ 9223372036854775807) (ha : at_ ≤ xs.length) (w : World) (hS : SrcB w A xs) :
    Calls Try.prog 44 #[.slice A xs.length cap, .int .i64 at_] w fun e w' => e = .returned (.tuple #[.int .i64 (numV ((xs.drop at_).take (dgN (xs.drop at_))) 0), .int .i64 ((at_ + dgN (xs.drop at_) : Nat) : Int)]) ∧ w = w' := by
  obtain ⟨N, hN⟩ : ∃ N, at_ + dgN (xs.drop at_) = N := ⟨_, rfl⟩
  obtain ⟨V, hV⟩ : ∃ V, numV ((xs.drop at_).take (dgN (xs.drop at_))) 0 = V := ⟨_, rfl⟩
  rw [hN, hV]
  have hN' := Lib.hid (And.intro hN hV)
  have hS' := Lib.hid hS
  clear hN hV hS
  go_enter Try.func44, Try.ntmps44
  go_wp2_with fail
  go_loopw [1, 6, 7] (fun i n d wr => ∃ (k : Nat) (m : Int), k ≤ xs.length ∧ -1 ≤ m ∧ m ≤ 2305843009213693951 ∧ i = .int .i64 k ∧ n = .int .i64 m ∧ w = wr ∧ Hid (k + dgN (xs.drop k) = N ∧ numV ((xs.drop k).take (dgN (xs.drop k))) m = V)) (fun i _ _ _ => xs.length - (intOf i).toNat)
  case atStart => exact ⟨at_, 0, ha, by decide, by decide, rfl, rfl, rfl, hN'⟩
  case round =>
    obtain ⟨k, m, hk, m0, m1, rfl, rfl, rfl, hq⟩ := hrel
    by_cases hlt : k < xs.length
    · obtain ⟨ad, hA, hc⟩ := hS'.out.cell k hlt
      subst hA
      have hd := hq.out
      have hdr := List.drop_eq_getElem_cons hlt
      have hlt2 : (k : Int) < (xs.length : Int) := by omega
      have hdg := digit_any (bI xs[k]) w
      rw [dgN_drop xs k hlt] at hd
      cases hv : digI (bI xs[k]) with
      | false =>
        rw [hv] at hd hdg
        simp [numV] at hd
        obtain ⟨rfl, rfl⟩ := hd
        have hdg := Lib.hid hdg
        clear hv hq hdr
        generalize bI xs[k] = c at *
        go_wp2_with (go_at_call 43; refine (hdg.out).mono ?_; rintro e w1 ⟨rfl, rfl⟩)
        go_ret2
        first | exact ⟨rfl, rfl⟩ | exact ⟨trivial, rfl⟩
      | true =>
        rw [hv] at hd hdg
        rw [hdr] at hd
        simp only [if_true, List.take_succ_cons, numV] at hd
        clear hq hdr
        generalize bI xs[k] = c at *
        obtain ⟨d, rfl, d0, d9⟩ : ∃ d : Int, c = d + 48 ∧ 0 ≤ d ∧ d ≤ 9 := ⟨c - 48, by omega, by unfold digI at hv; simp at hv; omega, by unfold digI at hv; simp at hv; omega⟩
        have hdg := Lib.hid hdg
        rw [show d + 48 - 48 = d by omega] at hd
        have e1 : IntKind.u8.wrap (d + 48 - 48) = d := by rw [IntKind.wrap_u8]; omega
        clear hv
        have hcs : m = -1 ∨ (0 ≤ m ∧ 2305843009213693951 < 10 * m + d) ∨ (0 ≤ m ∧ 10 * m + d ≤ 2305843009213693951) := by omega
        rcases hcs with rfl | ⟨h1, h2⟩ | ⟨h1, h2⟩
        · have hN := Lib.hid (show k + 1 + dgN (xs.drop (k + 1)) = N ∧ numV ((xs.drop (k + 1)).take (dgN (xs.drop (k + 1)))) (-1) = V from ⟨by omega, hd.2⟩)
          clear hd
          go_wp2_with (go_at_call 43; refine (hdg.out).mono ?_; rintro e w1 ⟨rfl, rfl⟩)
          exact ⟨⟨k + 1, -1, by omega, by decide, by decide, (by first | rfl | trivial), (by first | rfl | trivial), (by first | rfl | trivial), hN⟩, by simp [intOf] <;> omega⟩
        · have hN := Lib.hid (show k + 1 + dgN (xs.drop (k + 1)) = N ∧ numV ((xs.drop (k + 1)).take (dgN (xs.drop (k + 1)))) (-1) = V from ⟨by omega, by have := hd.2; unfold stepN at this; rw [if_pos (.inr h2)] at this; exact this⟩)
          clear hd
          go_wp2_with (go_at_call 43; refine (hdg.out).mono ?_; rintro e w1 ⟨rfl, rfl⟩)
          exact ⟨⟨k + 1, -1, by omega, by decide, by decide, (by first | rfl | trivial), (by first | rfl | trivial), (by first | rfl | trivial), hN⟩, by simp [intOf] <;> omega⟩
        · have hN := Lib.hid (show k + 1 + dgN (xs.drop (k + 1)) = N ∧ numV ((xs.drop (k + 1)).take (dgN (xs.drop (k + 1)))) (10 * m + d) = V from ⟨by omega, by have := hd.2; unfold stepN at this; rw [if_neg (by omega)] at this; exact this⟩)
          clear hd
          go_wp2_with (go_at_call 43; refine (hdg.out).mono ?_; rintro e w1 ⟨rfl, rfl⟩)
          exact ⟨⟨k + 1, 10 * m + d, by omega, by omega, by omega, (by first | rfl | trivial), (by first | rfl | trivial), (by first | rfl | trivial), hN⟩, by simp [intOf] <;> omega⟩
    · obtain rfl : k = xs.length := by omega
      have hN := hq.out
      rw [List.drop_length] at hN
      simp [dgN, numV] at hN
      obtain ⟨rfl, rfl⟩ := hN
      clear hq
      go_wp2_with fail
      go_ret2
      first | exact ⟨rfl, rfl⟩ | exact ⟨trivial, rfl⟩
end Go.Proofs.Yticifolljhplmaa
