/-
  Proved here: of the reference: sign, one. Conditions: the slice holds the source.
-/
import Derived.Test.YticifolljhplmaaKj
import Derived.Test.YticifolljhplmaaKh
namespace Go.Proofs.Yticifolljhplmaa
open Go.RowKit
set_option linter.unusedVariables false
set_option linter.unusedSimpArgs false
set_option maxRecDepth 100000
set_option maxHeartbeats 2000000
def sgL : List Int := [40, 41, 123, 125, 44, 59, 61, 43, 45, 42, 60]
def sgS : Bs → Nat
  | [] => 0
  | c :: r => if bI c = 61 ∧ r.head? = some 61 then 2 else if sgL.contains (bI c) = true then 1 else 0
theorem sgL_is (x : Int) : sgL.contains x = (x == 61 || sigI x) := by
  unfold sgL sigI
  rw [Bool.eq_iff_iff]
  simp
  omega
theorem sg_drop (xs : Bs) (k : Nat) (hk : k < xs.length) : sgS (xs.drop k) = if bI xs[k] = 61 ∧ (xs.drop (k + 1)).head? = some 61 then 2 else if sgL.contains (bI xs[k]) = true then 1 else 0 := by
  rw [drop_cons xs k hk]
  rfl
theorem sg_cell (k : Nat) (h : k < sgL.length) (p : k < (⟨#[40, 41, 123, 125, 44, 59, 61, 43, 45, 42, 60]⟩ : ByteArray).size) : (((⟨#[40, 41, 123, 125, 44, 59, 61, 43, 45, 42, 60]⟩ : ByteArray)[k]'p).toNat : Int) = sgL[k] := by
  have hk : k < 11 := h
  have := (by decide : ∀ k : Fin 11, (((⟨#[40, 41, 123, 125, 44, 59, 61, 43, 45, 42, 60]⟩ : ByteArray)[k.1]'k.2).toNat : Int) = sgL[k.1]'k.2)
  exact this ⟨k, hk⟩
theorem sign_any (A : Option Addr) (cap : Nat) (xs : Bs) (at_ : Nat) (hx : xs.length ≤ 9223372036854775800) (ha : at_ < xs.length) (w : World) (hS : SrcB w A xs) :
    Calls Try.prog 49 #[.slice A xs.length cap, .int .i64 at_] w fun e w' => e = .returned (.int .i64 (sgS (xs.drop at_) : Nat)) ∧ w = w' := by
  obtain ⟨ad, hA, hc0⟩ := hS.cell at_ ha
  have hnx : ∀ h : at_ + 1 < xs.length, w.cell? ⟨ad.block, ad.off + (at_ + 1), none⟩ = some (.int .u8 (bI xs[at_ + 1])) := fun h => by
    obtain ⟨ad', hA', hc1⟩ := hS.cell (at_ + 1) h
    rw [hA] at hA'
    cases hA'
    rw [← hc1]
    simp [Addr.add]
  subst hA
  clear hS
  have hlt : (at_ : Int) < (xs.length : Int) := by omega
  rw [sg_drop xs at_ ha]
  have hh : (xs.drop (at_ + 1)).head? = some 61 ↔ ∃ h : at_ + 1 < xs.length, bI xs[at_ + 1] = 61 := by
    by_cases h : at_ + 1 < xs.length
    · rw [drop_cons xs (at_ + 1) h]
      simp only [List.head?_cons, Option.some.injEq]
      constructor
      · intro e; exact ⟨h, by rw [e]; rfl⟩
      · rintro ⟨_, e⟩
        unfold bI at e
        exact UInt8.toNat_inj.1 (by show _ = 61; omega)
    · rw [List.drop_eq_nil_of_le (by omega)]
      constructor
      · intro e; cases e
      · rintro ⟨e, _⟩; exact absurd e h
  simp only [hh]
  clear hh
  obtain ⟨c, hc⟩ : ∃ c, bI xs[at_] = c := ⟨_, rfl⟩
  simp only [hc] at hc0 ⊢
  clear hc
  by_cases hb : c = 61 ∧ ∃ h : at_ + 1 < xs.length, bI xs[at_ + 1] = 61
  · rw [if_pos hb]
    obtain ⟨rfl, h1, h2⟩ := hb
    have hn := hnx h1
    rw [h2] at hn
    clear hnx h2
    have hlt1 : (at_ : Int) + 1 < (xs.length : Int) := by omega
    go_enter Try.func49, Try.ntmps49
    go_upto_region 2 with (fail)
    go_wp2_with fail
    go_ret
    exact ⟨rfl, rfl⟩
  · rw [if_neg hb]
    obtain ⟨N, hN⟩ : ∃ N, sgL.contains c = N := ⟨_, rfl⟩
    rw [hN]
    have hN := Lib.hid (show (sgL.drop 0).contains c = N from hN)
    by_cases h6 : c = 61
    · by_cases h7 : at_ + 1 < xs.length
      · have hn := hnx h7
        have h8 : ¬ bI xs[at_ + 1] = 61 := fun e => hb ⟨h6, h7, e⟩
        generalize bI xs[at_ + 1] = c' at *
        clear hnx hb
        have hlt1 : (at_ : Int) + 1 < (xs.length : Int) := by omega
        go_enter Try.func49, Try.ntmps49
        go_wp2_with fail
        go_loopw [7] (fun i wr => ∃ k : Nat, k ≤ 11 ∧ i = .int .i64 k ∧ w = wr ∧ Hid ((sgL.drop k).contains c = N)) (fun i _ => 11 - (intOf i).toNat)
        case atStart => exact ⟨0, Nat.zero_le _, rfl, rfl, hN⟩
        case round =>
          obtain ⟨k, hk, rfl, rfl, hq⟩ := hrel
          by_cases hlt : k < sgL.length
          · obtain ⟨t, ht0⟩ : ∃ t, sgL[k] = t := ⟨_, rfl⟩
            have hx : ∀ p, (((⟨#[40, 41, 123, 125, 44, 59, 61, 43, 45, 42, 60]⟩ : ByteArray)[k]'p).toNat : Int) = t := fun p => (sg_cell k hlt p).trans ht0
            have hd := hq.out
            rw [List.drop_eq_getElem_cons hlt, List.contains_cons] at hd
            have hlt2 : (k : Int) < 11 := by have : sgL.length = 11 := rfl; omega
            have hlt3 : k < 11 := by have : sgL.length = 11 := rfl; omega
            rw [ht0] at hd
            clear ht0
            by_cases ht : t = c
            · subst ht
              have hN : N = true := by rw [← hd]; simp
              subst hN
              clear hd hq hlt
              go_wp2_with fail
              go_ret
              exact ⟨rfl, rfl⟩
            · have hN := Lib.hid (show (sgL.drop (k + 1)).contains c = N by
                have ht' : (c == t) = false := by simpa using fun h => ht h.symm
                rw [ht'] at hd; simpa using hd)
              clear hd hq hlt
              go_wp2_with fail
              exact ⟨⟨k + 1, by omega, (by first | rfl | trivial), (by first | rfl | trivial), hN⟩, by simp [intOf] <;> omega⟩
          · obtain rfl : k = 11 := by have : sgL.length = 11 := rfl; omega
            have hN : N = false := by rw [← hq.out]; rfl
            subst hN
            clear hq hlt
            go_wp2_with fail
            go_ret
            exact ⟨rfl, rfl⟩
      · have hlt1 : ¬ (at_ : Int) + 1 < (xs.length : Int) := by omega
        clear hnx hb
        go_enter Try.func49, Try.ntmps49
        go_wp2_with fail
        go_loopw [7] (fun i wr => ∃ k : Nat, k ≤ 11 ∧ i = .int .i64 k ∧ w = wr ∧ Hid ((sgL.drop k).contains c = N)) (fun i _ => 11 - (intOf i).toNat)
        case atStart => exact ⟨0, Nat.zero_le _, rfl, rfl, hN⟩
        case round =>
          obtain ⟨k, hk, rfl, rfl, hq⟩ := hrel
          by_cases hlt : k < sgL.length
          · obtain ⟨t, ht0⟩ : ∃ t, sgL[k] = t := ⟨_, rfl⟩
            have hx : ∀ p, (((⟨#[40, 41, 123, 125, 44, 59, 61, 43, 45, 42, 60]⟩ : ByteArray)[k]'p).toNat : Int) = t := fun p => (sg_cell k hlt p).trans ht0
            have hd := hq.out
            rw [List.drop_eq_getElem_cons hlt, List.contains_cons] at hd
            have hlt2 : (k : Int) < 11 := by have : sgL.length = 11 := rfl; omega
            have hlt3 : k < 11 := by have : sgL.length = 11 := rfl; omega
            rw [ht0] at hd
            clear ht0
            by_cases ht : t = c
            · subst ht
              have hN : N = true := by rw [← hd]; simp
              subst hN
              clear hd hq hlt
              go_wp2_with fail
              go_ret
              exact ⟨rfl, rfl⟩
            · have hN := Lib.hid (show (sgL.drop (k + 1)).contains c = N by
                have ht' : (c == t) = false := by simpa using fun h => ht h.symm
                rw [ht'] at hd; simpa using hd)
              clear hd hq hlt
              go_wp2_with fail
              exact ⟨⟨k + 1, by omega, (by first | rfl | trivial), (by first | rfl | trivial), hN⟩, by simp [intOf] <;> omega⟩
          · obtain rfl : k = 11 := by have : sgL.length = 11 := rfl; omega
            have hN : N = false := by rw [← hq.out]; rfl
            subst hN
            clear hq hlt
            go_wp2_with fail
            go_ret
            exact ⟨rfl, rfl⟩
    · clear hnx hb
      go_enter Try.func49, Try.ntmps49
      go_wp2_with fail
      go_loopw [7] (fun i wr => ∃ k : Nat, k ≤ 11 ∧ i = .int .i64 k ∧ w = wr ∧ Hid ((sgL.drop k).contains c = N)) (fun i _ => 11 - (intOf i).toNat)
      case atStart => exact ⟨0, Nat.zero_le _, rfl, rfl, hN⟩
      case round =>
        obtain ⟨k, hk, rfl, rfl, hq⟩ := hrel
        by_cases hlt : k < sgL.length
        · obtain ⟨t, ht0⟩ : ∃ t, sgL[k] = t := ⟨_, rfl⟩
          have hx : ∀ p, (((⟨#[40, 41, 123, 125, 44, 59, 61, 43, 45, 42, 60]⟩ : ByteArray)[k]'p).toNat : Int) = t := fun p => (sg_cell k hlt p).trans ht0
          have hd := hq.out
          rw [List.drop_eq_getElem_cons hlt, List.contains_cons] at hd
          have hlt2 : (k : Int) < 11 := by have : sgL.length = 11 := rfl; omega
          have hlt3 : k < 11 := by have : sgL.length = 11 := rfl; omega
          rw [ht0] at hd
          clear ht0
          by_cases ht : t = c
          · subst ht
            have hN : N = true := by rw [← hd]; simp
            subst hN
            clear hd hq hlt
            go_wp2_with fail
            go_ret
            exact ⟨rfl, rfl⟩
          · have hN := Lib.hid (show (sgL.drop (k + 1)).contains c = N by
              have ht' : (c == t) = false := by simpa using fun h => ht h.symm
              rw [ht'] at hd; simpa using hd)
            clear hd hq hlt
            go_wp2_with fail
            exact ⟨⟨k + 1, by omega, (by first | rfl | trivial), (by first | rfl | trivial), hN⟩, by simp [intOf] <;> omega⟩
        · obtain rfl : k = 11 := by have : sgL.length = 11 := rfl; omega
          have hN : N = false := by rw [← hq.out]; rfl
          subst hN
          clear hq hlt
          go_wp2_with fail
          go_ret
          exact ⟨rfl, rfl⟩
end Go.Proofs.Yticifolljhplmaa
