/-
  Proved here: of lex: digit, named, Keyword, Name. Conditions: a byte is one; a text is not too long. ¦ of lex: Name, between, nameEnd, number. Conditions: the slice holds the source.
-/
import Derived.Test.YtjibblpfhnigjaaDoorSab
import Derived.Test.YtjibblpfhnigjaaDoorSaa
import Derived.Deep.Slices
import Derived.WalkMore
section
namespace Go.Proofs.YtjibblpfhnigjaaDoor
open Go.RowKit
set_option linter.unusedVariables false
set_option linter.unusedSimpArgs false
set_option maxRecDepth 100000
set_option maxHeartbeats 2000000
theorem then_exit {K : Act → World → Prop} {Q : Exit → Act → World → Prop} {k : Nat} {a : Act} {w : World} (h : Q (.exit k) a w) : Exit.then K Q (.exit k) a w := h
theorem in_same {Q : Exit → Act → World → Prop} {k : Nat} {a : Act} {w : World} (h : Q .normal a w) : Exit.inBlock k Q (.exit k) a w := by
  simp only [Exit.inBlock, if_true]; exact h
theorem in_other {Q : Exit → Act → World → Prop} {i k : Nat} {a : Act} {w : World} (hk : (k == i) = false) (h : Q (.exit k) a w) : Exit.inBlock i Q (.exit k) a w := by
  have : ¬ k = i := by simpa using hk
  simp only [Exit.inBlock, this, if_false]; exact h
theorem then_ret {K : Act → World → Prop} {Q : Exit → Act → World → Prop} {a : Act} {w : World} (h : Q .ret a w) : Exit.then K Q .ret a w := h
theorem in_ret {Q : Exit → Act → World → Prop} {i : Nat} {a : Act} {w : World} (h : Q .ret a w) : Exit.inBlock i Q .ret a w := h
theorem digit_any (x : Int) (w : World) : Calls Tryd.prog 73 #[.int .u8 x] w fun e w' => e = .returned (.bool (digI x)) ∧ w = w' := by
  unfold digI
  by_cases h1 : 48 ≤ x
  · by_cases h2 : x ≤ 57
    · go_enter Tryd.func73, Tryd.ntmps73
      go_wp2
      go_ret
      exact ⟨by simp [h1, h2], rfl⟩
    · go_enter Tryd.func73, Tryd.ntmps73
      go_wp2
      go_ret
      exact ⟨by simp [h1]; omega, rfl⟩
  · go_enter Tryd.func73, Tryd.ntmps73
    go_wp2
    go_ret
    exact ⟨by simp; omega, rfl⟩
theorem named_dig (x : Int) (f : Bool) (hd : digI x = true) (w : World) : Calls Tryd.prog 63 #[.int .u8 x, .bool f] w fun e w' => e = .returned (.bool (!f)) ∧ w = w' := by
  cases f with
  | true =>
    go_enter Tryd.func63, Tryd.ntmps63
    repeat (first | (with_reducible first | refine then_exit ?_ | refine in_same ?_ | refine then_ret ?_ | refine in_ret ?_) | ((with_reducible refine in_other ?_ ?_); decide) | go_values | go_skip | go_guarded | go_step | go_upon | go_back)
    refine (digit_any x _).mono ?_
    rintro e w1 ⟨rfl, rfl⟩
    rw [hd]
    dsimp only
    repeat (first | (with_reducible first | refine then_exit ?_ | refine in_same ?_ | refine then_ret ?_ | refine in_ret ?_) | ((with_reducible refine in_other ?_ ?_); decide) | go_values | go_skip | go_guarded | go_step | go_upon | go_back)
    go_ret
    exact ⟨rfl, rfl⟩
  | false =>
    go_enter Tryd.func63, Tryd.ntmps63
    repeat (first | (with_reducible first | refine then_exit ?_ | refine in_same ?_ | refine then_ret ?_ | refine in_ret ?_) | ((with_reducible refine in_other ?_ ?_); decide) | go_values | go_skip | go_guarded | go_step | go_upon | go_back)
    refine (digit_any x _).mono ?_
    rintro e w1 ⟨rfl, rfl⟩
    rw [hd]
    dsimp only
    repeat (first | (with_reducible first | refine then_exit ?_ | refine in_same ?_ | refine then_ret ?_ | refine in_ret ?_) | ((with_reducible refine in_other ?_ ?_); decide) | go_values | go_skip | go_guarded | go_step | go_upon | go_back)
    go_ret
    exact ⟨rfl, rfl⟩
theorem named_let (x : Int) (f : Bool) (hd : digI x = false) (w : World) : Calls Tryd.prog 63 #[.int .u8 x, .bool f] w fun e w' => e = .returned (.bool (ltrI x)) ∧ w = w' := by
  have hq : (97 ≤ x ∧ x ≤ 122) ∨ (65 ≤ x ∧ x ≤ 90) ∨ x = 95 ∨ (x < 65) ∨ (90 < x ∧ x < 95) ∨ x = 96 ∨ 122 < x := by omega
  go_enter Tryd.func63, Tryd.ntmps63
  repeat (first | (with_reducible first | refine then_exit ?_ | refine in_same ?_ | refine then_ret ?_ | refine in_ret ?_) | ((with_reducible refine in_other ?_ ?_); decide) | go_values | go_skip | go_guarded | go_step | go_upon | go_back)
  refine (digit_any x _).mono ?_
  rintro e w1 ⟨rfl, rfl⟩
  rw [hd]
  dsimp only
  rcases hq with ⟨h1, h2⟩ | ⟨h1, h2⟩ | h1 | h1 | ⟨h1, h2⟩ | h1 | h1
  · have e0 : ltrI x = true := by unfold ltrI; simp; omega
    repeat (first | (with_reducible first | refine then_exit ?_ | refine in_same ?_ | refine then_ret ?_ | refine in_ret ?_) | ((with_reducible refine in_other ?_ ?_); decide) | go_values | go_skip | go_guarded | go_step | go_upon | go_back)
    go_ret
    exact ⟨by rw [e0]; rfl, rfl⟩
  · have e0 : ltrI x = true := by unfold ltrI; simp; omega
    repeat (first | (with_reducible first | refine then_exit ?_ | refine in_same ?_ | refine then_ret ?_ | refine in_ret ?_) | ((with_reducible refine in_other ?_ ?_); decide) | go_values | go_skip | go_guarded | go_step | go_upon | go_back)
    go_ret
    exact ⟨by rw [e0]; rfl, rfl⟩
  · subst h1
    repeat (first | (with_reducible first | refine then_exit ?_ | refine in_same ?_ | refine then_ret ?_ | refine in_ret ?_) | ((with_reducible refine in_other ?_ ?_); decide) | go_values | go_skip | go_guarded | go_step | go_upon | go_back)
    go_ret
    exact ⟨rfl, rfl⟩
  · have e0 : ltrI x = false := by unfold ltrI; simp; omega
    repeat (first | (with_reducible first | refine then_exit ?_ | refine in_same ?_ | refine then_ret ?_ | refine in_ret ?_) | ((with_reducible refine in_other ?_ ?_); decide) | go_values | go_skip | go_guarded | go_step | go_upon | go_back)
    go_ret
    exact ⟨by rw [e0]; rfl, rfl⟩
  · have e0 : ltrI x = false := by unfold ltrI; simp; omega
    repeat (first | (with_reducible first | refine then_exit ?_ | refine in_same ?_ | refine then_ret ?_ | refine in_ret ?_) | ((with_reducible refine in_other ?_ ?_); decide) | go_values | go_skip | go_guarded | go_step | go_upon | go_back)
    go_ret
    exact ⟨by rw [e0]; rfl, rfl⟩
  · subst h1
    repeat (first | (with_reducible first | refine then_exit ?_ | refine in_same ?_ | refine then_ret ?_ | refine in_ret ?_) | ((with_reducible refine in_other ?_ ?_); decide) | go_values | go_skip | go_guarded | go_step | go_upon | go_back)
    go_ret
    exact ⟨rfl, rfl⟩
  · have e0 : ltrI x = false := by unfold ltrI; simp; omega
    repeat (first | (with_reducible first | refine then_exit ?_ | refine in_same ?_ | refine then_ret ?_ | refine in_ret ?_) | ((with_reducible refine in_other ?_ ?_); decide) | go_values | go_skip | go_guarded | go_step | go_upon | go_back)
    go_ret
    exact ⟨by rw [e0]; rfl, rfl⟩
theorem named_any (x : Int) (f : Bool) (w : World) : Calls Tryd.prog 63 #[.int .u8 x, .bool f] w fun e w' => e = .returned (.bool (namI x f)) ∧ w = w' := by
  cases hd : digI x with
  | true => unfold namI; rw [if_pos hd]; exact named_dig x f hd w
  | false => unfold namI; rw [if_neg (by rw [hd]; simp)]; exact named_let x f hd w
theorem kw_any (l : Bs) (w : World) : Calls Tryd.prog 62 #[.string ⟨l.toArray⟩] w fun e w' => e = .returned (.bool (kwS l)) ∧ w = w' := by
  by_cases h : l ∈ kwL
  · have e : kwS l = true := by unfold kwS; exact List.contains_iff_mem.2 h
    rw [e]
    clear e
    simp only [kwL, List.mem_cons, List.not_mem_nil, or_false] at h
    rcases h with rfl | rfl | rfl | rfl | rfl | rfl | rfl | rfl | rfl | rfl | rfl | rfl | rfl | rfl | rfl <;>
    · go_enter Tryd.func62, Tryd.ntmps62
      repeat (first | (with_reducible first | refine then_exit ?_ | refine in_same ?_ | refine then_ret ?_ | refine in_ret ?_) | ((with_reducible refine in_other ?_ ?_); decide) | go_values | go_skip | go_guarded | go_step | go_upon | go_back)
      go_ret
      exact ⟨rfl, rfl⟩
  · have e : kwS l = false := by
      cases h1 : kwS l with
      | false => rfl
      | true => exact absurd (List.contains_iff_mem.1 h1) h
    rw [e]
    clear e
    simp only [kwL, List.mem_cons, List.not_mem_nil, or_false, not_or] at h
    obtain ⟨h0, h1, h2, h3, h4, h5, h6, h7, h8, h9, h10, h11, h12, h13, h14⟩ := h
    replace h0 := beq_eq_false_iff_ne.2 h0
    replace h1 := beq_eq_false_iff_ne.2 h1
    replace h2 := beq_eq_false_iff_ne.2 h2
    replace h3 := beq_eq_false_iff_ne.2 h3
    replace h4 := beq_eq_false_iff_ne.2 h4
    replace h5 := beq_eq_false_iff_ne.2 h5
    replace h6 := beq_eq_false_iff_ne.2 h6
    replace h7 := beq_eq_false_iff_ne.2 h7
    replace h8 := beq_eq_false_iff_ne.2 h8
    replace h9 := beq_eq_false_iff_ne.2 h9
    replace h10 := beq_eq_false_iff_ne.2 h10
    replace h11 := beq_eq_false_iff_ne.2 h11
    replace h12 := beq_eq_false_iff_ne.2 h12
    replace h13 := beq_eq_false_iff_ne.2 h13
    replace h14 := beq_eq_false_iff_ne.2 h14
    go_enter Tryd.func62, Tryd.ntmps62
    repeat (first | (with_reducible first | refine then_exit ?_ | refine in_same ?_ | refine then_ret ?_ | refine in_ret ?_) | ((with_reducible refine in_other ?_ ?_); decide) | go_values | go_skip | go_guarded | go_step | go_upon | go_back)
    go_ret
    exact ⟨rfl, rfl⟩
end Go.Proofs.YtjibblpfhnigjaaDoor
end
section
namespace Go.Proofs.YtjibblpfhnigjaaDoor
open Go.RowKit
set_option linter.unusedVariables false
set_option linter.unusedSimpArgs false
set_option maxRecDepth 100000
set_option maxHeartbeats 2000000
theorem allN_drop (l : Bs) (k : Nat) (hk : k < l.length) (f : Bool) : allN (l.drop k) f = (namI (bI l[k]) f && allN (l.drop (k + 1)) false) := by
  rw [List.drop_eq_getElem_cons hk]; rfl
theorem name_any (l : Bs) (hl : l.length ≤ 9223372036854775807) (w : World) : Calls Tryd.prog 50 #[.string ⟨l.toArray⟩] w fun e w' => e = .returned (.bool (nameS l)) ∧ w = w' := by
  have hA := Lib.hid hl
  obtain ⟨N, hN⟩ : ∃ N, nameS l = N := ⟨_, rfl⟩
  rw [hN]
  unfold nameS at hN
  have hkw := Lib.hid (kw_any l)
  by_cases h1 : l.length < 1
  · have e : N = false := by rw [← hN]; simp; omega
    subst e
    clear hN hkw
    go_enter Tryd.func50, Tryd.ntmps50
    go_wp2_with fail
    go_ret
    first | exact ⟨rfl, rfl⟩ | exact ⟨trivial, rfl⟩
  · by_cases h2 : 32 < l.length
    · have e : N = false := by rw [← hN]; simp; omega
      subst e
      clear hN hkw
      go_enter Tryd.func50, Tryd.ntmps50
      go_wp2_with fail
      go_ret
      first | exact ⟨rfl, rfl⟩ | exact ⟨trivial, rfl⟩
    · cases h3 : kwS l with
      | true =>
        have e : N = false := by rw [← hN, h3]; simp
        subst e
        clear hN
        rw [h3] at hkw
        go_enter Tryd.func50, Tryd.ntmps50
        go_wp2_with (go_at_call 62; refine (hkw.out _).mono ?_; rintro e w1 ⟨rfl, rfl⟩)
        go_ret
        first | exact ⟨rfl, rfl⟩ | exact ⟨trivial, rfl⟩
      | false =>
        have e : allN l true = N := by
          rw [h3] at hN
          simp at hN
          rw [← hN]
          have : 1 ≤ l.length := by omega
          have : l.length ≤ 32 := by omega
          simp [*]
        clear hN
        rw [h3] at hkw
        have he := Lib.hid e
        clear e
        go_enter Tryd.func50, Tryd.ntmps50
        go_upto_region 3 with (go_at_call 62; refine (hkw.out _).mono ?_; rintro e w1 ⟨rfl, rfl⟩)
        go_wp2_with fail
        go_loopw [18] (fun i wr => ∃ k : Nat, k ≤ l.length ∧ i = .int .i64 k ∧ w = wr ∧ Hid (allN (l.drop k) ((k : Int) == 0) = N)) (fun i _ => l.length - (intOf i).toNat)
        case atStart => exact ⟨0, Nat.zero_le _, rfl, rfl, he⟩
        case round =>
          obtain ⟨k, hk, rfl, rfl, hq⟩ := hrel
          by_cases hlt : k < l.length
          · have hx : ∀ p, ((⟨l.toArray⟩ : ByteArray)[k]'p).toNat = (l[k]).toNat := fun _ => rfl
            have hd := hq.out
            rw [allN_drop l k hlt ((k : Int) == 0)] at hd
            have hlt2 : (k : Int) < (l.length : Int) := by omega
            have hnm := named_any (bI l[k]) ((k : Int) == 0) w
            cases hv : namI (bI l[k]) ((k : Int) == 0) with
            | false =>
              rw [hv] at hd hnm
              have hN : N = false := by rw [← hd]; rfl
              subst hN
              have hnm := Lib.hid hnm
              clear hd hv hq
              go_wp2_with (go_at_call 63; refine (hnm.out).mono ?_; rintro e w1 ⟨rfl, rfl⟩)
              go_ret
              first | exact ⟨rfl, rfl⟩ | exact ⟨trivial, rfl⟩
            | true =>
              rw [hv] at hd hnm
              have hz : (((k + 1 : Nat) : Int) == 0) = false := by simp; omega
              have hN := Lib.hid (show allN (l.drop (k + 1)) (((k + 1 : Nat) : Int) == 0) = N by rw [hz]; exact hd)
              have hnm := Lib.hid hnm
              clear hd hv hq hz
              go_wp2_with (go_at_call 63; refine (hnm.out).mono ?_; rintro e w1 ⟨rfl, rfl⟩)
              exact ⟨⟨k + 1, by omega, (by first | rfl | trivial), (by first | rfl | trivial), hN⟩, by simp [intOf] <;> omega⟩
          · obtain rfl : k = l.length := by omega
            have hN : N = true := by rw [← hq.out, List.drop_length]; rfl
            subst hN
            clear hq
            go_wp2_with fail
            go_ret
            first | exact ⟨rfl, rfl⟩ | exact ⟨trivial, rfl⟩
/-- A slice's bytes. -/
def SrcB (w : World) (A : Option Addr) (xs : Bs) : Prop := 0 < xs.length → ∃ ad : Addr, A = some ad ∧ ∀ (j : Nat) (c : UInt8), xs[j]? = some c → w.cell? (ad.add j) = some (.int .u8 (bI c))
theorem SrcB.cell {w : World} {A : Option Addr} {xs : Bs} (h : SrcB w A xs) (k : Nat) (hk : k < xs.length) : ∃ ad : Addr, A = some ad ∧ w.cell? (ad.add k) = some (.int .u8 (bI xs[k])) := by
  obtain ⟨ad, hA, hc⟩ := h (by omega)
  exact ⟨ad, hA, hc k _ (List.getElem?_eq_getElem hk)⟩
theorem SrcB.nb {w w' : World} {A : Option Addr} {xs : Bs} (h : SrcB w A xs) (k : Nb w w') : SrcB w' A xs := by
  intro h0
  obtain ⟨ad, hA, hc⟩ := h h0
  exact ⟨ad, hA, fun j c hj => k.cell (hc j c hj)⟩
end Go.Proofs.YtjibblpfhnigjaaDoor
end
