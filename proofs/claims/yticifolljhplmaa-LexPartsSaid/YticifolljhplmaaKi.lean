/-
  Proved here: of the reference: letter, digit, word, Keyword, Name, run, skip, number. Conditions: the slice holds the source.
-/
import Derived.Test.YticifolljhplmaaKc
namespace Go.Proofs.Yticifolljhplmaa
open Go.RowKit
set_option linter.unusedVariables false
set_option linter.unusedSimpArgs false
set_option maxRecDepth 100000
set_option maxHeartbeats 2000000
theorem rdigit_any (x : Int) (w : World) : Calls Try.prog 47 #[.int .u8 x] w fun e w' => e = .returned (.bool (digI x)) ∧ w = w' := by
  unfold digI
  by_cases h1 : 48 ≤ x
  · by_cases h2 : x ≤ 57
    · go_enter Try.func47, Try.ntmps47
      go_wp2
      go_ret
      exact ⟨by simp [h1, h2], rfl⟩
    · go_enter Try.func47, Try.ntmps47
      go_wp2
      go_ret
      exact ⟨by simp [h1]; omega, rfl⟩
  · go_enter Try.func47, Try.ntmps47
    go_wp2
    go_ret
    exact ⟨by simp; omega, rfl⟩
theorem rletter_any (x : Int) (w : World) : Calls Try.prog 45 #[.int .u8 x] w fun e w' => e = .returned (.bool (ltrI x)) ∧ w = w' := by
  have hq : (97 ≤ x ∧ x ≤ 122) ∨ (65 ≤ x ∧ x ≤ 90) ∨ x = 95 ∨ (x < 65) ∨ (90 < x ∧ x < 95) ∨ x = 96 ∨ 122 < x := by omega
  obtain ⟨N, hN⟩ : ∃ N, ltrI x = N := ⟨_, rfl⟩
  rw [hN]
  unfold ltrI at hN
  rcases hq with ⟨h1, h2⟩ | ⟨h1, h2⟩ | h1 | h1 | ⟨h1, h2⟩ | h1 | h1
  · obtain rfl : N = true := by rw [← hN]; simp; omega
    clear hN
    go_enter Try.func45, Try.ntmps45
    go_wp2
    go_ret
    exact ⟨by simp; try omega, rfl⟩
  · obtain rfl : N = true := by rw [← hN]; simp; omega
    clear hN
    have h3 : ¬ 97 ≤ x := by omega
    go_enter Try.func45, Try.ntmps45
    go_wp2
    go_ret
    exact ⟨by simp; try omega, rfl⟩
  · subst h1
    obtain rfl : N = true := by rw [← hN]; rfl
    clear hN
    go_enter Try.func45, Try.ntmps45
    go_wp2
    go_ret
    exact ⟨by simp, rfl⟩
  all_goals
    obtain rfl : N = false := by rw [← hN]; simp; omega
    clear hN
    go_enter Try.func45, Try.ntmps45
    go_wp2
    go_ret
    exact ⟨by simp; try omega, rfl⟩
theorem nam_cases (x : Int) (f : Bool) : namI x f = (ltrI x || (!f && digI x)) := by
  unfold namI
  cases hd : digI x with
  | true =>
    have : ltrI x = false := by
      cases h : ltrI x with
      | false => rfl
      | true => rw [ltr_nodig h] at hd; cases hd
    rw [this]; cases f <;> rfl
  | false => cases f <;> simp
theorem rword_any (l : Bs) (hl : l.length ≤ 9223372036854775807) (w : World) : Calls Try.prog 35 #[.string ⟨l.toArray⟩] w fun e w' => e = .returned (.bool (decide (1 ≤ l.length) && allN l true)) ∧ w = w' := by
  have hA := Lib.hid hl
  obtain ⟨N, hN⟩ : ∃ N, allN l true = N := ⟨_, rfl⟩
  rw [hN]
  have he := Lib.hid hN
  clear hN
  go_enter Try.func35, Try.ntmps35
  go_wp2_with fail
  go_loopw [3] (fun i wr => ∃ k : Nat, k ≤ l.length ∧ i = .int .i64 k ∧ w = wr ∧ Hid (allN (l.drop k) ((k : Int) == 0) = N)) (fun i _ => l.length - (intOf i).toNat)
  case atStart => exact ⟨0, Nat.zero_le _, rfl, rfl, he⟩
  case round =>
    obtain ⟨k, hk, rfl, rfl, hq⟩ := hrel
    by_cases hlt : k < l.length
    · have hx : ∀ p, ((⟨l.toArray⟩ : ByteArray)[k]'p).toNat = (l[k]).toNat := fun _ => rfl
      have hd := hq.out
      rw [allN_drop l k hlt ((k : Int) == 0), nam_cases] at hd
      have hlt2 : (k : Int) < (l.length : Int) := by omega
      have hl1 := rletter_any (bI l[k]) w
      have hd1 := rdigit_any (bI l[k]) w
      have hz : (((k + 1 : Nat) : Int) == 0) = false := by simp; omega
      have hlen : 1 ≤ l.length := by omega
      cases h1 : ltrI (bI l[k]) with
      | true =>
        rw [h1] at hd hl1
        have hN := Lib.hid (show allN (l.drop (k + 1)) (((k + 1 : Nat) : Int) == 0) = N by rw [hz]; simpa using hd)
        have hl1 := Lib.hid hl1
        clear hd hd1 hq hz h1
        go_wp2_with (go_at_call 45; refine (hl1.out).mono ?_; rintro e w1 ⟨rfl, rfl⟩)
        exact ⟨⟨k + 1, by omega, (by first | rfl | trivial), (by first | rfl | trivial), hN⟩, by simp [intOf] <;> omega⟩
      | false =>
        rw [h1] at hd hl1
        by_cases hk0 : (k : Int) = 0
        · have hN : N = false := by rw [← hd, show ((k : Int) == 0) = true by rw [hk0]; rfl]; rfl
          subst hN
          have hl1 := Lib.hid hl1
          have hk1 : ((k : Int) == 0) = true := by rw [hk0]; rfl
          clear hk0 hd hd1 hq hz h1
          go_wp2_with (go_at_call 45; refine (hl1.out).mono ?_; rintro e w1 ⟨rfl, rfl⟩)
          go_ret
          exact ⟨by simp, rfl⟩
        · have hk1 : ((k : Int) == 0) = false := by simpa using hk0
          rw [hk1] at hd
          cases h2 : digI (bI l[k]) with
          | true =>
            rw [h2] at hd hd1
            have hN := Lib.hid (show allN (l.drop (k + 1)) (((k + 1 : Nat) : Int) == 0) = N by rw [hz]; simpa using hd)
            have hl1 := Lib.hid hl1
            have hd1 := Lib.hid hd1
            clear hd hq hz h1 h2
            go_wp2_with (first | (go_at_call 45; refine (hl1.out).mono ?_; rintro e w1 ⟨rfl, rfl⟩) | (go_at_call 47; refine (hd1.out).mono ?_; rintro e w1 ⟨rfl, rfl⟩))
            exact ⟨⟨k + 1, by omega, (by first | rfl | trivial), (by first | rfl | trivial), hN⟩, by simp [intOf] <;> omega⟩
          | false =>
            rw [h2] at hd hd1
            have hN : N = false := by rw [← hd]; rfl
            subst hN
            have hl1 := Lib.hid hl1
            have hd1 := Lib.hid hd1
            clear hd hq hz h1 h2
            go_wp2_with (first | (go_at_call 45; refine (hl1.out).mono ?_; rintro e w1 ⟨rfl, rfl⟩) | (go_at_call 47; refine (hd1.out).mono ?_; rintro e w1 ⟨rfl, rfl⟩))
            go_ret
            exact ⟨by simp, rfl⟩
    · obtain rfl : k = l.length := by omega
      have hN : N = true := by rw [← hq.out, List.drop_length]; rfl
      subst hN
      clear hq
      cases l with
      | nil =>
        go_wp2_with fail
        go_ret
        exact ⟨by simp, rfl⟩
      | cons c r =>
        have hne : ((c :: r : Bs) == []) = false := rfl
        go_wp2_with fail
        go_ret
        exact ⟨by simp, rfl⟩
theorem kw_row : #[.string ⟨#[97, 99, 116, 111, 114]⟩, .string ⟨#[109, 97, 105, 110]⟩, .string ⟨#[108, 101, 116]⟩, .string ⟨#[115, 112, 97, 119, 110]⟩, .string ⟨#[115, 101, 110, 100]⟩, .string ⟨#[111, 117, 116]⟩, .string ⟨#[98, 101, 99, 111, 109, 101]⟩, .string ⟨#[115, 116, 111, 112]⟩, .string ⟨#[105, 102]⟩, .string ⟨#[101, 108, 115, 101]⟩, .string ⟨#[114, 101, 99, 101, 105, 118, 101]⟩, .string ⟨#[119, 104, 101, 110]⟩, .string ⟨#[97, 102, 116, 101, 114]⟩, .string ⟨#[115, 101, 108, 102]⟩, .string ⟨#[95]⟩] = (kwL.map fun t => Value.string ⟨t.toArray⟩).toArray := rfl
theorem rkw_any (l : Bs) (w : World) : Calls Try.prog 22 #[.string ⟨l.toArray⟩] w fun e w' => e = .returned (.bool (kwS l)) ∧ Nb w w' := by
  obtain ⟨N, hN⟩ : ∃ N, kwS l = N := ⟨_, rfl⟩
  rw [hN]
  have he := Lib.hid (show (kwL.drop 0).contains l = N from hN)
  clear hN
  go_enter Try.func22, Try.ntmps22
  go_upto_region 2 with (fail)
  rw [kw_row]
  obtain ⟨W1, hW⟩ : ∃ W1, w.alloc (Obj.cells (kwL.map fun t => Value.string ⟨t.toArray⟩).toArray 9) = W1 := ⟨_, rfl⟩
  have n1 : Nb w W1 := by rw [← hW]; exact (Nb.refl _).alloc _
  have b1 : W1.heap[w.heap.size]? = some (.cells (kwL.map fun t => Value.string ⟨t.toArray⟩).toArray 9 (0, 0)) := by rw [← hW]; exact new_blk w _ rfl
  have hcl : Hid (∀ k (h : k < kwL.length), W1.cell? ⟨w.heap.size, k, none⟩ = some (.string ⟨(kwL[k]).toArray⟩)) := Lib.hid fun k h => cell_of_row _ _ k _ _ _ b1 |>.trans (by simp [h])
  rw [hW]
  clear hW b1
  go_wp2_with fail
  go_loopw [4] (fun i wr => ∃ k : Nat, k ≤ 15 ∧ i = .int .i64 k ∧ W1 = wr ∧ Hid ((kwL.drop k).contains l = N)) (fun i _ => 15 - (intOf i).toNat)
  case atStart => exact ⟨0, Nat.zero_le _, rfl, rfl, he⟩
  case round =>
    obtain ⟨k, hk, rfl, rfl, hq⟩ := hrel
    by_cases hlt : k < kwL.length
    · have c0 := hcl.out k hlt
      have hd := hq.out
      rw [List.drop_eq_getElem_cons hlt, List.contains_cons] at hd
      have hlt2 : (k : Int) < 15 := by have : kwL.length = 15 := rfl; omega
      have hlt3 : k < 15 := by have : kwL.length = 15 := rfl; omega
      generalize kwL[k] = t at *
      cases ht : (t == l) with
      | true =>
        have hN : N = true := by rw [← hd, beq_iff_eq.1 ht]; simp
        subst hN
        clear hd hq hlt
        go_wp2_with fail
        go_ret
        exact ⟨rfl, n1⟩
      | false =>
        have hN := Lib.hid (show (kwL.drop (k + 1)).contains l = N by
          have ht' : (l == t) = false := by rw [BEq.comm]; exact ht
          rw [ht'] at hd; simpa using hd)
        clear hd hq hlt
        go_wp2_with fail
        exact ⟨⟨k + 1, by omega, (by first | rfl | trivial), (by first | rfl | trivial), hN⟩, by simp [intOf] <;> omega⟩
    · obtain rfl : k = 15 := by have : kwL.length = 15 := rfl; omega
      have hN : N = false := by rw [← hq.out]; rfl
      subst hN
      clear hq hlt
      go_wp2_with fail
      go_ret
      exact ⟨rfl, n1⟩
theorem rname_any (l : Bs) (hl : l.length ≤ 9223372036854775807) (w : World) : Calls Try.prog 24 #[.string ⟨l.toArray⟩] w fun e w' => e = .returned (.bool (nameS l)) ∧ Nb w w' := by
  have hA := Lib.hid hl
  obtain ⟨N, hN⟩ : ∃ N, nameS l = N := ⟨_, rfl⟩
  rw [hN]
  unfold nameS at hN
  have hkw := Lib.hid (rkw_any l)
  have hwd := Lib.hid (rword_any l hl)
  by_cases h2 : (l.length : Int) ≤ 32
  · have e2 : decide (l.length ≤ 32) = true := by simp; omega
    rw [e2] at hN
    cases h3 : (decide (1 ≤ l.length) && allN l true) with
    | false =>
      have e : N = false := by
        rw [← hN]
        cases h4 : decide (1 ≤ l.length) with
        | false => rfl
        | true => rw [h4] at h3; simp at h3; rw [h3]; simp
      subst e
      rw [h3] at hwd
      clear hN h3 e2
      go_enter Try.func24, Try.ntmps24
      go_wp2_with (go_at_call 35; refine (hwd.out _).mono ?_; rintro e w1 ⟨rfl, rfl⟩)
      go_ret
      exact ⟨by simp, Nb.refl _⟩
    | true =>
      have e : N = !kwS l := by
        rw [← hN]
        simp at h3
        rw [h3.2]
        simp
        omega
      subst e
      rw [h3] at hwd
      clear hN h3 e2
      obtain ⟨b, hb⟩ : ∃ b, kwS l = b := ⟨_, rfl⟩
      rw [hb] at hkw ⊢
      clear hb
      go_enter Try.func24, Try.ntmps24
      go_wp2_with (first | (go_at_call 35; refine (hwd.out _).mono ?_; rintro e w1 ⟨rfl, rfl⟩) | (go_at_call 22; refine (hkw.out _).mono ?_; rintro e w2 ⟨rfl, n2⟩))
      go_ret
      exact ⟨by simp, n2⟩
  · have e : N = false := by rw [← hN]; simp; omega
    subst e
    clear hN hkw hwd
    go_enter Try.func24, Try.ntmps24
    go_wp2_with fail
    go_ret
    exact ⟨by simp, Nb.refl _⟩
end Go.Proofs.Yticifolljhplmaa
