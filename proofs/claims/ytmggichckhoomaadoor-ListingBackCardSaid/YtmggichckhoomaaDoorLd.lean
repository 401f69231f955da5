/-
  Proved here: decimal numerals, and texts that are cut at blanks; no program. Conditions: none.
-/
import Derived.Shelf.Strconv.ErrVarAll
import Derived.Shelf.Strings.Cut
import Derived.Shelf.Strconv.Itoa3
import Derived.Lib.Strings
import Derived.Lib.IndexMore
namespace Go.Proofs.YtmggichckhoomaaDoor
set_option linter.unusedVariables false
abbrev Bs := List UInt8
/-! Numerals. -/
theorem ofNat_dig (d : Nat) (h : d < 10) : (UInt8.ofNat (48 + d)).toNat = 48 + d := by
  rw [UInt8.toNat_ofNat']; omega
theorem dec_lt (u : Nat) (h : u < 10) : Lib.decDigits u = [UInt8.ofNat (48 + u)] := by rw [Lib.decDigits, dif_pos h]
theorem dec_ge (u : Nat) (h : ¬ u < 10) : Lib.decDigits u = Lib.decDigits (u / 10) ++ [UInt8.ofNat (48 + u % 10)] := by rw [Lib.decDigits, dif_neg h]
theorem dec_chars (u : Nat) : ∀ c ∈ Lib.decDigits u, 48 ≤ c.toNat ∧ c.toNat ≤ 57 := by
  induction u using Nat.strongRecOn with
  | _ u ih =>
    by_cases h : u < 10
    · rw [dec_lt u h]; intro c hc
      obtain rfl := List.mem_singleton.1 hc
      rw [ofNat_dig u h]; omega
    · rw [dec_ge u h]; intro c hc
      rcases List.mem_append.1 hc with hc | hc
      · exact ih _ (by omega) c hc
      · obtain rfl := List.mem_singleton.1 hc
        rw [ofNat_dig _ (by omega)]; omega
theorem dec_ne (u : Nat) : Lib.decDigits u ≠ [] := by
  by_cases h : u < 10
  · rw [dec_lt u h]; simp
  · rw [dec_ge u h]; simp
theorem parse_app (l r : Bs) (acc a : Nat) (h : Lib.parseUint10 acc l = .ok a) : Lib.parseUint10 acc (l ++ r) = Lib.parseUint10 a r := by
  induction l generalizing acc with
  | nil => simp only [Lib.parseUint10] at h; injection h with h; subst h; rfl
  | cons c l ih =>
    simp only [Lib.parseUint10, List.cons_append] at h ⊢
    split at h
    · rename_i h1; rw [if_pos h1]
      split at h
      · cases h
      · rename_i h2; rw [if_neg h2]
        split at h
        · cases h
        · rename_i h3; rw [if_neg h3]; exact ih _ h
    · cases h
theorem parse_dec (u : Nat) (hu : u < 18446744073709551616) : Lib.parseUint10 0 (Lib.decDigits u) = .ok u := by
  induction u using Nat.strongRecOn with
  | _ u ih =>
    by_cases h : u < 10
    · rw [dec_lt u h]; simp only [Lib.parseUint10]
      rw [ofNat_dig u h, if_pos (by omega), if_neg (by omega), if_neg (by omega)]
      congr 1; omega
    · rw [dec_ge u h, parse_app _ _ _ _ (ih (u / 10) (by omega) (by omega))]
      simp only [Lib.parseUint10]
      rw [ofNat_dig _ (by omega), if_pos (by omega), if_neg (by omega), if_neg (by omega)]
      congr 1; omega
theorem atoi_itoa (n : Int) (h0 : -9223372036854775808 ≤ n) (h1 : n ≤ 9223372036854775807) : Lib.atoiAll (Lib.itoa n) = .ok n := by
  unfold Lib.itoa
  by_cases h : n < 0
  · rw [if_pos h]
    unfold Lib.atoiAll Lib.parseMag
    simp only [show (45 : UInt8).toNat = 45 from rfl]
    rw [if_pos (Or.inr trivial), if_neg (dec_ne _), parse_dec _ (by omega)]
    simp only [not_true_eq_false, false_and, if_false, true_and, if_true]
    rw [if_neg (by omega)]
    congr 1; omega
  · rw [if_neg h]
    generalize hd : Lib.decDigits n.toNat = l
    have hc := dec_chars n.toNat
    have hp := parse_dec n.toNat (by omega)
    rw [hd] at hc hp
    cases l with
    | nil => exact absurd hd (dec_ne _)
    | cons c r =>
      have h2 := hc c (List.mem_cons_self ..)
      unfold Lib.atoiAll Lib.parseMag
      simp only []
      rw [if_neg (show ¬ (c.toNat = 43 ∨ c.toNat = 45) by omega), if_neg (by simp), hp]
      simp only [show ¬ c.toNat = 45 by omega, not_false_eq_true, true_and, false_and, if_false]
      rw [if_neg (by omega)]
      congr 1; omega
theorem itoa_inj (a b : Int) (a0 : -9223372036854775808 ≤ a) (a1 : a ≤ 9223372036854775807) (b0 : -9223372036854775808 ≤ b) (b1 : b ≤ 9223372036854775807) (h : Lib.itoa a = Lib.itoa b) : a = b := by
  have h1 := atoi_itoa a a0 a1
  rw [h, atoi_itoa b b0 b1] at h1
  injection h1 with h1; exact h1.symm
theorem itoa_chars (n : Int) : ∀ c ∈ Lib.itoa n, c.toNat = 45 ∨ (48 ≤ c.toNat ∧ c.toNat ≤ 57) := by
  unfold Lib.itoa; intro c hc
  split at hc
  · rcases List.mem_cons.1 hc with rfl | hc
    · exact Or.inl rfl
    · exact Or.inr (dec_chars _ c hc)
  · exact Or.inr (dec_chars _ c hc)
theorem itoa_no (n : Int) (x : UInt8) (hx : x.toNat ≠ 45) (h2 : x.toNat < 48 ∨ 57 < x.toNat) : x ∉ Lib.itoa n := by
  intro h; have := itoa_chars n x h; omega
theorem dec_len (u k : Nat) (hk : 1 ≤ k) (h : u < 10 ^ k) : (Lib.decDigits u).length ≤ k := by
  induction u using Nat.strongRecOn generalizing k with
  | _ u ih =>
    by_cases h1 : u < 10
    · rw [dec_lt u h1]; simpa using hk
    · rw [dec_ge u h1, List.length_append]
      have : 2 ≤ k := by
        rcases Nat.lt_or_ge k 2 with h2 | h2
        · obtain rfl : k = 1 := by omega
          omega
        · exact h2
      have := ih (u / 10) (by omega) (k - 1) (by omega) (by
        have e : k = (k - 1) + 1 := by omega
        rw [e, Nat.pow_succ] at h
        omega)
      simp; omega
/-! Cut at one byte. -/
theorem index_no (l : Bs) (c : UInt8) (h : c ∉ l) : Lib.index l [c] = -1 := by
  induction l with
  | nil => rfl
  | cons b l ih =>
    simp only [Lib.index]
    rw [if_neg (by simp [List.isPrefixOf]; exact fun e => h (by rw [e]; exact List.mem_cons_self ..)), ih (fun hc => h (List.mem_cons_of_mem _ hc))]
    rfl
theorem index_at (a b : Bs) (c : UInt8) (h : c ∉ a) : Lib.index (a ++ c :: b) [c] = a.length := by
  induction a with
  | nil => simp [Lib.index, List.isPrefixOf]
  | cons x a ih =>
    simp only [Lib.index, List.cons_append]
    rw [if_neg (by simp [List.isPrefixOf]; exact fun e => h (by rw [e]; exact List.mem_cons_self ..)), ih (fun hc => h (List.mem_cons_of_mem _ hc))]
    rw [if_neg (by simp)]; simp
theorem cut_no (l : Bs) (c : UInt8) (h : c ∉ l) : Lib.cut l [c] = (l, [], false) := by
  unfold Lib.cut; rw [index_no l c h, if_neg (by decide)]
theorem cut_at (a b : Bs) (c : UInt8) (h : c ∉ a) : Lib.cut (a ++ c :: b) [c] = (a, b, true) := by
  unfold Lib.cut; rw [index_at a b c h, if_pos (by omega)]
  simp
theorem cut_piece (w T : Bs) (c : UInt8) (h : c ∉ w) (hT : T = [] ∨ ∃ r, T = c :: r) : (Lib.cut (w ++ T) [c]).1 = w ∧ (Lib.cut (w ++ T) [c]).2.1 = T.drop 1 := by
  rcases hT with rfl | ⟨r, rfl⟩
  · rw [List.append_nil, cut_no w c h]; exact ⟨rfl, rfl⟩
  · rw [cut_at w r c h]; exact ⟨rfl, rfl⟩
end Go.Proofs.YtmggichckhoomaaDoor
