/-
  Proved here: the numbers of a text, the reference's. Conditions: none.
-/
import Derived.Test.YtmggichckhoomaaDoorLk
import Derived.Test.YtmggichckhoomaaDoorLe
namespace Go.Proofs.YtmggichckhoomaaDoor
open Go.ChangeShapes Go.WideShapes Go.ChangeAt Go.RowKit
set_option linter.unusedVariables false
set_option linter.unusedSimpArgs false
def decs : Bs → Nat → Option Nat
  | [], a => some a
  | c :: r, a => if c.toNat < 48 ∨ 57 < c.toNat then none else decs r (10 * a + (c.toNat - 48))
def fromN (l : Bs) : Nat := if l.head? = some 45 then 1 else 0
def valN (l : Bs) : Int :=
  if l.length = fromN l ∨ 11 < l.length then 0 else
    match decs (l.drop (fromN l)) 0 with
    | none => 0
    | some n => if fromN l = 1 then -(n : Int) else n
theorem decs_at (l : Bs) (k a : Nat) (h : k < l.length) : decs (l.drop k) a = if l[k].toNat < 48 ∨ 57 < l[k].toNat then none else decs (l.drop (k + 1)) (10 * a + (l[k].toNat - 48)) := by
  rw [List.drop_eq_getElem_cons h]; rfl
theorem decs_end (l : Bs) (a : Nat) : decs (l.drop l.length) a = some a := by rw [List.drop_length]; rfl
theorem pow11 (a k : Nat) (h : a < 10 ^ k) (hk : k ≤ 11) : a < 100000000000 := Nat.lt_of_lt_of_le h (Nat.le_trans (Nat.pow_le_pow_right (by decide) hk) (by decide))
theorem pow_next (a k d : Nat) (h : a < 10 ^ k) (hd : d < 10) : 10 * a + d < 10 ^ (k + 1) := by
  rw [Nat.pow_succ]; omega
theorem data_at (l : Bs) (k : Nat) (h : k < l.length) (p : k < (⟨l.toArray⟩ : ByteArray).size) : ((⟨l.toArray⟩ : ByteArray)[k]'p).toNat = l[k].toNat := rfl
theorem fit_tup {a b : Int} {v : Value} (h : a = b) : Ending.returned (.tuple #[.int .i64 a, v]) = .returned (.tuple #[.int .i64 b, v]) := by rw [h]
theorem at_k (l : Bs) (k a : Nat) (h : k < l.length) : ∃ x : Nat, x < 256 ∧ (∀ p, ((⟨l.toArray⟩ : ByteArray)[k]'p).toNat = x) ∧ decs (l.drop k) a = if x < 48 ∨ 57 < x then none else decs (l.drop (k + 1)) (10 * a + (x - 48)) :=
  ⟨l[k].toNat, l[k].toNat_lt, data_at l k h, decs_at l k a h⟩
set_option maxRecDepth 100000 in
set_option maxHeartbeats 4000000 in
theorem value_1 (l : Bs) (h1 : l.length ≤ 1000000) (h0 : 0 < l.length) (hF : fromN l = 1) (hc : ∀ p, ((((⟨l.toArray⟩ : ByteArray)[0]'p).toNat : Int) == 45) = true) (w : World) :
    Calls Tryd.prog 50 #[.string ⟨l.toArray⟩] w fun e w' => (∃ v : Value, e = .returned (.tuple #[.int .i64 (valN l), v])) ∧ Nb w w' := by
  go_enter Tryd.func50, Tryd.ntmps50
  by_cases hb : l.length = 1 ∨ 11 < l.length
  · have hv := Lib.hid (show valN l = 0 by unfold valN; rw [if_pos (by rw [hF]; exact hb)])
    by_cases hb1 : l.length = 1
    · clear hb
      go_wp2_with fail
      go_ret2
      exact ⟨⟨_, fit_tup hv.out.symm⟩, Nb.refl _⟩
    · have hb2 : 11 < l.length := by omega
      clear hb
      go_wp2_with fail
      go_ret2
      exact ⟨⟨_, fit_tup hv.out.symm⟩, Nb.refl _⟩
  · have g1 : ¬ l.length = 1 := by omega
    have g2 : l.length ≤ 11 := by omega
    have hv := Lib.hid (show valN l = (match decs (l.drop 1) 0 with | none => (0 : Int) | some n => -(n : Int)) by
      unfold valN; rw [if_neg (by rw [hF]; exact hb), hF]; simp only [if_true])
    have e1 : ((l.length : Int) == 1) = false := beq_eq_false_iff_ne.2 (by omega)
    clear hb
    go_wp2_with fail
    clear hc e1
    go_loop [4, 6] (fun n i => ∃ k a : Nat, 1 ≤ k ∧ k ≤ l.length ∧ n = .int .i64 a ∧ i = .int .i64 k ∧ a < 10 ^ k ∧ decs (l.drop 1) 0 = decs (l.drop k) a) (fun _ i => l.length - (intOf i).toNat)
    case atStart => exact ⟨1, 0, Nat.le_refl _, by omega, rfl, rfl, by decide, rfl⟩
    case round =>
      obtain ⟨k, a, kF, hk, rfl, rfl, ha, hd⟩ := hrel
      have hd := Lib.hid hd
      have ha1 := pow11 a k ha (by omega)
      have ha := Lib.hid ha
      rename_i hd_ ha_
      clear hd_ ha_
      by_cases hlt : k < l.length
      · obtain ⟨x, hxr, hx, hs⟩ := at_k l k a hlt
        have hs := Lib.hid hs
        rename_i hs_
        clear hs_
        clear hk
        have none_ := Lib.hid (show (x < 48 ∨ 57 < x) → valN l = 0 from fun c => by rw [hv.out, hd.out, hs.out, if_pos c])
        by_cases c1 : (x : Int) < 48
        · go_wp2_with fail
          go_ret2
          exact ⟨⟨_, fit_tup (none_.out (by omega)).symm⟩, Nb.refl _⟩
        · by_cases c2 : (57 : Int) < x
          · go_wp2_with fail
            go_ret2
            exact ⟨⟨_, fit_tup (none_.out (by omega)).symm⟩, Nb.refl _⟩
          · go_wp2_with fail
            exact ⟨⟨k + 1, 10 * a + (x - 48), by omega, hlt, val_int (by omega), rfl, pow_next a k _ ha.out (by omega), by rw [hd.out, hs.out, if_neg (by omega)]⟩, by simp [intOf]; omega⟩
      · have hkk : k = l.length := by omega
        subst hkk
        have hs := Lib.hid (decs_end l a)
        clear hlt hk
        have he := Lib.hid (show valN l = -(a : Int) by rw [hv.out, hd.out, hs.out])
        go_wp2_with fail
        refine (number_any _ (by omega) (by omega) _).mono ?_
        rintro e w1 ⟨rfl, hn⟩
        go_wp2_with fail
        go_ret2
        exact ⟨⟨_, fit_tup he.out.symm⟩, hn⟩
set_option maxRecDepth 100000 in
set_option maxHeartbeats 4000000 in
theorem value_0 (l : Bs) (h1 : l.length ≤ 1000000) (h0 : 0 < l.length) (hF : fromN l = 0) (hc : ∀ p, ((((⟨l.toArray⟩ : ByteArray)[0]'p).toNat : Int) == 45) = false) (w : World) :
    Calls Tryd.prog 50 #[.string ⟨l.toArray⟩] w fun e w' => (∃ v : Value, e = .returned (.tuple #[.int .i64 (valN l), v])) ∧ Nb w w' := by
  go_enter Tryd.func50, Tryd.ntmps50
  by_cases hb : l.length = 0 ∨ 11 < l.length
  · have hv := Lib.hid (show valN l = 0 by unfold valN; rw [if_pos (by rw [hF]; exact hb)])
    by_cases hb1 : l.length = 0
    · clear hb
      go_wp2_with fail
      go_ret2
      exact ⟨⟨_, fit_tup hv.out.symm⟩, Nb.refl _⟩
    · have hb2 : 11 < l.length := by omega
      clear hb
      go_wp2_with fail
      go_ret2
      exact ⟨⟨_, fit_tup hv.out.symm⟩, Nb.refl _⟩
  · have g1 : ¬ l.length = 0 := by omega
    have g2 : l.length ≤ 11 := by omega
    have hv := Lib.hid (show valN l = (match decs (l.drop 0) 0 with | none => (0 : Int) | some n => (n : Int)) by
      unfold valN; rw [if_neg (by rw [hF]; exact hb), hF]; simp only [Nat.zero_ne_one, if_false])
    have e1 : ((l.length : Int) == 0) = false := beq_eq_false_iff_ne.2 (by omega)
    clear hb
    go_wp2_with fail
    clear hc e1
    go_loop [4, 6] (fun n i => ∃ k a : Nat, 0 ≤ k ∧ k ≤ l.length ∧ n = .int .i64 a ∧ i = .int .i64 k ∧ a < 10 ^ k ∧ decs (l.drop 0) 0 = decs (l.drop k) a) (fun _ i => l.length - (intOf i).toNat)
    case atStart => exact ⟨0, 0, Nat.le_refl _, by omega, rfl, rfl, by decide, rfl⟩
    case round =>
      obtain ⟨k, a, kF, hk, rfl, rfl, ha, hd⟩ := hrel
      have hd := Lib.hid hd
      have ha1 := pow11 a k ha (by omega)
      have ha := Lib.hid ha
      rename_i hd_ ha_
      clear hd_ ha_
      by_cases hlt : k < l.length
      · obtain ⟨x, hxr, hx, hs⟩ := at_k l k a hlt
        have hs := Lib.hid hs
        rename_i hs_
        clear hs_
        clear hk
        have none_ := Lib.hid (show (x < 48 ∨ 57 < x) → valN l = 0 from fun c => by rw [hv.out, hd.out, hs.out, if_pos c])
        by_cases c1 : (x : Int) < 48
        · go_wp2_with fail
          go_ret2
          exact ⟨⟨_, fit_tup (none_.out (by omega)).symm⟩, Nb.refl _⟩
        · by_cases c2 : (57 : Int) < x
          · go_wp2_with fail
            go_ret2
            exact ⟨⟨_, fit_tup (none_.out (by omega)).symm⟩, Nb.refl _⟩
          · go_wp2_with fail
            exact ⟨⟨k + 1, 10 * a + (x - 48), by omega, hlt, val_int (by omega), rfl, pow_next a k _ ha.out (by omega), by rw [hd.out, hs.out, if_neg (by omega)]⟩, by simp [intOf]; omega⟩
      · have hkk : k = l.length := by omega
        subst hkk
        have hs := Lib.hid (decs_end l a)
        clear hlt hk
        have he := Lib.hid (show valN l = (a : Int) by rw [hv.out, hd.out, hs.out])
        go_wp2_with fail
        refine (number_any _ (by omega) (by omega) _).mono ?_
        rintro e w1 ⟨rfl, hn⟩
        go_wp2_with fail
        go_ret2
        exact ⟨⟨_, fit_tup he.out.symm⟩, hn⟩
set_option maxRecDepth 100000 in
set_option maxHeartbeats 4000000 in
theorem value_n (w : World) :
    Calls Tryd.prog 50 #[.string ⟨([] : Bs).toArray⟩] w fun e w' => (∃ v : Value, e = .returned (.tuple #[.int .i64 (valN []), v])) ∧ Nb w w' := by
  have hv := Lib.hid (show valN [] = 0 from rfl)
  go_enter Tryd.func50, Tryd.ntmps50
  go_wp2_with fail
  go_ret2
  exact ⟨⟨_, fit_tup hv.out.symm⟩, Nb.refl _⟩
theorem value_any (l : Bs) (h1 : l.length ≤ 1000000) (w : World) :
    Calls Tryd.prog 50 #[.string ⟨l.toArray⟩] w fun e w' => (∃ v : Value, e = .returned (.tuple #[.int .i64 (valN l), v])) ∧ Nb w w' := by
  cases l with
  | nil => exact value_n w
  | cons c r =>
    by_cases hc : c = 45
    · subst hc
      exact value_1 _ h1 (Nat.succ_pos _) rfl (fun _ => rfl) w
    · refine value_0 _ h1 (Nat.succ_pos _) (by unfold fromN; rw [if_neg (by simp; exact hc)]) (fun _ => ?_) w
      rw [beq_eq_false_iff_ne]
      intro e
      apply hc
      apply UInt8.toNat_inj.1
      show c.toNat = 45
      have : ((c.toNat : Int)) = 45 := e
      omega
theorem decs_room : ∀ (l : Bs) (a n : Nat), decs l a = some n → n < (a + 1) * 10 ^ l.length
  | [], a, n, h => by simp only [decs] at h; injection h with h; subst h; simp
  | c :: r, a, n, h => by
    simp only [decs] at h
    split at h
    · cases h
    · rename_i hc
      have h2 := decs_room r _ n h
      have : 10 * a + (c.toNat - 48) + 1 ≤ (a + 1) * 10 := by omega
      have h3 := Nat.mul_le_mul_right (10 ^ r.length) this
      rw [List.length_cons, Nat.pow_succ]
      calc n < (10 * a + (c.toNat - 48) + 1) * 10 ^ r.length := h2
        _ ≤ (a + 1) * 10 * 10 ^ r.length := h3
        _ = (a + 1) * (10 ^ r.length * 10) := by rw [Nat.mul_assoc, Nat.mul_comm 10]
theorem valN_in (l : Bs) : -9223372036854775808 ≤ valN l ∧ valN l < 9223372036854775808 := by
  unfold valN
  split
  · exact ⟨by decide, by decide⟩
  · rename_i hb
    split
    · exact ⟨by decide, by decide⟩
    · rename_i n hn
      have h1 := decs_room _ _ _ hn
      have h2 : (l.drop (fromN l)).length ≤ 11 := by simp; omega
      have h3 : 10 ^ (l.drop (fromN l)).length ≤ 10 ^ 11 := Nat.pow_le_pow_right (by decide) h2
      have h4 : (10 : Nat) ^ 11 = 100000000000 := by decide
      split <;> omega
theorem decs_app (l r : Bs) (a b : Nat) (h : decs l a = some b) : decs (l ++ r) a = decs r b := by
  induction l generalizing a with
  | nil => simp only [decs] at h; injection h with h; subst h; rfl
  | cons c l ih =>
    simp only [decs, List.cons_append] at h ⊢
    split at h
    · cases h
    · rename_i hc; rw [if_neg hc]; exact ih _ h
theorem decs_dec (u : Nat) : decs (Lib.decDigits u) 0 = some u := by
  induction u using Nat.strongRecOn with
  | _ u ih =>
    by_cases h : u < 10
    · rw [dec_lt u h]; simp only [decs]
      rw [ofNat_dig u h, if_neg (by omega)]
      congr 1; omega
    · rw [dec_ge u h, decs_app _ _ _ _ (ih (u / 10) (by omega))]
      simp only [decs]
      rw [ofNat_dig _ (by omega), if_neg (by omega)]
      congr 1; omega
theorem valN_itoa (n : Int) (h : (Lib.itoa n).length ≤ 11) : valN (Lib.itoa n) = n := by
  unfold Lib.itoa at h ⊢
  by_cases hn : n < 0
  · rw [if_pos hn] at h ⊢
    have hf : fromN (45 :: Lib.decDigits n.natAbs) = 1 := rfl
    have hl : 1 ≤ (Lib.decDigits n.natAbs).length := by
      cases hd : Lib.decDigits n.natAbs with
      | nil => exact absurd hd (dec_ne _)
      | cons c r => simp
    unfold valN
    rw [hf, if_neg (by rw [List.length_cons] at h ⊢; omega), show (45 :: Lib.decDigits n.natAbs).drop 1 = Lib.decDigits n.natAbs from rfl, decs_dec]
    simp only [if_true]
    omega
  · rw [if_neg hn] at h ⊢
    have hf : fromN (Lib.decDigits n.toNat) = 0 := by
      unfold fromN
      cases hd : Lib.decDigits n.toNat with
      | nil => rfl
      | cons c r =>
        have := dec_chars n.toNat c (by rw [hd]; exact List.mem_cons_self ..)
        rw [if_neg]
        intro e
        simp at e
        rw [e] at this
        exact absurd this.1 (by decide)
    have hl : 1 ≤ (Lib.decDigits n.toNat).length := by
      cases hd : Lib.decDigits n.toNat with
      | nil => exact absurd hd (dec_ne _)
      | cons c r => simp
    unfold valN
    rw [hf, if_neg (by omega), List.drop_zero, decs_dec]
    simp only [Nat.zero_ne_one, if_false]
    omega
end Go.Proofs.YtmggichckhoomaaDoor
