/-
  Proved here: plain facts on bytes as numbers, the lowest first. Conditions: none.
-/
import Derived.Lib.UnsafeStr
import Derived.Laws.Bits64b
namespace Go.Proofs.Ytojogolmcclpoaa
abbrev By := List UInt8
/-- The number that bytes are, the lowest one first. -/
def leV : By → Nat
  | [] => 0
  | c :: r => c.toNat + 256 * leV r
/-- A number's k lowest bytes, the lowest one first. -/
def leB : Nat → Nat → By
  | 0, _ => []
  | k + 1, v => UInt8.ofNat (v % 256) :: leB k (v / 256)
theorem leB_len (k v : Nat) : (leB k v).length = k := by
  induction k generalizing v with
  | zero => rfl
  | succ k ih => simp [leB, ih]
theorem leV_lt (l : By) : leV l < 256 ^ l.length := by
  induction l with
  | nil => simp [leV]
  | cons c r ih =>
    have := c.toNat_lt
    simp only [leV, List.length_cons, Nat.pow_succ]
    omega
theorem leV_snoc (l : By) (c : UInt8) : leV (l ++ [c]) = leV l + 256 ^ l.length * c.toNat := by
  induction l with
  | nil => simp [leV]
  | cons x r ih =>
    simp only [List.cons_append, leV, ih, List.length_cons, Nat.pow_succ, Nat.mul_add]
    rw [show 256 ^ r.length * 256 * c.toNat = 256 * (256 ^ r.length * c.toNat) by rw [Nat.mul_comm (256 ^ r.length) 256, Nat.mul_assoc]]
    omega
theorem leB_snoc (k v : Nat) : leB (k + 1) v = leB k v ++ [UInt8.ofNat (v / 256 ^ k % 256)] := by
  induction k generalizing v with
  | zero => simp [leB]
  | succ k ih =>
    rw [leB, ih (v / 256), leB, List.cons_append, Nat.div_div_eq_div_mul, Nat.pow_succ, Nat.mul_comm 256]
theorem leV_leB (k v : Nat) : leV (leB k v) = v % 256 ^ k := by
  induction k generalizing v with
  | zero => simp [leB, leV, Nat.mod_one]
  | succ k ih =>
    simp only [leB, leV, ih]
    have h : (UInt8.ofNat (v % 256)).toNat = v % 256 := by simp
    rw [h, Nat.pow_succ, Nat.mul_comm (256 ^ k), Nat.mod_mul]
theorem leB_mod (k v m : Nat) (h : k ≤ m) : leB k (v % 256 ^ m) = leB k v := by
  induction k generalizing v m with
  | zero => rfl
  | succ k ih =>
    obtain ⟨m, rfl⟩ : ∃ n, m = n + 1 := ⟨m - 1, by omega⟩
    have h1 : v % 256 ^ (m + 1) % 256 = v % 256 := Nat.mod_mod_of_dvd _ ⟨256 ^ m, by rw [Nat.pow_succ, Nat.mul_comm]⟩
    have h2 : v % 256 ^ (m + 1) / 256 = v / 256 % 256 ^ m := by
      rw [Nat.pow_succ, Nat.mul_comm, Nat.mod_mul_right_div_self]
    rw [leB, leB, h1, h2, ih _ _ (by omega)]
theorem leB_get (k v j : Nat) (h : j < k) : (leB k v)[j]? = some (UInt8.ofNat (v / 256 ^ j % 256)) := by
  induction k generalizing v j with
  | zero => omega
  | succ k ih =>
    cases j with
    | zero => simp [leB]
    | succ j => simp only [leB, List.getElem?_cons_succ]; rw [ih _ _ (by omega), Nat.div_div_eq_div_mul, Nat.pow_succ, Nat.mul_comm 256]
theorem leB_leV (l : By) : leB l.length (leV l) = l := by
  induction l with
  | nil => rfl
  | cons c r ih =>
    have hc := c.toNat_lt
    have h1 : (c.toNat + 256 * leV r) % 256 = c.toNat := by omega
    have h2 : (c.toNat + 256 * leV r) / 256 = leV r := by omega
    simp only [List.length_cons, leB, leV, h1, h2, ih]
    simp
/-- Bytes with others laid over them from a place on. -/
def lay (bs : By) (at_ : Nat) (x : By) : By := bs.take at_ ++ (x ++ bs.drop (at_ + x.length))
theorem lay_len (bs : By) (a : Nat) (x : By) (h : a + x.length ≤ bs.length) : (lay bs a x).length = bs.length := by simp [lay]; omega
theorem lay_nil (bs : By) (a : Nat) : lay bs a [] = bs := by simp [lay]
theorem lay_snoc (bs : By) (a : Nat) (x : By) (c : UInt8) (h : a + x.length < bs.length) : lay bs a (x ++ [c]) = (lay bs a x).set (a + x.length) c := by
  unfold lay
  have h1 : (bs.take a).length = a := by simp; omega
  rw [List.set_append, if_neg (by omega), h1, List.set_append, if_neg (by omega), show a + x.length - a - x.length = 0 by omega, List.drop_eq_getElem_cons h, List.set_cons_zero]
  simp [Nat.add_assoc]
theorem lay_at (bs : By) (a : Nat) (x : By) (h : a + x.length ≤ bs.length) : ((lay bs a x).drop a).take x.length = x := by
  unfold lay
  have h1 : (bs.take a).length = a := by simp; omega
  rw [List.drop_append, h1, Nat.sub_self, List.drop_zero, List.drop_of_length_le (by omega), List.nil_append, List.take_append_of_le_length (Nat.le_refl _), List.take_length]
theorem lay_get (bs : By) (a : Nat) (x : By) (h : a + x.length ≤ bs.length) (j : Nat) : (lay bs a x)[j]? = if a ≤ j ∧ j < a + x.length then x[j - a]? else bs[j]? := by
  unfold lay
  have h1 : (bs.take a).length = a := by simp; omega
  by_cases hj : j < a
  · rw [if_neg (by omega), List.getElem?_append_left (by omega), List.getElem?_take, if_pos hj]
  · rw [List.getElem?_append_right (by omega), h1]
    by_cases h2 : j < a + x.length
    · rw [if_pos (by omega), List.getElem?_append_left (by omega)]
    · rw [if_neg (by omega), List.getElem?_append_right (by omega), List.getElem?_drop]
      congr 1; omega
theorem or_step (x k c : Nat) (hx : x < 256 ^ k) (hk : k < 8) (hc : c < 256) : bits .or .u64 (x : Int) (IntKind.u64.wrap ((c : Int) * 2 ^ ((8 : Int) * (k : Int)).toNat)) = ((x + 256 ^ k * c : Nat) : Int) := by
  have e1 : ((8 : Int) * (k : Int)).toNat = 8 * k := by omega
  have e2 : (256 : Nat) ^ k = 2 ^ (8 * k) := by rw [Nat.pow_mul]
  rw [e1]
  rw [e2] at hx ⊢
  have hp : 2 ^ (8 * k) * 256 ≤ 18446744073709551616 := by
    rw [show (256 : Nat) = 2 ^ 8 from rfl, ← Nat.pow_add, show (18446744073709551616 : Nat) = 2 ^ 64 from rfl]
    exact Nat.pow_le_pow_right (by omega) (by omega)
  have hm : c * 2 ^ (8 * k) < 18446744073709551616 := by
    have : c * 2 ^ (8 * k) ≤ 255 * 2 ^ (8 * k) := Nat.mul_le_mul_right _ (by omega)
    omega
  have e3 : IntKind.u64.wrap ((c : Int) * 2 ^ (8 * k)) = ((c * 2 ^ (8 * k) : Nat) : Int) := by
    rw [show ((c : Int) * 2 ^ (8 * k)) = ((c * 2 ^ (8 * k) : Nat) : Int) by push_cast; rfl]
    rw [IntKind.wrap_u64]; omega
  rw [e3, bits_or_u64_nat _ _ (by omega) hm]
  have h4 := Nat.shiftLeft_add_eq_or_of_lt hx c
  rw [Nat.shiftLeft_eq] at h4
  rw [Nat.or_comm, ← h4, Nat.add_comm, Nat.mul_comm c]
end Go.Proofs.Ytojogolmcclpoaa
