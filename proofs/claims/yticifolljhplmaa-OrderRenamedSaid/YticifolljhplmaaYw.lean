/-
  Proved here: the rules under one more fence, among more operations, in a part of them. Conditions: none.
-/
import Derived.Test.YticifolljhplmaaYo
namespace Go.Proofs.Yticifolljhplmaa
open Go.RowKit Go.Sort Go.Shelf
set_option linter.unusedVariables false
set_option linter.unusedSimpArgs false
/-- A fence. -/
def fenceD (p s : Int) : OpD := ⟨-1, false, false, true, 0, 0, false, false, p, s, 0, 0, .slice none 0 0, [], -1, .slice none 0 0, [], .slice none 0 0, [], .slice none 0 0, []⟩
theorem updS_none (s : Int × Int) (ch : List Int) {o : OpD} (h : o.store = false) : updS s ch o = ch := by
  unfold updS
  simp [h]
theorem bareS_ins (s : Int × Int) (A B : List OpD) {o : OpD} (h : o.store = false) : bareS s (A ++ o :: B) = bareS s (A ++ B) := by
  have : chgS s (A ++ o :: B) = chgS s (A ++ B) := by
    unfold chgS
    simp only [List.foldl_append, List.foldl_cons]
    rw [updS_none _ _ h]
  unfold bareS bareTo
  rw [this]
theorem hangS_ins (a : OpD) (A B : List OpD) {o : OpD} (h : o.store = false) : hangS a (A ++ o :: B) = hangS a (A ++ B) := by
  unfold hangS
  have : hangB a o = false := by simp [hangB, h]
  simp [List.filter_append, List.filter_cons, this]
theorem any_ins {f : OpD → Bool} {A B : List OpD} {o : OpD} (h : (A ++ B).any f = true) : (A ++ o :: B).any f = true := by
  simp only [List.any_append, List.any_cons, Bool.or_eq_true] at *
  rcases h with h | h
  · exact .inl h
  · exact .inr (.inr h)
theorem ruleB_ins (a b : OpD) (A B : List OpD) {o : OpD} (h : o.store = false) (n : Nat) (hr : ruleB a b (A ++ B) n = true) : ruleB a b (A ++ o :: B) n = true := by
  unfold ruleB at *
  split at hr <;> try exact hr
  · unfold apartS at *
    rw [bareS_ins _ _ _ h]
    exact hr
  · exact any_ins hr
  · unfold passedB at *
    rw [hangS_ins _ _ _ h]
    exact hr
  · rw [Bool.and_eq_true] at *
    exact ⟨hr.1, any_ins hr.2⟩
theorem mem_rulesTo (a b : OpD) (l : List OpD) (k : Nat) (x : Int) : x ∈ rulesTo a b l k ↔ ∃ m : Nat, m < k ∧ ruleB a b l (m + 1) = true ∧ (m : Int) + 1 = x := by
  unfold rulesTo
  simp [List.mem_map, List.mem_filter, and_assoc]
theorem rulesTo_sub {a b : OpD} {l l' : List OpD} {k : Nat} (h : ∀ n, ruleB a b l n = true → ruleB a b l' n = true) {x : Int} (hx : x ∈ rulesTo a b l k) : x ∈ rulesTo a b l' k := by
  rw [mem_rulesTo] at *
  obtain ⟨m, h1, h2, h3⟩ := hx
  exact ⟨m, h1, h _ h2, h3⟩
theorem mid_app {A B : List OpD} {i j : Nat} (hi : i < A.length) (hj : A.length ≤ j) : midS (A ++ B) i j = A.drop (i + 1) ++ B.take (j - A.length) := by
  unfold midS
  rw [List.take_append, List.take_of_length_le hj, List.drop_append_of_le_length (by omega)]
theorem mid_ins {A B : List OpD} {o : OpD} {i j : Nat} (hi : i < A.length) (hj : A.length ≤ j) : midS (A ++ o :: B) i (j + 1) = A.drop (i + 1) ++ o :: B.take (j - A.length) := by
  rw [mid_app hi (by omega), show j + 1 - A.length = (j - A.length) + 1 by omega, List.take_succ_cons]
theorem at_ins {A B : List OpD} {o : OpD} {j : Nat} (hj : A.length ≤ j) : (A ++ o :: B)[j + 1]? = (A ++ B)[j]? := by
  rw [List.getElem?_append_right (by omega), List.getElem?_append_right hj, show j + 1 - A.length = (j - A.length) + 1 by omega, List.getElem?_cons_succ]
theorem at_ins0 {A B : List OpD} {o : OpD} {i : Nat} (hi : i < A.length) : (A ++ o :: B)[i]? = (A ++ B)[i]? := by
  rw [List.getElem?_append_left hi, List.getElem?_append_left hi]
theorem rules_at {L : List OpD} {i j : Nat} {a b : OpD} (hij : i < j) (ha : L[i]? = some a) (hb : L[j]? = some b) : rulesS L (i : Int) (j : Int) = if (movesS a && movesS b) = true then rulesTo a b (midS L i j) 13 else [] := by
  have hj : j < L.length := (List.getElem?_eq_some_iff.1 hb).1
  unfold rulesS
  rw [if_pos (by omega)]
  simp only [Int.toNat_natCast, ha, hb]
theorem more_sub {A B : List OpD} {o : OpD} (ho : o.store = false) {i j : Nat} (hi : i < A.length) (hj : A.length ≤ j) (hj2 : j < (A ++ B).length) {x : Int} (hx : x ∈ rulesS (A ++ B) (i : Int) (j : Int)) : x ∈ rulesS (A ++ o :: B) (i : Int) ((j : Int) + 1) := by
  obtain ⟨a, ha⟩ : ∃ a, (A ++ B)[i]? = some a := ⟨_, List.getElem?_eq_getElem (by simp at hj2 ⊢; omega)⟩
  obtain ⟨b, hb⟩ : ∃ b, (A ++ B)[j]? = some b := ⟨_, List.getElem?_eq_getElem hj2⟩
  rw [rules_at (by omega) ha hb] at hx
  have h2 := rules_at (L := A ++ o :: B) (i := i) (j := j + 1) (by omega) ((at_ins0 hi).trans ha) ((at_ins hj).trans hb)
  rw [show ((j : Int) + 1) = ((j + 1 : Nat) : Int) by omega, h2]
  split at hx
  · rename_i hm
    rw [if_pos hm]
    rw [mid_ins hi hj]
    rw [mid_app hi hj] at hx
    exact rulesTo_sub (fun n hn => ruleB_ins _ _ _ _ ho n hn) hx
  · simp at hx
theorem rulesTo_pos {a b : OpD} {l : List OpD} {k : Nat} {x : Int} (hx : x ∈ rulesTo a b l k) : 1 ≤ x := by
  rw [mem_rulesTo] at hx
  obtain ⟨m, -, -, h⟩ := hx
  omega
theorem head_pos {a b : OpD} {l : List OpD} {k : Nat} {x : Int} (hx : x ∈ rulesTo a b l k) : (rulesTo a b l k).headD 0 ≠ 0 := by
  cases h : rulesTo a b l k with
  | nil => rw [h] at hx; simp at hx
  | cons y t =>
    have := rulesTo_pos (a := a) (b := b) (l := l) (k := k) (x := y) (by rw [h]; simp)
    simp only [List.headD_cons]
    omega
theorem does_cases {a : OpD} (h : (a.load || a.store) = true) : doesS a = 1 ∨ doesS a = 2 ∨ doesS a = 3 := by
  unfold doesS
  revert h
  cases a.load <;> cases a.store <;> simp
theorem fence_33 {a b : OpD} (ha : (a.load || a.store) = true) (hb : (b.load || b.store) = true) : fenceB a b (fenceD 3 3) = true := by
  have e1 : (bits .and .i64 3 1 != 0) = true := by decide +kernel
  have e2 : (bits .and .i64 3 2 != 0) = true := by decide +kernel
  have e3 : (bits .and .i64 3 3 != 0) = true := by decide +kernel
  unfold fenceB fenceD
  rcases does_cases ha with h | h | h <;> rcases does_cases hb with k | k | k <;> simp only [h, k, e1, e2, e3, Bool.true_and, Bool.and_true]
theorem more_all {A B : List OpD} {i j : Nat} {a b : OpD} (hi : i < A.length) (hj : A.length ≤ j) (ha : (A ++ B)[i]? = some a) (hb : (A ++ B)[j]? = some b) (hm : (movesS a && movesS b) = true) : (rulesS (A ++ fenceD 3 3 :: B) (i : Int) ((j : Int) + 1)).headD 0 ≠ 0 := by
  have h2 := rules_at (L := A ++ fenceD 3 3 :: B) (i := i) (j := j + 1) (by omega) ((at_ins0 hi).trans ha) ((at_ins hj).trans hb)
  rw [show ((j : Int) + 1) = ((j + 1 : Nat) : Int) by omega, h2, if_pos hm, mid_ins hi hj]
  refine head_pos (x := 4) ?_
  rw [mem_rulesTo]
  refine ⟨3, by omega, ?_, rfl⟩
  have hm' := hm
  unfold movesS at hm'
  simp only [Bool.and_eq_true] at hm'
  show List.any _ (fenceB a b) = true
  simp only [List.any_append, List.any_cons, fence_33 hm'.1.2 hm'.2.2, Bool.true_or, Bool.or_true]
theorem mid_own {A L B : List OpD} {i j : Nat} (hij : i < j) (hj : j < L.length) : midS (A ++ (L ++ B)) (A.length + i) (A.length + j) = midS L i j := by
  unfold midS
  rw [List.take_append, List.take_of_length_le (show A.length ≤ A.length + j by omega), show A.length + j - A.length = j by omega, List.take_append_of_le_length (by omega), List.drop_append, List.drop_of_length_le (show A.length ≤ A.length + i + 1 by omega), show A.length + i + 1 - A.length = i + 1 by omega, List.nil_append]
theorem rules_own {A L B : List OpD} {i j : Nat} (hij : i ≤ j) (hj : j < L.length) : rulesS (A ++ (L ++ B)) ((A.length : Int) + (i : Int)) ((A.length : Int) + (j : Int)) = rulesS L (i : Int) (j : Int) := by
  rcases Nat.lt_or_ge i j with h | h
  · obtain ⟨a, ha⟩ : ∃ a, L[i]? = some a := ⟨_, List.getElem?_eq_getElem (by omega)⟩
    obtain ⟨b, hb⟩ : ∃ b, L[j]? = some b := ⟨_, List.getElem?_eq_getElem hj⟩
    have e : ∀ (k : Nat) (c : OpD), L[k]? = some c → (A ++ (L ++ B))[A.length + k]? = some c := by
      intro k c hk
      have hk' := (List.getElem?_eq_some_iff.1 hk).1
      rw [List.getElem?_append_right (by omega), show A.length + k - A.length = k by omega, List.getElem?_append_left hk', hk]
    have h2 := rules_at (L := A ++ (L ++ B)) (i := A.length + i) (j := A.length + j) (by omega) (e i a ha) (e j b hb)
    rw [rules_at h ha hb, ← mid_own (A := A) (B := B) h hj]
    rw [Int.natCast_add, Int.natCast_add] at h2
    exact h2
  · obtain rfl : i = j := by omega
    unfold rulesS
    rw [if_neg (by omega), if_neg (by omega)]
theorem rules_part {L : List OpD} {i j : Nat} (hij : i < j) (hj : j < L.length) : rulesS ((L.take (j + 1)).drop i) 0 ((j : Int) - (i : Int)) = rulesS L (i : Int) (j : Int) := by
  obtain ⟨a, ha⟩ : ∃ a, L[i]? = some a := ⟨_, List.getElem?_eq_getElem (by omega)⟩
  obtain ⟨b, hb⟩ : ∃ b, L[j]? = some b := ⟨_, List.getElem?_eq_getElem hj⟩
  have e : ∀ k, i + k ≤ j → ((L.take (j + 1)).drop i)[k]? = L[i + k]? := by
    intro k hk
    rw [List.getElem?_drop, List.getElem?_take, if_pos (by omega)]
  have h2 := rules_at (L := (L.take (j + 1)).drop i) (i := 0) (j := j - i) (a := a) (b := b) (by omega) ((e 0 (by omega)).trans (by simpa using ha)) ((e (j - i) (by omega)).trans (by rw [show i + (j - i) = j by omega]; exact hb))
  have hm : midS ((L.take (j + 1)).drop i) 0 (j - i) = midS L i j := by
    apply List.ext_getElem?
    intro k
    unfold midS
    rw [List.getElem?_drop, List.getElem?_take, List.getElem?_drop, List.getElem?_take, List.getElem?_drop, List.getElem?_take]
    by_cases hk : i + 1 + k < j
    · rw [if_pos (by omega), if_pos (by omega), if_pos hk, show i + (0 + 1 + k) = i + 1 + k by omega]
    · rw [if_neg (by omega), if_neg hk]
  rw [hm] at h2
  rw [rules_at hij ha hb, ← h2]
  congr 1
  omega
end Go.Proofs.Yticifolljhplmaa
