/-
  Proved here: numbers as the reference writes them. Conditions: none.
-/
import Derived.Test.YtmggichckhoomaaDoorLi
import Derived.Laws.IdiomStrings
namespace Go.Proofs.YtmggichckhoomaaDoor
open Go.ChangeShapes Go.WideShapes Go.ChangeAt Go.RowKit
set_option linter.unusedVariables false
set_option linter.unusedSimpArgs false
theorem conv1 (w : World) (x : Int) : (convert 44 9 (.slice (some ⟨w.heap.size, 0, none⟩) 1 1)).run Tryd.prog (w.alloc (Obj.cells #[.int .u8 (x % 256)] 5)) = .ok (.string ⟨([UInt8.ofNat (x % 256).toNat] : Bs).toArray⟩) (w.alloc (Obj.cells #[.int .u8 (x % 256)] 5)) := by
  refine run_convert_bytes_back _ 44 9 5 ⟨w.heap.size, 0, none⟩ 1 [UInt8.ofNat (x % 256).toNat] Tryd.underlying44 Tryd.underlying5 Tryd.underlying9 ?_
  intro j hj
  have hj0 : j = 0 := by simp at hj; exact hj
  subst hj0
  have h1 := cell1 (blk_made w (Obj.cells #[.int .u8 (x % 256)] 5) rfl rfl)
  refine Eq.trans h1 ?_
  have h2 : (UInt8.ofNat (x % 256).toNat).toNat = (x % 256).toNat := by rw [UInt8.toNat_ofNat']; omega
  simp only [List.getElem_cons_zero, h2]
  congr 2
  omega
theorem dig_neg (m : Int) (h : m.tmod 10 < 0) : UInt8.ofNat (wrap64 (48 + wrap64 (-m.tmod 10)) % 256).toNat = UInt8.ofNat (48 + m.natAbs % 10) := by
  have e : (m.tmod 10).natAbs = m.natAbs % 10 := Int.natAbs_tmod m 10
  congr 1
  unfold wrap64
  omega
theorem dig_pos (m : Int) (h : 0 ≤ m.tmod 10) : UInt8.ofNat (wrap64 (48 + m.tmod 10) % 256).toNat = UInt8.ofNat (48 + m.natAbs % 10) := by
  have e : (m.tmod 10).natAbs = m.natAbs % 10 := Int.natAbs_tmod m 10
  congr 1
  unfold wrap64
  omega
theorem dig_end (m n : Int) (l : Bs) (h : m.tdiv 10 = 0) (hD : Lib.decDigits m.natAbs ++ l = Lib.decDigits n.natAbs) : UInt8.ofNat (48 + m.natAbs % 10) :: l = Lib.decDigits n.natAbs := by
  have e : (m.tdiv 10).natAbs = m.natAbs / 10 := Int.natAbs_tdiv m 10
  rw [h, show ((0 : Int).natAbs) = 0 from rfl] at e
  have e2 : m.natAbs < 10 := by
    generalize m.natAbs = u at *
    omega
  rw [dec_lt _ e2] at hD
  rw [Nat.mod_eq_of_lt e2]; exact hD
theorem dig_step (m n : Int) (l : Bs) (h : m.tdiv 10 ≠ 0) (hD : Lib.decDigits m.natAbs ++ l = Lib.decDigits n.natAbs) :
    Lib.decDigits (m.tdiv 10).natAbs ++ (UInt8.ofNat (48 + m.natAbs % 10) :: l) = Lib.decDigits n.natAbs ∧ (m.tdiv 10).natAbs < m.natAbs ∧ -9223372036854775808 ≤ m.tdiv 10 ∧ m.tdiv 10 ≤ 9223372036854775807 ∨ ¬ (-9223372036854775808 ≤ m ∧ m ≤ 9223372036854775807) := by
  have e : (m.tdiv 10).natAbs = m.natAbs / 10 := Int.natAbs_tdiv m 10
  have q1 := Int.natAbs_eq m
  have q2 := Int.natAbs_eq (m.tdiv 10)
  have e2 : ¬ m.natAbs < 10 := by
    intro c
    rw [Nat.div_eq_of_lt c] at e
    exact h (Int.natAbs_eq_zero.1 e)
  rw [dec_ge _ e2] at hD
  by_cases c : -9223372036854775808 ≤ m ∧ m ≤ 9223372036854775807
  · refine Or.inl ⟨?_, ?_⟩
    · rw [e, ← hD, List.append_assoc]; rfl
    · clear hD h
      generalize m.natAbs = u at *
      generalize (m.tdiv 10).natAbs = v at *
      generalize m.tdiv 10 = t at *
      omega
  · exact Or.inr c
theorem app1 (b : UInt8) (l : Bs) : (⟨#[b]⟩ : ByteArray) ++ ⟨l.toArray⟩ = ⟨(b :: l).toArray⟩ := ByteArray.mk_append_mk [b] l
set_option maxRecDepth 100000 in
set_option maxHeartbeats 1000000 in
theorem digits_any (n : Int) (h0 : -9223372036854775808 ≤ n) (h1 : n ≤ 9223372036854775807) (w : World) :
    Calls Tryd.prog 52 #[.int .i64 n] w fun e w' => e = .returned (.string ⟨(Lib.decDigits n.natAbs).toArray⟩) ∧ Nb w w' := by
  have hcv := conv1
  have hlen := dec_len n.natAbs 19 (by decide) (by omega)
  go_enter Tryd.func52, Tryd.ntmps52
  go_wp2_with fail
  go_loopw [0, 3] (fun f o wr => (∃ (m : Int) (l : Bs), -9223372036854775808 ≤ m ∧ m ≤ 9223372036854775807 ∧ f = .int .i64 m ∧ o = .string ⟨l.toArray⟩ ∧ Lib.decDigits m.natAbs ++ l = Lib.decDigits n.natAbs) ∧ Nb w wr) (fun f _ _ => (intOf f).natAbs)
  case atStart => exact ⟨⟨n, [], h0, h1, rfl, rfl, List.append_nil _⟩, Nb.refl _⟩
  case round =>
    obtain ⟨⟨m, l, m0, m1, rfl, rfl, hD⟩, hN⟩ := hrel
    have hl : l.length ≤ 19 := by have := congrArg List.length hD; rw [List.length_append] at this; omega
    have hD := Lib.hid hD
    clear hlen
    go_wp2_with fail
    · have a1 : m.tdiv 10 = 0 := eq_of_beq (by assumption)
      go_ret
      exact ⟨ret_s (by rw [app1, dig_neg m (by assumption), dig_end m n l a1 hD.out]), hN.alloc _⟩
    · have a1 : ¬ m.tdiv 10 = 0 := ne_of_beq_false (by assumption)
      rcases dig_step m n l a1 hD.out with ⟨g1, g2, g3, g4⟩ | g
      · exact ⟨⟨⟨_, _, g3, g4, rfl, by rw [app1, dig_neg m (by assumption)], g1⟩, hN.alloc _⟩, g2⟩
      · exact absurd ⟨m0, m1⟩ g
    · have a1 : m.tdiv 10 = 0 := eq_of_beq (by assumption)
      go_ret
      exact ⟨ret_s (by rw [app1, dig_pos m (by omega), dig_end m n l a1 hD.out]), hN.alloc _⟩
    · have a1 : ¬ m.tdiv 10 = 0 := ne_of_beq_false (by assumption)
      rcases dig_step m n l a1 hD.out with ⟨g1, g2, g3, g4⟩ | g
      · exact ⟨⟨⟨_, _, g3, g4, rfl, by rw [app1, dig_pos m (by omega)], g1⟩, hN.alloc _⟩, g2⟩
      · exact absurd ⟨m0, m1⟩ g
set_option maxRecDepth 100000 in
set_option maxHeartbeats 1000000 in
theorem number_any (n : Int) (h0 : -9223372036854775808 ≤ n) (h1 : n ≤ 9223372036854775807) (w : World) :
    Calls Tryd.prog 37 #[.int .i64 n] w fun e w' => e = .returned (.string ⟨(Lib.itoa n).toArray⟩) ∧ Nb w w' := by
  have HD := Lib.hid (digits_any n h0 h1)
  have hlen := dec_len n.natAbs 19 (by decide) (by omega)
  have e1 : n < 0 → Lib.itoa n = 45 :: Lib.decDigits n.natAbs := fun h => if_pos h
  have e2 : ¬ n < 0 → Lib.itoa n = Lib.decDigits n.natAbs := fun h => by unfold Lib.itoa; rw [if_neg h]; congr 1; omega
  generalize Lib.decDigits n.natAbs = D at *
  generalize Lib.itoa n = R at *
  have e1 := Lib.hid e1
  have e2 := Lib.hid e2
  rename_i g1 g2
  clear g1 g2
  go_enter Tryd.func37, Tryd.ntmps37
  by_cases h : n < 0
  · go_wp2_with fail
    refine (HD.out _).mono ?_
    rintro e w1 ⟨rfl, hn⟩
    go_wp2_with fail
    go_ret
    exact ⟨ret_s (by rw [e1.out h, app1]), hn⟩
  · go_wp2_with fail
    refine (HD.out _).mono ?_
    rintro e w1 ⟨rfl, hn⟩
    go_wp2_with fail
    go_ret
    exact ⟨ret_s (by rw [e2.out h]), hn⟩
end Go.Proofs.YtmggichckhoomaaDoor
