/-
  Proved here: an instruction that may be is the only one that has its word. Conditions: the operation is one of the table's; the numbers are ints. ¦ what bytes are when instructions are laid from the beginning on; what the first word then decodes to; what a step that has no error does to registers and to the place. Conditions: none beside those that each names. ¦ what a store conditional does, that stands alone at the beginning of a memory of 1064 bytes. Conditions: the place is a multiple of 8 from 64 to 456.
-/
import Derived.Test.YtmggichckhoomaaGreatDoorHad
import Derived.Test.YtmggichckhoomaaGreatDoorQbn
import Derived.Test.YtmggichckhoomaaGreatDoorQbq
import Derived.Test.YtmggichckhoomaaGreatDoorHaa
import Derived.Test.YtmggichckhoomaaGreatDoorHab
import Derived.Test.YtmggichckhoomaaGreatDoorHac
section
namespace Go.Proofs.YtmggichckhoomaaGreatDoor
open Go.RowKit
set_option linter.unusedVariables false
theorem bk_any (f o a3 a7 rd rs1 rs2 im : Int) (aq rl : Bool) (f1 : 1 ≤ f) (f12 : f ≤ 12) (o0 : 0 ≤ o) (o1 : o ≤ 127) (a0 : 0 ≤ a3) (a1 : a3 ≤ 7) (b0 : 0 ≤ a7) (b1 : a7 ≤ 127) (hf : Fine f a3 a7 = true)
    (r0 : 0 ≤ rd) (r1 : rd ≤ 31) (s0 : 0 ≤ rs1) (s1 : rs1 ≤ 31) (t0 : 0 ≤ rs2) (t1 : rs2 ≤ 31) (hrd : rd = oi (rdT f) rd) (hs1 : rs1 = oi (rs1T f) rs1) (hs2 : rs2 = oi (rs2T f) rs2) (hq : aq = ob (ordT f) aq) (hl : rl = ob (ordT f) rl) (hm : MayB f im = true) :
    ∃ U : Nat, U < 4294967296 ∧ WW f o a3 a7 rd rs1 rs2 aq rl (IntKind.u64.wrap im) = (U : Int) ∧ Fld U 0 7 = o ∧ Get (f3T f) 0 U = a3 ∧ Get (f7T f) 0 U = a7 ∧
      oi (rdT f) (Fld U 7 5) = rd ∧ oi (rs1T f) (Fld U 15 5) = rs1 ∧ oi (rs2T f) (Fld U 20 5) = rs2 ∧ oi (immT f) (II f U) = im ∧ ob (ordT f) (Fld U 26 1 == 1) = aq ∧ ob (ordT f) (Fld U 25 1 == 1) = rl := by
  obtain ⟨o, rfl⟩ := Int.eq_ofNat_of_zero_le o0
  obtain ⟨a3, rfl⟩ := Int.eq_ofNat_of_zero_le a0
  obtain ⟨a7, rfl⟩ := Int.eq_ofNat_of_zero_le b0
  unfold Fine at hf
  have hk : f = 1 ∨ f = 2 ∨ f = 3 ∨ f = 4 ∨ f = 5 ∨ f = 6 ∨ f = 7 ∨ f = 8 ∨ f = 9 ∨ f = 10 ∨ f = 11 ∨ f = 12 := by omega
  rcases hk with rfl | rfl | rfl | rfl | rfl | rfl | rfl | rfl | rfl | rfl | rfl | rfl
  · obtain ⟨rd, rfl⟩ := Int.eq_ofNat_of_zero_le r0
    obtain rfl : rs1 = 0 := hs1
    obtain rfl : rs2 = 0 := hs2
    obtain rfl : aq = false := hq
    obtain rfl : rl = false := hl
    simp at hf
    exact bk_1 o a3 a7 rd 0 0 im false false (by omega) (by omega) (by omega) (by omega) (by omega) (by omega) (by omega) (by omega) hm
  · obtain ⟨rd, rfl⟩ := Int.eq_ofNat_of_zero_le r0
    obtain rfl : rs1 = 0 := hs1
    obtain rfl : rs2 = 0 := hs2
    obtain rfl : aq = false := hq
    obtain rfl : rl = false := hl
    simp at hf
    exact bk_2 o a3 a7 rd 0 0 im false false (by omega) (by omega) (by omega) (by omega) (by omega) (by omega) (by omega) (by omega) hm
  · obtain ⟨rd, rfl⟩ := Int.eq_ofNat_of_zero_le r0
    obtain ⟨rs1, rfl⟩ := Int.eq_ofNat_of_zero_le s0
    obtain rfl : rs2 = 0 := hs2
    obtain rfl : aq = false := hq
    obtain rfl : rl = false := hl
    simp at hf
    exact bk_3 o a3 a7 rd rs1 0 im false false (by omega) (by omega) (by omega) (by omega) (by omega) (by omega) (by omega) hm
  · obtain rfl : rd = 0 := hrd
    obtain ⟨rs1, rfl⟩ := Int.eq_ofNat_of_zero_le s0
    obtain ⟨rs2, rfl⟩ := Int.eq_ofNat_of_zero_le t0
    obtain rfl : aq = false := hq
    obtain rfl : rl = false := hl
    simp at hf
    exact bk_4 o a3 a7 0 rs1 rs2 im false false (by omega) (by omega) (by omega) (by omega) (by omega) (by omega) (by omega) hm
  · obtain rfl : rd = 0 := hrd
    obtain ⟨rs1, rfl⟩ := Int.eq_ofNat_of_zero_le s0
    obtain ⟨rs2, rfl⟩ := Int.eq_ofNat_of_zero_le t0
    obtain rfl : aq = false := hq
    obtain rfl : rl = false := hl
    simp at hf
    exact bk_5 o a3 a7 0 rs1 rs2 im false false (by omega) (by omega) (by omega) (by omega) (by omega) (by omega) (by omega) hm
  · obtain ⟨rd, rfl⟩ := Int.eq_ofNat_of_zero_le r0
    obtain ⟨rs1, rfl⟩ := Int.eq_ofNat_of_zero_le s0
    obtain rfl : rs2 = 0 := hs2
    obtain rfl : aq = false := hq
    obtain rfl : rl = false := hl
    simp at hf
    exact bk_6 o a3 a7 rd rs1 0 im false false (by omega) (by omega) (by omega) (by omega) (by omega) (by omega) (by omega) hm
  · obtain ⟨rd, rfl⟩ := Int.eq_ofNat_of_zero_le r0
    obtain ⟨rs1, rfl⟩ := Int.eq_ofNat_of_zero_le s0
    obtain rfl : rs2 = 0 := hs2
    obtain rfl : aq = false := hq
    obtain rfl : rl = false := hl
    clear hf
    exact bk_7 o a3 a7 rd rs1 0 im false false (by omega) (by omega) (by omega)  (by omega) (by omega) (by omega) hm
  · obtain ⟨rd, rfl⟩ := Int.eq_ofNat_of_zero_le r0
    obtain ⟨rs1, rfl⟩ := Int.eq_ofNat_of_zero_le s0
    obtain ⟨rs2, rfl⟩ := Int.eq_ofNat_of_zero_le t0
    obtain rfl : aq = false := hq
    obtain rfl : rl = false := hl
    clear hf
    exact bk_8 o a3 a7 rd rs1 rs2 im false false (by omega) (by omega) (by omega)  (by omega) (by omega) (by omega) hm
  · obtain rfl : rd = 0 := hrd
    obtain rfl : rs1 = 0 := hs1
    obtain rfl : rs2 = 0 := hs2
    obtain rfl : aq = false := hq
    obtain rfl : rl = false := hl
    simp at hf
    exact bk_9 o a3 a7 0 0 0 im false false (by omega) (by omega) (by omega) (by omega) (by omega) (by omega) (by omega) (by omega) hm
  · obtain rfl : rd = 0 := hrd
    obtain rfl : rs1 = 0 := hs1
    obtain rfl : rs2 = 0 := hs2
    obtain rfl : aq = false := hq
    obtain rfl : rl = false := hl
    simp at hf
    exact bk_10 o a3 a7 0 0 0 im false false (by omega) (by omega) (by omega) (by omega) (by omega) (by omega) (by omega) hm
  · obtain ⟨rd, rfl⟩ := Int.eq_ofNat_of_zero_le r0
    obtain ⟨rs1, rfl⟩ := Int.eq_ofNat_of_zero_le s0
    obtain rfl : rs2 = 0 := hs2
    simp at hf
    exact bk_11 o a3 a7 rd rs1 0 im aq rl (by omega) (by omega) (by omega) (by omega) (by omega) (by omega) (by omega) hm
  · obtain ⟨rd, rfl⟩ := Int.eq_ofNat_of_zero_le r0
    obtain ⟨rs1, rfl⟩ := Int.eq_ofNat_of_zero_le s0
    obtain ⟨rs2, rfl⟩ := Int.eq_ofNat_of_zero_le t0
    simp at hf
    exact bk_12 o a3 a7 rd rs1 rs2 im aq rl (by omega) (by omega) (by omega) (by omega) (by omega) (by omega) (by omega) hm
theorem eqi {op rd rs1 rs2 im : Int} {aq rl : Bool} {op' rd' rs1' rs2' im' : Int} {aq' rl' : Bool} (h : EqI op rd rs1 rs2 im aq rl op' rd' rs1' rs2' im' aq' rl' = true) :
    op = op' ∧ rd = rd' ∧ rs1 = rs1' ∧ rs2 = rs2' ∧ im = im' ∧ aq = aq' ∧ rl = rl' := by
  unfold EqI at h
  simpa only [Bool.and_eq_true, beq_iff_eq] using h
theorem good_row {op rd rs1 rs2 im : Int} {aq rl : Bool} (h : GoodB op rd rs1 rs2 im aq rl = true) : 1 ≤ op ∧ op < 88 := by
  unfold GoodB at h
  by_cases c : op < 1 ∨ 87 < op
  · rw [ref_no op c] at h
    cases h
  · omega
/-- All that the word of an instruction that may be tells. -/
theorem back_all (n : Nat) (rd rs1 rs2 im : Int) (aq rl : Bool) (hg : GoodB n rd rs1 rs2 im aq rl = true) :
    ∃ U : Nat, U < 4294967296 ∧ EncW n rd rs1 rs2 im aq rl = (U : Int) ∧ MatchB n U = true ∧ Ird n U = rd ∧ Irs1 n U = rs1 ∧ Irs2 n U = rs2 ∧ Iim n U = im ∧ Iaq n U = aq ∧ Irl n U = rl := by
  have hn := good_row hg
  obtain ⟨q1, q2, q3⟩ := good_ranges hg
  have hg' := hg
  unfold GoodB at hg'
  obtain ⟨f0, f1, o0, o1, a0, a1, b0, b1⟩ := row_ok n
  have hF := rows_fine n (by omega)
  by_cases c : (refRow (n : Int)).1 = 0
  · rw [if_pos c] at hg'; cases hg'
  rw [if_neg c] at hg'
  simp only [Bool.and_eq_true] at hg'
  obtain ⟨e0, e1, e2, e3, e4, e5, e6⟩ := eqi hg'.1
  obtain ⟨U, hU, hW, w0, w1, w2, w3, w4, w5, w6, w7, w8⟩ := bk_any (refRow (n : Int)).1 (refRow (n : Int)).2.1 (refRow (n : Int)).2.2.1 (refRow (n : Int)).2.2.2 rd rs1 rs2 im aq rl (by omega) f1 o0 o1 a0 a1 b0 b1 hF q1.1 q1.2 q2.1 q2.2 q3.1 q3.2 e1 e2 e3 e5 e6 hg'.2.2.2.2
  have hE : EncW n rd rs1 rs2 im aq rl = (U : Int) := by
    unfold EncW W64
    unfold WW at hW
    rw [hW, IntKind.wrap_u32]
    omega
  have k3 : Ird n U = rd := w3
  have k4 : Irs1 n U = rs1 := w4
  have k5 : Irs2 n U = rs2 := w5
  have k6 : Iim n U = im := w6
  have k7 : Iaq n U = aq := w7
  have k8 : Irl n U = rl := w8
  refine ⟨U, hU, hE, ?_, k3, k4, k5, k6, k7, k8⟩
  refine match_yes n U (beq_iff_eq.2 w0.symm) ?_ ?_ ?_
  · unfold HeadB EqH
    rw [w0, w1, w2]
    simp
  · unfold GoodK
    rw [k3, k4, k5, k6, k7, k8]
    exact hg
  · unfold EncK
    rw [k3, k4, k5, k6, k7, k8, hE]
    simp
/-- No other operation has the word. -/
theorem back_one (n j : Nat) (u : Int) (n0 : 1 ≤ n) (n1 : n < 88) (j0 : 1 ≤ j) (j1 : j < 88) (hn : MatchB n u = true) (hj : MatchB j u = true) : n = j :=
  head_one n0 n1 j0 j1 (match_head hn) (match_head hj)
end Go.Proofs.YtmggichckhoomaaGreatDoor
end
section
namespace Go.Proofs.YtmggichckhoomaaGreatDoor
open Go.RowKit
set_option linter.unusedVariables false
set_option linter.unusedSimpArgs false
theorem num_same {a b : By} {at_ s : Nat} (h : ∀ j, at_ ≤ j → j < at_ + s → a[j]? = b[j]?) : numAt a at_ s = numAt b at_ s := by
  unfold numAt
  congr 1
  apply List.ext_getElem?
  intro j
  rw [List.getElem?_take, List.getElem?_take]
  split
  · rw [List.getElem?_drop, List.getElem?_drop]
    exact h _ (by omega) (by omega)
  · rfl
theorem stB_out (bs : By) (at_ s v : Int) (i : Nat) (a0 : 0 ≤ at_) (h : flt bs.length at_ s ≠ 0 ∨ (i : Int) < at_ ∨ at_ + s ≤ i) : (stB bs at_ s v)[i]? = bs[i]? := by
  unfold stB
  split
  · rename_i h0
    obtain ⟨h1, h2, h3⟩ := flt_ok h0
    rw [lay_get _ _ _ (by rw [leB_len]; omega), leB_len, if_neg (by omega)]
  · rfl
theorem num_stB (bs : By) (at_ s : Nat) (v : Int) (h : flt bs.length at_ s = 0) : numAt (stB bs at_ s v) at_ s = v.toNat % 256 ^ s := by
  obtain ⟨h1, h2, h3⟩ := flt_ok h
  unfold stB numAt
  rw [if_pos h]
  have := lay_at bs at_ (leB s v.toNat) (by rw [leB_len]; omega)
  rw [leB_len] at this
  rw [Int.toNat_natCast, Int.toNat_natCast, this, leV_leB]
theorem laid_first (bs : By) (is : List In7) (h : 4 ≤ bs.length) (k : Nat) (hk : 1 ≤ k) : ldV (laidN bs is k) 0 4 = encI (is.getD 0 z7) := by
  have hf : ∀ l : By, 4 ≤ l.length → flt l.length ((0 : Nat) : Int) ((4 : Nat) : Int) = 0 := fun l hl => by
    rw [flt_part (by omega) (by omega)]
    unfold fltP
    rw [if_neg (by omega)]
  have hn : ∀ k, 1 ≤ k → numAt (laidN bs is k) 0 4 = (encI (is.getD 0 z7)).toNat := by
    intro k hk
    induction k with
    | zero => omega
    | succ k ih =>
      by_cases h0 : k = 0
      · subst h0
        have h1 := num_stB bs 0 4 (encI (is.getD 0 z7)) (hf bs h)
        have h2 := encI_in (is.getD 0 z7)
        have h3 : numAt (laidN bs is 1) 0 4 = (encI (is.getD 0 z7)).toNat % 256 ^ 4 := h1
        rw [h3]
        omega
      · rw [← ih (by omega)]
        exact num_same fun j h1 h2 => stB_out _ _ _ _ _ (by omega) (.inr (.inl (by omega)))
  have h2 := encI_in (is.getD 0 z7)
  have h0 : flt (laidN bs is k).length 0 4 = 0 := hf _ (by rw [laidN_len]; exact h)
  unfold ldV
  rw [if_pos h0]
  show ((numAt (laidN bs is k) 0 4 : Nat) : Int) = _
  rw [hn k hk]
  omega
theorem ops_some : ∀ k : Nat, k < 88 → 1 ≤ k → (refRow (k : Int)).2.1 ≠ 0 := by decide +kernel
theorem fld_00 : Fld 0 0 7 = 0 := by decide +kernel
theorem match_0 (k : Nat) (h1 : 1 ≤ k) (h2 : k < 88) : MatchB k 0 = false := by
  refine head_no k 0 ?_
  rw [fld_00]
  exact beq_eq_false_iff_ne.2 (ops_some k h2 h1)
theorem dec_0 : decP 0 = none := by
  unfold decP
  rw [find_none (fun k => MatchB k 0) 87 (fun j h1 h2 => match_0 j h1 h2)]
  rfl
theorem dec_enc (i : In7) (hg : GoodB i.1 i.2.1 i.2.2.1 i.2.2.2.1 i.2.2.2.2.1 i.2.2.2.2.2.1 i.2.2.2.2.2.2 = true) : decP (encI i) = some i := by
  obtain ⟨n1, n2⟩ := good_row hg
  obtain ⟨op, rd, rs1, rs2, im, aq, rl⟩ := i
  dsimp only at hg n1 n2
  obtain ⟨n, rfl⟩ : ∃ n : Nat, op = (n : Int) := ⟨op.toNat, by omega⟩
  obtain ⟨U, hU, hE, hM, e1, e2, e3, e4, e5, e6⟩ := back_all n rd rs1 rs2 im aq rl hg
  have he : encI ((n : Int), rd, rs1, rs2, im, aq, rl) = (U : Int) := (if_pos hg).trans hE
  rw [he]
  unfold decP
  rw [find_first (fun k => MatchB k U) 87 n (by omega) (by omega) hM (fun j h1 h2 => by
    cases hj : MatchB j U with
    | false => rfl
    | true => exact absurd (back_one n j U (by omega) (by omega) h1 (by omega) hM hj) (by omega))]
  simp only [Option.map_some, e1, e2, e3, e4, e5, e6]
theorem enc_wrap (i : In7) : IntKind.u32.wrap (encI i) = encI i := by
  have := encI_in i
  rw [IntKind.wrap_u32]; omega
/-- What the first word is, fetched. -/
theorem fet_first (bs : By) (is : List In7) (h : 4 ≤ bs.length) (k : Nat) (hk : 1 ≤ k) :
    fetS (laidN bs is k) 0 = if GoodB (is.getD 0 z7).1 (is.getD 0 z7).2.1 (is.getD 0 z7).2.2.1 (is.getD 0 z7).2.2.2.1 (is.getD 0 z7).2.2.2.2.1 (is.getD 0 z7).2.2.2.2.2.1 (is.getD 0 z7).2.2.2.2.2.2 = true
      then (if (is.getD 0 z7).1 = 51 ∨ (is.getD 0 z7).1 = 52 then (z7, 60) else (is.getD 0 z7, 0)) else (z7, 21) := by
  have hf : flt (laidN bs is k).length 0 4 = 0 := by
    rw [laidN_len, flt_part (by omega) (by omega)]
    unfold fltP
    rw [if_neg (by omega)]
  unfold fetS
  rw [if_pos hf, laid_first bs is h k hk, enc_wrap]
  generalize is.getD 0 z7 = i
  by_cases hg : GoodB i.1 i.2.1 i.2.2.1 i.2.2.2.1 i.2.2.2.2.1 i.2.2.2.2.2.1 i.2.2.2.2.2.2 = true
  · rw [dec_enc i hg, if_pos hg]
  · have h0 : encI i = 0 := if_neg hg
    rw [h0, dec_0, if_neg hg]
end Go.Proofs.YtmggichckhoomaaGreatDoor
end
section
namespace Go.Proofs.YtmggichckhoomaaGreatDoor
open Go.RowKit
set_option linter.unusedVariables false
set_option linter.unusedSimpArgs false
def scI (op : Int) : In7 := (op, 3, 1, 2, 0, false, false)
def scB (op : Int) : By := laidN (List.replicate 1064 0) [scI op] 1
def scH (A v : Int) (held : Bool) (B z : Int) : HV := ⟨0, 0 :: A :: v :: List.replicate 29 0, held, B, z⟩
theorem sc_fet (op : Int) (ho : op = 67 ∨ op = 78) : fetS (scB op) 0 = (scI op, 0) := by
  have h := fet_first (List.replicate 1064 0) [scI op] (by rw [List.length_replicate]; omega) 1 (Nat.le_refl _)
  have e : [scI op].getD 0 z7 = scI op := rfl
  rw [e] at h
  have hg : GoodB (scI op).1 (scI op).2.1 (scI op).2.2.1 (scI op).2.2.2.1 (scI op).2.2.2.2.1 (scI op).2.2.2.2.2.1 (scI op).2.2.2.2.2.2 = true := by
    rcases ho with rfl | rfl <;> decide +kernel
  rw [if_pos hg, if_neg (by show ¬ (op = 51 ∨ op = 52); omega)] at h
  exact h
theorem sc_size (op s : Int) (ho : op = 67 ∧ s = 4 ∨ op = 78 ∧ s = 8) : SizeI op = s := by
  rcases ho with ⟨rfl, rfl⟩ | ⟨rfl, rfl⟩ <;> rfl
theorem sc_ad (op A : Int) (ho : op = 67 ∨ op = 78) : AdB op 0 A = A := by
  unfold AdB
  rw [if_pos (by unfold AtomB; exact decide_eq_true (by omega))]
theorem sc_st (op s v : Int) (ho : op = 67 ∧ s = 4 ∨ op = 78 ∧ s = 8) : StB op 0 v = Fld v 0 (8 * s) := by
  rcases ho with ⟨rfl, rfl⟩ | ⟨rfl, rfl⟩
  · have e : CgB 67 0 v = v := by unfold CgB; simp
    unfold StB
    rw [if_pos (by decide), e]
    rfl
  · have e : CgB 78 0 v = v := by unfold CgB; simp
    unfold StB
    rw [if_pos (by decide), e]
    rfl
theorem sc_len (op : Int) : (scB op).length = 1064 := by
  unfold scB
  rw [laidN_len, List.length_replicate]
theorem sc_flt (op s A : Int) (ho : op = 67 ∧ s = 4 ∨ op = 78 ∧ s = 8) (a0 : 64 ≤ A) (a1 : A ≤ 456) (a8 : A % 8 = 0) : flt (scB op).length A s = 0 := by
  rw [sc_len, flt_part (by omega) (by rcases ho with ⟨-, rfl⟩ | ⟨-, rfl⟩ <;> omega)]
  unfold fltP
  rw [if_neg (by omega)]
/-- What an sc does to the bytes, if it stores. -/
theorem sc_mov (op s A v : Int) (ho : op = 67 ∧ s = 4 ∨ op = 78 ∧ s = 8) (a0 : 64 ≤ A) (a1 : A ≤ 456) (a8 : A % 8 = 0) : movS op A s v (scB op) = (0, 0, stB (scB op) A s (Fld v 0 (8 * s))) := by
  have h1 : LoadB op = false := by rcases ho with ⟨rfl, -⟩ | ⟨rfl, -⟩ <;> rfl
  have h2 : StoreB op = true := by rcases ho with ⟨rfl, -⟩ | ⟨rfl, -⟩ <;> rfl
  unfold movS
  rw [if_pos ⟨fun h => absurd (h1.symm.trans h) (by decide), h2⟩, h1, sc_flt op s A ho a0 a1 a8, if_neg (by decide), sc_st op s v ho]
theorem sc_don (op s A v : Int) (ho : op = 67 ∧ s = 4 ∨ op = 78 ∧ s = 8) (a0 : 64 ≤ A) (a1 : A ≤ 456) (a8 : A % 8 = 0) (held : Bool) (B z : Int) :
    donS (scH A v held B z) (scI op) A v (scB op) = if held = true ∧ B = A ∧ z = s then ({ (scH A v held B z) with held := false, addr := 0, size := 0 }, 0, 0, stB (scB op) A s (Fld v 0 (8 * s)))
      else ({ (scH A v held B z) with held := false, addr := 0, size := 0 }, 1, 0, scB op) := by
  have h1 : LoadB op = false := by rcases ho with ⟨rfl, -⟩ | ⟨rfl, -⟩ <;> rfl
  have h2 : StoreB op = true := by rcases ho with ⟨rfl, -⟩ | ⟨rfl, -⟩ <;> rfl
  have h3 : LdB op 0 = 0 := by unfold LdB; rw [h1]; rfl
  have e1 : (scI op).1 = op := rfl
  have e2 : (scI op).2.2.2.2.1 = 0 := rfl
  have e3 : (scH A v held B z).held = held := rfl
  have e4 : (scH A v held B z).addr = B := rfl
  have e5 : (scH A v held B z).size = z := rfl
  unfold donS
  rw [e1, e2, e3, e4, e5, sc_ad op A (by omega), sc_size op s ho, sc_mov op s A v ho a0 a1 a8, h3,
    if_neg (by rw [h2]; intro h; cases h.2), if_neg (by omega), if_pos (by omega)]
/-- What an sc does. -/
theorem sc_step (op s A v : Int) (ho : op = 67 ∧ s = 4 ∨ op = 78 ∧ s = 8) (a0 : 64 ≤ A) (a1 : A ≤ 456) (a8 : A % 8 = 0) (held : Bool) (B z : Int) :
    ∃ pc x3 bs', stepS (scH A v held B z) (scB op) = (⟨pc, 0 :: A :: v :: x3 :: List.replicate 28 0, false, 0, 0⟩, 0, bs') ∧ bs'.length = 1064 ∧
      (if held = true ∧ B = A ∧ z = s then x3 = 0 ∧ bs' = stB (scB op) A s (Fld v 0 (8 * s)) else x3 = 1 ∧ bs' = scB op) := by
  have e0 : (scH A v held B z).pc = 0 := rfl
  have ex : (scH A v held B z).x = 0 :: A :: v :: List.replicate 29 0 := rfl
  have e1 : rg (0 :: A :: v :: List.replicate 29 0) (Int.toNat 1) = A := rfl
  have e2 : rg (0 :: A :: v :: List.replicate 29 0) (Int.toNat 2) = v := rfl
  have i1 : (scI op).2.2.1 = 1 := rfl
  have i2 : (scI op).2.2.2.1 = 2 := rfl
  have i3 : (scI op).2.1 = 3 := rfl
  have hd := sc_don op s A v ho a0 a1 a8 held B z
  unfold stepS
  rw [e0, ex, sc_fet op (by omega)]
  dsimp only
  rw [i1, i2, i3, e1, e2, hd]
  have hl := sc_len op
  generalize scB op = SB at *
  clear hd
  by_cases hc : held = true ∧ B = A ∧ z = s
  · rw [if_pos hc]
    refine ⟨_, 0, stB SB A s (Fld v 0 (8 * s)), rfl, ?_, by rw [if_pos hc]; exact ⟨rfl, rfl⟩⟩
    rw [stB_len _ _ _ _ (by omega), hl]
  · rw [if_neg hc]
    exact ⟨_, 1, SB, rfl, hl, by rw [if_neg hc]; exact ⟨rfl, rfl⟩⟩
theorem sc_zero (op s A : Int) (ho : op = 67 ∧ s = 4 ∨ op = 78 ∧ s = 8) (a0 : 64 ≤ A) (a1 : A ≤ 456) (a8 : A % 8 = 0) : ldV (scB op) A s = 0 := by
  unfold ldV
  rw [if_pos (sc_flt op s A ho a0 a1 a8)]
  have e : scB op = stB (List.replicate 1064 0) (4 * ((0 : Nat) : Int)) 4 (encI ([scI op].getD 0 z7)) := rfl
  have h1 : numAt (scB op) A.toNat s.toNat = numAt (List.replicate 1064 0) A.toNat s.toNat := by
    rw [e]
    generalize List.replicate 1064 (0 : UInt8) = Z
    exact num_same fun j h1 h2 => stB_out _ _ _ _ _ (by omega) (.inr (.inr (by omega)))
  have h2 : ∀ k : Nat, leV (List.replicate k 0) = 0 := fun k => by
    induction k with
    | zero => rfl
    | succ k ih => rw [List.replicate_succ]; unfold leV; rw [ih]; rfl
  rw [h1]
  unfold numAt
  rw [List.drop_replicate, List.take_replicate, h2]
  rfl
theorem sc_load (op s A v : Int) (ho : op = 67 ∧ s = 4 ∨ op = 78 ∧ s = 8) (a0 : 64 ≤ A) (a1 : A ≤ 456) (a8 : A % 8 = 0) (qv : InU v) : ldV (stB (scB op) A s (Fld v 0 (8 * s))) A s = Fld v 0 (8 * s) := by
  have hf := sc_flt op s A ho a0 a1 a8
  obtain ⟨a, rfl⟩ : ∃ a : Nat, A = (a : Int) := ⟨A.toNat, by omega⟩
  obtain ⟨k, rfl⟩ : ∃ k : Nat, s = (k : Int) := ⟨s.toNat, by omega⟩
  have hn := num_stB (scB op) a k (Fld v 0 (8 * (k : Int))) hf
  have hl := stB_len (scB op) a k (Fld v 0 (8 * (k : Int))) (by omega)
  unfold ldV
  rw [hl, if_pos hf, Int.toNat_natCast, Int.toNat_natCast, hn]
  have hr : 0 ≤ Fld v 0 (8 * (k : Int)) := by unfold Fld; omega
  have h3 : (Fld v 0 (8 * (k : Int))).toNat < 256 ^ k := by
    unfold Fld fld
    rw [Int.toNat_natCast]
    rcases ho with ⟨-, h⟩ | ⟨-, h⟩
    · have hk : k = 4 := by omega
      subst hk
      exact Nat.lt_of_lt_of_le (Nat.mod_lt _ (Nat.two_pow_pos _)) (by decide +kernel)
    · have hk : k = 8 := by omega
      subst hk
      exact Nat.lt_of_lt_of_le (Nat.mod_lt _ (Nat.two_pow_pos _)) (by decide +kernel)
  rw [Nat.mod_eq_of_lt h3]
  omega
end Go.Proofs.YtmggichckhoomaaGreatDoor
end
