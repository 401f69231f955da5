/-
  Proved here: what a hart's step is, as a plain function on its registers and bytes, and what a word decodes to. Conditions: none. ¦ what moved, fetched and following of the code answer. Conditions: the memory is one that a call made, of at most 2^24 bytes; the table of codes holds what its text lays.
-/
import Derived.Test.YtmggichckhoomaaGreatDoorQam
import Derived.Test.YtmggichckhoomaaGreatDoorQan
import Derived.Test.YtmggichckhoomaaGreatDoorQbd
import Derived.Test.YtmggichckhoomaaGreatDoorQbe
import Derived.Test.YtmggichckhoomaaGreatDoorQbf
import Derived.Test.YtmggichckhoomaaGreatDoorQbg
import Derived.Test.YtmggichckhoomaaGreatDoorQao
section
namespace Go.Proofs.YtmggichckhoomaaGreatDoor
open Go.RowKit
set_option linter.unusedVariables false
set_option linter.unusedSimpArgs false
abbrev In7 := Int × Int × Int × Int × Int × Bool × Bool
def i7A (i : In7) : Value := .agg #[.int .i64 i.1, .int .i64 i.2.1, .int .i64 i.2.2.1, .int .i64 i.2.2.2.1, .int .i64 i.2.2.2.2.1, .bool i.2.2.2.2.2.1, .bool i.2.2.2.2.2.2]
def z7 : In7 := (0, 0, 0, 0, 0, false, false)
/-- A hart. -/
structure HV where
  pc : Int
  x : List Int
  held : Bool
  addr : Int
  size : Int
def hC (h : HV) : List Value := .int .u64 h.pc :: (xV h.x ++ [.bool h.held, .int .u64 h.addr, .int .i64 h.size])
def hA (h : HV) : Value := .agg (hC h).toArray
structure HOk (h : HV) : Prop where
  len : h.x.length = 32
  pc : InU h.pc
  x : ∀ v ∈ h.x, InU v
  addr : InU h.addr
  size : -9223372036854775808 ≤ h.size ∧ h.size < 9223372036854775808
theorem hC_len {h : HV} (k : h.x.length = 32) : (hC h).length = 36 := by simp [hC, xV_len, k]
theorem hC_one (h : HV) : ∀ v ∈ hC h, v.oneCell' = true := by
  intro v hv
  unfold hC at hv
  rcases List.mem_cons.1 hv with rfl | hv
  · rfl
  · rcases List.mem_append.1 hv with hv | hv
    · exact xV_one _ v hv
    · simp at hv
      rcases hv with rfl | rfl | rfl <;> rfl
def decP (u : Int) : Option In7 := (((List.range 87).map (· + 1)).find? fun (k : Nat) => MatchB k u).map fun (k : Nat) => ((k : Int), Ird k u, Irs1 k u, Irs2 k u, Iim k u, Iaq k u, Irl k u)
theorem find_first (p : Nat → Bool) (n k : Nat) (h1 : 1 ≤ k) (h2 : k ≤ n) (hp : p k = true) (hn : ∀ j, 1 ≤ j → j < k → p j = false) : ((List.range n).map (· + 1)).find? p = some k := by
  rw [List.find?_eq_some_iff_append]
  refine ⟨hp, (List.range (k - 1)).map (· + 1), ((List.range (n - k)).map (· + (k + 1))), ?_, ?_⟩
  · apply List.ext_getElem
    · simp; omega
    · intro i h3 h4
      simp only [List.length_map, List.length_range] at h3
      rcases Nat.lt_trichotomy i (k - 1) with h | h | h
      · rw [List.getElem_append_left (by simpa using h)]; simp
      · subst h
        rw [List.getElem_append_right (by simp)]
        simp; omega
      · rw [List.getElem_append_right (by simp; omega)]
        simp only [List.length_map, List.length_range]
        rw [List.getElem_cons, dif_neg (by omega)]
        simp; omega
  · intro a ha
    simp at ha
    obtain ⟨j, hj, rfl⟩ := ha
    simp [hn (j + 1) (by omega) (by omega)]
theorem find_none (p : Nat → Bool) (n : Nat) (hn : ∀ j, 1 ≤ j → j < n + 1 → p j = false) : ((List.range n).map (· + 1)).find? p = none := by
  rw [List.find?_eq_none]
  intro a ha
  simp at ha
  obtain ⟨j, hj, rfl⟩ := ha
  simp [hn (j + 1) (by omega) (by omega)]
theorem dec_is {u : Int} {e : Ending} (h : DecAns u e) : e = .returned (.tuple #[i7A ((decP u).getD z7), .int .i64 (if (decP u).isSome = true then 0 else 21)]) := by
  rcases h with ⟨k, h1, h2, h3, h4, rfl⟩ | ⟨h1, rfl⟩
  · unfold decP
    rw [find_first (fun k => MatchB k u) 87 k h1 (by omega) h3 h4]
    rfl
  · unfold decP
    rw [find_none (fun k => MatchB k u) 87 h1]
    rfl
theorem dec_good {u : Int} {i : In7} (h : decP u = some i) : GoodB i.1 i.2.1 i.2.2.1 i.2.2.2.1 i.2.2.2.2.1 i.2.2.2.2.2.1 i.2.2.2.2.2.2 = true ∧ (-9223372036854775808 ≤ i.2.2.2.2.1 ∧ i.2.2.2.2.1 < 9223372036854775808) := by
  unfold decP at h
  rw [Option.map_eq_some_iff] at h
  obtain ⟨k, hk, rfl⟩ := h
  have hm := List.find?_some hk
  refine ⟨?_, iim_range k u⟩
  unfold MatchB at hm
  simp only [Bool.and_eq_true] at hm
  exact hm.2.2.1
/-- What stands at a place as an instruction, and an error. -/
def fetS (bs : By) (pc : Int) : In7 × Int :=
  if flt bs.length pc 4 = 0 then (match decP (IntKind.u32.wrap (ldV bs pc 4)) with
    | none => (z7, 21)
    | some i => if i.1 = 51 ∨ i.1 = 52 then (z7, 60) else (i, 0))
  else (z7, flt bs.length pc 4)
def nextS (i : In7) (pc a b : Int) : Int := if BrB i.1 = true ∧ TkB i.1 i.2.1 i.2.2.1 i.2.2.2.1 i.2.2.2.2.1 i.2.2.2.2.2.1 i.2.2.2.2.2.2 a b = false then IntKind.u64.wrap (pc + 4) else TgB i.1 i.2.2.2.2.1 pc a
/-- What is loaded and stored: what was there, an error, the bytes. -/
def movS (op at_ s b : Int) (bs : By) : Int × Int × By :=
  if (LoadB op = true → flt bs.length at_ s = 0) ∧ StoreB op = true then (if LoadB op = true then ldV bs at_ s else 0, flt bs.length at_ s, stB bs at_ s (StB op (if LoadB op = true then ldV bs at_ s else 0) b))
  else (if LoadB op = true then ldV bs at_ s else 0, if LoadB op = true then flt bs.length at_ s else 0, bs)
/-- What an instruction does beside going on: the hart, what its register gets, an error, the bytes. -/
def donS (h : HV) (i : In7) (a b : Int) (bs : By) : HV × Int × Int × By :=
  if LoadB i.1 = false ∧ StoreB i.1 = false then (h, VX i.1 i.2.1 i.2.2.1 i.2.2.2.1 i.2.2.2.2.1 i.2.2.2.2.2.1 i.2.2.2.2.2.2 h.pc a b, 0, bs)
  else
    if i.1 = 66 ∨ i.1 = 77 then ({ h with held := true, addr := AdB i.1 i.2.2.2.2.1 a, size := SizeI i.1 }, LdB i.1 (movS i.1 (AdB i.1 i.2.2.2.2.1 a) (SizeI i.1) b bs).1, (movS i.1 (AdB i.1 i.2.2.2.2.1 a) (SizeI i.1) b bs).2)
    else if i.1 = 67 ∨ i.1 = 78 then
      if h.held = true ∧ h.addr = AdB i.1 i.2.2.2.2.1 a ∧ h.size = SizeI i.1 then ({ h with held := false, addr := 0, size := 0 }, LdB i.1 (movS i.1 (AdB i.1 i.2.2.2.2.1 a) (SizeI i.1) b bs).1, (movS i.1 (AdB i.1 i.2.2.2.2.1 a) (SizeI i.1) b bs).2)
      else ({ h with held := false, addr := 0, size := 0 }, 1, 0, bs)
    else (h, LdB i.1 (movS i.1 (AdB i.1 i.2.2.2.2.1 a) (SizeI i.1) b bs).1, (movS i.1 (AdB i.1 i.2.2.2.2.1 a) (SizeI i.1) b bs).2)
/-- A step: the hart, an error, the bytes. -/
def stepS (h : HV) (bs : By) : HV × Int × By :=
  if (fetS bs h.pc).2 = 0 then
    (if (donS h (fetS bs h.pc).1 (rg h.x (fetS bs h.pc).1.2.2.1.toNat) (rg h.x (fetS bs h.pc).1.2.2.2.1.toNat) bs).2.2.1 = 0 then
      ({ (donS h (fetS bs h.pc).1 (rg h.x (fetS bs h.pc).1.2.2.1.toNat) (rg h.x (fetS bs h.pc).1.2.2.2.1.toNat) bs).1 with
          pc := nextS (fetS bs h.pc).1 h.pc (rg h.x (fetS bs h.pc).1.2.2.1.toNat) (rg h.x (fetS bs h.pc).1.2.2.2.1.toNat),
          x := (h.x.set (fetS bs h.pc).1.2.1.toNat (donS h (fetS bs h.pc).1 (rg h.x (fetS bs h.pc).1.2.2.1.toNat) (rg h.x (fetS bs h.pc).1.2.2.2.1.toNat) bs).2.1).set 0 0 },
        0, (donS h (fetS bs h.pc).1 (rg h.x (fetS bs h.pc).1.2.2.1.toNat) (rg h.x (fetS bs h.pc).1.2.2.2.1.toNat) bs).2.2.2)
    else (h, (donS h (fetS bs h.pc).1 (rg h.x (fetS bs h.pc).1.2.2.1.toNat) (rg h.x (fetS bs h.pc).1.2.2.2.1.toNat) bs).2.2.1, (donS h (fetS bs h.pc).1 (rg h.x (fetS bs h.pc).1.2.2.1.toNat) (rg h.x (fetS bs h.pc).1.2.2.2.1.toNat) bs).2.2.2))
  else (h, (fetS bs h.pc).2, bs)
theorem fet_good {bs : By} {pc : Int} (h : (fetS bs pc).2 = 0) : ∃ i, (fetS bs pc).1 = i ∧ GoodB i.1 i.2.1 i.2.2.1 i.2.2.2.1 i.2.2.2.2.1 i.2.2.2.2.2.1 i.2.2.2.2.2.2 = true ∧ (-9223372036854775808 ≤ i.2.2.2.2.1 ∧ i.2.2.2.2.1 < 9223372036854775808) ∧ i.1 ≠ 51 ∧ i.1 ≠ 52 := by
  unfold fetS at h ⊢
  split at h
  · rename_i h0
    rw [if_pos h0]
    cases hq : decP (IntKind.u32.wrap (ldV bs pc 4)) with
    | none => rw [hq] at h; cases h
    | some i =>
      rw [hq] at h
      simp only at h ⊢
      split at h
      · cases h
      · rename_i h1
        rw [if_neg h1]
        obtain ⟨g1, g2⟩ := dec_good hq
        exact ⟨i, rfl, g1, g2, by omega, by omega⟩
  · rename_i h0
    exact absurd h h0
theorem grown_of_below {w w1 w2 : World} {q : Nat} (h : Below w.heap.size w w1) (k : w1.grownBy w2 (some q)) : w.grownBy w2 (some q) :=
  ⟨k.os.trans h.os, k.tape.trans h.tape, k.output.trans h.output, Nat.le_trans h.size k.size, fun i hi hr => (k.block i (Nat.lt_of_lt_of_le hi h.size) hr).trans (h.block i hi)⟩
end Go.Proofs.YtmggichckhoomaaGreatDoor
end
section
namespace Go.Proofs.YtmggichckhoomaaGreatDoor
open Go.RowKit
set_option linter.unusedVariables false
set_option linter.unusedSimpArgs false
theorem st_in (op old b : Int) : InU (StB op old b) := by
  unfold StB
  split
  · unfold Fld InU
    have := fld_lt (CgB op old b).toNat (0 : Int).toNat (wid 0 (8 * SizeI op))
    have h2 : (2 : Nat) ^ (wid 0 (8 * SizeI op)) ≤ 2 ^ 64 := Nat.pow_le_pow_right (by omega) (by have := size_range op; unfold wid; split <;> omega)
    omega
  · unfold InU; omega
set_option maxRecDepth 100000 in
set_option maxHeartbeats 2000000 in
theorem moved_any (op at_ s b : Int) (p q : Nat) (bs : By) (ha : InU at_) (hb : InU b) (hl : bs.length ≤ 16777216) (w : World) (hM : Mem 92 w p q bs) :
    Calls Tryz.prog 59 #[.int .i64 op, .int .u64 at_, .int .i64 s, .int .u64 b, .pointer (some ⟨p, 0, none⟩)] w fun e w' =>
      e = .returned (.tuple #[.int .u64 (movS op at_ s b bs).1, .int .i64 (movS op at_ s b bs).2.1]) ∧ Mem 92 w' p q (movS op at_ s b bs).2.2 ∧ w.grownBy w' (some q) := by
  have HL := Lib.hid (load_any p q bs at_ s ha.1 ha.2 hl w hM)
  have h1 := Lib.hid (loads_any op)
  have h2 := Lib.hid (stores_any op)
  have hld := ldV_in bs at_ s
  cases hL : LoadB op with
  | true =>
    rw [hL] at h1
    cases hS : StoreB op with
    | true =>
      rw [hS] at h2
      by_cases hf : flt bs.length at_ s = 0
      · have HT := Lib.hid (st_any op (ldV bs at_ s) b hld hb)
        have e0 := Lib.hid (show movS op at_ s b bs = (ldV bs at_ s, 0, stB bs at_ s (StB op (ldV bs at_ s) b)) by unfold movS; simp [hL, hS, hf])
        have HW := Lib.hid fun w1 h => store_any p q bs at_ s (StB op (ldV bs at_ s) b) ha.1 ha.2 (st_in _ _ _).1 hl w1 h
        rw [hf] at HL HW
        rw [e0.out]
        generalize StB op (ldV bs at_ s) b = st at *
        generalize ldV bs at_ s = old at *
        clear hf hL hS
        go_enter Tryz.func59, Tryz.ntmps59
        go_wp2_with fail
        refine (h1.out _).mono ?_
        rintro e w' ⟨rfl, rfl⟩
        go_wp2_with fail
        refine (HL.out).mono ?_
        rintro e w' ⟨rfl, rfl⟩
        go_wp2_with fail
        refine (h2.out _).mono ?_
        rintro e w' ⟨rfl, rfl⟩
        go_wp2_with fail
        refine (HT.out _).mono ?_
        rintro e w1 ⟨rfl, hn⟩
        go_wp2_with fail
        refine (HW.out w1 (hM.nb hn)).mono ?_
        rintro e w2 ⟨rfl, hM2, hg⟩
        go_wp2_with fail
        go_ret2
        exact ⟨rfl, hM2, grown_of_below hn hg⟩
      · have e0 := Lib.hid (show movS op at_ s b bs = (ldV bs at_ s, flt bs.length at_ s, bs) by unfold movS; simp [hL, hS, hf])
        have hf2 : (flt bs.length at_ s == 0) = false := beq_eq_false_iff_ne.2 hf
        rw [e0.out]
        generalize flt bs.length at_ s = E at *
        generalize ldV bs at_ s = old at *
        clear hf hL hS
        go_enter Tryz.func59, Tryz.ntmps59
        go_wp2_with fail
        refine (h1.out _).mono ?_
        rintro e w' ⟨rfl, rfl⟩
        go_wp2_with fail
        refine (HL.out).mono ?_
        rintro e w' ⟨rfl, rfl⟩
        go_wp2_with fail
        go_ret2
        exact ⟨rfl, hM, World.grownBy.refl w _⟩
    | false =>
      rw [hS] at h2
      have e0 := Lib.hid (show movS op at_ s b bs = (ldV bs at_ s, flt bs.length at_ s, bs) by unfold movS; simp [hL, hS])
      rw [e0.out]
      by_cases hf : flt bs.length at_ s = 0
      · rw [hf] at HL ⊢
        generalize ldV bs at_ s = old at *
        clear hf hL hS
        go_enter Tryz.func59, Tryz.ntmps59
        go_wp2_with fail
        refine (h1.out _).mono ?_
        rintro e w' ⟨rfl, rfl⟩
        go_wp2_with fail
        refine (HL.out).mono ?_
        rintro e w' ⟨rfl, rfl⟩
        go_wp2_with fail
        refine (h2.out _).mono ?_
        rintro e w' ⟨rfl, rfl⟩
        go_wp2_with fail
        go_ret2
        exact ⟨rfl, hM, World.grownBy.refl w _⟩
      · have hf2 : (flt bs.length at_ s == 0) = false := beq_eq_false_iff_ne.2 hf
        generalize flt bs.length at_ s = E at *
        generalize ldV bs at_ s = old at *
        clear hf hL hS
        go_enter Tryz.func59, Tryz.ntmps59
        go_wp2_with fail
        refine (h1.out _).mono ?_
        rintro e w' ⟨rfl, rfl⟩
        go_wp2_with fail
        refine (HL.out).mono ?_
        rintro e w' ⟨rfl, rfl⟩
        go_wp2_with fail
        go_ret2
        exact ⟨rfl, hM, World.grownBy.refl w _⟩
  | false =>
    rw [hL] at h1
    clear HL
    cases hS : StoreB op with
    | true =>
      rw [hS] at h2
      have HT := Lib.hid (st_any op 0 b ⟨by omega, by omega⟩ hb)
      have e0 := Lib.hid (show movS op at_ s b bs = (0, flt bs.length at_ s, stB bs at_ s (StB op 0 b)) by unfold movS; simp [hL, hS])
      have HW := Lib.hid fun w1 h => store_any p q bs at_ s (StB op 0 b) ha.1 ha.2 (st_in _ _ _).1 hl w1 h
      rw [e0.out]
      generalize StB op 0 b = st at *
      generalize flt bs.length at_ s = E at *
      clear hL hS
      go_enter Tryz.func59, Tryz.ntmps59
      go_wp2_with fail
      refine (h1.out _).mono ?_
      rintro e w' ⟨rfl, rfl⟩
      go_wp2_with fail
      refine (h2.out _).mono ?_
      rintro e w' ⟨rfl, rfl⟩
      go_wp2_with fail
      refine (HT.out _).mono ?_
      rintro e w1 ⟨rfl, hn⟩
      go_wp2_with fail
      refine (HW.out w1 (hM.nb hn)).mono ?_
      rintro e w2 ⟨rfl, hM2, hg⟩
      go_wp2_with fail
      go_ret2
      exact ⟨rfl, hM2, grown_of_below hn hg⟩
    | false =>
      rw [hS] at h2
      have e0 := Lib.hid (show movS op at_ s b bs = (0, 0, bs) by unfold movS; simp [hL, hS])
      rw [e0.out]
      clear hL hS
      go_enter Tryz.func59, Tryz.ntmps59
      go_wp2_with fail
      refine (h1.out _).mono ?_
      rintro e w' ⟨rfl, rfl⟩
      go_wp2_with fail
      refine (h2.out _).mono ?_
      rintro e w' ⟨rfl, rfl⟩
      go_wp2_with fail
      go_ret2
      exact ⟨rfl, hM, World.grownBy.refl w _⟩
end Go.Proofs.YtmggichckhoomaaGreatDoor
end
