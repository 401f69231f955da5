/-
  Proved here: the fields of an instruction that may be come back from its word, form by form, with the code's own functions. Conditions: the numbers are those of an instruction that may be.
-/
import Derived.Test.YtmggichckhoomaaGreatDoorHac
import Derived.Test.YtmggichckhoomaaGreatDoorHaa
import Derived.Test.YtmggichckhoomaaGreatDoorHab
namespace Go.Proofs.YtmggichckhoomaaGreatDoor
open Go.RowKit
set_option linter.unusedVariables false
theorem oi_t (x : Int) : oi true x = x := rfl
set_option maxRecDepth 20000 in
theorem bk_1 (o a3 a7 rd rs1 rs2 : Nat) (im : Int) (aq rl : Bool) (ho : o < 128) (h3 : a3 < 8) (h7 : a7 < 128) (z3 : a3 = 0) (z7 : a7 = 0) (hrd : rd < 32) (hr1 : rs1 < 32) (hr2 : rs2 < 32) (hm : MayB 1 im = true) :
    ∃ U : Nat, U < 4294967296 ∧ WW 1 o a3 a7 rd 0 0 false false (IntKind.u64.wrap im) = (U : Int) ∧ Fld U 0 7 = o ∧ Get (f3T 1) 0 U = a3 ∧ Get (f7T 1) 0 U = a7 ∧
      oi (rdT 1) (Fld U 7 5) = rd ∧ oi (rs1T 1) (Fld U 15 5) = 0 ∧ oi (rs2T 1) (Fld U 20 5) = 0 ∧ oi (immT 1) (II 1 U) = im ∧ ob (ordT 1) (Fld U 26 1 == 1) = false ∧ ob (ordT 1) (Fld U 25 1 == 1) = false := by
  obtain ⟨m0, m1, m2⟩ := may1 hm
  obtain ⟨X, hX⟩ : ∃ X : Nat, IntKind.u64.wrap im = (X : Int) := Int.eq_ofNat_of_zero_le (by rw [IntKind.wrap_u64]; omega)
  rw [hX]
  rw [IntKind.wrap_u64] at hX
  obtain ⟨hw, hl⟩ := ww_1 o a3 a7 rd rs1 rs2 X aq rl
  have hs := word_1 o a3 a7 rd rs1 rs2 (bin aq) (bin rl) X ho h3 h7 hrd hr1 hr2 (bin_lt _) (bin_lt _)
  rw [hs] at hw hl
  clear hs
  refine ⟨_, hl, hw, ?_⟩
  clear hw
  generalize hU : 0 + 2 ^ 0 * (o % 2 ^ 7) + 2 ^ 7 * (rd % 2 ^ 5) + 2 ^ 12 * ((fld X 12 20) % 2 ^ 20) = U at hl ⊢
  rw [Nat.mod_eq_of_lt (show o < 2 ^ 7 from ho), Nat.mod_eq_of_lt (show rd < 2 ^ 5 from hrd), Nat.mod_eq_of_lt (fld_lt X 12 20)] at hU
  obtain ⟨r0, r3, p0⟩ := ext_1 _ _ _ U ho hrd (fld_lt X 12 20) (by rw [← hU]; omega)
  clear hU
  have hG : IG 1 U = (((plc (plc (plc (plc 0 12 20 (fld U 12 20)) 0 0 (fld U 0 0)) 0 0 (fld U 0 0)) 0 0 (fld U 0 0)) : Nat) : Int) := rfl
  try simp only [plc_zero] at hG
  rw [p0, gx_1 X (by omega)] at hG
  have hI : II 1 U = im := by
    unfold II
    rw [hG, show sgT 1 = 32 from rfl]
    exact gs_1 im X m1 m2 hX
  exact ⟨(congrArg Nat.cast r0 : ((fld U 0 7 : Nat) : Int) = o), (by show ((plc 0 0 0 (fld U 0 0) : Nat) : Int) = a3; rw [plc_zero, z3]), (by show ((plc 0 0 0 (fld U 0 0) : Nat) : Int) = a7; rw [plc_zero, z7]), (congrArg Nat.cast r3 : ((fld U 7 5 : Nat) : Int) = rd), rfl, rfl, (by rw [show immT 1 = true from rfl, oi_t]; exact hI), rfl, rfl⟩
set_option maxRecDepth 20000 in
theorem bk_2 (o a3 a7 rd rs1 rs2 : Nat) (im : Int) (aq rl : Bool) (ho : o < 128) (h3 : a3 < 8) (h7 : a7 < 128) (z3 : a3 = 0) (z7 : a7 = 0) (hrd : rd < 32) (hr1 : rs1 < 32) (hr2 : rs2 < 32) (hm : MayB 2 im = true) :
    ∃ U : Nat, U < 4294967296 ∧ WW 2 o a3 a7 rd 0 0 false false (IntKind.u64.wrap im) = (U : Int) ∧ Fld U 0 7 = o ∧ Get (f3T 2) 0 U = a3 ∧ Get (f7T 2) 0 U = a7 ∧
      oi (rdT 2) (Fld U 7 5) = rd ∧ oi (rs1T 2) (Fld U 15 5) = 0 ∧ oi (rs2T 2) (Fld U 20 5) = 0 ∧ oi (immT 2) (II 2 U) = im ∧ ob (ordT 2) (Fld U 26 1 == 1) = false ∧ ob (ordT 2) (Fld U 25 1 == 1) = false := by
  obtain ⟨m0, m1, m2⟩ := may2 hm
  obtain ⟨X, hX⟩ : ∃ X : Nat, IntKind.u64.wrap im = (X : Int) := Int.eq_ofNat_of_zero_le (by rw [IntKind.wrap_u64]; omega)
  rw [hX]
  rw [IntKind.wrap_u64] at hX
  obtain ⟨hw, hl⟩ := ww_2 o a3 a7 rd rs1 rs2 X aq rl
  have hs := word_2 o a3 a7 rd rs1 rs2 (bin aq) (bin rl) X ho h3 h7 hrd hr1 hr2 (bin_lt _) (bin_lt _)
  rw [hs] at hw hl
  clear hs
  refine ⟨_, hl, hw, ?_⟩
  clear hw
  generalize hU : 0 + 2 ^ 0 * (o % 2 ^ 7) + 2 ^ 7 * (rd % 2 ^ 5) + 2 ^ 31 * ((fld X 20 1) % 2 ^ 1) + 2 ^ 21 * ((fld X 1 10) % 2 ^ 10) + 2 ^ 20 * ((fld X 11 1) % 2 ^ 1) + 2 ^ 12 * ((fld X 12 8) % 2 ^ 8) = U at hl ⊢
  rw [Nat.mod_eq_of_lt (show o < 2 ^ 7 from ho), Nat.mod_eq_of_lt (show rd < 2 ^ 5 from hrd), Nat.mod_eq_of_lt (fld_lt X 20 1), Nat.mod_eq_of_lt (fld_lt X 1 10), Nat.mod_eq_of_lt (fld_lt X 11 1), Nat.mod_eq_of_lt (fld_lt X 12 8)] at hU
  obtain ⟨r0, r3, p0, p1, p2, p3⟩ := ext_2 _ _ _ _ _ _ U ho hrd (fld_lt X 20 1) (fld_lt X 1 10) (fld_lt X 11 1) (fld_lt X 12 8) (by rw [← hU]; omega)
  clear hU
  have hG : IG 2 U = (((plc (plc (plc (plc 0 20 1 (fld U 31 1)) 1 10 (fld U 21 10)) 11 1 (fld U 20 1)) 12 8 (fld U 12 8)) : Nat) : Int) := rfl
  try simp only [plc_zero] at hG
  rw [p0, p1, p2, p3, gx_2 X (by omega)] at hG
  have hI : II 2 U = im := by
    unfold II
    rw [hG, show sgT 2 = 21 from rfl]
    exact gs_2 im X m1 m2 hX
  exact ⟨(congrArg Nat.cast r0 : ((fld U 0 7 : Nat) : Int) = o), (by show ((plc 0 0 0 (fld U 0 0) : Nat) : Int) = a3; rw [plc_zero, z3]), (by show ((plc 0 0 0 (fld U 0 0) : Nat) : Int) = a7; rw [plc_zero, z7]), (congrArg Nat.cast r3 : ((fld U 7 5 : Nat) : Int) = rd), rfl, rfl, (by rw [show immT 2 = true from rfl, oi_t]; exact hI), rfl, rfl⟩
set_option maxRecDepth 20000 in
theorem bk_3 (o a3 a7 rd rs1 rs2 : Nat) (im : Int) (aq rl : Bool) (ho : o < 128) (h3 : a3 < 8) (h7 : a7 < 128) (z7 : a7 = 0) (hrd : rd < 32) (hr1 : rs1 < 32) (hr2 : rs2 < 32) (hm : MayB 3 im = true) :
    ∃ U : Nat, U < 4294967296 ∧ WW 3 o a3 a7 rd rs1 0 false false (IntKind.u64.wrap im) = (U : Int) ∧ Fld U 0 7 = o ∧ Get (f3T 3) 0 U = a3 ∧ Get (f7T 3) 0 U = a7 ∧
      oi (rdT 3) (Fld U 7 5) = rd ∧ oi (rs1T 3) (Fld U 15 5) = rs1 ∧ oi (rs2T 3) (Fld U 20 5) = 0 ∧ oi (immT 3) (II 3 U) = im ∧ ob (ordT 3) (Fld U 26 1 == 1) = false ∧ ob (ordT 3) (Fld U 25 1 == 1) = false := by
  obtain ⟨m0, m1, m2⟩ := may3 hm
  obtain ⟨X, hX⟩ : ∃ X : Nat, IntKind.u64.wrap im = (X : Int) := Int.eq_ofNat_of_zero_le (by rw [IntKind.wrap_u64]; omega)
  rw [hX]
  rw [IntKind.wrap_u64] at hX
  obtain ⟨hw, hl⟩ := ww_3 o a3 a7 rd rs1 rs2 X aq rl
  have hs := word_3 o a3 a7 rd rs1 rs2 (bin aq) (bin rl) X ho h3 h7 hrd hr1 hr2 (bin_lt _) (bin_lt _)
  rw [hs] at hw hl
  clear hs
  refine ⟨_, hl, hw, ?_⟩
  clear hw
  generalize hU : 0 + 2 ^ 0 * (o % 2 ^ 7) + 2 ^ 12 * ((fld a3 0 3) % 2 ^ 3) + 2 ^ 7 * (rd % 2 ^ 5) + 2 ^ 15 * (rs1 % 2 ^ 5) + 2 ^ 20 * ((fld X 0 12) % 2 ^ 12) = U at hl ⊢
  have e3 : fld a3 0 3 = a3 := by unfold fld; omega
  rw [Nat.mod_eq_of_lt (show o < 2 ^ 7 from ho), e3, Nat.mod_eq_of_lt (show a3 < 2 ^ 3 from h3), Nat.mod_eq_of_lt (show rd < 2 ^ 5 from hrd), Nat.mod_eq_of_lt (show rs1 < 2 ^ 5 from hr1), Nat.mod_eq_of_lt (fld_lt X 0 12)] at hU
  obtain ⟨r0, r1', r3, r4, p0⟩ := ext_3 _ _ _ _ _ U ho h3 hrd hr1 (fld_lt X 0 12) (by rw [← hU]; omega)
  have r1 : plc 0 0 3 (fld U 12 3) = a3 := by rw [plc_add _ _ _ _ (by decide), r1']; omega
  clear hU
  have hG : IG 3 U = (((plc (plc (plc (plc 0 0 12 (fld U 20 12)) 0 0 (fld U 0 0)) 0 0 (fld U 0 0)) 0 0 (fld U 0 0)) : Nat) : Int) := rfl
  try simp only [plc_zero] at hG
  rw [p0, gx_3 X (by omega)] at hG
  have hI : II 3 U = im := by
    unfold II
    rw [hG, show sgT 3 = 12 from rfl]
    exact gs_3 im X m1 m2 hX
  exact ⟨(congrArg Nat.cast r0 : ((fld U 0 7 : Nat) : Int) = o), (congrArg Nat.cast r1 : ((plc 0 0 3 (fld U 12 3) : Nat) : Int) = a3), (by show ((plc 0 0 0 (fld U 0 0) : Nat) : Int) = a7; rw [plc_zero, z7]), (congrArg Nat.cast r3 : ((fld U 7 5 : Nat) : Int) = rd), (congrArg Nat.cast r4 : ((fld U 15 5 : Nat) : Int) = rs1), rfl, (by rw [show immT 3 = true from rfl, oi_t]; exact hI), rfl, rfl⟩
set_option maxRecDepth 20000 in
theorem bk_4 (o a3 a7 rd rs1 rs2 : Nat) (im : Int) (aq rl : Bool) (ho : o < 128) (h3 : a3 < 8) (h7 : a7 < 128) (z7 : a7 = 0) (hrd : rd < 32) (hr1 : rs1 < 32) (hr2 : rs2 < 32) (hm : MayB 4 im = true) :
    ∃ U : Nat, U < 4294967296 ∧ WW 4 o a3 a7 0 rs1 rs2 false false (IntKind.u64.wrap im) = (U : Int) ∧ Fld U 0 7 = o ∧ Get (f3T 4) 0 U = a3 ∧ Get (f7T 4) 0 U = a7 ∧
      oi (rdT 4) (Fld U 7 5) = 0 ∧ oi (rs1T 4) (Fld U 15 5) = rs1 ∧ oi (rs2T 4) (Fld U 20 5) = rs2 ∧ oi (immT 4) (II 4 U) = im ∧ ob (ordT 4) (Fld U 26 1 == 1) = false ∧ ob (ordT 4) (Fld U 25 1 == 1) = false := by
  obtain ⟨m0, m1, m2⟩ := may4 hm
  obtain ⟨X, hX⟩ : ∃ X : Nat, IntKind.u64.wrap im = (X : Int) := Int.eq_ofNat_of_zero_le (by rw [IntKind.wrap_u64]; omega)
  rw [hX]
  rw [IntKind.wrap_u64] at hX
  obtain ⟨hw, hl⟩ := ww_4 o a3 a7 rd rs1 rs2 X aq rl
  have hs := word_4 o a3 a7 rd rs1 rs2 (bin aq) (bin rl) X ho h3 h7 hrd hr1 hr2 (bin_lt _) (bin_lt _)
  rw [hs] at hw hl
  clear hs
  refine ⟨_, hl, hw, ?_⟩
  clear hw
  generalize hU : 0 + 2 ^ 0 * (o % 2 ^ 7) + 2 ^ 12 * ((fld a3 0 3) % 2 ^ 3) + 2 ^ 15 * (rs1 % 2 ^ 5) + 2 ^ 20 * (rs2 % 2 ^ 5) + 2 ^ 31 * ((fld X 12 1) % 2 ^ 1) + 2 ^ 25 * ((fld X 5 6) % 2 ^ 6) + 2 ^ 8 * ((fld X 1 4) % 2 ^ 4) + 2 ^ 7 * ((fld X 11 1) % 2 ^ 1) = U at hl ⊢
  have e3 : fld a3 0 3 = a3 := by unfold fld; omega
  rw [Nat.mod_eq_of_lt (show o < 2 ^ 7 from ho), e3, Nat.mod_eq_of_lt (show a3 < 2 ^ 3 from h3), Nat.mod_eq_of_lt (show rs1 < 2 ^ 5 from hr1), Nat.mod_eq_of_lt (show rs2 < 2 ^ 5 from hr2), Nat.mod_eq_of_lt (fld_lt X 12 1), Nat.mod_eq_of_lt (fld_lt X 5 6), Nat.mod_eq_of_lt (fld_lt X 1 4), Nat.mod_eq_of_lt (fld_lt X 11 1)] at hU
  obtain ⟨r0, r1', r4, r5, p0, p1, p2, p3⟩ := ext_4 _ _ _ _ _ _ _ _ U ho h3 hr1 hr2 (fld_lt X 12 1) (fld_lt X 5 6) (fld_lt X 1 4) (fld_lt X 11 1) (by rw [← hU]; omega)
  have r1 : plc 0 0 3 (fld U 12 3) = a3 := by rw [plc_add _ _ _ _ (by decide), r1']; omega
  clear hU
  have hG : IG 4 U = (((plc (plc (plc (plc 0 12 1 (fld U 31 1)) 5 6 (fld U 25 6)) 1 4 (fld U 8 4)) 11 1 (fld U 7 1)) : Nat) : Int) := rfl
  try simp only [plc_zero] at hG
  rw [p0, p1, p2, p3, gx_4 X (by omega)] at hG
  have hI : II 4 U = im := by
    unfold II
    rw [hG, show sgT 4 = 13 from rfl]
    exact gs_4 im X m1 m2 hX
  exact ⟨(congrArg Nat.cast r0 : ((fld U 0 7 : Nat) : Int) = o), (congrArg Nat.cast r1 : ((plc 0 0 3 (fld U 12 3) : Nat) : Int) = a3), (by show ((plc 0 0 0 (fld U 0 0) : Nat) : Int) = a7; rw [plc_zero, z7]), rfl, (congrArg Nat.cast r4 : ((fld U 15 5 : Nat) : Int) = rs1), (congrArg Nat.cast r5 : ((fld U 20 5 : Nat) : Int) = rs2), (by rw [show immT 4 = true from rfl, oi_t]; exact hI), rfl, rfl⟩
set_option maxRecDepth 20000 in
theorem bk_5 (o a3 a7 rd rs1 rs2 : Nat) (im : Int) (aq rl : Bool) (ho : o < 128) (h3 : a3 < 8) (h7 : a7 < 128) (z7 : a7 = 0) (hrd : rd < 32) (hr1 : rs1 < 32) (hr2 : rs2 < 32) (hm : MayB 5 im = true) :
    ∃ U : Nat, U < 4294967296 ∧ WW 5 o a3 a7 0 rs1 rs2 false false (IntKind.u64.wrap im) = (U : Int) ∧ Fld U 0 7 = o ∧ Get (f3T 5) 0 U = a3 ∧ Get (f7T 5) 0 U = a7 ∧
      oi (rdT 5) (Fld U 7 5) = 0 ∧ oi (rs1T 5) (Fld U 15 5) = rs1 ∧ oi (rs2T 5) (Fld U 20 5) = rs2 ∧ oi (immT 5) (II 5 U) = im ∧ ob (ordT 5) (Fld U 26 1 == 1) = false ∧ ob (ordT 5) (Fld U 25 1 == 1) = false := by
  obtain ⟨m0, m1, m2⟩ := may5 hm
  obtain ⟨X, hX⟩ : ∃ X : Nat, IntKind.u64.wrap im = (X : Int) := Int.eq_ofNat_of_zero_le (by rw [IntKind.wrap_u64]; omega)
  rw [hX]
  rw [IntKind.wrap_u64] at hX
  obtain ⟨hw, hl⟩ := ww_5 o a3 a7 rd rs1 rs2 X aq rl
  have hs := word_5 o a3 a7 rd rs1 rs2 (bin aq) (bin rl) X ho h3 h7 hrd hr1 hr2 (bin_lt _) (bin_lt _)
  rw [hs] at hw hl
  clear hs
  refine ⟨_, hl, hw, ?_⟩
  clear hw
  generalize hU : 0 + 2 ^ 0 * (o % 2 ^ 7) + 2 ^ 12 * ((fld a3 0 3) % 2 ^ 3) + 2 ^ 15 * (rs1 % 2 ^ 5) + 2 ^ 20 * (rs2 % 2 ^ 5) + 2 ^ 25 * ((fld X 5 7) % 2 ^ 7) + 2 ^ 7 * ((fld X 0 5) % 2 ^ 5) = U at hl ⊢
  have e3 : fld a3 0 3 = a3 := by unfold fld; omega
  rw [Nat.mod_eq_of_lt (show o < 2 ^ 7 from ho), e3, Nat.mod_eq_of_lt (show a3 < 2 ^ 3 from h3), Nat.mod_eq_of_lt (show rs1 < 2 ^ 5 from hr1), Nat.mod_eq_of_lt (show rs2 < 2 ^ 5 from hr2), Nat.mod_eq_of_lt (fld_lt X 5 7), Nat.mod_eq_of_lt (fld_lt X 0 5)] at hU
  obtain ⟨r0, r1', r4, r5, p0, p1⟩ := ext_5 _ _ _ _ _ _ U ho h3 hr1 hr2 (fld_lt X 5 7) (fld_lt X 0 5) (by rw [← hU]; omega)
  have r1 : plc 0 0 3 (fld U 12 3) = a3 := by rw [plc_add _ _ _ _ (by decide), r1']; omega
  clear hU
  have hG : IG 5 U = (((plc (plc (plc (plc 0 5 7 (fld U 25 7)) 0 5 (fld U 7 5)) 0 0 (fld U 0 0)) 0 0 (fld U 0 0)) : Nat) : Int) := rfl
  try simp only [plc_zero] at hG
  rw [p0, p1, gx_5 X (by omega)] at hG
  have hI : II 5 U = im := by
    unfold II
    rw [hG, show sgT 5 = 12 from rfl]
    exact gs_5 im X m1 m2 hX
  exact ⟨(congrArg Nat.cast r0 : ((fld U 0 7 : Nat) : Int) = o), (congrArg Nat.cast r1 : ((plc 0 0 3 (fld U 12 3) : Nat) : Int) = a3), (by show ((plc 0 0 0 (fld U 0 0) : Nat) : Int) = a7; rw [plc_zero, z7]), rfl, (congrArg Nat.cast r4 : ((fld U 15 5 : Nat) : Int) = rs1), (congrArg Nat.cast r5 : ((fld U 20 5 : Nat) : Int) = rs2), (by rw [show immT 5 = true from rfl, oi_t]; exact hI), rfl, rfl⟩
set_option maxRecDepth 20000 in
theorem bk_6 (o a3 a7 rd rs1 rs2 : Nat) (im : Int) (aq rl : Bool) (ho : o < 128) (h3 : a3 < 8) (h7 : a7 < 128) (z7 : a7 % 2 = 0) (hrd : rd < 32) (hr1 : rs1 < 32) (hr2 : rs2 < 32) (hm : MayB 6 im = true) :
    ∃ U : Nat, U < 4294967296 ∧ WW 6 o a3 a7 rd rs1 0 false false (IntKind.u64.wrap im) = (U : Int) ∧ Fld U 0 7 = o ∧ Get (f3T 6) 0 U = a3 ∧ Get (f7T 6) 0 U = a7 ∧
      oi (rdT 6) (Fld U 7 5) = rd ∧ oi (rs1T 6) (Fld U 15 5) = rs1 ∧ oi (rs2T 6) (Fld U 20 5) = 0 ∧ oi (immT 6) (II 6 U) = im ∧ ob (ordT 6) (Fld U 26 1 == 1) = false ∧ ob (ordT 6) (Fld U 25 1 == 1) = false := by
  obtain ⟨m0, m1, m2⟩ := may6 hm
  obtain ⟨X, hX⟩ : ∃ X : Nat, IntKind.u64.wrap im = (X : Int) := Int.eq_ofNat_of_zero_le (by rw [IntKind.wrap_u64]; omega)
  rw [hX]
  rw [IntKind.wrap_u64] at hX
  obtain ⟨hw, hl⟩ := ww_6 o a3 a7 rd rs1 rs2 X aq rl
  have hs := word_6 o a3 a7 rd rs1 rs2 (bin aq) (bin rl) X ho h3 h7 hrd hr1 hr2 (bin_lt _) (bin_lt _)
  rw [hs] at hw hl
  clear hs
  refine ⟨_, hl, hw, ?_⟩
  clear hw
  generalize hU : 0 + 2 ^ 0 * (o % 2 ^ 7) + 2 ^ 12 * ((fld a3 0 3) % 2 ^ 3) + 2 ^ 26 * ((fld a7 1 6) % 2 ^ 6) + 2 ^ 7 * (rd % 2 ^ 5) + 2 ^ 15 * (rs1 % 2 ^ 5) + 2 ^ 20 * ((fld X 0 6) % 2 ^ 6) = U at hl ⊢
  have e3 : fld a3 0 3 = a3 := by unfold fld; omega
  rw [Nat.mod_eq_of_lt (show o < 2 ^ 7 from ho), e3, Nat.mod_eq_of_lt (show a3 < 2 ^ 3 from h3), Nat.mod_eq_of_lt (fld_lt a7 1 6), Nat.mod_eq_of_lt (show rd < 2 ^ 5 from hrd), Nat.mod_eq_of_lt (show rs1 < 2 ^ 5 from hr1), Nat.mod_eq_of_lt (fld_lt X 0 6)] at hU
  obtain ⟨r0, r1', r2', r3, r4, p0⟩ := ext_6 _ _ _ _ _ _ U ho h3 (fld_lt a7 1 6) hrd hr1 (fld_lt X 0 6) (by rw [← hU]; omega)
  have r1 : plc 0 0 3 (fld U 12 3) = a3 := by rw [plc_add _ _ _ _ (by decide), r1']; omega
  have r2 : plc 0 1 6 (fld U 26 6) = a7 := by rw [r2']; exact f7b_6 a7 h7 z7
  clear hU
  have hG : IG 6 U = (((plc (plc (plc (plc 0 0 6 (fld U 20 6)) 0 0 (fld U 0 0)) 0 0 (fld U 0 0)) 0 0 (fld U 0 0)) : Nat) : Int) := rfl
  try simp only [plc_zero] at hG
  rw [p0, gx_6 X (by omega)] at hG
  have hI : II 6 U = im := by
    unfold II
    rw [hG, show sgT 6 = 0 from rfl]
    exact gs_6 im X m1 m2 hX
  exact ⟨(congrArg Nat.cast r0 : ((fld U 0 7 : Nat) : Int) = o), (congrArg Nat.cast r1 : ((plc 0 0 3 (fld U 12 3) : Nat) : Int) = a3), (congrArg Nat.cast r2 : ((plc 0 1 6 (fld U 26 6) : Nat) : Int) = a7), (congrArg Nat.cast r3 : ((fld U 7 5 : Nat) : Int) = rd), (congrArg Nat.cast r4 : ((fld U 15 5 : Nat) : Int) = rs1), rfl, (by rw [show immT 6 = true from rfl, oi_t]; exact hI), rfl, rfl⟩
set_option maxRecDepth 20000 in
theorem bk_7 (o a3 a7 rd rs1 rs2 : Nat) (im : Int) (aq rl : Bool) (ho : o < 128) (h3 : a3 < 8) (h7 : a7 < 128) (hrd : rd < 32) (hr1 : rs1 < 32) (hr2 : rs2 < 32) (hm : MayB 7 im = true) :
    ∃ U : Nat, U < 4294967296 ∧ WW 7 o a3 a7 rd rs1 0 false false (IntKind.u64.wrap im) = (U : Int) ∧ Fld U 0 7 = o ∧ Get (f3T 7) 0 U = a3 ∧ Get (f7T 7) 0 U = a7 ∧
      oi (rdT 7) (Fld U 7 5) = rd ∧ oi (rs1T 7) (Fld U 15 5) = rs1 ∧ oi (rs2T 7) (Fld U 20 5) = 0 ∧ oi (immT 7) (II 7 U) = im ∧ ob (ordT 7) (Fld U 26 1 == 1) = false ∧ ob (ordT 7) (Fld U 25 1 == 1) = false := by
  obtain ⟨m0, m1, m2⟩ := may7 hm
  obtain ⟨X, hX⟩ : ∃ X : Nat, IntKind.u64.wrap im = (X : Int) := Int.eq_ofNat_of_zero_le (by rw [IntKind.wrap_u64]; omega)
  rw [hX]
  rw [IntKind.wrap_u64] at hX
  obtain ⟨hw, hl⟩ := ww_7 o a3 a7 rd rs1 rs2 X aq rl
  have hs := word_7 o a3 a7 rd rs1 rs2 (bin aq) (bin rl) X ho h3 h7 hrd hr1 hr2 (bin_lt _) (bin_lt _)
  rw [hs] at hw hl
  clear hs
  refine ⟨_, hl, hw, ?_⟩
  clear hw
  generalize hU : 0 + 2 ^ 0 * (o % 2 ^ 7) + 2 ^ 12 * ((fld a3 0 3) % 2 ^ 3) + 2 ^ 25 * ((fld a7 0 7) % 2 ^ 7) + 2 ^ 7 * (rd % 2 ^ 5) + 2 ^ 15 * (rs1 % 2 ^ 5) + 2 ^ 20 * ((fld X 0 5) % 2 ^ 5) = U at hl ⊢
  have e3 : fld a3 0 3 = a3 := by unfold fld; omega
  rw [Nat.mod_eq_of_lt (show o < 2 ^ 7 from ho), e3, Nat.mod_eq_of_lt (show a3 < 2 ^ 3 from h3), Nat.mod_eq_of_lt (fld_lt a7 0 7), Nat.mod_eq_of_lt (show rd < 2 ^ 5 from hrd), Nat.mod_eq_of_lt (show rs1 < 2 ^ 5 from hr1), Nat.mod_eq_of_lt (fld_lt X 0 5)] at hU
  obtain ⟨r0, r1', r2', r3, r4, p0⟩ := ext_7 _ _ _ _ _ _ U ho h3 (fld_lt a7 0 7) hrd hr1 (fld_lt X 0 5) (by rw [← hU]; omega)
  have r1 : plc 0 0 3 (fld U 12 3) = a3 := by rw [plc_add _ _ _ _ (by decide), r1']; omega
  have r2 : plc 0 0 7 (fld U 25 7) = a7 := by rw [r2']; exact f7b_7 a7 h7
  clear hU
  have hG : IG 7 U = (((plc (plc (plc (plc 0 0 5 (fld U 20 5)) 0 0 (fld U 0 0)) 0 0 (fld U 0 0)) 0 0 (fld U 0 0)) : Nat) : Int) := rfl
  try simp only [plc_zero] at hG
  rw [p0, gx_7 X (by omega)] at hG
  have hI : II 7 U = im := by
    unfold II
    rw [hG, show sgT 7 = 0 from rfl]
    exact gs_7 im X m1 m2 hX
  exact ⟨(congrArg Nat.cast r0 : ((fld U 0 7 : Nat) : Int) = o), (congrArg Nat.cast r1 : ((plc 0 0 3 (fld U 12 3) : Nat) : Int) = a3), (congrArg Nat.cast r2 : ((plc 0 0 7 (fld U 25 7) : Nat) : Int) = a7), (congrArg Nat.cast r3 : ((fld U 7 5 : Nat) : Int) = rd), (congrArg Nat.cast r4 : ((fld U 15 5 : Nat) : Int) = rs1), rfl, (by rw [show immT 7 = true from rfl, oi_t]; exact hI), rfl, rfl⟩
set_option maxRecDepth 20000 in
theorem bk_8 (o a3 a7 rd rs1 rs2 : Nat) (im : Int) (aq rl : Bool) (ho : o < 128) (h3 : a3 < 8) (h7 : a7 < 128) (hrd : rd < 32) (hr1 : rs1 < 32) (hr2 : rs2 < 32) (hm : MayB 8 im = true) :
    ∃ U : Nat, U < 4294967296 ∧ WW 8 o a3 a7 rd rs1 rs2 false false (IntKind.u64.wrap im) = (U : Int) ∧ Fld U 0 7 = o ∧ Get (f3T 8) 0 U = a3 ∧ Get (f7T 8) 0 U = a7 ∧
      oi (rdT 8) (Fld U 7 5) = rd ∧ oi (rs1T 8) (Fld U 15 5) = rs1 ∧ oi (rs2T 8) (Fld U 20 5) = rs2 ∧ oi (immT 8) (II 8 U) = im ∧ ob (ordT 8) (Fld U 26 1 == 1) = false ∧ ob (ordT 8) (Fld U 25 1 == 1) = false := by
  obtain rfl := mayz (show (im == 0) = true from hm)
  obtain ⟨X, hX⟩ : ∃ X : Nat, IntKind.u64.wrap 0 = (X : Int) := ⟨0, rfl⟩
  rw [hX]
  rw [IntKind.wrap_u64] at hX
  obtain ⟨hw, hl⟩ := ww_8 o a3 a7 rd rs1 rs2 X aq rl
  have hs := word_8 o a3 a7 rd rs1 rs2 (bin aq) (bin rl) X ho h3 h7 hrd hr1 hr2 (bin_lt _) (bin_lt _)
  rw [hs] at hw hl
  clear hs
  refine ⟨_, hl, hw, ?_⟩
  clear hw
  generalize hU : 0 + 2 ^ 0 * (o % 2 ^ 7) + 2 ^ 12 * ((fld a3 0 3) % 2 ^ 3) + 2 ^ 25 * ((fld a7 0 7) % 2 ^ 7) + 2 ^ 7 * (rd % 2 ^ 5) + 2 ^ 15 * (rs1 % 2 ^ 5) + 2 ^ 20 * (rs2 % 2 ^ 5) = U at hl ⊢
  have e3 : fld a3 0 3 = a3 := by unfold fld; omega
  rw [Nat.mod_eq_of_lt (show o < 2 ^ 7 from ho), e3, Nat.mod_eq_of_lt (show a3 < 2 ^ 3 from h3), Nat.mod_eq_of_lt (fld_lt a7 0 7), Nat.mod_eq_of_lt (show rd < 2 ^ 5 from hrd), Nat.mod_eq_of_lt (show rs1 < 2 ^ 5 from hr1), Nat.mod_eq_of_lt (show rs2 < 2 ^ 5 from hr2)] at hU
  obtain ⟨r0, r1', r2', r3, r4, r5⟩ := ext_8 _ _ _ _ _ _ U ho h3 (fld_lt a7 0 7) hrd hr1 hr2 (by rw [← hU]; omega)
  have r1 : plc 0 0 3 (fld U 12 3) = a3 := by rw [plc_add _ _ _ _ (by decide), r1']; omega
  have r2 : plc 0 0 7 (fld U 25 7) = a7 := by rw [r2']; exact f7b_8 a7 h7
  clear hU
  exact ⟨(congrArg Nat.cast r0 : ((fld U 0 7 : Nat) : Int) = o), (congrArg Nat.cast r1 : ((plc 0 0 3 (fld U 12 3) : Nat) : Int) = a3), (congrArg Nat.cast r2 : ((plc 0 0 7 (fld U 25 7) : Nat) : Int) = a7), (congrArg Nat.cast r3 : ((fld U 7 5 : Nat) : Int) = rd), (congrArg Nat.cast r4 : ((fld U 15 5 : Nat) : Int) = rs1), (congrArg Nat.cast r5 : ((fld U 20 5 : Nat) : Int) = rs2), rfl, rfl, rfl⟩
set_option maxRecDepth 20000 in
theorem bk_9 (o a3 a7 rd rs1 rs2 : Nat) (im : Int) (aq rl : Bool) (ho : o < 128) (h3 : a3 < 8) (h7 : a7 < 128) (z3 : a3 = 0) (z7 : a7 = 0) (hrd : rd < 32) (hr1 : rs1 < 32) (hr2 : rs2 < 32) (hm : MayB 9 im = true) :
    ∃ U : Nat, U < 4294967296 ∧ WW 9 o a3 a7 0 0 0 false false (IntKind.u64.wrap im) = (U : Int) ∧ Fld U 0 7 = o ∧ Get (f3T 9) 0 U = a3 ∧ Get (f7T 9) 0 U = a7 ∧
      oi (rdT 9) (Fld U 7 5) = 0 ∧ oi (rs1T 9) (Fld U 15 5) = 0 ∧ oi (rs2T 9) (Fld U 20 5) = 0 ∧ oi (immT 9) (II 9 U) = im ∧ ob (ordT 9) (Fld U 26 1 == 1) = false ∧ ob (ordT 9) (Fld U 25 1 == 1) = false := by
  obtain ⟨m0, m1, m2⟩ := may9 hm
  obtain ⟨X, hX⟩ : ∃ X : Nat, IntKind.u64.wrap im = (X : Int) := Int.eq_ofNat_of_zero_le (by rw [IntKind.wrap_u64]; omega)
  rw [hX]
  rw [IntKind.wrap_u64] at hX
  obtain ⟨hw, hl⟩ := ww_9 o a3 a7 rd rs1 rs2 X aq rl
  have hs := word_9 o a3 a7 rd rs1 rs2 (bin aq) (bin rl) X ho h3 h7 hrd hr1 hr2 (bin_lt _) (bin_lt _)
  rw [hs] at hw hl
  clear hs
  refine ⟨_, hl, hw, ?_⟩
  clear hw
  generalize hU : 0 + 2 ^ 0 * (o % 2 ^ 7) + 2 ^ 20 * ((fld X 0 8) % 2 ^ 8) = U at hl ⊢
  rw [Nat.mod_eq_of_lt (show o < 2 ^ 7 from ho), Nat.mod_eq_of_lt (fld_lt X 0 8)] at hU
  obtain ⟨r0, p0⟩ := ext_9 _ _ U ho (fld_lt X 0 8) (by rw [← hU]; omega)
  clear hU
  have hG : IG 9 U = (((plc (plc (plc (plc 0 0 8 (fld U 20 8)) 0 0 (fld U 0 0)) 0 0 (fld U 0 0)) 0 0 (fld U 0 0)) : Nat) : Int) := rfl
  try simp only [plc_zero] at hG
  rw [p0, gx_9 X (by omega)] at hG
  have hI : II 9 U = im := by
    unfold II
    rw [hG, show sgT 9 = 0 from rfl]
    exact gs_9 im X m1 m2 hX
  exact ⟨(congrArg Nat.cast r0 : ((fld U 0 7 : Nat) : Int) = o), (by show ((plc 0 0 0 (fld U 0 0) : Nat) : Int) = a3; rw [plc_zero, z3]), (by show ((plc 0 0 0 (fld U 0 0) : Nat) : Int) = a7; rw [plc_zero, z7]), rfl, rfl, rfl, (by rw [show immT 9 = true from rfl, oi_t]; exact hI), rfl, rfl⟩
set_option maxRecDepth 20000 in
theorem bk_10 (o a3 a7 rd rs1 rs2 : Nat) (im : Int) (aq rl : Bool) (ho : o < 128) (h3 : a3 < 8) (h7 : a7 < 128) (z3 : a3 = 0) (hrd : rd < 32) (hr1 : rs1 < 32) (hr2 : rs2 < 32) (hm : MayB 10 im = true) :
    ∃ U : Nat, U < 4294967296 ∧ WW 10 o a3 a7 0 0 0 false false (IntKind.u64.wrap im) = (U : Int) ∧ Fld U 0 7 = o ∧ Get (f3T 10) 0 U = a3 ∧ Get (f7T 10) 0 U = a7 ∧
      oi (rdT 10) (Fld U 7 5) = 0 ∧ oi (rs1T 10) (Fld U 15 5) = 0 ∧ oi (rs2T 10) (Fld U 20 5) = 0 ∧ oi (immT 10) (II 10 U) = im ∧ ob (ordT 10) (Fld U 26 1 == 1) = false ∧ ob (ordT 10) (Fld U 25 1 == 1) = false := by
  obtain rfl := mayz (show (im == 0) = true from hm)
  obtain ⟨X, hX⟩ : ∃ X : Nat, IntKind.u64.wrap 0 = (X : Int) := ⟨0, rfl⟩
  rw [hX]
  rw [IntKind.wrap_u64] at hX
  obtain ⟨hw, hl⟩ := ww_10 o a3 a7 rd rs1 rs2 X aq rl
  have hs := word_10 o a3 a7 rd rs1 rs2 (bin aq) (bin rl) X ho h3 h7 hrd hr1 hr2 (bin_lt _) (bin_lt _)
  rw [hs] at hw hl
  clear hs
  refine ⟨_, hl, hw, ?_⟩
  clear hw
  generalize hU : 0 + 2 ^ 0 * (o % 2 ^ 7) + 2 ^ 20 * ((fld a7 0 12) % 2 ^ 12) = U at hl ⊢
  rw [Nat.mod_eq_of_lt (show o < 2 ^ 7 from ho), Nat.mod_eq_of_lt (fld_lt a7 0 12)] at hU
  obtain ⟨r0, r2'⟩ := ext_10 _ _ U ho (fld_lt a7 0 12) (by rw [← hU]; omega)
  have r2 : plc 0 0 12 (fld U 20 12) = a7 := by rw [r2']; exact f7b_10 a7 h7
  clear hU
  exact ⟨(congrArg Nat.cast r0 : ((fld U 0 7 : Nat) : Int) = o), (by show ((plc 0 0 0 (fld U 0 0) : Nat) : Int) = a3; rw [plc_zero, z3]), (congrArg Nat.cast r2 : ((plc 0 0 12 (fld U 20 12) : Nat) : Int) = a7), rfl, rfl, rfl, rfl, rfl, rfl⟩
set_option maxRecDepth 20000 in
theorem bk_11 (o a3 a7 rd rs1 rs2 : Nat) (im : Int) (aq rl : Bool) (ho : o < 128) (h3 : a3 < 8) (h7 : a7 < 128) (z7 : a7 < 32) (hrd : rd < 32) (hr1 : rs1 < 32) (hr2 : rs2 < 32) (hm : MayB 11 im = true) :
    ∃ U : Nat, U < 4294967296 ∧ WW 11 o a3 a7 rd rs1 0 aq rl (IntKind.u64.wrap im) = (U : Int) ∧ Fld U 0 7 = o ∧ Get (f3T 11) 0 U = a3 ∧ Get (f7T 11) 0 U = a7 ∧
      oi (rdT 11) (Fld U 7 5) = rd ∧ oi (rs1T 11) (Fld U 15 5) = rs1 ∧ oi (rs2T 11) (Fld U 20 5) = 0 ∧ oi (immT 11) (II 11 U) = im ∧ ob (ordT 11) (Fld U 26 1 == 1) = aq ∧ ob (ordT 11) (Fld U 25 1 == 1) = rl := by
  obtain rfl := mayz (show (im == 0) = true from hm)
  obtain ⟨X, hX⟩ : ∃ X : Nat, IntKind.u64.wrap 0 = (X : Int) := ⟨0, rfl⟩
  rw [hX]
  rw [IntKind.wrap_u64] at hX
  obtain ⟨hw, hl⟩ := ww_11 o a3 a7 rd rs1 rs2 X aq rl
  have hs := word_11 o a3 a7 rd rs1 rs2 (bin aq) (bin rl) X ho h3 h7 hrd hr1 hr2 (bin_lt _) (bin_lt _)
  rw [hs] at hw hl
  clear hs
  refine ⟨_, hl, hw, ?_⟩
  clear hw
  generalize hU : 0 + 2 ^ 0 * (o % 2 ^ 7) + 2 ^ 12 * ((fld a3 0 3) % 2 ^ 3) + 2 ^ 27 * ((fld a7 0 5) % 2 ^ 5) + 2 ^ 7 * (rd % 2 ^ 5) + 2 ^ 15 * (rs1 % 2 ^ 5) + 2 ^ 25 * ((bin rl) % 2 ^ 1) + 2 ^ 26 * ((bin aq) % 2 ^ 1) = U at hl ⊢
  have e3 : fld a3 0 3 = a3 := by unfold fld; omega
  rw [Nat.mod_eq_of_lt (show o < 2 ^ 7 from ho), e3, Nat.mod_eq_of_lt (show a3 < 2 ^ 3 from h3), Nat.mod_eq_of_lt (fld_lt a7 0 5), Nat.mod_eq_of_lt (show rd < 2 ^ 5 from hrd), Nat.mod_eq_of_lt (show rs1 < 2 ^ 5 from hr1), Nat.mod_eq_of_lt (show bin rl < 2 ^ 1 from bin_lt rl), Nat.mod_eq_of_lt (show bin aq < 2 ^ 1 from bin_lt aq)] at hU
  obtain ⟨r0, r1', r2', r3, r4, r7, r6⟩ := ext_11 _ _ _ _ _ _ _ U ho h3 (fld_lt a7 0 5) hrd hr1 (bin_lt rl) (bin_lt aq) (by rw [← hU]; omega)
  have r1 : plc 0 0 3 (fld U 12 3) = a3 := by rw [plc_add _ _ _ _ (by decide), r1']; omega
  have r2 : plc 0 0 5 (fld U 27 5) = a7 := by rw [r2']; exact f7b_11 a7 z7
  clear hU
  exact ⟨(congrArg Nat.cast r0 : ((fld U 0 7 : Nat) : Int) = o), (congrArg Nat.cast r1 : ((plc 0 0 3 (fld U 12 3) : Nat) : Int) = a3), (congrArg Nat.cast r2 : ((plc 0 0 5 (fld U 27 5) : Nat) : Int) = a7), (congrArg Nat.cast r3 : ((fld U 7 5 : Nat) : Int) = rd), (congrArg Nat.cast r4 : ((fld U 15 5 : Nat) : Int) = rs1), rfl, rfl, (by show (((fld U 26 1 : Nat) : Int) == 1) = aq; rw [r6, bin_one]), (by show (((fld U 25 1 : Nat) : Int) == 1) = rl; rw [r7, bin_one])⟩
set_option maxRecDepth 20000 in
theorem bk_12 (o a3 a7 rd rs1 rs2 : Nat) (im : Int) (aq rl : Bool) (ho : o < 128) (h3 : a3 < 8) (h7 : a7 < 128) (z7 : a7 < 32) (hrd : rd < 32) (hr1 : rs1 < 32) (hr2 : rs2 < 32) (hm : MayB 12 im = true) :
    ∃ U : Nat, U < 4294967296 ∧ WW 12 o a3 a7 rd rs1 rs2 aq rl (IntKind.u64.wrap im) = (U : Int) ∧ Fld U 0 7 = o ∧ Get (f3T 12) 0 U = a3 ∧ Get (f7T 12) 0 U = a7 ∧
      oi (rdT 12) (Fld U 7 5) = rd ∧ oi (rs1T 12) (Fld U 15 5) = rs1 ∧ oi (rs2T 12) (Fld U 20 5) = rs2 ∧ oi (immT 12) (II 12 U) = im ∧ ob (ordT 12) (Fld U 26 1 == 1) = aq ∧ ob (ordT 12) (Fld U 25 1 == 1) = rl := by
  obtain rfl := mayz (show (im == 0) = true from hm)
  obtain ⟨X, hX⟩ : ∃ X : Nat, IntKind.u64.wrap 0 = (X : Int) := ⟨0, rfl⟩
  rw [hX]
  rw [IntKind.wrap_u64] at hX
  obtain ⟨hw, hl⟩ := ww_12 o a3 a7 rd rs1 rs2 X aq rl
  have hs := word_12 o a3 a7 rd rs1 rs2 (bin aq) (bin rl) X ho h3 h7 hrd hr1 hr2 (bin_lt _) (bin_lt _)
  rw [hs] at hw hl
  clear hs
  refine ⟨_, hl, hw, ?_⟩
  clear hw
  generalize hU : 0 + 2 ^ 0 * (o % 2 ^ 7) + 2 ^ 12 * ((fld a3 0 3) % 2 ^ 3) + 2 ^ 27 * ((fld a7 0 5) % 2 ^ 5) + 2 ^ 7 * (rd % 2 ^ 5) + 2 ^ 15 * (rs1 % 2 ^ 5) + 2 ^ 20 * (rs2 % 2 ^ 5) + 2 ^ 25 * ((bin rl) % 2 ^ 1) + 2 ^ 26 * ((bin aq) % 2 ^ 1) = U at hl ⊢
  have e3 : fld a3 0 3 = a3 := by unfold fld; omega
  rw [Nat.mod_eq_of_lt (show o < 2 ^ 7 from ho), e3, Nat.mod_eq_of_lt (show a3 < 2 ^ 3 from h3), Nat.mod_eq_of_lt (fld_lt a7 0 5), Nat.mod_eq_of_lt (show rd < 2 ^ 5 from hrd), Nat.mod_eq_of_lt (show rs1 < 2 ^ 5 from hr1), Nat.mod_eq_of_lt (show rs2 < 2 ^ 5 from hr2), Nat.mod_eq_of_lt (show bin rl < 2 ^ 1 from bin_lt rl), Nat.mod_eq_of_lt (show bin aq < 2 ^ 1 from bin_lt aq)] at hU
  obtain ⟨r0, r1', r2', r3, r4, r5, r7, r6⟩ := ext_12 _ _ _ _ _ _ _ _ U ho h3 (fld_lt a7 0 5) hrd hr1 hr2 (bin_lt rl) (bin_lt aq) (by rw [← hU]; omega)
  have r1 : plc 0 0 3 (fld U 12 3) = a3 := by rw [plc_add _ _ _ _ (by decide), r1']; omega
  have r2 : plc 0 0 5 (fld U 27 5) = a7 := by rw [r2']; exact f7b_12 a7 z7
  clear hU
  exact ⟨(congrArg Nat.cast r0 : ((fld U 0 7 : Nat) : Int) = o), (congrArg Nat.cast r1 : ((plc 0 0 3 (fld U 12 3) : Nat) : Int) = a3), (congrArg Nat.cast r2 : ((plc 0 0 5 (fld U 27 5) : Nat) : Int) = a7), (congrArg Nat.cast r3 : ((fld U 7 5 : Nat) : Int) = rd), (congrArg Nat.cast r4 : ((fld U 15 5 : Nat) : Int) = rs1), (congrArg Nat.cast r5 : ((fld U 20 5 : Nat) : Int) = rs2), rfl, (by show (((fld U 26 1 : Nat) : Int) == 1) = aq; rw [r6, bin_one]), (by show (((fld U 25 1 : Nat) : Int) == 1) = rl; rw [r7, bin_one])⟩
end Go.Proofs.YtmggichckhoomaaGreatDoor
