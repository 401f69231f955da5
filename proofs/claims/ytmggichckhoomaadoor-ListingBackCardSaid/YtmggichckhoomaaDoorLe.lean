/-
  Proved here: the text of an instruction, and that it is read again as it was; no program. Conditions: none.
-/
import Derived.Test.YtmggichckhoomaaDoorRa
import Derived.Test.YtmggichckhoomaaDoorSa
import Derived.Test.YtmggichckhoomaaDoorLd
namespace Go.Proofs.YtmggichckhoomaaDoor
set_option linter.unusedVariables false
def nmTab : List Bs := [[], [108, 117, 105], [97, 117, 105, 112, 99], [106, 97, 108], [106, 97, 108, 114], [98, 101, 113], [98, 110, 101], [98, 108, 116], [98, 103, 101], [98, 108, 116, 117], [98, 103, 101, 117], [108, 98], [108, 104], [108, 119], [108, 100], [108, 98, 117], [108, 104, 117], [108, 119, 117], [115, 98], [115, 104], [115, 119], [115, 100], [97, 100, 100, 105], [115, 108, 116, 105], [115, 108, 116, 105, 117], [120, 111, 114, 105], [111, 114, 105], [97, 110, 100, 105], [115, 108, 108, 105], [115, 114, 108, 105], [115, 114, 97, 105], [97, 100, 100], [115, 117, 98], [115, 108, 108], [115, 108, 116], [115, 108, 116, 117], [120, 111, 114], [115, 114, 108], [115, 114, 97], [111, 114], [97, 110, 100], [97, 100, 100, 105, 119], [115, 108, 108, 105, 119], [115, 114, 108, 105, 119], [115, 114, 97, 105, 119], [97, 100, 100, 119], [115, 117, 98, 119], [115, 108, 108, 119], [115, 114, 108, 119], [115, 114, 97, 119], [102, 101, 110, 99, 101], [101, 99, 97, 108, 108], [101, 98, 114, 101, 97, 107], [109, 117, 108], [109, 117, 108, 104], [109, 117, 108, 104, 115, 117], [109, 117, 108, 104, 117], [100, 105, 118], [100, 105, 118, 117], [114, 101, 109], [114, 101, 109, 117], [109, 117, 108, 119], [100, 105, 118, 119], [100, 105, 118, 117, 119], [114, 101, 109, 119], [114, 101, 109, 117, 119], [108, 114, 46, 119], [115, 99, 46, 119], [97, 109, 111, 115, 119, 97, 112, 46, 119], [97, 109, 111, 97, 100, 100, 46, 119], [97, 109, 111, 120, 111, 114, 46, 119], [97, 109, 111, 97, 110, 100, 46, 119], [97, 109, 111, 111, 114, 46, 119], [97, 109, 111, 109, 105, 110, 46, 119], [97, 109, 111, 109, 97, 120, 46, 119], [97, 109, 111, 109, 105, 110, 117, 46, 119], [97, 109, 111, 109, 97, 120, 117, 46, 119], [108, 114, 46, 100], [115, 99, 46, 100], [97, 109, 111, 115, 119, 97, 112, 46, 100], [97, 109, 111, 97, 100, 100, 46, 100], [97, 109, 111, 120, 111, 114, 46, 100], [97, 109, 111, 97, 110, 100, 46, 100], [97, 109, 111, 111, 114, 46, 100], [97, 109, 111, 109, 105, 110, 46, 100], [97, 109, 111, 109, 97, 120, 46, 100], [97, 109, 111, 109, 105, 110, 117, 46, 100], [97, 109, 111, 109, 97, 120, 117, 46, 100]]
def nm (op : Int) : Bs := if 1 ≤ op ∧ op ≤ 87 then nmTab.getD op.toNat [] else []
def suf (aq rl : Bool) : Bs := if aq = true then (if rl = true then [46, 97, 113, 114, 108] else [46, 97, 113]) else (if rl = true then [46, 114, 108] else [])
def opt (b : Bool) (l : Bs) : Bs := if b = true then l else []
def pcx (n : Int) : Bs := 32 :: 120 :: Lib.itoa n
def pcn (n : Int) : Bs := 32 :: Lib.itoa n
def tailL (f rd rs1 rs2 im : Int) : Bs := opt (rdT f) (pcx rd) ++ (opt (rs1T f) (pcx rs1) ++ (opt (rs2T f) (pcx rs2) ++ opt (immT f) (pcn im)))
def textL (op rd rs1 rs2 im : Int) (aq rl : Bool) : Bs := (nm op ++ suf aq rl) ++ tailL (refRow op).1 rd rs1 rs2 im
abbrev I7 := Int × Int × Int × Int × Int × Bool × Bool
def GoodI (i : I7) : Bool := GoodB i.1 i.2.1 i.2.2.1 i.2.2.2.1 i.2.2.2.2.1 i.2.2.2.2.2.1 i.2.2.2.2.2.2
def textI (i : I7) : Bs := textL i.1 i.2.1 i.2.2.1 i.2.2.2.1 i.2.2.2.2.1 i.2.2.2.2.2.1 i.2.2.2.2.2.2
def atoiV (l : Bs) : Int := match Lib.atoiAll l with
  | .ok v => v
  | .«syntax» => 0
  | .range => Lib.atoiSat l
def num1 (b : Bool) (s : Bs) : Int × Bs := if b = true then (atoiV (Lib.trimPrefix (Lib.cut s [32]).1 [120]), (Lib.cut s [32]).2.1) else (0, s)
def nums (b1 b2 b3 b4 : Bool) (s : Bs) : Int × Int × Int × Int :=
  ((num1 b1 s).1, (num1 b2 (num1 b1 s).2).1, (num1 b3 (num1 b2 (num1 b1 s).2).2).1, (num1 b4 (num1 b3 (num1 b2 (num1 b1 s).2).2).2).1)
def nameL (s : Bs) : Bs × Bool × Bool :=
  if Lib.hasSuffix s [46, 97, 113, 114, 108] = true then (Lib.trimSuffix s [46, 97, 113, 114, 108], true, true)
  else if Lib.hasSuffix s [46, 97, 113] = true then (Lib.trimSuffix s [46, 97, 113], true, false)
  else if Lib.hasSuffix s [46, 114, 108] = true then (Lib.trimSuffix s [46, 114, 108], false, true) else (s, false, false)
def lookL (n : Bs) : Nat → Int
  | 0 => 0
  | k + 1 => if nmTab.getD k [] = n then (k : Int) else lookL n k
def namedL (s : Bs) : Int × Bool × Bool := (lookL (nameL s).1 88, (nameL s).2.1, (nameL s).2.2)
def candL (s : Bs) : I7 :=
  let m := namedL (Lib.cut s [32]).1
  let f := (refRow m.1).1
  let n := nums (rdT f) (rs1T f) (rs2T f) (immT f) (Lib.cut s [32]).2.1
  (m.1, n.1, n.2.1, n.2.2.1, n.2.2.2, m.2.1, m.2.2)
def PI (s : Bs) : Option I7 := if GoodI (candL s) = true ∧ textI (candL s) = s then some (candL s) else none
/-! What a good instruction's fields are. -/
theorem row_pos (op : Int) (h : (refRow op).1 ≠ 0) : 1 ≤ op ∧ op ≤ 87 := by
  rcases Int.lt_or_le op 1 with h1 | h1
  · rw [ref_no op (Or.inl h1)] at h; exact absurd rfl h
  · rcases Int.lt_or_le 87 op with h2 | h2
    · rw [ref_no op (Or.inr h2)] at h; exact absurd rfl h
    · exact ⟨h1, h2⟩
theorem fit_room (v n : Int) (n1 : 1 ≤ n) (n2 : n ≤ 32) (h : FitB v n = true) : -2147483648 ≤ v ∧ v < 2147483648 := by
  rw [fit_mid v n n1 (by omega)] at h
  simp only [Bool.and_eq_true, decide_eq_true_eq] at h
  have : (2 ^ (n.toNat - 1) : Nat) ≤ 2 ^ 31 := Nat.pow_le_pow_right (by decide) (by omega)
  have e : (2 ^ 31 : Nat) = 2147483648 := by decide
  omega
theorem may_room (f v : Int) (h : MayB f v = true) : -2147483648 ≤ v ∧ v < 2147483648 := by
  unfold MayB at h
  repeat' split at h
  all_goals try simp only [Bool.and_eq_true, decide_eq_true_eq, beq_iff_eq] at h
  · exact fit_room _ _ (by decide) (by decide) h.2
  · exact fit_room _ _ (by decide) (by decide) h.2
  · exact fit_room _ _ (by decide) (by decide) h.2
  · exact fit_room _ _ (by decide) (by decide) h
  · exact fit_room _ _ (by decide) (by decide) h
  all_goals omega
theorem good_is {op rd rs1 rs2 im : Int} {aq rl : Bool} (h : GoodB op rd rs1 rs2 im aq rl = true) :
    (1 ≤ op ∧ op ≤ 87) ∧ (rdT (refRow op).1 = false → rd = 0) ∧ (rs1T (refRow op).1 = false → rs1 = 0) ∧ (rs2T (refRow op).1 = false → rs2 = 0) ∧ (immT (refRow op).1 = false → im = 0)
    ∧ (0 ≤ rd ∧ rd ≤ 31) ∧ (0 ≤ rs1 ∧ rs1 ≤ 31) ∧ (0 ≤ rs2 ∧ rs2 ≤ 31) ∧ (-2147483648 ≤ im ∧ im < 2147483648) := by
  obtain ⟨r1, r2, r3⟩ := good_ranges h
  obtain ⟨f0, f1, -⟩ := row_ok op
  have h' := h
  unfold GoodB SameB EqI at h
  split at h
  · cases h
  rename_i z
  simp only [Bool.and_eq_true, beq_iff_eq] at h
  refine ⟨row_pos op z, ?_, ?_, ?_, ?_, r1, r2, r3, may_room _ _ h.2.2.2.2⟩
  · intro e; have := h.1.2.1; rw [e] at this; exact this
  · intro e; have := h.1.2.2.1; rw [e] at this; exact this
  · intro e; have := h.1.2.2.2.1; rw [e] at this; exact this
  · intro e; have := h.1.2.2.2.2.1; rw [e] at this; exact this
/-! Names. -/
theorem nm_yes (op : Int) (h : 1 ≤ op ∧ op ≤ 87) : nm op = nmTab.getD op.toNat [] := if_pos h
theorem names_back : ∀ k : Nat, k < 87 → ∀ aq rl : Bool, namedL (nmTab.getD (k + 1) [] ++ suf aq rl) = (((k + 1 : Nat) : Int), aq, rl) := by decide +kernel
theorem names_no : ∀ k : Nat, k < 87 → ∀ aq rl : Bool, (nmTab.getD (k + 1) [] ++ suf aq rl).all (fun c => c != 32 && c != 10) = true ∧ (nmTab.getD (k + 1) [] ++ suf aq rl).length ≤ 14 ∧ 1 ≤ (nmTab.getD (k + 1) [] ++ suf aq rl).length := by decide +kernel
theorem named_back (op : Int) (h : 1 ≤ op ∧ op ≤ 87) (aq rl : Bool) : namedL (nm op ++ suf aq rl) = (op, aq, rl) := by
  have := names_back (op.toNat - 1) (by omega) aq rl
  rw [show op.toNat - 1 + 1 = op.toNat by omega, Int.toNat_of_nonneg (by omega)] at this
  rw [nm_yes op h]; exact this
theorem name_no (op : Int) (h : 1 ≤ op ∧ op ≤ 87) (aq rl : Bool) : 32 ∉ nm op ++ suf aq rl ∧ 10 ∉ nm op ++ suf aq rl ∧ (nm op ++ suf aq rl).length ≤ 14 ∧ 1 ≤ (nm op ++ suf aq rl).length := by
  have := names_no (op.toNat - 1) (by omega) aq rl
  rw [show op.toNat - 1 + 1 = op.toNat by omega] at this
  rw [nm_yes op h]
  refine ⟨?_, ?_, this.2⟩
  · intro hc; have h1 := List.all_eq_true.1 this.1 _ hc; simp at h1
  · intro hc; have h1 := List.all_eq_true.1 this.1 _ hc; simp at h1
/-! Operands. -/
theorem blank_itoa (n : Int) : (32 : UInt8) ∉ Lib.itoa n := itoa_no n 32 (by decide) (by decide)
theorem atoiV_itoa (n : Int) (h0 : -9223372036854775808 ≤ n) (h1 : n ≤ 9223372036854775807) : atoiV (Lib.itoa n) = n := by
  unfold atoiV; rw [atoi_itoa n h0 h1]
theorem trim_x (l : Bs) : Lib.trimPrefix (120 :: l) [120] = l := by simp [Lib.trimPrefix, Lib.hasPrefix, List.isPrefixOf]
theorem trim_n (n : Int) : Lib.trimPrefix (Lib.itoa n) [120] = Lib.itoa n := by
  unfold Lib.trimPrefix Lib.hasPrefix
  rw [if_neg]
  intro h
  have hn := itoa_no n 120 (by decide) (by decide)
  cases hl : Lib.itoa n with
  | nil => rw [hl] at h; simp [List.isPrefixOf] at h
  | cons c r =>
    rw [hl] at h hn
    simp [List.isPrefixOf] at h
    exact hn (by rw [h]; exact List.mem_cons_self ..)
theorem opt_tail (b : Bool) (l T : Bs) (hT : T = [] ∨ ∃ r, T = 32 :: r) : (opt b (32 :: l) ++ T = [] ∨ ∃ r, opt b (32 :: l) ++ T = 32 :: r) := by
  cases b
  · exact hT
  · exact Or.inr ⟨l ++ T, rfl⟩
theorem num_x (b : Bool) (n : Int) (T : Bs) (hT : T = [] ∨ ∃ r, T = 32 :: r) (h0 : 0 ≤ n) (h1 : n ≤ 31) (hb : b = false → n = 0) : num1 b ((opt b (pcx n) ++ T).drop 1) = (n, T.drop 1) := by
  cases b
  · show ((0 : Int), T.drop 1) = _; rw [hb rfl]
  · have hw : (32 : UInt8) ∉ (120 :: Lib.itoa n) := by
      intro h; rcases List.mem_cons.1 h with h | h
      · cases h
      · exact blank_itoa n h
    obtain ⟨e1, e2⟩ := cut_piece (120 :: Lib.itoa n) T 32 hw hT
    show (atoiV (Lib.trimPrefix (Lib.cut ((120 :: Lib.itoa n) ++ T) [32]).1 [120]), (Lib.cut ((120 :: Lib.itoa n) ++ T) [32]).2.1) = _
    rw [e1, e2, trim_x, atoiV_itoa n (by omega) (by omega)]
theorem num_n (b : Bool) (n : Int) (T : Bs) (hT : T = [] ∨ ∃ r, T = 32 :: r) (h0 : -2147483648 ≤ n) (h1 : n < 2147483648) (hb : b = false → n = 0) : num1 b ((opt b (pcn n) ++ T).drop 1) = (n, T.drop 1) := by
  cases b
  · show ((0 : Int), T.drop 1) = _; rw [hb rfl]
  · obtain ⟨e1, e2⟩ := cut_piece (Lib.itoa n) T 32 (blank_itoa n) hT
    show (atoiV (Lib.trimPrefix (Lib.cut (Lib.itoa n ++ T) [32]).1 [120]), (Lib.cut (Lib.itoa n ++ T) [32]).2.1) = _
    rw [e1, e2, trim_n, atoiV_itoa n (by omega) (by omega)]
theorem tail_is (f rd rs1 rs2 im : Int) : tailL f rd rs1 rs2 im = [] ∨ ∃ r, tailL f rd rs1 rs2 im = 32 :: r :=
  opt_tail _ _ _ (opt_tail _ _ _ (opt_tail _ _ _ (by cases immT f; exact Or.inl rfl; exact Or.inr ⟨_, rfl⟩)))
theorem cand_text {op rd rs1 rs2 im : Int} {aq rl : Bool} (h : GoodB op rd rs1 rs2 im aq rl = true) : candL (textL op rd rs1 rs2 im aq rl) = (op, rd, rs1, rs2, im, aq, rl) := by
  obtain ⟨ho, z1, z2, z3, z4, r1, r2, r3, r4⟩ := good_is h
  obtain ⟨e1, e2⟩ := cut_piece (nm op ++ suf aq rl) (tailL (refRow op).1 rd rs1 rs2 im) 32 (name_no op ho aq rl).1 (tail_is _ _ _ _ _)
  unfold candL textL
  rw [e1, e2, named_back op ho aq rl]
  show (op, (nums (rdT (refRow op).1) (rs1T (refRow op).1) (rs2T (refRow op).1) (immT (refRow op).1) ((tailL (refRow op).1 rd rs1 rs2 im).drop 1)).1, _, _, _, aq, rl) = _
  have t4 : (opt (immT (refRow op).1) (pcn im) = [] ∨ ∃ r, opt (immT (refRow op).1) (pcn im) = 32 :: r) := by cases immT (refRow op).1; exact Or.inl rfl; exact Or.inr ⟨_, rfl⟩
  have t3 := opt_tail (rs2T (refRow op).1) (120 :: Lib.itoa rs2) _ t4
  have t2 := opt_tail (rs1T (refRow op).1) (120 :: Lib.itoa rs1) _ t3
  have n1 := num_x (rdT (refRow op).1) rd _ t2 r1.1 r1.2 z1
  have n2 := num_x (rs1T (refRow op).1) rs1 _ t3 r2.1 r2.2 z2
  have n3 := num_x (rs2T (refRow op).1) rs2 _ t4 r3.1 r3.2 z3
  have n4 := num_n (immT (refRow op).1) im [] (Or.inl rfl) r4.1 r4.2 z4
  rw [List.append_nil] at n4
  unfold nums tailL pcx
  unfold pcx at n1 n2 n3
  rw [n1]; simp only []
  rw [n2]; simp only []
  rw [n3]; simp only []
  rw [n4]
theorem text_inj {i j : I7} (hi : GoodI i = true) (hj : GoodI j = true) (h : textI i = textI j) : i = j := by
  have h1 : candL (textI i) = i := cand_text hi
  have h2 : candL (textI j) = j := cand_text hj
  rw [← h1, ← h2, h]
theorem pi_some {i : I7} (hi : GoodI i = true) : PI (textI i) = some i := by
  have h1 : candL (textI i) = i := cand_text hi
  unfold PI; rw [h1, if_pos ⟨hi, rfl⟩]
theorem pi_of {s : Bs} {i : I7} (h : PI s = some i) : GoodI i = true ∧ textI i = s := by
  unfold PI at h; split at h
  · rename_i h1; injection h with h; rw [← h]; exact h1
  · cases h
theorem pi_none {s : Bs} (h : PI s = none) (i : I7) (hi : GoodI i = true) : textI i ≠ s := by
  intro e; rw [← e, pi_some hi] at h; cases h
/-! Lengths, signs. -/
theorem itoa_len31 (n : Int) (h0 : 0 ≤ n) (h1 : n ≤ 31) : (Lib.itoa n).length ≤ 2 := by
  unfold Lib.itoa; rw [if_neg (by omega)]; exact dec_len _ 2 (by decide) (by omega)
theorem itoa_len32 (n : Int) (h0 : -2147483648 ≤ n) (h1 : n < 2147483648) : (Lib.itoa n).length ≤ 11 := by
  unfold Lib.itoa; split
  · have := dec_len n.natAbs 10 (by decide) (by omega)
    simp; omega
  · have := dec_len n.toNat 10 (by decide) (by omega)
    omega
theorem opt_len (b : Bool) (l : Bs) (k : Nat) (h : l.length ≤ k) : (opt b l).length ≤ k := by cases b; exact Nat.zero_le _; exact h
theorem text_len {i : I7} (h : GoodI i = true) : (textI i).length ≤ 40 ∧ 1 ≤ (textI i).length := by
  obtain ⟨op, rd, rs1, rs2, im, aq, rl⟩ := i
  obtain ⟨ho, z1, z2, z3, z4, r1, r2, r3, r4⟩ := good_is h
  obtain ⟨-, -, l1, l2⟩ := name_no op ho aq rl
  have a1 := opt_len (rdT (refRow op).1) (pcx rd) 4 (by have := itoa_len31 rd r1.1 r1.2; simp [pcx]; omega)
  have a2 := opt_len (rs1T (refRow op).1) (pcx rs1) 4 (by have := itoa_len31 rs1 r2.1 r2.2; simp [pcx]; omega)
  have a3 := opt_len (rs2T (refRow op).1) (pcx rs2) 4 (by have := itoa_len31 rs2 r3.1 r3.2; simp [pcx]; omega)
  have a4 := opt_len (immT (refRow op).1) (pcn im) 12 (by have := itoa_len32 im r4.1 r4.2; simp [pcn]; omega)
  show (textL op rd rs1 rs2 im aq rl).length ≤ 40 ∧ 1 ≤ (textL op rd rs1 rs2 im aq rl).length
  unfold textL tailL
  simp only [List.length_append] at *
  omega
theorem opt_no (b : Bool) (l : Bs) (c : UInt8) (h : c ∉ l) : c ∉ opt b l := by cases b; exact List.not_mem_nil; exact h
theorem text_line {i : I7} (h : GoodI i = true) : 10 ∉ textI i := by
  obtain ⟨op, rd, rs1, rs2, im, aq, rl⟩ := i
  obtain ⟨ho, -⟩ := good_is h
  have hx : ∀ n : Int, (10 : UInt8) ∉ pcx n := fun n hc => by
    have := itoa_no n 10 (by decide) (by decide)
    unfold pcx at hc; simp at hc; exact this hc
  have hn : ∀ n : Int, (10 : UInt8) ∉ pcn n := fun n hc => by
    have := itoa_no n 10 (by decide) (by decide)
    unfold pcn at hc; simp at hc; exact this hc
  show 10 ∉ textL op rd rs1 rs2 im aq rl
  unfold textL tailL
  intro hc
  rcases List.mem_append.1 hc with hc | hc
  · exact (name_no op ho aq rl).2.1 hc
  rcases List.mem_append.1 hc with hc | hc
  · exact opt_no _ _ _ (hx _) hc
  rcases List.mem_append.1 hc with hc | hc
  · exact opt_no _ _ _ (hx _) hc
  rcases List.mem_append.1 hc with hc | hc
  · exact opt_no _ _ _ (hx _) hc
  · exact opt_no _ _ _ (hn _) hc
end Go.Proofs.YtmggichckhoomaaDoor
