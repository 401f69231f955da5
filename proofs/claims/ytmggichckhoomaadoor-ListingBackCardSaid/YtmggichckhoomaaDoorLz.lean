/-
  Proved here: what the words of an instruction's text give, and what the search finds; no program. Conditions: none.
-/
import Derived.Test.YtmggichckhoomaaDoorLv
import Derived.Test.YtmggichckhoomaaDoorLp
namespace Go.Proofs.YtmggichckhoomaaDoor
set_option linter.unusedVariables false
set_option linter.unusedSimpArgs false
theorem words_list (N : Bs) (ps : List Bs) (hN : 32 ∉ N) (hp : ∀ p ∈ ps, 32 ∉ p) : wordsL (N ++ ps.flatMap (fun p => 32 :: p)) = N :: ps := by
  induction ps generalizing N with
  | nil => rw [List.flatMap_nil, List.append_nil, words_no N hN]
  | cons p ps ih =>
    rw [List.flatMap_cons, List.cons_append, words_at _ _ hN, ih p (hp p (List.mem_cons_self ..)) (fun q hq => hp q (List.mem_cons_of_mem _ hq))]
def opl (b : Bool) (p : Bs) : List Bs := if b = true then [p] else []
def psL (f rd rs1 rs2 im : Int) : List Bs := opl (rdT f) (120 :: Lib.itoa rd) ++ (opl (rs1T f) (120 :: Lib.itoa rs1) ++ (opl (rs2T f) (120 :: Lib.itoa rs2) ++ opl (immT f) (Lib.itoa im)))
theorem tail_ps (f rd rs1 rs2 im : Int) : tailL f rd rs1 rs2 im = (psL f rd rs1 rs2 im).flatMap (fun p => 32 :: p) := by
  unfold tailL psL opt opl pcx pcn
  cases rdT f <;> cases rs1T f <;> cases rs2T f <;> cases immT f <;> simp
theorem ps_no (f rd rs1 rs2 im : Int) : ∀ p ∈ psL f rd rs1 rs2 im, 32 ∉ p := by
  have hx : ∀ n : Int, (32 : UInt8) ∉ (120 :: Lib.itoa n) := fun n h => by
    rcases List.mem_cons.1 h with h | h
    · cases h
    · exact blank_itoa n h
  unfold psL opl
  intro p hp
  simp only [List.mem_append] at hp
  rcases hp with hp | hp | hp | hp <;> split at hp <;> first | (simp at hp; done) | (obtain rfl := List.mem_singleton.1 hp; first | exact hx _ | exact blank_itoa _)
theorem words_text {op rd rs1 rs2 im : Int} {aq rl : Bool} (h : GoodB op rd rs1 rs2 im aq rl = true) : wordsL (textL op rd rs1 rs2 im aq rl) = (nm op ++ suf aq rl) :: psL (refRow op).1 rd rs1 rs2 im := by
  obtain ⟨ho, -⟩ := good_is h
  unfold textL
  rw [tail_ps, words_list _ _ (name_no op ho aq rl).1 (ps_no _ _ _ _ _)]
theorem st_text (f : Int) (N : Bs) (rd rs1 rs2 im : Int) (z1 : rdT f = false → rd = 0) (z2 : rs1T f = false → rs1 = 0) (z3 : rs2T f = false → rs2 = 0) (z4 : immT f = false → im = 0)
    (h1 : valN (Lib.itoa rd) = rd) (h2 : valN (Lib.itoa rs1) = rs1) (h3 : valN (Lib.itoa rs2) = rs2) (h4 : valN (Lib.itoa im) = im) : (stL f (N :: psL f rd rs1 rs2 im) 4).2 = (rd, rs1, rs2, im) := by
  unfold psL opl
  cases b1 : rdT f <;> cases b2 : rs1T f <;> cases b3 : rs2T f <;> cases b4 : immT f <;> simp [stL, isT, updT, wordAt, b1, b2, b3, b4, h1, h2, h3, h4] <;> simp_all
theorem try_text {op rd rs1 rs2 im : Int} {aq rl : Bool} (h : GoodB op rd rs1 rs2 im aq rl = true) : (stL (refRow op).1 (wordsL (textL op rd rs1 rs2 im aq rl)) 4).2 = (rd, rs1, rs2, im) := by
  obtain ⟨ho, z1, z2, z3, z4, r1, r2, r3, r4⟩ := good_is h
  rw [words_text h]
  exact st_text _ _ _ _ _ _ z1 z2 z3 z4 (valN_itoa _ (Nat.le_trans (itoa_len31 rd r1.1 r1.2) (by decide))) (valN_itoa _ (Nat.le_trans (itoa_len31 rs1 r2.1 r2.2) (by decide))) (valN_itoa _ (Nat.le_trans (itoa_len31 rs2 r3.1 r3.2) (by decide))) (valN_itoa _ (itoa_len32 im r4.1 r4.2))
def InR (x : Int) : Prop := -9223372036854775808 ≤ x ∧ x < 9223372036854775808
theorem st_in (f : Int) (ws : List Bs) (a : Nat) : InR (stL f ws a).2.1 ∧ InR (stL f ws a).2.2.1 ∧ InR (stL f ws a).2.2.2.1 ∧ InR (stL f ws a).2.2.2.2 := by
  have h0 : InR 0 := ⟨by decide, by decide⟩
  induction a with
  | zero => exact ⟨h0, h0, h0, h0⟩
  | succ a ih =>
    obtain ⟨i1, i2, i3, i4⟩ := ih
    simp only [stL]
    split
    · unfold updT
      repeat' split
      all_goals first | exact ⟨valN_in _, i2, i3, i4⟩ | exact ⟨i1, valN_in _, i3, i4⟩ | exact ⟨i1, i2, valN_in _, i4⟩ | exact ⟨i1, i2, i3, valN_in _⟩
    · exact ⟨i1, i2, i3, i4⟩
/-- The instruction that the search tries at an operation. -/
def tryI (l : Bs) (op : Int) (aq rl : Bool) : I7 := (op, (stL (refRow op).1 (wordsL l) 4).2.1, (stL (refRow op).1 (wordsL l) 4).2.2.1, (stL (refRow op).1 (wordsL l) 4).2.2.2.1, (stL (refRow op).1 (wordsL l) 4).2.2.2.2, aq, rl)
def textV7 (i : I7) : Bs := TextV i.1 i.2.1 i.2.2.1 i.2.2.2.1 i.2.2.2.2.1 i.2.2.2.2.2.1 i.2.2.2.2.2.2
/-- Does it find there? -/
def Hit (l : Bs) (op : Int) (aq rl : Bool) : Prop := nm op ++ suf aq rl = (wordsL l).getD 0 [] ∧ textV7 (tryI l op aq rl) = l ∧ l ≠ []
theorem hit_pi {l : Bs} {op : Int} {aq rl : Bool} (h : Hit l op aq rl) : PI l = some (tryI l op aq rl) := by
  obtain ⟨-, h2, h3⟩ := h
  have hg : GoodI (tryI l op aq rl) = true := by
    cases hg : GoodI (tryI l op aq rl) with
    | true => rfl
    | false =>
      exfalso
      apply h3
      rw [← h2]
      unfold textV7 TextV
      exact if_neg (by intro c; have : GoodI (tryI l op aq rl) = true := c; rw [hg] at this; cases this)
  have ht : textV7 (tryI l op aq rl) = textI (tryI l op aq rl) := if_pos hg
  have h4 : textI (tryI l op aq rl) = l := ht.symm.trans h2
  have h5 := pi_some hg
  rw [h4] at h5
  exact h5
theorem pi_hit {l : Bs} {i : I7} (h : PI l = some i) : (1 ≤ i.1 ∧ i.1 ≤ 87) ∧ Hit l i.1 i.2.2.2.2.2.1 i.2.2.2.2.2.2 := by
  obtain ⟨hg, ht⟩ := pi_of h
  have hl := (text_len hg).2
  obtain ⟨op, rd, rs1, rs2, im, aq, rl⟩ := i
  obtain ⟨ho, -⟩ := good_is hg
  have hw := words_text hg
  have hy := try_text hg
  have ht' : textL op rd rs1 rs2 im aq rl = l := ht
  rw [ht'] at hw hy
  refine ⟨ho, ?_, ?_, ?_⟩
  · show nm op ++ suf aq rl = _
    rw [hw]; rfl
  · have e : tryI l op aq rl = (op, rd, rs1, rs2, im, aq, rl) := by unfold tryI; rw [hy]
    show textV7 (tryI l op aq rl) = l
    rw [e]
    exact (if_pos hg).trans ht'
  · intro e
    rw [ht, e] at hl
    exact absurd hl (by decide)
theorem no_hit {l : Bs} (h : ∀ k : Nat, 1 ≤ k → k ≤ 87 → ∀ aq rl, ¬ Hit l (k : Int) aq rl) : PI l = none := by
  cases hp : PI l with
  | none => rfl
  | some i =>
    obtain ⟨ho, hh⟩ := pi_hit hp
    have e : ((i.1.toNat : Nat) : Int) = i.1 := Int.toNat_of_nonneg (by omega)
    exact absurd (by rw [e]; exact hh) (h i.1.toNat (by omega) (by omega) i.2.2.2.2.2.1 i.2.2.2.2.2.2)
end Go.Proofs.YtmggichckhoomaaDoor
