/-
  Proved here: a region that draws its order and only reads, in a round of a range over a function. Conditions: it defers nothing.
-/
import Derived.Test.YticifolljhplmaaYk
import Derived.Sort.QuietTacIn
namespace Go.Proofs.Yticifolljhplmaa
open Go.RowKit Go.Sort Go.Shelf
set_option linter.unusedVariables false
set_option linter.unusedSimpArgs false
/-- No statement that defers. -/
def calmB (o : Oper) : Bool := match o.op with
  | .defer _ => false
  | _ => true
theorem calm_of {o : Oper} (h : calmB o = true) : ∀ c, o.op ≠ .defer c := by
  intro c e
  unfold calmB at h
  rw [e] at h
  cases h
theorem one_round (l : Nat) {n : Nat} {P : Program} {o : Oper} {a : Act} {w : World} {K : Act → World → Prop} {Q : Exit → Act → World → Prop} (hc : calmB o = true) (h : o.wpIn Fence.wide n P a w K Q) : o.wpIn (Fence.wide.inRound l) n P a w K Q := by
  unfold Oper.wpIn at *
  refine ⟨h.1, ?_⟩
  have h2 := h.2
  rw [Oper.semAt_plain _ _ _ (calm_of hc)] at h2 ⊢
  generalize (execOp a.eval o).run P w = r at *
  cases r with
  | halt x w' => cases x <;> exact h2
  | ok x w' => cases x <;> exact h2
theorem any_round (l : Nat) {n : Nat} {P : Program} {md : Region.Mode} {ops : Array Oper} {Q : Exit → Act → World → Prop} (hc : ops.all calmB = true) : ∀ (fuel : Nat) (listed : Array Bool) (a : Act) (w : World), wpAnyIn Fence.wide n P md ops Q fuel listed a w → wpAnyIn (Fence.wide.inRound l) n P md ops Q fuel listed a w
  | 0, _, _, _, h => h
  | fuel + 1, listed, a, w, h => by
    refine ⟨h.1, fun i hi => ?_⟩
    have h1 := h.2 i hi
    unfold wpOpIn at *
    cases ho : ops[i]? with
    | none => rw [ho] at h1; exact any_round l hc fuel _ _ _ h1
    | some o =>
      rw [ho] at h1
      have hco : calmB o = true := by
        rw [Array.all_eq_true_iff_forall_mem] at hc
        exact hc o (Array.mem_of_getElem? ho)
      simp only at h1 ⊢
      split
      · rename_i hw
        rw [if_pos hw] at h1
        exact one_round l hco (Oper.wpIn_mono (fun a' w' hk => any_round l hc fuel _ a' w' hk) h1)
      · rename_i hw
        rw [if_neg hw] at h1
        exact ⟨h1.1, any_round l hc fuel _ _ _ h1.2⟩
theorem quiet_round (l : Nat) {n : Nat} {P : Program} {id : Nat} {Q : Exit → Act → World → Prop} {a : Act} {w : World} {ls : List Oper} (hm : P.follows .mixedOrders = true) (hB : Region.lexB .any ls.toArray = true) (hc : ls.toArray.all calmB = true)
    (h : wpQuietIn Fence.wide n P ls.toArray (fun w' => ∃ n, w' = w.drewN n) (fun a' => ∀ w', (∃ n, w' = w.drewN n) → Q .normal a' w') ls a) : (Code.region id ls.toArray true).wpIn (Fence.wide.inRound l) n P Q a w := by
  simp only [Region.lexB, Bool.and_eq_true] at hB
  refine wpIn_region_any hm (any_round l hc _ _ _ _ (wpAnyIn_of_quiet (C := fun w' => ∃ n, w' = w.drewN n) (Q := fun a' => ∀ w', (∃ n, w' = w.drewN n) → Q .normal a' w') rfl (fun _ w' hw' h => h w' hw') _ _ _ _ ⟨1, rfl⟩ ?_))
  have := wpAnyQIn_lex (F := Fence.wide) (n := n) (C := fun w' => ∃ n, w' = w.drewN n) (md := .any) hB.1 ls 0 (Array.replicate ls.toArray.size false) a (by simp) (by simpa using hB.2) h
  simpa using this
end Go.Proofs.Yticifolljhplmaa
