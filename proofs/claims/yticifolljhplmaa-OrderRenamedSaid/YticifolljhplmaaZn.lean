/-
  Proved here: whether operations may be hangs on which IDs are alike, not on the IDs. Conditions: none.
-/
import Derived.Test.YticifolljhplmaaZm
import Derived.Test.YticifolljhplmaaYx
namespace Go.Proofs.Yticifolljhplmaa
open Go.RowKit
set_option linter.unusedVariables false
set_option linter.unusedSimpArgs false
theorem seen_ren {S : Int → Prop} {g : Int → Int} (hg : InjOn S g) (P : List (OpD × OpD)) (h : ∀ p ∈ P, Ren g p.1 p.2) (hi : ∀ p ∈ P, p.1.In S) {x : Int} (hx : S x) : seenB (P.map Prod.snd) (g x) = seenB (P.map Prod.fst) x := by
  unfold seenB
  refine any_eq fun p hp => ?_
  rw [(h p hp).id, Bool.eq_iff_iff, decide_eq_true_eq, decide_eq_true_eq]
  exact ⟨hg _ _ (hi p hp).id hx, fun e => by rw [e]⟩
theorem pairB_ren {S : Int → Prop} {g : Int → Int} (hg : InjOn S g) (P : List (OpD × OpD)) (h : ∀ p ∈ P, Ren g p.1 p.2) (hi : ∀ p ∈ P, p.1.In S) {x : Int} (hx : S x) : pairB (P.map Prod.snd) (g x) = pairB (P.map Prod.fst) x := by
  unfold pairB
  refine any_eq fun p hp => ?_
  rw [(h p hp).id, (h p hp).load]
  congr 1
  rw [Bool.eq_iff_iff, decide_eq_true_eq, decide_eq_true_eq]
  exact ⟨hg _ _ (hi p hp).id hx, fun e => by rw [e]⟩
theorem well_ren {g : Int → Int} {d d' : OpD} (h : Ren g d d') : wellB d' = wellB d := by
  unfold wellB
  rw [h.fence, h.load, h.store, h.size, h.from_, List.length_map, span_ren h]
theorem step_ren {S : Int → Prop} {g : Int → Int} (hg : InjOn S g) (s1 : S (-1)) (g1 : g (-1) = -1) (hs : ∀ x, S x → (0 ≤ g x ↔ 0 ≤ x)) (P : List (OpD × OpD)) (h : ∀ p ∈ P, Ren g p.1 p.2) (hi : ∀ p ∈ P, p.1.In S) {d d' : OpD} (hd : Ren g d d') (id : d.In S) :
    stepB (P.map Prod.snd) d' = stepB (P.map Prod.fst) d := by
  unfold stepB
  rw [hd.id, hd.pair, seen_ren hg P h hi id.id, pairB_ren hg P h hi id.pair, well_ren hd]
  have e1 : decide (0 ≤ g d.id) = decide (0 ≤ d.id) := by
    rw [Bool.eq_iff_iff, decide_eq_true_eq, decide_eq_true_eq]
    exact hs _ id.id
  have e2 : decide (g d.pair = -1) = decide (d.pair = -1) := by
    rw [Bool.eq_iff_iff, decide_eq_true_eq, decide_eq_true_eq]
    exact ⟨fun e => hg _ _ id.pair s1 (by rw [e, g1]), fun e => by rw [e, g1]⟩
  rw [e1, e2]
theorem goodTo_ren {S : Int → Prop} {g : Int → Int} (hg : InjOn S g) (s1 : S (-1)) (g1 : g (-1) = -1) (hs : ∀ x, S x → (0 ≤ g x ↔ 0 ≤ x)) (P : List (OpD × OpD)) (h : ∀ p ∈ P, Ren g p.1 p.2) (hi : ∀ p ∈ P, p.1.In S) (k : Nat) :
    goodTo (P.map Prod.snd) k = goodTo (P.map Prod.fst) k := by
  induction k with
  | zero => rfl
  | succ k ih =>
    cases hk : P[k]? with
    | none =>
      have e : ∀ L : List OpD, L[k]? = none → goodTo L (k + 1) = goodTo L k := by
        intro L hL
        rw [show goodTo L (k + 1) = (goodTo L k && (match L[k]? with | some d => stepB (L.take k) d | none => true)) from rfl, hL, Bool.and_true]
      rw [e _ (by rw [List.getElem?_map, hk]; rfl), e _ (by rw [List.getElem?_map, hk]; rfl), ih]
    | some p =>
      have hp := List.mem_of_getElem? hk
      rw [goodTo_step (d := p.2) (by rw [List.getElem?_map, hk]; rfl), goodTo_step (d := p.1) (by rw [List.getElem?_map, hk]; rfl), ih, ← List.map_take, ← List.map_take,
        step_ren hg s1 g1 hs (P.take k) (fun q hq => h q (List.mem_of_mem_take hq)) (fun q hq => hi q (List.mem_of_mem_take hq)) (h p hp) (hi p hp)]
theorem good_ren {S : Int → Prop} {g : Int → Int} (hg : InjOn S g) (s1 : S (-1)) (g1 : g (-1) = -1) (hs : ∀ x, S x → (0 ≤ g x ↔ 0 ≤ x)) (P : List (OpD × OpD)) (h : ∀ p ∈ P, Ren g p.1 p.2) (hi : ∀ p ∈ P, p.1.In S) :
    goodS (P.map Prod.snd) = goodS (P.map Prod.fst) := by
  unfold goodS
  rw [List.length_map, List.length_map]
  exact goodTo_ren hg s1 g1 hs P h hi _
theorem renI_sign {k : Int} (hk : 1 ≤ k) (x : Int) : 0 ≤ renI k x ↔ 0 ≤ x := by
  unfold renI
  split <;> omega
end Go.Proofs.Yticifolljhplmaa
