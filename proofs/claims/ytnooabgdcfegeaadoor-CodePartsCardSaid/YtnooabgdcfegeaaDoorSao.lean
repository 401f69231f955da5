/-
  Proved here: a region that draws its order and may call a round's yield, stage by stage: up to a set of operations that every order comes to. Conditions: stated in each.
-/
import Derived.Test.YtnooabgdcfegeaaDoorSan
namespace Go.Proofs.YtnooabgdcfegeaaDoor
set_option linter.unusedVariables false
set_option linter.unusedSimpArgs false
section
variable {n : Nat} {P : Program} {ops : Array Oper} {Q : Exit → Act → World → Prop} {md : Region.Mode} {G : World → Prop} {R : Act → World → Prop} {stop : Array Bool}
def wpAnyS (n : Nat) (P : Program) (md : Region.Mode) (ops : Array Oper) (Q : Exit → Act → World → Prop) (G : World → Prop) (stop : Array Bool) (R : Act → World → Prop) : Nat → Array Bool → Act → World → Prop
  | 0, listed, a, w => listed = stop ∧ R a w
  | fuel + 1, listed, a, w =>
    Region.ready md ops listed ≠ [] ∧
    ∀ i ∈ Region.ready md ops listed, wpOpIn Fence.wide n P ops Q i (fun a' w' => G w' ∧ wpAnyS n P md ops Q G stop R fuel (listed.setIfInBounds i true) a' w') a w
theorem wpAnyIn_of_s {m : Nat} : ∀ (fuel : Nat) (listed : Array Bool) (a : Act) (w : World), wpAnyS n P md ops Q G stop (wpAnyIn Fence.wide n P md ops Q m stop) fuel listed a w → wpAnyIn Fence.wide n P md ops Q (m + fuel) listed a w
  | 0, _, _, _, h => by rw [h.1]; exact h.2
  | fuel + 1, _, _, _, h => ⟨fun h0 => absurd h0 h.1, fun i hi => wpOpIn_mono (fun a' w' h' => wpAnyIn_of_s fuel _ a' w' h'.2) (h.2 i hi)⟩
/-- What is listed waits for nothing that is not. -/
def Cl (md : Region.Mode) (ops : Array Oper) (L : Array Bool) : Prop := ∀ j o, ops[j]? = some o → L.getD j false = true → ∀ e ∈ o.after, Region.binds md e = true → L.getD e.on false = true
def closedB (md : Region.Mode) (ops : Array Oper) (L : Array Bool) : Bool := (List.range ops.size).all fun j => !(L.getD j false) || ((ops[j]?).map fun o => o.after.all fun e => !(Region.binds md e) || L.getD e.on false).getD true
theorem cl_iff {L : Array Bool} : closedB md ops L = true ↔ Cl md ops L := by
  unfold closedB Cl
  rw [List.all_eq_true]
  constructor
  · intro h j o ho hj e he hb
    have hlt : j < ops.size := by
      rcases Nat.lt_or_ge j ops.size with h' | h'
      · exact h'
      · rw [Array.getElem?_eq_none h'] at ho; cases ho
    have h1 := h j (List.mem_range.2 hlt)
    rw [ho, hj] at h1
    simp only [Bool.not_true, Bool.false_or, Option.map_some, Option.getD_some] at h1
    rw [Array.all_eq_true_iff_forall_mem] at h1
    have h2 := h1 e he
    rw [hb] at h2
    simpa using h2
  · intro h j hj
    cases hL : L.getD j false with
    | false => rfl
    | true =>
      cases ho : ops[j]? with
      | none => rfl
      | some o =>
        simp only [Bool.not_true, Bool.false_or, Option.map_some, Option.getD_some]
        rw [Array.all_eq_true_iff_forall_mem]
        intro e he
        cases hb : Region.binds md e with
        | false => rfl
        | true => simpa using h j o ho hL e he hb
theorem cl_set {L : Array Bool} {j : Nat} (h : Cl md ops L) (hj : j ∈ Region.ready md ops L) : Cl md ops (L.setIfInBounds j true) := by
  intro k o ho hk e he hb
  by_cases hkj : j = k
  · subst hkj
    obtain ⟨-, oj, hoj, hall⟩ := mem_ready.1 hj
    rw [ho] at hoj
    cases hoj
    exact getD_set_true (hall e he hb)
  · rw [getD_set_ne false hkj] at hk
    exact getD_set_true (h k o ho hk e he hb)
def lastB (md : Region.Mode) (ops : Array Oper) (stop : Array Bool) (i : Nat) : Bool := !(closedB md ops (stop.setIfInBounds i false)) || Region.ready md ops (stop.setIfInBounds i false) == [i]
theorem last_only {L : Array Bool} {i j : Nat} (hl : lastB md ops stop i = true) (hs : L.setIfInBounds i true = stop) (hc : Cl md ops L) (hi : i ∈ Region.ready md ops L) (hj : j ∈ Region.ready md ops L) : j = i := by
  have h0 := (mem_ready.1 hi).1
  have hL : stop.setIfInBounds i false = L := by
    rw [← hs]
    apply Array.ext
    · simp
    · intro k h1 h2
      by_cases hk : i = k
      · subst hk
        have h3 : i < L.size := h2
        simp [h3] at h0 ⊢
        exact h0
      · rw [Array.getElem_setIfInBounds_ne (by simpa using h1) hk, Array.getElem_setIfInBounds_ne (by simpa using h2) hk]
  unfold lastB at hl
  rw [hL, cl_iff.2 hc] at hl
  simp only [Bool.not_true, Bool.false_or, beq_iff_eq] at hl
  rw [hl] at hj
  simpa using hj
theorem wpAnyS_first {i : Nat} {oi : Oper} {v : Value} (hi : ops[i]? = some oi) (hsel : ∀ (j : Nat) (o : Oper) cs b, ops[j]? = some o → o.op ≠ .select cs b)
    (hQ : ∀ c a w, Q (.panic c) (a.put oi.dst v) w → Q (.panic c) a w) (hlast : lastB md ops stop i = true) :
    ∀ (fuel : Nat) (listed : Array Bool) (a : Act) (w : World),
      (∀ j oj, ops[j]? = some oj → j ≠ i → listed.getD j true = false → (∀ e ∈ oj.after, Region.binds md e = true → e.on ≠ i) → oi.apart ops oj = true) →
      i ∈ Region.ready md ops listed → Cl md ops listed → YieldsIf P ops G oi v a → G w →
      wpAnyS n P md ops Q G stop R fuel (listed.setIfInBounds i true) (a.put oi.dst v) w → wpAnyS n P md ops Q G stop R (fuel + 1) listed a w := by
  intro fuel
  induction fuel with
  | zero =>
    intro listed a w _ hr hc hy hS H
    refine ⟨fun h => (by rw [h] at hr; cases hr), fun j hj => ?_⟩
    obtain rfl : j = i := last_only hlast H.1 hc hr hj
    exact yieldsIf_w hi hy hS ⟨hS, H⟩
  | succ fuel ih =>
    intro listed a w hfree hr hc hy hS H
    refine ⟨fun h => (by rw [h] at hr; cases hr), fun j hj => ?_⟩
    by_cases hji : j = i
    · subst hji; exact yieldsIf_w hi hy hS ⟨hS, H⟩
    · have h1 := H.2 j (ready_mono hj hji)
      obtain ⟨hjun, oj, hoj, hall⟩ := mem_ready.1 hj
      have hnot : ∀ e ∈ oj.after, Region.binds md e = true → e.on ≠ i := fun e he hb heq => by
        have h1 := hall e he hb
        have h0 := (mem_ready.1 hr).1
        rw [heq] at h1
        rcases Nat.lt_or_ge i listed.size with h' | h'
        · simp [h'] at h0 h1; rw [h0] at h1; cases h1
        · simp [Array.getElem?_eq_none h'] at h1
      have h2 := wpOpW_putIf hoj (hfree j oj hoj hji hjun hnot) (fun cs b => hsel i oi cs b hi) (fun cs b => hsel j oj cs b hoj) hQ hy h1
      have hfree' : ∀ k ok, ops[k]? = some ok → k ≠ i → (listed.setIfInBounds j true).getD k true = false →
          (∀ e ∈ ok.after, Region.binds md e = true → e.on ≠ i) → oi.apart ops ok = true := fun k ok hk hki hun hno => by
        refine hfree k ok hk hki ?_ hno
        by_cases hjk : j = k
        · subst hjk; exact hjun
        · rw [getD_set_ne true hjk] at hun; exact hun
      refine wpOpIn_mono (fun a' w' h3 => ?_) h2
      refine ⟨h3.2.1, ih (listed.setIfInBounds j true) a' w' hfree' (ready_mono hr (Ne.symm hji)) (cl_set hc hj) h3.1 h3.2.1 ?_⟩
      rw [Array.setIfInBounds_comm _ _ hji]
      exact h3.2.2
theorem takeS {l : List Oper} {i : Nat} {oi : Oper} {v : Value} {fuel : Nat} {listed : Array Bool} {a : Act} {w : World} (hi : l[i]? = some oi)
    (hs : Region.noSelect l.toArray = true) (hf : Region.free md l.toArray listed i = true) (hr : (Region.ready md l.toArray listed).contains i = true) (hl : lastB md l.toArray stop i = true) (hc : closedB md l.toArray listed = true)
    (hQ : ∀ c a w, Q (.panic c) (a.put oi.dst v) w → Q (.panic c) a w) (hy : YieldsIf P l.toArray G oi v a) (hS : G w)
    (h : wpAnyS n P md l.toArray Q G stop R fuel (listed.setIfInBounds i true) (a.put oi.dst v) w) : wpAnyS n P md l.toArray Q G stop R (fuel + 1) listed a w :=
  have hi' : l.toArray[i]? = some oi := by rw [List.getElem?_toArray]; exact hi
  wpAnyS_first hi' (Region.noSelect_spec hs) hQ hl fuel listed a w (Region.free_spec hi' hf) (by simpa using hr) (cl_iff.1 hc) hy hS h
theorem onlyS {l : List Oper} {i : Nat} {o : Oper} {fuel : Nat} {listed : Array Bool} {a : Act} {w : World} (hr : Region.ready md l.toArray listed = [i]) (ho : l[i]? = some o) (hwant : Region.wanted o (yielded l.toArray a.tmps) = true)
    (h : ∀ K' : Act → World → Prop, Shut (∀ a w, G w → (G w → wpAnyS n P md l.toArray Q G stop R fuel (listed.setIfInBounds i true) a w) → K' a w) → Oper.wpIn Fence.wide n P o a w K' Q) :
    wpAnyS n P md l.toArray Q G stop R (fuel + 1) listed a w := by
  refine ⟨fun h0 => (by rw [h0] at hr; cases hr), fun j hj => ?_⟩
  rw [hr, List.mem_singleton] at hj
  subst hj
  refine wpOpIn_step (by rw [List.getElem?_toArray]; exact ho) (fun K' hK => ?_)
  rw [if_pos hwant]
  exact h K' (fun a w hS hW => hK a w ⟨hS, hW hS⟩)
theorem onlyIn {l : List Oper} {i : Nat} {o : Oper} {fuel : Nat} {listed : Array Bool} {a : Act} {w : World} (hr : Region.ready md l.toArray listed = [i]) (ho : l[i]? = some o) (hwant : Region.wanted o (yielded l.toArray a.tmps) = true)
    (h : ∀ K' : Act → World → Prop, Shut (∀ a w, wpAnyIn Fence.wide n P md l.toArray Q fuel (listed.setIfInBounds i true) a w → K' a w) → Oper.wpIn Fence.wide n P o a w K' Q) :
    wpAnyIn Fence.wide n P md l.toArray Q (fuel + 1) listed a w := by
  refine ⟨fun h0 => (by rw [h0] at hr; cases hr), fun j hj => ?_⟩
  rw [hr, List.mem_singleton] at hj
  subst hj
  refine wpOpIn_step (by rw [List.getElem?_toArray]; exact ho) (fun K' hK => ?_)
  rw [if_pos hwant]
  exact h K' (fun a w hW => hK a w hW)
/-- A stage. -/
theorem stage {fuel m : Nat} {l : List Oper} {listed : Array Bool} {a : Act} {w : World} (stop : Array Bool) (G : World → Prop) (hG : G w)
    (h : G w → wpAnyS n P md l.toArray Q G stop (wpAnyIn Fence.wide n P md l.toArray Q m stop) fuel listed a w) : wpAnyIn Fence.wide n P md l.toArray Q (m + fuel) listed a w :=
  wpAnyIn_of_s fuel listed a w (h hG)
theorem wp_region_s (n : Nat) {id : Nat} {a : Act} {w : World} (hm : P.follows .mixedOrders = true)
    (h : wpAnyIn Fence.wide n P .any ops Q ops.size (Array.replicate ops.size false) a w.drew) : (Code.region id ops true).wp P Q a w :=
  (wpIn_wide (n := n)).1 (wpIn_region_any hm h)
end
end Go.Proofs.YtnooabgdcfegeaaDoor
