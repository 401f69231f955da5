/-
  Proved here: in a region that draws its order, an operation that reads may be taken first where what would change the read waits for it. Conditions: stated in each.
-/
import Derived.Deep.RegionHeld
namespace Go.Proofs.YtnooabgdcfegeaaDoor
set_option linter.unusedVariables false
set_option linter.unusedSimpArgs false
section
variable {P : Program} {ops : Array Oper} {Q : Exit → Act → World → Prop} {md : Region.Mode} {ks : List Nat} {F G : World → Prop}
/-- F holds as long as none of 'ks' has come up; G holds all along. -/
def Late (ks : List Nat) (F G : World → Prop) (L : Array Bool) (w : World) : Prop := ((∀ k ∈ ks, L.getD k true = false) → F w) ∧ G w
def wpAnyL (P : Program) (md : Region.Mode) (ops : Array Oper) (Q : Exit → Act → World → Prop) (ks : List Nat) (F G : World → Prop) : Nat → Array Bool → Act → World → Prop
  | 0, listed, a, w => Region.ready md ops listed = [] ∧ Q .normal a w
  | fuel + 1, listed, a, w =>
    (Region.ready md ops listed = [] → Q .normal a w) ∧
    ∀ i ∈ Region.ready md ops listed, wpOp P ops Q i (fun a' w' => Late ks F G (listed.setIfInBounds i true) w' ∧ wpAnyL P md ops Q ks F G fuel (listed.setIfInBounds i true) a' w') a w
theorem wpAny_of_late : ∀ (fuel : Nat) (listed : Array Bool) (a : Act) (w : World), wpAnyL P md ops Q ks F G fuel listed a w → wpAny P md ops Q fuel listed a w
  | 0, _, _, _, h => h
  | fuel + 1, _, _, _, h => ⟨h.1, fun i hi => wpOp_mono (fun a' w' h' => wpAny_of_late fuel _ a' w' h'.2) (h.2 i hi)⟩
theorem wpAnyL_first {i : Nat} {oi : Oper} {v : Value} (hi : ops[i]? = some oi) (hsel : ∀ (j : Nat) (o : Oper) cs b, ops[j]? = some o → o.op ≠ .select cs b)
    (hQ : ∀ c a w, Q (.panic c) (a.put oi.dst v) w → Q (.panic c) a w) {S : World → Prop} {C : Array Bool → Prop}
    (hC : ∀ (L : Array Bool) (j : Nat), C L → j ≠ i → i ∈ Region.ready md ops L → j ∈ Region.ready md ops L → C (L.setIfInBounds j true))
    (hCS : ∀ (L : Array Bool) (w : World), C L → Late ks F G L w → S w) (hik : i ∉ ks) :
    ∀ (fuel : Nat) (listed : Array Bool) (a : Act) (w : World),
      (∀ j oj, ops[j]? = some oj → j ≠ i → listed.getD j true = false → (∀ e ∈ oj.after, Region.binds md e = true → e.on ≠ i) → oi.apart ops oj = true) →
      i ∈ Region.ready md ops listed → C listed → YieldsIf P ops S oi v a → Late ks F G listed w →
      wpAnyL P md ops Q ks F G fuel (listed.setIfInBounds i true) (a.put oi.dst v) w → wpAnyL P md ops Q ks F G (fuel + 1) listed a w := by
  have late : ∀ (L : Array Bool) (w : World), Late ks F G (L.setIfInBounds i true) w → Late ks F G L w := fun L w h =>
    ⟨fun hk => h.1 (fun k hkk => by rw [getD_set_ne true (show i ≠ k from fun e => hik (e ▸ hkk))]; exact hk k hkk), h.2⟩
  have late' : ∀ (L : Array Bool) (w : World), Late ks F G L w → Late ks F G (L.setIfInBounds i true) w := fun L w h =>
    ⟨fun hk => h.1 (fun k hkk => by have := hk k hkk; rw [getD_set_ne true (show i ≠ k from fun e => hik (e ▸ hkk))] at this; exact this), h.2⟩
  intro fuel
  induction fuel with
  | zero =>
    intro listed a w _ hr hc hy hS H
    refine ⟨fun h => (by rw [h] at hr; cases hr), fun j hj => ?_⟩
    by_cases hji : j = i
    · subst hji; exact hy.wpOp hi (hCS _ _ hc hS) ⟨late' _ _ hS, H⟩
    · have := ready_mono hj hji
      rw [H.1] at this
      cases this
  | succ fuel ih =>
    intro listed a w hfree hr hc hy hS H
    refine ⟨fun h => (by rw [h] at hr; cases hr), fun j hj => ?_⟩
    by_cases hji : j = i
    · subst hji; exact hy.wpOp hi (hCS _ _ hc hS) ⟨late' _ _ hS, H⟩
    · have h1 := H.2 j (ready_mono hj hji)
      obtain ⟨hjun, oj, hoj, hall⟩ := mem_ready.1 hj
      have hnot : ∀ e ∈ oj.after, Region.binds md e = true → e.on ≠ i := fun e he hb heq => by
        have h1 := hall e he hb
        have h0 := (mem_ready.1 hr).1
        rw [heq] at h1
        rcases Nat.lt_or_ge i listed.size with h' | h'
        · simp [h'] at h0 h1; rw [h0] at h1; cases h1
        · simp [Array.getElem?_eq_none h'] at h1
      have h2 := wpOp_putIf hoj (hfree j oj hoj hji hjun hnot) (fun cs b => hsel i oi cs b hi) (fun cs b => hsel j oj cs b hoj) hQ hy h1
      have hfree' : ∀ k ok, ops[k]? = some ok → k ≠ i → (listed.setIfInBounds j true).getD k true = false →
          (∀ e ∈ ok.after, Region.binds md e = true → e.on ≠ i) → oi.apart ops ok = true := fun k ok hk hki hun hno => by
        refine hfree k ok hk hki ?_ hno
        by_cases hjk : j = k
        · subst hjk; exact hjun
        · rw [getD_set_ne true hjk] at hun; exact hun
      refine wpOp_mono (fun a' w' h3 => ?_) h2
      have hl : Late ks F G (listed.setIfInBounds j true) w' := by
        have h4 := h3.2.1
        rw [← Array.setIfInBounds_comm _ _ hji] at h4
        exact late _ _ h4
      refine ⟨hl, ih (listed.setIfInBounds j true) a' w' hfree' (ready_mono hr (Ne.symm hji)) (hC _ _ hc hji hr hj) h3.1 hl ?_⟩
      rw [Array.setIfInBounds_comm _ _ hji]
      exact h3.2.2
/-- Take number i first: it yields wherever G holds. -/
theorem takeG {i : Nat} {oi : Oper} {v : Value} {fuel : Nat} {listed : Array Bool} {a : Act} {w : World} (hi : ops[i]? = some oi)
    (hs : Region.noSelect ops = true) (hf : Region.free md ops listed i = true) (hr : (Region.ready md ops listed).contains i = true) (hik : ks.contains i = false)
    (hQ : ∀ c a w, Q (.panic c) (a.put oi.dst v) w → Q (.panic c) a w) (hy : YieldsIf P ops G oi v a) (hS : Late ks F G listed w)
    (h : wpAnyL P md ops Q ks F G fuel (listed.setIfInBounds i true) (a.put oi.dst v) w) : wpAnyL P md ops Q ks F G (fuel + 1) listed a w :=
  wpAnyL_first hi (Region.noSelect_spec hs) hQ (S := G) (C := fun _ => True) (fun _ _ _ _ _ _ => trivial) (fun L w _ hl => hl.2) (by simpa using hik) fuel listed a w (Region.free_spec hi hf) (by simpa using hr) trivial hy hS h
/-- One operation alone may come up. -/
theorem onlyL {i : Nat} {o : Oper} {fuel : Nat} {listed : Array Bool} {a : Act} {w : World} (hr : Region.ready md ops listed = [i]) (ho : ops[i]? = some o)
    (h : ∀ K' : Act → World → Prop, Shut (∀ a w, Late ks F G (listed.setIfInBounds i true) w → (Late ks F G (listed.setIfInBounds i true) w → wpAnyL P md ops Q ks F G fuel (listed.setIfInBounds i true) a w) → K' a w) → if Region.wanted o (yielded ops a.tmps) = true then Oper.wp P o a w K' Q else K' (a.put o.dst undef) w) :
    wpAnyL P md ops Q ks F G (fuel + 1) listed a w := by
  refine ⟨fun h0 => (by rw [h0] at hr; cases hr), fun j hj => ?_⟩
  rw [hr, List.mem_singleton] at hj
  subst hj
  exact wpOp_step ho (fun K' hK => h K' (fun a w hS hW => hK a w ⟨hS, hW hS⟩))
theorem doneL {listed : Array Bool} {a : Act} {w : World} (hr : Region.ready md ops listed = []) (h : Q .normal a w) : ∀ fuel, wpAnyL P md ops Q ks F G fuel listed a w
  | 0 => ⟨hr, h⟩
  | _ + 1 => ⟨fun _ => h, by rw [hr]; simp⟩
theorem takeG_l {l : List Oper} {i : Nat} {oi : Oper} {v : Value} {fuel : Nat} {listed : Array Bool} {a : Act} {w : World} (hi : l[i]? = some oi)
    (hs : Region.noSelect l.toArray = true) (hf : Region.free md l.toArray listed i = true) (hr : (Region.ready md l.toArray listed).contains i = true) (hik : ks.contains i = false)
    (hQ : ∀ c a w, Q (.panic c) (a.put oi.dst v) w → Q (.panic c) a w) (hy : YieldsIf P l.toArray G oi v a) (hS : Late ks F G listed w)
    (h : wpAnyL P md l.toArray Q ks F G fuel (listed.setIfInBounds i true) (a.put oi.dst v) w) : wpAnyL P md l.toArray Q ks F G (fuel + 1) listed a w :=
  takeG (by rw [List.getElem?_toArray]; exact hi) hs hf hr hik hQ hy hS h
theorem onlyL_l {l : List Oper} {i : Nat} {o : Oper} {fuel : Nat} {listed : Array Bool} {a : Act} {w : World} (hr : Region.ready md l.toArray listed = [i]) (ho : l[i]? = some o) (hwant : Region.wanted o (yielded l.toArray a.tmps) = true)
    (h : ∀ K' : Act → World → Prop, Shut (∀ a w, Late ks F G (listed.setIfInBounds i true) w → (Late ks F G (listed.setIfInBounds i true) w → wpAnyL P md l.toArray Q ks F G fuel (listed.setIfInBounds i true) a w) → K' a w) → Oper.wp P o a w K' Q) :
    wpAnyL P md l.toArray Q ks F G (fuel + 1) listed a w :=
  onlyL hr (by rw [List.getElem?_toArray]; exact ho) (fun K' hK => by rw [if_pos hwant]; exact h K' hK)
theorem wp_region_late {id : Nat} {a : Act} {w : World} (ks : List Nat) (F G : World → Prop) (hm : P.follows .mixedOrders = true) (hS : Late ks F G (Array.replicate ops.size false) w.drew)
    (h : Late ks F G (Array.replicate ops.size false) w.drew → wpAnyL P .any ops Q ks F G ops.size (Array.replicate ops.size false) a w.drew) : (Code.region id ops true).wp P Q a w :=
  wp_region_any hm (wpAny_of_late _ _ _ _ (h hS))
end
end Go.Proofs.YtnooabgdcfegeaaDoor
