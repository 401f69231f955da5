/-
  Proved here: a range over a function without a variable, by an iterator that ranges over others itself. Conditions: stated.
-/
import Derived.Test.YtnooabgdcfegeaaDoorSar
namespace Go.Proofs.YtnooabgdcfegeaaDoor
open Go.RowKit Go.Shelf
set_option linter.unusedVariables false
set_option linter.unusedSimpArgs false
variable {F : Fence} {n : Nat} {P : Program}
theorem range_plainO {α : Type} {g : Operand} {ps : Array Tmp} {assign body : Code} {Q : Exit → Act → World → Prop} {a : Act} {w : World}
    (hro : F.round = none) (h1 : 1 ≤ n) {gf : Nat} {lb : Array Value} (hg : a.eval g = .func (.func gf) #[] lb) (hFg : F.fn gf) (eg : ∀ args w, (callFunc gf args).run P w = .ok (.enter gf args) w)
    {encs : α → Array Value} {Kp : World → World → Prop} {V : α → Prop} {S Sp : List α → Prop} {N : Nat} {w0 : World} (hseq : SeqStopsO F (n - 1) P gf lb encs Kp V 2 S Sp N w0)
    (hKt : ∀ {A B C : World}, Kp A B → Kp B C → Kp A C) (hKa : ∀ (W : World) (o : Obj), w.heap.size ≤ W.heap.size → Kp W (W.alloc o))
    (hKb : ∀ (W : World) (o o' : Obj), W.heap[w.heap.size + 1]? = some o → Kp W (W.putObj (w.heap.size + 1) o')) (hb0 : Below w0.heap.size w0 w) (hps : ∀ x, (encs x).size = ps.size)
    (I : List α → World → Prop) (Ix : Code → List α → World → Prop) (hI : OwnFrom w.heap.size I) (hIx : ∀ c, OwnFrom w.heap.size (Ix c)) (h0 : I [] w) (a₁ : α → Act)
    (hassign : ∀ (l : Nat) (x : α) (W : World) (K : Act → World → Prop), K (a₁ x) W →
      assign.wpIn (F.inRound l) (n - 1 - 1) P (Exit.then K (fun _ _ _ => False)) { tmps := (ps.zip (encs x)).foldl (fun t (p, v) => t.setIfInBounds p v) a.tmps, defers := [] } W)
    (hbody : ∀ (l : Nat) (pre : List α) (x : α) (W : World), w.heap.size ≤ W.heap.size → V x → I pre W → pre.length < N → body.wpIn (F.inRound l) (n - 1 - 1) P (boxPostO w.heap.size Kp I Ix (pre ++ [x]) W) (a₁ x) W)
    (hdone : ∀ (D : Nat) (xs : List α) (W : World), w.heap.size ≤ D → S xs → I xs W → W.heap[D]? = some (.deferred (some [])) → Q .normal { a with defers := { target := .collected D, args := #[] } :: a.defers } W)
    (hstop : ∀ (D : Nat) (c : Code) (pre : List α) (W : World), w.heap.size ≤ D → Sp pre → Ix c pre W → W.heap[D]? = some (.deferred (some [])) → c.wpIn F n P Q { a with defers := { target := .collected D, args := #[] } :: a.defers } W) :
    (Code.rangeFunc g ps assign body).wpIn F n P Q a w := by
  refine range_open2 hro h1 hg hFg eg ?_
  intro fn mk W1 hfn hmk hW1
  have z1 : (w.alloc (.deferred (some []))).heap.size = w.heap.size + 1 := by rw [World.size_alloc]
  have hL1 : W1.heap[w.heap.size + 1]? = some (.loop (mk .ready none)) := by
    have h := World.alloc_heap_new (w.alloc (.deferred (some []))) (.loop (mk .ready none))
    rw [z1, hW1] at h
    exact h
  have hK1 : W1.heap[w.heap.size]? = some (.deferred (some [])) := by
    rw [← hW1]; exact (Below.heap_alloc _ _ _ (by rw [z1]; omega)).trans (World.alloc_heap_new w _)
  have hI1 : I [] W1 := by rw [← hW1]; exact hI.alloc _ (hI.alloc _ h0)
  have hb1 : Below w0.heap.size w0 W1 := by
    rw [← hW1]
    exact (hb0.alloc hb0.size _).alloc (by rw [z1]; have := hb0.size; omega) _
  have hz2 : W1.heap.size = w.heap.size + 2 := by rw [← hW1, World.size_alloc, z1]
  have hz1 : w.heap.size ≤ W1.heap.size := by omega
  refine (hseq (w.heap.size + 1)
    (fun pre W => I pre W ∧ W.heap[w.heap.size + 1]? = some (.loop (mk .ready none)) ∧ W.heap[w.heap.size]? = some (.deferred (some [])))
    (fun pre W => ∃ c, Ix c pre W ∧ W.heap[w.heap.size + 1]? = some (.loop (mk .done (some c))) ∧ W.heap[w.heap.size]? = some (.deferred (some [])))
    W1 hb1 (by rw [← hW1, World.size_alloc, z1]; omega) (by have := hb0.size; rw [← hW1, World.size_alloc, z1]; omega) ?_ ?_ ?_ ⟨hI1, hL1, hK1⟩).mono ?_
  · exact fun s A B row hs hg' hr => ⟨hI s A B row hs.1 hg' (fun r e => ⟨Nat.le_trans hz1 (hr r e).1, (hr r e).2⟩), (hg'.block _ (Array.getElem?_eq_some_iff.1 hs.2.1).1 (fun e => by have := (hr _ e.symm).1; omega)).trans hs.2.1, (hg'.block _ (Array.getElem?_eq_some_iff.1 hs.2.2).1 (fun e => by have := (hr _ e.symm).1; omega)).trans hs.2.2⟩
  · rintro s A B row ⟨c, hc, hl, hk⟩ hg' hr
    exact ⟨c, hIx c s A B row hc hg' (fun r e => ⟨Nat.le_trans hz1 (hr r e).1, (hr r e).2⟩), (hg'.block _ (Array.getElem?_eq_some_iff.1 hl).1 (fun e => by have := (hr _ e.symm).1; omega)).trans hl, (hg'.block _ (Array.getElem?_eq_some_iff.1 hk).1 (fun e => by have := (hr _ e.symm).1; omega)).trans hk⟩
  · rintro pre x W hVx ⟨hi, hl, hk⟩ hlen
    have hlt : w.heap.size + 1 < W.heap.size := (Array.getElem?_eq_some_iff.1 hl).1
    have hy := run_yield (P := P) (args := encs x) hl (by rw [hmk]; exact hps x)
    have hmk2 : ∀ st pe, mk st pe = { state := st, pending := pe, fn, tmps := a.tmps, params := ps, assign, body, defers := w.heap.size } := fun st pe => by rw [hmk]
    rw [hmk2] at hy
    refine ⟨fn, _, assign, body, hy, roundIn_of_wpIn hfn (hassign _ x W _ ?_)⟩
    have hla := hl
    have hka := hk
    refine ⟨_, run_beginRound hla (by rw [hmk2]), ?_⟩
    obtain ⟨Vw, hV⟩ : ∃ Vw, W.putObj (w.heap.size + 1) (.loop { mk .ready none with state := .busy }) = Vw := ⟨_, rfl⟩
    have hVl : Vw.heap[w.heap.size + 1]? = some (.loop { mk .ready none with state := .busy }) := by rw [← hV]; exact put_same _ hla
    have hVk : Vw.heap[w.heap.size]? = some (.deferred (some [])) := by rw [← hV]; exact (World.putObj_heap_other (by omega)).trans hka
    have hVz : w.heap.size ≤ Vw.heap.size := by rw [← hV, World.putObj_size]; omega
    have hIa := hi
    have hIV : I pre Vw := by
      rw [← hV]
      exact hI pre _ _ (some (w.heap.size + 1)) hIa (grownBy_putObj' _ _ _) (fun r e => by cases e; exact ⟨by omega, _, hla, rfl⟩)
    have hKV : Kp W Vw := by
      rw [← hV]
      exact hKb _ _ _ hla
    rw [hV]
    refine wpIn_mono (hbody _ pre x Vw hVz hVx hIV hlen) ?_
    have fin : ∀ (jump : Option Code) (W3 : World), KeepsF w.heap.size Vw W3 →
        (Instr.endRound (w.heap.size + 1) jump).run P W3 = .ok (.bool jump.isNone) (W3.putObj (w.heap.size + 1) (.loop (mk (if jump.isNone then .ready else .done) jump))) ∧
        W3.heap[w.heap.size + 1]? = some (.loop { mk .ready none with state := .busy }) ∧
        (W3.putObj (w.heap.size + 1) (.loop (mk (if jump.isNone then .ready else .done) jump))).heap[w.heap.size + 1]? = some (.loop (mk (if jump.isNone then .ready else .done) jump)) ∧
        (W3.putObj (w.heap.size + 1) (.loop (mk (if jump.isNone then .ready else .done) jump))).heap[w.heap.size]? = some (.deferred (some [])) := by
      intro jump W3 h3
      have hl3 := h3.2 _ _ (by omega) hVl rfl
      refine ⟨?_, hl3, put_same _ hl3, (World.putObj_heap_other (by omega)).trans (h3.2 _ _ (Nat.le_refl _) hVk rfl)⟩
      have h := run_endRound (P := P) jump hl3
      rw [hmk2] at h
      rw [hmk2]
      exact h
    have hput : ∀ {T : List α → World → Prop} (hT : OwnFrom w.heap.size T) (xs : List α) (W3 : World) (o' : Obj), T xs W3 → W3.heap[w.heap.size + 1]? = some (.loop { mk .ready none with state := .busy }) → T xs (W3.putObj (w.heap.size + 1) o') :=
      fun hT xs W3 o' h hl3 => hT xs _ _ (some (w.heap.size + 1)) h (grownBy_putObj' _ _ _) (fun r e => by cases e; exact ⟨by omega, _, hl3, rfl⟩)
    rintro e a3 W3 hp
    cases e with
    | normal =>
      obtain ⟨h3, hkp, hi3⟩ := hp
      obtain ⟨f1, f2, f3, f4⟩ := fin none W3 h3
      exact ⟨_, _, f1, .inl ⟨rfl, ⟨hput hI _ _ _ hi3 f2, f3, f4⟩, hKt hKV (hKt hkp (hKb _ _ _ f2))⟩⟩
    | exit id =>
      obtain ⟨h3, hkp, hi3⟩ := hp
      obtain ⟨f1, f2, f3, f4⟩ := fin (some (.exit id)) W3 h3
      exact ⟨_, _, f1, .inr ⟨rfl, ⟨.exit id, hput (hIx _) _ _ _ hi3 f2, f3, f4⟩, hKt hKV (hKt hkp (hKb _ _ _ f2))⟩⟩
    | ret =>
      obtain ⟨h3, hkp, hi3⟩ := hp
      obtain ⟨f1, f2, f3, f4⟩ := fin (some .ret) W3 h3
      exact ⟨_, _, f1, .inr ⟨rfl, ⟨.ret, hput (hIx _) _ _ _ hi3 f2, f3, f4⟩, hKt hKV (hKt hkp (hKb _ _ _ f2))⟩⟩
    | goto t => exact hp.elim
    | panic c => exact hp.elim
    | outgrown => exact hp.elim
  · have hmk2 : ∀ st pe, mk st pe = { state := st, pending := pe, fn, tmps := a.tmps, params := ps, assign, body, defers := w.heap.size } := fun st pe => by rw [hmk]
    have hput : ∀ {T : List α → World → Prop} (hT : OwnFrom w.heap.size T) (xs : List α) (W3 : World) (o' : Obj) (r : Loop), T xs W3 → W3.heap[w.heap.size + 1]? = some (.loop r) → T xs (W3.putObj (w.heap.size + 1) o') :=
      fun hT xs W3 o' r h hl3 => hT xs _ _ (some (w.heap.size + 1)) h (grownBy_putObj' _ _ _) (fun r e => by cases e; exact ⟨by omega, _, hl3, rfl⟩)
    rintro e W2 ⟨⟨v, rfl⟩, ⟨xs, hS, hi, hl, hk⟩ | ⟨pre, hSp, c, hi, hl, hk⟩⟩
    · have h := run_endLoop (P := P) hl (by rw [hmk2]; simp)
      rw [show (mk .ready none).pending = none by rw [hmk2]] at h
      exact ⟨none, _, h, hdone _ xs _ (Nat.le_refl _) hS (hput hI _ _ _ _ hi hl) ((World.putObj_heap_other (by omega)).trans hk)⟩
    · have h := run_endLoop (P := P) hl (by rw [hmk2]; simp)
      rw [show (mk .done (some c)).pending = some c by rw [hmk2]] at h
      exact ⟨some c, _, h, hstop _ c pre _ (Nat.le_refl _) hSp (hput (hIx c) _ _ _ _ hi hl) ((World.putObj_heap_other (by omega)).trans hk)⟩
end Go.Proofs.YtnooabgdcfegeaaDoor
