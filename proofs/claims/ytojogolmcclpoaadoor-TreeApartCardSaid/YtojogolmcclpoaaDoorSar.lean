/-
  Proved here: whether a part counts, by the code; how many of a program's parts count. Conditions: none. ¦ a range over a function whose rounds lay a box for their variable ahead of the body. Conditions: stated.
-/
import Derived.Test.YtojogolmcclpoaaDoorSaq
import Derived.RangeFuncFrom
import Derived.Shelf.Abstract
section
namespace Go.Proofs.YtojogolmcclpoaaDoor
open Go.RowKit Go.Shelf
set_option linter.unusedVariables false
set_option linter.unusedSimpArgs false
set_option maxRecDepth 100000
set_option maxHeartbeats 4000000
attribute [local go_sem] Oper.semAt_some
/-- Whether a part counts. -/
def Hd.cnt (h : Hd) : Bool := (h.sort != 1) && (h.sort != 6)
theorem counts_any (h : Hd) (w : World) : Calls Tryd.prog 22 #[.agg h.cells] w fun r w' => r = .returned (.bool h.cnt) ∧ Nb w w' := by
  have hc : h.cells = #[.int .i64 h.sort, .int .i64 h.kind, sV h.name, sV h.actor, .int .i64 h.n, .bool h.late, nV h.defs, nV h.params, nV h.stmts, nV h.args, nV h.parts, nV h.arms] := rfl
  have hcn : h.cnt = ((h.sort != 1) && (h.sort != 6)) := rfl
  rw [hc, hcn]
  clear hc hcn
  generalize h.sort = s
  cases h1 : (s != 1) with
  | false =>
    go_enter Tryd.func22, Tryd.ntmps22
    go_wp2_with fail
    go_ret
    exact ⟨rfl, (Nb.refl w).alloc _⟩
  | true =>
    go_enter Tryd.func22, Tryd.ntmps22
    go_wp2_with fail
    go_ret
    exact ⟨rfl, (Nb.refl w).alloc _⟩
def cntL (l : List Pt) : Nat := (l.filter fun x => x.2.cnt).length
theorem cntL_append (a b : List Pt) : cntL (a ++ b) = cntL a + cntL b := by unfold cntL; rw [List.filter_append, List.length_append]
theorem cntL_cons (x : Pt) (b : List Pt) : cntL (x :: b) = (if x.2.cnt = true then 1 else 0) + cntL b := by
  unfold cntL
  rw [List.filter_cons]
  split
  · rw [List.length_cons]; omega
  · omega
theorem cntL_prefix {a b : List Pt} (h : a <+: b) : cntL a ≤ cntL b := by
  obtain ⟨t, rfl⟩ := h
  rw [cntL_append]
  omega
theorem cntL_flatten {α : Type} (f : α → List Pt) (l : List α) : cntL (l.map f).flatten = sumL (l.map fun x => cntL (f x)) := by
  induction l with
  | nil => rfl
  | cons x l ih =>
    rw [List.map_cons, List.flatten_cons, cntL_append, ih]
    rfl
theorem sumL_congr {α : Type} {f g : α → Nat} {l : List α} (h : ∀ x ∈ l, f x = g x) : sumL (l.map f) = sumL (l.map g) := by rw [List.map_congr_left h]
theorem cntL_flE (h : Ex → Hd) (hc : ∀ e, (h e).cnt = true) : ∀ (k : Nat) (e : Ex), cntL (flE h k e) = szE k e
  | 0, _ => rfl
  | k + 1, e => by
    rw [flE, cntL_cons, if_pos (hc e), cntL_flatten, sumL_congr (fun x _ => cntL_flE h hc k x)]
    rfl
theorem cntL_flEs (h : Ex → Hd) (hc : ∀ e, (h e).cnt = true) (k : Nat) (l : List Ex) : cntL (flEs h k l) = szEs k l := by
  unfold flEs
  rw [cntL_flatten, sumL_congr (fun x _ => cntL_flE h hc k x)]
  rfl
theorem cntL_flS (k : Nat) (s : St) : cntL (flS k s) = szS k s := by
  rw [flS, cntL_cons, if_pos (show (hdS s).cnt = true from rfl), cntL_flEs _ (fun _ => rfl)]
  rfl
theorem cntL_flB : ∀ (k : Nat) (b : Bd), cntL (flB k b) = szB k b
  | 0, b => rfl
  | k + 1, b => by
    have h2 : ∀ m : Am, cntL ((65 - k, hdA m) :: (flE hdT k m.pat ++ flEs hdE k m.guard ++ flB k m.body)) = szE k m.pat + szEs k m.guard + szB k m.body := fun m => by
      rw [cntL_cons, if_neg (show ¬ (hdA m).cnt = true from by rw [show (hdA m).cnt = false from rfl]; decide), cntL_append, cntL_append, cntL_flE _ (fun _ => rfl), cntL_flEs _ (fun _ => rfl), cntL_flB k]
      omega
    rw [flB, cntL_cons, if_pos (show (hdB b).cnt = true from rfl), cntL_append, cntL_append, cntL_append, cntL_flatten, cntL_flatten, cntL_flatten, cntL_flEs _ (fun _ => rfl), sumL_congr (fun s _ => cntL_flS k s), sumL_congr (fun m _ => h2 m), sumL_congr (fun x _ => cntL_flB k x)]
    show _ = 1 + szEs k b.args + sumL (b.stmts.map (szS k)) + sumL (b.parts.map (szB k)) + sumL (b.arms.map fun m => szE k m.pat + szEs k m.guard + szB k m.body)
    omega
theorem cntL_flD (d : Df) : cntL (flD d) = 1 + d.params.length + szB 65 d.body := by
  unfold flD
  rw [cntL_cons, if_pos (show (hdD d).cnt = true from rfl), cntL_append, cntL_flB]
  have h : cntL (d.params.map fun s => (0, hdM s)) = d.params.length := by
    generalize d.params = l
    induction l with
    | nil => rfl
    | cons x l ih => rw [List.map_cons, cntL_cons, if_pos (show (hdM x).cnt = true from rfl), ih, List.length_cons]; omega
  rw [h]
  omega
theorem cntL_flP (p : Pg) : cntL (flP p) = szP p := by
  unfold flP szP
  rw [cntL_cons, if_neg (show ¬ (hdP p).cnt = true from by rw [show (hdP p).cnt = false from rfl]; decide), cntL_append, cntL_flatten, sumL_congr (fun d _ => cntL_flD d), cntL_flEs _ (fun _ => rfl)]
  omega
theorem cntL_snoc (pre : List Pt) (x : Pt) : cntL (pre ++ [x]) = cntL pre + (if x.2.cnt = true then 1 else 0) := by rw [cntL_append, cntL_cons]; rfl
end Go.Proofs.YtojogolmcclpoaaDoor
end
section
namespace Go.Proofs.YtojogolmcclpoaaDoor
open Go.RowKit Go.Shelf
set_option linter.unusedVariables false
set_option linter.unusedSimpArgs false
variable {F : Fence} {n : Nat} {P : Program}
theorem put_same {W : World} {l : Nat} {o : Obj} (o' : Obj) (h : W.heap[l]? = some o) : (W.putObj l o').heap[l]? = some o' := World.putObj_heap_same (Array.getElem?_eq_some_iff.1 h).1
theorem range_open2 {F : Fence} {n : Nat} {P : Program} {g : Operand} {ps : Array Tmp} {assign body : Code} {Q : Exit → Act → World → Prop} {a : Act} {w : World} (hro : F.round = none) (h1 : 1 ≤ n) {gf : Nat} {lb : Array Value}
    (hg : a.eval g = .func (.func gf) #[] lb) (hFg : F.fn gf) (eg : ∀ args w, (callFunc gf args).run P w = .ok (.enter gf args) w)
    (h : ∀ (fn : FuncId) (mk : LoopState → Option Code → Loop) (W1 : World), F.fn fn → (mk = fun st pe => { state := st, pending := pe, fn, tmps := a.tmps, params := ps, assign, body, defers := w.heap.size }) →
      (w.alloc (.deferred (some []))).alloc (.loop (mk .ready none)) = W1 →
      CallsIn F (n - 1) P gf (#[.func (.yield (w.heap.size + 1)) #[] #[]] ++ lb) W1 (rangePost F n P (w.heap.size + 1) Q { a with defers := { target := .collected w.heap.size, args := #[] } :: a.defers })) :
    (Code.rangeFunc g ps assign body).wpIn F n P Q a w := by
  refine wpIn_rangeFunc ?_
  intro fn hfn
  rw [hro]
  obtain ⟨mk, hmk⟩ : ∃ mk : LoopState → Option Code → Loop, mk = fun st pe => { state := st, pending := pe, fn, tmps := a.tmps, params := ps, assign, body, defers := w.heap.size } := ⟨_, rfl⟩
  obtain ⟨W1, hW1⟩ : ∃ W1, (w.alloc (.deferred (some []))).alloc (.loop (mk .ready none)) = W1 := ⟨_, rfl⟩
  refine ⟨w.heap.size + 1, [{ target := .collected w.heap.size, args := #[] }], W1, { target := .fn (.func gf) lb, args := #[.func (.yield (w.heap.size + 1)) #[] #[]] }, W1, gf,
    #[.func (.yield (w.heap.size + 1)) #[] #[]] ++ lb, W1, ?_, ?_, ?_, ?_, fun _ => h1, ?_⟩
  · rw [← hW1, hmk]; exact run_enterLoop_outer _ _ _ _ _
  · simp only [resolve, hg]
    simp [go_sem]
  · intro f' hf'; simp [Target.leads] at hf'; subst hf'; exact hFg
  · simp [invoke, go_sem, eg]
  · exact h fn mk W1 hfn hmk hW1
/-- How the body of a round may be left. -/
def boxPost {α : Type} (Kp : World → World → Prop) (I : List α → World → Prop) (Ix : Code → List α → World → Prop) (xs : List α) (W : World) : Exit → Act → World → Prop
  | .normal, _, W' => KeepsOthers W W' ∧ Kp W W' ∧ I xs W'
  | .exit id, _, W' => KeepsOthers W W' ∧ Ix (.exit id) xs W'
  | .ret, _, W' => KeepsOthers W W' ∧ Ix .ret xs W'
  | _, _, _ => False
theorem range_box {α : Type} {g : Operand} {ps : Array Tmp} {assign body : Code} {Q : Exit → Act → World → Prop} {a : Act} {w : World}
    (hro : F.round = none) (h1 : 1 ≤ n) {gf : Nat} {lb : Array Value} (hg : a.eval g = .func (.func gf) #[] lb) (hFg : F.fn gf) (eg : ∀ args w, (callFunc gf args).run P w = .ok (.enter gf args) w)
    {encs : α → Array Value} {Kp : World → World → Prop} {S Sp : List α → Prop} {N : Nat} {w0 : World} (hseq : SeqStopsK F (n - 1) P gf lb encs Kp S Sp N w0)
    (hKt : ∀ {A B C : World}, Kp A B → Kp B C → Kp A C) (hKa : ∀ (W : World) (o : Obj), w.heap.size ≤ W.heap.size → Kp W (W.alloc o))
    (hKb : ∀ (W : World) (l : Nat) (o o' : Obj), w.heap.size ≤ l → W.heap[l]? = some o → o.isCells = false → Kp W (W.putObj l o')) (hb0 : Below w0.heap.size w0 w) (hps : ∀ x, (encs x).size = ps.size)
    (I : List α → World → Prop) (Ix : Code → List α → World → Prop) (hI : OwnFrom w.heap.size I) (hIx : ∀ c, OwnFrom w.heap.size (Ix c)) (h0 : I [] w) (a₁ : α → Nat → Act) (ob : α → Obj) (hob : ∀ x, (ob x).isCells = true)
    (hassign : ∀ (l : Nat) (x : α) (W : World) (K : Act → World → Prop), K (a₁ x W.heap.size) (W.alloc (ob x)) →
      assign.wpIn (F.inRound l) (n - 1 - 1) P (Exit.then K (fun _ _ _ => False)) { tmps := (ps.zip (encs x)).foldl (fun t (p, v) => t.setIfInBounds p v) a.tmps, defers := [] } W)
    (hbody : ∀ (l : Nat) (pre : List α) (x : α) (W : World) (B : Nat), w.heap.size ≤ B → W.heap[B]? = some (ob x) → I pre W → pre.length < N → body.wpIn (F.inRound l) (n - 1 - 1) P (boxPost Kp I Ix (pre ++ [x]) W) (a₁ x B) W)
    (hdone : ∀ (D : Nat) (xs : List α) (W : World), w.heap.size ≤ D → S xs → I xs W → W.heap[D]? = some (.deferred (some [])) → Q .normal { a with defers := { target := .collected D, args := #[] } :: a.defers } W)
    (hstop : ∀ (D : Nat) (c : Code) (pre : List α) (W : World), w.heap.size ≤ D → Sp pre → Ix c pre W → W.heap[D]? = some (.deferred (some [])) → c.wpIn F n P Q { a with defers := { target := .collected D, args := #[] } :: a.defers } W) :
    (Code.rangeFunc g ps assign body).wpIn F n P Q a w := by
  refine range_open2 hro h1 hg hFg eg ?_
  intro fn mk W1 hfn hmk hW1
  have z1 : (w.alloc (.deferred (some []))).heap.size = w.heap.size + 1 := by rw [World.size_alloc]
  have hL1 : W1.heap[w.heap.size + 1]? = some (.loop (mk .ready none)) := by
    have h := World.alloc_heap_new (w.alloc (.deferred (some []))) (.loop (mk .ready none))
    rw [z1, hW1] at h
    exact h
  have hK1 : W1.heap[w.heap.size]? = some (.deferred (some [])) := by
    rw [← hW1]; exact (Below.heap_alloc _ _ _ (by rw [z1]; omega)).trans (World.alloc_heap_new w _)
  have hI1 : I [] W1 := by rw [← hW1]; exact hI.alloc _ (hI.alloc _ h0)
  have hb1 : Below w0.heap.size w0 W1 := by
    rw [← hW1]
    exact (hb0.alloc hb0.size _).alloc (by rw [z1]; have := hb0.size; omega) _
  have hnw : ∀ {A B : World} {row : Option Nat}, (∀ r, row = some r → W1.heap.size ≤ r ∧ ∃ o : Obj, A.heap[r]? = some o ∧ o.isWalk = true) → (∀ r, row = some r → w.heap.size ≤ r ∧ ∃ o : Obj, A.heap[r]? = some o ∧ o.isCells = false) :=
    fun hr r e => by
      obtain ⟨hle, o, ho, hw⟩ := hr r e
      have : w.heap.size ≤ W1.heap.size := by rw [← hW1, World.size_alloc, z1]; omega
      exact ⟨by omega, o, ho, Obj.not_cells_of_walk hw⟩
  refine (hseq (w.heap.size + 1)
    (fun pre W => I pre W ∧ W.heap[w.heap.size + 1]? = some (.loop (mk .ready none)) ∧ W.heap[w.heap.size]? = some (.deferred (some [])))
    (fun pre W => ∃ c, Ix c pre W ∧ W.heap[w.heap.size + 1]? = some (.loop (mk .done (some c))) ∧ W.heap[w.heap.size]? = some (.deferred (some [])))
    W1 hb1 ?_ ?_ ?_ ⟨hI1, hL1, hK1⟩).mono ?_
  · exact fun s A B row hs hg' hr => ⟨hI s A B row hs.1 hg' (hnw (B := B) hr), (grownBy_keeps hg' (fun r e => (hr r e).2) hs.2.1 rfl).trans hs.2.1, (grownBy_keeps hg' (fun r e => (hr r e).2) hs.2.2 rfl).trans hs.2.2⟩
  · rintro s A B row ⟨c, hc, hl, hk⟩ hg' hr
    exact ⟨c, hIx c s A B row hc hg' (hnw (B := B) hr), (grownBy_keeps hg' (fun r e => (hr r e).2) hl rfl).trans hl, (grownBy_keeps hg' (fun r e => (hr r e).2) hk rfl).trans hk⟩
  · rintro pre x W ⟨hi, hl, hk⟩ hlen
    have hlt : w.heap.size + 1 < W.heap.size := (Array.getElem?_eq_some_iff.1 hl).1
    have hy := run_yield (P := P) (args := encs x) hl (by rw [hmk]; exact hps x)
    have hmk2 : ∀ st pe, mk st pe = { state := st, pending := pe, fn, tmps := a.tmps, params := ps, assign, body, defers := w.heap.size } := fun st pe => by rw [hmk]
    rw [hmk2] at hy
    refine ⟨fn, _, assign, body, hy, roundIn_of_wpIn hfn (hassign _ x W _ ?_)⟩
    have hla : (W.alloc (ob x)).heap[w.heap.size + 1]? = some (.loop (mk .ready none)) := (Below.heap_alloc _ _ _ hlt).trans hl
    have hka : (W.alloc (ob x)).heap[w.heap.size]? = some (.deferred (some [])) := (Below.heap_alloc _ _ _ (by omega)).trans hk
    have hba : (W.alloc (ob x)).heap[W.heap.size]? = some (ob x) := World.alloc_heap_new W _
    refine ⟨_, run_beginRound hla (by rw [hmk2]), ?_⟩
    obtain ⟨V, hV⟩ : ∃ V, (W.alloc (ob x)).putObj (w.heap.size + 1) (.loop { mk .ready none with state := .busy }) = V := ⟨_, rfl⟩
    have hVl : V.heap[w.heap.size + 1]? = some (.loop { mk .ready none with state := .busy }) := by rw [← hV]; exact put_same _ hla
    have hVk : V.heap[w.heap.size]? = some (.deferred (some [])) := by rw [← hV]; exact (World.putObj_heap_other (by omega)).trans hka
    have hVb : V.heap[W.heap.size]? = some (ob x) := by rw [← hV]; exact (World.putObj_heap_other (by omega)).trans hba
    have hIa := hI.alloc (ob x) hi
    have hIV : I pre V := by
      rw [← hV]
      exact hI pre _ _ (some (w.heap.size + 1)) hIa (grownBy_putObj' _ _ _) (fun r e => by cases e; exact ⟨by omega, _, hla, rfl⟩)
    have hKV : Kp W V := by
      rw [← hV]
      exact hKt (hKa W (ob x) (by omega)) (hKb _ _ _ _ (by omega) hla rfl)
    rw [hV]
    refine wpIn_mono (hbody _ pre x V W.heap.size (by omega) hVb hIV hlen) ?_
    have fin : ∀ (jump : Option Code) (W3 : World), KeepsOthers V W3 →
        (Instr.endRound (w.heap.size + 1) jump).run P W3 = .ok (.bool jump.isNone) (W3.putObj (w.heap.size + 1) (.loop (mk (if jump.isNone then .ready else .done) jump))) ∧
        W3.heap[w.heap.size + 1]? = some (.loop { mk .ready none with state := .busy }) ∧
        (W3.putObj (w.heap.size + 1) (.loop (mk (if jump.isNone then .ready else .done) jump))).heap[w.heap.size + 1]? = some (.loop (mk (if jump.isNone then .ready else .done) jump)) ∧
        (W3.putObj (w.heap.size + 1) (.loop (mk (if jump.isNone then .ready else .done) jump))).heap[w.heap.size]? = some (.deferred (some [])) := by
      intro jump W3 h3
      have hl3 := h3.same _ _ hVl rfl
      refine ⟨?_, hl3, put_same _ hl3, (World.putObj_heap_other (by omega)).trans (h3.same _ _ hVk rfl)⟩
      have h := run_endRound (P := P) jump hl3
      rw [hmk2] at h
      rw [hmk2]
      exact h
    have hput : ∀ {T : List α → World → Prop} (hT : OwnFrom w.heap.size T) (xs : List α) (W3 : World) (o' : Obj), T xs W3 → W3.heap[w.heap.size + 1]? = some (.loop { mk .ready none with state := .busy }) → T xs (W3.putObj (w.heap.size + 1) o') :=
      fun hT xs W3 o' h hl3 => hT xs _ _ (some (w.heap.size + 1)) h (grownBy_putObj' _ _ _) (fun r e => by cases e; exact ⟨by omega, _, hl3, rfl⟩)
    rintro e a3 W3 hp
    cases e with
    | normal =>
      obtain ⟨h3, hkp, hi3⟩ := hp
      obtain ⟨f1, f2, f3, f4⟩ := fin none W3 h3
      exact ⟨_, _, f1, .inl ⟨rfl, ⟨hput hI _ _ _ hi3 f2, f3, f4⟩, hKt hKV (hKt hkp (hKb _ _ _ _ (by omega) f2 rfl))⟩⟩
    | exit id =>
      obtain ⟨h3, hi3⟩ := hp
      obtain ⟨f1, f2, f3, f4⟩ := fin (some (.exit id)) W3 h3
      exact ⟨_, _, f1, .inr ⟨rfl, .exit id, hput (hIx _) _ _ _ hi3 f2, f3, f4⟩⟩
    | ret =>
      obtain ⟨h3, hi3⟩ := hp
      obtain ⟨f1, f2, f3, f4⟩ := fin (some .ret) W3 h3
      exact ⟨_, _, f1, .inr ⟨rfl, .ret, hput (hIx _) _ _ _ hi3 f2, f3, f4⟩⟩
    | goto t => exact hp.elim
    | panic c => exact hp.elim
    | outgrown => exact hp.elim
  · have hmk2 : ∀ st pe, mk st pe = { state := st, pending := pe, fn, tmps := a.tmps, params := ps, assign, body, defers := w.heap.size } := fun st pe => by rw [hmk]
    have hput : ∀ {T : List α → World → Prop} (hT : OwnFrom w.heap.size T) (xs : List α) (W3 : World) (o' : Obj) (r : Loop), T xs W3 → W3.heap[w.heap.size + 1]? = some (.loop r) → T xs (W3.putObj (w.heap.size + 1) o') :=
      fun hT xs W3 o' r h hl3 => hT xs _ _ (some (w.heap.size + 1)) h (grownBy_putObj' _ _ _) (fun r e => by cases e; exact ⟨by omega, _, hl3, rfl⟩)
    rintro e W2 ⟨⟨v, rfl⟩, ⟨xs, hS, hi, hl, hk⟩ | ⟨pre, hSp, c, hi, hl, hk⟩⟩
    · have h := run_endLoop (P := P) hl (by rw [hmk2]; simp)
      rw [show (mk .ready none).pending = none by rw [hmk2]] at h
      exact ⟨none, _, h, hdone _ xs _ (Nat.le_refl _) hS (hput hI _ _ _ _ hi hl) ((World.putObj_heap_other (by omega)).trans hk)⟩
    · have h := run_endLoop (P := P) hl (by rw [hmk2]; simp)
      rw [show (mk .done (some c)).pending = some c by rw [hmk2]] at h
      exact ⟨some c, _, h, hstop _ c pre _ (Nat.le_refl _) hSp (hput (hIx c) _ _ _ _ hi hl) ((World.putObj_heap_other (by omega)).trans hk)⟩
end Go.Proofs.YtojogolmcclpoaaDoor
end
