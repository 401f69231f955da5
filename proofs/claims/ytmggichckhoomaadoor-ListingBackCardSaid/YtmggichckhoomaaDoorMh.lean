/-
  Proved here: how a range over a closure is opened by the base law, and what listing.lines hands out. Conditions: none. ¦ what holds between two rounds of the range in listing.Read (facts on its boxes). Conditions: none. ¦ the three named results of listing.Read, read from their boxes; its return. Conditions: none. ¦ what a text's first line gives; the world behind listing.Read's return with an error. Conditions: none.
-/
import Derived.RangeFuncNested
import Derived.RangeFuncBound
import Derived.RangeFuncCalls
import Derived.RangeFuncLeaves
import Derived.Shelf.Abstract
import Derived.Shelf.RegionOpen
import Derived.WalkKit
import Derived.OwnWalkIn
import Derived.TacticsInMore
import Derived.LoopNIn
import Derived.LoopIn
import Derived.Test.YtmggichckhoomaaDoorMb
import Derived.Test.YtmggichckhoomaaDoorLr
import Derived.Test.YtmggichckhoomaaDoorMc
import Derived.RangeFuncBox
namespace Go.Proofs.YtmggichckhoomaaDoor
open Go.ChangeShapes Go.WideShapes Go.ChangeAt Go.RowKit Go.Shelf
set_option linter.unusedVariables false
set_option linter.unusedSimpArgs false
attribute [local go_sem] Oper.semAt_some
theorem range_open {F : Fence} {n : Nat} {P : Program} {g : Operand} {ps : Array Tmp} {assign body : Code} {Q : Exit → Act → World → Prop} {a : Act} {w : World} (hro : F.round = none) (h1 : 1 ≤ n) {gf : Nat} {lb : Array Value}
    (hg : a.eval g = .func (.func gf) #[] lb) (hFg : F.fn gf) (eg : ∀ args w, (callFunc gf args).run P w = .ok (.enter gf args) w)
    (h : ∀ (fn : FuncId) (mk : LoopState → Option Code → Loop) (W1 : World), F.fn fn → (mk = fun st pe => { state := st, pending := pe, fn, tmps := a.tmps, params := ps, assign, body, defers := w.heap.size }) →
      (w.alloc (.deferred (some []))).alloc (.loop (mk .ready none)) = W1 →
      CallsIn F (n - 1) P gf (#[.func (.yield (w.heap.size + 1)) #[] #[]] ++ lb) W1 (rangePost F n P (w.heap.size + 1) Q { a with defers := { target := .collected w.heap.size, args := #[] } :: a.defers })) :
    (Code.rangeFunc g ps assign body).wpIn F n P Q a w := by
  refine wpIn_rangeFunc ?_
  intro fn hfn
  rw [hro]
  obtain ⟨mk, hmk⟩ : ∃ mk : LoopState → Option Code → Loop, mk = fun st pe => { state := st, pending := pe, fn, tmps := a.tmps, params := ps, assign, body, defers := w.heap.size } := ⟨_, rfl⟩
  obtain ⟨W1, hW1⟩ : ∃ W1, (w.alloc (.deferred (some []))).alloc (.loop (mk .ready none)) = W1 := ⟨_, rfl⟩
  refine ⟨w.heap.size + 1, [{ target := .collected w.heap.size, args := #[] }], W1, { target := .fn (.func gf) lb, args := #[.func (.yield (w.heap.size + 1)) #[] #[]] }, W1, gf,
    #[.func (.yield (w.heap.size + 1)) #[] #[]] ++ lb, W1, ?_, ?_, ?_, ?_, fun _ => h1, ?_⟩
  · rw [← hW1, hmk]; exact run_enterLoop_outer _ _ _ _ _
  · simp only [resolve, hg]
    simp [go_sem]
  · intro f' hf'; simp [Target.leads] at hf'; subst hf'; exact hFg
  · simp [invoke, go_sem, eg]
  · exact h fn mk W1 hfn hmk hW1
set_option maxRecDepth 100000 in
theorem linesf_any (l : Bs) (w : World) : Calls Tryd.prog 14 #[.string ⟨l.toArray⟩] w fun e w' => e = .returned (.func (.func 31) #[] #[.pointer (some ⟨w.heap.size, 0, none⟩)]) ∧ w' = w.alloc (Obj.cells #[.string ⟨l.toArray⟩] 9) := by
  go_enter Tryd.func14, Tryd.ntmps14
  go_wp2_with fail
  go_ret
  exact ⟨rfl, rfl⟩
end Go.Proofs.YtmggichckhoomaaDoor
namespace Go.Proofs.YtmggichckhoomaaDoor
open Go.ChangeShapes Go.WideShapes Go.ChangeAt Go.RowKit Go.Shelf
set_option linter.unusedVariables false
set_option linter.unusedSimpArgs false
attribute [local go_sem] Oper.semAt_some
theorem six (w : World) (a0 a1 a2 a3 a4 a5 : Obj) {W : World} (h : (((((w.alloc a0).alloc a1).alloc a2).alloc a3).alloc a4).alloc a5 = W) :
    W.heap[w.heap.size]? = some a0 ∧ W.heap[w.heap.size + 1]? = some a1 ∧ W.heap[w.heap.size + 1 + 1]? = some a2 ∧ W.heap[w.heap.size + 1 + 1 + 1]? = some a3 ∧ W.heap[w.heap.size + 1 + 1 + 1 + 1]? = some a4 ∧ W.heap[w.heap.size + 1 + 1 + 1 + 1 + 1]? = some a5
      ∧ W.heap.size = w.heap.size + 1 + 1 + 1 + 1 + 1 + 1 ∧ Nb w W := by
  subst h
  have z : ∀ (x : World) (o : Obj), (x.alloc o).heap.size = x.heap.size + 1 := fun x o => Array.size_push _
  have n : ∀ (x : World) (o : Obj), Nb x (x.alloc o) := fun x o => (Nb.refl _).alloc _
  have b0 := blk_made w a0 rfl rfl
  have b1 := blk_made (w.alloc a0) a1 rfl (z _ _)
  have b2 := blk_made ((w.alloc a0).alloc a1) a2 rfl (by rw [z, z])
  have b3 := blk_made (((w.alloc a0).alloc a1).alloc a2) a3 rfl (by rw [z, z, z])
  have b4 := blk_made ((((w.alloc a0).alloc a1).alloc a2).alloc a3) a4 rfl (by rw [z, z, z, z])
  have b5 := blk_made (((((w.alloc a0).alloc a1).alloc a2).alloc a3).alloc a4) a5 rfl (by rw [z, z, z, z, z])
  exact ⟨(n _ _).block ((n _ _).block ((n _ _).block ((n _ _).block ((n _ _).block b0)))), (n _ _).block ((n _ _).block ((n _ _).block ((n _ _).block b1))), (n _ _).block ((n _ _).block ((n _ _).block b2)), (n _ _).block ((n _ _).block b3), (n _ _).block b4, b5,
    by rw [z, z, z, z, z, z], (((((n _ _).trans (n _ _)).trans (n _ _)).trans (n _ _)).trans (n _ _)).trans (n _ _)⟩
/-- What holds between two rounds. -/
def RJ (mk : LoopState → Option Code → Loop) (w : World) (B : Nat) (rest : Bs) (n : Nat) (acc : List I7) (v : Value) (wr : World) : Prop :=
  wr.heap[B]? = some (.cells #[.slice none 0 0] 22 (0, 0)) ∧ wr.heap[B + 1]? = some (.cells #[.int .i64 0] 3 (0, 0)) ∧ wr.heap[B + 1 + 1]? = some (.cells #[.int .i64 0] 24 (0, 0)) ∧ wr.heap[B + 1 + 1 + 1]? = some (.cells #[v] 22 (0, 0))
  ∧ wr.heap[B + 1 + 1 + 1 + 1]? = some (.cells #[.int .i64 n] 3 (0, 0)) ∧ wr.heap[B + 1 + 1 + 1 + 1 + 1]? = some (.cells #[.string ⟨rest.toArray⟩] 9 (0, 0)) ∧ wr.heap[B + 1 + 1 + 1 + 1 + 1 + 1]? = some (.deferred (some [])) ∧ wr.heap[B + 1 + 1 + 1 + 1 + 1 + 1 + 1]? = some (.loop (mk .ready none))
  ∧ wr.ownsRow B 33 7 v acc.length (acc.flatMap insC) ∧ Nb w wr
theorem RJ.nb {mk : LoopState → Option Code → Loop} {w : World} {B : Nat} {rest : Bs} {n : Nat} {acc : List I7} {v : Value} {a b : World} (h : RJ mk w B rest n acc v a) (hn : Nb a b) : RJ mk w B rest n acc v b := by
  obtain ⟨h0, h1, h2, h3, h4, h5, h6, h7, h8, h9⟩ := h
  exact ⟨hn.block h0, hn.block h1, hn.block h2, hn.block h3, hn.block h4, hn.block h5, hn.block h6, hn.block h7, own_nb23 h8 hn, h9.trans hn⟩
def boxLen (w : World) (b : Nat) : Nat := match w.cell? ⟨b, 0, none⟩ with
  | some (.string s) => s.size
  | _ => 0
end Go.Proofs.YtmggichckhoomaaDoor
namespace Go.Proofs.YtmggichckhoomaaDoor
open Go.ChangeShapes Go.WideShapes Go.ChangeAt Go.RowKit Go.Shelf
theorem load_one {t : TypeId} (hA : ∀ w, (isAgg t).run Tryd.prog w = .ok false w) {w : World} {b : Nat} {v : Value} (hc : w.cell? ⟨b, 0, none⟩ = some v) : (loadVar t ⟨b, 0, none⟩).run Tryd.prog w = .ok v w := by
  simp [loadVar, Sem.run_bind, hA, hc]
theorem res_read : Tryd.f6.results = #[.cell 2 22, .cell 3 3, .cell 4 24] := rfl
theorem res3 {fn : Func} {p q r : Tmp} {ta tb tc : TypeId} {P : Program} (h : fn.results = #[.cell p ta, .cell q tb, .cell r tc]) (tmps : Array Value) (w : World) (a b c : Nat) (va vb vc : Value)
    (hp : tmps.getD p undef = .pointer (some ⟨a, 0, none⟩)) (hq : tmps.getD q undef = .pointer (some ⟨b, 0, none⟩)) (hr : tmps.getD r undef = .pointer (some ⟨c, 0, none⟩))
    (la : (loadVar ta ⟨a, 0, none⟩).run P w = .ok va w) (lb : (loadVar tb ⟨b, 0, none⟩).run P w = .ok vb w) (lc : (loadVar tc ⟨c, 0, none⟩).run P w = .ok vc w) :
    (results fn tmps).run P w = .ok (.tuple #[va, vb, vc]) w := by
  have e : ∀ g, (asAddr (.pointer (some ⟨g, 0, none⟩))).run P w = .ok ⟨g, 0, none⟩ w := fun g => rfl
  simp only [results, h]
  simp only [Array.getD_eq_getD_getElem?] at hp hq hr
  simp [Sem.run_bind, Result.andThen, hp, hq, hr, e, la, lb, lc]
theorem leaves_read (tmps : Array Value) (R : Ending → World → Prop) (w : World) (a b c : Nat) (va vb vc : Value) (hp : tmps.getD 2 undef = .pointer (some ⟨a, 0, none⟩)) (hq : tmps.getD 3 undef = .pointer (some ⟨b, 0, none⟩)) (hr : tmps.getD 4 undef = .pointer (some ⟨c, 0, none⟩))
    (ca : w.cell? ⟨a, 0, none⟩ = some va) (cb : w.cell? ⟨b, 0, none⟩ = some vb) (cc : w.cell? ⟨c, 0, none⟩ = some vc) (hR : R (.returned (.tuple #[va, vb, vc])) w) :
    LeavesInM Fence.wide 6 Tryd.prog Tryd.f6 tmps R [] .returning w :=
  ⟨_, res3 res_read tmps w a b c va vb vc hp hq hr (load_one (fun w => run_isAgg_plain Tryd.underlying22 rfl w) ca) (load_one (fun w => run_isAgg_plain Tryd.underlying3 rfl w) cb) (load_one (fun w => run_isAgg_plain Tryd.underlying24 rfl w) cc), hR⟩
/-- Behind the three stores and the turn of the deferred block. -/
theorem stored3 {W : World} {B : Nat} {x0 x1 x2 : Value} (v0 v1 v2 : Value) (g0 : W.heap[B]? = some (.cells #[x0] 22 (0, 0))) (g1 : W.heap[B + 1]? = some (.cells #[x1] 3 (0, 0))) (g2 : W.heap[B + 1 + 1]? = some (.cells #[x2] 24 (0, 0)))
    (g6 : W.heap[B + 1 + 1 + 1 + 1 + 1 + 1]? = some (.deferred (some []))) :
    ∃ W5, (Instr.takeDeferred (B + 1 + 1 + 1 + 1 + 1 + 1)).run Tryd.prog (((W.setCell ⟨B, 0, none⟩ v0).setCell ⟨B + 1, 0, none⟩ v1).setCell ⟨B + 1 + 1, 0, none⟩ v2) = .ok [] W5
      ∧ W5.cell? ⟨B, 0, none⟩ = some v0 ∧ W5.cell? ⟨B + 1, 0, none⟩ = some v1 ∧ W5.cell? ⟨B + 1 + 1, 0, none⟩ = some v2 ∧ Below B W W5
      ∧ ∀ (v : Value) (k : Nat) (xs : List Value), W.ownsRow B 33 7 v k xs → W5.ownsRow B 33 7 v k xs := by
  have ne : ∀ (X : World) (a k : Nat) (x : Value), k ≠ a → (X.setCell ⟨a, 0, none⟩ x).heap[k]? = X.heap[k]? := fun X a k x h => Below.heap_setCell _ _ _ _ h
  have b0 : Boxed W B 22 x0 := g0
  have b1 : Boxed W (B + 1) 3 x1 := g1
  have b2 : Boxed W (B + 1 + 1) 24 x2 := g2
  obtain ⟨W1, h1⟩ : ∃ W1, W.setCell ⟨B, 0, none⟩ v0 = W1 := ⟨_, rfl⟩
  obtain ⟨W2, h2⟩ : ∃ W2, W1.setCell ⟨B + 1, 0, none⟩ v1 = W2 := ⟨_, rfl⟩
  obtain ⟨W3, h3⟩ : ∃ W3, W2.setCell ⟨B + 1 + 1, 0, none⟩ v2 = W3 := ⟨_, rfl⟩
  have k0 : Boxed W1 B 22 v0 := h1 ▸ b0.set v0
  have k1 : Boxed W1 (B + 1) 3 x1 := by rw [← h1]; exact (ne _ _ _ _ (by omega)).trans b1
  have k2 : Boxed W1 (B + 1 + 1) 24 x2 := by rw [← h1]; exact (ne _ _ _ _ (by omega)).trans b2
  have k6 : W1.heap[B + 1 + 1 + 1 + 1 + 1 + 1]? = some (.deferred (some [])) := by rw [← h1]; exact (ne _ _ _ _ (by omega)).trans g6
  have m0 : Boxed W2 B 22 v0 := by rw [← h2]; exact (ne _ _ _ _ (by omega)).trans k0
  have m1 : Boxed W2 (B + 1) 3 v1 := h2 ▸ k1.set v1
  have m2 : Boxed W2 (B + 1 + 1) 24 x2 := by rw [← h2]; exact (ne _ _ _ _ (by omega)).trans k2
  have m6 : W2.heap[B + 1 + 1 + 1 + 1 + 1 + 1]? = some (.deferred (some [])) := by rw [← h2]; exact (ne _ _ _ _ (by omega)).trans k6
  have q0 : Boxed W3 B 22 v0 := by rw [← h3]; exact (ne _ _ _ _ (by omega)).trans m0
  have q1 : Boxed W3 (B + 1) 3 v1 := by rw [← h3]; exact (ne _ _ _ _ (by omega)).trans m1
  have q2 : Boxed W3 (B + 1 + 1) 24 v2 := h3 ▸ m2.set v2
  have q6 : W3.heap[B + 1 + 1 + 1 + 1 + 1 + 1]? = some (.deferred (some [])) := by rw [← h3]; exact (ne _ _ _ _ (by omega)).trans m6
  have z1 : Below B W W1 := by rw [← h1]; exact (Below.refl _ _).trans ⟨rfl, rfl, rfl, (KeepsWalks.setCell W _ v0).size, fun k hk => ne _ _ _ _ (by omega)⟩
  have z2 : Below B W1 W2 := by rw [← h2]; exact ⟨rfl, rfl, rfl, (KeepsWalks.setCell W1 _ v1).size, fun k hk => ne _ _ _ _ (by omega)⟩
  have z3 : Below B W2 W3 := by rw [← h3]; exact ⟨rfl, rfl, rfl, (KeepsWalks.setCell W2 _ v2).size, fun k hk => ne _ _ _ _ (by omega)⟩
  have hT := run_takeDeferred (P := Tryd.prog) q6
  have o : ∀ k, k ≠ B + 1 + 1 + 1 + 1 + 1 + 1 → (W3.putObj (B + 1 + 1 + 1 + 1 + 1 + 1) (.deferred none)).heap[k]? = W3.heap[k]? := fun k hk => World.putObj_heap_other hk
  refine ⟨_, by rw [h1, h2, h3]; exact hT, cell1 ((o _ (by omega)).trans q0), cell1 ((o _ (by omega)).trans q1), cell1 ((o _ (by omega)).trans q2), ?_, ?_⟩
  · exact (z1.trans (z2.trans z3)).trans ⟨rfl, rfl, rfl, by rw [World.putObj_size]; exact Nat.le_refl _, fun k hk => o k (by omega)⟩
  · intro v k xs hr
    have r1 : W1.ownsRow B 33 7 v k xs := by rw [← h1]; exact hr.kept (grownBy_setCell' W B v0) (.inr (b0.not_row (by decide) hr).symm)
    have r2 : W2.ownsRow B 33 7 v k xs := by rw [← h2]; exact r1.kept (grownBy_setCell' W1 (B + 1) v1) (.inr (k1.not_row (by decide) r1).symm)
    have r3 : W3.ownsRow B 33 7 v k xs := by rw [← h3]; exact r2.kept (grownBy_setCell' W2 (B + 1 + 1) v2) (.inr (m2.not_row (by decide) r2).symm)
    exact ownsRow_putObj r3 _ q6 rfl
end Go.Proofs.YtmggichckhoomaaDoor
namespace Go.Proofs.YtmggichckhoomaaDoor
open Go.ChangeShapes Go.WideShapes Go.ChangeAt Go.RowKit Go.Shelf
set_option linter.unusedVariables false
set_option linter.unusedSimpArgs false
theorem rd_cut (rest : Bs) (n : Nat) (acc : List I7) (hne : rest ≠ []) {a b : Bs} {t : Bool} (ha : (Lib.cut rest [10]).1 = a) (hb : (Lib.cut rest [10]).2.1 = b) (ht : (Lib.cut rest [10]).2.2 = t) :
    (t = false → rdS rest n acc = (none, n + 1)) ∧ (t = true → b.length + 1 ≤ rest.length ∧ rdS rest n acc = match PI a with | none => (none, n + 1) | some i => rdS b (n + 1) (acc ++ [i])) := by
  by_cases h : (10 : UInt8) ∈ rest
  · obtain ⟨x, y, rfl, hx⟩ := List.eq_append_cons_of_mem h
    rw [cut_at x y 10 hx] at ha hb ht
    subst ha; subst hb; subst ht
    exact ⟨(fun e => by cases e), fun _ => ⟨by simp, rd_at x y n acc hx⟩⟩
  · rw [cut_no rest 10 h] at ha hb ht
    subst ha; subst hb; subst ht
    exact ⟨fun _ => by rw [rd_end rest n acc h, if_neg hne], (fun e => by cases e)⟩
/-- With an error the first wrong line is this one: it is no instruction's, or no line feed ends it. -/
theorem rd_wrong (l rest : Bs) (n : Nat) (acc : List I7) (hne : rest ≠ []) {a b : Bs} {t : Bool} (ha : (Lib.cut rest [10]).1 = a) (hb : (Lib.cut rest [10]).2.1 = b) (ht : (Lib.cut rest [10]).2.2 = t) (hS : rdS rest n acc = rdS l 0 [])
    (h : t = false ∨ PI a = none) : rdS l 0 [] = (none, n + 1) := by
  obtain ⟨h0, h1⟩ := rd_cut rest n acc hne ha hb ht
  rw [← hS]
  cases t with
  | false => exact h0 rfl
  | true =>
    rcases h with h | h
    · cases h
    · rw [(h1 rfl).2, h]
theorem rd_right (l rest : Bs) (n : Nat) (acc : List I7) (hne : rest ≠ []) {a b : Bs} {i : I7} (ha : (Lib.cut rest [10]).1 = a) (hb : (Lib.cut rest [10]).2.1 = b) (ht : (Lib.cut rest [10]).2.2 = true) (hS : rdS rest n acc = rdS l 0 [])
    (h : PI a = some i) : b.length + 1 ≤ rest.length ∧ rdS b (n + 1) (acc ++ [i]) = rdS l 0 [] := by
  obtain ⟨h0, h1⟩ := rd_cut rest n acc hne ha hb ht
  refine ⟨(h1 rfl).1, ?_⟩
  rw [← hS, (h1 rfl).2, h]
theorem put_below {B : Nat} {W : World} (l : Nat) (o : Obj) (h : B ≤ l) : Below B W (W.putObj l o) := ⟨rfl, rfl, rfl, by rw [World.putObj_size]; exact Nat.le_refl _, fun k hk => World.putObj_heap_other (by omega)⟩
/-- Behind the three stores of a return with an error, and the end of the loop's record. -/
theorem err3 {W : World} {B : Nat} {x0 x1 x2 : Value} {lp : Loop} (v0 v1 v2 : Value) (g0 : W.heap[B]? = some (.cells #[x0] 22 (0, 0))) (g1 : W.heap[B + 1]? = some (.cells #[x1] 3 (0, 0))) (g2 : W.heap[B + 1 + 1]? = some (.cells #[x2] 24 (0, 0)))
    (g6 : W.heap[B + 1 + 1 + 1 + 1 + 1 + 1]? = some (.deferred (some []))) (g7 : W.heap[B + 1 + 1 + 1 + 1 + 1 + 1 + 1]? = some (.loop lp)) (W6 : World)
    (h6 : (((W.setCell ⟨B, 0, none⟩ v0).setCell ⟨B + 1, 0, none⟩ v1).setCell ⟨B + 1 + 1, 0, none⟩ v2).drew = W6) :
    W6.heap[B + 1 + 1 + 1 + 1 + 1 + 1 + 1]? = some (.loop lp) ∧ ∀ (Y Z : Obj) (W7 W8 : World), W6.putObj (B + 1 + 1 + 1 + 1 + 1 + 1 + 1) Y = W7 → W7.putObj (B + 1 + 1 + 1 + 1 + 1 + 1 + 1) Z = W8 →
      ∃ W9, (Instr.takeDeferred (B + 1 + 1 + 1 + 1 + 1 + 1)).run Tryd.prog W8 = .ok [] W9 ∧ W9.cell? ⟨B, 0, none⟩ = some v0 ∧ W9.cell? ⟨B + 1, 0, none⟩ = some v1 ∧ W9.cell? ⟨B + 1 + 1, 0, none⟩ = some v2 ∧ Below B W W9 := by
  have ne : ∀ (X : World) (a k : Nat) (x : Value), k ≠ a → (X.setCell ⟨a, 0, none⟩ x).heap[k]? = X.heap[k]? := fun X a k x h => Below.heap_setCell _ _ _ _ h
  have b0 : Boxed W B 22 x0 := g0
  have b1 : Boxed W (B + 1) 3 x1 := g1
  have b2 : Boxed W (B + 1 + 1) 24 x2 := g2
  obtain ⟨W1, h1⟩ : ∃ W1, W.setCell ⟨B, 0, none⟩ v0 = W1 := ⟨_, rfl⟩
  obtain ⟨W2, h2⟩ : ∃ W2, W1.setCell ⟨B + 1, 0, none⟩ v1 = W2 := ⟨_, rfl⟩
  obtain ⟨W3, h3⟩ : ∃ W3, W2.setCell ⟨B + 1 + 1, 0, none⟩ v2 = W3 := ⟨_, rfl⟩
  rw [h1, h2, h3] at h6
  have q0 : Boxed W3 B 22 v0 := by
    rw [← h3, ← h2]; exact (ne _ _ _ _ (by omega)).trans ((ne _ _ _ _ (by omega)).trans (h1 ▸ b0.set v0))
  have q1 : Boxed W3 (B + 1) 3 v1 := by
    have e1 : Boxed W1 (B + 1) 3 x1 := by rw [← h1]; exact (ne _ _ _ _ (by omega)).trans b1
    rw [← h3]; exact (ne _ _ _ _ (by omega)).trans (h2 ▸ e1.set v1)
  have q2 : Boxed W3 (B + 1 + 1) 24 v2 := by
    have e2 : Boxed W2 (B + 1 + 1) 24 x2 := by rw [← h2, ← h1]; exact (ne _ _ _ _ (by omega)).trans ((ne _ _ _ _ (by omega)).trans b2)
    exact h3 ▸ e2.set v2
  have q6 : W3.heap[B + 1 + 1 + 1 + 1 + 1 + 1]? = some (.deferred (some [])) := by rw [← h3, ← h2, ← h1]; exact (ne _ _ _ _ (by omega)).trans ((ne _ _ _ _ (by omega)).trans ((ne _ _ _ _ (by omega)).trans g6))
  have q7 : W3.heap[B + 1 + 1 + 1 + 1 + 1 + 1 + 1]? = some (.loop lp) := by rw [← h3, ← h2, ← h1]; exact (ne _ _ _ _ (by omega)).trans ((ne _ _ _ _ (by omega)).trans ((ne _ _ _ _ (by omega)).trans g7))
  have z3 : Below B W W3 := by rw [← h3, ← h2, ← h1]; exact (((Below.refl B W).setCell (p := ⟨B, 0, none⟩) (Nat.le_refl _) v0).setCell (p := ⟨B + 1, 0, none⟩) (Nat.le_succ _) v1).setCell (p := ⟨B + 1 + 1, 0, none⟩) (by show B ≤ B + 1 + 1; omega) v2
  have z6 : Below B W W6 := by rw [← h6]; exact z3.drew
  have e6 : W6.heap = W3.heap := by rw [← h6]; rfl
  refine ⟨by rw [e6]; exact q7, fun Y Z W7 W8 h7 h8 => ?_⟩
  have o7 : ∀ k, k ≠ B + 1 + 1 + 1 + 1 + 1 + 1 + 1 → W8.heap[k]? = W3.heap[k]? := fun k hk => by rw [← h8, World.putObj_heap_other hk, ← h7, World.putObj_heap_other hk, e6]
  have z8 : Below B W W8 := by rw [← h8, ← h7]; exact (z6.trans (put_below _ Y (by omega))).trans (put_below _ Z (by omega))
  have hT := run_takeDeferred (P := Tryd.prog) ((o7 _ (by omega)).trans q6)
  have o9 : ∀ k, k ≠ B + 1 + 1 + 1 + 1 + 1 + 1 → (W8.putObj (B + 1 + 1 + 1 + 1 + 1 + 1) (.deferred none)).heap[k]? = W8.heap[k]? := fun k hk => World.putObj_heap_other hk
  exact ⟨_, hT, cell1 ((o9 _ (by omega)).trans ((o7 _ (by omega)).trans q0)), cell1 ((o9 _ (by omega)).trans ((o7 _ (by omega)).trans q1)), cell1 ((o9 _ (by omega)).trans ((o7 _ (by omega)).trans q2)), z8.trans (put_below _ _ (by omega))⟩
/-- What holds within a round: RJ, the record being lp. -/
def RK (lp : Loop) (w : World) (B : Nat) (rest : Bs) (n : Nat) (acc : List I7) (v : Value) (wr : World) : Prop :=
  Boxed wr B 22 (.slice none 0 0) ∧ Boxed wr (B + 1) 3 (.int .i64 0) ∧ Boxed wr (B + 1 + 1) 24 (.int .i64 0) ∧ Boxed wr (B + 1 + 1 + 1) 22 v
  ∧ Boxed wr (B + 1 + 1 + 1 + 1) 3 (.int .i64 n) ∧ Boxed wr (B + 1 + 1 + 1 + 1 + 1) 9 (.string ⟨rest.toArray⟩) ∧ wr.heap[B + 1 + 1 + 1 + 1 + 1 + 1]? = some (.deferred (some [])) ∧ wr.heap[B + 1 + 1 + 1 + 1 + 1 + 1 + 1]? = some (.loop lp)
  ∧ wr.ownsRow B 33 7 v acc.length (acc.flatMap insC) ∧ Nb w wr
theorem rk_app {lp : Loop} {w : World} {rest : Bs} {n : Nat} {acc : List I7} {v v' : Value} {i : I7} {W w6 : World} {tmp : Obj} (h : RK lp w w.heap.size rest n acc v W)
    (hown' : w6.ownsRow w.heap.size 33 7 v' (acc.length + 1) (acc.flatMap insC ++ insC i)) (hgrow : (W.alloc tmp).grownBy w6 v.ownBlock) :
    Boxed w6 (w.heap.size + 1 + 1 + 1) 22 v ∧ (∃ g cp, v' = .slice (some ⟨g, 0, none⟩) (acc.length + 1) cp) ∧ RK lp w w.heap.size rest n (acc ++ [i]) v' (w6.setCell ⟨w.heap.size + 1 + 1 + 1, 0, none⟩ v') := by
  obtain ⟨h0, h1, h2, h3, h4, h5, h6, h7, h8, h9⟩ := h
  have hz : w.heap.size ≤ W.heap.size := h9.size
  obtain ⟨q1, q2, q3, q4, q5⟩ := Boxed.appended h3 (by decide) h8 hz (by omega) hown' hgrow
  have key : ∀ (b : Nat) (t : TypeId) (u : Value), Boxed W b t u → t ≠ 33 → b ≠ w.heap.size + 1 + 1 + 1 → Boxed (w6.setCell ⟨w.heap.size + 1 + 1 + 1, 0, none⟩ v') b t u := fun b t u hb ht hne =>
    (Below.heap_setCell _ _ _ _ hne).trans ((hb.alloc tmp).kept hgrow (hb.not_row ht h8))
  have q6 := q4.same _ _ h6 rfl
  have q7 := q4.same _ _ h7 rfl
  refine ⟨q1, ownsRow_succ hown', key _ _ _ h0 (by decide) (by omega), key _ _ _ h1 (by decide) (by omega), key _ _ _ h2 (by decide) (by omega), q2, key _ _ _ h4 (by decide) (by omega), key _ _ _ h5 (by decide) (by omega), q6, q7, ?_, Below.trans h9 q5⟩
  rw [List.length_append, List.flatMap_append]
  simpa using q3
theorem rk_end {mk : LoopState → Option Code → Loop} {lp : Loop} {w : World} {rest b : Bs} {n : Nat} {acc : List I7} {v : Value} {W : World} (h : RK lp w w.heap.size rest n acc v W) :
    RJ mk w w.heap.size b n acc v ((W.putObj (w.heap.size + 1 + 1 + 1 + 1 + 1 + 1 + 1) (.loop (mk .ready none))).setCell ⟨w.heap.size + 1 + 1 + 1 + 1 + 1, 0, none⟩ (.string ⟨b.toArray⟩)) := by
  obtain ⟨h0, h1, h2, h3, h4, h5, h6, h7, h8, h9⟩ := h
  obtain ⟨W8, hW8⟩ : ∃ W8, W.putObj (w.heap.size + 1 + 1 + 1 + 1 + 1 + 1 + 1) (.loop (mk .ready none)) = W8 := ⟨_, rfl⟩
  have o8 : ∀ k, k ≠ w.heap.size + 1 + 1 + 1 + 1 + 1 + 1 + 1 → W8.heap[k]? = W.heap[k]? := fun k hk => by rw [← hW8]; exact World.putObj_heap_other hk
  have k7 : W8.heap[w.heap.size + 1 + 1 + 1 + 1 + 1 + 1 + 1]? = some (.loop (mk .ready none)) := by rw [← hW8]; exact World.putObj_heap_same ((Array.getElem?_eq_some_iff.1 h7).1)
  have k8 : W8.ownsRow w.heap.size 33 7 v acc.length (acc.flatMap insC) := by rw [← hW8]; exact ownsRow_putObj h8 _ h7 rfl
  have k5 : Boxed W8 (w.heap.size + 1 + 1 + 1 + 1 + 1) 9 (.string ⟨rest.toArray⟩) := (o8 _ (by omega)).trans h5
  have k9 : Nb w W8 := Below.trans h9 (by rw [← hW8]; exact put_below _ _ (by omega))
  rw [hW8]
  have o9 : ∀ k, k ≠ w.heap.size + 1 + 1 + 1 + 1 + 1 → (W8.setCell ⟨w.heap.size + 1 + 1 + 1 + 1 + 1, 0, none⟩ (.string ⟨b.toArray⟩)).heap[k]? = W8.heap[k]? := fun k hk => Below.heap_setCell _ _ _ _ hk
  refine ⟨(o9 _ (by omega)).trans ((o8 _ (by omega)).trans h0), (o9 _ (by omega)).trans ((o8 _ (by omega)).trans h1), (o9 _ (by omega)).trans ((o8 _ (by omega)).trans h2), (o9 _ (by omega)).trans ((o8 _ (by omega)).trans h3), (o9 _ (by omega)).trans ((o8 _ (by omega)).trans h4),
    k5.set _, (o9 _ (by omega)).trans ((o8 _ (by omega)).trans h6), (o9 _ (by omega)).trans k7, ?_, Below.setCell k9 (p := ⟨w.heap.size + 1 + 1 + 1 + 1 + 1, 0, none⟩) (by show w.heap.size ≤ w.heap.size + 1 + 1 + 1 + 1 + 1; omega) _⟩
  exact k8.kept (grownBy_setCell' W8 _ _) (.inr (k5.not_row (by decide) k8).symm)
theorem RK.nb {lp : Loop} {w : World} {B : Nat} {rest : Bs} {n : Nat} {acc : List I7} {v : Value} {a b : World} (h : RK lp w B rest n acc v a) (hn : Nb a b) : RK lp w B rest n acc v b := by
  obtain ⟨h0, h1, h2, h3, h4, h5, h6, h7, h8, h9⟩ := h
  exact ⟨hn.block h0, hn.block h1, hn.block h2, hn.block h3, hn.block h4, hn.block h5, hn.block h6, hn.block h7, own_nb23 h8 hn, h9.trans hn⟩
theorem segs_len (l : Bs) : (segs l).1.length ≤ l.length := by
  induction l with
  | nil => simp [segs]
  | cons c r ih =>
    unfold segs
    split
    · simp; omega
    · split
      · simp
      · rename_i h t e
        rw [e] at ih
        simp at ih ⊢; omega
theorem rd1_len (t : List Bs) (rem : Bs) (n : Nat) (acc : List I7) (is : List I7) (h : (rd1 t rem n acc).1 = some is) : is.length = acc.length + t.length := by
  induction t generalizing n acc with
  | nil =>
    unfold rd1 at h
    split at h
    · injection h with h; rw [← h]; rfl
    · cases h
  | cons x r ih =>
    unfold rd1 at h
    split at h
    · cases h
    · have := ih _ _ h
      simp at this ⊢; omega
/-- Of a text of some length no more instructions are read. -/
theorem rd_len (l : Bs) (js : List I7) (h : (rdS l 0 []).1.getD [] = js) : js.length ≤ l.length := by
  have h2 := segs_len l
  cases hq : (rdS l 0 []).1 with
  | none => rw [hq] at h; rw [← h]; simp
  | some is =>
    rw [hq] at h
    have := rd1_len _ _ _ _ _ hq
    simp at h this
    rw [← h]; omega
end Go.Proofs.YtmggichckhoomaaDoor
