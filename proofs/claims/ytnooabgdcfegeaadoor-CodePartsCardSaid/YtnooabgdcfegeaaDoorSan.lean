/-
  Proved here: what a constant's iterator yields, where the number fits 12 bits, or 32. Conditions: the loop's rounds keep what they promise. ¦ in a region that draws its order and may call a round's yield, an operation that reads may be taken first. Conditions: stated in each.
-/
import Derived.Test.YtnooabgdcfegeaaDoorSam
import Derived.RangeFuncNested
import Derived.RangeFuncBound
import Derived.RangeFuncCalls
import Derived.RangeFuncLeaves
import Derived.RangeFuncKeeps
import Derived.RangeFuncFrom
import Derived.TacticsIn
import Derived.BigFrameIn
import Derived.Deep.RegionHeld
import Derived.OrdersIn
import Derived.ControlIn
section
namespace Go.Proofs.YtnooabgdcfegeaaDoor
open Go.RowKit
set_option linter.unusedVariables false
set_option linter.unusedSimpArgs false
set_option maxRecDepth 100000
set_option maxHeartbeats 4000000
/-- What rounds and iterators keep: all objects but those that lie where R says, and those of which X says that rounds may write them. -/
def Kq (X : Obj → Bool) (R : Nat → Prop) (A B : World) : Prop := A.heap.size ≤ B.heap.size ∧ ∀ k o, ¬ R k → A.heap[k]? = some o → X o = false → B.heap[k]? = some o
theorem Kq.refl {X : Obj → Bool} {R : Nat → Prop} (A : World) : Kq X R A A := ⟨Nat.le_refl _, fun _ _ _ h _ => h⟩
theorem Kq.trans {X : Obj → Bool} {R : Nat → Prop} {A B C : World} (h : Kq X R A B) (k : Kq X R B C) : Kq X R A C := ⟨Nat.le_trans h.1 k.1, fun i o hi hA ho => k.2 i o hi (h.2 i o hi hA ho) ho⟩
theorem Kq.of_nb {X : Obj → Bool} {R : Nat → Prop} {A B : World} (h : Nb A B) : Kq X R A B := ⟨h.size, fun k o _ hA _ => h.block hA⟩
theorem Kq.block {X : Obj → Bool} {R : Nat → Prop} {A B : World} (h : Kq X R A B) {k : Nat} {o : Obj} (hk : ¬ R k) (hA : A.heap[k]? = some o) (hX : X o = false) : B.heap[k]? = some o := h.2 k o hk hA hX
theorem Kq.mono {X : Obj → Bool} {R R' : Nat → Prop} {A B : World} (h : Kq X R A B) (hr : ∀ k, R k → R' k) : Kq X R' A B := ⟨h.1, fun k o hk hA hX => h.2 k o (fun hr' => hk (hr k hr')) hA hX⟩
theorem Kq.putObj {X : Obj → Bool} {R : Nat → Prop} (W : World) (l : Nat) (o' : Obj) (h : R l) : Kq X R W (W.putObj l o') :=
  ⟨(grownBy_putObj' W l o').size, fun k u hk hA hu => (World.putObj_heap_other (fun e => by subst e; exact hk h)).trans hA⟩
/-- The objects that an iterator of constants reads between its rounds are none that rounds may write. -/
structure XOk (X : Obj → Bool) : Prop where
  fn : ∀ cs fr, X (.cells cs 87 fr) = false
  u64 : ∀ cs fr, X (.cells cs 23 fr) = false
  int : ∀ cs fr, X (.cells cs 3 fr) = false
  other : ∀ o : Obj, o.isCells = false → X o = false
theorem own_nb {β : Type} {B : Nat} {J : β → World → Prop} (h : OwnFrom B J) {s : β} {W W' : World} (hs : J s W) (k : Nb W W') : J s W' :=
  h s W W' none hs ⟨k.os, k.tape, k.output, k.size, fun i hi _ => Below.block k i hi⟩ (fun r e => nomatch e)
/-- What a round does with an instruction: it goes on, or it is left. -/
def YldI (X : Obj → Bool) (R : Nat → Prop) (l N : Nat) (J Jx : List In7 → World → Prop) : Prop := ∀ (m : Nat) (pre : List In7) (x : In7) (W : World), ImOk x → J pre W → pre.length < N → YieldAt Fence.wide m Tryd.prog l #[.agg (i7C x).toArray] W fun e W' =>
  (e = .returned (.bool true) ∧ J (pre ++ [x]) W' ∧ Kq X R W W') ∨ (e = .returned (.bool false) ∧ Jx (pre ++ [x]) W' ∧ Kq X R W W')
/-- Where an iterator may have come to. -/
def Went (J Jx : List In7 → World → Prop) (pre L : List In7) (r : Ending) (W' : World) : Prop := (∃ x, r = .returned x) ∧ (J (pre ++ L) W' ∨ ∃ q, q <+: L ∧ Jx (pre ++ q) W')
theorem con_12 (X : Obj → Bool) (R : Nat → Prop) (l N B : Nat) (J Jx : List In7 → World → Prop) (hJ : OwnFrom B J) (hY : YldI X R l N J Jx) (rd v : Int) (h0 : 0 ≤ v) (h1 : v < 18446744073709551616) (hf : FitB (wrap64 v) 12 = true)
    (VB RB : Nat) (pre : List In7) (W : World) (hV : W.heap[VB]? = some (.cells #[.int .u64 v] 23 (0, 0))) (hR : W.heap[RB]? = some (.cells #[.int .i64 rd] 3 (0, 0))) (hj : J pre W) (hN : pre.length + 1 ≤ N) :
    Calls Tryd.prog 51 #[.func (.yield l) #[] #[], .pointer (some ⟨VB, 0, none⟩), .pointer (some ⟨RB, 0, none⟩)] W (Went J Jx pre [(22, rd, 0, 0, wrap64 v, false, false)]) := by
  have hfit := Lib.hid (fits_any (wrap64 v) 12 (wrap64_r v).1 (wrap64_r v).2)
  rw [hf] at hfit
  clear hf
  go_enter Tryd.func51, Tryd.ntmps51
  go_upto_region 1 with (fail)
  obtain ⟨W1, hW1⟩ : ∃ W1, W.alloc (.cells #[.func (.yield l) #[] #[]] 87) = W1 := ⟨_, rfl⟩
  have n1 : Nb W W1 := by rw [← hW1]; exact Below.alloc (Below.refl _ _) (Nat.le_refl _) _
  have b1 : W1.heap[W.heap.size]? = some (.cells #[.func (.yield l) #[] #[]] 87 (0, 0)) := by rw [← hW1]; exact new_bkc _ _ rfl
  rw [hW1]
  clear hW1
  have c1 := cell_of_row _ _ 0 _ _ _ b1
  have c2 := cell_of_row _ _ 0 _ _ _ (n1.block hV)
  have c3 := cell_of_row _ _ 0 _ _ _ (n1.block hR)
  obtain ⟨fn, tmps, assign, body, hy, hRd⟩ := hY 0 pre (22, rd, 0, 0, wrap64 v, false, false) W1 (wrap64_r v) (own_nb hJ hj n1) (by omega)
  simp only [i7C] at hy
  replace hRd := Lib.hid hRd
  clear hY hJ
  go_upto_region 7 with (go_at_call 33; refine (hfit.out _).mono ?_; rintro r w' ⟨rfl, rfl⟩)
  refine (wpIn_wide (n := 0)).1 ?_
  gi_wp2
  refine ⟨rfl, hRd.out.mono ?_⟩
  rintro e W2 (⟨rfl, hj2, hk2⟩ | ⟨rfl, hx2, -⟩)
  · gi_wp2
    go_wp2_with fail
    go_end0
    exact ⟨⟨_, rfl⟩, .inl hj2⟩
  · gi_wp2
    go_wp2_with fail
    go_end0
    exact ⟨⟨_, rfl⟩, .inr ⟨_, List.prefix_refl _, hx2⟩⟩
end Go.Proofs.YtnooabgdcfegeaaDoor
end
section
namespace Go.Proofs.YtnooabgdcfegeaaDoor
set_option linter.unusedVariables false
set_option linter.unusedSimpArgs false
section
variable {n : Nat} {P : Program} {ops : Array Oper} {Q : Exit → Act → World → Prop} {md : Region.Mode} {G : World → Prop}
theorem yieldsIf_w {i : Nat} {o : Oper} {v : Value} {a : Act} {S : World → Prop} (hi : ops[i]? = some o) (hy : YieldsIf P ops S o v a)
    {K : Act → World → Prop} {w : World} (hS : S w) (h : K (a.put o.dst v) w) : wpOpIn Fence.wide n P ops Q i K a w := by
  unfold Go.wpOpIn
  simp only [hi]
  rcases hy with ⟨hw, hv⟩ | ⟨hw, rfl⟩
  · simp only [hw, if_true, Oper.wpIn, show Fence.wide.round = none from rfl, Oper.semAt_none, hv w hS, Oper.uponIn]; exact ⟨fun _ _ => trivial, h⟩
  · simp only [hw, Bool.false_eq_true, if_false]; exact ⟨fun _ _ => trivial, h⟩
theorem wpOpW_putIf {j : Nat} {oi oj : Oper} {v : Value} {S : World → Prop} (hj : ops[j]? = some oj) (hap : oi.apart ops oj = true)
    (hsi : ∀ cs b, oi.op ≠ .select cs b) (hsj : ∀ cs b, oj.op ≠ .select cs b)
    (hQ : ∀ c a w, Q (.panic c) (a.put oi.dst v) w → Q (.panic c) a w) {K : Act → World → Prop} {a : Act} {w : World}
    (hy : YieldsIf P ops S oi v a) (h : wpOpIn Fence.wide n P ops Q j K (a.put oi.dst v) w) :
    wpOpIn Fence.wide n P ops Q j (fun a' w' => YieldsIf P ops S oi v a' ∧ K (a'.put oi.dst v) w') a w := by
  obtain ⟨h1, h2, h3⟩ := Oper.apart_spec hap
  have keep : ∀ (a : Act), YieldsIf P ops S oi v a → ∀ u, YieldsIf P ops S oi v (a.put oj.dst u) := fun a hy u =>
    hy.of_same (execOp_put oi hsi a oj.dst u h3) (wanted_put oi a oj.dst u h3)
  have keepD : ∀ d, YieldsIf P ops S oi v { a with defers := d :: a.defers } := fun d => hy.of_same rfl rfl
  have hro : Fence.wide.round = none := rfl
  unfold wpOpIn at *
  simp only [hj] at *
  rw [wanted_put oj a oi.dst v h1] at h
  split
  · rename_i hw
    simp only [hw, if_true] at h
    unfold Oper.wpIn at *
    refine ⟨fun _ _ => trivial, ?_⟩
    have h := h.2
    rw [hro, Oper.semAt_none, execOp_put oj hsj a oi.dst v h1] at h
    rw [hro, Oper.semAt_none]
    generalize (execOp a.eval oj).run P w = r at *
    cases r with
    | ok x w' =>
      cases x <;> simp only [Oper.uponIn] at h ⊢
      case value u => exact ⟨keep a hy u, by rw [← Act.put_comm a v u h2]; exact h⟩
      case skip => exact ⟨keep a hy _, by rw [← Act.put_comm a v undef h2]; exact h⟩
      case defer d =>
        refine ⟨keep _ (keepD d) _, ?_⟩
        rw [← Act.put_comm _ v undef h2, ← Act.put_defers]
        exact h
      case enter f args =>
        refine ⟨h.1, CallsIn.mono h.2 fun e w'' he => ?_⟩
        cases e with
        | returned u => exact ⟨keep a hy u, by rw [← Act.put_comm a v u h2]; exact he⟩
        | panicked c => exact hQ _ _ _ he
        | outgrown => exact he
      case row row args => exact ⟨h.1, RowsIn.mono h.2 fun u w'' he => ⟨keep a hy u, by rw [← Act.put_comm a v u h2]; exact he⟩⟩
      case round l f tmps assign body =>
        refine ⟨h.1, RoundIn.mono h.2 fun e w'' he => ?_⟩
        cases e with
        | returned u => exact ⟨keep a hy u, by rw [← Act.put_comm a v u h2]; exact he⟩
        | panicked c => exact hQ _ _ _ he
        | outgrown => exact he
    | halt x w' =>
      cases x <;> simp only [Oper.uponIn] at h ⊢
      case panic u => exact hQ _ _ _ h
  · rename_i hw
    simp only [hw] at h
    exact ⟨fun _ _ => trivial, keep a hy _, by rw [← Act.put_comm a v undef h2]; exact h.2⟩
end
end Go.Proofs.YtnooabgdcfegeaaDoor
end
