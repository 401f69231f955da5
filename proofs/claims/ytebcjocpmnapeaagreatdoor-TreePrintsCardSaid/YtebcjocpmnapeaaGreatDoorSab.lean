/-
  Proved here: in a region that draws its order and may call a round's yield, an operation that reads may be taken first. Conditions: stated in each. ¦ what the code's iterator over a program's parts keeps; its parts in order, as a list. Conditions: none.
-/
import Derived.Test.YtebcjocpmnapeaaGreatDoorSaa
import Derived.Deep.RegionHeld
import Derived.OrdersIn
import Derived.ControlIn
import Derived.RangeFuncNested
import Derived.RangeFuncBound
import Derived.RangeFuncCalls
import Derived.RangeFuncLeaves
import Derived.RangeFuncKeeps
import Derived.Laws.Tables
import Derived.Deep.WholeRow
section
namespace Go.Proofs.YtebcjocpmnapeaaGreatDoor
set_option linter.unusedVariables false
set_option linter.unusedSimpArgs false
section
variable {n : Nat} {P : Program} {ops : Array Oper} {Q : Exit → Act → World → Prop} {md : Region.Mode} {G : World → Prop}
theorem yieldsIf_w {i : Nat} {o : Oper} {v : Value} {a : Act} {S : World → Prop} (hi : ops[i]? = some o) (hy : YieldsIf P ops S o v a)
    {K : Act → World → Prop} {w : World} (hS : S w) (h : K (a.put o.dst v) w) : wpOpIn Fence.wide n P ops Q i K a w := by
  unfold Go.wpOpIn
  simp only [hi]
  rcases hy with ⟨hw, hv⟩ | ⟨hw, rfl⟩
  · simp only [hw, if_true, Oper.wpIn, show Fence.wide.round = none from rfl, Oper.semAt_none, hv w hS, Oper.uponIn]; exact ⟨fun _ _ => trivial, h⟩
  · simp only [hw, Bool.false_eq_true, if_false]; exact ⟨fun _ _ => trivial, h⟩
theorem wpOpW_putIf {j : Nat} {oi oj : Oper} {v : Value} {S : World → Prop} (hj : ops[j]? = some oj) (hap : oi.apart ops oj = true)
    (hsi : ∀ cs b, oi.op ≠ .select cs b) (hsj : ∀ cs b, oj.op ≠ .select cs b)
    (hQ : ∀ c a w, Q (.panic c) (a.put oi.dst v) w → Q (.panic c) a w) {K : Act → World → Prop} {a : Act} {w : World}
    (hy : YieldsIf P ops S oi v a) (h : wpOpIn Fence.wide n P ops Q j K (a.put oi.dst v) w) :
    wpOpIn Fence.wide n P ops Q j (fun a' w' => YieldsIf P ops S oi v a' ∧ K (a'.put oi.dst v) w') a w := by
  obtain ⟨h1, h2, h3⟩ := Oper.apart_spec hap
  have keep : ∀ (a : Act), YieldsIf P ops S oi v a → ∀ u, YieldsIf P ops S oi v (a.put oj.dst u) := fun a hy u =>
    hy.of_same (execOp_put oi hsi a oj.dst u h3) (wanted_put oi a oj.dst u h3)
  have keepD : ∀ d, YieldsIf P ops S oi v { a with defers := d :: a.defers } := fun d => hy.of_same rfl rfl
  have hro : Fence.wide.round = none := rfl
  unfold wpOpIn at *
  simp only [hj] at *
  rw [wanted_put oj a oi.dst v h1] at h
  split
  · rename_i hw
    simp only [hw, if_true] at h
    unfold Oper.wpIn at *
    refine ⟨fun _ _ => trivial, ?_⟩
    have h := h.2
    rw [hro, Oper.semAt_none, execOp_put oj hsj a oi.dst v h1] at h
    rw [hro, Oper.semAt_none]
    generalize (execOp a.eval oj).run P w = r at *
    cases r with
    | ok x w' =>
      cases x <;> simp only [Oper.uponIn] at h ⊢
      case value u => exact ⟨keep a hy u, by rw [← Act.put_comm a v u h2]; exact h⟩
      case skip => exact ⟨keep a hy _, by rw [← Act.put_comm a v undef h2]; exact h⟩
      case defer d =>
        refine ⟨keep _ (keepD d) _, ?_⟩
        rw [← Act.put_comm _ v undef h2, ← Act.put_defers]
        exact h
      case enter f args =>
        refine ⟨h.1, CallsIn.mono h.2 fun e w'' he => ?_⟩
        cases e with
        | returned u => exact ⟨keep a hy u, by rw [← Act.put_comm a v u h2]; exact he⟩
        | panicked c => exact hQ _ _ _ he
        | outgrown => exact he
      case row row args => exact ⟨h.1, RowsIn.mono h.2 fun u w'' he => ⟨keep a hy u, by rw [← Act.put_comm a v u h2]; exact he⟩⟩
      case round l f tmps assign body =>
        refine ⟨h.1, RoundIn.mono h.2 fun e w'' he => ?_⟩
        cases e with
        | returned u => exact ⟨keep a hy u, by rw [← Act.put_comm a v u h2]; exact he⟩
        | panicked c => exact hQ _ _ _ he
        | outgrown => exact he
    | halt x w' =>
      cases x <;> simp only [Oper.uponIn] at h ⊢
      case panic u => exact hQ _ _ _ h
  · rename_i hw
    simp only [hw] at h
    exact ⟨fun _ _ => trivial, keep a hy _, by rw [← Act.put_comm a v undef h2]; exact h.2⟩
end
end Go.Proofs.YtebcjocpmnapeaaGreatDoor
end
section
namespace Go.Proofs.YtebcjocpmnapeaaGreatDoor
open Go.RowKit
set_option linter.unusedVariables false
set_option linter.unusedSimpArgs false
set_option maxRecDepth 100000
set_option maxHeartbeats 4000000
abbrev Pt := Nat × Hd
/-- The parts of an expression (of a pattern) from a level on, k levels deep. -/
def flE (h : Ex → Hd) : Nat → Ex → List Pt
  | 0, _ => []
  | k + 1, e => (65 - k, h e) :: (e.args.map (flE h k)).flatten
def flEs (h : Ex → Hd) (k : Nat) (l : List Ex) : List Pt := (l.map (flE h k)).flatten
def flS (k : Nat) (s : St) : List Pt := (65 - k, hdS s) :: flEs hdE k s.args
def flB : Nat → Bd → List Pt
  | 0, _ => []
  | k + 1, b => (65 - k, hdB b) :: ((b.stmts.map (flS k)).flatten ++ flEs hdE k b.args ++ (b.parts.map (flB k)).flatten ++ (b.arms.map fun m => (65 - k, hdA m) :: (flE hdT k m.pat ++ flEs hdE k m.guard ++ flB k m.body)).flatten)
def flD (d : Df) : List Pt := (0, hdD d) :: (d.params.map (fun s => (0, hdM s)) ++ flB 65 d.body)
def flP (p : Pg) : List Pt := (0, hdP p) :: ((p.defs.map flD).flatten ++ flEs hdE 65 p.args)
/-- What the rounds and the iterator keep: what lay below lo, and cells from hi on. -/
def Kp (lo hi : Nat) (A B : World) : Prop := Below lo A B ∧ ∀ k o, hi ≤ k → A.heap[k]? = some o → o.isCells = true → B.heap[k]? = some o
theorem Kp.refl {lo hi : Nat} (A : World) : Kp lo hi A A := ⟨Below.refl _ _, fun _ _ _ h _ => h⟩
theorem Kp.trans {lo hi : Nat} {A B C : World} (h : Kp lo hi A B) (k : Kp lo hi B C) : Kp lo hi A C := ⟨h.1.trans k.1, fun i o hi hA ho => k.2 i o hi (h.2 i o hi hA ho) ho⟩
theorem Kp.size {lo hi : Nat} {A B : World} (h : Kp lo hi A B) : A.heap.size ≤ B.heap.size := h.1.size
theorem Kp.of_nb {lo hi : Nat} {A B : World} (hl : lo ≤ A.heap.size) (h : Nb A B) : Kp lo hi A B := ⟨Below.mono h hl, fun k o _ hA _ => h.block hA⟩
theorem Kp.block {lo hi : Nat} {A B : World} (h : Kp lo hi A B) {k : Nat} {cs : Array Value} {t : TypeId} {fr : Nat × Nat} (hk : hi ≤ k) (hA : A.heap[k]? = some (.cells cs t fr)) : B.heap[k]? = some (.cells cs t fr) := h.2 k _ hk hA rfl
theorem Kp.putObj {lo hi : Nat} (W : World) (l : Nat) (o o' : Obj) (hl : lo ≤ l) (h : W.heap[l]? = some o) (ho : o.isCells = false) : Kp lo hi W (W.putObj l o') :=
  ⟨(Below.refl lo W).grown (grownBy_putObj' W l o') (by have := (Array.getElem?_eq_some_iff.1 h).1; omega) (fun k e => by cases e; omega), fun k u hk hA hu => by
    by_cases e : k = l
    · subst e; rw [h] at hA; cases hA; rw [ho] at hu; cases hu
    · exact (World.putObj_heap_other (fun e' => e e')).trans hA⟩
/-- Where a walk over parts may have come to. -/
def Goes {J Jx : List Pt → World → Prop} (lo hi : Nat) (pre fl : List Pt) (W : World) (r : Ending) (W' : World) : Prop :=
  (r = .returned (.bool true) ∧ J (pre ++ fl) W' ∧ Kp lo hi W W') ∨ (r = .returned (.bool false) ∧ ∃ q, q <+: fl ∧ Jx (pre ++ q) W')
theorem Nb.trans' {W0 A B : World} {hi : Nat} (h : Nb W0 A) (k : Kp W0.heap.size hi A B) : Nb W0 B := Below.trans h k.1
theorem alloc_nb (w : World) (o : Obj) : Nb w (w.alloc o) := (Nb.refl w).alloc o
theorem flat_prefix {α : Type} (fl : α → List Pt) (l : List α) (i : Nat) : ((l.take i).map fl).flatten <+: (l.map fl).flatten := by
  have h := List.take_append_drop i l
  refine ⟨((l.drop i).map fl).flatten, ?_⟩
  rw [← List.flatten_append, ← List.map_append, h]
theorem wpList_store_new' {P : Program} {ops : Array Oper} {rest : List Oper} {o : Oper} {a : Act} {w : World} {Q : Exit → Act → World → Prop} (hgd : o.guard = none) (ty : TypeId) (x y : Operand) (ho : o.op = .store ty x y)
    (old cells : Array Value) (t : TypeId) (hx : a.eval x = .pointer (some ⟨w.heap.size, 0, none⟩)) (hy : a.eval y = .agg cells) (hi : (P.info? ty).map (·.size) = some cells.size)
    (hold : old.size = cells.size) (h1 : cells.all (·.oneCell') = true)
    (h : wpList P ops Q rest (a.put o.dst undef) (w.alloc (.cells cells t))) : wpList P ops Q (o :: rest) a (w.alloc (.cells old t)) := by
  refine wpList_store_row hgd ty x y ho w.heap.size cells hx hy t old (heap_alloc_new w _) hi hold h1 ?_
  rw [World.setRow_alloc_new]
  exact h
theorem eachE_any (W0 : World) (hi N : Nat) (J Jx : List Pt → World → Prop) (hJ : ∀ pre W W', J pre W → Nb W W' → J pre W') (L : Nat) (hL : L ≤ 66) (c0 c1 : Nat) (S : World → Prop)
    (hS : ∀ A B, Kp W0.heap.size hi A B → S A → S B) (fl : Ex → List Pt) (l : List Ex) (hok : ∀ x ∈ l, x.cells.toArray.all (·.oneCell') = true)
    (one : ∀ x ∈ l, ∀ pre W, Nb W0 W → S W → J pre W → pre.length + (fl x).length ≤ N → Calls Tryz.prog 28 #[.agg x.cells.toArray, .int .i64 L, .pointer (some ⟨c0, 0, none⟩), .pointer (some ⟨c1, 0, none⟩)] W (Goes (J := J) (Jx := Jx) W0.heap.size hi pre (fl x) W))
    (v : Value) (hrow : RowS W0 5 v (l.map Ex.cells)) (pre : List Pt) (W : World) (hW : Nb W0 W) (hSW : S W) (h0 : J pre W) (hN : pre.length + ((l.map fl).flatten).length ≤ N) :
    Calls Tryz.prog 30 #[v, .int .i64 L, .func (.func 28) #[] #[.pointer (some ⟨c0, 0, none⟩), .pointer (some ⟨c1, 0, none⟩)]] W (Goes (J := J) (Jx := Jx) W0.heap.size hi pre ((l.map fl).flatten) W) := by
  obtain ⟨A, cap, rfl, hcap, hlen, hz⟩ := hrow.head
  have hX := Lib.hid hrow
  rw [List.length_map] at hcap hlen hX ⊢
  obtain ⟨M, hM⟩ : ∃ M, l.length = M := ⟨_, rfl⟩
  have hMh := Lib.hid hM
  rw [hM] at hcap hlen hX ⊢
  clear hM hrow
  obtain ⟨F, hF⟩ : ∃ F, (l.map fl).flatten = F := ⟨_, rfl⟩
  have hFh := Lib.hid hF
  rw [hF] at hN ⊢
  clear hF
  have hJ := Lib.hid hJ
  have hokh := Lib.hid hok
  clear hok
  have hone := Lib.hid one
  have hS := Lib.hid hS
  have h0 := Lib.hid h0
  have hSW := Lib.hid hSW
  have hNh := Lib.hid hN
  clear one hN
  go_enter Tryz.func30, Tryz.ntmps30
  go_wp2_with fail
  go_loopw [11] (fun si wr => ∃ i : Nat, i ≤ M ∧ si = .int .i64 i ∧ J (pre ++ ((l.take i).map fl).flatten) wr ∧ Kp W0.heap.size hi W wr) (fun si _ => M - (intOf si).toNat)
  case atStart => exact ⟨0, Nat.zero_le _, rfl, by simpa using h0.out, Kp.refl _⟩
  case round =>
    obtain ⟨i, hi2, rfl, hj, hk⟩ := hrel
    have hj := Lib.hid hj
    by_cases hlt2 : i < M
    · have hlt3 : (i : Int) < (M : Int) := by omega
      obtain ⟨x, hx⟩ : ∃ x, l[i]? = some x := ⟨_, List.getElem?_eq_getElem (by rw [hMh.out]; exact hlt2)⟩
      obtain ⟨b, o, rfl, hxc⟩ := hX.out.at_ (i := i) (r := x.cells) (by rw [List.getElem?_map, hx]; rfl)
      have hnb : Nb W0 wr := hW.trans' hk
      have y0 := hnb.cell (hxc 0 _ rfl)
      have y1 := hnb.cell (hxc 1 _ rfl)
      have y2 := hnb.cell (hxc 2 _ rfl)
      have y3 := hnb.cell (hxc 3 _ rfl)
      have y4 := hnb.cell (hxc 4 _ rfl)
      rw [Nat.add_zero] at y0
      have htk : ((l.take (i + 1)).map fl).flatten = ((l.take i).map fl).flatten ++ fl x := by rw [List.take_add_one, hx]; simp
      have hle : ((l.take i).map fl).flatten.length + (fl x).length ≤ F.length := by
        rw [← List.length_append, ← htk, ← hFh.out]
        exact (flat_prefix fl l (i + 1)).length_le
      have hpf : ∀ q, q <+: fl x → ((l.take i).map fl).flatten ++ q <+: F := fun q hq => by
        rw [← hFh.out]
        refine List.IsPrefix.trans ?_ (flat_prefix fl l (i + 1))
        rw [htk]
        obtain ⟨t, ht⟩ := hq
        exact ⟨t, by rw [List.append_assoc, ht]⟩
      have hcall := Lib.hid (fun W5 (h5 : Nb wr W5) => hone.out x (List.mem_of_getElem? hx) (pre ++ ((l.take i).map fl).flatten) W5 (hnb.trans h5) (hS.out _ _ (hk.trans (Kp.of_nb hnb.size h5)) hSW.out) (hJ.out _ _ _ hj.out h5) (by rw [List.length_append]; have := hNh.out; omega))
      have htk := Lib.hid htk
      have hpf := Lib.hid hpf
      have hnb := Lib.hid hnb
      have hox := Lib.hid (hokh.out x (List.mem_of_getElem? hx))
      clear hx hxc hle
      go_wp2_with (first
        | (refine wpList_store_new' rfl 31 (.tmp 8) (.tmp 14) rfl _ x.cells.toArray _ rfl rfl (show (Tryz.prog.info? 31).map (·.size) = some 5 by kernel_rfl) rfl hox.out ?_; obtain ⟨W5, hW5⟩ : ∃ W5, wr.alloc (.cells x.cells.toArray 31) = W5 := ⟨_, rfl⟩; have b5 : W5.heap[wr.heap.size]? = some (.cells x.cells.toArray 31 (0, 0)) := (by rw [← hW5]; exact new_blk _ _ rfl); have n5 : Nb wr W5 := (by rw [← hW5]; exact alloc_nb _ _); rw [hW5]; clear hW5)
        | (refine wpList_load_row rfl 31 (.tmp 8) rfl wr.heap.size rfl 31 x.cells.toArray (0, 0) _ b5 Tryz.underlying31 rfl (show (Tryz.prog.info? 31).map (·.size) = some 5 by kernel_rfl) ?_)
        | (go_at_call 28; refine (hcall.out _ n5).mono ?_; rintro r w6 (⟨rfl, hj6, hk6⟩ | ⟨rfl, q, hq, hx6⟩)))
      · refine ⟨⟨i + 1, by omega, by simp, by rw [htk.out, ← List.append_assoc]; exact hj6, hk.trans ((Kp.of_nb hnb.out.size n5).trans hk6)⟩, by simp [intOf] <;> omega⟩
      · go_ret
        exact .inr ⟨rfl, _, hpf.out q hq, by rw [← List.append_assoc]; exact hx6⟩
    · obtain rfl : i = M := by omega
      have hall : ((l.take i).map fl).flatten = F := by rw [← hFh.out, ← hMh.out, List.take_length]
      have hj := Lib.hid (show J (pre ++ F) wr by rw [← hall]; exact hj.out)
      go_wp2_with fail
      go_ret
      exact .inl ⟨rfl, hj.out, hk⟩
end Go.Proofs.YtebcjocpmnapeaaGreatDoor
end
