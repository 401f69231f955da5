/-
  Proved here: the instruction of an operation whose fields a word has, by the code. Conditions: the form is one; the word is a word. ¦ what words are of instructions, as plain data; rows that are kept. Conditions: stated.
-/
import Derived.Test.YtnooabgdcfegeaaDoorSbl
import Derived.Test.YtnooabgdcfegeaaDoorSbj
import Derived.Test.YtnooabgdcfegeaaDoorSbk
import Derived.Great.Walk
import Derived.Laws.ResultCell
section
namespace Go.Proofs.YtnooabgdcfegeaaDoor
open Go.RowKit Go.Sort
set_option linter.unusedVariables false
theorem Nb.setRow {a b : World} (h : Nb a b) {g : Nat} (hg : a.heap.size ≤ g) (cs : Array Value) : Nb a (b.setRow g cs) := by
  have hb : Below a.heap.size a b := h
  exact ⟨hb.os, hb.tape, hb.output, by rw [size_setRow]; exact hb.size, fun k hk => (setRow_other b g k cs (by omega)).trans (hb.block k hk)⟩
end Go.Proofs.YtnooabgdcfegeaaDoor
end
section
namespace Go.Proofs.YtnooabgdcfegeaaDoor
open Go.RowKit Go.Shelf Go.ChangeMaps
set_option linter.unusedVariables false
set_option linter.unusedSimpArgs false
/-- May an instruction be, and what word it has. -/
def okI (x : In7) : Bool := GoodB x.1 x.2.1 x.2.2.1 x.2.2.2.1 x.2.2.2.2.1 x.2.2.2.2.2.1 x.2.2.2.2.2.2
def wdI (x : In7) : Int := EncW x.1 x.2.1 x.2.2.1 x.2.2.2.1 x.2.2.2.2.1 x.2.2.2.2.2.1 x.2.2.2.2.2.2
def w32 (l : List In7) : List Value := l.map fun x => .int .u32 (wdI x)
theorem info_u32 : (Tryd.prog.info? 60).map (fun i => (i.zero, i.size, i.bytes)) = some (some (.int .u32 0), 1, 4) := by kernel_rfl
theorem parts_u32 : ∃ i, Tryd.prog.info? 60 = some i ∧ i.zero = some (.int .u32 0) ∧ i.size = 1 ∧ i.bytes = 4 := by
  obtain ⟨i0, hi, h⟩ := Option.map_eq_some_iff.1 info_u32
  exact ⟨i0, hi, congrArg (·.1) h, congrArg (·.2.1) h, congrArg (·.2.2) h⟩
/-- A label's cells. -/
def lbC (p : ByteArray × Int) : List Value := [.string p.1, .int .u64 p.2]
theorem one_lb (p : ByteArray × Int) : ∀ u ∈ lbC p, u.oneCell' = true := fun u hu => by
  unfold lbC at hu
  rcases List.mem_cons.1 hu with rfl | hu; · rfl
  rcases List.mem_cons.1 hu with rfl | hu; · rfl
  cases hu
theorem info_lb : (Tryd.prog.info? 44).map (fun i => (i.zero.isSome, i.size, i.bytes)) = some (true, 2, 24) := by kernel_rfl
theorem info_lbz : (Tryd.prog.info? 44).map (fun i => i.zero) = some (some (.agg #[.string ByteArray.empty, .int .u64 0])) := by kernel_rfl
theorem parts_lb : ∃ i, Tryd.prog.info? 44 = some i ∧ i.zero = some (.agg #[.string ByteArray.empty, .int .u64 0]) ∧ i.size = 2 ∧ i.bytes = 24 := by
  obtain ⟨i0, hi, h⟩ := Option.map_eq_some_iff.1 info_lb
  obtain ⟨i1, hi1, h1⟩ := Option.map_eq_some_iff.1 info_lbz
  rw [hi] at hi1
  cases hi1
  exact ⟨i0, hi, h1, congrArg (·.2.1) h, congrArg (·.2.2) h⟩
/-- The instructions, and the labels, of a place. -/
def inS (is : List Itm) (fs : List Bool) (f : Bs → Option Int) (x : Nat × Int) : List In7 := match is[x.1]?, fs[x.1]? with
  | some i, some l => insI i x.2 ((f i.2.2.1).getD 0) l
  | _, _ => []
def inL (is : List Itm) (fs : List Bool) (f : Bs → Option Int) (xs : List (Nat × Int)) : List In7 := xs.flatMap (inS is fs f)
def lbS (is : List Itm) (x : Nat × Int) : List (ByteArray × Int) := match is[x.1]? with
  | some i => if i.1 = 2 then [(i.2.2.1, x.2)] else []
  | none => []
def lbL (is : List Itm) (xs : List (Nat × Int)) : List (ByteArray × Int) := xs.flatMap (lbS is)
theorem inL_snoc (is : List Itm) (fs : List Bool) (f : Bs → Option Int) (xs : List (Nat × Int)) (x : Nat × Int) : inL is fs f (xs ++ [x]) = inL is fs f xs ++ inS is fs f x := by unfold inL; rw [List.flatMap_append]; simp
theorem lbL_snoc (is : List Itm) (xs : List (Nat × Int)) (x : Nat × Int) : lbL is (xs ++ [x]) = lbL is xs ++ lbS is x := by unfold lbL; rw [List.flatMap_append]; simp
theorem lbL_len (is : List Itm) (xs : List (Nat × Int)) : (lbL is xs).length ≤ xs.length := by
  induction xs with
  | nil => simp [lbL]
  | cons x r ih =>
    have h : (lbS is x).length ≤ 1 := by
      unfold lbS
      split
      · split <;> simp
      · simp
    have e : lbL is (x :: r) = lbS is x ++ lbL is r := by simp [lbL]
    rw [e, List.length_append, List.length_cons]; omega
theorem inL_len (is : List Itm) (fs : List Bool) (f : Bs → Option Int) (xs : List (Nat × Int)) : (inL is fs f xs).length ≤ 8 * xs.length := by
  induction xs with
  | nil => simp [inL]
  | cons x r ih =>
    have h : (inS is fs f x).length ≤ 8 := by
      unfold inS
      split
      · exact insI_len _ _ _ _
      · simp
    have e : inL is fs f (x :: r) = inS is fs f x ++ inL is fs f r := by simp [inL]
    rw [e, List.length_append, List.length_cons]; omega
theorem row_kq {X : Obj → Bool} {R : Nat → Prop} {W V : World} {base : Nat} {e : TypeId} {sz k : Nat} {v : Value} {xs : List Value} (h : W.ownsRow base e sz v k xs) (hk : Kq X R W V) (hR : ∀ g, R g → ∀ cs fr, W.heap[g]? ≠ some (.cells cs e fr)) (hX : ∀ cs fr, X (.cells cs e fr) = false) : V.ownsRow base e sz v k xs := by
  refine ⟨h.1, ?_⟩
  rcases h.2 with h' | ⟨g, cap, cur, rfl, hb, hg, h'⟩
  · exact .inl h'
  · exact .inr ⟨g, cap, cur, rfl, hb, hk.block (fun hr => hR g hr _ _ hg) hg (hX _ _), h'⟩
theorem kq_own {X : Obj → Bool} {R : Nat → Prop} {W0 : World} {B : Nat} (hB : W0.heap.size ≤ B) {β : Type} : OwnFrom B (fun (_ : β) V => Kq X R W0 V) := fun _ A C row hs hg hr =>
  ⟨Nat.le_trans hs.1 hg.size, fun k o hk hA hX => by
    have h1 := hs.2 k o hk hA hX
    refine (hg.block k (Array.getElem?_eq_some_iff.1 h1).1 (fun e => ?_)).trans h1
    have h2 := (hr k e.symm).1
    have h3 := (Array.getElem?_eq_some_iff.1 hA).1
    omega⟩
theorem kq_x {X X' : Obj → Bool} {R : Nat → Prop} {A B : World} (h : Kq X R A B) (hx : ∀ o, X' o = false → X o = false) : Kq X' R A B := ⟨h.1, fun k o hk hA hX => h.2 k o hk hA (hx o hX)⟩
/-- Objects of one of two types of cells. -/
def XU (t u : TypeId) (o : Obj) : Bool := XT t o || XT u o
theorem XU_l {t u : TypeId} {o : Obj} (h : XU t u o = false) : XT t o = false := by unfold XU at h; simp at h; exact h.1
theorem XU_r {t u : TypeId} {o : Obj} (h : XU t u o = false) : XT u o = false := by unfold XU at h; simp at h; exact h.2
theorem XU_cells {t u : TypeId} {o : Obj} (h : o.isCells = false) : XU t u o = false := by unfold XU; rw [XT_cells h, XT_cells h]; rfl
theorem Kq.setc {X : Obj → Bool} {R : Nat → Prop} {W0 W : World} (h : Kq X R W0 W) (B : Nat) (v' : Value) (hB : R B) : Kq X R W0 (W.setCell ⟨B, 0, none⟩ v') := h.trans (Kq.set W B v' hB)
theorem enc_ok (x : In7) (h : ImOk x) (hg : okI x = true) (w : World) (hC : Cod w) : Calls Tryd.prog 38 #[.agg (i7C x).toArray] w fun e w' => e = .returned (.tuple #[.int .u32 (wdI x), .int .i64 0]) ∧ Nb w w' := enc_yes _ _ _ _ _ _ _ h.1 h.2 hg w hC
theorem enc_bad (x : In7) (h : ImOk x) (hg : okI x = false) (w : World) (hC : Cod w) : Calls Tryd.prog 38 #[.agg (i7C x).toArray] w fun e w' => e = .returned (.tuple #[.int .u32 0, .int .i64 20]) ∧ Nb w w' := enc_no _ _ _ _ _ _ _ h.1 h.2 hg w hC
end Go.Proofs.YtnooabgdcfegeaaDoor
end
