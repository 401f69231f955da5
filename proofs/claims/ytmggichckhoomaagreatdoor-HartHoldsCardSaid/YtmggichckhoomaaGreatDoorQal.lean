/-
  Proved here: what the condition on the table of codes gives, and the frame of the laws on instructions. Condition: the table of codes holds what its text lays. ¦ an instruction that comes in as an argument is seven plain values, and reads as such. No condition. ¦ plain facts on bytes as numbers, the lowest first. Conditions: none. ¦ words of memory: a memory object and its bytes in blocks of their own; what made, part and number of the code answer. Conditions: the memory is one that a call made.
-/
import Derived.Test.YtmggichckhoomaaGreatDoorQak
import Derived.Test.YtmggichckhoomaaGreatDoorRows
import Derived.ProofKit
import Derived.LaidMore
import Derived.OpenShut
import Derived.Stop.Joined
import Derived.Lib.LaidTab
import Derived.Lib.SmallJoins
import Derived.Lib.UnsafeStr
import Derived.Laws.Bits64b
import Derived.Test.YtmggichckhoomaaGreatDoorProg
import Derived.WalkKit
import Derived.WalkSpells
import Derived.WalkLawsBesides
import Derived.Deep.QuietTactic
import Derived.BigQuiet
import Derived.BigRegion
import Derived.RowKit3
import Derived.Handy
import Derived.Lib.Hide
import Derived.Laws.CopyOwn
import Derived.OwnWalk
import Derived.LoopN
section
namespace Go.Proofs.YtmggichckhoomaaGreatDoor
open Go.ChangeShapes Go.WideShapes Go.ChangeAt Go.RowKit
set_option linter.unusedVariables false
theorem own : ownKnob Tryz.prog.godebug = none := by kernel_rfl
def laidL : List (String × DataW Unit) := [("postbag/inst.codes", Rows.laid_postbag_inst_codes)]
theorem cod_of_laid {W : World} (h : laidMetH Tryz.prog laidL W) : Cod W := by
  rw [MakeChecks.laidMetH_plain _ _ _ (by kernel_rfl)] at h
  have h' : laidMet Tryz.prog [("postbag/inst.codes", Lib.tabData .u32 codeTab)] W := h
  have hT := Lib.tabIs_of_head (g := 0) (t := 117) (e := 65) (n := 88) (by kernel_rfl) (by kernel_rfl) Tryz.underlying117 Tryz.underlying65 (by kernel_rfl) (by kernel_rfl) h'
  have hc : ∀ i, i < 88 → W.cell? ⟨0, i, none⟩ = some (.int .u32 (codeAt i)) := fun i hi => hT.cell (by kernel_rfl) i (by show i < codeTab.length; exact hi)
  exact ⟨block_lt_of_cell (hc 0 (by decide)), hc⟩
/-- The door's own heap meets the condition. -/
theorem door_met (os : Os) (args : Array Value) : laidMetH Tryz.prog laidL ((World.doorLaid Tryz.prog 400 os).forCall (fun _ _ => 0) ⟨#[], args, []⟩).memory :=
  laidMetH_of_parts3 (fuel := 8) (laidMet_of_run' 8 (by kernel_rfl) (by kernel_rfl)) (by kernel_rfl) (by kernel_rfl)
theorem i64_of {x : Int} (h : (Lit.int .i64 x).wf = true) : -9223372036854775808 ≤ x ∧ x < 9223372036854775808 := by
  simp [Lit.wf, IntKind.min, IntKind.max, IntKind.signed, IntKind.bits] at h
  omega
section
variable {H : Type} {enc : TypeId × Value → H} {P : Program}
/-- The row's last step where of what was there nothing has turned. -/
theorem post_of_nb {f : Func} {s : ChangeSpec} {apart fresh handsOn again : Bool} {W W' : World} {args : Array Value} {v : Value} {ds gs : List (DataW H)} {before pa pv : List MemPlace}
    (hW : DataW.Whole enc P f.params.toList s.vars apart W args.toList ds gs before)
    (hres : ∀ (b : Nat) (sp : Nat → Bool) (hd : Bool), DataW.TrodAll enc P W' b sp hd f.resultTypes.toList (v.resultList f.resultTypes.size) (s.fn H (ds ++ gs)).results [])
    (hargs : ∀ sp : Nat → Bool, (∀ p ∈ before, sp p.block = true) → DataW.TrodAll enc P W' 0 sp true f.params.toList args.toList (s.fn H (ds ++ gs)).args pa)
    (hvars : ∀ sp : Nat → Bool, (∀ p ∈ before, sp p.block = true) → DataW.TrodVars enc P W' sp s.vars (s.fn H (ds ++ gs)).vars pv)
    (hps : before = pa ++ pv) (hb : Below W.heap.size W W')
    (hok : ∀ (j : Nat) (t : TypeId) (r : Value), f.resultTypes[j]? = some t → (v.resultList f.resultTypes.size)[j]? = some r → Value.okWide P W' .any 0 t r) :
    s.post enc P f apart fresh handsOn again W args v W' := by
  have hlt : ∀ p ∈ before, p.block < W.heap.size := fun p hp => hW.lt p hp
  have hold : ∀ p ∈ before, (fun b => decide (b < W.heap.size)) p.block = true := fun p hp => by simpa using hlt p hp
  refine ⟨ds, gs, before, [], pa, pv, hW, hres _ _ _, hargs _ hold, hvars _ hold, World.keptBut_mono (fun p hp => ⟨hp, ?_⟩) (hb.frame (· ∈ before)), fun _ => ?_⟩
  · rw [hps, List.mem_append] at hp
    exact Or.inr hp
  · obtain ⟨_, _, _, _, _, hz, hn⟩ := hW
    refine ⟨hok, _, _, ([] ++ pa) ++ pv, ⟨[] ++ pa, pv, trodAll_append (hargs _ (fun _ _ => rfl)) (hres _ _ _), hvars _ (fun _ _ => rfl), rfl, ?_, ?_⟩, ?_⟩
    · intro b off hp
      have hin : MemPlace.cell b off ∈ before := by rw [hps]; simpa using hp
      rw [hb.frozen (hlt _ hin)]
      exact hz b off hin
    · intro ha
      have := hn ha
      rw [hps] at this
      simpa using this
    · intro p hp _
      rw [hps]
      simpa using hp
end
end Go.Proofs.YtmggichckhoomaaGreatDoor
end
section
namespace Go.Proofs.YtmggichckhoomaaGreatDoor
open Go.ChangeShapes Go.WideShapes Go.ChangeAt Go.RowKit Go.Joins Go.Deep
set_option linter.unusedVariables false
section
variable {H : Type} {enc : TypeId × Value → H} {P : Program} {w : World} {base : Nat} {spare : Nat → Bool} {held : Bool}
end
section
variable {H : Type} {enc : TypeId × Value → H} {w : World} {base : Nat} {spare : Nat → Bool} {held : Bool}
theorem int_in {fuel : Nat} {v : Value} {y : DataW H × List MemPlace} (h : DataW.trod enc Tryz.prog w base spare held fuel 3 [v] = some y) : ∃ x, v = .int .i64 x ∧ y = (.lit (.int .i64 x), []) ∧ (Lit.int .i64 x).wf = true := by
  obtain ⟨a, e0, rfl, wa⟩ := DataW.trod_int Tryz.underlying3 h
  simp at e0
  exact ⟨a, e0, rfl, wa⟩
theorem bool_in {fuel : Nat} {v : Value} {y : DataW H × List MemPlace} (h : DataW.trod enc Tryz.prog w base spare held fuel 4 [v] = some y) : ∃ x, v = .bool x ∧ y = (.lit (.bool x), []) := by
  obtain ⟨a, e0, rfl⟩ := DataW.trod_bool Tryz.underlying4 h
  simp at e0
  exact ⟨a, e0, rfl⟩
set_option maxRecDepth 100000 in
theorem cells23 : Tryz.prog.cellsOf 56 = 7 := by kernel_rfl
end
end Go.Proofs.YtmggichckhoomaaGreatDoor
end
section
namespace Go.Proofs.YtmggichckhoomaaGreatDoor
abbrev By := List UInt8
/-- The number that bytes are, the lowest one first. -/
def leV : By → Nat
  | [] => 0
  | c :: r => c.toNat + 256 * leV r
/-- A number's k lowest bytes, the lowest one first. -/
def leB : Nat → Nat → By
  | 0, _ => []
  | k + 1, v => UInt8.ofNat (v % 256) :: leB k (v / 256)
theorem leB_len (k v : Nat) : (leB k v).length = k := by
  induction k generalizing v with
  | zero => rfl
  | succ k ih => simp [leB, ih]
theorem leV_lt (l : By) : leV l < 256 ^ l.length := by
  induction l with
  | nil => simp [leV]
  | cons c r ih =>
    have := c.toNat_lt
    simp only [leV, List.length_cons, Nat.pow_succ]
    omega
theorem leV_snoc (l : By) (c : UInt8) : leV (l ++ [c]) = leV l + 256 ^ l.length * c.toNat := by
  induction l with
  | nil => simp [leV]
  | cons x r ih =>
    simp only [List.cons_append, leV, ih, List.length_cons, Nat.pow_succ, Nat.mul_add]
    rw [show 256 ^ r.length * 256 * c.toNat = 256 * (256 ^ r.length * c.toNat) by rw [Nat.mul_comm (256 ^ r.length) 256, Nat.mul_assoc]]
    omega
theorem leB_snoc (k v : Nat) : leB (k + 1) v = leB k v ++ [UInt8.ofNat (v / 256 ^ k % 256)] := by
  induction k generalizing v with
  | zero => simp [leB]
  | succ k ih =>
    rw [leB, ih (v / 256), leB, List.cons_append, Nat.div_div_eq_div_mul, Nat.pow_succ, Nat.mul_comm 256]
/-- Bytes with others laid over them from a place on. -/
def lay (bs : By) (at_ : Nat) (x : By) : By := bs.take at_ ++ (x ++ bs.drop (at_ + x.length))
theorem lay_len (bs : By) (a : Nat) (x : By) (h : a + x.length ≤ bs.length) : (lay bs a x).length = bs.length := by simp [lay]; omega
theorem lay_nil (bs : By) (a : Nat) : lay bs a [] = bs := by simp [lay]
theorem lay_snoc (bs : By) (a : Nat) (x : By) (c : UInt8) (h : a + x.length < bs.length) : lay bs a (x ++ [c]) = (lay bs a x).set (a + x.length) c := by
  unfold lay
  have h1 : (bs.take a).length = a := by simp; omega
  rw [List.set_append, if_neg (by omega), h1, List.set_append, if_neg (by omega), show a + x.length - a - x.length = 0 by omega, List.drop_eq_getElem_cons h, List.set_cons_zero]
  simp [Nat.add_assoc]
theorem or_step (x k c : Nat) (hx : x < 256 ^ k) (hk : k < 8) (hc : c < 256) : bits .or .u64 (x : Int) (IntKind.u64.wrap ((c : Int) * 2 ^ ((8 : Int) * (k : Int)).toNat)) = ((x + 256 ^ k * c : Nat) : Int) := by
  have e1 : ((8 : Int) * (k : Int)).toNat = 8 * k := by omega
  have e2 : (256 : Nat) ^ k = 2 ^ (8 * k) := by rw [Nat.pow_mul]
  rw [e1]
  rw [e2] at hx ⊢
  have hp : 2 ^ (8 * k) * 256 ≤ 18446744073709551616 := by
    rw [show (256 : Nat) = 2 ^ 8 from rfl, ← Nat.pow_add, show (18446744073709551616 : Nat) = 2 ^ 64 from rfl]
    exact Nat.pow_le_pow_right (by omega) (by omega)
  have hm : c * 2 ^ (8 * k) < 18446744073709551616 := by
    have : c * 2 ^ (8 * k) ≤ 255 * 2 ^ (8 * k) := Nat.mul_le_mul_right _ (by omega)
    omega
  have e3 : IntKind.u64.wrap ((c : Int) * 2 ^ (8 * k)) = ((c * 2 ^ (8 * k) : Nat) : Int) := by
    rw [show ((c : Int) * 2 ^ (8 * k)) = ((c * 2 ^ (8 * k) : Nat) : Int) by push_cast; rfl]
    rw [IntKind.wrap_u64]; omega
  rw [e3, bits_or_u64_nat _ _ (by omega) hm]
  have h4 := Nat.shiftLeft_add_eq_or_of_lt hx c
  rw [Nat.shiftLeft_eq] at h4
  rw [Nat.or_comm, ← h4, Nat.add_comm, Nat.mul_comm c]
end Go.Proofs.YtmggichckhoomaaGreatDoor
end
section
namespace Go.Proofs.YtmggichckhoomaaGreatDoor
open Go.RowKit
set_option linter.unusedVariables false
set_option linter.unusedSimpArgs false
/-- Block p is a memory object of type T, block b its bytes. -/
def Mem (T : TypeId) (w : World) (p b : Nat) (bs : By) : Prop :=
  w.heap[p]? = some (.cells #[.slice (some ⟨b, 0, none⟩) bs.length bs.length] T (0, 0)) ∧ w.heap[b]? = some (.cells (Lib.byteCells bs).toArray 5 (0, 0))
theorem lt_blk {w : World} {g : Nat} {o : Obj} (h : w.heap[g]? = some o) : g < w.heap.size := (Array.getElem?_eq_some_iff.1 h).1
theorem Mem.ne {T : TypeId} {w : World} {p b : Nat} {bs : By} (h : Mem T w p b bs) (hT : T ≠ 5) : p ≠ b := by
  rintro rfl
  have := h.1.symm.trans h.2
  simp at this
  exact hT this.2
theorem Mem.lt {T : TypeId} {w : World} {p b : Nat} {bs : By} (h : Mem T w p b bs) : p < w.heap.size ∧ b < w.heap.size := ⟨lt_blk h.1, lt_blk h.2⟩
theorem Mem.below {T : TypeId} {w w' : World} {p b : Nat} {bs : By} (h : Mem T w p b bs) {B : Nat} (hb : Below B w w') (hp : p < B) (hq : b < B) : Mem T w' p b bs := ⟨(hb.block p hp).trans h.1, (hb.block b hq).trans h.2⟩
theorem Mem.nb {T : TypeId} {w w' : World} {p b : Nat} {bs : By} (h : Mem T w p b bs) (hb : Below w.heap.size w w') : Mem T w' p b bs := h.below hb h.lt.1 h.lt.2
theorem Mem.grown {T : TypeId} {w w' : World} {p b : Nat} {bs : By} (h : Mem T w p b bs) {row : Option Nat} (hg : w.grownBy w' row) (hp : some p ≠ row) (hb : some b ≠ row) : Mem T w' p b bs :=
  ⟨(hg.block p h.lt.1 hp).trans h.1, (hg.block b h.lt.2 hb).trans h.2⟩
theorem Mem.head {T : TypeId} {w : World} {p b : Nat} {bs : By} (h : Mem T w p b bs) : w.cell? ⟨p, 0, none⟩ = some (.slice (some ⟨b, 0, none⟩) bs.length bs.length) := cell_of_row _ _ 0 _ _ _ h.1
theorem Mem.byte {T : TypeId} {w : World} {p b : Nat} {bs : By} (h : Mem T w p b bs) (k : Nat) (hk : k < bs.length) : w.cell? ⟨b, k, none⟩ = some (.int .u8 (bs[k].toNat : Int)) := by
  rw [cell_of_row _ _ k _ _ _ h.2]
  simp [Lib.byteCells, hk]
theorem frozen_blk {w : World} {g : Nat} {cs : Array Value} {t : TypeId} (h : w.heap[g]? = some (.cells cs t (0, 0))) (k : Nat) : w.frozen? ⟨g, k, none⟩ = false := by simp [World.frozen?, h]
theorem Mem.frozen {T : TypeId} {w : World} {p b : Nat} {bs : By} (h : Mem T w p b bs) (k : Nat) : w.frozen? ⟨b, k, none⟩ = false := frozen_blk h.2 k
theorem set_blk {w : World} {g : Nat} {cs : Array Value} {t : TypeId} (h : w.heap[g]? = some (.cells cs t (0, 0))) (k : Nat) (v : Value) : (w.setCell ⟨g, k, none⟩ v).heap[g]? = some (.cells (cs.setIfInBounds k v) t (0, 0)) := by
  simp [World.setCell, Array.getElem?_modify, h]
theorem set_grown (w : World) (g k : Nat) (v : Value) : w.grownBy (w.setCell ⟨g, k, none⟩ v) (some g) :=
  ⟨rfl, rfl, rfl, by simp [World.setCell], fun i _ hi => Below.heap_setCell _ _ _ i (fun e => hi (by rw [e]))⟩
theorem byteCells_set (bs : By) (k : Nat) (c : UInt8) : (Lib.byteCells bs).set k (.int .u8 (c.toNat : Int)) = Lib.byteCells (bs.set k c) := by
  simp [Lib.byteCells, List.map_set]
theorem Mem.set {T : TypeId} {w : World} {p b : Nat} {bs : By} (h : Mem T w p b bs) (hT : T ≠ 5) (k : Nat) (c : UInt8) : Mem T (w.setCell ⟨b, k, none⟩ (.int .u8 (c.toNat : Int))) p b (bs.set k c) := by
  refine ⟨?_, ?_⟩
  · rw [List.length_set]; exact (Below.heap_setCell _ _ _ _ (h.ne hT)).trans h.1
  · rw [set_blk h.2, ← byteCells_set]; simp
theorem grown_trans {w w1 w2 : World} {row : Option Nat} (h : w.grownBy w1 row) (k : w1.grownBy w2 row) : w.grownBy w2 row :=
  ⟨k.os.trans h.os, k.tape.trans h.tape, k.output.trans h.output, Nat.le_trans h.size k.size, fun i hi hr => (k.block i (Nat.lt_of_lt_of_le hi h.size) hr).trans (h.block i hi hr)⟩
/-- Of what stands below B nothing has turned, the one row being above. -/
theorem below_grown {B b : Nat} {w w1 w2 : World} (h : Below B w w1) (k : w1.grownBy w2 (some b)) (hB : B ≤ w1.heap.size) (hb : B ≤ b) : Below B w w2 :=
  h.grown k hB (fun i e => by injection e with e; omega)
/-- Why so many bytes can't be there. -/
def fltP (n : Nat) (at_ k : Int) : Int := if (n : Int) < at_ + k then 50 else 0
/-- Why a number can't be there. -/
def flt (n : Nat) (at_ size : Int) : Int := if ¬ (size = 1 ∨ size = 2 ∨ size = 4 ∨ size = 8) then 2 else if at_ % size ≠ 0 then 51 else fltP n at_ size
theorem flt_size {n : Nat} {a s : Int} (h : ¬ (s = 1 ∨ s = 2 ∨ s = 4 ∨ s = 8)) : flt n a s = 2 := if_pos h
theorem flt_align {n : Nat} {a s : Int} (h : s = 1 ∨ s = 2 ∨ s = 4 ∨ s = 8) (h2 : a % s ≠ 0) : flt n a s = 51 := by unfold flt; rw [if_neg (by omega), if_pos h2]
theorem flt_part {n : Nat} {a s : Int} (h : s = 1 ∨ s = 2 ∨ s = 4 ∨ s = 8) (h2 : a % s = 0) : flt n a s = fltP n a s := by unfold flt; rw [if_neg (by omega), if_neg (by omega)]
theorem flt_ok {n : Nat} {a s : Int} (h : flt n a s = 0) : (s = 1 ∨ s = 2 ∨ s = 4 ∨ s = 8) ∧ a % s = 0 ∧ a + s ≤ n := by
  unfold flt fltP at h
  split at h
  · cases h
  · rename_i h1
    split at h
    · cases h
    · rename_i h2
      split at h
      · cases h
      · rename_i h3
        refine ⟨by omega, by omega, by omega⟩
end Go.Proofs.YtmggichckhoomaaGreatDoor
end
