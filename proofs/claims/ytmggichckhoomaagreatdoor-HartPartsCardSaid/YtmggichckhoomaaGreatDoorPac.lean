/-
  Proved here: what Clone of the code answers, and what stands in memory behind it; the example of the chapter on memory stands. Conditions: the memory is one that a call made, of at most 2^24 bytes.
-/
import Derived.Test.YtmggichckhoomaaGreatDoorPaa
import Derived.Test.YtmggichckhoomaaGreatDoorQbn
import Derived.Deep.RegionLaw
namespace Go.Proofs.YtmggichckhoomaaGreatDoor
open Go.RowKit
set_option linter.unusedVariables false
set_option linter.unusedSimpArgs false
theorem step_copy_row {P : Program} {ops : Array Oper} {o : Oper} {a : Act} {w : World} {K : Act → World → Prop} {Q : Exit → Act → World → Prop} {E : Prop} (hgd : o.guard = none) (d s : Operand) (dT sT : TypeId)
    (ho : o.op = .call { callee := .builtin .copy, args := #[d, s], argTypes := #[dT, sT] }) (elem : TypeId) (hu : P.underlying dT = some (.slice elem)) (hsz : (P.info? elem).map (·.size) = some 1)
    (g off dLen dCap : Nat) (ad : Addr) (sLen sCap : Nat) (hd : a.eval d = .slice (some ⟨g, off, none⟩) dLen dCap) (hs : a.eval s = .slice (some ad) sLen sCap)
    (cur : Array Value) (t : TypeId) (hg : w.heap[g]? = some (.cells cur t (0, 0))) (cs : List Value) (hn : cs.length = Nat.min sLen dLen)
    (hsrc : ∀ j v, cs[j]? = some v → w.cell? (ad.add j) = some v) (hfit : off + cs.length ≤ cur.size) (h1 : ∀ v ∈ cs, v.oneCell' = true)
    (h : K (a.put o.dst (goInt cs.length)) (w.setRow g (cur.toList.take off ++ (cs ++ cur.toList.drop (off + cs.length))).toArray)) :
    if Region.wanted o (yielded ops a.tmps) = true then Oper.wp P o a w K Q else E := by
  have hw : Region.wanted o (yielded ops a.tmps) = true := by simp [Region.wanted, hgd]
  rw [if_pos hw]
  have hrun := run_copy_row (P := P) w dT sT o.type elem g off dLen dCap ad sLen sCap cur t cs hu hsz hg hn hsrc hfit h1
  unfold Oper.wp
  simp [execOp, ho, resolve, invoke, builtin, hd, hs, hrun, Result.andThen]
  exact h
def CloneM (T : TypeId) (bs : By) (w : World) (e : Ending) (w' : World) : Prop :=
  e = .returned (.pointer (some ⟨w.heap.size + 1, 0, none⟩)) ∧ Mem T w' (w.heap.size + 1) w.heap.size bs ∧ Below w.heap.size w w' ∧ w'.heap.size = w.heap.size + 2
set_option maxRecDepth 100000 in
set_option maxHeartbeats 1000000 in
theorem clone_any (p b : Nat) (bs : By) (hl : bs.length ≤ 16777216) (w : World) (hM : Mem 92 w p b bs) :
    Calls Tryz.prog 18 #[.pointer (some ⟨p, 0, none⟩)] w (CloneM 92 bs w) := by
  have HN := Lib.hid (new_any bs.length hl w)
  unfold MadeM at HN
  have hc := hM.head
  go_enter Tryz.func18, Tryz.ntmps18
  go_wp2_with fail
  refine (made_any p b bs _ hM).mono ?_
  rintro e w' ⟨rfl, rfl⟩
  go_wp2_with fail
  refine (HN.out).mono ?_
  rintro e w1 ⟨rfl, hM1, hb1, hz1⟩
  have hMo := hM.nb hb1
  have c0 := hMo.head
  have c1 := hM1.head
  rw [List.length_replicate] at c1
  have hz1' := Lib.hid hz1
  clear hz1 hc HN
  have h5 := Lib.hid (setRow_grown w1.drew w.heap.size (Lib.byteCells bs).toArray)
  have h6 := Lib.hid (mem_row (w := w1.drew) (ys := bs) hM1 (by decide) (by simp))
  have hsrc := Lib.hid (src_part (w := w1.drew) (bs := bs) hMo.2 0 bs.length)
  have e1 : (bs.drop 0).take bs.length = bs := by simp
  rw [e1] at hsrc
  have hone := Lib.hid (byte_cells_one bs)
  have hcl := Lib.hid (Lib.byteCells_length bs)
  have hzl := Lib.hid (show (Lib.byteCells (List.replicate bs.length 0)).toArray.size = bs.length by simp [Lib.byteCells_length])
  have hcells := Lib.hid (show (Lib.byteCells (List.replicate bs.length 0)).toArray.toList.take 0 ++ (Lib.byteCells bs ++ (Lib.byteCells (List.replicate bs.length 0)).toArray.toList.drop (0 + (Lib.byteCells bs).length)) = Lib.byteCells bs by simp [Lib.byteCells_length])
  clear e1
  go_wp2_with fail
  go_region_law (refine step_copy_row rfl (.tmp 16) (.tmp 20) 27 27 rfl 5 Tryz.underlying27 (by kernel_rfl) w.heap.size 0 _ _ ⟨b, 0, none⟩ _ _ rfl rfl _ 5 hM1.2 (Lib.byteCells bs) (by rw [hcl.out]; exact (Nat.min_self _).symm) hsrc.out (by rw [hcl.out, hzl.out]; omega) hone.out ?_; rw [hcells.out])
  all_goals
    go_wp2_with fail
    go_ret
    exact ⟨rfl, h6.out, below_grown (hb1.drew) h5.out (by show w.heap.size ≤ w1.heap.size; have := hz1'.out; omega) (Nat.le_refl _), by have := hz1'.out; simp [World.setRow]; exact this⟩
end Go.Proofs.YtmggichckhoomaaGreatDoor
