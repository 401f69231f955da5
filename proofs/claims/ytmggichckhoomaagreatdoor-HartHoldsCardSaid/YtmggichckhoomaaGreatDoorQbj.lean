/-
  Proved here: what done of the code answers. Conditions: the hart's numbers are words; the memory is one that a call made, of at most 2^24 bytes; the table of codes holds what its text lays.
-/
import Derived.Test.YtmggichckhoomaaGreatDoorQbi
import Derived.Deep.RegionHeld3
namespace Go.Proofs.YtmggichckhoomaaGreatDoor
open Go.RowKit
set_option linter.unusedVariables false
set_option linter.unusedSimpArgs false
theorem size36 : (Tryz.prog.info? 25).map (·.size) = some 36 := by kernel_rfl
theorem ld36 (g : Nat) (cs : Array Value) (t : TypeId) (fr : Nat × Nat) (w : World) (hg : w.heap[g]? = some (.cells cs t fr)) (hs : cs.size = 36) : (loadVar 25 ⟨g, 0, none⟩).run Tryz.prog w = .ok (.agg cs) w :=
  run_loadVar_row _ _ _ _ _ fr _ hg Tryz.underlying25 rfl (by rw [size36, hs])
theorem res_ctt {fn : Func} {p u v : Tmp} {ty : TypeId} {P : Program} (h : fn.results = #[.cell p ty, .tmp u, .tmp v]) (tmps : Array Value) (w : World) (g : Nat) (cs : Array Value)
    (hp : tmps.getD p undef = .pointer (some ⟨g, 0, none⟩)) (hl : (loadVar ty ⟨g, 0, none⟩).run P w = .ok (.agg cs) w) :
    (results fn tmps).run P w = .ok (.tuple #[.agg cs, tmps.getD u undef, tmps.getD v undef]) w := by
  have e : (asAddr (.pointer (some ⟨g, 0, none⟩))).run P w = .ok ⟨g, 0, none⟩ w := rfl
  simp only [results, h]
  simp only [Array.getD_eq_getD_getElem?] at hp
  simp [Sem.run_bind, Result.andThen, hp, e, hl]
def DonAns (h : HV) (i : In7) (a b : Int) (bs : By) (p q : Nat) (w : World) (e : Ending) (w' : World) : Prop :=
  e = .returned (.tuple #[hA (donS h i a b bs).1, .int .u64 (donS h i a b bs).2.1, .int .i64 (donS h i a b bs).2.2.1]) ∧ Mem 92 w' p q (donS h i a b bs).2.2.2 ∧ w.grownBy w' (some q)
def zerosH : Array Value := #[.int .u64 0, .int .u64 0, .int .u64 0, .int .u64 0, .int .u64 0, .int .u64 0, .int .u64 0, .int .u64 0, .int .u64 0, .int .u64 0, .int .u64 0, .int .u64 0, .int .u64 0, .int .u64 0, .int .u64 0, .int .u64 0, .int .u64 0, .int .u64 0, .int .u64 0, .int .u64 0, .int .u64 0, .int .u64 0, .int .u64 0, .int .u64 0, .int .u64 0, .int .u64 0, .int .u64 0, .int .u64 0, .int .u64 0, .int .u64 0, .int .u64 0, .int .u64 0, .int .u64 0, .bool false, .int .u64 0, .int .i64 0]
theorem _root_.Go.Proofs.YtmggichckhoomaaGreatDoor.Nb.grown_none {w w1 : World} {row : Option Nat} (h : Nb w w1) : w.grownBy w1 row := ⟨Below.os h, Below.tape h, Below.output h, Below.size h, fun k hk _ => Below.block h k hk⟩
theorem don_end {h : HV} {w W1 : World} {p q g : Nat} {bs : By} {old : Array Value} (hg : w.grownBy W1 (some q)) (hM : Mem 92 W1 p q bs) (k0 : W1.heap[g]? = some (.cells old 25 (0, 0))) (hlen : (hC h).toArray.size = 36) (hgw : w.heap.size ≤ g)
    (tmps : Array Value) (v E : Int) (hp : tmps.getD 10 undef = .pointer (some ⟨g, 0, none⟩)) (h11 : tmps.getD 11 undef = .int .u64 v) (h12 : tmps.getD 12 undef = .int .i64 E) :
    bodyPost Tryz.prog Tryz.f34 (fun e w' => e = .returned (.tuple #[.agg (hC h).toArray, .int .u64 v, .int .i64 E]) ∧ Mem 92 w' p q bs ∧ w.grownBy w' (some q)) Exit.ret { tmps := tmps, defers := [] } (W1.setRow g (hC h).toArray) := by
  have k2 := setRow_heap W1 g _ (hC h).toArray 25 _ k0
  have hpg : p ≠ g := by
    rintro rfl
    have := hM.1.symm.trans k0
    simp at this
  have hqg : q ≠ g := by
    rintro rfl
    have := hM.2.symm.trans k0
    simp at this
  refine bodyPost_ret (res_ctt rfl _ _ g _ hp (ld36 g _ _ _ _ k2 hlen)) rfl ⟨by rw [h11, h12], ⟨(setRow_other W1 g p _ hpg).trans hM.1, (setRow_other W1 g q _ hqg).trans hM.2⟩, ?_⟩
  exact ⟨hg.os, hg.tape, hg.output, Nat.le_trans hg.size (by simp [World.setRow]), fun k hk hr => (setRow_other W1 g k _ (by omega)).trans (hg.block k hk hr)⟩
set_option maxRecDepth 100000 in
set_option maxHeartbeats 2000000 in
theorem done_plain (h : HV) (i : In7) (a b : Int) (p q : Nat) (bs : By) (hh : HOk h) (hi : -9223372036854775808 ≤ i.2.2.2.2.1 ∧ i.2.2.2.2.1 < 9223372036854775808) (qa : InU a) (qb : InU b) (hn : LoadB i.1 = false ∧ StoreB i.1 = false) (hl : bs.length ≤ 16777216) (w : World) (hC0 : Cod w) (hM : Mem 92 w p q bs) :
    Calls Tryz.prog 34 #[hA h, i7A i, .int .u64 a, .int .u64 b, .pointer (some ⟨p, 0, none⟩)] w (DonAns h i a b bs p q w) := by
  have e0 := Lib.hid (show donS h i a b bs = (h, VX i.1 i.2.1 i.2.2.1 i.2.2.2.1 i.2.2.2.2.1 i.2.2.2.2.2.1 i.2.2.2.2.2.2 h.pc a b, 0, bs) from if_pos hn)
  have h1 := Lib.hid (loads_any i.1)
  have h2 := Lib.hid (stores_any i.1)
  rw [hn.1] at h1
  rw [hn.2] at h2
  have HV := Lib.hid fun w1 hc => val_any i.1 i.2.1 i.2.2.1 i.2.2.2.1 i.2.2.2.2.1 h.pc a b i.2.2.2.2.2.1 i.2.2.2.2.2.2 qa qb hi.1 hi.2 w1 hc
  have hlen := Lib.hid (show (hC h).toArray.size = 36 by rw [List.size_toArray]; exact hC_len hh.len)
  have hone := Lib.hid (one_all (hC_one h))
  clear hn hh hi qa qb
  unfold DonAns
  rw [e0.out]
  generalize VX i.1 i.2.1 i.2.2.1 i.2.2.2.1 i.2.2.2.2.1 i.2.2.2.2.2.1 i.2.2.2.2.2.2 h.pc a b = v at *
  generalize EX i.1 i.2.1 i.2.2.1 i.2.2.2.1 i.2.2.2.2.1 i.2.2.2.2.2.1 i.2.2.2.2.2.2 = ex at *
  unfold hA i7A
  go_enter Tryz.func34, Tryz.ntmps34
  go_upto_region 1 with (fail)
  obtain ⟨W1, w1e⟩ : ∃ W1, ((w.alloc (Obj.cells (hC h).toArray 25)).alloc (Obj.cells #[.int .i64 i.1, .int .i64 i.2.1, .int .i64 i.2.2.1, .int .i64 i.2.2.2.1, .int .i64 i.2.2.2.2.1, .bool i.2.2.2.2.2.1, .bool i.2.2.2.2.2.2] 56)).alloc (Obj.cells #[.int .u64 0, .int .u64 0, .int .u64 0, .int .u64 0, .int .u64 0, .int .u64 0, .int .u64 0, .int .u64 0, .int .u64 0, .int .u64 0, .int .u64 0, .int .u64 0, .int .u64 0, .int .u64 0, .int .u64 0, .int .u64 0, .int .u64 0, .int .u64 0, .int .u64 0, .int .u64 0, .int .u64 0, .int .u64 0, .int .u64 0, .int .u64 0, .int .u64 0, .int .u64 0, .int .u64 0, .int .u64 0, .int .u64 0, .int .u64 0, .int .u64 0, .int .u64 0, .int .u64 0, .bool false, .int .u64 0, .int .i64 0] 25) = W1 := ⟨_, rfl⟩
  have n1 : Nb w W1 := by rw [← w1e]; exact (((Nb.refl _).alloc _).alloc _).alloc _
  have kH : W1.heap[w.heap.size]? = some (.cells (hC h).toArray 25 (0, 0)) := by rw [← w1e]; exact old_blk (old_blk (new_blk _ _ rfl) _) _
  have kI : W1.heap[w.heap.size + 1]? = some (.cells #[.int .i64 i.1, .int .i64 i.2.1, .int .i64 i.2.2.1, .int .i64 i.2.2.2.1, .int .i64 i.2.2.2.2.1, .bool i.2.2.2.2.2.1, .bool i.2.2.2.2.2.2] 56 (0, 0)) := by rw [← w1e]; exact old_blk (new_blk _ _ (by simp)) _
  have kZ : W1.heap[w.heap.size + 1 + 1]? = some (.cells zerosH 25 (0, 0)) := by rw [← w1e]; exact new_blk _ _ (by simp)
  rw [w1e]
  clear w1e
  obtain ⟨z, c0, c1, c2, c3, c4, c5, c6⟩ := cells7 kI
  have cP : W1.cell? ⟨w.heap.size, 0, none⟩ = some (.int .u64 h.pc) := by rw [cell_of_row _ _ 0 _ _ _ kH]; rfl
  go_wp2_with fail
  refine (h1.out _).mono ?_
  rintro e w' ⟨rfl, rfl⟩
  go_wp2_with fail
  refine (h2.out _).mono ?_
  rintro e w' ⟨rfl, rfl⟩
  go_wp2_with fail
  refine (HV.out _ (hC0.of_nb n1)).mono ?_
  rintro e w2 ⟨rfl, n2⟩
  replace kH := n2.block kH
  replace kZ := n2.block kZ
  have nn := n1.trans n2
  clear n1 n2 z c0 c1 c2 c3 c4 c5 c6 cP kI
  go_wp2_with (first
    | refine wpList_load_row rfl 25 (.tmp 5) rfl w.heap.size rfl 25 (hC h).toArray (0, 0) _ kH Tryz.underlying25 rfl (by rw [size36, hlen.out]) ?_
    | refine wpList_store_row rfl 25 (.tmp 10) (.tmp 39) rfl (w.heap.size + 1 + 1) (hC h).toArray rfl rfl 25 _ kZ (by rw [size36, hlen.out]) (by rw [hlen.out]; rfl) hone.out ?_)
  exact don_end (nn.grown_none) (hM.nb nn) kZ hlen.out (by omega) _ _ _ rfl rfl rfl
end Go.Proofs.YtmggichckhoomaaGreatDoor
