/-
  Proved here: what done of the code answers, whatever the instruction; what a step ends in. Conditions: the hart's numbers are words; the memory is one that a call made, of at most 2^24 bytes; the table of codes holds what its text lays. ¦ what Step of the code answers, where nothing is fetched. Conditions: the hart's numbers are words; the memory is one that a call made, of at most 2^24 bytes; the table of codes holds what its text lays.
-/
import Derived.Test.YtmggichckhoomaaGreatDoorQbk
section
namespace Go.Proofs.YtmggichckhoomaaGreatDoor
open Go.RowKit
set_option linter.unusedVariables false
set_option linter.unusedSimpArgs false
theorem adB_in (op im a : Int) (qa : InU a) : InU (AdB op im a) := by
  unfold AdB
  split
  · exact qa
  · split
    · exact in_wrap _
    · exact ⟨by omega, by omega⟩
theorem sc_any (n : Int) (hn : n = 67 ∨ n = 78) : LoadB n = false ∧ StoreB n = true := by
  rcases hn with rfl | rfl <;> exact ⟨rfl, rfl⟩
theorem done_any (h : HV) (i : In7) (a b : Int) (p q : Nat) (bs : By) (hh : HOk h) (hi : -9223372036854775808 ≤ i.2.2.2.2.1 ∧ i.2.2.2.2.1 < 9223372036854775808) (qa : InU a) (qb : InU b) (hl : bs.length ≤ 16777216) (w : World) (hC0 : Cod w) (hM : Mem 92 w p q bs) :
    Calls Tryz.prog 34 #[hA h, i7A i, .int .u64 a, .int .u64 b, .pointer (some ⟨p, 0, none⟩)] w (DonAns h i a b bs p q w) := by
  have qt := adB_in i.1 i.2.2.2.2.1 a qa
  by_cases h66 : i.1 = 66
  · exact done_lr66 h i a b p q bs hh qa qb qt h66 (by rw [h66]; rfl) hl w hC0 hM
  by_cases h77 : i.1 = 77
  · exact done_lr77 h i a b p q bs hh qa qb qt h77 (by rw [h77]; rfl) hl w hC0 hM
  by_cases h67 : i.1 = 67
  · obtain ⟨hL, hS⟩ := sc_any i.1 (.inl h67)
    by_cases k1 : h.held = true
    · by_cases k2 : h.addr = AdB i.1 i.2.2.2.2.1 a
      · by_cases k3 : h.size = SizeI i.1
        · exact done_sc67ok h i a b p q bs hh qa qb qt h67 hL hS k1 k2 k3 hl w hC0 hM
        · exact done_sc67f3 h i a b p q bs hh qa qb qt h67 hL hS k1 k2 k3 hl w hC0 hM
      · exact done_sc67f2 h i a b p q bs hh qa qb qt h67 hL hS k1 k2 hl w hC0 hM
    · exact done_sc67f1 h i a b p q bs hh qa qb qt h67 hL hS (by simpa using k1) hl w hC0 hM
  by_cases h78 : i.1 = 78
  · obtain ⟨hL, hS⟩ := sc_any i.1 (.inr h78)
    by_cases k1 : h.held = true
    · by_cases k2 : h.addr = AdB i.1 i.2.2.2.2.1 a
      · by_cases k3 : h.size = SizeI i.1
        · exact done_sc78ok h i a b p q bs hh qa qb qt h78 hL hS k1 k2 k3 hl w hC0 hM
        · exact done_sc78f3 h i a b p q bs hh qa qb qt h78 hL hS k1 k2 k3 hl w hC0 hM
      · exact done_sc78f2 h i a b p q bs hh qa qb qt h78 hL hS k1 k2 hl w hC0 hM
    · exact done_sc78f1 h i a b p q bs hh qa qb qt h78 hL hS (by simpa using k1) hl w hC0 hM
  cases hL : LoadB i.1
  · cases hS : StoreB i.1
    · exact done_plain h i a b p q bs hh hi qa qb ⟨hL, hS⟩ hl w hC0 hM
    · exact done_store h i a b p q bs hh qa qb qt hL hS ⟨h66, h77, h67, h78⟩ hl w hC0 hM
  · exact done_load h i a b p q bs hh qa qb qt hL ⟨h66, h77, h67, h78⟩ hl w hC0 hM
theorem rg_in {xs : List Int} (h : ∀ v ∈ xs, InU v) (r : Nat) : InU (rg xs r) := by
  unfold rg
  rw [List.getD_eq_getElem?_getD]
  cases hq : (xs.set 0 0)[r]? with
  | none => exact ⟨by simp, by simp⟩
  | some v =>
    rcases List.mem_or_eq_of_mem_set (List.mem_of_getElem? hq) with hv | rfl
    · exact h v hv
    · exact ⟨by simp, by simp⟩
theorem read_q (B : Nat) (xs : List Int) (r : Int) (h0 : 0 ≤ r) (h1 : r < 32) (w : World) (hB : w.heap[B]? = some (.cells (xV (xs.set 0 0)).toArray 23 (0, 0))) (hx : xs.length = 32) :
    Calls Tryz.prog 55 #[.int .i64 r, .pointer (some ⟨B, 0, none⟩)] w fun e w' => e = .returned (.int .u64 (rg xs r.toNat)) ∧ w' = w := by
  obtain ⟨n, rfl⟩ := Int.eq_ofNat_of_zero_le h0
  exact (read1_any B xs n (by omega) w hB hx).mono fun _ _ ⟨h, k⟩ => ⟨h, k.symm⟩
def StpAns (h : HV) (bs : By) (p q : Nat) (w : World) (e : Ending) (w' : World) : Prop :=
  e = .returned (.tuple #[hA (stepS h bs).1, .int .i64 (stepS h bs).2.1]) ∧ Mem 92 w' p q (stepS h bs).2.2 ∧ w.grownBy w' (some q)
theorem stp_end {h : HV} {w W1 : World} {p q g : Nat} {bs : By} {old : Array Value} (hg : w.grownBy W1 (some q)) (hM : Mem 92 W1 p q bs) (k0 : W1.heap[g]? = some (.cells old 25 (0, 0))) (hlen : (hC h).toArray.size = 36) (hgw : w.heap.size ≤ g)
    (tmps : Array Value) (E : Int) (hp : tmps.getD 4 undef = .pointer (some ⟨g, 0, none⟩)) (h5 : tmps.getD 5 undef = .int .i64 E) :
    bodyPost Tryz.prog Tryz.f13 (fun e w' => e = .returned (.tuple #[.agg (hC h).toArray, .int .i64 E]) ∧ Mem 92 w' p q bs ∧ w.grownBy w' (some q)) Exit.ret { tmps := tmps, defers := [] } (W1.setRow g (hC h).toArray) := by
  have k2 := setRow_heap W1 g _ (hC h).toArray 25 _ k0
  have hpg : p ≠ g := by
    rintro rfl
    have := hM.1.symm.trans k0
    simp at this
  have hqg : q ≠ g := by
    rintro rfl
    have := hM.2.symm.trans k0
    simp at this
  refine bodyPost_ret (res_ct rfl _ _ g _ hp (ld36 g _ _ _ _ k2 hlen)) rfl ⟨by rw [h5], ⟨(setRow_other W1 g p _ hpg).trans hM.1, (setRow_other W1 g q _ hqg).trans hM.2⟩, ?_⟩
  exact ⟨hg.os, hg.tape, hg.output, Nat.le_trans hg.size (by simp [World.setRow]), fun k hk hr => (setRow_other W1 g k _ (by omega)).trans (hg.block k hk hr)⟩
end Go.Proofs.YtmggichckhoomaaGreatDoor
end
section
namespace Go.Proofs.YtmggichckhoomaaGreatDoor
open Go.RowKit
set_option linter.unusedVariables false
set_option linter.unusedSimpArgs false
def iC (i : In7) : Array Value := #[.int .i64 i.1, .int .i64 i.2.1, .int .i64 i.2.2.1, .int .i64 i.2.2.2.1, .int .i64 i.2.2.2.2.1, .bool i.2.2.2.2.2.1, .bool i.2.2.2.2.2.2]
theorem i7A_eq (i : In7) : i7A i = .agg (iC i) := rfl
theorem iC_one (i : In7) : (iC i).all (·.oneCell') = true := by simp [iC, Value.oneCell']
theorem iC_size (i : In7) : (iC i).size = 7 := rfl
set_option maxRecDepth 100000 in
set_option maxHeartbeats 4000000 in
theorem step_a (h : HV) (p q : Nat) (bs : By) (hh : HOk h) (hl : bs.length ≤ 16777216) (hf : (fetS bs h.pc).2 ≠ 0) (w : World) (hC0 : Cod w) (hM : Mem 92 w p q bs) :
    Calls Tryz.prog 13 #[hA h, .pointer (some ⟨p, 0, none⟩)] w (StpAns h bs p q w) := by
  have e0 := Lib.hid (show stepS h bs = (h, (fetS bs h.pc).2, bs) from if_neg hf)
  have HF := Lib.hid fun w1 hc hm => fetched_any h.pc p q bs hh.pc hl w1 hc hm
  have hlen2 := Lib.hid (show (hC h).toArray.size = 36 by rw [List.size_toArray]; exact hC_len (by exact hh.len))
  have hone := Lib.hid (one_all (hC_one h))
  have hlen := Lib.hid hh.len
  unfold StpAns
  rw [e0.out]
  dsimp only
  generalize fetS bs h.pc = fe at *
  obtain ⟨i, E⟩ := fe
  dsimp only at hf ⊢
  have hf' : (E != 0) = true := by simp [bne, hf]
  clear hh hf
  unfold hA
  go_enter Tryz.func13, Tryz.ntmps13
  go_upto_region 1 with (fail)
  obtain ⟨W1, w1e⟩ : ∃ W1, (w.alloc (Obj.cells (hC h).toArray 25)).alloc (Obj.cells zerosH 25) = W1 := ⟨_, rfl⟩
  have n1 : Nb w W1 := by rw [← w1e]; exact ((Nb.refl _).alloc _).alloc _
  have kH : W1.heap[w.heap.size]? = some (.cells (hC h).toArray 25 (0, 0)) := by rw [← w1e]; exact old_blk (new_blk _ _ rfl) _
  have kZ : W1.heap[w.heap.size + 1]? = some (.cells zerosH 25 (0, 0)) := by rw [← w1e]; exact new_blk _ _ (by simp)
  change Code.wp _ _ _ _ ((w.alloc (Obj.cells (hC h).toArray 25)).alloc (Obj.cells zerosH 25))
  rw [w1e]
  clear w1e
  obtain ⟨cP, -⟩ := cell36 kH hlen.out
  go_wp2_with fail
  refine (HF.out _ (hC0.of_nb n1) (hM.nb n1)).mono ?_
  rintro e w2 ⟨rfl, n2⟩
  have nn := n1.trans n2
  replace kH := n2.block kH
  replace kZ := n2.block kZ
  rw [i7A_eq]
  clear cP HF n1 n2
  go_upto_region 2 with (first
    | refine wpList_store_row rfl 56 (.tmp 6) (.tmp 18) rfl w2.heap.size (iC i) rfl rfl 56 _ (heap_alloc_new w2 _) (by rw [size7, iC_size]) rfl (iC_one i) ?_)
  obtain ⟨W3, w3e⟩ : ∃ W3, (w2.alloc (Obj.cells #[.int .i64 0, .int .i64 0, .int .i64 0, .int .i64 0, .int .i64 0, .bool false, .bool false] 56)).setRow w2.heap.size (iC i) = W3 := ⟨_, rfl⟩
  have n3 : Nb w2 W3 := by rw [← w3e]; exact ((Nb.refl _).alloc _).setRow (Nat.le_refl _) _
  have kI : W3.heap[w2.heap.size]? = some (.cells (iC i) 56 (0, 0)) := by rw [← w3e]; exact setRow_heap _ _ _ _ _ _ (heap_alloc_new w2 _)
  have zz := Below.size nn
  rw [w3e]
  clear w3e
  replace kH := n3.block kH
  replace kZ := n3.block kZ
  have n4 := nn.trans n3
  clear n3 nn
  go_wp2_with (first
    | refine wpList_load_row rfl 25 (.tmp 2) rfl w.heap.size rfl 25 (hC h).toArray (0, 0) _ kH Tryz.underlying25 rfl (by rw [size36, hlen2.out]) ?_
    | refine wpList_store_row rfl 25 (.tmp 4) (.tmp 22) rfl (w.heap.size + 1) (hC h).toArray rfl rfl 25 _ kZ (by rw [size36, hlen2.out]) (by rw [hlen2.out]; rfl) hone.out ?_)
  exact stp_end (n4.grown_none) (hM.nb n4) kZ hlen2.out (by omega) _ _ rfl rfl
end Go.Proofs.YtmggichckhoomaaGreatDoor
end
