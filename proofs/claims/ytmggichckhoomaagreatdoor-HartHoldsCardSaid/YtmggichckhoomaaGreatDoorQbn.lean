/-
  Proved here: what Step of the code answers; a step keeps the hart's numbers words and the memory's length; many steps as a plain function. Conditions: the hart's numbers are words; the memory is one that a call made, of at most 2^24 bytes; the table of codes holds what its text lays. ¦ what New, Len, Bytes, Put and Clone of the code answer, and what stands in memory behind them. Conditions: the memory is one that a call made, of at most 2^24 bytes.
-/
import Derived.Test.YtmggichckhoomaaGreatDoorQbm
import Derived.Test.YtmggichckhoomaaGreatDoorQan
section
namespace Go.Proofs.YtmggichckhoomaaGreatDoor
open Go.RowKit
set_option linter.unusedVariables false
set_option linter.unusedSimpArgs false
theorem step_any (h : HV) (p q : Nat) (bs : By) (hh : HOk h) (hl : bs.length ≤ 16777216) (w : World) (hC0 : Cod w) (hM : Mem 92 w p q bs) :
    Calls Tryz.prog 13 #[hA h, .pointer (some ⟨p, 0, none⟩)] w (StpAns h bs p q w) := by
  by_cases hf : (fetS bs h.pc).2 = 0
  · obtain ⟨i, hi, hg, hr, -, -⟩ := fet_good hf
    have hf2 : fetS bs h.pc = (i, 0) := by rw [← hi, ← hf]
    by_cases hd : (donS h i (rg h.x i.2.2.1.toNat) (rg h.x i.2.2.2.1.toNat) bs).2.2.1 = 0
    · exact step_c h i p q bs hh hl hf2 hg hr hd w hC0 hM
    · exact step_b h i p q bs hh hl hf2 hg hr hd w hC0 hM
  · exact step_a h p q bs hh hl hf w hC0 hM
theorem in_ite {c : Prop} [Decidable c] {x y : Int} (hx : InU x) (hy : InU y) : InU (if c then x else y) := by
  split
  · exact hx
  · exact hy
theorem zero_in : InU 0 := ⟨by decide, by decide⟩
theorem one_in : InU 1 := ⟨by decide, by decide⟩
theorem zero_sz : (-9223372036854775808 : Int) ≤ 0 ∧ (0 : Int) < 9223372036854775808 := ⟨by decide, by decide⟩
set_option maxRecDepth 100000 in
set_option maxHeartbeats 4000000 in
theorem wb_in (op a c : Int) (qa : InU a) (qc : InU c) : InU (WB op a c) := by
  have sa := in_sgn _ 32 qa
  have sc := in_sgn _ 32 qc
  have fa := in_fld _ 0 32 qa
  have fc := in_fld _ 0 32 qc
  unfold WB
  repeat' (with_reducible refine in_ite ?_ ?_)
  all_goals first
    | exact in_wrap _
    | exact in_sgn _ 32 (in_wrap _)
    | exact in_bit _
    | exact in_and _ _ qa qc
    | exact in_or _ _ qa qc
    | exact in_xor _ _ qa qc
    | exact in_sgn _ 32 (res_shr _ _ 32 fa fc)
    | exact res_shr _ _ 64 qa qc
    | exact in_sgn _ 32 (res_sar _ _ 32 sa sc)
    | exact res_sar _ _ 64 qa qc
    | exact hgh_word _ _ _ _ qa.1 qa.2 qc.1 qc.2
    | exact in_sgn _ 32 (res_quoSigned _ _ sa sc)
    | exact res_quoSigned _ _ qa qc
    | exact in_sgn _ 32 (res_quo _ _ fa fc)
    | exact res_quo _ _ qa qc
    | exact in_sgn _ 32 (res_remSigned _ _ sa sc)
    | exact res_remSigned _ _ qa qc
    | exact in_sgn _ 32 (res_rem _ _ fa fc)
    | exact res_rem _ _ qa qc
    | exact zero_in
theorem vx_all (op rd rs1 rs2 im : Int) (aq rl : Bool) (pc a b : Int) (qa : InU a) (qb : InU b) : InU (VX op rd rs1 rs2 im aq rl pc a b) := by
  unfold VX VB
  repeat' split
  all_goals first
    | exact in_wrap _
    | exact wb_in _ _ _ qa (in_wrap _)
    | exact wb_in _ _ _ qa qb
    | exact zero_in
theorem ldB_in (op raw : Int) (qr : InU raw) : InU (LdB op raw) := by
  unfold LdB
  repeat' split
  · exact in_fld _ _ _ qr
  · exact in_sgn _ _ qr
  · exact zero_in
theorem next_in (i : In7) (pc a b : Int) (qa : InU a) : InU (nextS i pc a b) := by
  unfold nextS TgB
  repeat' split
  all_goals first
    | exact in_wrap _
    | exact plc_w _ 0 1 0 (in_wrap _).1 (in_wrap _).2
theorem don_in (h : HV) (i : In7) (a b : Int) (bs : By) (qa : InU a) (qb : InU b) : InU (donS h i a b bs).2.1 := by
  unfold donS
  repeat' split
  all_goals first
    | exact vx_all _ _ _ _ _ _ _ _ _ _ qa qb
    | exact ldB_in _ _ (mov_in _ _ _ _ _)
    | exact zero_in
    | exact one_in
theorem size_in (op : Int) : -9223372036854775808 ≤ SizeI op ∧ SizeI op < 9223372036854775808 := by
  unfold SizeI
  repeat' split
  all_goals omega
theorem don_ok (h : HV) (i : In7) (a b : Int) (bs : By) (hh : HOk h) (qa : InU a) : HOk (donS h i a b bs).1 := by
  have q1 := adB_in i.1 i.2.2.2.2.1 a qa
  have q2 := size_in i.1
  unfold donS
  repeat' split
  all_goals first
    | exact hh
    | exact ⟨hh.len, hh.pc, hh.x, q1, q2⟩
    | exact ⟨hh.len, hh.pc, hh.x, zero_in, zero_sz⟩
theorem mem_set2 {xs : List Int} {r : Nat} {v : Int} (hx : ∀ y ∈ xs, InU y) (qv : InU v) : ∀ y ∈ (xs.set r v).set 0 0, InU y := fun y hy => by
  rcases List.mem_or_eq_of_mem_set hy with hy | rfl
  · rcases List.mem_or_eq_of_mem_set hy with hy | rfl
    · exact hx y hy
    · exact qv
  · exact zero_in
theorem step_ok (h : HV) (bs : By) (hh : HOk h) : HOk (stepS h bs).1 := by
  unfold stepS
  split
  · split
    · have qa := rg_in hh.x (fetS bs h.pc).1.2.2.1.toNat
      have qb := rg_in hh.x (fetS bs h.pc).1.2.2.2.1.toNat
      have k := don_ok h (fetS bs h.pc).1 (rg h.x (fetS bs h.pc).1.2.2.1.toNat) (rg h.x (fetS bs h.pc).1.2.2.2.1.toNat) bs hh qa
      exact ⟨by simp [hh.len], next_in _ _ _ _ qa, mem_set2 hh.x (don_in _ _ _ _ _ qa qb), k.addr, k.size⟩
    · exact hh
  · exact hh
theorem mov_len (op at_ s b : Int) (bs : By) (h0 : 0 ≤ at_) : (movS op at_ s b bs).2.2.length = bs.length := by
  unfold movS
  split
  · exact stB_len _ _ _ _ h0
  · rfl
theorem don_len (h : HV) (i : In7) (a b : Int) (bs : By) (qa : InU a) : (donS h i a b bs).2.2.2.length = bs.length := by
  have q := (adB_in i.1 i.2.2.2.2.1 a qa).1
  unfold donS
  repeat' split
  all_goals first
    | rfl
    | exact mov_len _ _ _ _ _ q
theorem step_len (h : HV) (bs : By) (hh : HOk h) : (stepS h bs).2.2.length = bs.length := by
  unfold stepS
  split
  · have qa := rg_in hh.x (fetS bs h.pc).1.2.2.1.toNat
    split
    · exact don_len _ _ _ _ _ qa
    · exact don_len _ _ _ _ _ qa
  · rfl
/-- Many steps: the hart, how many, an error, the bytes. -/
def runS : Nat → Nat → HV → By → HV × Nat × Int × By
  | 0, n, h, bs => (h, n, 0, bs)
  | k + 1, n, h, bs => if (stepS h bs).2.1 = 0 then runS k (n + 1) (stepS h bs).1 (stepS h bs).2.2 else (h, n, (stepS h bs).2.1, (stepS h bs).2.2)
theorem run_ok (k n : Nat) (h : HV) (bs : By) (hh : HOk h) : HOk (runS k n h bs).1 ∧ (runS k n h bs).2.2.2.length = bs.length := by
  induction k generalizing n h bs with
  | zero => exact ⟨hh, rfl⟩
  | succ k ih =>
    unfold runS
    split
    · obtain ⟨h1, h2⟩ := ih (n + 1) _ (stepS h bs).2.2 (step_ok h bs hh)
      exact ⟨h1, h2.trans (step_len h bs hh)⟩
    · exact ⟨hh, step_len h bs hh⟩
/-- A jump to where one is. -/
theorem still_bytes (h : HV) (bs : By) (hh : HOk h) (h1 : (stepS h bs).2.1 = 0) (h2 : (stepS h bs).1 = h) : (stepS h bs).2.2 = bs := by
  unfold stepS at h1 h2 ⊢
  split at h1
  · rename_i hf
    rw [if_pos hf] at h2 ⊢
    split at h1
    · rename_i hd
      rw [if_pos hd] at h2 ⊢
      have hp := congrArg HV.pc h2
      dsimp only at hp ⊢
      generalize (fetS bs h.pc).1 = i at *
      generalize rg h.x i.2.2.1.toNat = a at *
      generalize rg h.x i.2.2.2.1.toNat = b at *
      have hq := hh.pc
      unfold InU at hq
      by_cases hb : i.1 = 3 ∨ i.1 = 4 ∨ (5 ≤ i.1 ∧ i.1 ≤ 10)
      · unfold donS
        rw [if_pos ⟨by unfold LoadB; exact decide_eq_false (by omega), by unfold StoreB; exact decide_eq_false (by omega)⟩]
      · exfalso
        unfold nextS TgB at hp
        rw [if_neg (by unfold BrB; simp; omega), if_neg (by omega), if_neg (by omega), IntKind.wrap_u64] at hp
        omega
    · rename_i hd
      exact absurd h1 hd
  · rename_i hf
    exact absurd h1 hf
theorem run_still (h : HV) (bs : By) (h1 : (stepS h bs).2.1 = 0) (h2 : (stepS h bs).1 = h) (h3 : (stepS h bs).2.2 = bs) (k n : Nat) : runS k n h bs = (h, n + k, 0, bs) := by
  induction k generalizing n with
  | zero => rfl
  | succ k ih =>
    unfold runS
    rw [if_pos h1, h2, h3, ih (n + 1), Nat.add_right_comm, Nat.add_assoc]
end Go.Proofs.YtmggichckhoomaaGreatDoor
end
section
namespace Go.Proofs.YtmggichckhoomaaGreatDoor
open Go.RowKit
set_option linter.unusedVariables false
set_option linter.unusedSimpArgs false
set_option maxRecDepth 100000 in
theorem info5 : (Tryz.prog.info? 5).map (fun i => (i.zero, i.size, i.bytes)) = some (some (.int .u8 0), 1, 1) := by kernel_rfl
theorem cells_zero (n : Nat) : madeCells (Value.int .u8 0).cells (n * 1) = (Lib.byteCells (List.replicate n 0)).toArray := by
  apply Array.ext'
  rw [show (Value.int .u8 0).cells = #[.int .u8 0] from rfl, toList_madeCells_one]
  simp [Lib.byteCells]
/-- 'make([]byte, n)': so many bytes 0 in a block of their own. -/
theorem wpList_make_zero {P : Program} (w : World) {ops : Array Oper} {rest : List Oper} {o : Oper} {a : Act} {Q : Exit → Act → World → Prop}
    (hg : o.guard = none) (l c : Operand) (t : TypeId) (hop : o.op = Op.makeSlice t l c)
    (e : TypeId) (i : TypeInfo) (h1 : P.underlying t = some (.slice e)) (h2 : P.info? e = some i) (h3 : i.zero = some (.int .u8 0)) (h4 : i.size = 1) (h5 : i.bytes = 1)
    (kl kc : IntKind) (L C : Int) (n : Nat) (hl : a.eval l = .int kl L) (hc : a.eval c = .int kc C) (hL : L = (n : Int)) (hC : C = (n : Int)) (b2 : n ≤ 281474976710656)
    (hK : wpList P ops Q rest (a.put o.dst (.slice (some ⟨w.heap.size, 0, none⟩) n n)) (w.alloc (.cells (Lib.byteCells (List.replicate n 0)).toArray e))) :
    wpList P ops Q (o :: rest) a w := by
  refine wpList_plain hg fun K hK' => ?_
  subst hL
  subst hC
  have hr := run_make (P := P) w t e i (.int .u8 0) h1 h2 h3 kl kc n n (by omega) (Int.le_refl _) (by rw [h5]; omega) (by omega)
  rw [h4] at hr
  simp only [Int.toNat_natCast] at hr
  rw [cells_zero] at hr
  unfold Oper.wp
  simp [execOp, hop, hl, hc, hr, Result.andThen]
  exact hK' _ _ hK
def MadeM (T : TypeId) (n : Nat) (w : World) (e : Ending) (w' : World) : Prop :=
  e = .returned (.pointer (some ⟨w.heap.size + 1, 0, none⟩)) ∧ Mem T w' (w.heap.size + 1) w.heap.size (List.replicate n 0) ∧ Below w.heap.size w w' ∧ w'.heap.size = w.heap.size + 2
theorem mem_made (T : TypeId) (n : Nat) (w : World) : Mem T ((w.alloc (.cells (Lib.byteCells (List.replicate n 0)).toArray 5)).alloc (.cells #[.slice (some ⟨w.heap.size, 0, none⟩) n n] T)) (w.heap.size + 1) w.heap.size (List.replicate n 0) := by
  refine ⟨?_, ?_⟩
  · have := heap_alloc_new (w.alloc (.cells (Lib.byteCells (List.replicate n 0)).toArray 5)) (.cells #[.slice (some ⟨w.heap.size, 0, none⟩) n n] T)
    rw [World.size_alloc] at this
    rw [List.length_replicate]; exact this
  · rw [Below.heap_alloc _ _ _ (by simp)]; exact heap_alloc_new w _
set_option maxRecDepth 100000 in
theorem new_any (n : Nat) (hn : n ≤ 16777216) (w : World) :
    Calls Tryz.prog 25 #[.int .i64 (n : Int)] w (MadeM 92 n w) := by
  obtain ⟨i0, hi, hz0, hz1, hz2⟩ := info_parts info5
  have hn' : (n : Int) ≤ 16777216 := by omega
  go_enter Tryz.func25, Tryz.ntmps25
  go_wp2_with (refine wpList_make_zero _ rfl _ _ 27 rfl 5 i0 Tryz.underlying27 hi hz0 hz1 hz2 .i64 .i64 _ _ n rfl rfl rfl rfl (by omega) ?_)
  go_ret
  exact ⟨rfl, mem_made _ n w, ((Below.refl _ _).alloc (Nat.le_refl _) _).alloc (by simp) _, by simp⟩
/-- A slice of bytes that came in, or is one's own: what it holds. -/
def Src (w : World) (A : Option Addr) (xs : By) : Prop := 0 < xs.length → ∃ ad, A = some ad ∧ ∀ j v, (Lib.byteCells xs)[j]? = some v → w.cell? (ad.add j) = some v
end Go.Proofs.YtmggichckhoomaaGreatDoor
end
