/-
  Proved here: what Load and Store of the code answer, and what stands in memory behind them. Conditions: the memory is one that a call made, of at most 2^24 bytes. ¦ what the reference's small functions answer: a register, a part of a number at another place, a flag. Conditions: the numbers are ints. ¦ the instruction of an operation whose fields a word has, by the code. Conditions: the form is one; the word is a word.
-/
import Derived.Test.YtmggichckhoomaaGreatDoorQam
import Derived.Test.YtmggichckhoomaaGreatDoorQad
import Derived.Test.YtmggichckhoomaaGreatDoorQak
import Derived.Great.Walk
import Derived.Deep.WholeRow
import Derived.Deep.Cut
section
namespace Go.Proofs.YtmggichckhoomaaGreatDoor
open Go.RowKit
set_option linter.unusedVariables false
set_option linter.unusedSimpArgs false
theorem val_i {k : IntKind} {a b : Int} (h : a = b) : Value.int k a = .int k b := by rw [h]
/-- The number that s bytes from a place on are. -/
def numAt (bs : By) (at_ s : Nat) : Nat := leV ((bs.drop at_).take s)
theorem numAt_zero (bs : By) (a : Nat) : numAt bs a 0 = 0 := by simp [numAt, leV]
theorem take_next (bs : By) (a k : Nat) (h : a + k < bs.length) : (bs.drop a).take (k + 1) = (bs.drop a).take k ++ [bs[a + k]] := by
  rw [List.take_add_one, List.getElem?_drop, List.getElem?_eq_getElem h]; rfl
theorem numAt_step (bs : By) (a k : Nat) (h : a + k < bs.length) (hk : k < 8) : bits .or .u64 (numAt bs a k : Int) (IntKind.u64.wrap (IntKind.u64.wrap (bs[a + k].toNat : Int) * 2 ^ (8 * k))) = (numAt bs a (k + 1) : Int) := by
  have hl : ((bs.drop a).take k).length = k := by simp; omega
  have h1 := leV_lt ((bs.drop a).take k)
  rw [hl] at h1
  have h2 := or_step _ _ _ h1 hk bs[a + k].toNat_lt
  have e1 : ((8 : Int) * (k : Int)).toNat = 8 * k := by omega
  have e2 : IntKind.u64.wrap (bs[a + k].toNat : Int) = (bs[a + k].toNat : Int) := by have := bs[a + k].toNat_lt; rw [IntKind.wrap_u64]; omega
  rw [e1] at h2
  rw [e2]
  unfold numAt
  rw [h2, take_next bs a k h, leV_snoc, hl]
theorem numAt_lt (bs : By) (a s : Nat) (hs : s ≤ 8) : numAt bs a s < 18446744073709551616 := by
  have h1 := leV_lt ((bs.drop a).take s)
  have h2 : ((bs.drop a).take s).length ≤ 8 := by simp; omega
  have h3 : (256 : Nat) ^ ((bs.drop a).take s).length ≤ 256 ^ 8 := Nat.pow_le_pow_right (by omega) h2
  unfold numAt
  omega
set_option maxRecDepth 100000 in
set_option maxHeartbeats 1000000 in
theorem load_ok (p b : Nat) (bs : By) (at_ s : Nat) (hs : (s : Int) = 1 ∨ (s : Int) = 2 ∨ (s : Int) = 4 ∨ (s : Int) = 8) (h0 : (at_ : Int) % (s : Int) = 0) (h : at_ + s ≤ bs.length) (hl : bs.length ≤ 16777216) (w : World) (hM : Mem 92 w p b bs) :
    Calls Tryz.prog 24 #[.pointer (some ⟨p, 0, none⟩), .int .u64 (at_ : Int), .int .i64 (s : Int)] w fun e w' => e = .returned (.tuple #[.int .u64 (numAt bs at_ s : Int), .int .i64 0]) ∧ w = w' := by
  have HN := Lib.hid (num_ok p b bs at_ s hs h0 h hl w hM)
  have hs8 : s ≤ 8 := by omega
  have hs1 : 1 ≤ s := by omega
  have hN0 := Lib.hid (numAt_zero bs at_)
  unfold PartOk at HN
  clear hs h0
  go_enter Tryz.func24, Tryz.ntmps24
  go_wp2_with fail
  refine (HN.out).mono ?_
  rintro e w' ⟨A, hA, rfl, rfl⟩
  obtain rfl := hA (by omega)
  clear hA HN
  go_wp2_with fail
  go_loop [10, 23] (fun v i => ∃ k : Nat, k ≤ s ∧ i = .int .i64 k ∧ v = .int .u64 (numAt bs at_ k : Int)) (fun _ i => s - (intOf i).toNat)
  case atStart => exact ⟨0, Nat.zero_le _, rfl, val_i (by rw [hN0.out]; rfl)⟩
  case round =>
    obtain ⟨k, hk, rfl, rfl⟩ := hrel
    by_cases hlt : k < s
    · have hc := hM.byte (at_ + k) (by omega)
      have hst := Lib.hid (numAt_step bs at_ k (by omega) (by omega))
      have hlt2 := numAt_lt bs at_ k (by omega)
      go_wp2
      go_round
      case rel => exact ⟨k + 1, by omega, by go_num, val_i hst.out⟩
      case measure => simp [intOf]; omega
    · obtain rfl : k = s := by omega
      clear hk hlt
      go_wp2
      go_ret2
      exact ⟨rfl, rfl⟩
theorem lay_len' (bs : By) (a k v : Nat) (h : a + k ≤ bs.length) : (lay bs a (leB k v)).length = bs.length := lay_len bs a _ (by rw [leB_len]; exact h)
theorem lay_step (bs : By) (a k v : Nat) (h : a + k < bs.length) : lay bs a (leB (k + 1) v) = (lay bs a (leB k v)).set (a + k) (UInt8.ofNat (v / 256 ^ k % 256)) := by
  rw [leB_snoc, lay_snoc bs a _ _ (by rw [leB_len]; exact h), leB_len]
theorem byte_shr (v k : Nat) : IntKind.u8.wrap ((v : Int) / 2 ^ (8 * k)) = ((UInt8.ofNat (v / 256 ^ k % 256)).toNat : Int) := by
  have e : (256 : Nat) ^ k = 2 ^ (8 * k) := by rw [Nat.pow_mul]
  have h1 : (UInt8.ofNat (v / 256 ^ k % 256)).toNat = v / 256 ^ k % 256 := by simp
  rw [h1, e, IntKind.wrap_u8]
  rw [show ((v : Int) / 2 ^ (8 * k)) = ((v / 2 ^ (8 * k) : Nat) : Int) by push_cast; rfl]
  omega
set_option maxRecDepth 100000 in
set_option maxHeartbeats 1000000 in
theorem store_ok (p b : Nat) (bs : By) (at_ s v : Nat) (hs : (s : Int) = 1 ∨ (s : Int) = 2 ∨ (s : Int) = 4 ∨ (s : Int) = 8) (h0 : (at_ : Int) % (s : Int) = 0) (h : at_ + s ≤ bs.length) (hl : bs.length ≤ 16777216) (w : World) (hM : Mem 92 w p b bs) :
    Calls Tryz.prog 28 #[.pointer (some ⟨p, 0, none⟩), .int .u64 (at_ : Int), .int .i64 (s : Int), .int .u64 (v : Int)] w fun e w' => e = .returned (.int .i64 0) ∧ Mem 92 w' p b (lay bs at_ (leB s v)) ∧ w.grownBy w' (some b) := by
  have HN := Lib.hid (num_ok p b bs at_ s hs h0 h hl w hM)
  have hs8 : s ≤ 8 := by omega
  have hs1 : 1 ≤ s := by omega
  unfold PartOk at HN
  clear hs h0
  go_enter Tryz.func28, Tryz.ntmps28
  go_wp2_with fail
  refine (HN.out).mono ?_
  rintro e w' ⟨A, hA, rfl, rfl⟩
  obtain rfl := hA (by omega)
  clear hA HN
  go_wp2_with fail
  go_loopw [23] (fun i wr => ∃ k : Nat, k ≤ s ∧ i = .int .i64 k ∧ Mem 92 wr p b (lay bs at_ (leB k v)) ∧ w.grownBy wr (some b)) (fun i _ => s - (intOf i).toNat)
  case atStart => exact ⟨0, Nat.zero_le _, rfl, by rw [show leB 0 v = [] from rfl, lay_nil]; exact hM, World.grownBy.refl w _⟩
  case round =>
    obtain ⟨k, hk, rfl, hMr, hg⟩ := hrel
    by_cases hlt : k < s
    · have hf := hMr.frozen (at_ + k)
      have hll := lay_len' bs at_ k v (by omega)
      obtain ⟨x, hc⟩ : ∃ x, wr.cell? ⟨b, at_ + k, none⟩ = some x := ⟨_, hMr.byte (at_ + k) (by omega)⟩
      have hset := Lib.hid (hMr.set (by decide) (at_ + k) (UInt8.ofNat (v / 256 ^ k % 256)))
      rw [← lay_step bs at_ k v (by omega), ← byte_shr] at hset
      clear hMr hll
      go_wp2
      go_roundw
      case rel => exact ⟨k + 1, by omega, by go_num, hset.out, grown_trans hg (set_grown _ _ _ _)⟩
      case measure => simp [intOf]; omega
    · obtain rfl : k = s := by omega
      clear hk hlt
      go_wp2
      go_ret
      exact ⟨rfl, hMr, hg⟩
set_option maxRecDepth 100000 in
theorem num_no (p b : Nat) (bs : By) (at_ s : Int) (a0 : 0 ≤ at_) (a1 : at_ < 18446744073709551616) (h : flt bs.length at_ s ≠ 0) (hl : bs.length ≤ 16777216) (w : World) (hM : Mem 92 w p b bs) :
    Calls Tryz.prog 48 #[.pointer (some ⟨p, 0, none⟩), .int .u64 at_, .int .i64 s] w fun e w' => e = .returned (.tuple #[.slice none 0 0, .int .i64 (flt bs.length at_ s)]) ∧ w = w' := by
  by_cases hs : s = 1 ∨ s = 2 ∨ s = 4 ∨ s = 8
  · by_cases h2 : at_ % s = 0
    · rw [flt_part hs h2] at h ⊢
      have h3 : (bs.length : Int) < at_ + s := by
        unfold fltP at h
        split at h
        · assumption
        · exact absurd rfl h
      have e : fltP bs.length at_ s = 50 := if_pos h3
      rw [e]
      obtain ⟨k, rfl⟩ : ∃ k : Nat, s = (k : Int) := ⟨s.toNat, by omega⟩
      have HP := Lib.hid (part_no p b bs at_ k a0 a1 (by omega) h3 hl w hM)
      clear h h3 e
      have e : k = 1 ∨ k = 2 ∨ k = 4 ∨ k = 8 := by omega
      rcases e with rfl | rfl | rfl | rfl
      all_goals
        go_enter Tryz.func48, Tryz.ntmps48
        go_wp2_with fail
        refine (made_any p b bs _ hM).mono ?_
        rintro e w' ⟨rfl, rfl⟩
        go_wp2_with fail
        refine (HP.out).mono ?_
        rintro e w' ⟨rfl, rfl⟩
        go_wp2_with fail
        go_ret2
        exact ⟨rfl, rfl⟩
    · rw [flt_align hs h2]
      exact num_align p b bs at_ s hs h2 a0 a1 w hM
  · rw [flt_size hs]
    exact num_size p b bs at_ s hs w hM
def ldV (bs : By) (at_ s : Int) : Int := if flt bs.length at_ s = 0 then (numAt bs at_.toNat s.toNat : Int) else 0
def stB (bs : By) (at_ s v : Int) : By := if flt bs.length at_ s = 0 then lay bs at_.toNat (leB s.toNat v.toNat) else bs
theorem stB_len (bs : By) (at_ s v : Int) (a0 : 0 ≤ at_) : (stB bs at_ s v).length = bs.length := by
  unfold stB
  split
  · rename_i h
    obtain ⟨h1, h2, h3⟩ := flt_ok h
    exact lay_len' _ _ _ _ (by omega)
  · rfl
theorem ldV_in (bs : By) (at_ s : Int) : 0 ≤ ldV bs at_ s ∧ ldV bs at_ s < 18446744073709551616 := by
  unfold ldV
  split
  · rename_i h
    obtain ⟨h1, h2, h3⟩ := flt_ok h
    have := numAt_lt bs at_.toNat s.toNat (by omega)
    omega
  · omega
theorem flt_vals (n : Nat) (a s : Int) (h : flt n a s ≠ 0) : flt n a s = 2 ∨ flt n a s = 51 ∨ flt n a s = 50 := by
  unfold flt fltP at *
  repeat' split
  all_goals simp_all
set_option maxRecDepth 100000 in
/-- Load, whatever is asked for. -/
theorem load_any (p b : Nat) (bs : By) (at_ s : Int) (a0 : 0 ≤ at_) (a1 : at_ < 18446744073709551616) (hl : bs.length ≤ 16777216) (w : World) (hM : Mem 92 w p b bs) :
    Calls Tryz.prog 24 #[.pointer (some ⟨p, 0, none⟩), .int .u64 at_, .int .i64 s] w fun e w' => e = .returned (.tuple #[.int .u64 (ldV bs at_ s), .int .i64 (flt bs.length at_ s)]) ∧ w = w' := by
  by_cases h : flt bs.length at_ s = 0
  · obtain ⟨h1, h2, h3⟩ := flt_ok h
    unfold ldV
    rw [if_pos h, h]
    obtain ⟨k, rfl⟩ : ∃ k : Nat, s = (k : Int) := ⟨s.toNat, by omega⟩
    obtain ⟨a, rfl⟩ : ∃ a : Nat, at_ = (a : Int) := ⟨at_.toNat, by omega⟩
    exact load_ok p b bs a k h1 h2 (by omega) hl w hM
  · have HN := Lib.hid (num_no p b bs at_ s a0 a1 h hl w hM)
    have hv := flt_vals _ _ _ h
    unfold ldV
    rw [if_neg h]
    generalize flt bs.length at_ s = E at *
    clear h
    rcases hv with rfl | rfl | rfl
    all_goals
      go_enter Tryz.func24, Tryz.ntmps24
      go_wp2_with fail
      refine (HN.out).mono ?_
      rintro e w' ⟨rfl, rfl⟩
      go_wp2_with fail
      go_ret2
      exact ⟨rfl, rfl⟩
set_option maxRecDepth 100000 in
/-- Store, whatever is asked for. -/
theorem store_any (p b : Nat) (bs : By) (at_ s v : Int) (a0 : 0 ≤ at_) (a1 : at_ < 18446744073709551616) (v0 : 0 ≤ v) (hl : bs.length ≤ 16777216) (w : World) (hM : Mem 92 w p b bs) :
    Calls Tryz.prog 28 #[.pointer (some ⟨p, 0, none⟩), .int .u64 at_, .int .i64 s, .int .u64 v] w fun e w' => e = .returned (.int .i64 (flt bs.length at_ s)) ∧ Mem 92 w' p b (stB bs at_ s v) ∧ w.grownBy w' (some b) := by
  by_cases h : flt bs.length at_ s = 0
  · obtain ⟨h1, h2, h3⟩ := flt_ok h
    unfold stB
    rw [if_pos h, h]
    obtain ⟨k, rfl⟩ : ∃ k : Nat, s = (k : Int) := ⟨s.toNat, by omega⟩
    obtain ⟨a, rfl⟩ : ∃ a : Nat, at_ = (a : Int) := ⟨at_.toNat, by omega⟩
    obtain ⟨u, rfl⟩ : ∃ u : Nat, v = (u : Int) := ⟨v.toNat, by omega⟩
    exact store_ok p b bs a k u h1 h2 (by omega) hl w hM
  · have HN := Lib.hid (num_no p b bs at_ s a0 a1 h hl w hM)
    have hv := flt_vals _ _ _ h
    unfold stB
    rw [if_neg h]
    generalize flt bs.length at_ s = E at *
    clear h
    rcases hv with rfl | rfl | rfl
    all_goals
      go_enter Tryz.func28, Tryz.ntmps28
      go_wp2_with fail
      refine (HN.out).mono ?_
      rintro e w' ⟨rfl, rfl⟩
      go_wp2_with fail
      go_ret
      exact ⟨rfl, hM, World.grownBy.refl w _⟩
end Go.Proofs.YtmggichckhoomaaGreatDoor
end
section
namespace Go.Proofs.YtmggichckhoomaaGreatDoor
open Go.RowKit
set_option linter.unusedVariables false
theorem ix52_0 (a b c d : Int) (W : World) : (Instr.index 109 (.agg #[.int .i64 a, .int .i64 b, .int .i64 c, .int .i64 d]) (.int .i64 0)).run Tryz.prog W = .ok (.int .i64 a) W := by kernel_rfl
theorem ix52_1 (a b c d : Int) (W : World) : (Instr.index 109 (.agg #[.int .i64 a, .int .i64 b, .int .i64 c, .int .i64 d]) (.int .i64 1)).run Tryz.prog W = .ok (.int .i64 b) W := by kernel_rfl
theorem ix52_2 (a b c d : Int) (W : World) : (Instr.index 109 (.agg #[.int .i64 a, .int .i64 b, .int .i64 c, .int .i64 d]) (.int .i64 2)).run Tryz.prog W = .ok (.int .i64 c) W := by kernel_rfl
theorem ix52_3 (a b c d : Int) (W : World) : (Instr.index 109 (.agg #[.int .i64 a, .int .i64 b, .int .i64 c, .int .i64 d]) (.int .i64 3)).run Tryz.prog W = .ok (.int .i64 d) W := by kernel_rfl
attribute [local go_sem ↓] ix52_0 ix52_1 ix52_2 ix52_3
end Go.Proofs.YtmggichckhoomaaGreatDoor
end
section
namespace Go.Proofs.YtmggichckhoomaaGreatDoor
open Go.RowKit Go.Sort
set_option linter.unusedVariables false
theorem fld5 (u low : Int) (l0 : 0 ≤ low) (l1 : low ≤ 50) : 0 ≤ Fld u low 5 ∧ Fld u low 5 ≤ 31 := by
  unfold Fld
  have hw := wid_yes low 5 l0 (by omega) (by decide)
  have e : wid low 5 = 5 := by omega
  rw [e]
  have := fld_lt u.toNat low.toNat 5
  omega
theorem Nb.setRow {a b : World} (h : Nb a b) {g : Nat} (hg : a.heap.size ≤ g) (cs : Array Value) : Nb a (b.setRow g cs) := by
  have hb : Below a.heap.size a b := h
  exact ⟨hb.os, hb.tape, hb.output, by rw [size_setRow]; exact hb.size, fun k hk => (setRow_other b g k cs (by omega)).trans (hb.block k hk)⟩
set_option maxRecDepth 100000 in
set_option maxHeartbeats 4000000 in
theorem ins_any (op f u : Int) (f0 : 0 ≤ f) (f1 : f ≤ 12) (u0 : 0 ≤ u) (u1 : u < 18446744073709551616) (w : World) :
    Calls Tryz.prog 90 #[.int .i64 op, .int .u32 (1048576 * f), .int .u64 u] w fun e w' => e = .returned (.agg #[.int .i64 op, .int .i64 (oi (rdT f) (Fld u 7 5)), .int .i64 (oi (rs1T f) (Fld u 15 5)), .int .i64 (oi (rs2T f) (Fld u 20 5)), .int .i64 (oi (immT f) (II f u)), .bool (ob (ordT f) (Fld u 26 1 == 1)), .bool (ob (ordT f) (Fld u 25 1 == 1))]) ∧ Nb w w' := by
  obtain ⟨p0, p1⟩ := fld5 u 7 (by decide) (by decide)
  obtain ⟨q0, q1⟩ := fld5 u 15 (by decide) (by decide)
  obtain ⟨r0, r1⟩ := fld5 u 20 (by decide) (by decide)
  go_enter Tryz.func90, Tryz.ntmps90
  go_wp2_with fail
  obtain ⟨W1, hW⟩ : ∃ W1, w.alloc (.cells #[.int .i64 0, .int .i64 0, .int .i64 0, .int .i64 0, .int .i64 0, .bool false, .bool false] 56) = W1 := ⟨_, rfl⟩
  have hb := blk_made w _ hW rfl
  have hN : Nb w W1 := by rw [← hW]; exact (Nb.refl _).alloc _
  rw [hW]
  clear hW
  refine (field_any _ _ _ u0 u1 _).mono ?_
  rintro e w' ⟨rfl, rfl⟩
  go_wp2_with fail
  refine (field_any _ _ _ u0 u1 _).mono ?_
  rintro e w' ⟨rfl, rfl⟩
  go_wp2_with fail
  refine (field_any _ _ _ u0 u1 _).mono ?_
  rintro e w' ⟨rfl, rfl⟩
  go_wp2_with fail
  refine (ii_any f u f0 f1 u0 u1 _).mono ?_
  rintro e w2 ⟨rfl, hn2⟩
  go_wp2_with fail
  refine (field_any _ _ _ u0 u1 _).mono ?_
  rintro e w' ⟨rfl, rfl⟩
  go_wp2_with fail
  refine (field_any _ _ _ u0 u1 _).mono ?_
  rintro e w' ⟨rfl, rfl⟩
  have hb2 := Lib.hid (hn2.b.block hb)
  have hN2 := hN.trans hn2.b
  clear hb hN hn2
  go_wp2_with fail
  refine (only_any f _ _ _ _ _ _ _ f0 f1 _).mono ?_
  rintro e w4 ⟨rfl, hn4⟩
  have hN4 := (hN2.alloc _).trans hn4.b
  have hb4 := hn4.b.block ((heap_alloc_old _ _ (lt_of_block hb2.out)).trans hb2.out)
  rename_i hK1 _ hK
  refine hK _ _ ?_
  clear hK
  refine wpList_store_row rfl 56 _ _ rfl w.heap.size #[.int .i64 op, .int .i64 (oi (rdT f) (Fld u 7 5)), .int .i64 (oi (rs1T f) (Fld u 15 5)), .int .i64 (oi (rs2T f) (Fld u 20 5)), .int .i64 (oi (immT f) (II f u)), .bool (ob (ordT f) (Fld u 26 1 == 1)), .bool (ob (ordT f) (Fld u 25 1 == 1))] rfl rfl 56 _ hb4 (by kernel_rfl) rfl (by kernel_rfl) ?_
  refine wpList_nil ?_
  refine hK1 _ _ ?_
  clear hK1
  go_wp2_with fail
  refine bodyPost_ret (v := .agg #[.int .i64 op, .int .i64 (oi (rdT f) (Fld u 7 5)), .int .i64 (oi (rs1T f) (Fld u 15 5)), .int .i64 (oi (rs2T f) (Fld u 20 5)), .int .i64 (oi (immT f) (II f u)), .bool (ob (ordT f) (Fld u 26 1 == 1)), .bool (ob (ordT f) (Fld u 25 1 == 1))])
    (results_cell_row rfl _ _ w.heap.size 56 _ (0, 0) _ rfl (setRow_heap _ _ _ _ _ _ hb4) Tryz.underlying56 rfl (by kernel_rfl)) rfl ⟨rfl, ?_⟩
  exact hN4.setRow (Nat.le_refl _) _
end Go.Proofs.YtmggichckhoomaaGreatDoor
end
