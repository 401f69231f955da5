/-
  Proved here: what Load and Store of the code answer, and what stands in memory behind them. Conditions: the memory is one that a call made, of at most 2^24 bytes.
-/
import Derived.Test.YtojogolmcclpoaaMo
namespace Go.Proofs.Ytojogolmcclpoaa
open Go.RowKit
set_option linter.unusedVariables false
set_option linter.unusedSimpArgs false
theorem val_i {k : IntKind} {a b : Int} (h : a = b) : Value.int k a = .int k b := by rw [h]
/-- The number that s bytes from a place on are. -/
def numAt (bs : By) (at_ s : Nat) : Nat := leV ((bs.drop at_).take s)
theorem numAt_zero (bs : By) (a : Nat) : numAt bs a 0 = 0 := by simp [numAt, leV]
theorem take_next (bs : By) (a k : Nat) (h : a + k < bs.length) : (bs.drop a).take (k + 1) = (bs.drop a).take k ++ [bs[a + k]] := by
  rw [List.take_add_one, List.getElem?_drop, List.getElem?_eq_getElem h]; rfl
theorem numAt_step (bs : By) (a k : Nat) (h : a + k < bs.length) (hk : k < 8) : bits .or .u64 (numAt bs a k : Int) (IntKind.u64.wrap (IntKind.u64.wrap (bs[a + k].toNat : Int) * 2 ^ (8 * k))) = (numAt bs a (k + 1) : Int) := by
  have hl : ((bs.drop a).take k).length = k := by simp; omega
  have h1 := leV_lt ((bs.drop a).take k)
  rw [hl] at h1
  have h2 := or_step _ _ _ h1 hk bs[a + k].toNat_lt
  have e1 : ((8 : Int) * (k : Int)).toNat = 8 * k := by omega
  have e2 : IntKind.u64.wrap (bs[a + k].toNat : Int) = (bs[a + k].toNat : Int) := by have := bs[a + k].toNat_lt; rw [IntKind.wrap_u64]; omega
  rw [e1] at h2
  rw [e2]
  unfold numAt
  rw [h2, take_next bs a k h, leV_snoc, hl]
theorem numAt_lt (bs : By) (a s : Nat) (hs : s ≤ 8) : numAt bs a s < 18446744073709551616 := by
  have h1 := leV_lt ((bs.drop a).take s)
  have h2 : ((bs.drop a).take s).length ≤ 8 := by simp; omega
  have h3 : (256 : Nat) ^ ((bs.drop a).take s).length ≤ 256 ^ 8 := Nat.pow_le_pow_right (by omega) h2
  unfold numAt
  omega
theorem lay_len' (bs : By) (a k v : Nat) (h : a + k ≤ bs.length) : (lay bs a (leB k v)).length = bs.length := lay_len bs a _ (by rw [leB_len]; exact h)
theorem lay_step (bs : By) (a k v : Nat) (h : a + k < bs.length) : lay bs a (leB (k + 1) v) = (lay bs a (leB k v)).set (a + k) (UInt8.ofNat (v / 256 ^ k % 256)) := by
  rw [leB_snoc, lay_snoc bs a _ _ (by rw [leB_len]; exact h), leB_len]
theorem byte_shr (v k : Nat) : IntKind.u8.wrap ((v : Int) / 2 ^ (8 * k)) = ((UInt8.ofNat (v / 256 ^ k % 256)).toNat : Int) := by
  have e : (256 : Nat) ^ k = 2 ^ (8 * k) := by rw [Nat.pow_mul]
  have h1 : (UInt8.ofNat (v / 256 ^ k % 256)).toNat = v / 256 ^ k % 256 := by simp
  rw [h1, e, IntKind.wrap_u8]
  rw [show ((v : Int) / 2 ^ (8 * k)) = ((v / 2 ^ (8 * k) : Nat) : Int) by push_cast; rfl]
  omega
set_option maxRecDepth 100000 in
set_option maxHeartbeats 1000000 in
theorem store_ok (p b : Nat) (bs : By) (at_ s v : Nat) (hs : (s : Int) = 1 ∨ (s : Int) = 2 ∨ (s : Int) = 4 ∨ (s : Int) = 8) (h0 : (at_ : Int) % (s : Int) = 0) (h : at_ + s ≤ bs.length) (hl : bs.length ≤ 16777216) (w : World) (hM : Mem 60 w p b bs) :
    Calls Try.prog 23 #[.pointer (some ⟨p, 0, none⟩), .int .u64 (at_ : Int), .int .i64 (s : Int), .int .u64 (v : Int)] w fun e w' => e = .returned (.int .i64 0) ∧ Mem 60 w' p b (lay bs at_ (leB s v)) ∧ w.grownBy w' (some b) := by
  have HN := Lib.hid (num_ok p b bs at_ s hs h0 h hl w hM)
  have hs8 : s ≤ 8 := by omega
  have hs1 : 1 ≤ s := by omega
  unfold PartOk at HN
  clear hs h0
  go_enter Try.func23, Try.ntmps23
  go_wp2_with fail
  refine (HN.out).mono ?_
  rintro e w' ⟨A, hA, rfl, rfl⟩
  obtain rfl := hA (by omega)
  clear hA HN
  go_wp2_with fail
  go_loopw [23] (fun i wr => ∃ k : Nat, k ≤ s ∧ i = .int .i64 k ∧ Mem 60 wr p b (lay bs at_ (leB k v)) ∧ w.grownBy wr (some b)) (fun i _ => s - (intOf i).toNat)
  case atStart => exact ⟨0, Nat.zero_le _, rfl, by rw [show leB 0 v = [] from rfl, lay_nil]; exact hM, World.grownBy.refl w _⟩
  case round =>
    obtain ⟨k, hk, rfl, hMr, hg⟩ := hrel
    by_cases hlt : k < s
    · have hf := hMr.frozen (at_ + k)
      have hll := lay_len' bs at_ k v (by omega)
      obtain ⟨x, hc⟩ : ∃ x, wr.cell? ⟨b, at_ + k, none⟩ = some x := ⟨_, hMr.byte (at_ + k) (by omega)⟩
      have hset := Lib.hid (hMr.set (by decide) (at_ + k) (UInt8.ofNat (v / 256 ^ k % 256)))
      rw [← lay_step bs at_ k v (by omega), ← byte_shr] at hset
      clear hMr hll
      go_wp2
      go_roundw
      case rel => exact ⟨k + 1, by omega, by go_num, hset.out, grown_trans hg (set_grown _ _ _ _)⟩
      case measure => simp [intOf]; omega
    · obtain rfl : k = s := by omega
      clear hk hlt
      go_wp2
      go_ret
      exact ⟨rfl, hMr, hg⟩
set_option maxRecDepth 100000 in
theorem num_no (p b : Nat) (bs : By) (at_ s : Int) (a0 : 0 ≤ at_) (a1 : at_ < 18446744073709551616) (h : flt bs.length at_ s ≠ 0) (hl : bs.length ≤ 16777216) (w : World) (hM : Mem 60 w p b bs) :
    Calls Try.prog 28 #[.pointer (some ⟨p, 0, none⟩), .int .u64 at_, .int .i64 s] w fun e w' => e = .returned (.tuple #[.slice none 0 0, .int .i64 (flt bs.length at_ s)]) ∧ w = w' := by
  by_cases hs : s = 1 ∨ s = 2 ∨ s = 4 ∨ s = 8
  · by_cases h2 : at_ % s = 0
    · rw [flt_part hs h2] at h ⊢
      have h3 : (bs.length : Int) < at_ + s := by
        unfold fltP at h
        split at h
        · assumption
        · exact absurd rfl h
      have e : fltP bs.length at_ s = 50 := if_pos h3
      rw [e]
      obtain ⟨k, rfl⟩ : ∃ k : Nat, s = (k : Int) := ⟨s.toNat, by omega⟩
      have HP := Lib.hid (part_no p b bs at_ k a0 a1 (by omega) h3 hl w hM)
      clear h h3 e
      have e : k = 1 ∨ k = 2 ∨ k = 4 ∨ k = 8 := by omega
      rcases e with rfl | rfl | rfl | rfl
      all_goals
        go_enter Try.func28, Try.ntmps28
        go_wp2_with fail
        refine (made_any p b bs _ hM).mono ?_
        rintro e w' ⟨rfl, rfl⟩
        go_wp2_with fail
        refine (HP.out).mono ?_
        rintro e w' ⟨rfl, rfl⟩
        go_wp2_with fail
        go_ret2
        exact ⟨rfl, rfl⟩
    · rw [flt_align hs h2]
      exact num_align p b bs at_ s hs h2 a0 a1 w hM
  · rw [flt_size hs]
    exact num_size p b bs at_ s hs w hM
def ldV (bs : By) (at_ s : Int) : Int := if flt bs.length at_ s = 0 then (numAt bs at_.toNat s.toNat : Int) else 0
def stB (bs : By) (at_ s v : Int) : By := if flt bs.length at_ s = 0 then lay bs at_.toNat (leB s.toNat v.toNat) else bs
theorem stB_len (bs : By) (at_ s v : Int) (a0 : 0 ≤ at_) : (stB bs at_ s v).length = bs.length := by
  unfold stB
  split
  · rename_i h
    obtain ⟨h1, h2, h3⟩ := flt_ok h
    exact lay_len' _ _ _ _ (by omega)
  · rfl
theorem ldV_in (bs : By) (at_ s : Int) : 0 ≤ ldV bs at_ s ∧ ldV bs at_ s < 18446744073709551616 := by
  unfold ldV
  split
  · rename_i h
    obtain ⟨h1, h2, h3⟩ := flt_ok h
    have := numAt_lt bs at_.toNat s.toNat (by omega)
    omega
  · omega
theorem flt_vals (n : Nat) (a s : Int) (h : flt n a s ≠ 0) : flt n a s = 2 ∨ flt n a s = 51 ∨ flt n a s = 50 := by
  unfold flt fltP at *
  repeat' split
  all_goals simp_all
set_option maxRecDepth 100000 in
/-- Store, whatever is asked for. -/
theorem store_any (p b : Nat) (bs : By) (at_ s v : Int) (a0 : 0 ≤ at_) (a1 : at_ < 18446744073709551616) (v0 : 0 ≤ v) (hl : bs.length ≤ 16777216) (w : World) (hM : Mem 60 w p b bs) :
    Calls Try.prog 23 #[.pointer (some ⟨p, 0, none⟩), .int .u64 at_, .int .i64 s, .int .u64 v] w fun e w' => e = .returned (.int .i64 (flt bs.length at_ s)) ∧ Mem 60 w' p b (stB bs at_ s v) ∧ w.grownBy w' (some b) := by
  by_cases h : flt bs.length at_ s = 0
  · obtain ⟨h1, h2, h3⟩ := flt_ok h
    unfold stB
    rw [if_pos h, h]
    obtain ⟨k, rfl⟩ : ∃ k : Nat, s = (k : Int) := ⟨s.toNat, by omega⟩
    obtain ⟨a, rfl⟩ : ∃ a : Nat, at_ = (a : Int) := ⟨at_.toNat, by omega⟩
    obtain ⟨u, rfl⟩ : ∃ u : Nat, v = (u : Int) := ⟨v.toNat, by omega⟩
    exact store_ok p b bs a k u h1 h2 (by omega) hl w hM
  · have HN := Lib.hid (num_no p b bs at_ s a0 a1 h hl w hM)
    have hv := flt_vals _ _ _ h
    unfold stB
    rw [if_neg h]
    generalize flt bs.length at_ s = E at *
    clear h
    rcases hv with rfl | rfl | rfl
    all_goals
      go_enter Try.func23, Try.ntmps23
      go_wp2_with fail
      refine (HN.out).mono ?_
      rintro e w' ⟨rfl, rfl⟩
      go_wp2_with fail
      go_ret
      exact ⟨rfl, hM, World.grownBy.refl w _⟩
end Go.Proofs.Ytojogolmcclpoaa
