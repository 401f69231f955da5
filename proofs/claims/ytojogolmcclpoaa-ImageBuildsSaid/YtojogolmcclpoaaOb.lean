/-
  Proved here: what New, fault, Fault, Load, Store and Put of the reference's memory answer. Conditions: the memory is one that a call made, of at most 2^24 bytes; places are words.
-/
import Derived.Test.YtojogolmcclpoaaMq
namespace Go.Proofs.Ytojogolmcclpoaa
open Go.RowKit
set_option linter.unusedVariables false
set_option linter.unusedSimpArgs false
set_option maxRecDepth 100000 in
theorem rnew_any (n : Nat) (hn : n ≤ 16777216) (w : World) :
    Calls Try.prog 24 #[.int .i64 (n : Int)] w (MadeM 49 n w) := by
  obtain ⟨i0, hi, hz0, hz1, hz2⟩ := info_parts info5
  have hn' : (n : Int) ≤ 16777216 := by omega
  go_enter Try.func24, Try.ntmps24
  go_wp2_with (refine wpList_make_zero _ rfl _ _ 44 rfl 5 i0 Try.underlying44 hi hz0 hz1 hz2 .i64 .i64 _ _ n rfl rfl rfl rfl (by omega) ?_)
  go_ret
  exact ⟨rfl, mem_made _ n w, ((Below.refl _ _).alloc (Nat.le_refl _) _).alloc (by simp) _, by simp⟩
theorem fltP_no {n : Nat} {a k : Int} (h : (n : Int) < a + k) : fltP n a k = 50 := if_pos h
theorem fltP_yes {n : Nat} {a k : Int} (h : ¬ (n : Int) < a + k) : fltP n a k = 0 := if_neg h
set_option maxRecDepth 100000 in
theorem rpart_any (p b : Nat) (bs : By) (at_ : Int) (k : Nat) (a0 : 0 ≤ at_) (a1 : at_ < 18446744073709551616) (k1 : k ≤ 9223372036854775807) (hl : bs.length ≤ 16777216) (w : World) (hM : Mem 49 w p b bs) :
    Calls Try.prog 30 #[.pointer (some ⟨p, 0, none⟩), .int .u64 at_, .int .i64 (k : Int)] w fun e w' => e = .returned (.int .i64 (fltP bs.length at_ k)) ∧ w = w' := by
  have hc := hM.head
  by_cases h1 : (bs.length : Int) < at_
  · rw [fltP_no (by omega)]
    go_enter Try.func30, Try.ntmps30
    go_wp2_with fail
    go_ret
    exact ⟨rfl, rfl⟩
  · by_cases h2 : (bs.length : Int) - at_ < k
    · rw [fltP_no (by omega)]
      go_enter Try.func30, Try.ntmps30
      go_wp2_with fail
      go_ret
      exact ⟨rfl, rfl⟩
    · rw [fltP_yes (by omega)]
      go_enter Try.func30, Try.ntmps30
      go_wp2_with fail
      go_ret
      exact ⟨rfl, rfl⟩
set_option maxRecDepth 100000 in
theorem rfault_any (p b : Nat) (bs : By) (at_ s : Int) (a0 : 0 ≤ at_) (a1 : at_ < 18446744073709551616) (hl : bs.length ≤ 16777216) (w : World) (hM : Mem 49 w p b bs) :
    Calls Try.prog 29 #[.pointer (some ⟨p, 0, none⟩), .int .u64 at_, .int .i64 s] w fun e w' => e = .returned (.int .i64 (flt bs.length at_ s)) ∧ w = w' := by
  by_cases hs : s = 1 ∨ s = 2 ∨ s = 4 ∨ s = 8
  · by_cases h2 : at_ % s = 0
    · rw [flt_part hs h2]
      obtain ⟨k, rfl⟩ : ∃ k : Nat, s = (k : Int) := ⟨s.toNat, by omega⟩
      have HP := Lib.hid (rpart_any p b bs at_ k a0 a1 (by omega) hl w hM)
      have e : k = 1 ∨ k = 2 ∨ k = 4 ∨ k = 8 := by omega
      generalize fltP bs.length at_ k = E at *
      clear hs
      rcases e with rfl | rfl | rfl | rfl
      all_goals
        go_enter Try.func29, Try.ntmps29
        go_wp2_with fail
        refine (HP.out).mono ?_
        rintro e w' ⟨rfl, rfl⟩
        go_wp2_with fail
        go_ret
        exact ⟨rfl, rfl⟩
    · rw [flt_align hs h2]
      rcases hs with rfl | rfl | rfl | rfl
      · omega
      all_goals
        go_enter Try.func29, Try.ntmps29
        go_wp2_with fail
        go_ret
        exact ⟨rfl, rfl⟩
  · rw [flt_size hs]
    have h1 : (s != 1) = true := bne_iff_ne.2 (by omega)
    have h2 : (s != 2) = true := bne_iff_ne.2 (by omega)
    have h4 : (s != 4) = true := bne_iff_ne.2 (by omega)
    have h8 : (s != 8) = true := bne_iff_ne.2 (by omega)
    clear hs
    go_enter Try.func29, Try.ntmps29
    go_wp2_with fail
    go_ret
    exact ⟨rfl, rfl⟩
theorem byte_div (v k : Nat) : (((v / 256 ^ k : Nat) : Int)) % 256 = ((UInt8.ofNat (v / 256 ^ k % 256)).toNat : Int) := by
  have h1 : (UInt8.ofNat (v / 256 ^ k % 256)).toNat = v / 256 ^ k % 256 := by simp
  rw [h1]
  omega
theorem div_next (v k : Nat) : (((v / 256 ^ k : Nat) : Int)) / 256 = ((v / 256 ^ (k + 1) : Nat) : Int) := by
  have e : v / 256 ^ (k + 1) = v / 256 ^ k / 256 := by rw [Nat.pow_succ, Nat.div_div_eq_div_mul]
  rw [e]
  omega
set_option maxRecDepth 100000 in
set_option maxHeartbeats 1000000 in
theorem rstore_ok (p b : Nat) (bs : By) (at_ s v : Nat) (hs : (s : Int) = 1 ∨ (s : Int) = 2 ∨ (s : Int) = 4 ∨ (s : Int) = 8) (h0 : (at_ : Int) % (s : Int) = 0) (h : at_ + s ≤ bs.length) (v1 : v < 18446744073709551616) (hl : bs.length ≤ 16777216) (w : World) (hM : Mem 49 w p b bs) :
    Calls Try.prog 25 #[.pointer (some ⟨p, 0, none⟩), .int .u64 (at_ : Int), .int .i64 (s : Int), .int .u64 (v : Int)] w fun e w' => e = .returned (.int .i64 0) ∧ Mem 49 w' p b (lay bs at_ (leB s v)) ∧ w.grownBy w' (some b) := by
  have HF := rfault_any p b bs (at_ : Int) (s : Int) (by omega) (by omega) hl w hM
  rw [flt_part hs h0, fltP_yes (by omega)] at HF
  replace HF := Lib.hid HF
  have hs8 : s ≤ 8 := by omega
  have hs1 : 1 ≤ s := by omega
  clear hs h0
  go_enter Try.func25, Try.ntmps25
  go_wp2_with fail
  refine (HF.out).mono ?_
  rintro e w' ⟨rfl, rfl⟩
  clear HF
  go_wp2_with fail
  go_loopw [3, 10] (fun x i wr => ∃ k : Nat, k ≤ s ∧ i = .int .i64 k ∧ x = .int .u64 ((v / 256 ^ k : Nat) : Int) ∧ Mem 49 wr p b (lay bs at_ (leB k v)) ∧ w.grownBy wr (some b)) (fun _ i _ => s - (intOf i).toNat)
  case atStart => exact ⟨0, Nat.zero_le _, rfl, by simp, by rw [show leB 0 v = [] from rfl, lay_nil]; exact hM, World.grownBy.refl w _⟩
  case round =>
    obtain ⟨k, hk, rfl, rfl, hMr, hg⟩ := hrel
    by_cases hlt : k < s
    · have hf := hMr.frozen (at_ + k)
      have hd := hMr.head
      have hll := lay_len' bs at_ k v (by omega)
      obtain ⟨x, hc⟩ : ∃ x, wr.cell? ⟨b, at_ + k, none⟩ = some x := ⟨_, hMr.byte (at_ + k) (by omega)⟩
      have hset := Lib.hid (hMr.set (by decide) (at_ + k) (UInt8.ofNat (v / 256 ^ k % 256)))
      rw [← lay_step bs at_ k v (by omega), ← byte_div] at hset
      have hx := Lib.hid (div_next v k)
      have hq : v / 256 ^ k < 18446744073709551616 := Nat.lt_of_le_of_lt (Nat.div_le_self _ _) v1
      rw [hll] at hd
      generalize v / 256 ^ k = Q at *
      clear hMr hll
      go_wp2
      go_roundw
      case rel => exact ⟨k + 1, by omega, by go_num, by rw [hx.out], hset.out, grown_trans hg (set_grown _ _ _ _)⟩
      case measure => simp [intOf]; omega
    · obtain rfl : k = s := by omega
      clear hk hlt
      go_wp2
      go_ret
      exact ⟨rfl, hMr, hg⟩
set_option maxRecDepth 100000 in
/-- Store, whatever is asked for. -/
theorem rstore_any (p b : Nat) (bs : By) (at_ s v : Int) (a0 : 0 ≤ at_) (a1 : at_ < 18446744073709551616) (v0 : 0 ≤ v) (v1 : v < 18446744073709551616) (hl : bs.length ≤ 16777216) (w : World) (hM : Mem 49 w p b bs) :
    Calls Try.prog 25 #[.pointer (some ⟨p, 0, none⟩), .int .u64 at_, .int .i64 s, .int .u64 v] w fun e w' => e = .returned (.int .i64 (flt bs.length at_ s)) ∧ Mem 49 w' p b (stB bs at_ s v) ∧ w.grownBy w' (some b) := by
  by_cases h : flt bs.length at_ s = 0
  · obtain ⟨h1, h2, h3⟩ := flt_ok h
    unfold stB
    rw [if_pos h, h]
    obtain ⟨k, rfl⟩ : ∃ k : Nat, s = (k : Int) := ⟨s.toNat, by omega⟩
    obtain ⟨a, rfl⟩ : ∃ a : Nat, at_ = (a : Int) := ⟨at_.toNat, by omega⟩
    obtain ⟨u, rfl⟩ : ∃ u : Nat, v = (u : Int) := ⟨v.toNat, by omega⟩
    exact rstore_ok p b bs a k u h1 h2 (by omega) (by omega) hl w hM
  · have HN := Lib.hid (rfault_any p b bs at_ s a0 a1 hl w hM)
    have hv : (flt bs.length at_ s != 0) = true := bne_iff_ne.2 h
    unfold stB
    rw [if_neg h]
    generalize flt bs.length at_ s = E at *
    clear h
    go_enter Try.func25, Try.ntmps25
    go_wp2_with fail
    refine (HN.out).mono ?_
    rintro e w' ⟨rfl, rfl⟩
    go_wp2_with fail
    go_ret
    exact ⟨rfl, hM, World.grownBy.refl _ _⟩
theorem numAt_cons (bs : By) (a k : Nat) (h : a < bs.length) : numAt bs a (k + 1) = bs[a].toNat + 256 * numAt bs (a + 1) k := by
  unfold numAt
  rw [List.drop_eq_getElem_cons h, List.take_succ_cons]
  rfl
theorem ld_next (bs : By) (a j s : Nat) (h : a + s ≤ bs.length) (hj : j < s) (hs : s ≤ 8) : (256 : Int) * (numAt bs (a + (j + 1)) (s - (j + 1)) : Int) + (bs[a + j].toNat : Int) = (numAt bs (a + j) (s - j) : Int) := by
  have e : s - j = (s - (j + 1)) + 1 := by omega
  rw [e, numAt_cons bs (a + j) _ (by omega), Nat.add_assoc a j 1]
  generalize numAt bs (a + (j + 1)) (s - (j + 1)) = X
  omega
theorem lay_next (bs xs : By) (a k : Nat) (h : a + k < bs.length) (hk : k < xs.length) : lay bs a (xs.take (k + 1)) = (lay bs a (xs.take k)).set (a + k) xs[k] := by
  have e : xs.take (k + 1) = xs.take k ++ [xs[k]] := by rw [List.take_add_one, List.getElem?_eq_getElem hk]; rfl
  have hl : (xs.take k).length = k := by simp; omega
  rw [e, lay_snoc bs a _ _ (by rw [hl]; exact h), hl]
theorem Src.cell {w w' : World} {A : Option Addr} {xs : By} (h : Src w A xs) {b : Nat} (hg : w.grownBy w' (some b)) (hb : ∀ ad, A = some ad → ad.block ≠ b) (k : Nat) (hk : k < xs.length) : ∃ ad, A = some ad ∧ w'.cell? (ad.add k) = some (.int .u8 (xs[k].toNat : Int)) := by
  obtain ⟨ad, hA, hc⟩ := h (by omega)
  have h1 := hc k (.int .u8 (xs[k].toNat : Int)) (by unfold Lib.byteCells; rw [List.getElem?_map, List.getElem?_eq_getElem hk]; rfl)
  have h2 : (ad.add k).block = ad.block := by unfold Addr.add; split <;> rfl
  refine ⟨ad, hA, (World.cell?_of_block (hg.block _ ?_ ?_)).trans h1⟩
  · exact World.block_lt_of_cell? w _ h1
  · intro e; injection e with e; exact hb ad hA (h2.symm.trans e)
/-- What is laid, whatever is asked for. -/
def putB (bs : By) (at_ : Int) (xs : By) : By := if (bs.length : Int) < at_ + xs.length then bs else lay bs at_.toNat xs
theorem putB_len (bs xs : By) (at_ : Int) (a0 : 0 ≤ at_) : (putB bs at_ xs).length = bs.length := by
  unfold putB
  split
  · rfl
  · exact lay_len _ _ _ (by omega)
end Go.Proofs.Ytojogolmcclpoaa
