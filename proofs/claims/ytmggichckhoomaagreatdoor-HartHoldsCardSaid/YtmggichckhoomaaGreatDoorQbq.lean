/-
  Proved here: what bytes are when instructions are laid from the beginning on; what the first word then decodes to; what a step that has no error does to registers and to the place. Conditions: none beside those that each names. ¦ what Laid of the laws answers: two memories of the same bytes, the instructions' words from the beginning on. Conditions: there are at most 1000 instructions; the table of codes holds what its text lays.
-/
import Derived.Test.YtmggichckhoomaaGreatDoorQbn
import Derived.Test.YtmggichckhoomaaGreatDoorQao
import Derived.Test.YtmggichckhoomaaGreatDoorQak
import Derived.Test.YtmggichckhoomaaGreatDoorQbo
import Derived.Test.YtmggichckhoomaaGreatDoorQbp
section
namespace Go.Proofs.YtmggichckhoomaaGreatDoor
open Go.RowKit
set_option linter.unusedVariables false
set_option linter.unusedSimpArgs false
/-- The word of an instruction; 0, if it may not be. -/
def encI (i : In7) : Int := if GoodB i.1 i.2.1 i.2.2.1 i.2.2.2.1 i.2.2.2.2.1 i.2.2.2.2.2.1 i.2.2.2.2.2.2 = true then EncW i.1 i.2.1 i.2.2.1 i.2.2.2.1 i.2.2.2.2.1 i.2.2.2.2.2.1 i.2.2.2.2.2.2 else 0
theorem encI_in (i : In7) : 0 ≤ encI i ∧ encI i < 4294967296 := by
  unfold encI
  split
  · unfold EncW; rw [IntKind.wrap_u32]; omega
  · omega
/-- The first so many instructions, laid. -/
def laidN (bs : By) (is : List In7) : Nat → By
  | 0 => bs
  | k + 1 => stB (laidN bs is k) (4 * (k : Int)) 4 (encI (is.getD k z7))
theorem laidN_len (bs : By) (is : List In7) (k : Nat) : (laidN bs is k).length = bs.length := by
  induction k with
  | zero => rfl
  | succ k ih => exact (stB_len _ _ _ _ (by omega)).trans ih
theorem good_may {op rd rs1 rs2 im : Int} {aq rl : Bool} (h : GoodB op rd rs1 rs2 im aq rl = true) : MayB (refRow op).1 im = true := by
  unfold GoodB at h
  split at h
  · cases h
  · simp only [Bool.and_eq_true] at h
    exact h.2.2.2.2
theorem even_im {op rd rs1 rs2 im : Int} {aq rl : Bool} (h : GoodB op rd rs1 rs2 im aq rl = true) (ho : op = 3 ∨ (5 ≤ op ∧ op ≤ 10)) : im % 2 = 0 := by
  have hm := good_may h
  have hf : (refRow op).1 = 2 ∨ (refRow op).1 = 4 := by
    have : op = 3 ∨ op = 5 ∨ op = 6 ∨ op = 7 ∨ op = 8 ∨ op = 9 ∨ op = 10 := by omega
    rcases this with rfl | rfl | rfl | rfl | rfl | rfl | rfl <;> decide +kernel
  have hd : (im.tmod 2 == 0) = true := by
    unfold MayB at hm
    rcases hf with hf | hf
    · rw [hf, if_neg (by decide), if_pos rfl, Bool.and_eq_true] at hm
      exact hm.1
    · rw [hf, if_neg (by decide), if_neg (by decide), if_pos rfl, Bool.and_eq_true] at hm
      exact hm.1
  have h2 := Int.dvd_of_tmod_eq_zero (beq_iff_eq.1 hd)
  omega
theorem plc_even (x : Int) (h0 : 0 ≤ x) : Plc x 0 1 0 % 2 = 0 := by
  unfold Plc
  rw [show wid 0 1 = 1 from by decide +kernel]
  unfold plc
  simp
theorem next_even (i : In7) (pc a b : Int) (hg : GoodB i.1 i.2.1 i.2.2.1 i.2.2.2.1 i.2.2.2.2.1 i.2.2.2.2.2.1 i.2.2.2.2.2.2 = true) (hp : pc % 4 = 0) : nextS i pc a b % 2 = 0 := by
  unfold nextS TgB
  split
  · rw [IntKind.wrap_u64]; omega
  · split
    · rename_i ho
      have := even_im hg ho
      rw [IntKind.wrap_u64, IntKind.wrap_u64]; omega
    · split
      · exact plc_even _ (in_wrap _).1
      · rw [IntKind.wrap_u64]; omega
theorem fet_pc {bs : By} {pc : Int} (h : (fetS bs pc).2 = 0) : pc % 4 = 0 := by
  unfold fetS at h
  split at h
  · rename_i h0
    exact (flt_ok h0).2.1
  · rename_i h0
    exact absurd h h0
/-- P6.3. -/
theorem step_four (h : HV) (bs : By) (he : (stepS h bs).2.1 = 0) (hx : h.x.length = 32) : (stepS h bs).1.x[0]? = some 0 ∧ h.pc % 4 = 0 ∧ (stepS h bs).1.pc % 2 = 0 := by
  unfold stepS at he ⊢
  split at he
  · rename_i hf
    rw [if_pos hf]
    split at he
    · rename_i hd
      rw [if_pos hd]
      obtain ⟨i, hi, hg, -, -, -⟩ := fet_good hf
      have hp := fet_pc hf
      refine ⟨?_, hp, ?_⟩
      · dsimp only
        rw [List.getElem?_set_self (by simp [hx])]
      · dsimp only
        rw [hi]
        exact next_even i _ _ _ hg hp
    · rename_i hd; exact absurd he hd
  · rename_i hf; exact absurd he hf
theorem step_err (h : HV) (bs : By) (he : (stepS h bs).2.1 ≠ 0) : (stepS h bs).1 = h := by
  unfold stepS at he ⊢
  split at he
  · rename_i hf
    rw [if_pos hf]
    split at he
    · exact absurd rfl he
    · rename_i hd
      rw [if_neg hd]
  · rename_i hf
    rw [if_neg hf]
end Go.Proofs.YtmggichckhoomaaGreatDoor
end
section
namespace Go.Proofs.YtmggichckhoomaaGreatDoor
open Go.RowKit
set_option linter.unusedVariables false
set_option linter.unusedSimpArgs false
/-- How many bytes a memory of the laws has. -/
def sizeN (size : Int) : Nat := (64 + (IntKind.u64.wrap size) % 2000).toNat
theorem sizeN_le (size : Int) : 64 ≤ sizeN size ∧ sizeN size ≤ 2063 := by
  unfold sizeN
  have h0 : 0 ≤ IntKind.u64.wrap size := by rw [IntKind.wrap_u64]; omega
  omega
theorem sizeN_eq (size : Int) : wrap64 (64 + wrap64 ((IntKind.u64.wrap size).tmod 2000)) = (sizeN size : Int) := by
  have h0 : 0 ≤ IntKind.u64.wrap size := by rw [IntKind.wrap_u64]; omega
  rw [Int.tmod_eq_emod_of_nonneg h0]
  unfold sizeN wrap64
  omega
def laidB (n : Nat) (is : List In7) : By := laidN (List.replicate n 0) is is.length
theorem laidB_len (n : Nat) (is : List In7) : (laidB n is).length = n := by unfold laidB; rw [laidN_len, List.length_replicate]
def LaidAns (n : Nat) (is : List In7) (w : World) (e : Ending) (w' : World) : Prop :=
  e = .returned (.tuple #[.pointer (some ⟨w.heap.size + 1, 0, none⟩), .pointer (some ⟨w.heap.size + 3, 0, none⟩)]) ∧ Mem 92 w' (w.heap.size + 1) w.heap.size (laidB n is) ∧ Mem 72 w' (w.heap.size + 3) (w.heap.size + 2) (laidB n is) ∧ Nb w w'
theorem enc_i (i : In7) (hi : InR i.2.2.2.2.1) (w : World) (hC : Cod w) :
    Calls Tryz.prog 27 #[.agg #[.int .i64 i.1, .int .i64 i.2.1, .int .i64 i.2.2.1, .int .i64 i.2.2.2.1, .int .i64 i.2.2.2.2.1, .bool i.2.2.2.2.2.1, .bool i.2.2.2.2.2.2]] w fun e w' => (∃ E : Int, e = .returned (.tuple #[.int .u32 (if E = 0 then encI i else 0), .int .i64 E]) ∧ (E = 0 ∨ E = 20 ∧ encI i = 0)) ∧ Nb w w' := by
  cases hg : GoodB i.1 i.2.1 i.2.2.1 i.2.2.2.1 i.2.2.2.2.1 i.2.2.2.2.2.1 i.2.2.2.2.2.2 with
  | true =>
    refine (enc_yes _ _ _ _ _ _ _ hi.1 hi.2 hg w hC).mono fun e w' ⟨h1, h2⟩ => ⟨⟨0, ?_, .inl rfl⟩, h2⟩
    rw [h1]
    unfold encI
    rw [if_pos rfl, if_pos hg]
  | false =>
    refine (enc_no _ _ _ _ _ _ _ hi.1 hi.2 hg w hC).mono fun e w' ⟨h1, h2⟩ => ⟨⟨20, ?_, .inr ⟨rfl, if_neg (by rw [hg]; decide)⟩⟩, h2⟩
    rw [h1, if_neg (by decide)]
set_option maxRecDepth 100000 in
set_option maxHeartbeats 2000000 in
theorem laid_any (size : Int) (hs : InR size) (is : List In7) (hl : is.length ≤ 1000) (hI : ∀ i ∈ is, InR i.2.2.2.2.1) (A : Option Addr) (b off cap : Nat) (hA : 0 < is.length → A = some ⟨b, off, none⟩) (w : World) (hC0 : Cod w) (hC : Hid (Ins w b off is)) :
    Calls Tryz.prog 10 #[.int .i64 size, .slice A is.length cap] w (LaidAns (sizeN size) is w) := by
  have hK := Lib.hid (sizeN_eq size)
  have hK1 := sizeN_le size
  unfold LaidAns
  generalize sizeN size = n at *
  unfold InR at hs
  go_enter Tryz.func10, Tryz.ntmps10
  go_wp2_with fail
  rw [hK.out]
  refine (new_any n (by omega) _).mono ?_
  rintro e w1 ⟨rfl, hM, hb, hz⟩
  have hN1 : Nb w w1 := hb
  go_wp2_with fail
  refine (rnew_any n (by omega) _).mono ?_
  rintro e w2 ⟨rfl, hR, hb2, hz2⟩
  have hM2 := hM.nb hb2
  have hN2 : Nb w w2 := hN1.trans hb2
  rw [hz] at hR hz2
  rw [hz]
  clear hM hb hb2 hN1
  go_wp2_with fail
  go_loopw [27] (fun i wr => ∃ k : Nat, k ≤ is.length ∧ i = .int .i64 k ∧ Mem 92 wr (w.heap.size + 1) w.heap.size (laidN (List.replicate n 0) is k) ∧ Mem 72 wr (w.heap.size + 3) (w.heap.size + 2) (laidN (List.replicate n 0) is k) ∧ Nb w wr) (fun i _ => is.length - (intOf i).toNat)
  case atStart => exact ⟨0, Nat.zero_le _, rfl, hM2, hR, hN2⟩
  case round =>
    obtain ⟨k, hk, rfl, hMr, hRr, hN⟩ := hrel
    clear hM2 hR hN2 hz2
    by_cases hlt : k < is.length
    · obtain rfl := hA (by omega)
      have hi : is[k]? = some is[k] := List.getElem?_eq_getElem hlt
      obtain ⟨c0, c1, c2, c3, c4, c5, c6⟩ := (hC.out.nb hN).at_ k _ hi
      have hx := Lib.hid (show laidN (List.replicate n 0) is (k + 1) = stB (laidN (List.replicate n 0) is k) (4 * (k : Int)) 4 (encI is[k]) from by
        show stB (laidN (List.replicate n 0) is k) (4 * (k : Int)) 4 (encI (is.getD k z7)) = _
        rw [List.getD_eq_getElem?_getD, hi]; rfl)
      have him := hI is[k] (List.getElem_mem hlt)
      have hlen := laidN_len (List.replicate n 0) is k
      rw [List.length_replicate] at hlen
      have he1 := encI_in is[k]
      have HE := Lib.hid fun w1 => enc_i is[k] him w1
      generalize is[k] = i at *
      generalize laidN (List.replicate n 0) is k = B at *
      have hlt2 : (k : Int) < (is.length : Int) := by omega
      clear hk hi hI him
      go_wp2_with fail
      have hN1 : Nb w (wr.alloc (Obj.cells #[.int .i64 i.1, .int .i64 i.2.1, .int .i64 i.2.2.1, .int .i64 i.2.2.2.1, .int .i64 i.2.2.2.2.1, .bool i.2.2.2.2.2.1, .bool i.2.2.2.2.2.2] 56)) := hN.alloc _
      have nA : Nb wr (wr.alloc (Obj.cells #[.int .i64 i.1, .int .i64 i.2.1, .int .i64 i.2.2.1, .int .i64 i.2.2.2.1, .int .i64 i.2.2.2.2.1, .bool i.2.2.2.2.2.1, .bool i.2.2.2.2.2.2] 56)) := (Nb.refl _).alloc _
      refine (HE.out _ (hC0.of_nb hN1)).mono ?_
      rintro e w3 ⟨⟨E, rfl, hE⟩, n3⟩
      have hN3 := hN1.trans n3
      have hM3 := (hMr.nb nA).nb n3
      have hR3 := (hRr.nb nA).nb n3
      clear hMr hRr hN hN1 nA n3 HE c0 c1 c2 c3 c4 c5 c6
      have hlm := hM3.lt
      have hlr := hR3.lt
      have HM := Lib.hid (store_any (w.heap.size + 1) w.heap.size B (4 * (k : Int)) 4 (encI i) (by omega) (by omega) he1.1 (by rw [hlen]; omega) w3 hM3)
      have HRf := Lib.hid fun w4 hm => rstore_any (w.heap.size + 3) (w.heap.size + 2) B (4 * (k : Int)) 4 (encI i) (by omega) (by omega) he1.1 (by omega) (by rw [hlen]; omega) w4 hm
      rw [← hx.out] at HM
      have HRg := fun w4 hm => HRf.out w4 hm
      rw [← hx.out] at HRg
      clear HRf
      obtain ⟨B2, hB2⟩ : ∃ B2, laidN (List.replicate n 0) is (k + 1) = B2 := ⟨_, rfl⟩
      rw [hB2] at HM HRg
      replace HRg := Lib.hid HRg
      have hB := Lib.hid hB2
      clear hB2 hx
      rcases hE with rfl | ⟨rfl, he0⟩
      · rw [if_pos rfl]
        generalize encI i = V at *
        go_wp2_with fail
        refine (HM.out).mono ?_
        rintro e w4 ⟨rfl, hM4, g4⟩
        have hR4 := hR3.grown g4 (by intro e; injection e with e; omega) (by intro e; injection e with e; omega)
        have hN4 : Nb w w4 := below_grown hN3 g4 hN3.size (Nat.le_refl _)
        go_wp2_with fail
        refine (HRg.out _ hR4).mono ?_
        rintro e w5 ⟨rfl, hR5, g5⟩
        have hM5 := hM4.grown g5 (by intro e; injection e with e; omega) (by intro e; injection e with e; omega)
        have hN5 : Nb w w5 := below_grown hN4 g5 hN4.size (by omega)
        clear hM3 hR3 hR4 hM4 hN3 hN4 g4 g5 HM HRg
        go_wp2_with fail
        exact ⟨⟨k + 1, hlt, rfl, by rw [hB.out]; exact hM5, by rw [hB.out]; exact hR5, hN5⟩, by simp [intOf]; omega⟩
      · rw [if_neg (by decide)]
        rw [he0] at HM HRg
        clear he1 he0
        go_wp2_with fail
        refine (HM.out).mono ?_
        rintro e w4 ⟨rfl, hM4, g4⟩
        have hR4 := hR3.grown g4 (by intro e; injection e with e; omega) (by intro e; injection e with e; omega)
        have hN4 : Nb w w4 := below_grown hN3 g4 hN3.size (Nat.le_refl _)
        go_wp2_with fail
        refine (HRg.out _ hR4).mono ?_
        rintro e w5 ⟨rfl, hR5, g5⟩
        have hM5 := hM4.grown g5 (by intro e; injection e with e; omega) (by intro e; injection e with e; omega)
        have hN5 : Nb w w5 := below_grown hN4 g5 hN4.size (by omega)
        clear hM3 hR3 hR4 hM4 hN3 hN4 g4 g5 HM HRg
        go_wp2_with fail
        exact ⟨⟨k + 1, hlt, rfl, by rw [hB.out]; exact hM5, by rw [hB.out]; exact hR5, hN5⟩, by simp [intOf]; omega⟩
    · obtain rfl : k = is.length := by omega
      clear hk hlt
      go_wp2_with fail
      go_ret2
      exact ⟨rfl, hMr, hRr, hN⟩
end Go.Proofs.YtmggichckhoomaaGreatDoor
end
