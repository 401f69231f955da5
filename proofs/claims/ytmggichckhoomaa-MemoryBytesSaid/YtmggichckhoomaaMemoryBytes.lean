/-
  Proved here: bytes that are put are told, others stay; a clone has them all, and goes its own way; by the code of memory; and the example of the chapter stands. No condition.
-/
import Derived.Test.YtmggichckhoomaaMz
import Derived.Deep.QuietTactic
import Derived.Laws.BytesArg
namespace Go.Proofs.Ytmggichckhoomaa.memoryBytes
open Go.ChangeShapes Go.WideShapes Go.ChangeAt Go.RowKit
set_option linter.unusedVariables false
set_option linter.unusedSimpArgs false
theorem src_nb {w w' : World} {A : Option Addr} {xs : By} (h : Src w A xs) (hb : Below w.heap.size w w') : Src w' A xs := by
  intro h0
  obtain ⟨ad, hA, hc⟩ := h h0
  exact ⟨ad, hA, fun j v hv => (hb.cell (World.block_lt_of_cell? w _ (hc j v hv))).trans (hc j v hv)⟩
theorem str_own {w : World} {g n cap : Nat} {bs : By} (h : w.heap[g]? = some (.cells (Lib.byteCells bs).toArray 5 (0, 0))) (hn : bs.length = n) :
    (convert 22 9 (.slice (some ⟨g, 0, none⟩) n cap)).run Try.prog w = .ok (.string ⟨bs.toArray⟩) w := by
  subst hn
  refine run_convert_bytes_back w _ _ 5 _ cap bs Try.underlying22 Try.underlying5 Try.underlying9 fun j hj => ?_
  rw [addr_add, cell_of_row _ _ _ _ _ _ h]
  simp [Lib.byteCells, hj]
theorem str_src {w : World} {A : Option Addr} {cap : Nat} {xs : By} (h : Src w A xs) : (convert 22 9 (.slice A xs.length cap)).run Try.prog w = .ok (.string ⟨xs.toArray⟩) w := by
  by_cases h0 : 0 < xs.length
  · obtain ⟨ad, rfl, hc⟩ := h h0
    refine run_convert_bytes_back w _ _ 5 _ cap xs Try.underlying22 Try.underlying5 Try.underlying9 fun j hj => hc j _ ?_
    simp [Lib.byteCells, hj]
  · have e : xs = [] := List.eq_nil_of_length_eq_zero (by omega)
    subst e
    cases A with
    | none => exact run_convert_bytes_nil w _ 5 Try.underlying22 Try.underlying5 _ _ _ Try.underlying9
    | some ad => exact run_convert_bytes_back w _ _ 5 ad cap [] Try.underlying22 Try.underlying5 Try.underlying9 fun j hj => absurd hj (by simp)
/-- A byte, and one more. -/
def inc1 (c : UInt8) : UInt8 := UInt8.ofNat ((c.toNat + 1) % 256)
theorem inc_ne (c : UInt8) : inc1 c ≠ c := by
  intro h
  have h1 := congrArg UInt8.toNat h
  have h2 := c.toNat_lt
  unfold inc1 at h1
  simp at h1
  omega
def incs (bs : By) (k : Nat) : By := (bs.take k).map inc1 ++ bs.drop k
theorem incs_len (bs : By) (k : Nat) : (incs bs k).length = bs.length := by unfold incs; simp; omega
theorem incs_zero (bs : By) : incs bs 0 = bs := by simp [incs]
theorem incs_step (bs : By) (k : Nat) (hk : k < bs.length) : lay (incs bs k) k (leB 1 (bs[k].toNat + 1)) = incs bs (k + 1) := by
  have e1 : leB 1 (bs[k].toNat + 1) = [inc1 bs[k]] := rfl
  have h1 : ((bs.take k).map inc1).length = k := by simp; omega
  rw [e1]
  unfold lay incs
  rw [List.take_append_of_le_length (by omega), List.take_of_length_le (by omega), List.drop_append, List.drop_eq_nil_of_le (by simp; omega), h1, List.nil_append, show k + [inc1 bs[k]].length - k = 1 from by simp, List.drop_drop, List.take_add_one, List.getElem?_eq_getElem hk, List.map_append, List.append_assoc]
  rfl
theorem incs_all_ne (bs : By) (h : 0 < bs.length) : incs bs bs.length ≠ bs := by
  cases bs with
  | nil => simp at h
  | cons c r =>
    intro e
    unfold incs at e
    simp at e
    exact inc_ne c e.1
theorem flt_one (n k : Nat) (h : k < n) : flt n (k : Int) 1 = 0 := by
  unfold flt fltP
  rw [if_neg (by omega), if_neg (by omega), if_neg (by omega)]
set_option maxRecDepth 100000 in
set_option maxHeartbeats 4000000 in
theorem walk (n at_ : Int) (A : Option Addr) (cap : Nat) (xs : By) (v : Int) (hn : -9223372036854775808 ≤ n ∧ n < 9223372036854775808) (ha : -9223372036854775808 ≤ at_ ∧ at_ < 9223372036854775808) (hl : xs.length ≤ 9223372036854775807) (hc : xs.length ≤ cap) (hv : 0 ≤ v ∧ v < 256) (w : World) (hS : Hid (Src w A xs)) :
    Calls Try.prog 5 #[.int .i64 n, .int .i64 at_, .slice A xs.length cap, .int .u8 v] w fun e w' => e = .returned (.bool true) ∧ Below w.heap.size w w' := by
  obtain ⟨K, hK0, hK2⟩ : ∃ K : Nat, wrap64 ((IntKind.u64.wrap n).tmod 500) = (K : Int) ∧ K < 500 := by
    have h0 : 0 ≤ IntKind.u64.wrap n := by rw [IntKind.wrap_u64]; omega
    rw [Int.tmod_eq_emod_of_nonneg h0]
    refine ⟨(IntKind.u64.wrap n % 500).toNat, ?_, by omega⟩
    unfold wrap64
    omega
  obtain ⟨F, hF0, hF2⟩ : ∃ F : Nat, (IntKind.u64.wrap at_).tmod 600 = (F : Int) ∧ F < 600 := by
    have h0 : 0 ≤ IntKind.u64.wrap at_ := by rw [IntKind.wrap_u64]; omega
    rw [Int.tmod_eq_emod_of_nonneg h0]
    exact ⟨(IntKind.u64.wrap at_ % 600).toNat, by omega, by omega⟩
  have hK := Lib.hid hK0
  have hF := Lib.hid hF0
  clear hK0 hF0
  by_cases h2 : (500 : Int) < (xs.length : Int)
  · go_enter Try.func5, Try.ntmps5
    go_wp2_with fail
    rw [hK.out]
    refine (new_any K (by omega) _).mono ?_
    rintro e w1 ⟨rfl, hM, hb, hz⟩
    clear hM hz
    go_wp2_with fail
    refine (mlives_any _).mono ?_
    rintro e w2 ⟨rfl, hn2⟩
    go_wp2_with fail
    go_ret
    exact ⟨rfl, hb.trans (hn2.mono hb.size)⟩
  by_cases hle : F + xs.length ≤ K
  · go_enter Try.func5, Try.ntmps5
    go_wp2_with fail
    rw [hK.out]
    refine (new_any K (by omega) _).mono ?_
    rintro e w1 ⟨rfl, hM, hb, hz⟩
    have HP := Lib.hid (put_ok (w.heap.size + 1) w.heap.size (List.replicate K 0) xs F A cap (by simp; omega) (by simp; omega) w1 hM (src_nb hS.out hb))
    clear hz hM
    go_wp2_with fail
    rw [hF.out]
    refine (HP.out).mono ?_
    rintro e w2 ⟨rfl, hM, hg⟩
    obtain ⟨bs, hbs⟩ : ∃ bs, lay (List.replicate K 0) F xs = bs := ⟨_, rfl⟩
    have hbl := Lib.hid (show bs.length = K by rw [← hbs, lay_len _ _ _ (by simp; omega)]; simp)
    have hat := Lib.hid (show (bs.drop F).take xs.length = xs by rw [← hbs]; exact lay_at _ _ _ (by simp; omega))
    rw [hbs] at hM
    have hM2 := Lib.hid hM
    have hbw2 := below_grown hb hg hb.size (Nat.le_refl _)
    clear hbs hM hg hb HP
    have hle1 : (F : Int) ≤ (K : Int) := by omega
    have hle2 : (xs.length : Int) ≤ (K : Int) - (F : Int) := by omega
    go_wp2_with fail
    refine (clone_any (w.heap.size + 1) w.heap.size bs (by rw [hbl.out]; omega) w2 hM2.out).mono ?_
    rintro e w3 ⟨rfl, hC3, hb3, hz3⟩
    have hM3 := Lib.hid (hM2.out.nb hb3)
    have hbw3 := hbw2.trans (hb3.mono hbw2.size)
    have hsz := Lib.hid hz3
    have hC3' := Lib.hid hC3
    have hlt2 := hM2.out.lt
    clear hM2 hb3 hz3 hC3 hbw2
    have HM3 := Lib.hid hlt2
    clear hlt2
    have HB := Lib.hid (bytes_ok (w2.heap.size + 1) w2.heap.size bs F xs.length (by rw [hbl.out]; omega) (by rw [hbl.out]; omega) w3 hC3'.out)
    unfold BytesOk at HB
    rw [hat.out] at HB
    go_wp2_with fail
    refine (HB.out).mono ?_
    rintro e w4 ⟨rfl, k4, hb4⟩
    have s1 := str_own (cap := xs.length) k4 rfl
    have hbw4 := hbw3.trans (hb4.mono hbw3.size)
    have s2 := str_src (cap := cap) (src_nb hS.out (hbw4.mono (Nat.le_refl _)))
    have hM4 := Lib.hid (hM3.out.nb hb4)
    have hC4 := Lib.hid (hC3'.out.nb hb4)
    clear k4 HB hM3 hC3' hb4 hbw3
    go_wp2_with fail
    have HB := Lib.hid (bytes_ok (w.heap.size + 1) w.heap.size bs 0 K (by rw [hbl.out]; omega) (by rw [hbl.out]; omega) w4 hM4.out)
    unfold BytesOk at HB
    rw [show (bs.drop 0).take K = bs from by rw [List.drop_zero, ← hbl.out]; exact List.take_length] at HB
    refine (HB.out).mono ?_
    rintro e w5 ⟨rfl, k5, hb5⟩
    have K5 := Lib.hid k5
    have M5 := Lib.hid (hM4.out.nb hb5)
    have C5 := Lib.hid (hC4.out.nb hb5)
    have B5 := Lib.hid (hbw4.trans (hb5.mono hbw4.size))
    have Q0 := hM4.out.lt
    have Q1 := hC4.out.lt
    clear k5 HB hM4 hC4 hbw4 hb5
    go_wp2_with fail
    go_loopw [94] (fun i wr => ∃ k : Nat, k ≤ K ∧ i = .int .i64 k ∧ Hid (Mem 37 wr (w.heap.size + 1) w.heap.size bs) ∧ Hid (wr.heap[w4.heap.size]? = some (.cells (Lib.byteCells bs).toArray 5 (0, 0))) ∧ Hid (Mem 37 wr (w2.heap.size + 1) w2.heap.size (incs bs k)) ∧ Hid (Below w.heap.size w wr)) (fun i _ => K - (intOf i).toNat)
    case atStart => exact ⟨0, Nat.zero_le _, rfl, M5, K5, by rw [incs_zero]; exact C5, B5⟩
    case round =>
      obtain ⟨k, hk, rfl, M6, K6, C6, B6⟩ := hrel
      clear M5 K5 C5 B5
      by_cases hlt : k < K
      · have hkb : k < bs.length := by rw [hbl.out]; exact hlt
        have cx : wr.cell? ⟨w4.heap.size, k, none⟩ = some (.int .u8 (bs[k].toNat : Int)) := by
          rw [cell_of_row _ _ k _ _ _ K6.out]
          simp [Lib.byteCells, hkb]
        have hst := Lib.hid (incs_step bs k hkb)
        obtain ⟨c, hcc⟩ : ∃ c, bs[k] = c := ⟨_, rfl⟩
        rw [hcc] at cx hst
        clear hcc
        have hc0 := c.toNat_lt
        have HS := Lib.hid (store_any (w2.heap.size + 1) w2.heap.size (incs bs k) k 1 ((c.toNat : Int) + 1) (by omega) (by omega) (by omega) (by rw [incs_len, hbl.out]; omega) wr C6.out)
        have e2 : stB (incs bs k) k 1 ((c.toNat : Int) + 1) = incs bs (k + 1) := by
          unfold stB
          rw [if_pos (by rw [incs_len]; exact flt_one _ _ hkb)]
          exact hst.out
        rw [e2, incs_len, flt_one _ _ hkb] at HS
        clear e2 hkb
        go_wp2_with fail
        refine (HS.out).mono ?_
        rintro e w7 ⟨rfl, C7, g7⟩
        have q3 := HM3.out
        have M7 := Lib.hid (M6.out.grown g7 (by intro e; injection e with e; omega) (by intro e; injection e with e; omega))
        have K7 := Lib.hid ((g7.block _ (lt_blk K6.out) (by intro e; injection e with e; omega)).trans K6.out)
        have B7 := Lib.hid (below_grown B6.out g7 B6.out.size (by omega))
        go_wp2_with fail
        exact ⟨⟨k + 1, hlt, rfl, M7, K7, Lib.hid C7, B7⟩, by simp [intOf]; omega⟩
      · obtain rfl : k = K := by omega
        have hci := Lib.hid (incs_len bs k)
        have HY := Lib.hid (bytes_ok (w.heap.size + 1) w.heap.size bs 0 k (by rw [hbl.out]; omega) (by rw [hbl.out]; omega) wr M6.out)
        unfold BytesOk at HY
        rw [show (bs.drop 0).take k = bs from by rw [List.drop_zero, ← hbl.out]; exact List.take_length] at HY
        have q3 := HM3.out
        have q4 := M6.out.lt
        have q5 := C6.out.lt
        clear hk hlt
        go_wp2_with fail
        refine (HY.out).mono ?_
        rintro e w7 ⟨rfl, y7, b7⟩
        have C7 := Lib.hid (C6.out.nb b7)
        have M7 := Lib.hid (M6.out.nb b7)
        have x7 := Lib.hid ((b7.block _ (lt_blk K6.out)).trans K6.out)
        have y7' := Lib.hid y7
        have B7 := Lib.hid (B6.out.trans (b7.mono B6.out.size))
        have HZ := Lib.hid (bytes_ok (w2.heap.size + 1) w2.heap.size (incs bs k) 0 k (by rw [incs_len, hbl.out]; omega) (by rw [incs_len, hbl.out]; omega) w7 C7.out)
        unfold BytesOk at HZ
        rw [show ((incs bs k).drop 0).take k = incs bs k from by rw [List.drop_zero]; exact List.take_of_length_le (by rw [incs_len, hbl.out]; omega)] at HZ
        clear y7 b7 M6 K6 C6 B6 HY
        go_wp2_with fail
        refine (HZ.out).mono ?_
        rintro e w8 ⟨rfl, z8, b8⟩
        have e1 := str_own (n := k) (cap := k) ((b8.block _ (lt_blk x7.out)).trans x7.out) hbl.out
        have e2 := str_own (n := k) (cap := k) ((b8.block _ (lt_blk y7'.out)).trans y7'.out) hbl.out
        have e3 := str_own (n := k) (cap := k) z8 (by rw [incs_len]; exact hbl.out)
        have L1 := Lib.hid (len_any _ _ _ w8 (M7.out.nb b8))
        have L2 := Lib.hid (len_any _ _ _ w8 (C7.out.nb b8))
        rw [hbl.out] at L1
        rw [incs_len, hbl.out] at L2
        have B8 := Lib.hid (B7.out.trans (b8.mono B7.out.size))
        clear HZ C7 M7 x7 y7' B7 z8 b8
        by_cases hk0 : k = 0
        · subst hk0
          go_wp2_with fail
          refine (L1.out).mono ?_
          rintro e w' ⟨rfl, rfl⟩
          go_wp2_with fail
          refine (L2.out).mono ?_
          rintro e w' ⟨rfl, rfl⟩
          go_wp2_with fail
          refine (mlives_any _).mono ?_
          rintro e w9 ⟨rfl, hn9⟩
          go_wp2_with fail
          go_ret
          exact ⟨rfl, B8.out.trans (hn9.mono B8.out.size)⟩
        · have hne := incs_all_ne bs (by rw [hbl.out]; omega)
          rw [hbl.out] at hne
          have hne' : (incs bs k == bs) = false := beq_eq_false_iff_ne.2 hne
          clear hne
          go_wp2_with fail
          refine (L1.out).mono ?_
          rintro e w' ⟨rfl, rfl⟩
          go_wp2_with fail
          refine (L2.out).mono ?_
          rintro e w' ⟨rfl, rfl⟩
          go_wp2_with fail
          refine (mlives_any _).mono ?_
          rintro e w9 ⟨rfl, hn9⟩
          go_wp2_with fail
          go_ret
          exact ⟨rfl, B8.out.trans (hn9.mono B8.out.size)⟩
  · have hlt9 : (K : Int) < (F : Int) + (xs.length : Int) := by omega
    clear hle
    by_cases hfk : (F : Int) ≤ (K : Int)
    · have hle2 : (K : Int) - (F : Int) < (xs.length : Int) := by omega
      go_enter Try.func5, Try.ntmps5
      go_wp2_with fail
      rw [hK.out]
      refine (new_any K (by omega) _).mono ?_
      rintro e w2 ⟨rfl, hM, hb, hz⟩
      have HP := Lib.hid (put_no (w.heap.size + 1) w.heap.size (List.replicate K 0) xs F A cap (by omega) (by omega) (by omega) (by simp; omega) (by simp; omega) w2 hM)
      obtain ⟨bs, hbs⟩ : ∃ bs : By, List.replicate K 0 = bs := ⟨_, rfl⟩
      have hbl := Lib.hid (show bs.length = K by rw [← hbs]; simp)
      rw [hbs] at hM
      have hM2 := Lib.hid hM
      have hbw2 := hb
      clear hz hM hbs hb
      go_wp2_with fail
      rw [hF.out]
      refine (HP.out).mono ?_
      rintro e w' ⟨rfl, rfl⟩
      clear HP
      go_wp2_with fail
      refine (clone_any (w.heap.size + 1) w.heap.size bs (by rw [hbl.out]; omega) w2 hM2.out).mono ?_
      rintro e w3 ⟨rfl, hC3, hb3, hz3⟩
      have hM3 := Lib.hid (hM2.out.nb hb3)
      have hbw3 := hbw2.trans (hb3.mono hbw2.size)
      have hC3' := Lib.hid hC3
      have hlt2 := hM2.out.lt
      clear hM2 hb3 hz3 hC3 hbw2
      have HM3 := Lib.hid hlt2
      clear hlt2
      go_wp2_with fail
      have HB := Lib.hid (bytes_ok (w.heap.size + 1) w.heap.size bs 0 K (by rw [hbl.out]; omega) (by rw [hbl.out]; omega) w3 hM3.out)
      unfold BytesOk at HB
      rw [show (bs.drop 0).take K = bs from by rw [List.drop_zero, ← hbl.out]; exact List.take_length] at HB
      refine (HB.out).mono ?_
      rintro e w5 ⟨rfl, k5, hb5⟩
      have K5 := Lib.hid k5
      have M5 := Lib.hid (hM3.out.nb hb5)
      have C5 := Lib.hid (hC3'.out.nb hb5)
      have B5 := Lib.hid (hbw3.trans (hb5.mono hbw3.size))
      have Q0 := hM3.out.lt
      have Q1 := hC3'.out.lt
      clear k5 HB hM3 hC3' hbw3 hb5
      go_wp2_with fail
      go_loopw [94] (fun i wr => ∃ k : Nat, k ≤ K ∧ i = .int .i64 k ∧ Hid (Mem 37 wr (w.heap.size + 1) w.heap.size bs) ∧ Hid (wr.heap[w3.heap.size]? = some (.cells (Lib.byteCells bs).toArray 5 (0, 0))) ∧ Hid (Mem 37 wr (w2.heap.size + 1) w2.heap.size (incs bs k)) ∧ Hid (Below w.heap.size w wr)) (fun i _ => K - (intOf i).toNat)
      case atStart => exact ⟨0, Nat.zero_le _, rfl, M5, K5, by rw [incs_zero]; exact C5, B5⟩
      case round =>
        obtain ⟨k, hk, rfl, M6, K6, C6, B6⟩ := hrel
        clear M5 K5 C5 B5
        by_cases hlt : k < K
        · have hkb : k < bs.length := by rw [hbl.out]; exact hlt
          have cx : wr.cell? ⟨w3.heap.size, k, none⟩ = some (.int .u8 (bs[k].toNat : Int)) := by
            rw [cell_of_row _ _ k _ _ _ K6.out]
            simp [Lib.byteCells, hkb]
          have hst := Lib.hid (incs_step bs k hkb)
          obtain ⟨c, hcc⟩ : ∃ c, bs[k] = c := ⟨_, rfl⟩
          rw [hcc] at cx hst
          clear hcc
          have hc0 := c.toNat_lt
          have HS := Lib.hid (store_any (w2.heap.size + 1) w2.heap.size (incs bs k) k 1 ((c.toNat : Int) + 1) (by omega) (by omega) (by omega) (by rw [incs_len, hbl.out]; omega) wr C6.out)
          have e2 : stB (incs bs k) k 1 ((c.toNat : Int) + 1) = incs bs (k + 1) := by
            unfold stB
            rw [if_pos (by rw [incs_len]; exact flt_one _ _ hkb)]
            exact hst.out
          rw [e2, incs_len, flt_one _ _ hkb] at HS
          clear e2 hkb
          go_wp2_with fail
          refine (HS.out).mono ?_
          rintro e w7 ⟨rfl, C7, g7⟩
          have q3 := HM3.out
          have M7 := Lib.hid (M6.out.grown g7 (by intro e; injection e with e; omega) (by intro e; injection e with e; omega))
          have K7 := Lib.hid ((g7.block _ (lt_blk K6.out) (by intro e; injection e with e; omega)).trans K6.out)
          have B7 := Lib.hid (below_grown B6.out g7 B6.out.size (by omega))
          go_wp2_with fail
          exact ⟨⟨k + 1, hlt, rfl, M7, K7, Lib.hid C7, B7⟩, by simp [intOf]; omega⟩
        · obtain rfl : k = K := by omega
          have hci := Lib.hid (incs_len bs k)
          have HY := Lib.hid (bytes_ok (w.heap.size + 1) w.heap.size bs 0 k (by rw [hbl.out]; omega) (by rw [hbl.out]; omega) wr M6.out)
          unfold BytesOk at HY
          rw [show (bs.drop 0).take k = bs from by rw [List.drop_zero, ← hbl.out]; exact List.take_length] at HY
          have q3 := HM3.out
          have q4 := M6.out.lt
          have q5 := C6.out.lt
          clear hk hlt
          go_wp2_with fail
          refine (HY.out).mono ?_
          rintro e w7 ⟨rfl, y7, b7⟩
          have C7 := Lib.hid (C6.out.nb b7)
          have M7 := Lib.hid (M6.out.nb b7)
          have x7 := Lib.hid ((b7.block _ (lt_blk K6.out)).trans K6.out)
          have y7' := Lib.hid y7
          have B7 := Lib.hid (B6.out.trans (b7.mono B6.out.size))
          have HZ := Lib.hid (bytes_ok (w2.heap.size + 1) w2.heap.size (incs bs k) 0 k (by rw [incs_len, hbl.out]; omega) (by rw [incs_len, hbl.out]; omega) w7 C7.out)
          unfold BytesOk at HZ
          rw [show ((incs bs k).drop 0).take k = incs bs k from by rw [List.drop_zero]; exact List.take_of_length_le (by rw [incs_len, hbl.out]; omega)] at HZ
          clear y7 b7 M6 K6 C6 B6 HY
          go_wp2_with fail
          refine (HZ.out).mono ?_
          rintro e w8 ⟨rfl, z8, b8⟩
          have e1 := str_own (n := k) (cap := k) ((b8.block _ (lt_blk x7.out)).trans x7.out) hbl.out
          have e2 := str_own (n := k) (cap := k) ((b8.block _ (lt_blk y7'.out)).trans y7'.out) hbl.out
          have e3 := str_own (n := k) (cap := k) z8 (by rw [incs_len]; exact hbl.out)
          have L1 := Lib.hid (len_any _ _ _ w8 (M7.out.nb b8))
          have L2 := Lib.hid (len_any _ _ _ w8 (C7.out.nb b8))
          rw [hbl.out] at L1
          rw [incs_len, hbl.out] at L2
          have B8 := Lib.hid (B7.out.trans (b8.mono B7.out.size))
          clear HZ C7 M7 x7 y7' B7 z8 b8
          by_cases hk0 : k = 0
          · subst hk0
            go_wp2_with fail
            refine (L1.out).mono ?_
            rintro e w' ⟨rfl, rfl⟩
            go_wp2_with fail
            refine (L2.out).mono ?_
            rintro e w' ⟨rfl, rfl⟩
            go_wp2_with fail
            refine (mlives_any _).mono ?_
            rintro e w9 ⟨rfl, hn9⟩
            go_wp2_with fail
            go_ret
            exact ⟨rfl, B8.out.trans (hn9.mono B8.out.size)⟩
          · have hne := incs_all_ne bs (by rw [hbl.out]; omega)
            rw [hbl.out] at hne
            have hne' : (incs bs k == bs) = false := beq_eq_false_iff_ne.2 hne
            clear hne
            go_wp2_with fail
            refine (L1.out).mono ?_
            rintro e w' ⟨rfl, rfl⟩
            go_wp2_with fail
            refine (L2.out).mono ?_
            rintro e w' ⟨rfl, rfl⟩
            go_wp2_with fail
            refine (mlives_any _).mono ?_
            rintro e w9 ⟨rfl, hn9⟩
            go_wp2_with fail
            go_ret
            exact ⟨rfl, B8.out.trans (hn9.mono B8.out.size)⟩
    · go_enter Try.func5, Try.ntmps5
      go_wp2_with fail
      rw [hK.out]
      refine (new_any K (by omega) _).mono ?_
      rintro e w2 ⟨rfl, hM, hb, hz⟩
      have HP := Lib.hid (put_no (w.heap.size + 1) w.heap.size (List.replicate K 0) xs F A cap (by omega) (by omega) (by omega) (by simp; omega) (by simp; omega) w2 hM)
      obtain ⟨bs, hbs⟩ : ∃ bs : By, List.replicate K 0 = bs := ⟨_, rfl⟩
      have hbl := Lib.hid (show bs.length = K by rw [← hbs]; simp)
      rw [hbs] at hM
      have hM2 := Lib.hid hM
      have hbw2 := hb
      clear hz hM hbs hb
      go_wp2_with fail
      rw [hF.out]
      refine (HP.out).mono ?_
      rintro e w' ⟨rfl, rfl⟩
      clear HP
      go_wp2_with fail
      refine (clone_any (w.heap.size + 1) w.heap.size bs (by rw [hbl.out]; omega) w2 hM2.out).mono ?_
      rintro e w3 ⟨rfl, hC3, hb3, hz3⟩
      have hM3 := Lib.hid (hM2.out.nb hb3)
      have hbw3 := hbw2.trans (hb3.mono hbw2.size)
      have hC3' := Lib.hid hC3
      have hlt2 := hM2.out.lt
      clear hM2 hb3 hz3 hC3 hbw2
      have HM3 := Lib.hid hlt2
      clear hlt2
      go_wp2_with fail
      have HB := Lib.hid (bytes_ok (w.heap.size + 1) w.heap.size bs 0 K (by rw [hbl.out]; omega) (by rw [hbl.out]; omega) w3 hM3.out)
      unfold BytesOk at HB
      rw [show (bs.drop 0).take K = bs from by rw [List.drop_zero, ← hbl.out]; exact List.take_length] at HB
      refine (HB.out).mono ?_
      rintro e w5 ⟨rfl, k5, hb5⟩
      have K5 := Lib.hid k5
      have M5 := Lib.hid (hM3.out.nb hb5)
      have C5 := Lib.hid (hC3'.out.nb hb5)
      have B5 := Lib.hid (hbw3.trans (hb5.mono hbw3.size))
      have Q0 := hM3.out.lt
      have Q1 := hC3'.out.lt
      clear k5 HB hM3 hC3' hbw3 hb5
      go_wp2_with fail
      go_loopw [94] (fun i wr => ∃ k : Nat, k ≤ K ∧ i = .int .i64 k ∧ Hid (Mem 37 wr (w.heap.size + 1) w.heap.size bs) ∧ Hid (wr.heap[w3.heap.size]? = some (.cells (Lib.byteCells bs).toArray 5 (0, 0))) ∧ Hid (Mem 37 wr (w2.heap.size + 1) w2.heap.size (incs bs k)) ∧ Hid (Below w.heap.size w wr)) (fun i _ => K - (intOf i).toNat)
      case atStart => exact ⟨0, Nat.zero_le _, rfl, M5, K5, by rw [incs_zero]; exact C5, B5⟩
      case round =>
        obtain ⟨k, hk, rfl, M6, K6, C6, B6⟩ := hrel
        clear M5 K5 C5 B5
        by_cases hlt : k < K
        · have hkb : k < bs.length := by rw [hbl.out]; exact hlt
          have cx : wr.cell? ⟨w3.heap.size, k, none⟩ = some (.int .u8 (bs[k].toNat : Int)) := by
            rw [cell_of_row _ _ k _ _ _ K6.out]
            simp [Lib.byteCells, hkb]
          have hst := Lib.hid (incs_step bs k hkb)
          obtain ⟨c, hcc⟩ : ∃ c, bs[k] = c := ⟨_, rfl⟩
          rw [hcc] at cx hst
          clear hcc
          have hc0 := c.toNat_lt
          have HS := Lib.hid (store_any (w2.heap.size + 1) w2.heap.size (incs bs k) k 1 ((c.toNat : Int) + 1) (by omega) (by omega) (by omega) (by rw [incs_len, hbl.out]; omega) wr C6.out)
          have e2 : stB (incs bs k) k 1 ((c.toNat : Int) + 1) = incs bs (k + 1) := by
            unfold stB
            rw [if_pos (by rw [incs_len]; exact flt_one _ _ hkb)]
            exact hst.out
          rw [e2, incs_len, flt_one _ _ hkb] at HS
          clear e2 hkb
          go_wp2_with fail
          refine (HS.out).mono ?_
          rintro e w7 ⟨rfl, C7, g7⟩
          have q3 := HM3.out
          have M7 := Lib.hid (M6.out.grown g7 (by intro e; injection e with e; omega) (by intro e; injection e with e; omega))
          have K7 := Lib.hid ((g7.block _ (lt_blk K6.out) (by intro e; injection e with e; omega)).trans K6.out)
          have B7 := Lib.hid (below_grown B6.out g7 B6.out.size (by omega))
          go_wp2_with fail
          exact ⟨⟨k + 1, hlt, rfl, M7, K7, Lib.hid C7, B7⟩, by simp [intOf]; omega⟩
        · obtain rfl : k = K := by omega
          have hci := Lib.hid (incs_len bs k)
          have HY := Lib.hid (bytes_ok (w.heap.size + 1) w.heap.size bs 0 k (by rw [hbl.out]; omega) (by rw [hbl.out]; omega) wr M6.out)
          unfold BytesOk at HY
          rw [show (bs.drop 0).take k = bs from by rw [List.drop_zero, ← hbl.out]; exact List.take_length] at HY
          have q3 := HM3.out
          have q4 := M6.out.lt
          have q5 := C6.out.lt
          clear hk hlt
          go_wp2_with fail
          refine (HY.out).mono ?_
          rintro e w7 ⟨rfl, y7, b7⟩
          have C7 := Lib.hid (C6.out.nb b7)
          have M7 := Lib.hid (M6.out.nb b7)
          have x7 := Lib.hid ((b7.block _ (lt_blk K6.out)).trans K6.out)
          have y7' := Lib.hid y7
          have B7 := Lib.hid (B6.out.trans (b7.mono B6.out.size))
          have HZ := Lib.hid (bytes_ok (w2.heap.size + 1) w2.heap.size (incs bs k) 0 k (by rw [incs_len, hbl.out]; omega) (by rw [incs_len, hbl.out]; omega) w7 C7.out)
          unfold BytesOk at HZ
          rw [show ((incs bs k).drop 0).take k = incs bs k from by rw [List.drop_zero]; exact List.take_of_length_le (by rw [incs_len, hbl.out]; omega)] at HZ
          clear y7 b7 M6 K6 C6 B6 HY
          go_wp2_with fail
          refine (HZ.out).mono ?_
          rintro e w8 ⟨rfl, z8, b8⟩
          have e1 := str_own (n := k) (cap := k) ((b8.block _ (lt_blk x7.out)).trans x7.out) hbl.out
          have e2 := str_own (n := k) (cap := k) ((b8.block _ (lt_blk y7'.out)).trans y7'.out) hbl.out
          have e3 := str_own (n := k) (cap := k) z8 (by rw [incs_len]; exact hbl.out)
          have L1 := Lib.hid (len_any _ _ _ w8 (M7.out.nb b8))
          have L2 := Lib.hid (len_any _ _ _ w8 (C7.out.nb b8))
          rw [hbl.out] at L1
          rw [incs_len, hbl.out] at L2
          have B8 := Lib.hid (B7.out.trans (b8.mono B7.out.size))
          clear HZ C7 M7 x7 y7' B7 z8 b8
          by_cases hk0 : k = 0
          · subst hk0
            go_wp2_with fail
            refine (L1.out).mono ?_
            rintro e w' ⟨rfl, rfl⟩
            go_wp2_with fail
            refine (L2.out).mono ?_
            rintro e w' ⟨rfl, rfl⟩
            go_wp2_with fail
            refine (mlives_any _).mono ?_
            rintro e w9 ⟨rfl, hn9⟩
            go_wp2_with fail
            go_ret
            exact ⟨rfl, B8.out.trans (hn9.mono B8.out.size)⟩
          · have hne := incs_all_ne bs (by rw [hbl.out]; omega)
            rw [hbl.out] at hne
            have hne' : (incs bs k == bs) = false := beq_eq_false_iff_ne.2 hne
            clear hne
            go_wp2_with fail
            refine (L1.out).mono ?_
            rintro e w' ⟨rfl, rfl⟩
            go_wp2_with fail
            refine (L2.out).mono ?_
            rintro e w' ⟨rfl, rfl⟩
            go_wp2_with fail
            refine (mlives_any _).mono ?_
            rintro e w9 ⟨rfl, hn9⟩
            go_wp2_with fail
            go_ret
            exact ⟨rfl, B8.out.trans (hn9.mono B8.out.size)⟩
/-! The row's step. -/
set_option maxRecDepth 100000 in
set_option maxHeartbeats 1000000 in
theorem lifted (os : Os) (started : os.Started) (H : Type) (enc : TypeId × Value → H) :
    ReturnsInHanded {} Try.checked os 5 .any (Rows.memoryBytesSpec.pre6 enc Try.prog Try.f5 Rows.memoryBytesRow.domain false)
      (Rows.memoryBytesSpec.post enc Try.prog Try.f5 false true false false) := by
  refine returnsInHanded_of_change (C := Try.checked) own started (by kernel_rfl) Try.func5
    (ChangeSpec.witness6 (enc := enc) (C := Try.checked) false ⟨#[], #[.int .i64 0, .int .i64 0, .slice none 0 0, .int .u8 0], []⟩ 8 (by kernel_rfl) (by kernel_rfl) (by kernel_rfl) (by kernel_rfl)) ?_
  intro W base args ds gs before hval0 hW _ _
  have hval : ∀ (j : Nat) t v, Try.f5.params[j]? = some t → args[j]? = some v → Value.okWide Try.prog W .any base t v := hval0
  have hW' := hW
  obtain ⟨p, q, hA0, hV, rfl, hfz, hnd⟩ := hW
  have hA1 : DataW.TrodAll enc Try.prog W 0 (fun _ => true) true Try.f5.params.toList args.toList ds p := hA0
  have hA := hA1
  rw [Try.params5] at hA hval
  obtain ⟨v0, vs0, d0, ds0, p0, q0, hargs0, rfl, -, h0, r0⟩ := trodAll_cons hA
  obtain ⟨v1, vs1, d1, ds1, p1, q1, hargs1, rfl, -, h1, r1⟩ := trodAll_cons r0
  obtain ⟨v2, vs2, d2, ds2, p2, q2, hargs2, rfl, -, h2, r2⟩ := trodAll_cons r1
  obtain ⟨v3, vs3, d3, ds3, p3, q3, hargs3, rfl, -, h3, r3⟩ := trodAll_cons r2
  obtain ⟨rfl, rfl, -⟩ := trodAll_nil r3
  obtain rfl : args = #[v0, v1, v2, v3] := by cases args; simp_all
  obtain ⟨rfl, rfl⟩ := trodVars_none hV
  obtain ⟨n0, rfl, -, -, w0⟩ := open_int Try.underlying3 (hval 0 3 v0 rfl rfl) h0
  obtain ⟨n1, rfl, -, -, w1⟩ := open_int Try.underlying3 (hval 1 3 v1 rfl rfl) h1
  obtain ⟨A2, cap2, bs2, rfl, hl2, hc2, hI2⟩ := open_bytes (hval 2 22 v2 rfl rfl) h2
  obtain ⟨n3, rfl, -, -, w3⟩ := open_int Try.underlying5 (hval 3 5 v3 rfl rfl) h3
  clear hval0
  simp only [List.append_nil] at hW'
  refine (walk n0 n1 A2 cap2 bs2 n3 (i64_of w0) (i64_of w1) hl2 hc2 (u8_of w3) W (Lib.hid hI2)).mono fun e W' ⟨he, hg⟩ => ?_
  subst he
  exact ⟨_, rfl, post_of_nb (pa := p) (pv := []) hW' (fun _ _ _ => (trodAll_cons_mk (shut_bool Try.underlying4 _) trodAll_mk0))
    (fun sp hsp => args_stay (by kernel_rfl) hg hA1 (fun t ht => by
      have h0 : (Try.f5.params.toList.all fun t => Try.prog.readableRec t && decide (t < Try.prog.types.size)) = true := by kernel_rfl
      have h1 := List.all_eq_true.1 h0 t ht
      rw [Bool.and_eq_true, decide_eq_true_eq] at h1
      exact h1) (fun x hx => hW'.lt x hx) hsp)
    (fun _ _ => rfl) (by simp) hg (ok_one (by kernel_rfl) rfl (okWide_bool_mk Try.underlying4 _))⟩
theorem over : Rows.memoryBytesRow.holds Try.pinned (OpenSpec.ofChange Rows.memoryBytesSpec) :=
  OpenClaim.holds_of_wide 5 Try.f5 rfl rfl rfl rfl rfl rfl rfl ⟨rfl, rfl, rfl, rfl, rfl⟩ rfl rfl rfl rfl rfl (by kernel_rfl) Try.func5 (by kernel_rfl)
    (of_decide_eq_true (by kernel_rfl)) (by unfold Func.isWrapper; first | (rw [if_pos (by decide +kernel)]; kernel_rfl) | (rw [if_neg (by decide +kernel)]; exact ⟨rfl, rfl⟩))
    (fun os started H enc _ => lifted os started H enc)
/-- The statement. -/
theorem proved : Rows.MemoryBytesSaid := over
#print axioms proved
end Go.Proofs.Ytmggichckhoomaa.memoryBytes
