/-
  Proved here: whatever is stored in a memory, its bytes are then the number's, no other byte changes, and what is refused changes none, by the code of memory; and the example of the chapter stands. No condition.
-/
import Derived.Test.YtmggichckhoomaaMz
import Derived.Deep.QuietTactic
namespace Go.Proofs.Ytmggichckhoomaa.memoryKeeps
open Go.ChangeShapes Go.WideShapes Go.ChangeAt Go.RowKit
set_option linter.unusedVariables false
set_option linter.unusedSimpArgs false
theorem _root_.Go.Proofs.Ytmggichckhoomaa.Src.nb {w w' : World} {A : Option Addr} {xs : By} (h : Src w A xs) (hb : Below w.heap.size w w') : Src w' A xs := by
  intro h0
  obtain ⟨ad, hA, hc⟩ := h h0
  exact ⟨ad, hA, fun j v hv => (hb.cell (World.block_lt_of_cell? w _ (hc j v hv))).trans (hc j v hv)⟩
theorem src_take {w : World} {A : Option Addr} {xs : By} (h : Src w A xs) (m : Nat) : Src w A (xs.take m) := by
  intro h0
  obtain ⟨ad, hA, hc⟩ := h (by simp at h0; omega)
  refine ⟨ad, hA, fun j v hv => hc j v ?_⟩
  unfold Lib.byteCells at hv ⊢
  rw [List.map_take, List.getElem?_take] at hv
  split at hv
  · exact hv
  · cases hv
theorem put_take (p b : Nat) (bs xs : By) (m : Nat) (A : Option Addr) (cap : Nat) (hm : m ≤ xs.length) (hb : m ≤ bs.length) (hl : bs.length ≤ 16777216) (w : World) (hM : Mem 37 w p b bs) (hS : Src w A xs) :
    Calls Try.prog 8 #[.pointer (some ⟨p, 0, none⟩), .int .u64 0, .slice A m cap] w fun e w' => e = .returned (.int .i64 0) ∧ ∃ bs', bs'.length = bs.length ∧ Mem 37 w' p b bs' ∧ w.grownBy w' (some b) := by
  have hl' : (xs.take m).length = m := by simp; omega
  have h := put_ok p b bs (xs.take m) 0 A cap (by omega) hl w hM (src_take hS m)
  rw [hl'] at h
  exact h.mono fun e w' ⟨h1, h2, h3⟩ => ⟨h1, _, lay_len _ _ _ (by omega), h2, h3⟩
theorem keep_out (bs : By) (at_ s v : Int) (i : Nat) (a0 : 0 ≤ at_) (h : flt bs.length at_ s ≠ 0 ∨ (i : Int) < at_ ∨ at_ + s ≤ i) : (stB bs at_ s v)[i]? = bs[i]? := by
  unfold stB
  split
  · rename_i h0
    obtain ⟨h1, h2, h3⟩ := flt_ok h0
    rw [lay_get _ _ _ (by rw [leB_len]; omega), leB_len, if_neg (by omega)]
  · rfl
theorem keep_in (bs : By) (at_ s v : Int) (i : Nat) (a0 : 0 ≤ at_) (h : flt bs.length at_ s = 0) (h1 : at_ ≤ i) (h2 : (i : Int) < at_ + s) : (stB bs at_ s v)[i]? = some (UInt8.ofNat (v.toNat / 256 ^ (i - at_.toNat) % 256)) := by
  unfold stB
  rw [if_pos h]
  obtain ⟨q1, q2, q3⟩ := flt_ok h
  rw [lay_get _ _ _ (by rw [leB_len]; omega), leB_len, if_pos (by omega), leB_get _ _ _ (by omega)]
theorem cell_byte {w : World} {g : Nat} {bs : By} (h : w.heap[g]? = some (.cells (Lib.byteCells bs).toArray 5 (0, 0))) (k : Nat) (c : UInt8) (hk : bs[k]? = some c) : w.cell? ⟨g, k, none⟩ = some (.int .u8 (c.toNat : Int)) := by
  rw [cell_of_row _ _ k _ _ _ h]
  simp [Lib.byteCells, hk]
theorem below_drewN {B : Nat} {a w : World} (h : Below B a w) (n : Nat) : Below B a (w.drewN n) := ⟨h.os, h.tape, h.output, h.size, h.block⟩
theorem byte_at (at_ v : Int) (k j : Nat) (a0 : 0 ≤ at_) (h1 : (k : Int) - at_ = j) (v0 : 0 ≤ v) : IntKind.u8.wrap (v / 2 ^ (8 * j)) = ((UInt8.ofNat (v.toNat / 256 ^ (k - at_.toNat) % 256)).toNat : Int) := by
  obtain ⟨u, rfl⟩ : ∃ u : Nat, v = (u : Int) := ⟨v.toNat, by omega⟩
  rw [show k - at_.toNat = j by omega, byte_shr]
  rfl
set_option maxRecDepth 100000 in
set_option maxHeartbeats 4000000 in
theorem walk (n : Int) (A : Option Addr) (cap : Nat) (xs : By) (at_ s v o : Int) (hn : -9223372036854775808 ≤ n ∧ n < 9223372036854775808) (hl : xs.length ≤ 9223372036854775807) (hc : xs.length ≤ cap) (ha : 0 ≤ at_ ∧ at_ < 18446744073709551616) (hs : -9223372036854775808 ≤ s ∧ s < 9223372036854775808)
    (hv : 0 ≤ v ∧ v < 18446744073709551616) (ho : -9223372036854775808 ≤ o ∧ o < 9223372036854775808) (w : World) (hS : Hid (Src w A xs)) :
    Calls Try.prog 3 #[.int .i64 n, .slice A xs.length cap, .int .u64 at_, .int .i64 s, .int .u64 v, .int .i64 o] w fun e w' => e = .returned (.bool true) ∧ Below w.heap.size w w' := by
  obtain ⟨K, hK0, hK1, hK2⟩ : ∃ K : Nat, wrap64 (1 + wrap64 ((IntKind.u64.wrap n).tmod 200)) = (K : Int) ∧ 1 ≤ K ∧ K ≤ 200 := by
    have h0 : 0 ≤ IntKind.u64.wrap n := by rw [IntKind.wrap_u64]; omega
    rw [Int.tmod_eq_emod_of_nonneg h0]
    refine ⟨(1 + IntKind.u64.wrap n % 200).toNat, ?_, by omega, by omega⟩
    unfold wrap64
    omega
  have hK := Lib.hid hK0
  clear hK0
  by_cases h2 : (200 : Int) < (xs.length : Int)
  · go_enter Try.func3, Try.ntmps3
    go_wp2_with fail
    rw [hK.out]
    refine (new_any K (by omega) _).mono ?_
    rintro e w1 ⟨rfl, hM, hb, hz⟩
    clear hM hz
    go_wp2_with fail
    refine (mlives_any _).mono ?_
    rintro e w2 ⟨rfl, hn2⟩
    go_wp2_with fail
    go_ret
    exact ⟨rfl, hb.trans (hn2.mono hb.size)⟩
  go_enter Try.func3, Try.ntmps3
  go_wp2_with fail
  rw [hK.out]
  refine (new_any K (by omega) _).mono ?_
  rintro e w1 ⟨rfl, hM, hb, hz⟩
  have HP := Lib.hid fun m h1 h3 => put_take (w.heap.size + 1) w.heap.size (List.replicate K 0) xs m A cap h1 h3 (by simp; omega) w1 hM (hS.out.nb hb)
  clear hz hM hS
  go_wp2_with fail
  all_goals
    refine (HP.out _ (by omega) (by rw [List.length_replicate]; omega)).mono ?_
    rintro e w2 ⟨rfl, bs, hbl, hM, hg⟩
    rw [List.length_replicate] at hbl
    have hb2 := below_grown hb hg hb.size (Nat.le_refl _)
    have hz2 := Lib.hid hg.size
    have HB := Lib.hid (bytes_ok (w.heap.size + 1) w.heap.size bs 0 K (by omega) (by omega) w2 hM)
    have hM2 := Lib.hid hM
    have hbl' := Lib.hid hbl
    unfold BytesOk at HB
    rw [show (bs.drop 0).take K = bs from by rw [List.drop_zero, ← hbl]; exact List.take_length] at HB
    clear hM hbl hg HP
    go_wp2_with fail
    refine (HB.out).mono ?_
    rintro e w3 ⟨rfl, k3, hb3⟩
    have hM3 := Lib.hid (hM2.out.nb hb3)
    have hb4 := hb2.trans (hb3.mono hb2.size)
    have hlt := hM2.out.lt
    have HS := Lib.hid (store_any (w.heap.size + 1) w.heap.size bs at_ s v ha.1 ha.2 hv.1 (by rw [hbl'.out]; omega) w3 hM3.out)
    have hl2 := stB_len bs at_ s v ha.1
    rw [hbl'.out] at HS hl2
    have h0 := hM3.out.lt
    clear hM2 HB hb2
    go_wp2_with fail
    refine (HS.out).mono ?_
    rintro e w4 ⟨rfl, hM4, hg4⟩
    have k4 : w4.heap[w2.heap.size]? = some (.cells (Lib.byteCells bs).toArray 5 (0, 0)) := (hg4.block _ (lt_blk k3) (by intro e; injection e with e; omega)).trans k3
    have hb5 := below_grown hb4 hg4 hb4.size (Nat.le_refl _)
    have HB := Lib.hid (bytes_ok (w.heap.size + 1) w.heap.size (stB bs at_ s v) 0 K (by rw [hl2]; omega) (by rw [hl2]; omega) w4 hM4)
    unfold BytesOk at HB
    rw [show ((stB bs at_ s v).drop 0).take K = stB bs at_ s v from by rw [List.drop_zero, ← hl2]; exact List.take_length] at HB
    have hbl2 := Lib.hid hl2
    clear HS hM3 hM4 hg4 k3 hb4 hb3 hl2
    go_wp2_with fail
    refine (HB.out).mono ?_
    rintro e w5 ⟨rfl, k5, hb5'⟩
    have k6 : w5.heap[w2.heap.size]? = some (.cells (Lib.byteCells bs).toArray 5 (0, 0)) := (hb5'.block _ (lt_blk k4)).trans k4
    have hb6 := hb5.trans (hb5'.mono hb5.size)
    have K5 := Lib.hid k5
    have K6 := Lib.hid k6
    clear HB k4 k5 k6 hb5 hb5'
    go_wp2_with fail
    have hout := Lib.hid (fun (i : Nat) hh => keep_out bs at_ s v i ha.1 hh)
    have hin := Lib.hid (fun (i : Nat) h1 hh h3 => keep_in bs at_ s v i ha.1 h1 hh h3)
    rw [hbl'.out] at hout hin
    obtain ⟨cs, hcs⟩ : ∃ cs, stB bs at_ s v = cs := ⟨_, rfl⟩
    rw [hcs] at hout hin hbl2 K5
    obtain ⟨E, hE0⟩ : ∃ E, flt K at_ s = E := ⟨_, rfl⟩
    rw [hE0] at hout hin
    rw [hE0]
    have hE := Lib.hid hE0
    have hb6' := Lib.hid hb6
    clear hcs hE0 h0 hlt hz2 hb
    go_loopw [81] (fun i wr => ∃ k : Nat, k ≤ K ∧ i = .int .i64 k ∧ Hid (wr.heap[w4.heap.size]? = some (.cells (Lib.byteCells cs).toArray 5 (0, 0))) ∧ Hid (wr.heap[w2.heap.size]? = some (.cells (Lib.byteCells bs).toArray 5 (0, 0))) ∧ Hid (Below w.heap.size w wr)) (fun i _ => K - (intOf i).toNat)
    case atStart => exact ⟨0, Nat.zero_le _, rfl, K5, K6, hb6'⟩
    case round =>
      obtain ⟨k, hk, rfl, R5, R6, hbr⟩ := hrel
      clear K5 K6 hb6 hb6'
      by_cases hlt : k < K
      · obtain ⟨d, hd⟩ : ∃ d, bs[k]? = some d := ⟨_, List.getElem?_eq_getElem (by rw [hbl'.out]; exact hlt)⟩
        have cw := cell_byte R6.out k d hd
        by_cases hE1 : E = 0
        · obtain rfl := hE1
          obtain ⟨s1, s2, s3⟩ := flt_ok hE.out
          by_cases ho1 : (k : Int) < at_
          · have cn := cell_byte R5.out k d ((hout.out k (.inr (.inl ho1))).trans hd)
            clear hd
            go_wp2_with fail
            go_quiet (fail)
            go_wp2_with fail
            exact ⟨⟨k + 1, hlt, rfl, R5, R6, Lib.hid (below_drewN hbr.out _)⟩, by simp [intOf]; omega⟩
          · have ho2 : at_ ≤ (k : Int) := by omega
            clear ho1
            by_cases ho3 : (k : Int) - at_ < s
            · have hnow := hin.out k rfl ho2 (by omega)
              have cn := cell_byte R5.out k _ hnow
              obtain ⟨j, hj, hj8⟩ : ∃ j : Nat, (k : Int) - at_ = j ∧ j < 8 := ⟨((k : Int) - at_).toNat, by omega, by omega⟩
              have hjs : (j : Int) < s := by omega
              have hX := Lib.hid (byte_at at_ v k j ha.1 hj hv.1)
              rw [← hX.out] at cn
              clear hd hnow
              go_wp2_with fail
              have e1 : IntKind.u64.wrap ((k : Int) - at_) = (j : Int) := by rw [IntKind.wrap_u64]; omega
              have e2 : IntKind.u64.wrap (8 * (j : Int)) = 8 * (j : Int) := by rw [IntKind.wrap_u64]; omega
              have e3 : IntKind.u64.wrap (k : Int) = (k : Int) := by rw [IntKind.wrap_u64]; omega
              have hj' := Lib.hid hj
              clear hj
              go_quiet (fail)
              go_wp2_with fail
              exact ⟨⟨k + 1, hlt, rfl, R5, R6, Lib.hid (below_drewN hbr.out _)⟩, by simp [intOf]; omega⟩
            · have cn := cell_byte R5.out k d ((hout.out k (.inr (.inr (by omega)))).trans hd)
              clear hd
              go_wp2_with fail
              go_quiet (fail)
              go_wp2_with fail
              exact ⟨⟨k + 1, hlt, rfl, R5, R6, Lib.hid (below_drewN hbr.out _)⟩, by simp [intOf]; omega⟩
        · have hE2 : (E == 0) = false := beq_eq_false_iff_ne.2 hE1
          have cn := cell_byte R5.out k d ((hout.out k (.inl hE1)).trans hd)
          clear hd hE1
          go_wp2_with fail
          go_quiet (fail)
          go_wp2_with fail
          exact ⟨⟨k + 1, hlt, rfl, R5, R6, Lib.hid (below_drewN hbr.out _)⟩, by simp [intOf]; omega⟩
      · obtain rfl : k = K := by omega
        clear hk hlt
        go_wp2_with fail
        refine (mlives_any _).mono ?_
        rintro e w9 ⟨rfl, hn9⟩
        go_wp2_with fail
        go_ret
        exact ⟨rfl, hbr.out.trans (hn9.mono hbr.out.size)⟩
/-! The row's step. -/
set_option maxRecDepth 100000 in
set_option maxHeartbeats 1000000 in
theorem lifted (os : Os) (started : os.Started) (H : Type) (enc : TypeId × Value → H) :
    ReturnsInHanded {} Try.checked os 3 .any (Rows.memoryKeepsSpec.pre6 enc Try.prog Try.f3 Rows.memoryKeepsRow.domain false)
      (Rows.memoryKeepsSpec.post enc Try.prog Try.f3 false true false false) := by
  refine returnsInHanded_of_change (C := Try.checked) own started (by kernel_rfl) Try.func3
    (ChangeSpec.witness6 (enc := enc) (C := Try.checked) false ⟨#[], #[.int .i64 0, .slice none 0 0, .int .u64 0, .int .i64 0, .int .u64 0, .int .i64 0], []⟩ 8 (by kernel_rfl) (by kernel_rfl) (by kernel_rfl) (by kernel_rfl)) ?_
  intro W base args ds gs before hval0 hW _ _
  have hval : ∀ (j : Nat) t v, Try.f3.params[j]? = some t → args[j]? = some v → Value.okWide Try.prog W .any base t v := hval0
  have hW' := hW
  obtain ⟨p, q, hA0, hV, rfl, hfz, hnd⟩ := hW
  have hA1 : DataW.TrodAll enc Try.prog W 0 (fun _ => true) true Try.f3.params.toList args.toList ds p := hA0
  have hA := hA1
  rw [Try.params3] at hA hval
  obtain ⟨v0, vs0, d0, ds0, p0, q0, hargs0, rfl, -, h0, r0⟩ := trodAll_cons hA
  obtain ⟨v1, vs1, d1, ds1, p1, q1, hargs1, rfl, -, h1, r1⟩ := trodAll_cons r0
  obtain ⟨v2, vs2, d2, ds2, p2, q2, hargs2, rfl, -, h2, r2⟩ := trodAll_cons r1
  obtain ⟨v3, vs3, d3, ds3, p3, q3, hargs3, rfl, -, h3, r3⟩ := trodAll_cons r2
  obtain ⟨v4, vs4, d4, ds4, p4, q4, hargs4, rfl, -, h4, r4⟩ := trodAll_cons r3
  obtain ⟨v5, vs5, d5, ds5, p5, q5, hargs5, rfl, -, h5, r5⟩ := trodAll_cons r4
  obtain ⟨rfl, rfl, -⟩ := trodAll_nil r5
  obtain rfl : args = #[v0, v1, v2, v3, v4, v5] := by cases args; simp_all
  obtain ⟨rfl, rfl⟩ := trodVars_none hV
  obtain ⟨n0, rfl, -, -, w0⟩ := open_int Try.underlying3 (hval 0 3 v0 rfl rfl) h0
  obtain ⟨A1, cap1, bs1, rfl, hl1, hc1, hI1⟩ := open_bytes (hval 1 22 v1 rfl rfl) h1
  obtain ⟨n2, rfl, -, -, w2⟩ := open_int Try.underlying23 (hval 2 23 v2 rfl rfl) h2
  obtain ⟨n3, rfl, -, -, w3⟩ := open_int Try.underlying3 (hval 3 3 v3 rfl rfl) h3
  obtain ⟨n4, rfl, -, -, w4⟩ := open_int Try.underlying23 (hval 4 23 v4 rfl rfl) h4
  obtain ⟨n5, rfl, -, -, w5⟩ := open_int Try.underlying3 (hval 5 3 v5 rfl rfl) h5
  clear hval0
  simp only [List.append_nil] at hW'
  refine (walk n0 A1 cap1 bs1 n2 n3 n4 n5 (i64_of w0) hl1 hc1 (in_of w2) (i64_of w3) (in_of w4) (i64_of w5) W (Lib.hid hI1)).mono fun e W' ⟨he, hg⟩ => ?_
  subst he
  exact ⟨_, rfl, post_of_nb (pa := p) (pv := []) hW' (fun _ _ _ => (trodAll_cons_mk (shut_bool Try.underlying4 _) trodAll_mk0))
    (fun sp hsp => args_stay (by kernel_rfl) hg hA1 (fun t ht => by
      have h0 : (Try.f3.params.toList.all fun t => Try.prog.readableRec t && decide (t < Try.prog.types.size)) = true := by kernel_rfl
      have h1 := List.all_eq_true.1 h0 t ht
      rw [Bool.and_eq_true, decide_eq_true_eq] at h1
      exact h1) (fun x hx => hW'.lt x hx) hsp)
    (fun _ _ => rfl) (by simp) hg (ok_one (by kernel_rfl) rfl (okWide_bool_mk Try.underlying4 _))⟩
theorem over : Rows.memoryKeepsRow.holds Try.pinned (OpenSpec.ofChange Rows.memoryKeepsSpec) :=
  OpenClaim.holds_of_wide 3 Try.f3 rfl rfl rfl rfl rfl rfl rfl ⟨rfl, rfl, rfl, rfl, rfl⟩ rfl rfl rfl rfl rfl (by kernel_rfl) Try.func3 (by kernel_rfl)
    (of_decide_eq_true (by kernel_rfl)) (by unfold Func.isWrapper; first | (rw [if_pos (by decide +kernel)]; kernel_rfl) | (rw [if_neg (by decide +kernel)]; exact ⟨rfl, rfl⟩))
    (fun os started H enc _ => lifted os started H enc)
/-- The statement. -/
theorem proved : Rows.MemoryKeepsSaid := over
#print axioms proved
end Go.Proofs.Ytmggichckhoomaa.memoryKeeps
